/-
  THE WALK of the law Mirrored. Own text of the verifier.
-/
import Derived.Test.YtjebhbopmfcopaaBun15
import Derived.Test.YtjebhbopmfcopaaBun17
import Derived.Test.YtjebhbopmfcopaaXKpApart
namespace Go.Proofs.Ytjebhbopmfcopaa
open Go.RowKit

set_option maxRecDepth 100000 in
set_option maxHeartbeats 3200000 in
theorem mirrored_any (w : World) (tv xv : Value) (ts : List ByteArray) (s : ByteArray) (rs : List Int) (x0 x1 x2 x3 b : Int) (r : ByteArray) (whole : Bool) (hT : Kp.Txs w tv ts) (hs : s.size ≤ maxLen) (hXI : Kp.Ints w xv rs) (h0 : Kp.i64 x0) (h1 : Kp.i64 x1) (h2 : Kp.i64 x2) (h3 : Kp.i64 x3) (h4 : Kp.i64 b) (hr : r.size ≤ 140737488355327) :
    Calls Try.prog 6 #[tv, .string s, .agg #[.int .i64 x0, .int .i64 x1, .int .i64 x2, .int .i64 x3, .string r, xv], .bool whole, .int .i64 b] w fun e w' => e = .returned (.bool true) ∧ Below w.heap.size w w' := by
  obtain ⟨va, vc, hv⟩ := hT.form
  subst hv
  obtain ⟨xa, xc, hxv⟩ := hXI.form
  subst hxv
  have HT : Hid (∀ o, Kp.Txs (w.alloc o) (.slice va ts.length vc) ts) := fun o => hT.mono ((Below.refl _ _).alloc (Nat.le_refl _) o)
  have HXI : Hid (∀ W, Below w.heap.size w W → Kp.Ints W (.slice xa rs.length xc) rs) := fun W hb => hXI.mono hb
  obtain ⟨k, hk, hkv⟩ := pickV_in b 4 (by omega)
  have HPK : Hid (∀ W : World, Calls Try.prog 18 #[.int .i64 b, .int .i64 4] W fun e w' => e = .returned (.int .i64 (k : Int)) ∧ w' = W) := fun W => by
    have := kpick_any b 4 W h4.1 h4.2 (by omega) (by omega)
    rw [hkv] at this
    exact this
  have HI0 : Hid _ := h0
  have HI1 : Hid _ := h1
  have HI2 : Hid _ := h2
  have HI3 : Hid _ := h3
  clear hT hXI hkv h0 h1 h2 h3 h4
  go_enter Try.func6, Try.ntmps6
  go_wp2_with fail
  refine (kreference_any ts _ _ (HT.out _)).mono ?_
  rintro e w1 ⟨cs, g, cc, rfl, hg1, hg2, hpos, hR, hsrc, hb1⟩
  have HR : Hid _ := hR
  have HSRC : Hid _ := hsrc
  have HB1 : Hid _ := hb1
  clear hR hsrc hb1 HT
  go_wp2_with fail
  refine (kopen_any cs g cc _ HR.out hpos HSRC.out).mono ?_
  rintro e w2 ⟨bx, rfl, HIX, hb2⟩
  obtain ⟨B, hB⟩ : ∃ B, B = w1.heap.size := ⟨_, rfl⟩
  have HF : Hid (KpF w w2 #[.int .i64 x0, .int .i64 x1, .int .i64 x2, .int .i64 x3, .string r, .slice xa rs.length xc] cs g bx B) := by
    have hA : Below w.heap.size w (w.alloc (.cells #[.int .i64 x0, .int .i64 x1, .int .i64 x2, .int .i64 x3, .string r, .slice xa rs.length xc] 31)) := (Below.refl _ _).alloc (Nat.le_refl _) _
    have hs1 := HB1.out.size
    have hs2 := hb2.size
    rw [World.size_alloc] at hs1
    have hB2 := HB1.out.trans (hb2.mono (by rw [World.size_alloc]; omega))
    exact ⟨hA.trans (hB2.mono (by simp)), by omega, (hB2.block _ (by simp)).trans (heap_alloc_new w _), src_keep HSRC.out hb2, by rw [hB]; exact HIX.out, by omega⟩
  clear HB1 HSRC HIX hb2 hg1 hg2 hB
  have HLC : Hid (∀ W : World, Calls Try.prog 8 #[.string s, .int .i64 128] W fun e w' => ∃ t : List UInt8, e = .returned (.string ⟨t.toArray⟩) ∧ Hid (1 ≤ t.length ∧ t.length ≤ 128 ∧ Lt.allL t = true) ∧ Below W.heap.size W w') := fun W =>
    (letters_any s 128 W hs (by omega) (by omega)).mono fun e w' ⟨t, h1, h2, h3, h4, h5⟩ => ⟨t, h1, ⟨h3, by omega, h2⟩, h5⟩
  go_wp2_with fail
  refine (HLC.out _).mono ?_
  rintro e wl ⟨q, rfl, HQQ, hbl⟩
  have HFL : Hid _ := HF.out.mono hbl
  clear HF hbl HLC
  cases whole with
  | false =>
    have HFq : Hid (KpF w wl #[.int .i64 x0, .int .i64 x1, .int .i64 x2, .int .i64 x3, .string r, .slice xa rs.length xc] cs g bx B) := HFL.out
    clear HFL HXI HI0 HI1 HI2 HI3
    have HQL : Hid (1 ≤ q.length ∧ q.length ≤ 128 ∧ Lt.allL q = true) := HQQ.out
    have hq128 : q.length ≤ 128 := HQL.out.2.1
    have HAL : Hid (∀ (W : World) (y : List UInt8), Below wl.heap.size wl W → 1 ≤ y.length → y.length ≤ 128 → Lt.allL y = true → Calls Try.prog 16 #[.slice (some ⟨g, 0, none⟩) cs.length cc, .pointer (some ⟨bx, 0, none⟩), .agg #[.string ⟨#[114]⟩, .string ⟨y.toArray⟩], .int .i64 (k : Int)] W fun e w' => e = .returned (.tuple #[.agg (Rc.vals (Al.upto [114] y (k : Int) cs 4).best), .int .i64 0]) ∧ Below W.heap.size W w') := fun W y hb h1 h2 h3 => Kp.align (HFq.out.mono hb) HR.out hpos y (k : Int) cc (by omega) (by omega) h3 h1 h2
    have HTU : Hid (∀ W, Calls Try.prog 22 #[.string ⟨q.toArray⟩] W fun e w' => e = .returned (.string ⟨(Lt.rev q).toArray⟩) ∧ Below W.heap.size W w') := fun W => by
      have h := kturned_any ⟨q.toArray⟩ W (by rw [str_size]; omega)
      rw [show (⟨q.toArray⟩ : ByteArray).data.toList = q from by simp] at h
      exact h
    have HMI : Hid _ := Al.mirror [114] q (k : Int) cs
    have HON : Hid _ := Al.one (nm := [114]) (b := (k : Int)) (cs := cs) (r := q) hq128
    obtain ⟨Y, hY⟩ : ∃ Y, Y = Lt.rev q := ⟨_, rfl⟩
    rw [← hY] at HTU HMI
    have HYL : Hid (1 ≤ Y.length ∧ Y.length ≤ 128 ∧ Lt.allL Y = true) := ⟨by rw [hY, Lt.rev_length]; exact HQL.out.1, by rw [hY, Lt.rev_length]; exact HQL.out.2.1, by rw [hY]; exact Lt.rev_allL HQL.out.2.2⟩
    obtain ⟨R1, hR1⟩ : ∃ R1, R1 = (Al.upto [114] q (k : Int) cs 4).best := ⟨_, rfl⟩
    obtain ⟨R2, hR2⟩ : ∃ R2, R2 = (Al.upto [114] Y (k : Int) cs 4).best := ⟨_, rfl⟩
    have HA1 : Hid (∀ W, Below wl.heap.size wl W → Calls Try.prog 16 #[.slice (some ⟨g, 0, none⟩) cs.length cc, .pointer (some ⟨bx, 0, none⟩), .agg #[.string ⟨#[114]⟩, .string ⟨q.toArray⟩], .int .i64 (k : Int)] W fun e w' => e = .returned (.tuple #[.agg R1.vals, .int .i64 0]) ∧ Below W.heap.size W w') := fun W hb => by rw [hR1]; exact HAL.out W q hb HQL.out.1 HQL.out.2.1 HQL.out.2.2
    have HA2 : Hid (∀ W, Below wl.heap.size wl W → Calls Try.prog 16 #[.slice (some ⟨g, 0, none⟩) cs.length cc, .pointer (some ⟨bx, 0, none⟩), .agg #[.string ⟨#[114]⟩, .string ⟨Y.toArray⟩], .int .i64 (k : Int)] W fun e w' => e = .returned (.tuple #[.agg R2.vals, .int .i64 0]) ∧ Below W.heap.size W w') := fun W hb => by rw [hR2]; exact HAL.out W Y hb HYL.out.1 HYL.out.2.1 HYL.out.2.2
    have HRR : Hid (R2 = Al.turnR R1) := by show _ = _; rw [hR2, HMI.out, hR1]; rfl
    have HO1 : Hid (R1 = Pa.unm [114] ∨ R1 = Pa.amb [114] ∨ ∃ x z, R1 = Pa.rec [114] x z ∧ Lt.strandB x.n = true) := by
      rcases HON.out with h | h | ⟨x, z, h, h2, _⟩
      · exact .inl (hR1.trans h)
      · exact .inr (.inl (hR1.trans h))
      · exact .inr (.inr ⟨x, z, hR1.trans h, h2.strand⟩)
    clear HAL HMI HON HYL hR1 hR2 hY HQL HQQ
    go_wp2_with fail
    refine (HPK.out _).mono ?_
    rintro e w' ⟨rfl, hw⟩
    subst w'
    rcases HO1.out with h | h | ⟨x, z, h, hst⟩
    · skip
      have hE : R2 = Al.turnR R1 := HRR.out
      rw [h] at hE
      have v1 : R1.vals = #[.string ⟨#[114]⟩, .int .i64 0, .int .i64 0, .string ⟨#[]⟩, .int .i64 0, .int .i64 0, .string ⟨#[]⟩, .string ⟨#[]⟩] := by rw [h]; rfl
      have v2 : R2.vals = #[.string ⟨#[114]⟩, .int .i64 0, .int .i64 0, .string ⟨#[]⟩, .int .i64 0, .int .i64 0, .string ⟨#[]⟩, .string ⟨#[]⟩] := by rw [hE]; rfl
      rw [v1] at HA1
      rw [v2] at HA2
      clear v1 v2 hE h HO1 HRR
      go_wp2_with fail
      refine (HA1.out _ (by exact Below.refl _ _)).mono ?_
      rintro e w7 ⟨rfl, hb7⟩
      have HBS : Hid (wl.heap.size ≤ w7.heap.size) := hb7.size
      have HB7 : Hid (Below wl.heap.size wl (w7.alloc (.cells #[.string ⟨#[114]⟩, .int .i64 0, .int .i64 0, .string ⟨#[]⟩, .int .i64 0, .int .i64 0, .string ⟨#[]⟩, .string ⟨#[]⟩] 42))) := hb7.alloc hb7.size _
      have HC7 : Hid _ := heap_alloc_new w7 (.cells #[.string ⟨#[114]⟩, .int .i64 0, .int .i64 0, .string ⟨#[]⟩, .int .i64 0, .int .i64 0, .string ⟨#[]⟩, .string ⟨#[]⟩] 42)
      clear hb7 HA1
      go_wp2_with fail
      refine (HTU.out _).mono ?_
      rintro e w8 ⟨rfl, hb8⟩
      have HB8 : Hid (Below wl.heap.size wl w8) := HB7.out.trans (hb8.mono HB7.out.size)
      go_wp2_with fail
      refine (HA2.out _ (by exact HB8.out)).mono ?_
      rintro e w9 ⟨rfl, hb9⟩
      have hc8 : w8.heap[w7.heap.size]? = some (.cells #[.string ⟨#[114]⟩, .int .i64 0, .int .i64 0, .string ⟨#[]⟩, .int .i64 0, .int .i64 0, .string ⟨#[]⟩, .string ⟨#[]⟩] 42 (0, 0)) := (hb8.block _ (by simp)).trans HC7.out
      generalize hga : w7.heap.size = ga at *
      have hl8 : ga < w8.heap.size := (Array.getElem?_eq_some_iff.1 hc8).1
      have hc9 : w9.heap[ga]? = some (.cells #[.string ⟨#[114]⟩, .int .i64 0, .int .i64 0, .string ⟨#[]⟩, .int .i64 0, .int .i64 0, .string ⟨#[]⟩, .string ⟨#[]⟩] 42 (0, 0)) := (hb9.block _ hl8).trans hc8
      have hl9 : ga < w9.heap.size := (Array.getElem?_eq_some_iff.1 hc9).1
      have hcA : (w9.alloc (.cells #[.string ⟨#[114]⟩, .int .i64 0, .int .i64 0, .string ⟨#[]⟩, .int .i64 0, .int .i64 0, .string ⟨#[]⟩, .string ⟨#[]⟩] 42)).heap[ga]? = some (.cells #[.string ⟨#[114]⟩, .int .i64 0, .int .i64 0, .string ⟨#[]⟩, .int .i64 0, .int .i64 0, .string ⟨#[]⟩, .string ⟨#[]⟩] 42 (0, 0)) := (Below.heap_alloc _ _ _ hl9).trans hc9
      have hcB : (w9.alloc (.cells #[.string ⟨#[114]⟩, .int .i64 0, .int .i64 0, .string ⟨#[]⟩, .int .i64 0, .int .i64 0, .string ⟨#[]⟩, .string ⟨#[]⟩] 42)).heap[w9.heap.size]? = some (.cells #[.string ⟨#[114]⟩, .int .i64 0, .int .i64 0, .string ⟨#[]⟩, .int .i64 0, .int .i64 0, .string ⟨#[]⟩, .string ⟨#[]⟩] 42 (0, 0)) := heap_alloc_new w9 _
      have a0 : (w9.alloc (.cells #[.string ⟨#[114]⟩, .int .i64 0, .int .i64 0, .string ⟨#[]⟩, .int .i64 0, .int .i64 0, .string ⟨#[]⟩, .string ⟨#[]⟩] 42)).cell? ⟨ga, 0, none⟩ = some (.string ⟨#[114]⟩) := cell_of_row _ _ 0 _ _ _ hcA
      have b0 : (w9.alloc (.cells #[.string ⟨#[114]⟩, .int .i64 0, .int .i64 0, .string ⟨#[]⟩, .int .i64 0, .int .i64 0, .string ⟨#[]⟩, .string ⟨#[]⟩] 42)).cell? ⟨w9.heap.size, 0, none⟩ = some (.string ⟨#[114]⟩) := cell_of_row _ _ 0 _ _ _ hcB
      have a1 : (w9.alloc (.cells #[.string ⟨#[114]⟩, .int .i64 0, .int .i64 0, .string ⟨#[]⟩, .int .i64 0, .int .i64 0, .string ⟨#[]⟩, .string ⟨#[]⟩] 42)).cell? ⟨ga, 1, none⟩ = some (.int .i64 0) := cell_of_row _ _ 1 _ _ _ hcA
      have b1 : (w9.alloc (.cells #[.string ⟨#[114]⟩, .int .i64 0, .int .i64 0, .string ⟨#[]⟩, .int .i64 0, .int .i64 0, .string ⟨#[]⟩, .string ⟨#[]⟩] 42)).cell? ⟨w9.heap.size, 1, none⟩ = some (.int .i64 0) := cell_of_row _ _ 1 _ _ _ hcB
      have a2 : (w9.alloc (.cells #[.string ⟨#[114]⟩, .int .i64 0, .int .i64 0, .string ⟨#[]⟩, .int .i64 0, .int .i64 0, .string ⟨#[]⟩, .string ⟨#[]⟩] 42)).cell? ⟨ga, 2, none⟩ = some (.int .i64 0) := cell_of_row _ _ 2 _ _ _ hcA
      have b2 : (w9.alloc (.cells #[.string ⟨#[114]⟩, .int .i64 0, .int .i64 0, .string ⟨#[]⟩, .int .i64 0, .int .i64 0, .string ⟨#[]⟩, .string ⟨#[]⟩] 42)).cell? ⟨w9.heap.size, 2, none⟩ = some (.int .i64 0) := cell_of_row _ _ 2 _ _ _ hcB
      have a3 : (w9.alloc (.cells #[.string ⟨#[114]⟩, .int .i64 0, .int .i64 0, .string ⟨#[]⟩, .int .i64 0, .int .i64 0, .string ⟨#[]⟩, .string ⟨#[]⟩] 42)).cell? ⟨ga, 3, none⟩ = some (.string ⟨#[]⟩) := cell_of_row _ _ 3 _ _ _ hcA
      have b3 : (w9.alloc (.cells #[.string ⟨#[114]⟩, .int .i64 0, .int .i64 0, .string ⟨#[]⟩, .int .i64 0, .int .i64 0, .string ⟨#[]⟩, .string ⟨#[]⟩] 42)).cell? ⟨w9.heap.size, 3, none⟩ = some (.string ⟨#[]⟩) := cell_of_row _ _ 3 _ _ _ hcB
      have a4 : (w9.alloc (.cells #[.string ⟨#[114]⟩, .int .i64 0, .int .i64 0, .string ⟨#[]⟩, .int .i64 0, .int .i64 0, .string ⟨#[]⟩, .string ⟨#[]⟩] 42)).cell? ⟨ga, 4, none⟩ = some (.int .i64 0) := cell_of_row _ _ 4 _ _ _ hcA
      have b4 : (w9.alloc (.cells #[.string ⟨#[114]⟩, .int .i64 0, .int .i64 0, .string ⟨#[]⟩, .int .i64 0, .int .i64 0, .string ⟨#[]⟩, .string ⟨#[]⟩] 42)).cell? ⟨w9.heap.size, 4, none⟩ = some (.int .i64 0) := cell_of_row _ _ 4 _ _ _ hcB
      have a5 : (w9.alloc (.cells #[.string ⟨#[114]⟩, .int .i64 0, .int .i64 0, .string ⟨#[]⟩, .int .i64 0, .int .i64 0, .string ⟨#[]⟩, .string ⟨#[]⟩] 42)).cell? ⟨ga, 5, none⟩ = some (.int .i64 0) := cell_of_row _ _ 5 _ _ _ hcA
      have b5 : (w9.alloc (.cells #[.string ⟨#[114]⟩, .int .i64 0, .int .i64 0, .string ⟨#[]⟩, .int .i64 0, .int .i64 0, .string ⟨#[]⟩, .string ⟨#[]⟩] 42)).cell? ⟨w9.heap.size, 5, none⟩ = some (.int .i64 0) := cell_of_row _ _ 5 _ _ _ hcB
      have a6 : (w9.alloc (.cells #[.string ⟨#[114]⟩, .int .i64 0, .int .i64 0, .string ⟨#[]⟩, .int .i64 0, .int .i64 0, .string ⟨#[]⟩, .string ⟨#[]⟩] 42)).cell? ⟨ga, 6, none⟩ = some (.string ⟨#[]⟩) := cell_of_row _ _ 6 _ _ _ hcA
      have b6 : (w9.alloc (.cells #[.string ⟨#[114]⟩, .int .i64 0, .int .i64 0, .string ⟨#[]⟩, .int .i64 0, .int .i64 0, .string ⟨#[]⟩, .string ⟨#[]⟩] 42)).cell? ⟨w9.heap.size, 6, none⟩ = some (.string ⟨#[]⟩) := cell_of_row _ _ 6 _ _ _ hcB
      have a7 : (w9.alloc (.cells #[.string ⟨#[114]⟩, .int .i64 0, .int .i64 0, .string ⟨#[]⟩, .int .i64 0, .int .i64 0, .string ⟨#[]⟩, .string ⟨#[]⟩] 42)).cell? ⟨ga, 7, none⟩ = some (.string ⟨#[]⟩) := cell_of_row _ _ 7 _ _ _ hcA
      have b7 : (w9.alloc (.cells #[.string ⟨#[114]⟩, .int .i64 0, .int .i64 0, .string ⟨#[]⟩, .int .i64 0, .int .i64 0, .string ⟨#[]⟩, .string ⟨#[]⟩] 42)).cell? ⟨w9.heap.size, 7, none⟩ = some (.string ⟨#[]⟩) := cell_of_row _ _ 7 _ _ _ hcB
      have f2 : (w9.alloc (.cells #[.string ⟨#[114]⟩, .int .i64 0, .int .i64 0, .string ⟨#[]⟩, .int .i64 0, .int .i64 0, .string ⟨#[]⟩, .string ⟨#[]⟩] 42)).frozen? ⟨ga, 2, none⟩ = false := frozen_of_row _ _ 2 _ _ hcA
      have hne : ga ≠ w9.heap.size := by omega
      have hne' : w9.heap.size ≠ ga := by omega
      have HBZ : Hid (Below w.heap.size w (w9.alloc (.cells #[.string ⟨#[114]⟩, .int .i64 0, .int .i64 0, .string ⟨#[]⟩, .int .i64 0, .int .i64 0, .string ⟨#[]⟩, .string ⟨#[]⟩] 42))) := by
        have h1 := HB8.out.trans (hb9.mono HB8.out.size)
        exact ((HFq.out.mono h1).alloc _).below
      have hgw : w.heap.size ≤ ga := by have h1 := HFq.out.lt; have h2 := HBS.out; omega
      have heq := Kp.eql_rec
      clear hb8 hb9 hc8 hc9 hl8 hcA hcB HA2 HTU HC7 HB7 HB8 hga
      go_wp2
      go_ret
      exact ⟨rfl, HBZ.out⟩
    · skip
      have hE : R2 = Al.turnR R1 := HRR.out
      rw [h] at hE
      have v1 : R1.vals = #[.string ⟨#[114]⟩, .int .i64 2, .int .i64 0, .string ⟨#[]⟩, .int .i64 0, .int .i64 0, .string ⟨#[]⟩, .string ⟨#[]⟩] := by rw [h]; rfl
      have v2 : R2.vals = #[.string ⟨#[114]⟩, .int .i64 2, .int .i64 0, .string ⟨#[]⟩, .int .i64 0, .int .i64 0, .string ⟨#[]⟩, .string ⟨#[]⟩] := by rw [hE]; rfl
      rw [v1] at HA1
      rw [v2] at HA2
      clear v1 v2 hE h HO1 HRR
      go_wp2_with fail
      refine (HA1.out _ (by exact Below.refl _ _)).mono ?_
      rintro e w7 ⟨rfl, hb7⟩
      have HBS : Hid (wl.heap.size ≤ w7.heap.size) := hb7.size
      have HB7 : Hid (Below wl.heap.size wl (w7.alloc (.cells #[.string ⟨#[114]⟩, .int .i64 2, .int .i64 0, .string ⟨#[]⟩, .int .i64 0, .int .i64 0, .string ⟨#[]⟩, .string ⟨#[]⟩] 42))) := hb7.alloc hb7.size _
      have HC7 : Hid _ := heap_alloc_new w7 (.cells #[.string ⟨#[114]⟩, .int .i64 2, .int .i64 0, .string ⟨#[]⟩, .int .i64 0, .int .i64 0, .string ⟨#[]⟩, .string ⟨#[]⟩] 42)
      clear hb7 HA1
      go_wp2_with fail
      refine (HTU.out _).mono ?_
      rintro e w8 ⟨rfl, hb8⟩
      have HB8 : Hid (Below wl.heap.size wl w8) := HB7.out.trans (hb8.mono HB7.out.size)
      go_wp2_with fail
      refine (HA2.out _ (by exact HB8.out)).mono ?_
      rintro e w9 ⟨rfl, hb9⟩
      have hc8 : w8.heap[w7.heap.size]? = some (.cells #[.string ⟨#[114]⟩, .int .i64 2, .int .i64 0, .string ⟨#[]⟩, .int .i64 0, .int .i64 0, .string ⟨#[]⟩, .string ⟨#[]⟩] 42 (0, 0)) := (hb8.block _ (by simp)).trans HC7.out
      generalize hga : w7.heap.size = ga at *
      have hl8 : ga < w8.heap.size := (Array.getElem?_eq_some_iff.1 hc8).1
      have hc9 : w9.heap[ga]? = some (.cells #[.string ⟨#[114]⟩, .int .i64 2, .int .i64 0, .string ⟨#[]⟩, .int .i64 0, .int .i64 0, .string ⟨#[]⟩, .string ⟨#[]⟩] 42 (0, 0)) := (hb9.block _ hl8).trans hc8
      have hl9 : ga < w9.heap.size := (Array.getElem?_eq_some_iff.1 hc9).1
      have hcA : (w9.alloc (.cells #[.string ⟨#[114]⟩, .int .i64 2, .int .i64 0, .string ⟨#[]⟩, .int .i64 0, .int .i64 0, .string ⟨#[]⟩, .string ⟨#[]⟩] 42)).heap[ga]? = some (.cells #[.string ⟨#[114]⟩, .int .i64 2, .int .i64 0, .string ⟨#[]⟩, .int .i64 0, .int .i64 0, .string ⟨#[]⟩, .string ⟨#[]⟩] 42 (0, 0)) := (Below.heap_alloc _ _ _ hl9).trans hc9
      have hcB : (w9.alloc (.cells #[.string ⟨#[114]⟩, .int .i64 2, .int .i64 0, .string ⟨#[]⟩, .int .i64 0, .int .i64 0, .string ⟨#[]⟩, .string ⟨#[]⟩] 42)).heap[w9.heap.size]? = some (.cells #[.string ⟨#[114]⟩, .int .i64 2, .int .i64 0, .string ⟨#[]⟩, .int .i64 0, .int .i64 0, .string ⟨#[]⟩, .string ⟨#[]⟩] 42 (0, 0)) := heap_alloc_new w9 _
      have a0 : (w9.alloc (.cells #[.string ⟨#[114]⟩, .int .i64 2, .int .i64 0, .string ⟨#[]⟩, .int .i64 0, .int .i64 0, .string ⟨#[]⟩, .string ⟨#[]⟩] 42)).cell? ⟨ga, 0, none⟩ = some (.string ⟨#[114]⟩) := cell_of_row _ _ 0 _ _ _ hcA
      have b0 : (w9.alloc (.cells #[.string ⟨#[114]⟩, .int .i64 2, .int .i64 0, .string ⟨#[]⟩, .int .i64 0, .int .i64 0, .string ⟨#[]⟩, .string ⟨#[]⟩] 42)).cell? ⟨w9.heap.size, 0, none⟩ = some (.string ⟨#[114]⟩) := cell_of_row _ _ 0 _ _ _ hcB
      have a1 : (w9.alloc (.cells #[.string ⟨#[114]⟩, .int .i64 2, .int .i64 0, .string ⟨#[]⟩, .int .i64 0, .int .i64 0, .string ⟨#[]⟩, .string ⟨#[]⟩] 42)).cell? ⟨ga, 1, none⟩ = some (.int .i64 2) := cell_of_row _ _ 1 _ _ _ hcA
      have b1 : (w9.alloc (.cells #[.string ⟨#[114]⟩, .int .i64 2, .int .i64 0, .string ⟨#[]⟩, .int .i64 0, .int .i64 0, .string ⟨#[]⟩, .string ⟨#[]⟩] 42)).cell? ⟨w9.heap.size, 1, none⟩ = some (.int .i64 2) := cell_of_row _ _ 1 _ _ _ hcB
      have a2 : (w9.alloc (.cells #[.string ⟨#[114]⟩, .int .i64 2, .int .i64 0, .string ⟨#[]⟩, .int .i64 0, .int .i64 0, .string ⟨#[]⟩, .string ⟨#[]⟩] 42)).cell? ⟨ga, 2, none⟩ = some (.int .i64 0) := cell_of_row _ _ 2 _ _ _ hcA
      have b2 : (w9.alloc (.cells #[.string ⟨#[114]⟩, .int .i64 2, .int .i64 0, .string ⟨#[]⟩, .int .i64 0, .int .i64 0, .string ⟨#[]⟩, .string ⟨#[]⟩] 42)).cell? ⟨w9.heap.size, 2, none⟩ = some (.int .i64 0) := cell_of_row _ _ 2 _ _ _ hcB
      have a3 : (w9.alloc (.cells #[.string ⟨#[114]⟩, .int .i64 2, .int .i64 0, .string ⟨#[]⟩, .int .i64 0, .int .i64 0, .string ⟨#[]⟩, .string ⟨#[]⟩] 42)).cell? ⟨ga, 3, none⟩ = some (.string ⟨#[]⟩) := cell_of_row _ _ 3 _ _ _ hcA
      have b3 : (w9.alloc (.cells #[.string ⟨#[114]⟩, .int .i64 2, .int .i64 0, .string ⟨#[]⟩, .int .i64 0, .int .i64 0, .string ⟨#[]⟩, .string ⟨#[]⟩] 42)).cell? ⟨w9.heap.size, 3, none⟩ = some (.string ⟨#[]⟩) := cell_of_row _ _ 3 _ _ _ hcB
      have a4 : (w9.alloc (.cells #[.string ⟨#[114]⟩, .int .i64 2, .int .i64 0, .string ⟨#[]⟩, .int .i64 0, .int .i64 0, .string ⟨#[]⟩, .string ⟨#[]⟩] 42)).cell? ⟨ga, 4, none⟩ = some (.int .i64 0) := cell_of_row _ _ 4 _ _ _ hcA
      have b4 : (w9.alloc (.cells #[.string ⟨#[114]⟩, .int .i64 2, .int .i64 0, .string ⟨#[]⟩, .int .i64 0, .int .i64 0, .string ⟨#[]⟩, .string ⟨#[]⟩] 42)).cell? ⟨w9.heap.size, 4, none⟩ = some (.int .i64 0) := cell_of_row _ _ 4 _ _ _ hcB
      have a5 : (w9.alloc (.cells #[.string ⟨#[114]⟩, .int .i64 2, .int .i64 0, .string ⟨#[]⟩, .int .i64 0, .int .i64 0, .string ⟨#[]⟩, .string ⟨#[]⟩] 42)).cell? ⟨ga, 5, none⟩ = some (.int .i64 0) := cell_of_row _ _ 5 _ _ _ hcA
      have b5 : (w9.alloc (.cells #[.string ⟨#[114]⟩, .int .i64 2, .int .i64 0, .string ⟨#[]⟩, .int .i64 0, .int .i64 0, .string ⟨#[]⟩, .string ⟨#[]⟩] 42)).cell? ⟨w9.heap.size, 5, none⟩ = some (.int .i64 0) := cell_of_row _ _ 5 _ _ _ hcB
      have a6 : (w9.alloc (.cells #[.string ⟨#[114]⟩, .int .i64 2, .int .i64 0, .string ⟨#[]⟩, .int .i64 0, .int .i64 0, .string ⟨#[]⟩, .string ⟨#[]⟩] 42)).cell? ⟨ga, 6, none⟩ = some (.string ⟨#[]⟩) := cell_of_row _ _ 6 _ _ _ hcA
      have b6 : (w9.alloc (.cells #[.string ⟨#[114]⟩, .int .i64 2, .int .i64 0, .string ⟨#[]⟩, .int .i64 0, .int .i64 0, .string ⟨#[]⟩, .string ⟨#[]⟩] 42)).cell? ⟨w9.heap.size, 6, none⟩ = some (.string ⟨#[]⟩) := cell_of_row _ _ 6 _ _ _ hcB
      have a7 : (w9.alloc (.cells #[.string ⟨#[114]⟩, .int .i64 2, .int .i64 0, .string ⟨#[]⟩, .int .i64 0, .int .i64 0, .string ⟨#[]⟩, .string ⟨#[]⟩] 42)).cell? ⟨ga, 7, none⟩ = some (.string ⟨#[]⟩) := cell_of_row _ _ 7 _ _ _ hcA
      have b7 : (w9.alloc (.cells #[.string ⟨#[114]⟩, .int .i64 2, .int .i64 0, .string ⟨#[]⟩, .int .i64 0, .int .i64 0, .string ⟨#[]⟩, .string ⟨#[]⟩] 42)).cell? ⟨w9.heap.size, 7, none⟩ = some (.string ⟨#[]⟩) := cell_of_row _ _ 7 _ _ _ hcB
      have f2 : (w9.alloc (.cells #[.string ⟨#[114]⟩, .int .i64 2, .int .i64 0, .string ⟨#[]⟩, .int .i64 0, .int .i64 0, .string ⟨#[]⟩, .string ⟨#[]⟩] 42)).frozen? ⟨ga, 2, none⟩ = false := frozen_of_row _ _ 2 _ _ hcA
      have hne : ga ≠ w9.heap.size := by omega
      have hne' : w9.heap.size ≠ ga := by omega
      have HBZ : Hid (Below w.heap.size w (w9.alloc (.cells #[.string ⟨#[114]⟩, .int .i64 2, .int .i64 0, .string ⟨#[]⟩, .int .i64 0, .int .i64 0, .string ⟨#[]⟩, .string ⟨#[]⟩] 42))) := by
        have h1 := HB8.out.trans (hb9.mono HB8.out.size)
        exact ((HFq.out.mono h1).alloc _).below
      have hgw : w.heap.size ≤ ga := by have h1 := HFq.out.lt; have h2 := HBS.out; omega
      have heq := Kp.eql_rec
      clear hb8 hb9 hc8 hc9 hl8 hcA hcB HA2 HTU HC7 HB7 HB8 hga
      go_wp2
      go_ret
      exact ⟨rfl, HBZ.out⟩
    · obtain ⟨zn, zl⟩ := z
      obtain ⟨xn, xc0, xp, xs, xm⟩ := x
      obtain ⟨CL, hCL⟩ : ∃ CL, CL = Al.calls xn xs zl xp xs.length := ⟨_, rfl⟩
      have h9 : R1 = ⟨[114], 1, xn, zn, (xp : Int), (xm : Int), xs, CL⟩ := by rw [h, hCL]; rfl
      clear h hCL
      rcases Pa.strand_cases hst with e1 | e1 | e1 | e1
      · have h : xn = 1 := e1
        subst h
        have h := h9
        clear h9 e1 hst
        have hE : R2 = Al.turnR R1 := HRR.out
        rw [h] at hE
        have v1 : R1.vals = #[.string ⟨#[114]⟩, .int .i64 1, .int .i64 1, .string ⟨zn.toArray⟩, .int .i64 (xp : Int), .int .i64 (xm : Int), .string ⟨xs.toArray⟩, .string ⟨CL.toArray⟩] := by rw [h]; rfl
        have v2 : R2.vals = #[.string ⟨#[114]⟩, .int .i64 1, .int .i64 3, .string ⟨zn.toArray⟩, .int .i64 (xp : Int), .int .i64 (xm : Int), .string ⟨xs.toArray⟩, .string ⟨CL.toArray⟩] := by rw [hE]; rfl
        rw [v1] at HA1
        rw [v2] at HA2
        clear v1 v2 hE h HO1 HRR
        go_wp2_with fail
        refine (HA1.out _ (by exact Below.refl _ _)).mono ?_
        rintro e w7 ⟨rfl, hb7⟩
        have HBS : Hid (wl.heap.size ≤ w7.heap.size) := hb7.size
        have HB7 : Hid (Below wl.heap.size wl (w7.alloc (.cells #[.string ⟨#[114]⟩, .int .i64 1, .int .i64 1, .string ⟨zn.toArray⟩, .int .i64 (xp : Int), .int .i64 (xm : Int), .string ⟨xs.toArray⟩, .string ⟨CL.toArray⟩] 42))) := hb7.alloc hb7.size _
        have HC7 : Hid _ := heap_alloc_new w7 (.cells #[.string ⟨#[114]⟩, .int .i64 1, .int .i64 1, .string ⟨zn.toArray⟩, .int .i64 (xp : Int), .int .i64 (xm : Int), .string ⟨xs.toArray⟩, .string ⟨CL.toArray⟩] 42)
        clear hb7 HA1
        go_wp2_with fail
        refine (HTU.out _).mono ?_
        rintro e w8 ⟨rfl, hb8⟩
        have HB8 : Hid (Below wl.heap.size wl w8) := HB7.out.trans (hb8.mono HB7.out.size)
        go_wp2_with fail
        refine (HA2.out _ (by exact HB8.out)).mono ?_
        rintro e w9 ⟨rfl, hb9⟩
        have hc8 : w8.heap[w7.heap.size]? = some (.cells #[.string ⟨#[114]⟩, .int .i64 1, .int .i64 1, .string ⟨zn.toArray⟩, .int .i64 (xp : Int), .int .i64 (xm : Int), .string ⟨xs.toArray⟩, .string ⟨CL.toArray⟩] 42 (0, 0)) := (hb8.block _ (by simp)).trans HC7.out
        generalize hga : w7.heap.size = ga at *
        have hl8 : ga < w8.heap.size := (Array.getElem?_eq_some_iff.1 hc8).1
        have hc9 : w9.heap[ga]? = some (.cells #[.string ⟨#[114]⟩, .int .i64 1, .int .i64 1, .string ⟨zn.toArray⟩, .int .i64 (xp : Int), .int .i64 (xm : Int), .string ⟨xs.toArray⟩, .string ⟨CL.toArray⟩] 42 (0, 0)) := (hb9.block _ hl8).trans hc8
        have hl9 : ga < w9.heap.size := (Array.getElem?_eq_some_iff.1 hc9).1
        have hcA : (w9.alloc (.cells #[.string ⟨#[114]⟩, .int .i64 1, .int .i64 3, .string ⟨zn.toArray⟩, .int .i64 (xp : Int), .int .i64 (xm : Int), .string ⟨xs.toArray⟩, .string ⟨CL.toArray⟩] 42)).heap[ga]? = some (.cells #[.string ⟨#[114]⟩, .int .i64 1, .int .i64 1, .string ⟨zn.toArray⟩, .int .i64 (xp : Int), .int .i64 (xm : Int), .string ⟨xs.toArray⟩, .string ⟨CL.toArray⟩] 42 (0, 0)) := (Below.heap_alloc _ _ _ hl9).trans hc9
        have hcB : (w9.alloc (.cells #[.string ⟨#[114]⟩, .int .i64 1, .int .i64 3, .string ⟨zn.toArray⟩, .int .i64 (xp : Int), .int .i64 (xm : Int), .string ⟨xs.toArray⟩, .string ⟨CL.toArray⟩] 42)).heap[w9.heap.size]? = some (.cells #[.string ⟨#[114]⟩, .int .i64 1, .int .i64 3, .string ⟨zn.toArray⟩, .int .i64 (xp : Int), .int .i64 (xm : Int), .string ⟨xs.toArray⟩, .string ⟨CL.toArray⟩] 42 (0, 0)) := heap_alloc_new w9 _
        have a0 : (w9.alloc (.cells #[.string ⟨#[114]⟩, .int .i64 1, .int .i64 3, .string ⟨zn.toArray⟩, .int .i64 (xp : Int), .int .i64 (xm : Int), .string ⟨xs.toArray⟩, .string ⟨CL.toArray⟩] 42)).cell? ⟨ga, 0, none⟩ = some (.string ⟨#[114]⟩) := cell_of_row _ _ 0 _ _ _ hcA
        have b0 : (w9.alloc (.cells #[.string ⟨#[114]⟩, .int .i64 1, .int .i64 3, .string ⟨zn.toArray⟩, .int .i64 (xp : Int), .int .i64 (xm : Int), .string ⟨xs.toArray⟩, .string ⟨CL.toArray⟩] 42)).cell? ⟨w9.heap.size, 0, none⟩ = some (.string ⟨#[114]⟩) := cell_of_row _ _ 0 _ _ _ hcB
        have a1 : (w9.alloc (.cells #[.string ⟨#[114]⟩, .int .i64 1, .int .i64 3, .string ⟨zn.toArray⟩, .int .i64 (xp : Int), .int .i64 (xm : Int), .string ⟨xs.toArray⟩, .string ⟨CL.toArray⟩] 42)).cell? ⟨ga, 1, none⟩ = some (.int .i64 1) := cell_of_row _ _ 1 _ _ _ hcA
        have b1 : (w9.alloc (.cells #[.string ⟨#[114]⟩, .int .i64 1, .int .i64 3, .string ⟨zn.toArray⟩, .int .i64 (xp : Int), .int .i64 (xm : Int), .string ⟨xs.toArray⟩, .string ⟨CL.toArray⟩] 42)).cell? ⟨w9.heap.size, 1, none⟩ = some (.int .i64 1) := cell_of_row _ _ 1 _ _ _ hcB
        have a2 : (w9.alloc (.cells #[.string ⟨#[114]⟩, .int .i64 1, .int .i64 3, .string ⟨zn.toArray⟩, .int .i64 (xp : Int), .int .i64 (xm : Int), .string ⟨xs.toArray⟩, .string ⟨CL.toArray⟩] 42)).cell? ⟨ga, 2, none⟩ = some (.int .i64 1) := cell_of_row _ _ 2 _ _ _ hcA
        have b2 : (w9.alloc (.cells #[.string ⟨#[114]⟩, .int .i64 1, .int .i64 3, .string ⟨zn.toArray⟩, .int .i64 (xp : Int), .int .i64 (xm : Int), .string ⟨xs.toArray⟩, .string ⟨CL.toArray⟩] 42)).cell? ⟨w9.heap.size, 2, none⟩ = some (.int .i64 3) := cell_of_row _ _ 2 _ _ _ hcB
        have a3 : (w9.alloc (.cells #[.string ⟨#[114]⟩, .int .i64 1, .int .i64 3, .string ⟨zn.toArray⟩, .int .i64 (xp : Int), .int .i64 (xm : Int), .string ⟨xs.toArray⟩, .string ⟨CL.toArray⟩] 42)).cell? ⟨ga, 3, none⟩ = some (.string ⟨zn.toArray⟩) := cell_of_row _ _ 3 _ _ _ hcA
        have b3 : (w9.alloc (.cells #[.string ⟨#[114]⟩, .int .i64 1, .int .i64 3, .string ⟨zn.toArray⟩, .int .i64 (xp : Int), .int .i64 (xm : Int), .string ⟨xs.toArray⟩, .string ⟨CL.toArray⟩] 42)).cell? ⟨w9.heap.size, 3, none⟩ = some (.string ⟨zn.toArray⟩) := cell_of_row _ _ 3 _ _ _ hcB
        have a4 : (w9.alloc (.cells #[.string ⟨#[114]⟩, .int .i64 1, .int .i64 3, .string ⟨zn.toArray⟩, .int .i64 (xp : Int), .int .i64 (xm : Int), .string ⟨xs.toArray⟩, .string ⟨CL.toArray⟩] 42)).cell? ⟨ga, 4, none⟩ = some (.int .i64 (xp : Int)) := cell_of_row _ _ 4 _ _ _ hcA
        have b4 : (w9.alloc (.cells #[.string ⟨#[114]⟩, .int .i64 1, .int .i64 3, .string ⟨zn.toArray⟩, .int .i64 (xp : Int), .int .i64 (xm : Int), .string ⟨xs.toArray⟩, .string ⟨CL.toArray⟩] 42)).cell? ⟨w9.heap.size, 4, none⟩ = some (.int .i64 (xp : Int)) := cell_of_row _ _ 4 _ _ _ hcB
        have a5 : (w9.alloc (.cells #[.string ⟨#[114]⟩, .int .i64 1, .int .i64 3, .string ⟨zn.toArray⟩, .int .i64 (xp : Int), .int .i64 (xm : Int), .string ⟨xs.toArray⟩, .string ⟨CL.toArray⟩] 42)).cell? ⟨ga, 5, none⟩ = some (.int .i64 (xm : Int)) := cell_of_row _ _ 5 _ _ _ hcA
        have b5 : (w9.alloc (.cells #[.string ⟨#[114]⟩, .int .i64 1, .int .i64 3, .string ⟨zn.toArray⟩, .int .i64 (xp : Int), .int .i64 (xm : Int), .string ⟨xs.toArray⟩, .string ⟨CL.toArray⟩] 42)).cell? ⟨w9.heap.size, 5, none⟩ = some (.int .i64 (xm : Int)) := cell_of_row _ _ 5 _ _ _ hcB
        have a6 : (w9.alloc (.cells #[.string ⟨#[114]⟩, .int .i64 1, .int .i64 3, .string ⟨zn.toArray⟩, .int .i64 (xp : Int), .int .i64 (xm : Int), .string ⟨xs.toArray⟩, .string ⟨CL.toArray⟩] 42)).cell? ⟨ga, 6, none⟩ = some (.string ⟨xs.toArray⟩) := cell_of_row _ _ 6 _ _ _ hcA
        have b6 : (w9.alloc (.cells #[.string ⟨#[114]⟩, .int .i64 1, .int .i64 3, .string ⟨zn.toArray⟩, .int .i64 (xp : Int), .int .i64 (xm : Int), .string ⟨xs.toArray⟩, .string ⟨CL.toArray⟩] 42)).cell? ⟨w9.heap.size, 6, none⟩ = some (.string ⟨xs.toArray⟩) := cell_of_row _ _ 6 _ _ _ hcB
        have a7 : (w9.alloc (.cells #[.string ⟨#[114]⟩, .int .i64 1, .int .i64 3, .string ⟨zn.toArray⟩, .int .i64 (xp : Int), .int .i64 (xm : Int), .string ⟨xs.toArray⟩, .string ⟨CL.toArray⟩] 42)).cell? ⟨ga, 7, none⟩ = some (.string ⟨CL.toArray⟩) := cell_of_row _ _ 7 _ _ _ hcA
        have b7 : (w9.alloc (.cells #[.string ⟨#[114]⟩, .int .i64 1, .int .i64 3, .string ⟨zn.toArray⟩, .int .i64 (xp : Int), .int .i64 (xm : Int), .string ⟨xs.toArray⟩, .string ⟨CL.toArray⟩] 42)).cell? ⟨w9.heap.size, 7, none⟩ = some (.string ⟨CL.toArray⟩) := cell_of_row _ _ 7 _ _ _ hcB
        have f2 : (w9.alloc (.cells #[.string ⟨#[114]⟩, .int .i64 1, .int .i64 3, .string ⟨zn.toArray⟩, .int .i64 (xp : Int), .int .i64 (xm : Int), .string ⟨xs.toArray⟩, .string ⟨CL.toArray⟩] 42)).frozen? ⟨ga, 2, none⟩ = false := frozen_of_row _ _ 2 _ _ hcA
        have hne : ga ≠ w9.heap.size := by omega
        have hne' : w9.heap.size ≠ ga := by omega
        have HBZ : Hid (Below w.heap.size w (w9.alloc (.cells #[.string ⟨#[114]⟩, .int .i64 1, .int .i64 3, .string ⟨zn.toArray⟩, .int .i64 (xp : Int), .int .i64 (xm : Int), .string ⟨xs.toArray⟩, .string ⟨CL.toArray⟩] 42))) := by
          have h1 := HB8.out.trans (hb9.mono HB8.out.size)
          exact ((HFq.out.mono h1).alloc _).below
        have hgw : w.heap.size ≤ ga := by have h1 := HFq.out.lt; have h2 := HBS.out; omega
        have hsz9 : (w9.setCell ⟨ga, 2, none⟩ (.int .i64 3)).heap.size = w9.heap.size := by simp [World.setCell]
        have hcA2 : ((w9.setCell ⟨ga, 2, none⟩ (.int .i64 3)).alloc (.cells #[.string ⟨#[114]⟩, .int .i64 1, .int .i64 3, .string ⟨zn.toArray⟩, .int .i64 (xp : Int), .int .i64 (xm : Int), .string ⟨xs.toArray⟩, .string ⟨CL.toArray⟩] 42)).heap[ga]? = some (.cells #[.string ⟨#[114]⟩, .int .i64 1, .int .i64 3, .string ⟨zn.toArray⟩, .int .i64 (xp : Int), .int .i64 (xm : Int), .string ⟨xs.toArray⟩, .string ⟨CL.toArray⟩] 42 (0, 0)) := (Below.heap_alloc _ _ _ (by rw [hsz9]; exact hl9)).trans (heap_setCell_same _ ga 2 _ _ _ hc9)
        have hcB2 : ((w9.setCell ⟨ga, 2, none⟩ (.int .i64 3)).alloc (.cells #[.string ⟨#[114]⟩, .int .i64 1, .int .i64 3, .string ⟨zn.toArray⟩, .int .i64 (xp : Int), .int .i64 (xm : Int), .string ⟨xs.toArray⟩, .string ⟨CL.toArray⟩] 42)).heap[w9.heap.size]? = some (.cells #[.string ⟨#[114]⟩, .int .i64 1, .int .i64 3, .string ⟨zn.toArray⟩, .int .i64 (xp : Int), .int .i64 (xm : Int), .string ⟨xs.toArray⟩, .string ⟨CL.toArray⟩] 42 (0, 0)) := by have h := heap_alloc_new (w9.setCell ⟨ga, 2, none⟩ (.int .i64 3)) (.cells #[.string ⟨#[114]⟩, .int .i64 1, .int .i64 3, .string ⟨zn.toArray⟩, .int .i64 (xp : Int), .int .i64 (xm : Int), .string ⟨xs.toArray⟩, .string ⟨CL.toArray⟩] 42); rw [hsz9] at h; exact h
        have A0 : ((w9.setCell ⟨ga, 2, none⟩ (.int .i64 3)).alloc (.cells #[.string ⟨#[114]⟩, .int .i64 1, .int .i64 3, .string ⟨zn.toArray⟩, .int .i64 (xp : Int), .int .i64 (xm : Int), .string ⟨xs.toArray⟩, .string ⟨CL.toArray⟩] 42)).cell? ⟨ga, 0, none⟩ = some (.string ⟨#[114]⟩) := cell_of_row _ _ 0 _ _ _ hcA2
        have B0 : ((w9.setCell ⟨ga, 2, none⟩ (.int .i64 3)).alloc (.cells #[.string ⟨#[114]⟩, .int .i64 1, .int .i64 3, .string ⟨zn.toArray⟩, .int .i64 (xp : Int), .int .i64 (xm : Int), .string ⟨xs.toArray⟩, .string ⟨CL.toArray⟩] 42)).cell? ⟨w9.heap.size, 0, none⟩ = some (.string ⟨#[114]⟩) := cell_of_row _ _ 0 _ _ _ hcB2
        have A1 : ((w9.setCell ⟨ga, 2, none⟩ (.int .i64 3)).alloc (.cells #[.string ⟨#[114]⟩, .int .i64 1, .int .i64 3, .string ⟨zn.toArray⟩, .int .i64 (xp : Int), .int .i64 (xm : Int), .string ⟨xs.toArray⟩, .string ⟨CL.toArray⟩] 42)).cell? ⟨ga, 1, none⟩ = some (.int .i64 1) := cell_of_row _ _ 1 _ _ _ hcA2
        have B1 : ((w9.setCell ⟨ga, 2, none⟩ (.int .i64 3)).alloc (.cells #[.string ⟨#[114]⟩, .int .i64 1, .int .i64 3, .string ⟨zn.toArray⟩, .int .i64 (xp : Int), .int .i64 (xm : Int), .string ⟨xs.toArray⟩, .string ⟨CL.toArray⟩] 42)).cell? ⟨w9.heap.size, 1, none⟩ = some (.int .i64 1) := cell_of_row _ _ 1 _ _ _ hcB2
        have A2 : ((w9.setCell ⟨ga, 2, none⟩ (.int .i64 3)).alloc (.cells #[.string ⟨#[114]⟩, .int .i64 1, .int .i64 3, .string ⟨zn.toArray⟩, .int .i64 (xp : Int), .int .i64 (xm : Int), .string ⟨xs.toArray⟩, .string ⟨CL.toArray⟩] 42)).cell? ⟨ga, 2, none⟩ = some (.int .i64 3) := cell_of_row _ _ 2 _ _ _ hcA2
        have B2 : ((w9.setCell ⟨ga, 2, none⟩ (.int .i64 3)).alloc (.cells #[.string ⟨#[114]⟩, .int .i64 1, .int .i64 3, .string ⟨zn.toArray⟩, .int .i64 (xp : Int), .int .i64 (xm : Int), .string ⟨xs.toArray⟩, .string ⟨CL.toArray⟩] 42)).cell? ⟨w9.heap.size, 2, none⟩ = some (.int .i64 3) := cell_of_row _ _ 2 _ _ _ hcB2
        have A3 : ((w9.setCell ⟨ga, 2, none⟩ (.int .i64 3)).alloc (.cells #[.string ⟨#[114]⟩, .int .i64 1, .int .i64 3, .string ⟨zn.toArray⟩, .int .i64 (xp : Int), .int .i64 (xm : Int), .string ⟨xs.toArray⟩, .string ⟨CL.toArray⟩] 42)).cell? ⟨ga, 3, none⟩ = some (.string ⟨zn.toArray⟩) := cell_of_row _ _ 3 _ _ _ hcA2
        have B3 : ((w9.setCell ⟨ga, 2, none⟩ (.int .i64 3)).alloc (.cells #[.string ⟨#[114]⟩, .int .i64 1, .int .i64 3, .string ⟨zn.toArray⟩, .int .i64 (xp : Int), .int .i64 (xm : Int), .string ⟨xs.toArray⟩, .string ⟨CL.toArray⟩] 42)).cell? ⟨w9.heap.size, 3, none⟩ = some (.string ⟨zn.toArray⟩) := cell_of_row _ _ 3 _ _ _ hcB2
        have A4 : ((w9.setCell ⟨ga, 2, none⟩ (.int .i64 3)).alloc (.cells #[.string ⟨#[114]⟩, .int .i64 1, .int .i64 3, .string ⟨zn.toArray⟩, .int .i64 (xp : Int), .int .i64 (xm : Int), .string ⟨xs.toArray⟩, .string ⟨CL.toArray⟩] 42)).cell? ⟨ga, 4, none⟩ = some (.int .i64 (xp : Int)) := cell_of_row _ _ 4 _ _ _ hcA2
        have B4 : ((w9.setCell ⟨ga, 2, none⟩ (.int .i64 3)).alloc (.cells #[.string ⟨#[114]⟩, .int .i64 1, .int .i64 3, .string ⟨zn.toArray⟩, .int .i64 (xp : Int), .int .i64 (xm : Int), .string ⟨xs.toArray⟩, .string ⟨CL.toArray⟩] 42)).cell? ⟨w9.heap.size, 4, none⟩ = some (.int .i64 (xp : Int)) := cell_of_row _ _ 4 _ _ _ hcB2
        have A5 : ((w9.setCell ⟨ga, 2, none⟩ (.int .i64 3)).alloc (.cells #[.string ⟨#[114]⟩, .int .i64 1, .int .i64 3, .string ⟨zn.toArray⟩, .int .i64 (xp : Int), .int .i64 (xm : Int), .string ⟨xs.toArray⟩, .string ⟨CL.toArray⟩] 42)).cell? ⟨ga, 5, none⟩ = some (.int .i64 (xm : Int)) := cell_of_row _ _ 5 _ _ _ hcA2
        have B5 : ((w9.setCell ⟨ga, 2, none⟩ (.int .i64 3)).alloc (.cells #[.string ⟨#[114]⟩, .int .i64 1, .int .i64 3, .string ⟨zn.toArray⟩, .int .i64 (xp : Int), .int .i64 (xm : Int), .string ⟨xs.toArray⟩, .string ⟨CL.toArray⟩] 42)).cell? ⟨w9.heap.size, 5, none⟩ = some (.int .i64 (xm : Int)) := cell_of_row _ _ 5 _ _ _ hcB2
        have A6 : ((w9.setCell ⟨ga, 2, none⟩ (.int .i64 3)).alloc (.cells #[.string ⟨#[114]⟩, .int .i64 1, .int .i64 3, .string ⟨zn.toArray⟩, .int .i64 (xp : Int), .int .i64 (xm : Int), .string ⟨xs.toArray⟩, .string ⟨CL.toArray⟩] 42)).cell? ⟨ga, 6, none⟩ = some (.string ⟨xs.toArray⟩) := cell_of_row _ _ 6 _ _ _ hcA2
        have B6 : ((w9.setCell ⟨ga, 2, none⟩ (.int .i64 3)).alloc (.cells #[.string ⟨#[114]⟩, .int .i64 1, .int .i64 3, .string ⟨zn.toArray⟩, .int .i64 (xp : Int), .int .i64 (xm : Int), .string ⟨xs.toArray⟩, .string ⟨CL.toArray⟩] 42)).cell? ⟨w9.heap.size, 6, none⟩ = some (.string ⟨xs.toArray⟩) := cell_of_row _ _ 6 _ _ _ hcB2
        have A7 : ((w9.setCell ⟨ga, 2, none⟩ (.int .i64 3)).alloc (.cells #[.string ⟨#[114]⟩, .int .i64 1, .int .i64 3, .string ⟨zn.toArray⟩, .int .i64 (xp : Int), .int .i64 (xm : Int), .string ⟨xs.toArray⟩, .string ⟨CL.toArray⟩] 42)).cell? ⟨ga, 7, none⟩ = some (.string ⟨CL.toArray⟩) := cell_of_row _ _ 7 _ _ _ hcA2
        have B7 : ((w9.setCell ⟨ga, 2, none⟩ (.int .i64 3)).alloc (.cells #[.string ⟨#[114]⟩, .int .i64 1, .int .i64 3, .string ⟨zn.toArray⟩, .int .i64 (xp : Int), .int .i64 (xm : Int), .string ⟨xs.toArray⟩, .string ⟨CL.toArray⟩] 42)).cell? ⟨w9.heap.size, 7, none⟩ = some (.string ⟨CL.toArray⟩) := cell_of_row _ _ 7 _ _ _ hcB2
        have HBY : Hid (Below w.heap.size w ((w9.setCell ⟨ga, 2, none⟩ (.int .i64 3)).alloc (.cells #[.string ⟨#[114]⟩, .int .i64 1, .int .i64 3, .string ⟨zn.toArray⟩, .int .i64 (xp : Int), .int .i64 (xm : Int), .string ⟨xs.toArray⟩, .string ⟨CL.toArray⟩] 42))) := by
          have h1 := (HFq.out.mono (HB8.out.trans (hb9.mono HB8.out.size))).below
          exact (h1.setCell (p := ⟨ga, 2, none⟩) hgw _).alloc (by rw [hsz9]; exact h1.size) _
        clear hsz9
        clear hcA2 hcB2
        have heq := Kp.eql_rec
        clear hb8 hb9 hc8 hc9 hl8 hcA hcB HA2 HTU HC7 HB7 HB8 hga
        go_wp2_with (go_at_call 23; refine (kswapped_any _ _).mono ?_; rintro e w' ⟨rfl, hw⟩; subst w')
        go_ret
        exact ⟨rfl, HBY.out⟩
      · have h : xn = 2 := e1
        subst h
        have h := h9
        clear h9 e1 hst
        have hE : R2 = Al.turnR R1 := HRR.out
        rw [h] at hE
        have v1 : R1.vals = #[.string ⟨#[114]⟩, .int .i64 1, .int .i64 2, .string ⟨zn.toArray⟩, .int .i64 (xp : Int), .int .i64 (xm : Int), .string ⟨xs.toArray⟩, .string ⟨CL.toArray⟩] := by rw [h]; rfl
        have v2 : R2.vals = #[.string ⟨#[114]⟩, .int .i64 1, .int .i64 4, .string ⟨zn.toArray⟩, .int .i64 (xp : Int), .int .i64 (xm : Int), .string ⟨xs.toArray⟩, .string ⟨CL.toArray⟩] := by rw [hE]; rfl
        rw [v1] at HA1
        rw [v2] at HA2
        clear v1 v2 hE h HO1 HRR
        go_wp2_with fail
        refine (HA1.out _ (by exact Below.refl _ _)).mono ?_
        rintro e w7 ⟨rfl, hb7⟩
        have HBS : Hid (wl.heap.size ≤ w7.heap.size) := hb7.size
        have HB7 : Hid (Below wl.heap.size wl (w7.alloc (.cells #[.string ⟨#[114]⟩, .int .i64 1, .int .i64 2, .string ⟨zn.toArray⟩, .int .i64 (xp : Int), .int .i64 (xm : Int), .string ⟨xs.toArray⟩, .string ⟨CL.toArray⟩] 42))) := hb7.alloc hb7.size _
        have HC7 : Hid _ := heap_alloc_new w7 (.cells #[.string ⟨#[114]⟩, .int .i64 1, .int .i64 2, .string ⟨zn.toArray⟩, .int .i64 (xp : Int), .int .i64 (xm : Int), .string ⟨xs.toArray⟩, .string ⟨CL.toArray⟩] 42)
        clear hb7 HA1
        go_wp2_with fail
        refine (HTU.out _).mono ?_
        rintro e w8 ⟨rfl, hb8⟩
        have HB8 : Hid (Below wl.heap.size wl w8) := HB7.out.trans (hb8.mono HB7.out.size)
        go_wp2_with fail
        refine (HA2.out _ (by exact HB8.out)).mono ?_
        rintro e w9 ⟨rfl, hb9⟩
        have hc8 : w8.heap[w7.heap.size]? = some (.cells #[.string ⟨#[114]⟩, .int .i64 1, .int .i64 2, .string ⟨zn.toArray⟩, .int .i64 (xp : Int), .int .i64 (xm : Int), .string ⟨xs.toArray⟩, .string ⟨CL.toArray⟩] 42 (0, 0)) := (hb8.block _ (by simp)).trans HC7.out
        generalize hga : w7.heap.size = ga at *
        have hl8 : ga < w8.heap.size := (Array.getElem?_eq_some_iff.1 hc8).1
        have hc9 : w9.heap[ga]? = some (.cells #[.string ⟨#[114]⟩, .int .i64 1, .int .i64 2, .string ⟨zn.toArray⟩, .int .i64 (xp : Int), .int .i64 (xm : Int), .string ⟨xs.toArray⟩, .string ⟨CL.toArray⟩] 42 (0, 0)) := (hb9.block _ hl8).trans hc8
        have hl9 : ga < w9.heap.size := (Array.getElem?_eq_some_iff.1 hc9).1
        have hcA : (w9.alloc (.cells #[.string ⟨#[114]⟩, .int .i64 1, .int .i64 4, .string ⟨zn.toArray⟩, .int .i64 (xp : Int), .int .i64 (xm : Int), .string ⟨xs.toArray⟩, .string ⟨CL.toArray⟩] 42)).heap[ga]? = some (.cells #[.string ⟨#[114]⟩, .int .i64 1, .int .i64 2, .string ⟨zn.toArray⟩, .int .i64 (xp : Int), .int .i64 (xm : Int), .string ⟨xs.toArray⟩, .string ⟨CL.toArray⟩] 42 (0, 0)) := (Below.heap_alloc _ _ _ hl9).trans hc9
        have hcB : (w9.alloc (.cells #[.string ⟨#[114]⟩, .int .i64 1, .int .i64 4, .string ⟨zn.toArray⟩, .int .i64 (xp : Int), .int .i64 (xm : Int), .string ⟨xs.toArray⟩, .string ⟨CL.toArray⟩] 42)).heap[w9.heap.size]? = some (.cells #[.string ⟨#[114]⟩, .int .i64 1, .int .i64 4, .string ⟨zn.toArray⟩, .int .i64 (xp : Int), .int .i64 (xm : Int), .string ⟨xs.toArray⟩, .string ⟨CL.toArray⟩] 42 (0, 0)) := heap_alloc_new w9 _
        have a0 : (w9.alloc (.cells #[.string ⟨#[114]⟩, .int .i64 1, .int .i64 4, .string ⟨zn.toArray⟩, .int .i64 (xp : Int), .int .i64 (xm : Int), .string ⟨xs.toArray⟩, .string ⟨CL.toArray⟩] 42)).cell? ⟨ga, 0, none⟩ = some (.string ⟨#[114]⟩) := cell_of_row _ _ 0 _ _ _ hcA
        have b0 : (w9.alloc (.cells #[.string ⟨#[114]⟩, .int .i64 1, .int .i64 4, .string ⟨zn.toArray⟩, .int .i64 (xp : Int), .int .i64 (xm : Int), .string ⟨xs.toArray⟩, .string ⟨CL.toArray⟩] 42)).cell? ⟨w9.heap.size, 0, none⟩ = some (.string ⟨#[114]⟩) := cell_of_row _ _ 0 _ _ _ hcB
        have a1 : (w9.alloc (.cells #[.string ⟨#[114]⟩, .int .i64 1, .int .i64 4, .string ⟨zn.toArray⟩, .int .i64 (xp : Int), .int .i64 (xm : Int), .string ⟨xs.toArray⟩, .string ⟨CL.toArray⟩] 42)).cell? ⟨ga, 1, none⟩ = some (.int .i64 1) := cell_of_row _ _ 1 _ _ _ hcA
        have b1 : (w9.alloc (.cells #[.string ⟨#[114]⟩, .int .i64 1, .int .i64 4, .string ⟨zn.toArray⟩, .int .i64 (xp : Int), .int .i64 (xm : Int), .string ⟨xs.toArray⟩, .string ⟨CL.toArray⟩] 42)).cell? ⟨w9.heap.size, 1, none⟩ = some (.int .i64 1) := cell_of_row _ _ 1 _ _ _ hcB
        have a2 : (w9.alloc (.cells #[.string ⟨#[114]⟩, .int .i64 1, .int .i64 4, .string ⟨zn.toArray⟩, .int .i64 (xp : Int), .int .i64 (xm : Int), .string ⟨xs.toArray⟩, .string ⟨CL.toArray⟩] 42)).cell? ⟨ga, 2, none⟩ = some (.int .i64 2) := cell_of_row _ _ 2 _ _ _ hcA
        have b2 : (w9.alloc (.cells #[.string ⟨#[114]⟩, .int .i64 1, .int .i64 4, .string ⟨zn.toArray⟩, .int .i64 (xp : Int), .int .i64 (xm : Int), .string ⟨xs.toArray⟩, .string ⟨CL.toArray⟩] 42)).cell? ⟨w9.heap.size, 2, none⟩ = some (.int .i64 4) := cell_of_row _ _ 2 _ _ _ hcB
        have a3 : (w9.alloc (.cells #[.string ⟨#[114]⟩, .int .i64 1, .int .i64 4, .string ⟨zn.toArray⟩, .int .i64 (xp : Int), .int .i64 (xm : Int), .string ⟨xs.toArray⟩, .string ⟨CL.toArray⟩] 42)).cell? ⟨ga, 3, none⟩ = some (.string ⟨zn.toArray⟩) := cell_of_row _ _ 3 _ _ _ hcA
        have b3 : (w9.alloc (.cells #[.string ⟨#[114]⟩, .int .i64 1, .int .i64 4, .string ⟨zn.toArray⟩, .int .i64 (xp : Int), .int .i64 (xm : Int), .string ⟨xs.toArray⟩, .string ⟨CL.toArray⟩] 42)).cell? ⟨w9.heap.size, 3, none⟩ = some (.string ⟨zn.toArray⟩) := cell_of_row _ _ 3 _ _ _ hcB
        have a4 : (w9.alloc (.cells #[.string ⟨#[114]⟩, .int .i64 1, .int .i64 4, .string ⟨zn.toArray⟩, .int .i64 (xp : Int), .int .i64 (xm : Int), .string ⟨xs.toArray⟩, .string ⟨CL.toArray⟩] 42)).cell? ⟨ga, 4, none⟩ = some (.int .i64 (xp : Int)) := cell_of_row _ _ 4 _ _ _ hcA
        have b4 : (w9.alloc (.cells #[.string ⟨#[114]⟩, .int .i64 1, .int .i64 4, .string ⟨zn.toArray⟩, .int .i64 (xp : Int), .int .i64 (xm : Int), .string ⟨xs.toArray⟩, .string ⟨CL.toArray⟩] 42)).cell? ⟨w9.heap.size, 4, none⟩ = some (.int .i64 (xp : Int)) := cell_of_row _ _ 4 _ _ _ hcB
        have a5 : (w9.alloc (.cells #[.string ⟨#[114]⟩, .int .i64 1, .int .i64 4, .string ⟨zn.toArray⟩, .int .i64 (xp : Int), .int .i64 (xm : Int), .string ⟨xs.toArray⟩, .string ⟨CL.toArray⟩] 42)).cell? ⟨ga, 5, none⟩ = some (.int .i64 (xm : Int)) := cell_of_row _ _ 5 _ _ _ hcA
        have b5 : (w9.alloc (.cells #[.string ⟨#[114]⟩, .int .i64 1, .int .i64 4, .string ⟨zn.toArray⟩, .int .i64 (xp : Int), .int .i64 (xm : Int), .string ⟨xs.toArray⟩, .string ⟨CL.toArray⟩] 42)).cell? ⟨w9.heap.size, 5, none⟩ = some (.int .i64 (xm : Int)) := cell_of_row _ _ 5 _ _ _ hcB
        have a6 : (w9.alloc (.cells #[.string ⟨#[114]⟩, .int .i64 1, .int .i64 4, .string ⟨zn.toArray⟩, .int .i64 (xp : Int), .int .i64 (xm : Int), .string ⟨xs.toArray⟩, .string ⟨CL.toArray⟩] 42)).cell? ⟨ga, 6, none⟩ = some (.string ⟨xs.toArray⟩) := cell_of_row _ _ 6 _ _ _ hcA
        have b6 : (w9.alloc (.cells #[.string ⟨#[114]⟩, .int .i64 1, .int .i64 4, .string ⟨zn.toArray⟩, .int .i64 (xp : Int), .int .i64 (xm : Int), .string ⟨xs.toArray⟩, .string ⟨CL.toArray⟩] 42)).cell? ⟨w9.heap.size, 6, none⟩ = some (.string ⟨xs.toArray⟩) := cell_of_row _ _ 6 _ _ _ hcB
        have a7 : (w9.alloc (.cells #[.string ⟨#[114]⟩, .int .i64 1, .int .i64 4, .string ⟨zn.toArray⟩, .int .i64 (xp : Int), .int .i64 (xm : Int), .string ⟨xs.toArray⟩, .string ⟨CL.toArray⟩] 42)).cell? ⟨ga, 7, none⟩ = some (.string ⟨CL.toArray⟩) := cell_of_row _ _ 7 _ _ _ hcA
        have b7 : (w9.alloc (.cells #[.string ⟨#[114]⟩, .int .i64 1, .int .i64 4, .string ⟨zn.toArray⟩, .int .i64 (xp : Int), .int .i64 (xm : Int), .string ⟨xs.toArray⟩, .string ⟨CL.toArray⟩] 42)).cell? ⟨w9.heap.size, 7, none⟩ = some (.string ⟨CL.toArray⟩) := cell_of_row _ _ 7 _ _ _ hcB
        have f2 : (w9.alloc (.cells #[.string ⟨#[114]⟩, .int .i64 1, .int .i64 4, .string ⟨zn.toArray⟩, .int .i64 (xp : Int), .int .i64 (xm : Int), .string ⟨xs.toArray⟩, .string ⟨CL.toArray⟩] 42)).frozen? ⟨ga, 2, none⟩ = false := frozen_of_row _ _ 2 _ _ hcA
        have hne : ga ≠ w9.heap.size := by omega
        have hne' : w9.heap.size ≠ ga := by omega
        have HBZ : Hid (Below w.heap.size w (w9.alloc (.cells #[.string ⟨#[114]⟩, .int .i64 1, .int .i64 4, .string ⟨zn.toArray⟩, .int .i64 (xp : Int), .int .i64 (xm : Int), .string ⟨xs.toArray⟩, .string ⟨CL.toArray⟩] 42))) := by
          have h1 := HB8.out.trans (hb9.mono HB8.out.size)
          exact ((HFq.out.mono h1).alloc _).below
        have hgw : w.heap.size ≤ ga := by have h1 := HFq.out.lt; have h2 := HBS.out; omega
        have hsz9 : (w9.setCell ⟨ga, 2, none⟩ (.int .i64 4)).heap.size = w9.heap.size := by simp [World.setCell]
        have hcA2 : ((w9.setCell ⟨ga, 2, none⟩ (.int .i64 4)).alloc (.cells #[.string ⟨#[114]⟩, .int .i64 1, .int .i64 4, .string ⟨zn.toArray⟩, .int .i64 (xp : Int), .int .i64 (xm : Int), .string ⟨xs.toArray⟩, .string ⟨CL.toArray⟩] 42)).heap[ga]? = some (.cells #[.string ⟨#[114]⟩, .int .i64 1, .int .i64 4, .string ⟨zn.toArray⟩, .int .i64 (xp : Int), .int .i64 (xm : Int), .string ⟨xs.toArray⟩, .string ⟨CL.toArray⟩] 42 (0, 0)) := (Below.heap_alloc _ _ _ (by rw [hsz9]; exact hl9)).trans (heap_setCell_same _ ga 2 _ _ _ hc9)
        have hcB2 : ((w9.setCell ⟨ga, 2, none⟩ (.int .i64 4)).alloc (.cells #[.string ⟨#[114]⟩, .int .i64 1, .int .i64 4, .string ⟨zn.toArray⟩, .int .i64 (xp : Int), .int .i64 (xm : Int), .string ⟨xs.toArray⟩, .string ⟨CL.toArray⟩] 42)).heap[w9.heap.size]? = some (.cells #[.string ⟨#[114]⟩, .int .i64 1, .int .i64 4, .string ⟨zn.toArray⟩, .int .i64 (xp : Int), .int .i64 (xm : Int), .string ⟨xs.toArray⟩, .string ⟨CL.toArray⟩] 42 (0, 0)) := by have h := heap_alloc_new (w9.setCell ⟨ga, 2, none⟩ (.int .i64 4)) (.cells #[.string ⟨#[114]⟩, .int .i64 1, .int .i64 4, .string ⟨zn.toArray⟩, .int .i64 (xp : Int), .int .i64 (xm : Int), .string ⟨xs.toArray⟩, .string ⟨CL.toArray⟩] 42); rw [hsz9] at h; exact h
        have A0 : ((w9.setCell ⟨ga, 2, none⟩ (.int .i64 4)).alloc (.cells #[.string ⟨#[114]⟩, .int .i64 1, .int .i64 4, .string ⟨zn.toArray⟩, .int .i64 (xp : Int), .int .i64 (xm : Int), .string ⟨xs.toArray⟩, .string ⟨CL.toArray⟩] 42)).cell? ⟨ga, 0, none⟩ = some (.string ⟨#[114]⟩) := cell_of_row _ _ 0 _ _ _ hcA2
        have B0 : ((w9.setCell ⟨ga, 2, none⟩ (.int .i64 4)).alloc (.cells #[.string ⟨#[114]⟩, .int .i64 1, .int .i64 4, .string ⟨zn.toArray⟩, .int .i64 (xp : Int), .int .i64 (xm : Int), .string ⟨xs.toArray⟩, .string ⟨CL.toArray⟩] 42)).cell? ⟨w9.heap.size, 0, none⟩ = some (.string ⟨#[114]⟩) := cell_of_row _ _ 0 _ _ _ hcB2
        have A1 : ((w9.setCell ⟨ga, 2, none⟩ (.int .i64 4)).alloc (.cells #[.string ⟨#[114]⟩, .int .i64 1, .int .i64 4, .string ⟨zn.toArray⟩, .int .i64 (xp : Int), .int .i64 (xm : Int), .string ⟨xs.toArray⟩, .string ⟨CL.toArray⟩] 42)).cell? ⟨ga, 1, none⟩ = some (.int .i64 1) := cell_of_row _ _ 1 _ _ _ hcA2
        have B1 : ((w9.setCell ⟨ga, 2, none⟩ (.int .i64 4)).alloc (.cells #[.string ⟨#[114]⟩, .int .i64 1, .int .i64 4, .string ⟨zn.toArray⟩, .int .i64 (xp : Int), .int .i64 (xm : Int), .string ⟨xs.toArray⟩, .string ⟨CL.toArray⟩] 42)).cell? ⟨w9.heap.size, 1, none⟩ = some (.int .i64 1) := cell_of_row _ _ 1 _ _ _ hcB2
        have A2 : ((w9.setCell ⟨ga, 2, none⟩ (.int .i64 4)).alloc (.cells #[.string ⟨#[114]⟩, .int .i64 1, .int .i64 4, .string ⟨zn.toArray⟩, .int .i64 (xp : Int), .int .i64 (xm : Int), .string ⟨xs.toArray⟩, .string ⟨CL.toArray⟩] 42)).cell? ⟨ga, 2, none⟩ = some (.int .i64 4) := cell_of_row _ _ 2 _ _ _ hcA2
        have B2 : ((w9.setCell ⟨ga, 2, none⟩ (.int .i64 4)).alloc (.cells #[.string ⟨#[114]⟩, .int .i64 1, .int .i64 4, .string ⟨zn.toArray⟩, .int .i64 (xp : Int), .int .i64 (xm : Int), .string ⟨xs.toArray⟩, .string ⟨CL.toArray⟩] 42)).cell? ⟨w9.heap.size, 2, none⟩ = some (.int .i64 4) := cell_of_row _ _ 2 _ _ _ hcB2
        have A3 : ((w9.setCell ⟨ga, 2, none⟩ (.int .i64 4)).alloc (.cells #[.string ⟨#[114]⟩, .int .i64 1, .int .i64 4, .string ⟨zn.toArray⟩, .int .i64 (xp : Int), .int .i64 (xm : Int), .string ⟨xs.toArray⟩, .string ⟨CL.toArray⟩] 42)).cell? ⟨ga, 3, none⟩ = some (.string ⟨zn.toArray⟩) := cell_of_row _ _ 3 _ _ _ hcA2
        have B3 : ((w9.setCell ⟨ga, 2, none⟩ (.int .i64 4)).alloc (.cells #[.string ⟨#[114]⟩, .int .i64 1, .int .i64 4, .string ⟨zn.toArray⟩, .int .i64 (xp : Int), .int .i64 (xm : Int), .string ⟨xs.toArray⟩, .string ⟨CL.toArray⟩] 42)).cell? ⟨w9.heap.size, 3, none⟩ = some (.string ⟨zn.toArray⟩) := cell_of_row _ _ 3 _ _ _ hcB2
        have A4 : ((w9.setCell ⟨ga, 2, none⟩ (.int .i64 4)).alloc (.cells #[.string ⟨#[114]⟩, .int .i64 1, .int .i64 4, .string ⟨zn.toArray⟩, .int .i64 (xp : Int), .int .i64 (xm : Int), .string ⟨xs.toArray⟩, .string ⟨CL.toArray⟩] 42)).cell? ⟨ga, 4, none⟩ = some (.int .i64 (xp : Int)) := cell_of_row _ _ 4 _ _ _ hcA2
        have B4 : ((w9.setCell ⟨ga, 2, none⟩ (.int .i64 4)).alloc (.cells #[.string ⟨#[114]⟩, .int .i64 1, .int .i64 4, .string ⟨zn.toArray⟩, .int .i64 (xp : Int), .int .i64 (xm : Int), .string ⟨xs.toArray⟩, .string ⟨CL.toArray⟩] 42)).cell? ⟨w9.heap.size, 4, none⟩ = some (.int .i64 (xp : Int)) := cell_of_row _ _ 4 _ _ _ hcB2
        have A5 : ((w9.setCell ⟨ga, 2, none⟩ (.int .i64 4)).alloc (.cells #[.string ⟨#[114]⟩, .int .i64 1, .int .i64 4, .string ⟨zn.toArray⟩, .int .i64 (xp : Int), .int .i64 (xm : Int), .string ⟨xs.toArray⟩, .string ⟨CL.toArray⟩] 42)).cell? ⟨ga, 5, none⟩ = some (.int .i64 (xm : Int)) := cell_of_row _ _ 5 _ _ _ hcA2
        have B5 : ((w9.setCell ⟨ga, 2, none⟩ (.int .i64 4)).alloc (.cells #[.string ⟨#[114]⟩, .int .i64 1, .int .i64 4, .string ⟨zn.toArray⟩, .int .i64 (xp : Int), .int .i64 (xm : Int), .string ⟨xs.toArray⟩, .string ⟨CL.toArray⟩] 42)).cell? ⟨w9.heap.size, 5, none⟩ = some (.int .i64 (xm : Int)) := cell_of_row _ _ 5 _ _ _ hcB2
        have A6 : ((w9.setCell ⟨ga, 2, none⟩ (.int .i64 4)).alloc (.cells #[.string ⟨#[114]⟩, .int .i64 1, .int .i64 4, .string ⟨zn.toArray⟩, .int .i64 (xp : Int), .int .i64 (xm : Int), .string ⟨xs.toArray⟩, .string ⟨CL.toArray⟩] 42)).cell? ⟨ga, 6, none⟩ = some (.string ⟨xs.toArray⟩) := cell_of_row _ _ 6 _ _ _ hcA2
        have B6 : ((w9.setCell ⟨ga, 2, none⟩ (.int .i64 4)).alloc (.cells #[.string ⟨#[114]⟩, .int .i64 1, .int .i64 4, .string ⟨zn.toArray⟩, .int .i64 (xp : Int), .int .i64 (xm : Int), .string ⟨xs.toArray⟩, .string ⟨CL.toArray⟩] 42)).cell? ⟨w9.heap.size, 6, none⟩ = some (.string ⟨xs.toArray⟩) := cell_of_row _ _ 6 _ _ _ hcB2
        have A7 : ((w9.setCell ⟨ga, 2, none⟩ (.int .i64 4)).alloc (.cells #[.string ⟨#[114]⟩, .int .i64 1, .int .i64 4, .string ⟨zn.toArray⟩, .int .i64 (xp : Int), .int .i64 (xm : Int), .string ⟨xs.toArray⟩, .string ⟨CL.toArray⟩] 42)).cell? ⟨ga, 7, none⟩ = some (.string ⟨CL.toArray⟩) := cell_of_row _ _ 7 _ _ _ hcA2
        have B7 : ((w9.setCell ⟨ga, 2, none⟩ (.int .i64 4)).alloc (.cells #[.string ⟨#[114]⟩, .int .i64 1, .int .i64 4, .string ⟨zn.toArray⟩, .int .i64 (xp : Int), .int .i64 (xm : Int), .string ⟨xs.toArray⟩, .string ⟨CL.toArray⟩] 42)).cell? ⟨w9.heap.size, 7, none⟩ = some (.string ⟨CL.toArray⟩) := cell_of_row _ _ 7 _ _ _ hcB2
        have HBY : Hid (Below w.heap.size w ((w9.setCell ⟨ga, 2, none⟩ (.int .i64 4)).alloc (.cells #[.string ⟨#[114]⟩, .int .i64 1, .int .i64 4, .string ⟨zn.toArray⟩, .int .i64 (xp : Int), .int .i64 (xm : Int), .string ⟨xs.toArray⟩, .string ⟨CL.toArray⟩] 42))) := by
          have h1 := (HFq.out.mono (HB8.out.trans (hb9.mono HB8.out.size))).below
          exact (h1.setCell (p := ⟨ga, 2, none⟩) hgw _).alloc (by rw [hsz9]; exact h1.size) _
        clear hsz9
        clear hcA2 hcB2
        have heq := Kp.eql_rec
        clear hb8 hb9 hc8 hc9 hl8 hcA hcB HA2 HTU HC7 HB7 HB8 hga
        go_wp2_with (go_at_call 23; refine (kswapped_any _ _).mono ?_; rintro e w' ⟨rfl, hw⟩; subst w')
        go_ret
        exact ⟨rfl, HBY.out⟩
      · have h : xn = 3 := e1
        subst h
        have h := h9
        clear h9 e1 hst
        have hE : R2 = Al.turnR R1 := HRR.out
        rw [h] at hE
        have v1 : R1.vals = #[.string ⟨#[114]⟩, .int .i64 1, .int .i64 3, .string ⟨zn.toArray⟩, .int .i64 (xp : Int), .int .i64 (xm : Int), .string ⟨xs.toArray⟩, .string ⟨CL.toArray⟩] := by rw [h]; rfl
        have v2 : R2.vals = #[.string ⟨#[114]⟩, .int .i64 1, .int .i64 1, .string ⟨zn.toArray⟩, .int .i64 (xp : Int), .int .i64 (xm : Int), .string ⟨xs.toArray⟩, .string ⟨CL.toArray⟩] := by rw [hE]; rfl
        rw [v1] at HA1
        rw [v2] at HA2
        clear v1 v2 hE h HO1 HRR
        go_wp2_with fail
        refine (HA1.out _ (by exact Below.refl _ _)).mono ?_
        rintro e w7 ⟨rfl, hb7⟩
        have HBS : Hid (wl.heap.size ≤ w7.heap.size) := hb7.size
        have HB7 : Hid (Below wl.heap.size wl (w7.alloc (.cells #[.string ⟨#[114]⟩, .int .i64 1, .int .i64 3, .string ⟨zn.toArray⟩, .int .i64 (xp : Int), .int .i64 (xm : Int), .string ⟨xs.toArray⟩, .string ⟨CL.toArray⟩] 42))) := hb7.alloc hb7.size _
        have HC7 : Hid _ := heap_alloc_new w7 (.cells #[.string ⟨#[114]⟩, .int .i64 1, .int .i64 3, .string ⟨zn.toArray⟩, .int .i64 (xp : Int), .int .i64 (xm : Int), .string ⟨xs.toArray⟩, .string ⟨CL.toArray⟩] 42)
        clear hb7 HA1
        go_wp2_with fail
        refine (HTU.out _).mono ?_
        rintro e w8 ⟨rfl, hb8⟩
        have HB8 : Hid (Below wl.heap.size wl w8) := HB7.out.trans (hb8.mono HB7.out.size)
        go_wp2_with fail
        refine (HA2.out _ (by exact HB8.out)).mono ?_
        rintro e w9 ⟨rfl, hb9⟩
        have hc8 : w8.heap[w7.heap.size]? = some (.cells #[.string ⟨#[114]⟩, .int .i64 1, .int .i64 3, .string ⟨zn.toArray⟩, .int .i64 (xp : Int), .int .i64 (xm : Int), .string ⟨xs.toArray⟩, .string ⟨CL.toArray⟩] 42 (0, 0)) := (hb8.block _ (by simp)).trans HC7.out
        generalize hga : w7.heap.size = ga at *
        have hl8 : ga < w8.heap.size := (Array.getElem?_eq_some_iff.1 hc8).1
        have hc9 : w9.heap[ga]? = some (.cells #[.string ⟨#[114]⟩, .int .i64 1, .int .i64 3, .string ⟨zn.toArray⟩, .int .i64 (xp : Int), .int .i64 (xm : Int), .string ⟨xs.toArray⟩, .string ⟨CL.toArray⟩] 42 (0, 0)) := (hb9.block _ hl8).trans hc8
        have hl9 : ga < w9.heap.size := (Array.getElem?_eq_some_iff.1 hc9).1
        have hcA : (w9.alloc (.cells #[.string ⟨#[114]⟩, .int .i64 1, .int .i64 1, .string ⟨zn.toArray⟩, .int .i64 (xp : Int), .int .i64 (xm : Int), .string ⟨xs.toArray⟩, .string ⟨CL.toArray⟩] 42)).heap[ga]? = some (.cells #[.string ⟨#[114]⟩, .int .i64 1, .int .i64 3, .string ⟨zn.toArray⟩, .int .i64 (xp : Int), .int .i64 (xm : Int), .string ⟨xs.toArray⟩, .string ⟨CL.toArray⟩] 42 (0, 0)) := (Below.heap_alloc _ _ _ hl9).trans hc9
        have hcB : (w9.alloc (.cells #[.string ⟨#[114]⟩, .int .i64 1, .int .i64 1, .string ⟨zn.toArray⟩, .int .i64 (xp : Int), .int .i64 (xm : Int), .string ⟨xs.toArray⟩, .string ⟨CL.toArray⟩] 42)).heap[w9.heap.size]? = some (.cells #[.string ⟨#[114]⟩, .int .i64 1, .int .i64 1, .string ⟨zn.toArray⟩, .int .i64 (xp : Int), .int .i64 (xm : Int), .string ⟨xs.toArray⟩, .string ⟨CL.toArray⟩] 42 (0, 0)) := heap_alloc_new w9 _
        have a0 : (w9.alloc (.cells #[.string ⟨#[114]⟩, .int .i64 1, .int .i64 1, .string ⟨zn.toArray⟩, .int .i64 (xp : Int), .int .i64 (xm : Int), .string ⟨xs.toArray⟩, .string ⟨CL.toArray⟩] 42)).cell? ⟨ga, 0, none⟩ = some (.string ⟨#[114]⟩) := cell_of_row _ _ 0 _ _ _ hcA
        have b0 : (w9.alloc (.cells #[.string ⟨#[114]⟩, .int .i64 1, .int .i64 1, .string ⟨zn.toArray⟩, .int .i64 (xp : Int), .int .i64 (xm : Int), .string ⟨xs.toArray⟩, .string ⟨CL.toArray⟩] 42)).cell? ⟨w9.heap.size, 0, none⟩ = some (.string ⟨#[114]⟩) := cell_of_row _ _ 0 _ _ _ hcB
        have a1 : (w9.alloc (.cells #[.string ⟨#[114]⟩, .int .i64 1, .int .i64 1, .string ⟨zn.toArray⟩, .int .i64 (xp : Int), .int .i64 (xm : Int), .string ⟨xs.toArray⟩, .string ⟨CL.toArray⟩] 42)).cell? ⟨ga, 1, none⟩ = some (.int .i64 1) := cell_of_row _ _ 1 _ _ _ hcA
        have b1 : (w9.alloc (.cells #[.string ⟨#[114]⟩, .int .i64 1, .int .i64 1, .string ⟨zn.toArray⟩, .int .i64 (xp : Int), .int .i64 (xm : Int), .string ⟨xs.toArray⟩, .string ⟨CL.toArray⟩] 42)).cell? ⟨w9.heap.size, 1, none⟩ = some (.int .i64 1) := cell_of_row _ _ 1 _ _ _ hcB
        have a2 : (w9.alloc (.cells #[.string ⟨#[114]⟩, .int .i64 1, .int .i64 1, .string ⟨zn.toArray⟩, .int .i64 (xp : Int), .int .i64 (xm : Int), .string ⟨xs.toArray⟩, .string ⟨CL.toArray⟩] 42)).cell? ⟨ga, 2, none⟩ = some (.int .i64 3) := cell_of_row _ _ 2 _ _ _ hcA
        have b2 : (w9.alloc (.cells #[.string ⟨#[114]⟩, .int .i64 1, .int .i64 1, .string ⟨zn.toArray⟩, .int .i64 (xp : Int), .int .i64 (xm : Int), .string ⟨xs.toArray⟩, .string ⟨CL.toArray⟩] 42)).cell? ⟨w9.heap.size, 2, none⟩ = some (.int .i64 1) := cell_of_row _ _ 2 _ _ _ hcB
        have a3 : (w9.alloc (.cells #[.string ⟨#[114]⟩, .int .i64 1, .int .i64 1, .string ⟨zn.toArray⟩, .int .i64 (xp : Int), .int .i64 (xm : Int), .string ⟨xs.toArray⟩, .string ⟨CL.toArray⟩] 42)).cell? ⟨ga, 3, none⟩ = some (.string ⟨zn.toArray⟩) := cell_of_row _ _ 3 _ _ _ hcA
        have b3 : (w9.alloc (.cells #[.string ⟨#[114]⟩, .int .i64 1, .int .i64 1, .string ⟨zn.toArray⟩, .int .i64 (xp : Int), .int .i64 (xm : Int), .string ⟨xs.toArray⟩, .string ⟨CL.toArray⟩] 42)).cell? ⟨w9.heap.size, 3, none⟩ = some (.string ⟨zn.toArray⟩) := cell_of_row _ _ 3 _ _ _ hcB
        have a4 : (w9.alloc (.cells #[.string ⟨#[114]⟩, .int .i64 1, .int .i64 1, .string ⟨zn.toArray⟩, .int .i64 (xp : Int), .int .i64 (xm : Int), .string ⟨xs.toArray⟩, .string ⟨CL.toArray⟩] 42)).cell? ⟨ga, 4, none⟩ = some (.int .i64 (xp : Int)) := cell_of_row _ _ 4 _ _ _ hcA
        have b4 : (w9.alloc (.cells #[.string ⟨#[114]⟩, .int .i64 1, .int .i64 1, .string ⟨zn.toArray⟩, .int .i64 (xp : Int), .int .i64 (xm : Int), .string ⟨xs.toArray⟩, .string ⟨CL.toArray⟩] 42)).cell? ⟨w9.heap.size, 4, none⟩ = some (.int .i64 (xp : Int)) := cell_of_row _ _ 4 _ _ _ hcB
        have a5 : (w9.alloc (.cells #[.string ⟨#[114]⟩, .int .i64 1, .int .i64 1, .string ⟨zn.toArray⟩, .int .i64 (xp : Int), .int .i64 (xm : Int), .string ⟨xs.toArray⟩, .string ⟨CL.toArray⟩] 42)).cell? ⟨ga, 5, none⟩ = some (.int .i64 (xm : Int)) := cell_of_row _ _ 5 _ _ _ hcA
        have b5 : (w9.alloc (.cells #[.string ⟨#[114]⟩, .int .i64 1, .int .i64 1, .string ⟨zn.toArray⟩, .int .i64 (xp : Int), .int .i64 (xm : Int), .string ⟨xs.toArray⟩, .string ⟨CL.toArray⟩] 42)).cell? ⟨w9.heap.size, 5, none⟩ = some (.int .i64 (xm : Int)) := cell_of_row _ _ 5 _ _ _ hcB
        have a6 : (w9.alloc (.cells #[.string ⟨#[114]⟩, .int .i64 1, .int .i64 1, .string ⟨zn.toArray⟩, .int .i64 (xp : Int), .int .i64 (xm : Int), .string ⟨xs.toArray⟩, .string ⟨CL.toArray⟩] 42)).cell? ⟨ga, 6, none⟩ = some (.string ⟨xs.toArray⟩) := cell_of_row _ _ 6 _ _ _ hcA
        have b6 : (w9.alloc (.cells #[.string ⟨#[114]⟩, .int .i64 1, .int .i64 1, .string ⟨zn.toArray⟩, .int .i64 (xp : Int), .int .i64 (xm : Int), .string ⟨xs.toArray⟩, .string ⟨CL.toArray⟩] 42)).cell? ⟨w9.heap.size, 6, none⟩ = some (.string ⟨xs.toArray⟩) := cell_of_row _ _ 6 _ _ _ hcB
        have a7 : (w9.alloc (.cells #[.string ⟨#[114]⟩, .int .i64 1, .int .i64 1, .string ⟨zn.toArray⟩, .int .i64 (xp : Int), .int .i64 (xm : Int), .string ⟨xs.toArray⟩, .string ⟨CL.toArray⟩] 42)).cell? ⟨ga, 7, none⟩ = some (.string ⟨CL.toArray⟩) := cell_of_row _ _ 7 _ _ _ hcA
        have b7 : (w9.alloc (.cells #[.string ⟨#[114]⟩, .int .i64 1, .int .i64 1, .string ⟨zn.toArray⟩, .int .i64 (xp : Int), .int .i64 (xm : Int), .string ⟨xs.toArray⟩, .string ⟨CL.toArray⟩] 42)).cell? ⟨w9.heap.size, 7, none⟩ = some (.string ⟨CL.toArray⟩) := cell_of_row _ _ 7 _ _ _ hcB
        have f2 : (w9.alloc (.cells #[.string ⟨#[114]⟩, .int .i64 1, .int .i64 1, .string ⟨zn.toArray⟩, .int .i64 (xp : Int), .int .i64 (xm : Int), .string ⟨xs.toArray⟩, .string ⟨CL.toArray⟩] 42)).frozen? ⟨ga, 2, none⟩ = false := frozen_of_row _ _ 2 _ _ hcA
        have hne : ga ≠ w9.heap.size := by omega
        have hne' : w9.heap.size ≠ ga := by omega
        have HBZ : Hid (Below w.heap.size w (w9.alloc (.cells #[.string ⟨#[114]⟩, .int .i64 1, .int .i64 1, .string ⟨zn.toArray⟩, .int .i64 (xp : Int), .int .i64 (xm : Int), .string ⟨xs.toArray⟩, .string ⟨CL.toArray⟩] 42))) := by
          have h1 := HB8.out.trans (hb9.mono HB8.out.size)
          exact ((HFq.out.mono h1).alloc _).below
        have hgw : w.heap.size ≤ ga := by have h1 := HFq.out.lt; have h2 := HBS.out; omega
        have hsz9 : (w9.setCell ⟨ga, 2, none⟩ (.int .i64 1)).heap.size = w9.heap.size := by simp [World.setCell]
        have hcA2 : ((w9.setCell ⟨ga, 2, none⟩ (.int .i64 1)).alloc (.cells #[.string ⟨#[114]⟩, .int .i64 1, .int .i64 1, .string ⟨zn.toArray⟩, .int .i64 (xp : Int), .int .i64 (xm : Int), .string ⟨xs.toArray⟩, .string ⟨CL.toArray⟩] 42)).heap[ga]? = some (.cells #[.string ⟨#[114]⟩, .int .i64 1, .int .i64 1, .string ⟨zn.toArray⟩, .int .i64 (xp : Int), .int .i64 (xm : Int), .string ⟨xs.toArray⟩, .string ⟨CL.toArray⟩] 42 (0, 0)) := (Below.heap_alloc _ _ _ (by rw [hsz9]; exact hl9)).trans (heap_setCell_same _ ga 2 _ _ _ hc9)
        have hcB2 : ((w9.setCell ⟨ga, 2, none⟩ (.int .i64 1)).alloc (.cells #[.string ⟨#[114]⟩, .int .i64 1, .int .i64 1, .string ⟨zn.toArray⟩, .int .i64 (xp : Int), .int .i64 (xm : Int), .string ⟨xs.toArray⟩, .string ⟨CL.toArray⟩] 42)).heap[w9.heap.size]? = some (.cells #[.string ⟨#[114]⟩, .int .i64 1, .int .i64 1, .string ⟨zn.toArray⟩, .int .i64 (xp : Int), .int .i64 (xm : Int), .string ⟨xs.toArray⟩, .string ⟨CL.toArray⟩] 42 (0, 0)) := by have h := heap_alloc_new (w9.setCell ⟨ga, 2, none⟩ (.int .i64 1)) (.cells #[.string ⟨#[114]⟩, .int .i64 1, .int .i64 1, .string ⟨zn.toArray⟩, .int .i64 (xp : Int), .int .i64 (xm : Int), .string ⟨xs.toArray⟩, .string ⟨CL.toArray⟩] 42); rw [hsz9] at h; exact h
        have A0 : ((w9.setCell ⟨ga, 2, none⟩ (.int .i64 1)).alloc (.cells #[.string ⟨#[114]⟩, .int .i64 1, .int .i64 1, .string ⟨zn.toArray⟩, .int .i64 (xp : Int), .int .i64 (xm : Int), .string ⟨xs.toArray⟩, .string ⟨CL.toArray⟩] 42)).cell? ⟨ga, 0, none⟩ = some (.string ⟨#[114]⟩) := cell_of_row _ _ 0 _ _ _ hcA2
        have B0 : ((w9.setCell ⟨ga, 2, none⟩ (.int .i64 1)).alloc (.cells #[.string ⟨#[114]⟩, .int .i64 1, .int .i64 1, .string ⟨zn.toArray⟩, .int .i64 (xp : Int), .int .i64 (xm : Int), .string ⟨xs.toArray⟩, .string ⟨CL.toArray⟩] 42)).cell? ⟨w9.heap.size, 0, none⟩ = some (.string ⟨#[114]⟩) := cell_of_row _ _ 0 _ _ _ hcB2
        have A1 : ((w9.setCell ⟨ga, 2, none⟩ (.int .i64 1)).alloc (.cells #[.string ⟨#[114]⟩, .int .i64 1, .int .i64 1, .string ⟨zn.toArray⟩, .int .i64 (xp : Int), .int .i64 (xm : Int), .string ⟨xs.toArray⟩, .string ⟨CL.toArray⟩] 42)).cell? ⟨ga, 1, none⟩ = some (.int .i64 1) := cell_of_row _ _ 1 _ _ _ hcA2
        have B1 : ((w9.setCell ⟨ga, 2, none⟩ (.int .i64 1)).alloc (.cells #[.string ⟨#[114]⟩, .int .i64 1, .int .i64 1, .string ⟨zn.toArray⟩, .int .i64 (xp : Int), .int .i64 (xm : Int), .string ⟨xs.toArray⟩, .string ⟨CL.toArray⟩] 42)).cell? ⟨w9.heap.size, 1, none⟩ = some (.int .i64 1) := cell_of_row _ _ 1 _ _ _ hcB2
        have A2 : ((w9.setCell ⟨ga, 2, none⟩ (.int .i64 1)).alloc (.cells #[.string ⟨#[114]⟩, .int .i64 1, .int .i64 1, .string ⟨zn.toArray⟩, .int .i64 (xp : Int), .int .i64 (xm : Int), .string ⟨xs.toArray⟩, .string ⟨CL.toArray⟩] 42)).cell? ⟨ga, 2, none⟩ = some (.int .i64 1) := cell_of_row _ _ 2 _ _ _ hcA2
        have B2 : ((w9.setCell ⟨ga, 2, none⟩ (.int .i64 1)).alloc (.cells #[.string ⟨#[114]⟩, .int .i64 1, .int .i64 1, .string ⟨zn.toArray⟩, .int .i64 (xp : Int), .int .i64 (xm : Int), .string ⟨xs.toArray⟩, .string ⟨CL.toArray⟩] 42)).cell? ⟨w9.heap.size, 2, none⟩ = some (.int .i64 1) := cell_of_row _ _ 2 _ _ _ hcB2
        have A3 : ((w9.setCell ⟨ga, 2, none⟩ (.int .i64 1)).alloc (.cells #[.string ⟨#[114]⟩, .int .i64 1, .int .i64 1, .string ⟨zn.toArray⟩, .int .i64 (xp : Int), .int .i64 (xm : Int), .string ⟨xs.toArray⟩, .string ⟨CL.toArray⟩] 42)).cell? ⟨ga, 3, none⟩ = some (.string ⟨zn.toArray⟩) := cell_of_row _ _ 3 _ _ _ hcA2
        have B3 : ((w9.setCell ⟨ga, 2, none⟩ (.int .i64 1)).alloc (.cells #[.string ⟨#[114]⟩, .int .i64 1, .int .i64 1, .string ⟨zn.toArray⟩, .int .i64 (xp : Int), .int .i64 (xm : Int), .string ⟨xs.toArray⟩, .string ⟨CL.toArray⟩] 42)).cell? ⟨w9.heap.size, 3, none⟩ = some (.string ⟨zn.toArray⟩) := cell_of_row _ _ 3 _ _ _ hcB2
        have A4 : ((w9.setCell ⟨ga, 2, none⟩ (.int .i64 1)).alloc (.cells #[.string ⟨#[114]⟩, .int .i64 1, .int .i64 1, .string ⟨zn.toArray⟩, .int .i64 (xp : Int), .int .i64 (xm : Int), .string ⟨xs.toArray⟩, .string ⟨CL.toArray⟩] 42)).cell? ⟨ga, 4, none⟩ = some (.int .i64 (xp : Int)) := cell_of_row _ _ 4 _ _ _ hcA2
        have B4 : ((w9.setCell ⟨ga, 2, none⟩ (.int .i64 1)).alloc (.cells #[.string ⟨#[114]⟩, .int .i64 1, .int .i64 1, .string ⟨zn.toArray⟩, .int .i64 (xp : Int), .int .i64 (xm : Int), .string ⟨xs.toArray⟩, .string ⟨CL.toArray⟩] 42)).cell? ⟨w9.heap.size, 4, none⟩ = some (.int .i64 (xp : Int)) := cell_of_row _ _ 4 _ _ _ hcB2
        have A5 : ((w9.setCell ⟨ga, 2, none⟩ (.int .i64 1)).alloc (.cells #[.string ⟨#[114]⟩, .int .i64 1, .int .i64 1, .string ⟨zn.toArray⟩, .int .i64 (xp : Int), .int .i64 (xm : Int), .string ⟨xs.toArray⟩, .string ⟨CL.toArray⟩] 42)).cell? ⟨ga, 5, none⟩ = some (.int .i64 (xm : Int)) := cell_of_row _ _ 5 _ _ _ hcA2
        have B5 : ((w9.setCell ⟨ga, 2, none⟩ (.int .i64 1)).alloc (.cells #[.string ⟨#[114]⟩, .int .i64 1, .int .i64 1, .string ⟨zn.toArray⟩, .int .i64 (xp : Int), .int .i64 (xm : Int), .string ⟨xs.toArray⟩, .string ⟨CL.toArray⟩] 42)).cell? ⟨w9.heap.size, 5, none⟩ = some (.int .i64 (xm : Int)) := cell_of_row _ _ 5 _ _ _ hcB2
        have A6 : ((w9.setCell ⟨ga, 2, none⟩ (.int .i64 1)).alloc (.cells #[.string ⟨#[114]⟩, .int .i64 1, .int .i64 1, .string ⟨zn.toArray⟩, .int .i64 (xp : Int), .int .i64 (xm : Int), .string ⟨xs.toArray⟩, .string ⟨CL.toArray⟩] 42)).cell? ⟨ga, 6, none⟩ = some (.string ⟨xs.toArray⟩) := cell_of_row _ _ 6 _ _ _ hcA2
        have B6 : ((w9.setCell ⟨ga, 2, none⟩ (.int .i64 1)).alloc (.cells #[.string ⟨#[114]⟩, .int .i64 1, .int .i64 1, .string ⟨zn.toArray⟩, .int .i64 (xp : Int), .int .i64 (xm : Int), .string ⟨xs.toArray⟩, .string ⟨CL.toArray⟩] 42)).cell? ⟨w9.heap.size, 6, none⟩ = some (.string ⟨xs.toArray⟩) := cell_of_row _ _ 6 _ _ _ hcB2
        have A7 : ((w9.setCell ⟨ga, 2, none⟩ (.int .i64 1)).alloc (.cells #[.string ⟨#[114]⟩, .int .i64 1, .int .i64 1, .string ⟨zn.toArray⟩, .int .i64 (xp : Int), .int .i64 (xm : Int), .string ⟨xs.toArray⟩, .string ⟨CL.toArray⟩] 42)).cell? ⟨ga, 7, none⟩ = some (.string ⟨CL.toArray⟩) := cell_of_row _ _ 7 _ _ _ hcA2
        have B7 : ((w9.setCell ⟨ga, 2, none⟩ (.int .i64 1)).alloc (.cells #[.string ⟨#[114]⟩, .int .i64 1, .int .i64 1, .string ⟨zn.toArray⟩, .int .i64 (xp : Int), .int .i64 (xm : Int), .string ⟨xs.toArray⟩, .string ⟨CL.toArray⟩] 42)).cell? ⟨w9.heap.size, 7, none⟩ = some (.string ⟨CL.toArray⟩) := cell_of_row _ _ 7 _ _ _ hcB2
        have HBY : Hid (Below w.heap.size w ((w9.setCell ⟨ga, 2, none⟩ (.int .i64 1)).alloc (.cells #[.string ⟨#[114]⟩, .int .i64 1, .int .i64 1, .string ⟨zn.toArray⟩, .int .i64 (xp : Int), .int .i64 (xm : Int), .string ⟨xs.toArray⟩, .string ⟨CL.toArray⟩] 42))) := by
          have h1 := (HFq.out.mono (HB8.out.trans (hb9.mono HB8.out.size))).below
          exact (h1.setCell (p := ⟨ga, 2, none⟩) hgw _).alloc (by rw [hsz9]; exact h1.size) _
        clear hsz9
        clear hcA2 hcB2
        have heq := Kp.eql_rec
        clear hb8 hb9 hc8 hc9 hl8 hcA hcB HA2 HTU HC7 HB7 HB8 hga
        go_wp2_with (go_at_call 23; refine (kswapped_any _ _).mono ?_; rintro e w' ⟨rfl, hw⟩; subst w')
        go_ret
        exact ⟨rfl, HBY.out⟩
      · have h : xn = 4 := e1
        subst h
        have h := h9
        clear h9 e1 hst
        have hE : R2 = Al.turnR R1 := HRR.out
        rw [h] at hE
        have v1 : R1.vals = #[.string ⟨#[114]⟩, .int .i64 1, .int .i64 4, .string ⟨zn.toArray⟩, .int .i64 (xp : Int), .int .i64 (xm : Int), .string ⟨xs.toArray⟩, .string ⟨CL.toArray⟩] := by rw [h]; rfl
        have v2 : R2.vals = #[.string ⟨#[114]⟩, .int .i64 1, .int .i64 2, .string ⟨zn.toArray⟩, .int .i64 (xp : Int), .int .i64 (xm : Int), .string ⟨xs.toArray⟩, .string ⟨CL.toArray⟩] := by rw [hE]; rfl
        rw [v1] at HA1
        rw [v2] at HA2
        clear v1 v2 hE h HO1 HRR
        go_wp2_with fail
        refine (HA1.out _ (by exact Below.refl _ _)).mono ?_
        rintro e w7 ⟨rfl, hb7⟩
        have HBS : Hid (wl.heap.size ≤ w7.heap.size) := hb7.size
        have HB7 : Hid (Below wl.heap.size wl (w7.alloc (.cells #[.string ⟨#[114]⟩, .int .i64 1, .int .i64 4, .string ⟨zn.toArray⟩, .int .i64 (xp : Int), .int .i64 (xm : Int), .string ⟨xs.toArray⟩, .string ⟨CL.toArray⟩] 42))) := hb7.alloc hb7.size _
        have HC7 : Hid _ := heap_alloc_new w7 (.cells #[.string ⟨#[114]⟩, .int .i64 1, .int .i64 4, .string ⟨zn.toArray⟩, .int .i64 (xp : Int), .int .i64 (xm : Int), .string ⟨xs.toArray⟩, .string ⟨CL.toArray⟩] 42)
        clear hb7 HA1
        go_wp2_with fail
        refine (HTU.out _).mono ?_
        rintro e w8 ⟨rfl, hb8⟩
        have HB8 : Hid (Below wl.heap.size wl w8) := HB7.out.trans (hb8.mono HB7.out.size)
        go_wp2_with fail
        refine (HA2.out _ (by exact HB8.out)).mono ?_
        rintro e w9 ⟨rfl, hb9⟩
        have hc8 : w8.heap[w7.heap.size]? = some (.cells #[.string ⟨#[114]⟩, .int .i64 1, .int .i64 4, .string ⟨zn.toArray⟩, .int .i64 (xp : Int), .int .i64 (xm : Int), .string ⟨xs.toArray⟩, .string ⟨CL.toArray⟩] 42 (0, 0)) := (hb8.block _ (by simp)).trans HC7.out
        generalize hga : w7.heap.size = ga at *
        have hl8 : ga < w8.heap.size := (Array.getElem?_eq_some_iff.1 hc8).1
        have hc9 : w9.heap[ga]? = some (.cells #[.string ⟨#[114]⟩, .int .i64 1, .int .i64 4, .string ⟨zn.toArray⟩, .int .i64 (xp : Int), .int .i64 (xm : Int), .string ⟨xs.toArray⟩, .string ⟨CL.toArray⟩] 42 (0, 0)) := (hb9.block _ hl8).trans hc8
        have hl9 : ga < w9.heap.size := (Array.getElem?_eq_some_iff.1 hc9).1
        have hcA : (w9.alloc (.cells #[.string ⟨#[114]⟩, .int .i64 1, .int .i64 2, .string ⟨zn.toArray⟩, .int .i64 (xp : Int), .int .i64 (xm : Int), .string ⟨xs.toArray⟩, .string ⟨CL.toArray⟩] 42)).heap[ga]? = some (.cells #[.string ⟨#[114]⟩, .int .i64 1, .int .i64 4, .string ⟨zn.toArray⟩, .int .i64 (xp : Int), .int .i64 (xm : Int), .string ⟨xs.toArray⟩, .string ⟨CL.toArray⟩] 42 (0, 0)) := (Below.heap_alloc _ _ _ hl9).trans hc9
        have hcB : (w9.alloc (.cells #[.string ⟨#[114]⟩, .int .i64 1, .int .i64 2, .string ⟨zn.toArray⟩, .int .i64 (xp : Int), .int .i64 (xm : Int), .string ⟨xs.toArray⟩, .string ⟨CL.toArray⟩] 42)).heap[w9.heap.size]? = some (.cells #[.string ⟨#[114]⟩, .int .i64 1, .int .i64 2, .string ⟨zn.toArray⟩, .int .i64 (xp : Int), .int .i64 (xm : Int), .string ⟨xs.toArray⟩, .string ⟨CL.toArray⟩] 42 (0, 0)) := heap_alloc_new w9 _
        have a0 : (w9.alloc (.cells #[.string ⟨#[114]⟩, .int .i64 1, .int .i64 2, .string ⟨zn.toArray⟩, .int .i64 (xp : Int), .int .i64 (xm : Int), .string ⟨xs.toArray⟩, .string ⟨CL.toArray⟩] 42)).cell? ⟨ga, 0, none⟩ = some (.string ⟨#[114]⟩) := cell_of_row _ _ 0 _ _ _ hcA
        have b0 : (w9.alloc (.cells #[.string ⟨#[114]⟩, .int .i64 1, .int .i64 2, .string ⟨zn.toArray⟩, .int .i64 (xp : Int), .int .i64 (xm : Int), .string ⟨xs.toArray⟩, .string ⟨CL.toArray⟩] 42)).cell? ⟨w9.heap.size, 0, none⟩ = some (.string ⟨#[114]⟩) := cell_of_row _ _ 0 _ _ _ hcB
        have a1 : (w9.alloc (.cells #[.string ⟨#[114]⟩, .int .i64 1, .int .i64 2, .string ⟨zn.toArray⟩, .int .i64 (xp : Int), .int .i64 (xm : Int), .string ⟨xs.toArray⟩, .string ⟨CL.toArray⟩] 42)).cell? ⟨ga, 1, none⟩ = some (.int .i64 1) := cell_of_row _ _ 1 _ _ _ hcA
        have b1 : (w9.alloc (.cells #[.string ⟨#[114]⟩, .int .i64 1, .int .i64 2, .string ⟨zn.toArray⟩, .int .i64 (xp : Int), .int .i64 (xm : Int), .string ⟨xs.toArray⟩, .string ⟨CL.toArray⟩] 42)).cell? ⟨w9.heap.size, 1, none⟩ = some (.int .i64 1) := cell_of_row _ _ 1 _ _ _ hcB
        have a2 : (w9.alloc (.cells #[.string ⟨#[114]⟩, .int .i64 1, .int .i64 2, .string ⟨zn.toArray⟩, .int .i64 (xp : Int), .int .i64 (xm : Int), .string ⟨xs.toArray⟩, .string ⟨CL.toArray⟩] 42)).cell? ⟨ga, 2, none⟩ = some (.int .i64 4) := cell_of_row _ _ 2 _ _ _ hcA
        have b2 : (w9.alloc (.cells #[.string ⟨#[114]⟩, .int .i64 1, .int .i64 2, .string ⟨zn.toArray⟩, .int .i64 (xp : Int), .int .i64 (xm : Int), .string ⟨xs.toArray⟩, .string ⟨CL.toArray⟩] 42)).cell? ⟨w9.heap.size, 2, none⟩ = some (.int .i64 2) := cell_of_row _ _ 2 _ _ _ hcB
        have a3 : (w9.alloc (.cells #[.string ⟨#[114]⟩, .int .i64 1, .int .i64 2, .string ⟨zn.toArray⟩, .int .i64 (xp : Int), .int .i64 (xm : Int), .string ⟨xs.toArray⟩, .string ⟨CL.toArray⟩] 42)).cell? ⟨ga, 3, none⟩ = some (.string ⟨zn.toArray⟩) := cell_of_row _ _ 3 _ _ _ hcA
        have b3 : (w9.alloc (.cells #[.string ⟨#[114]⟩, .int .i64 1, .int .i64 2, .string ⟨zn.toArray⟩, .int .i64 (xp : Int), .int .i64 (xm : Int), .string ⟨xs.toArray⟩, .string ⟨CL.toArray⟩] 42)).cell? ⟨w9.heap.size, 3, none⟩ = some (.string ⟨zn.toArray⟩) := cell_of_row _ _ 3 _ _ _ hcB
        have a4 : (w9.alloc (.cells #[.string ⟨#[114]⟩, .int .i64 1, .int .i64 2, .string ⟨zn.toArray⟩, .int .i64 (xp : Int), .int .i64 (xm : Int), .string ⟨xs.toArray⟩, .string ⟨CL.toArray⟩] 42)).cell? ⟨ga, 4, none⟩ = some (.int .i64 (xp : Int)) := cell_of_row _ _ 4 _ _ _ hcA
        have b4 : (w9.alloc (.cells #[.string ⟨#[114]⟩, .int .i64 1, .int .i64 2, .string ⟨zn.toArray⟩, .int .i64 (xp : Int), .int .i64 (xm : Int), .string ⟨xs.toArray⟩, .string ⟨CL.toArray⟩] 42)).cell? ⟨w9.heap.size, 4, none⟩ = some (.int .i64 (xp : Int)) := cell_of_row _ _ 4 _ _ _ hcB
        have a5 : (w9.alloc (.cells #[.string ⟨#[114]⟩, .int .i64 1, .int .i64 2, .string ⟨zn.toArray⟩, .int .i64 (xp : Int), .int .i64 (xm : Int), .string ⟨xs.toArray⟩, .string ⟨CL.toArray⟩] 42)).cell? ⟨ga, 5, none⟩ = some (.int .i64 (xm : Int)) := cell_of_row _ _ 5 _ _ _ hcA
        have b5 : (w9.alloc (.cells #[.string ⟨#[114]⟩, .int .i64 1, .int .i64 2, .string ⟨zn.toArray⟩, .int .i64 (xp : Int), .int .i64 (xm : Int), .string ⟨xs.toArray⟩, .string ⟨CL.toArray⟩] 42)).cell? ⟨w9.heap.size, 5, none⟩ = some (.int .i64 (xm : Int)) := cell_of_row _ _ 5 _ _ _ hcB
        have a6 : (w9.alloc (.cells #[.string ⟨#[114]⟩, .int .i64 1, .int .i64 2, .string ⟨zn.toArray⟩, .int .i64 (xp : Int), .int .i64 (xm : Int), .string ⟨xs.toArray⟩, .string ⟨CL.toArray⟩] 42)).cell? ⟨ga, 6, none⟩ = some (.string ⟨xs.toArray⟩) := cell_of_row _ _ 6 _ _ _ hcA
        have b6 : (w9.alloc (.cells #[.string ⟨#[114]⟩, .int .i64 1, .int .i64 2, .string ⟨zn.toArray⟩, .int .i64 (xp : Int), .int .i64 (xm : Int), .string ⟨xs.toArray⟩, .string ⟨CL.toArray⟩] 42)).cell? ⟨w9.heap.size, 6, none⟩ = some (.string ⟨xs.toArray⟩) := cell_of_row _ _ 6 _ _ _ hcB
        have a7 : (w9.alloc (.cells #[.string ⟨#[114]⟩, .int .i64 1, .int .i64 2, .string ⟨zn.toArray⟩, .int .i64 (xp : Int), .int .i64 (xm : Int), .string ⟨xs.toArray⟩, .string ⟨CL.toArray⟩] 42)).cell? ⟨ga, 7, none⟩ = some (.string ⟨CL.toArray⟩) := cell_of_row _ _ 7 _ _ _ hcA
        have b7 : (w9.alloc (.cells #[.string ⟨#[114]⟩, .int .i64 1, .int .i64 2, .string ⟨zn.toArray⟩, .int .i64 (xp : Int), .int .i64 (xm : Int), .string ⟨xs.toArray⟩, .string ⟨CL.toArray⟩] 42)).cell? ⟨w9.heap.size, 7, none⟩ = some (.string ⟨CL.toArray⟩) := cell_of_row _ _ 7 _ _ _ hcB
        have f2 : (w9.alloc (.cells #[.string ⟨#[114]⟩, .int .i64 1, .int .i64 2, .string ⟨zn.toArray⟩, .int .i64 (xp : Int), .int .i64 (xm : Int), .string ⟨xs.toArray⟩, .string ⟨CL.toArray⟩] 42)).frozen? ⟨ga, 2, none⟩ = false := frozen_of_row _ _ 2 _ _ hcA
        have hne : ga ≠ w9.heap.size := by omega
        have hne' : w9.heap.size ≠ ga := by omega
        have HBZ : Hid (Below w.heap.size w (w9.alloc (.cells #[.string ⟨#[114]⟩, .int .i64 1, .int .i64 2, .string ⟨zn.toArray⟩, .int .i64 (xp : Int), .int .i64 (xm : Int), .string ⟨xs.toArray⟩, .string ⟨CL.toArray⟩] 42))) := by
          have h1 := HB8.out.trans (hb9.mono HB8.out.size)
          exact ((HFq.out.mono h1).alloc _).below
        have hgw : w.heap.size ≤ ga := by have h1 := HFq.out.lt; have h2 := HBS.out; omega
        have hsz9 : (w9.setCell ⟨ga, 2, none⟩ (.int .i64 2)).heap.size = w9.heap.size := by simp [World.setCell]
        have hcA2 : ((w9.setCell ⟨ga, 2, none⟩ (.int .i64 2)).alloc (.cells #[.string ⟨#[114]⟩, .int .i64 1, .int .i64 2, .string ⟨zn.toArray⟩, .int .i64 (xp : Int), .int .i64 (xm : Int), .string ⟨xs.toArray⟩, .string ⟨CL.toArray⟩] 42)).heap[ga]? = some (.cells #[.string ⟨#[114]⟩, .int .i64 1, .int .i64 2, .string ⟨zn.toArray⟩, .int .i64 (xp : Int), .int .i64 (xm : Int), .string ⟨xs.toArray⟩, .string ⟨CL.toArray⟩] 42 (0, 0)) := (Below.heap_alloc _ _ _ (by rw [hsz9]; exact hl9)).trans (heap_setCell_same _ ga 2 _ _ _ hc9)
        have hcB2 : ((w9.setCell ⟨ga, 2, none⟩ (.int .i64 2)).alloc (.cells #[.string ⟨#[114]⟩, .int .i64 1, .int .i64 2, .string ⟨zn.toArray⟩, .int .i64 (xp : Int), .int .i64 (xm : Int), .string ⟨xs.toArray⟩, .string ⟨CL.toArray⟩] 42)).heap[w9.heap.size]? = some (.cells #[.string ⟨#[114]⟩, .int .i64 1, .int .i64 2, .string ⟨zn.toArray⟩, .int .i64 (xp : Int), .int .i64 (xm : Int), .string ⟨xs.toArray⟩, .string ⟨CL.toArray⟩] 42 (0, 0)) := by have h := heap_alloc_new (w9.setCell ⟨ga, 2, none⟩ (.int .i64 2)) (.cells #[.string ⟨#[114]⟩, .int .i64 1, .int .i64 2, .string ⟨zn.toArray⟩, .int .i64 (xp : Int), .int .i64 (xm : Int), .string ⟨xs.toArray⟩, .string ⟨CL.toArray⟩] 42); rw [hsz9] at h; exact h
        have A0 : ((w9.setCell ⟨ga, 2, none⟩ (.int .i64 2)).alloc (.cells #[.string ⟨#[114]⟩, .int .i64 1, .int .i64 2, .string ⟨zn.toArray⟩, .int .i64 (xp : Int), .int .i64 (xm : Int), .string ⟨xs.toArray⟩, .string ⟨CL.toArray⟩] 42)).cell? ⟨ga, 0, none⟩ = some (.string ⟨#[114]⟩) := cell_of_row _ _ 0 _ _ _ hcA2
        have B0 : ((w9.setCell ⟨ga, 2, none⟩ (.int .i64 2)).alloc (.cells #[.string ⟨#[114]⟩, .int .i64 1, .int .i64 2, .string ⟨zn.toArray⟩, .int .i64 (xp : Int), .int .i64 (xm : Int), .string ⟨xs.toArray⟩, .string ⟨CL.toArray⟩] 42)).cell? ⟨w9.heap.size, 0, none⟩ = some (.string ⟨#[114]⟩) := cell_of_row _ _ 0 _ _ _ hcB2
        have A1 : ((w9.setCell ⟨ga, 2, none⟩ (.int .i64 2)).alloc (.cells #[.string ⟨#[114]⟩, .int .i64 1, .int .i64 2, .string ⟨zn.toArray⟩, .int .i64 (xp : Int), .int .i64 (xm : Int), .string ⟨xs.toArray⟩, .string ⟨CL.toArray⟩] 42)).cell? ⟨ga, 1, none⟩ = some (.int .i64 1) := cell_of_row _ _ 1 _ _ _ hcA2
        have B1 : ((w9.setCell ⟨ga, 2, none⟩ (.int .i64 2)).alloc (.cells #[.string ⟨#[114]⟩, .int .i64 1, .int .i64 2, .string ⟨zn.toArray⟩, .int .i64 (xp : Int), .int .i64 (xm : Int), .string ⟨xs.toArray⟩, .string ⟨CL.toArray⟩] 42)).cell? ⟨w9.heap.size, 1, none⟩ = some (.int .i64 1) := cell_of_row _ _ 1 _ _ _ hcB2
        have A2 : ((w9.setCell ⟨ga, 2, none⟩ (.int .i64 2)).alloc (.cells #[.string ⟨#[114]⟩, .int .i64 1, .int .i64 2, .string ⟨zn.toArray⟩, .int .i64 (xp : Int), .int .i64 (xm : Int), .string ⟨xs.toArray⟩, .string ⟨CL.toArray⟩] 42)).cell? ⟨ga, 2, none⟩ = some (.int .i64 2) := cell_of_row _ _ 2 _ _ _ hcA2
        have B2 : ((w9.setCell ⟨ga, 2, none⟩ (.int .i64 2)).alloc (.cells #[.string ⟨#[114]⟩, .int .i64 1, .int .i64 2, .string ⟨zn.toArray⟩, .int .i64 (xp : Int), .int .i64 (xm : Int), .string ⟨xs.toArray⟩, .string ⟨CL.toArray⟩] 42)).cell? ⟨w9.heap.size, 2, none⟩ = some (.int .i64 2) := cell_of_row _ _ 2 _ _ _ hcB2
        have A3 : ((w9.setCell ⟨ga, 2, none⟩ (.int .i64 2)).alloc (.cells #[.string ⟨#[114]⟩, .int .i64 1, .int .i64 2, .string ⟨zn.toArray⟩, .int .i64 (xp : Int), .int .i64 (xm : Int), .string ⟨xs.toArray⟩, .string ⟨CL.toArray⟩] 42)).cell? ⟨ga, 3, none⟩ = some (.string ⟨zn.toArray⟩) := cell_of_row _ _ 3 _ _ _ hcA2
        have B3 : ((w9.setCell ⟨ga, 2, none⟩ (.int .i64 2)).alloc (.cells #[.string ⟨#[114]⟩, .int .i64 1, .int .i64 2, .string ⟨zn.toArray⟩, .int .i64 (xp : Int), .int .i64 (xm : Int), .string ⟨xs.toArray⟩, .string ⟨CL.toArray⟩] 42)).cell? ⟨w9.heap.size, 3, none⟩ = some (.string ⟨zn.toArray⟩) := cell_of_row _ _ 3 _ _ _ hcB2
        have A4 : ((w9.setCell ⟨ga, 2, none⟩ (.int .i64 2)).alloc (.cells #[.string ⟨#[114]⟩, .int .i64 1, .int .i64 2, .string ⟨zn.toArray⟩, .int .i64 (xp : Int), .int .i64 (xm : Int), .string ⟨xs.toArray⟩, .string ⟨CL.toArray⟩] 42)).cell? ⟨ga, 4, none⟩ = some (.int .i64 (xp : Int)) := cell_of_row _ _ 4 _ _ _ hcA2
        have B4 : ((w9.setCell ⟨ga, 2, none⟩ (.int .i64 2)).alloc (.cells #[.string ⟨#[114]⟩, .int .i64 1, .int .i64 2, .string ⟨zn.toArray⟩, .int .i64 (xp : Int), .int .i64 (xm : Int), .string ⟨xs.toArray⟩, .string ⟨CL.toArray⟩] 42)).cell? ⟨w9.heap.size, 4, none⟩ = some (.int .i64 (xp : Int)) := cell_of_row _ _ 4 _ _ _ hcB2
        have A5 : ((w9.setCell ⟨ga, 2, none⟩ (.int .i64 2)).alloc (.cells #[.string ⟨#[114]⟩, .int .i64 1, .int .i64 2, .string ⟨zn.toArray⟩, .int .i64 (xp : Int), .int .i64 (xm : Int), .string ⟨xs.toArray⟩, .string ⟨CL.toArray⟩] 42)).cell? ⟨ga, 5, none⟩ = some (.int .i64 (xm : Int)) := cell_of_row _ _ 5 _ _ _ hcA2
        have B5 : ((w9.setCell ⟨ga, 2, none⟩ (.int .i64 2)).alloc (.cells #[.string ⟨#[114]⟩, .int .i64 1, .int .i64 2, .string ⟨zn.toArray⟩, .int .i64 (xp : Int), .int .i64 (xm : Int), .string ⟨xs.toArray⟩, .string ⟨CL.toArray⟩] 42)).cell? ⟨w9.heap.size, 5, none⟩ = some (.int .i64 (xm : Int)) := cell_of_row _ _ 5 _ _ _ hcB2
        have A6 : ((w9.setCell ⟨ga, 2, none⟩ (.int .i64 2)).alloc (.cells #[.string ⟨#[114]⟩, .int .i64 1, .int .i64 2, .string ⟨zn.toArray⟩, .int .i64 (xp : Int), .int .i64 (xm : Int), .string ⟨xs.toArray⟩, .string ⟨CL.toArray⟩] 42)).cell? ⟨ga, 6, none⟩ = some (.string ⟨xs.toArray⟩) := cell_of_row _ _ 6 _ _ _ hcA2
        have B6 : ((w9.setCell ⟨ga, 2, none⟩ (.int .i64 2)).alloc (.cells #[.string ⟨#[114]⟩, .int .i64 1, .int .i64 2, .string ⟨zn.toArray⟩, .int .i64 (xp : Int), .int .i64 (xm : Int), .string ⟨xs.toArray⟩, .string ⟨CL.toArray⟩] 42)).cell? ⟨w9.heap.size, 6, none⟩ = some (.string ⟨xs.toArray⟩) := cell_of_row _ _ 6 _ _ _ hcB2
        have A7 : ((w9.setCell ⟨ga, 2, none⟩ (.int .i64 2)).alloc (.cells #[.string ⟨#[114]⟩, .int .i64 1, .int .i64 2, .string ⟨zn.toArray⟩, .int .i64 (xp : Int), .int .i64 (xm : Int), .string ⟨xs.toArray⟩, .string ⟨CL.toArray⟩] 42)).cell? ⟨ga, 7, none⟩ = some (.string ⟨CL.toArray⟩) := cell_of_row _ _ 7 _ _ _ hcA2
        have B7 : ((w9.setCell ⟨ga, 2, none⟩ (.int .i64 2)).alloc (.cells #[.string ⟨#[114]⟩, .int .i64 1, .int .i64 2, .string ⟨zn.toArray⟩, .int .i64 (xp : Int), .int .i64 (xm : Int), .string ⟨xs.toArray⟩, .string ⟨CL.toArray⟩] 42)).cell? ⟨w9.heap.size, 7, none⟩ = some (.string ⟨CL.toArray⟩) := cell_of_row _ _ 7 _ _ _ hcB2
        have HBY : Hid (Below w.heap.size w ((w9.setCell ⟨ga, 2, none⟩ (.int .i64 2)).alloc (.cells #[.string ⟨#[114]⟩, .int .i64 1, .int .i64 2, .string ⟨zn.toArray⟩, .int .i64 (xp : Int), .int .i64 (xm : Int), .string ⟨xs.toArray⟩, .string ⟨CL.toArray⟩] 42))) := by
          have h1 := (HFq.out.mono (HB8.out.trans (hb9.mono HB8.out.size))).below
          exact (h1.setCell (p := ⟨ga, 2, none⟩) hgw _).alloc (by rw [hsz9]; exact h1.size) _
        clear hsz9
        clear hcA2 hcB2
        have heq := Kp.eql_rec
        clear hb8 hb9 hc8 hc9 hl8 hcA hcB HA2 HTU HC7 HB7 HB8 hga
        go_wp2_with (go_at_call 23; refine (kswapped_any _ _).mono ?_; rintro e w' ⟨rfl, hw⟩; subst w')
        go_ret
        exact ⟨rfl, HBY.out⟩
  | true =>
    have HF : Hid (KpF w wl #[.int .i64 x0, .int .i64 x1, .int .i64 x2, .int .i64 x3, .string r, .slice xa rs.length xc] cs g bx B) := HFL.out
    clear HFL HQQ
    have c0 : wl.cell? ⟨w.heap.size, 0, none⟩ = some (.int .i64 x0) := cell_of_row _ _ 0 _ _ _ HF.out.box
    have c1 : wl.cell? ⟨w.heap.size, 1, none⟩ = some (.int .i64 x1) := cell_of_row _ _ 1 _ _ _ HF.out.box
    have c2 : wl.cell? ⟨w.heap.size, 2, none⟩ = some (.int .i64 x2) := cell_of_row _ _ 2 _ _ _ HF.out.box
    have c3 : wl.cell? ⟨w.heap.size, 3, none⟩ = some (.int .i64 x3) := cell_of_row _ _ 3 _ _ _ HF.out.box
    have c4 : wl.cell? ⟨w.heap.size, 4, none⟩ = some (.string r) := cell_of_row _ _ 4 _ _ _ HF.out.box
    have c5 : wl.cell? ⟨w.heap.size, 5, none⟩ = some (.slice xa rs.length xc) := cell_of_row _ _ 5 _ _ _ HF.out.box
    go_wp2_with fail
    refine (kpiece_any cs g cc x0 x1 x2 x3 r _ _ HI0.out HI1.out HI2.out HI3.out HR.out hpos HF.out.src).mono ?_
    rintro e w3 ⟨c, a, m, n, z, rfl, hz, hm1, hm128, ham, hn, hb3⟩
    have HF3 : Hid (KpF w (w3.alloc (.cells #[.int .i64 (c : Int), .int .i64 (a : Int)] 37)) #[.int .i64 x0, .int .i64 x1, .int .i64 x2, .int .i64 x3, .string r, .slice xa rs.length xc] cs g bx B) := (HF.out.mono hb3).alloc _
    have HPL : Hid ((w3.alloc (.cells #[.int .i64 (c : Int), .int .i64 (a : Int)] 37)).heap[w3.heap.size]? = some (.cells #[.int .i64 (c : Int), .int .i64 (a : Int)] 37 (0, 0))) := heap_alloc_new w3 _
    have HZ : Hid _ := hz
    have HN : Hid _ := hn
    obtain ⟨S, hS⟩ : ∃ S, S = (z.2.drop a).take m := ⟨_, rfl⟩
    have hSl : S.length = m := by rw [hS]; exact Kp.piece_len ham
    have HSL : Hid (Lt.allL S = true) := by
      show _ = _
      rw [hS]
      exact Kp.piece_allL (HR.out.let_ z (List.mem_of_getElem? hz)).1 a m
    rw [← hS]
    have HS : Hid _ := hS
    have HSl : Hid _ := hSl
    have hSs : (⟨S.toArray⟩ : ByteArray).size ≤ 128 := by rw [str_size]; omega
    clear c0 c1 c2 c3 c4 c5 hS hSl
    go_wp2_with fail
    generalize hW3 : w3.alloc (.cells #[.int .i64 (c : Int), .int .i64 (a : Int)] 37) = W3 at *
    generalize w3.heap.size = gp at *
    have HBC : Hid (∀ W, Calls Try.prog 15 #[.string ⟨S.toArray⟩, .int .i64 n, .string r] W fun e w' => ∃ t : List UInt8, e = .returned (.string ⟨t.toArray⟩) ∧ Hid (t.length = m ∧ Lt.allL t = true) ∧ Below W.heap.size W w') := fun W =>
      (kbleached_any ⟨S.toArray⟩ r n W HN.out (by omega) hr).mono fun e w' ⟨t, h1, h2, h3⟩ => ⟨t, h1, by
        have hB : Kp.Bl n S t := by have := h2.out; rw [show (⟨S.toArray⟩ : ByteArray).data.toList = S from by simp] at this; exact this
        exact ⟨by rw [hB.len, HSl.out], Kp.bl_allL hB HSL.out⟩, h3⟩
    have HCC : Hid (∀ W (t : List UInt8), Below W3.heap.size W3 W → Hid (t.length = m ∧ Lt.allL t = true) → Calls Try.prog 19 #[.string ⟨t.toArray⟩, .slice xa rs.length xc] W fun e w' => ∃ u : List UInt8, e = .returned (.string ⟨u.toArray⟩) ∧ Hid (u.length = m ∧ Lt.allL u = true) ∧ Below W.heap.size W w') := fun W t hb ht =>
      (kchanged_any ⟨t.toArray⟩ _ rs W (by rw [str_size, ht.out.1]; omega) (by rw [str_size, ht.out.1]; omega) ht.out.2 (HXI.out W (HF3.out.mono hb).below)).mono fun e w' ⟨u, h1, h2, h3⟩ => ⟨u, h1, ⟨by rw [h2.out.1, str_size, ht.out.1], h2.out.2⟩, h3⟩
    have HK4 : Hid (∀ w1 W : World, Below W.heap.size W w1 → (W.cell? ⟨w.heap.size, 4, none⟩ = some (.string r) ∧ W.cell? ⟨w.heap.size, 5, none⟩ = some (.slice xa rs.length xc)) → (w1.cell? ⟨w.heap.size, 4, none⟩ = some (.string r) ∧ w1.cell? ⟨w.heap.size, 5, none⟩ = some (.slice xa rs.length xc))) := fun w1 W hb h =>
      ⟨(hb.cell (World.block_lt_of_cell? W _ h.1)).trans h.1, (hb.cell (World.block_lt_of_cell? W _ h.2)).trans h.2⟩
    have HS4 : Hid (W3.drew.cell? ⟨w.heap.size, 4, none⟩ = some (.string r) ∧ W3.drew.cell? ⟨w.heap.size, 5, none⟩ = some (.slice xa rs.length xc)) := ⟨cell_of_row _ _ 4 _ _ _ HF3.out.box, cell_of_row _ _ 5 _ _ _ HF3.out.box⟩
    have HDR : Hid (∀ w4, Below W3.drew.heap.size W3.drew w4 → Below W3.heap.size W3 w4) := fun w4 h => (Below.refl W3.heap.size W3).drew.trans h
    clear hz hn hb3 HF hW3
    go_region_held3 (fun Y => Y.cell? ⟨w.heap.size, 4, none⟩ = some (.string r) ∧ Y.cell? ⟨w.heap.size, 5, none⟩ = some (.slice xa rs.length xc))
      (first | (with_reducible exact HS4.out) | (with_reducible (refine HK4.out _ _ (by assumption) ?_; assumption)))
      (first
        | (go_at_call 15; go_must (with_reducible refine (HBC.out _).mono ?_); rintro e w4 ⟨t, rfl, HT4, hb4⟩)
        | (go_at_call 19; go_must (with_reducible refine (HCC.out _ _ (by exact HDR.out _ hb4) (by exact HT4)).mono ?_); rintro e w5 ⟨u, rfl, HU, hb5⟩))
    have HB5 : Hid (Below W3.heap.size W3 w5) := by have h := HDR.out _ hb4; exact h.trans (hb5.mono h.size)
    have HF5 : Hid (KpF w w5 #[.int .i64 x0, .int .i64 x1, .int .i64 x2, .int .i64 x3, .string r, .slice xa rs.length xc] cs g bx B) := HF3.out.mono HB5.out
    clear HK4 HS4 HBC HCC hb4 hb5 HT4 HDR
    have HQQ : Hid (1 ≤ u.length ∧ u.length ≤ 128 ∧ Lt.allL u = true) := ⟨by rw [HU.out.1]; exact hm1, by rw [HU.out.1]; exact hm128, HU.out.2⟩
    have HFq : Hid (KpF w w5 #[.int .i64 x0, .int .i64 x1, .int .i64 x2, .int .i64 x3, .string r, .slice xa rs.length xc] cs g bx B) := HF5.out
    clear HF5 HU HB5 HZ HN HSL HS HSl HPL HF3 hSs HXI HI0 HI1 HI2 HI3
    have HQL : Hid (1 ≤ u.length ∧ u.length ≤ 128 ∧ Lt.allL u = true) := HQQ.out
    have hq128 : u.length ≤ 128 := HQL.out.2.1
    have HAL : Hid (∀ (W : World) (y : List UInt8), Below w5.heap.size w5 W → 1 ≤ y.length → y.length ≤ 128 → Lt.allL y = true → Calls Try.prog 16 #[.slice (some ⟨g, 0, none⟩) cs.length cc, .pointer (some ⟨bx, 0, none⟩), .agg #[.string ⟨#[114]⟩, .string ⟨y.toArray⟩], .int .i64 (k : Int)] W fun e w' => e = .returned (.tuple #[.agg (Rc.vals (Al.upto [114] y (k : Int) cs 4).best), .int .i64 0]) ∧ Below W.heap.size W w') := fun W y hb h1 h2 h3 => Kp.align (HFq.out.mono hb) HR.out hpos y (k : Int) cc (by omega) (by omega) h3 h1 h2
    have HTU : Hid (∀ W, Calls Try.prog 22 #[.string ⟨u.toArray⟩] W fun e w' => e = .returned (.string ⟨(Lt.rev u).toArray⟩) ∧ Below W.heap.size W w') := fun W => by
      have h := kturned_any ⟨u.toArray⟩ W (by rw [str_size]; omega)
      rw [show (⟨u.toArray⟩ : ByteArray).data.toList = u from by simp] at h
      exact h
    have HMI : Hid _ := Al.mirror [114] u (k : Int) cs
    have HON : Hid _ := Al.one (nm := [114]) (b := (k : Int)) (cs := cs) (r := u) hq128
    obtain ⟨Y, hY⟩ : ∃ Y, Y = Lt.rev u := ⟨_, rfl⟩
    rw [← hY] at HTU HMI
    have HYL : Hid (1 ≤ Y.length ∧ Y.length ≤ 128 ∧ Lt.allL Y = true) := ⟨by rw [hY, Lt.rev_length]; exact HQL.out.1, by rw [hY, Lt.rev_length]; exact HQL.out.2.1, by rw [hY]; exact Lt.rev_allL HQL.out.2.2⟩
    obtain ⟨R1, hR1⟩ : ∃ R1, R1 = (Al.upto [114] u (k : Int) cs 4).best := ⟨_, rfl⟩
    obtain ⟨R2, hR2⟩ : ∃ R2, R2 = (Al.upto [114] Y (k : Int) cs 4).best := ⟨_, rfl⟩
    have HA1 : Hid (∀ W, Below w5.heap.size w5 W → Calls Try.prog 16 #[.slice (some ⟨g, 0, none⟩) cs.length cc, .pointer (some ⟨bx, 0, none⟩), .agg #[.string ⟨#[114]⟩, .string ⟨u.toArray⟩], .int .i64 (k : Int)] W fun e w' => e = .returned (.tuple #[.agg R1.vals, .int .i64 0]) ∧ Below W.heap.size W w') := fun W hb => by rw [hR1]; exact HAL.out W u hb HQL.out.1 HQL.out.2.1 HQL.out.2.2
    have HA2 : Hid (∀ W, Below w5.heap.size w5 W → Calls Try.prog 16 #[.slice (some ⟨g, 0, none⟩) cs.length cc, .pointer (some ⟨bx, 0, none⟩), .agg #[.string ⟨#[114]⟩, .string ⟨Y.toArray⟩], .int .i64 (k : Int)] W fun e w' => e = .returned (.tuple #[.agg R2.vals, .int .i64 0]) ∧ Below W.heap.size W w') := fun W hb => by rw [hR2]; exact HAL.out W Y hb HYL.out.1 HYL.out.2.1 HYL.out.2.2
    have HRR : Hid (R2 = Al.turnR R1) := by show _ = _; rw [hR2, HMI.out, hR1]; rfl
    have HO1 : Hid (R1 = Pa.unm [114] ∨ R1 = Pa.amb [114] ∨ ∃ x z, R1 = Pa.rec [114] x z ∧ Lt.strandB x.n = true) := by
      rcases HON.out with h | h | ⟨x, z, h, h2, _⟩
      · exact .inl (hR1.trans h)
      · exact .inr (.inl (hR1.trans h))
      · exact .inr (.inr ⟨x, z, hR1.trans h, h2.strand⟩)
    clear HAL HMI HON HYL hR1 hR2 hY HQL HQQ
    go_wp2_with fail
    refine (HPK.out _).mono ?_
    rintro e w' ⟨rfl, hw⟩
    subst w'
    rcases HO1.out with h | h | ⟨x, z, h, hst⟩
    · skip
      have hE : R2 = Al.turnR R1 := HRR.out
      rw [h] at hE
      have v1 : R1.vals = #[.string ⟨#[114]⟩, .int .i64 0, .int .i64 0, .string ⟨#[]⟩, .int .i64 0, .int .i64 0, .string ⟨#[]⟩, .string ⟨#[]⟩] := by rw [h]; rfl
      have v2 : R2.vals = #[.string ⟨#[114]⟩, .int .i64 0, .int .i64 0, .string ⟨#[]⟩, .int .i64 0, .int .i64 0, .string ⟨#[]⟩, .string ⟨#[]⟩] := by rw [hE]; rfl
      rw [v1] at HA1
      rw [v2] at HA2
      clear v1 v2 hE h HO1 HRR
      go_wp2_with fail
      refine (HA1.out _ (by exact Below.refl _ _)).mono ?_
      rintro e w7 ⟨rfl, hb7⟩
      have HBS : Hid (w5.heap.size ≤ w7.heap.size) := hb7.size
      have HB7 : Hid (Below w5.heap.size w5 (w7.alloc (.cells #[.string ⟨#[114]⟩, .int .i64 0, .int .i64 0, .string ⟨#[]⟩, .int .i64 0, .int .i64 0, .string ⟨#[]⟩, .string ⟨#[]⟩] 42))) := hb7.alloc hb7.size _
      have HC7 : Hid _ := heap_alloc_new w7 (.cells #[.string ⟨#[114]⟩, .int .i64 0, .int .i64 0, .string ⟨#[]⟩, .int .i64 0, .int .i64 0, .string ⟨#[]⟩, .string ⟨#[]⟩] 42)
      clear hb7 HA1
      go_wp2_with fail
      refine (HTU.out _).mono ?_
      rintro e w8 ⟨rfl, hb8⟩
      have HB8 : Hid (Below w5.heap.size w5 w8) := HB7.out.trans (hb8.mono HB7.out.size)
      go_wp2_with fail
      refine (HA2.out _ (by exact HB8.out)).mono ?_
      rintro e w9 ⟨rfl, hb9⟩
      have hc8 : w8.heap[w7.heap.size]? = some (.cells #[.string ⟨#[114]⟩, .int .i64 0, .int .i64 0, .string ⟨#[]⟩, .int .i64 0, .int .i64 0, .string ⟨#[]⟩, .string ⟨#[]⟩] 42 (0, 0)) := (hb8.block _ (by simp)).trans HC7.out
      generalize hga : w7.heap.size = ga at *
      have hl8 : ga < w8.heap.size := (Array.getElem?_eq_some_iff.1 hc8).1
      have hc9 : w9.heap[ga]? = some (.cells #[.string ⟨#[114]⟩, .int .i64 0, .int .i64 0, .string ⟨#[]⟩, .int .i64 0, .int .i64 0, .string ⟨#[]⟩, .string ⟨#[]⟩] 42 (0, 0)) := (hb9.block _ hl8).trans hc8
      have hl9 : ga < w9.heap.size := (Array.getElem?_eq_some_iff.1 hc9).1
      have hcA : (w9.alloc (.cells #[.string ⟨#[114]⟩, .int .i64 0, .int .i64 0, .string ⟨#[]⟩, .int .i64 0, .int .i64 0, .string ⟨#[]⟩, .string ⟨#[]⟩] 42)).heap[ga]? = some (.cells #[.string ⟨#[114]⟩, .int .i64 0, .int .i64 0, .string ⟨#[]⟩, .int .i64 0, .int .i64 0, .string ⟨#[]⟩, .string ⟨#[]⟩] 42 (0, 0)) := (Below.heap_alloc _ _ _ hl9).trans hc9
      have hcB : (w9.alloc (.cells #[.string ⟨#[114]⟩, .int .i64 0, .int .i64 0, .string ⟨#[]⟩, .int .i64 0, .int .i64 0, .string ⟨#[]⟩, .string ⟨#[]⟩] 42)).heap[w9.heap.size]? = some (.cells #[.string ⟨#[114]⟩, .int .i64 0, .int .i64 0, .string ⟨#[]⟩, .int .i64 0, .int .i64 0, .string ⟨#[]⟩, .string ⟨#[]⟩] 42 (0, 0)) := heap_alloc_new w9 _
      have a0 : (w9.alloc (.cells #[.string ⟨#[114]⟩, .int .i64 0, .int .i64 0, .string ⟨#[]⟩, .int .i64 0, .int .i64 0, .string ⟨#[]⟩, .string ⟨#[]⟩] 42)).cell? ⟨ga, 0, none⟩ = some (.string ⟨#[114]⟩) := cell_of_row _ _ 0 _ _ _ hcA
      have b0 : (w9.alloc (.cells #[.string ⟨#[114]⟩, .int .i64 0, .int .i64 0, .string ⟨#[]⟩, .int .i64 0, .int .i64 0, .string ⟨#[]⟩, .string ⟨#[]⟩] 42)).cell? ⟨w9.heap.size, 0, none⟩ = some (.string ⟨#[114]⟩) := cell_of_row _ _ 0 _ _ _ hcB
      have a1 : (w9.alloc (.cells #[.string ⟨#[114]⟩, .int .i64 0, .int .i64 0, .string ⟨#[]⟩, .int .i64 0, .int .i64 0, .string ⟨#[]⟩, .string ⟨#[]⟩] 42)).cell? ⟨ga, 1, none⟩ = some (.int .i64 0) := cell_of_row _ _ 1 _ _ _ hcA
      have b1 : (w9.alloc (.cells #[.string ⟨#[114]⟩, .int .i64 0, .int .i64 0, .string ⟨#[]⟩, .int .i64 0, .int .i64 0, .string ⟨#[]⟩, .string ⟨#[]⟩] 42)).cell? ⟨w9.heap.size, 1, none⟩ = some (.int .i64 0) := cell_of_row _ _ 1 _ _ _ hcB
      have a2 : (w9.alloc (.cells #[.string ⟨#[114]⟩, .int .i64 0, .int .i64 0, .string ⟨#[]⟩, .int .i64 0, .int .i64 0, .string ⟨#[]⟩, .string ⟨#[]⟩] 42)).cell? ⟨ga, 2, none⟩ = some (.int .i64 0) := cell_of_row _ _ 2 _ _ _ hcA
      have b2 : (w9.alloc (.cells #[.string ⟨#[114]⟩, .int .i64 0, .int .i64 0, .string ⟨#[]⟩, .int .i64 0, .int .i64 0, .string ⟨#[]⟩, .string ⟨#[]⟩] 42)).cell? ⟨w9.heap.size, 2, none⟩ = some (.int .i64 0) := cell_of_row _ _ 2 _ _ _ hcB
      have a3 : (w9.alloc (.cells #[.string ⟨#[114]⟩, .int .i64 0, .int .i64 0, .string ⟨#[]⟩, .int .i64 0, .int .i64 0, .string ⟨#[]⟩, .string ⟨#[]⟩] 42)).cell? ⟨ga, 3, none⟩ = some (.string ⟨#[]⟩) := cell_of_row _ _ 3 _ _ _ hcA
      have b3 : (w9.alloc (.cells #[.string ⟨#[114]⟩, .int .i64 0, .int .i64 0, .string ⟨#[]⟩, .int .i64 0, .int .i64 0, .string ⟨#[]⟩, .string ⟨#[]⟩] 42)).cell? ⟨w9.heap.size, 3, none⟩ = some (.string ⟨#[]⟩) := cell_of_row _ _ 3 _ _ _ hcB
      have a4 : (w9.alloc (.cells #[.string ⟨#[114]⟩, .int .i64 0, .int .i64 0, .string ⟨#[]⟩, .int .i64 0, .int .i64 0, .string ⟨#[]⟩, .string ⟨#[]⟩] 42)).cell? ⟨ga, 4, none⟩ = some (.int .i64 0) := cell_of_row _ _ 4 _ _ _ hcA
      have b4 : (w9.alloc (.cells #[.string ⟨#[114]⟩, .int .i64 0, .int .i64 0, .string ⟨#[]⟩, .int .i64 0, .int .i64 0, .string ⟨#[]⟩, .string ⟨#[]⟩] 42)).cell? ⟨w9.heap.size, 4, none⟩ = some (.int .i64 0) := cell_of_row _ _ 4 _ _ _ hcB
      have a5 : (w9.alloc (.cells #[.string ⟨#[114]⟩, .int .i64 0, .int .i64 0, .string ⟨#[]⟩, .int .i64 0, .int .i64 0, .string ⟨#[]⟩, .string ⟨#[]⟩] 42)).cell? ⟨ga, 5, none⟩ = some (.int .i64 0) := cell_of_row _ _ 5 _ _ _ hcA
      have b5 : (w9.alloc (.cells #[.string ⟨#[114]⟩, .int .i64 0, .int .i64 0, .string ⟨#[]⟩, .int .i64 0, .int .i64 0, .string ⟨#[]⟩, .string ⟨#[]⟩] 42)).cell? ⟨w9.heap.size, 5, none⟩ = some (.int .i64 0) := cell_of_row _ _ 5 _ _ _ hcB
      have a6 : (w9.alloc (.cells #[.string ⟨#[114]⟩, .int .i64 0, .int .i64 0, .string ⟨#[]⟩, .int .i64 0, .int .i64 0, .string ⟨#[]⟩, .string ⟨#[]⟩] 42)).cell? ⟨ga, 6, none⟩ = some (.string ⟨#[]⟩) := cell_of_row _ _ 6 _ _ _ hcA
      have b6 : (w9.alloc (.cells #[.string ⟨#[114]⟩, .int .i64 0, .int .i64 0, .string ⟨#[]⟩, .int .i64 0, .int .i64 0, .string ⟨#[]⟩, .string ⟨#[]⟩] 42)).cell? ⟨w9.heap.size, 6, none⟩ = some (.string ⟨#[]⟩) := cell_of_row _ _ 6 _ _ _ hcB
      have a7 : (w9.alloc (.cells #[.string ⟨#[114]⟩, .int .i64 0, .int .i64 0, .string ⟨#[]⟩, .int .i64 0, .int .i64 0, .string ⟨#[]⟩, .string ⟨#[]⟩] 42)).cell? ⟨ga, 7, none⟩ = some (.string ⟨#[]⟩) := cell_of_row _ _ 7 _ _ _ hcA
      have b7 : (w9.alloc (.cells #[.string ⟨#[114]⟩, .int .i64 0, .int .i64 0, .string ⟨#[]⟩, .int .i64 0, .int .i64 0, .string ⟨#[]⟩, .string ⟨#[]⟩] 42)).cell? ⟨w9.heap.size, 7, none⟩ = some (.string ⟨#[]⟩) := cell_of_row _ _ 7 _ _ _ hcB
      have f2 : (w9.alloc (.cells #[.string ⟨#[114]⟩, .int .i64 0, .int .i64 0, .string ⟨#[]⟩, .int .i64 0, .int .i64 0, .string ⟨#[]⟩, .string ⟨#[]⟩] 42)).frozen? ⟨ga, 2, none⟩ = false := frozen_of_row _ _ 2 _ _ hcA
      have hne : ga ≠ w9.heap.size := by omega
      have hne' : w9.heap.size ≠ ga := by omega
      have HBZ : Hid (Below w.heap.size w (w9.alloc (.cells #[.string ⟨#[114]⟩, .int .i64 0, .int .i64 0, .string ⟨#[]⟩, .int .i64 0, .int .i64 0, .string ⟨#[]⟩, .string ⟨#[]⟩] 42))) := by
        have h1 := HB8.out.trans (hb9.mono HB8.out.size)
        exact ((HFq.out.mono h1).alloc _).below
      have hgw : w.heap.size ≤ ga := by have h1 := HFq.out.lt; have h2 := HBS.out; omega
      have heq := Kp.eql_rec
      clear hb8 hb9 hc8 hc9 hl8 hcA hcB HA2 HTU HC7 HB7 HB8 hga
      go_wp2
      go_ret
      exact ⟨rfl, HBZ.out⟩
    · skip
      have hE : R2 = Al.turnR R1 := HRR.out
      rw [h] at hE
      have v1 : R1.vals = #[.string ⟨#[114]⟩, .int .i64 2, .int .i64 0, .string ⟨#[]⟩, .int .i64 0, .int .i64 0, .string ⟨#[]⟩, .string ⟨#[]⟩] := by rw [h]; rfl
      have v2 : R2.vals = #[.string ⟨#[114]⟩, .int .i64 2, .int .i64 0, .string ⟨#[]⟩, .int .i64 0, .int .i64 0, .string ⟨#[]⟩, .string ⟨#[]⟩] := by rw [hE]; rfl
      rw [v1] at HA1
      rw [v2] at HA2
      clear v1 v2 hE h HO1 HRR
      go_wp2_with fail
      refine (HA1.out _ (by exact Below.refl _ _)).mono ?_
      rintro e w7 ⟨rfl, hb7⟩
      have HBS : Hid (w5.heap.size ≤ w7.heap.size) := hb7.size
      have HB7 : Hid (Below w5.heap.size w5 (w7.alloc (.cells #[.string ⟨#[114]⟩, .int .i64 2, .int .i64 0, .string ⟨#[]⟩, .int .i64 0, .int .i64 0, .string ⟨#[]⟩, .string ⟨#[]⟩] 42))) := hb7.alloc hb7.size _
      have HC7 : Hid _ := heap_alloc_new w7 (.cells #[.string ⟨#[114]⟩, .int .i64 2, .int .i64 0, .string ⟨#[]⟩, .int .i64 0, .int .i64 0, .string ⟨#[]⟩, .string ⟨#[]⟩] 42)
      clear hb7 HA1
      go_wp2_with fail
      refine (HTU.out _).mono ?_
      rintro e w8 ⟨rfl, hb8⟩
      have HB8 : Hid (Below w5.heap.size w5 w8) := HB7.out.trans (hb8.mono HB7.out.size)
      go_wp2_with fail
      refine (HA2.out _ (by exact HB8.out)).mono ?_
      rintro e w9 ⟨rfl, hb9⟩
      have hc8 : w8.heap[w7.heap.size]? = some (.cells #[.string ⟨#[114]⟩, .int .i64 2, .int .i64 0, .string ⟨#[]⟩, .int .i64 0, .int .i64 0, .string ⟨#[]⟩, .string ⟨#[]⟩] 42 (0, 0)) := (hb8.block _ (by simp)).trans HC7.out
      generalize hga : w7.heap.size = ga at *
      have hl8 : ga < w8.heap.size := (Array.getElem?_eq_some_iff.1 hc8).1
      have hc9 : w9.heap[ga]? = some (.cells #[.string ⟨#[114]⟩, .int .i64 2, .int .i64 0, .string ⟨#[]⟩, .int .i64 0, .int .i64 0, .string ⟨#[]⟩, .string ⟨#[]⟩] 42 (0, 0)) := (hb9.block _ hl8).trans hc8
      have hl9 : ga < w9.heap.size := (Array.getElem?_eq_some_iff.1 hc9).1
      have hcA : (w9.alloc (.cells #[.string ⟨#[114]⟩, .int .i64 2, .int .i64 0, .string ⟨#[]⟩, .int .i64 0, .int .i64 0, .string ⟨#[]⟩, .string ⟨#[]⟩] 42)).heap[ga]? = some (.cells #[.string ⟨#[114]⟩, .int .i64 2, .int .i64 0, .string ⟨#[]⟩, .int .i64 0, .int .i64 0, .string ⟨#[]⟩, .string ⟨#[]⟩] 42 (0, 0)) := (Below.heap_alloc _ _ _ hl9).trans hc9
      have hcB : (w9.alloc (.cells #[.string ⟨#[114]⟩, .int .i64 2, .int .i64 0, .string ⟨#[]⟩, .int .i64 0, .int .i64 0, .string ⟨#[]⟩, .string ⟨#[]⟩] 42)).heap[w9.heap.size]? = some (.cells #[.string ⟨#[114]⟩, .int .i64 2, .int .i64 0, .string ⟨#[]⟩, .int .i64 0, .int .i64 0, .string ⟨#[]⟩, .string ⟨#[]⟩] 42 (0, 0)) := heap_alloc_new w9 _
      have a0 : (w9.alloc (.cells #[.string ⟨#[114]⟩, .int .i64 2, .int .i64 0, .string ⟨#[]⟩, .int .i64 0, .int .i64 0, .string ⟨#[]⟩, .string ⟨#[]⟩] 42)).cell? ⟨ga, 0, none⟩ = some (.string ⟨#[114]⟩) := cell_of_row _ _ 0 _ _ _ hcA
      have b0 : (w9.alloc (.cells #[.string ⟨#[114]⟩, .int .i64 2, .int .i64 0, .string ⟨#[]⟩, .int .i64 0, .int .i64 0, .string ⟨#[]⟩, .string ⟨#[]⟩] 42)).cell? ⟨w9.heap.size, 0, none⟩ = some (.string ⟨#[114]⟩) := cell_of_row _ _ 0 _ _ _ hcB
      have a1 : (w9.alloc (.cells #[.string ⟨#[114]⟩, .int .i64 2, .int .i64 0, .string ⟨#[]⟩, .int .i64 0, .int .i64 0, .string ⟨#[]⟩, .string ⟨#[]⟩] 42)).cell? ⟨ga, 1, none⟩ = some (.int .i64 2) := cell_of_row _ _ 1 _ _ _ hcA
      have b1 : (w9.alloc (.cells #[.string ⟨#[114]⟩, .int .i64 2, .int .i64 0, .string ⟨#[]⟩, .int .i64 0, .int .i64 0, .string ⟨#[]⟩, .string ⟨#[]⟩] 42)).cell? ⟨w9.heap.size, 1, none⟩ = some (.int .i64 2) := cell_of_row _ _ 1 _ _ _ hcB
      have a2 : (w9.alloc (.cells #[.string ⟨#[114]⟩, .int .i64 2, .int .i64 0, .string ⟨#[]⟩, .int .i64 0, .int .i64 0, .string ⟨#[]⟩, .string ⟨#[]⟩] 42)).cell? ⟨ga, 2, none⟩ = some (.int .i64 0) := cell_of_row _ _ 2 _ _ _ hcA
      have b2 : (w9.alloc (.cells #[.string ⟨#[114]⟩, .int .i64 2, .int .i64 0, .string ⟨#[]⟩, .int .i64 0, .int .i64 0, .string ⟨#[]⟩, .string ⟨#[]⟩] 42)).cell? ⟨w9.heap.size, 2, none⟩ = some (.int .i64 0) := cell_of_row _ _ 2 _ _ _ hcB
      have a3 : (w9.alloc (.cells #[.string ⟨#[114]⟩, .int .i64 2, .int .i64 0, .string ⟨#[]⟩, .int .i64 0, .int .i64 0, .string ⟨#[]⟩, .string ⟨#[]⟩] 42)).cell? ⟨ga, 3, none⟩ = some (.string ⟨#[]⟩) := cell_of_row _ _ 3 _ _ _ hcA
      have b3 : (w9.alloc (.cells #[.string ⟨#[114]⟩, .int .i64 2, .int .i64 0, .string ⟨#[]⟩, .int .i64 0, .int .i64 0, .string ⟨#[]⟩, .string ⟨#[]⟩] 42)).cell? ⟨w9.heap.size, 3, none⟩ = some (.string ⟨#[]⟩) := cell_of_row _ _ 3 _ _ _ hcB
      have a4 : (w9.alloc (.cells #[.string ⟨#[114]⟩, .int .i64 2, .int .i64 0, .string ⟨#[]⟩, .int .i64 0, .int .i64 0, .string ⟨#[]⟩, .string ⟨#[]⟩] 42)).cell? ⟨ga, 4, none⟩ = some (.int .i64 0) := cell_of_row _ _ 4 _ _ _ hcA
      have b4 : (w9.alloc (.cells #[.string ⟨#[114]⟩, .int .i64 2, .int .i64 0, .string ⟨#[]⟩, .int .i64 0, .int .i64 0, .string ⟨#[]⟩, .string ⟨#[]⟩] 42)).cell? ⟨w9.heap.size, 4, none⟩ = some (.int .i64 0) := cell_of_row _ _ 4 _ _ _ hcB
      have a5 : (w9.alloc (.cells #[.string ⟨#[114]⟩, .int .i64 2, .int .i64 0, .string ⟨#[]⟩, .int .i64 0, .int .i64 0, .string ⟨#[]⟩, .string ⟨#[]⟩] 42)).cell? ⟨ga, 5, none⟩ = some (.int .i64 0) := cell_of_row _ _ 5 _ _ _ hcA
      have b5 : (w9.alloc (.cells #[.string ⟨#[114]⟩, .int .i64 2, .int .i64 0, .string ⟨#[]⟩, .int .i64 0, .int .i64 0, .string ⟨#[]⟩, .string ⟨#[]⟩] 42)).cell? ⟨w9.heap.size, 5, none⟩ = some (.int .i64 0) := cell_of_row _ _ 5 _ _ _ hcB
      have a6 : (w9.alloc (.cells #[.string ⟨#[114]⟩, .int .i64 2, .int .i64 0, .string ⟨#[]⟩, .int .i64 0, .int .i64 0, .string ⟨#[]⟩, .string ⟨#[]⟩] 42)).cell? ⟨ga, 6, none⟩ = some (.string ⟨#[]⟩) := cell_of_row _ _ 6 _ _ _ hcA
      have b6 : (w9.alloc (.cells #[.string ⟨#[114]⟩, .int .i64 2, .int .i64 0, .string ⟨#[]⟩, .int .i64 0, .int .i64 0, .string ⟨#[]⟩, .string ⟨#[]⟩] 42)).cell? ⟨w9.heap.size, 6, none⟩ = some (.string ⟨#[]⟩) := cell_of_row _ _ 6 _ _ _ hcB
      have a7 : (w9.alloc (.cells #[.string ⟨#[114]⟩, .int .i64 2, .int .i64 0, .string ⟨#[]⟩, .int .i64 0, .int .i64 0, .string ⟨#[]⟩, .string ⟨#[]⟩] 42)).cell? ⟨ga, 7, none⟩ = some (.string ⟨#[]⟩) := cell_of_row _ _ 7 _ _ _ hcA
      have b7 : (w9.alloc (.cells #[.string ⟨#[114]⟩, .int .i64 2, .int .i64 0, .string ⟨#[]⟩, .int .i64 0, .int .i64 0, .string ⟨#[]⟩, .string ⟨#[]⟩] 42)).cell? ⟨w9.heap.size, 7, none⟩ = some (.string ⟨#[]⟩) := cell_of_row _ _ 7 _ _ _ hcB
      have f2 : (w9.alloc (.cells #[.string ⟨#[114]⟩, .int .i64 2, .int .i64 0, .string ⟨#[]⟩, .int .i64 0, .int .i64 0, .string ⟨#[]⟩, .string ⟨#[]⟩] 42)).frozen? ⟨ga, 2, none⟩ = false := frozen_of_row _ _ 2 _ _ hcA
      have hne : ga ≠ w9.heap.size := by omega
      have hne' : w9.heap.size ≠ ga := by omega
      have HBZ : Hid (Below w.heap.size w (w9.alloc (.cells #[.string ⟨#[114]⟩, .int .i64 2, .int .i64 0, .string ⟨#[]⟩, .int .i64 0, .int .i64 0, .string ⟨#[]⟩, .string ⟨#[]⟩] 42))) := by
        have h1 := HB8.out.trans (hb9.mono HB8.out.size)
        exact ((HFq.out.mono h1).alloc _).below
      have hgw : w.heap.size ≤ ga := by have h1 := HFq.out.lt; have h2 := HBS.out; omega
      have heq := Kp.eql_rec
      clear hb8 hb9 hc8 hc9 hl8 hcA hcB HA2 HTU HC7 HB7 HB8 hga
      go_wp2
      go_ret
      exact ⟨rfl, HBZ.out⟩
    · obtain ⟨zn, zl⟩ := z
      obtain ⟨xn, xc0, xp, xs, xm⟩ := x
      obtain ⟨CL, hCL⟩ : ∃ CL, CL = Al.calls xn xs zl xp xs.length := ⟨_, rfl⟩
      have h9 : R1 = ⟨[114], 1, xn, zn, (xp : Int), (xm : Int), xs, CL⟩ := by rw [h, hCL]; rfl
      clear h hCL
      rcases Pa.strand_cases hst with e1 | e1 | e1 | e1
      · have h : xn = 1 := e1
        subst h
        have h := h9
        clear h9 e1 hst
        have hE : R2 = Al.turnR R1 := HRR.out
        rw [h] at hE
        have v1 : R1.vals = #[.string ⟨#[114]⟩, .int .i64 1, .int .i64 1, .string ⟨zn.toArray⟩, .int .i64 (xp : Int), .int .i64 (xm : Int), .string ⟨xs.toArray⟩, .string ⟨CL.toArray⟩] := by rw [h]; rfl
        have v2 : R2.vals = #[.string ⟨#[114]⟩, .int .i64 1, .int .i64 3, .string ⟨zn.toArray⟩, .int .i64 (xp : Int), .int .i64 (xm : Int), .string ⟨xs.toArray⟩, .string ⟨CL.toArray⟩] := by rw [hE]; rfl
        rw [v1] at HA1
        rw [v2] at HA2
        clear v1 v2 hE h HO1 HRR
        go_wp2_with fail
        refine (HA1.out _ (by exact Below.refl _ _)).mono ?_
        rintro e w7 ⟨rfl, hb7⟩
        have HBS : Hid (w5.heap.size ≤ w7.heap.size) := hb7.size
        have HB7 : Hid (Below w5.heap.size w5 (w7.alloc (.cells #[.string ⟨#[114]⟩, .int .i64 1, .int .i64 1, .string ⟨zn.toArray⟩, .int .i64 (xp : Int), .int .i64 (xm : Int), .string ⟨xs.toArray⟩, .string ⟨CL.toArray⟩] 42))) := hb7.alloc hb7.size _
        have HC7 : Hid _ := heap_alloc_new w7 (.cells #[.string ⟨#[114]⟩, .int .i64 1, .int .i64 1, .string ⟨zn.toArray⟩, .int .i64 (xp : Int), .int .i64 (xm : Int), .string ⟨xs.toArray⟩, .string ⟨CL.toArray⟩] 42)
        clear hb7 HA1
        go_wp2_with fail
        refine (HTU.out _).mono ?_
        rintro e w8 ⟨rfl, hb8⟩
        have HB8 : Hid (Below w5.heap.size w5 w8) := HB7.out.trans (hb8.mono HB7.out.size)
        go_wp2_with fail
        refine (HA2.out _ (by exact HB8.out)).mono ?_
        rintro e w9 ⟨rfl, hb9⟩
        have hc8 : w8.heap[w7.heap.size]? = some (.cells #[.string ⟨#[114]⟩, .int .i64 1, .int .i64 1, .string ⟨zn.toArray⟩, .int .i64 (xp : Int), .int .i64 (xm : Int), .string ⟨xs.toArray⟩, .string ⟨CL.toArray⟩] 42 (0, 0)) := (hb8.block _ (by simp)).trans HC7.out
        generalize hga : w7.heap.size = ga at *
        have hl8 : ga < w8.heap.size := (Array.getElem?_eq_some_iff.1 hc8).1
        have hc9 : w9.heap[ga]? = some (.cells #[.string ⟨#[114]⟩, .int .i64 1, .int .i64 1, .string ⟨zn.toArray⟩, .int .i64 (xp : Int), .int .i64 (xm : Int), .string ⟨xs.toArray⟩, .string ⟨CL.toArray⟩] 42 (0, 0)) := (hb9.block _ hl8).trans hc8
        have hl9 : ga < w9.heap.size := (Array.getElem?_eq_some_iff.1 hc9).1
        have hcA : (w9.alloc (.cells #[.string ⟨#[114]⟩, .int .i64 1, .int .i64 3, .string ⟨zn.toArray⟩, .int .i64 (xp : Int), .int .i64 (xm : Int), .string ⟨xs.toArray⟩, .string ⟨CL.toArray⟩] 42)).heap[ga]? = some (.cells #[.string ⟨#[114]⟩, .int .i64 1, .int .i64 1, .string ⟨zn.toArray⟩, .int .i64 (xp : Int), .int .i64 (xm : Int), .string ⟨xs.toArray⟩, .string ⟨CL.toArray⟩] 42 (0, 0)) := (Below.heap_alloc _ _ _ hl9).trans hc9
        have hcB : (w9.alloc (.cells #[.string ⟨#[114]⟩, .int .i64 1, .int .i64 3, .string ⟨zn.toArray⟩, .int .i64 (xp : Int), .int .i64 (xm : Int), .string ⟨xs.toArray⟩, .string ⟨CL.toArray⟩] 42)).heap[w9.heap.size]? = some (.cells #[.string ⟨#[114]⟩, .int .i64 1, .int .i64 3, .string ⟨zn.toArray⟩, .int .i64 (xp : Int), .int .i64 (xm : Int), .string ⟨xs.toArray⟩, .string ⟨CL.toArray⟩] 42 (0, 0)) := heap_alloc_new w9 _
        have a0 : (w9.alloc (.cells #[.string ⟨#[114]⟩, .int .i64 1, .int .i64 3, .string ⟨zn.toArray⟩, .int .i64 (xp : Int), .int .i64 (xm : Int), .string ⟨xs.toArray⟩, .string ⟨CL.toArray⟩] 42)).cell? ⟨ga, 0, none⟩ = some (.string ⟨#[114]⟩) := cell_of_row _ _ 0 _ _ _ hcA
        have b0 : (w9.alloc (.cells #[.string ⟨#[114]⟩, .int .i64 1, .int .i64 3, .string ⟨zn.toArray⟩, .int .i64 (xp : Int), .int .i64 (xm : Int), .string ⟨xs.toArray⟩, .string ⟨CL.toArray⟩] 42)).cell? ⟨w9.heap.size, 0, none⟩ = some (.string ⟨#[114]⟩) := cell_of_row _ _ 0 _ _ _ hcB
        have a1 : (w9.alloc (.cells #[.string ⟨#[114]⟩, .int .i64 1, .int .i64 3, .string ⟨zn.toArray⟩, .int .i64 (xp : Int), .int .i64 (xm : Int), .string ⟨xs.toArray⟩, .string ⟨CL.toArray⟩] 42)).cell? ⟨ga, 1, none⟩ = some (.int .i64 1) := cell_of_row _ _ 1 _ _ _ hcA
        have b1 : (w9.alloc (.cells #[.string ⟨#[114]⟩, .int .i64 1, .int .i64 3, .string ⟨zn.toArray⟩, .int .i64 (xp : Int), .int .i64 (xm : Int), .string ⟨xs.toArray⟩, .string ⟨CL.toArray⟩] 42)).cell? ⟨w9.heap.size, 1, none⟩ = some (.int .i64 1) := cell_of_row _ _ 1 _ _ _ hcB
        have a2 : (w9.alloc (.cells #[.string ⟨#[114]⟩, .int .i64 1, .int .i64 3, .string ⟨zn.toArray⟩, .int .i64 (xp : Int), .int .i64 (xm : Int), .string ⟨xs.toArray⟩, .string ⟨CL.toArray⟩] 42)).cell? ⟨ga, 2, none⟩ = some (.int .i64 1) := cell_of_row _ _ 2 _ _ _ hcA
        have b2 : (w9.alloc (.cells #[.string ⟨#[114]⟩, .int .i64 1, .int .i64 3, .string ⟨zn.toArray⟩, .int .i64 (xp : Int), .int .i64 (xm : Int), .string ⟨xs.toArray⟩, .string ⟨CL.toArray⟩] 42)).cell? ⟨w9.heap.size, 2, none⟩ = some (.int .i64 3) := cell_of_row _ _ 2 _ _ _ hcB
        have a3 : (w9.alloc (.cells #[.string ⟨#[114]⟩, .int .i64 1, .int .i64 3, .string ⟨zn.toArray⟩, .int .i64 (xp : Int), .int .i64 (xm : Int), .string ⟨xs.toArray⟩, .string ⟨CL.toArray⟩] 42)).cell? ⟨ga, 3, none⟩ = some (.string ⟨zn.toArray⟩) := cell_of_row _ _ 3 _ _ _ hcA
        have b3 : (w9.alloc (.cells #[.string ⟨#[114]⟩, .int .i64 1, .int .i64 3, .string ⟨zn.toArray⟩, .int .i64 (xp : Int), .int .i64 (xm : Int), .string ⟨xs.toArray⟩, .string ⟨CL.toArray⟩] 42)).cell? ⟨w9.heap.size, 3, none⟩ = some (.string ⟨zn.toArray⟩) := cell_of_row _ _ 3 _ _ _ hcB
        have a4 : (w9.alloc (.cells #[.string ⟨#[114]⟩, .int .i64 1, .int .i64 3, .string ⟨zn.toArray⟩, .int .i64 (xp : Int), .int .i64 (xm : Int), .string ⟨xs.toArray⟩, .string ⟨CL.toArray⟩] 42)).cell? ⟨ga, 4, none⟩ = some (.int .i64 (xp : Int)) := cell_of_row _ _ 4 _ _ _ hcA
        have b4 : (w9.alloc (.cells #[.string ⟨#[114]⟩, .int .i64 1, .int .i64 3, .string ⟨zn.toArray⟩, .int .i64 (xp : Int), .int .i64 (xm : Int), .string ⟨xs.toArray⟩, .string ⟨CL.toArray⟩] 42)).cell? ⟨w9.heap.size, 4, none⟩ = some (.int .i64 (xp : Int)) := cell_of_row _ _ 4 _ _ _ hcB
        have a5 : (w9.alloc (.cells #[.string ⟨#[114]⟩, .int .i64 1, .int .i64 3, .string ⟨zn.toArray⟩, .int .i64 (xp : Int), .int .i64 (xm : Int), .string ⟨xs.toArray⟩, .string ⟨CL.toArray⟩] 42)).cell? ⟨ga, 5, none⟩ = some (.int .i64 (xm : Int)) := cell_of_row _ _ 5 _ _ _ hcA
        have b5 : (w9.alloc (.cells #[.string ⟨#[114]⟩, .int .i64 1, .int .i64 3, .string ⟨zn.toArray⟩, .int .i64 (xp : Int), .int .i64 (xm : Int), .string ⟨xs.toArray⟩, .string ⟨CL.toArray⟩] 42)).cell? ⟨w9.heap.size, 5, none⟩ = some (.int .i64 (xm : Int)) := cell_of_row _ _ 5 _ _ _ hcB
        have a6 : (w9.alloc (.cells #[.string ⟨#[114]⟩, .int .i64 1, .int .i64 3, .string ⟨zn.toArray⟩, .int .i64 (xp : Int), .int .i64 (xm : Int), .string ⟨xs.toArray⟩, .string ⟨CL.toArray⟩] 42)).cell? ⟨ga, 6, none⟩ = some (.string ⟨xs.toArray⟩) := cell_of_row _ _ 6 _ _ _ hcA
        have b6 : (w9.alloc (.cells #[.string ⟨#[114]⟩, .int .i64 1, .int .i64 3, .string ⟨zn.toArray⟩, .int .i64 (xp : Int), .int .i64 (xm : Int), .string ⟨xs.toArray⟩, .string ⟨CL.toArray⟩] 42)).cell? ⟨w9.heap.size, 6, none⟩ = some (.string ⟨xs.toArray⟩) := cell_of_row _ _ 6 _ _ _ hcB
        have a7 : (w9.alloc (.cells #[.string ⟨#[114]⟩, .int .i64 1, .int .i64 3, .string ⟨zn.toArray⟩, .int .i64 (xp : Int), .int .i64 (xm : Int), .string ⟨xs.toArray⟩, .string ⟨CL.toArray⟩] 42)).cell? ⟨ga, 7, none⟩ = some (.string ⟨CL.toArray⟩) := cell_of_row _ _ 7 _ _ _ hcA
        have b7 : (w9.alloc (.cells #[.string ⟨#[114]⟩, .int .i64 1, .int .i64 3, .string ⟨zn.toArray⟩, .int .i64 (xp : Int), .int .i64 (xm : Int), .string ⟨xs.toArray⟩, .string ⟨CL.toArray⟩] 42)).cell? ⟨w9.heap.size, 7, none⟩ = some (.string ⟨CL.toArray⟩) := cell_of_row _ _ 7 _ _ _ hcB
        have f2 : (w9.alloc (.cells #[.string ⟨#[114]⟩, .int .i64 1, .int .i64 3, .string ⟨zn.toArray⟩, .int .i64 (xp : Int), .int .i64 (xm : Int), .string ⟨xs.toArray⟩, .string ⟨CL.toArray⟩] 42)).frozen? ⟨ga, 2, none⟩ = false := frozen_of_row _ _ 2 _ _ hcA
        have hne : ga ≠ w9.heap.size := by omega
        have hne' : w9.heap.size ≠ ga := by omega
        have HBZ : Hid (Below w.heap.size w (w9.alloc (.cells #[.string ⟨#[114]⟩, .int .i64 1, .int .i64 3, .string ⟨zn.toArray⟩, .int .i64 (xp : Int), .int .i64 (xm : Int), .string ⟨xs.toArray⟩, .string ⟨CL.toArray⟩] 42))) := by
          have h1 := HB8.out.trans (hb9.mono HB8.out.size)
          exact ((HFq.out.mono h1).alloc _).below
        have hgw : w.heap.size ≤ ga := by have h1 := HFq.out.lt; have h2 := HBS.out; omega
        have hsz9 : (w9.setCell ⟨ga, 2, none⟩ (.int .i64 3)).heap.size = w9.heap.size := by simp [World.setCell]
        have hcA2 : ((w9.setCell ⟨ga, 2, none⟩ (.int .i64 3)).alloc (.cells #[.string ⟨#[114]⟩, .int .i64 1, .int .i64 3, .string ⟨zn.toArray⟩, .int .i64 (xp : Int), .int .i64 (xm : Int), .string ⟨xs.toArray⟩, .string ⟨CL.toArray⟩] 42)).heap[ga]? = some (.cells #[.string ⟨#[114]⟩, .int .i64 1, .int .i64 3, .string ⟨zn.toArray⟩, .int .i64 (xp : Int), .int .i64 (xm : Int), .string ⟨xs.toArray⟩, .string ⟨CL.toArray⟩] 42 (0, 0)) := (Below.heap_alloc _ _ _ (by rw [hsz9]; exact hl9)).trans (heap_setCell_same _ ga 2 _ _ _ hc9)
        have hcB2 : ((w9.setCell ⟨ga, 2, none⟩ (.int .i64 3)).alloc (.cells #[.string ⟨#[114]⟩, .int .i64 1, .int .i64 3, .string ⟨zn.toArray⟩, .int .i64 (xp : Int), .int .i64 (xm : Int), .string ⟨xs.toArray⟩, .string ⟨CL.toArray⟩] 42)).heap[w9.heap.size]? = some (.cells #[.string ⟨#[114]⟩, .int .i64 1, .int .i64 3, .string ⟨zn.toArray⟩, .int .i64 (xp : Int), .int .i64 (xm : Int), .string ⟨xs.toArray⟩, .string ⟨CL.toArray⟩] 42 (0, 0)) := by have h := heap_alloc_new (w9.setCell ⟨ga, 2, none⟩ (.int .i64 3)) (.cells #[.string ⟨#[114]⟩, .int .i64 1, .int .i64 3, .string ⟨zn.toArray⟩, .int .i64 (xp : Int), .int .i64 (xm : Int), .string ⟨xs.toArray⟩, .string ⟨CL.toArray⟩] 42); rw [hsz9] at h; exact h
        have A0 : ((w9.setCell ⟨ga, 2, none⟩ (.int .i64 3)).alloc (.cells #[.string ⟨#[114]⟩, .int .i64 1, .int .i64 3, .string ⟨zn.toArray⟩, .int .i64 (xp : Int), .int .i64 (xm : Int), .string ⟨xs.toArray⟩, .string ⟨CL.toArray⟩] 42)).cell? ⟨ga, 0, none⟩ = some (.string ⟨#[114]⟩) := cell_of_row _ _ 0 _ _ _ hcA2
        have B0 : ((w9.setCell ⟨ga, 2, none⟩ (.int .i64 3)).alloc (.cells #[.string ⟨#[114]⟩, .int .i64 1, .int .i64 3, .string ⟨zn.toArray⟩, .int .i64 (xp : Int), .int .i64 (xm : Int), .string ⟨xs.toArray⟩, .string ⟨CL.toArray⟩] 42)).cell? ⟨w9.heap.size, 0, none⟩ = some (.string ⟨#[114]⟩) := cell_of_row _ _ 0 _ _ _ hcB2
        have A1 : ((w9.setCell ⟨ga, 2, none⟩ (.int .i64 3)).alloc (.cells #[.string ⟨#[114]⟩, .int .i64 1, .int .i64 3, .string ⟨zn.toArray⟩, .int .i64 (xp : Int), .int .i64 (xm : Int), .string ⟨xs.toArray⟩, .string ⟨CL.toArray⟩] 42)).cell? ⟨ga, 1, none⟩ = some (.int .i64 1) := cell_of_row _ _ 1 _ _ _ hcA2
        have B1 : ((w9.setCell ⟨ga, 2, none⟩ (.int .i64 3)).alloc (.cells #[.string ⟨#[114]⟩, .int .i64 1, .int .i64 3, .string ⟨zn.toArray⟩, .int .i64 (xp : Int), .int .i64 (xm : Int), .string ⟨xs.toArray⟩, .string ⟨CL.toArray⟩] 42)).cell? ⟨w9.heap.size, 1, none⟩ = some (.int .i64 1) := cell_of_row _ _ 1 _ _ _ hcB2
        have A2 : ((w9.setCell ⟨ga, 2, none⟩ (.int .i64 3)).alloc (.cells #[.string ⟨#[114]⟩, .int .i64 1, .int .i64 3, .string ⟨zn.toArray⟩, .int .i64 (xp : Int), .int .i64 (xm : Int), .string ⟨xs.toArray⟩, .string ⟨CL.toArray⟩] 42)).cell? ⟨ga, 2, none⟩ = some (.int .i64 3) := cell_of_row _ _ 2 _ _ _ hcA2
        have B2 : ((w9.setCell ⟨ga, 2, none⟩ (.int .i64 3)).alloc (.cells #[.string ⟨#[114]⟩, .int .i64 1, .int .i64 3, .string ⟨zn.toArray⟩, .int .i64 (xp : Int), .int .i64 (xm : Int), .string ⟨xs.toArray⟩, .string ⟨CL.toArray⟩] 42)).cell? ⟨w9.heap.size, 2, none⟩ = some (.int .i64 3) := cell_of_row _ _ 2 _ _ _ hcB2
        have A3 : ((w9.setCell ⟨ga, 2, none⟩ (.int .i64 3)).alloc (.cells #[.string ⟨#[114]⟩, .int .i64 1, .int .i64 3, .string ⟨zn.toArray⟩, .int .i64 (xp : Int), .int .i64 (xm : Int), .string ⟨xs.toArray⟩, .string ⟨CL.toArray⟩] 42)).cell? ⟨ga, 3, none⟩ = some (.string ⟨zn.toArray⟩) := cell_of_row _ _ 3 _ _ _ hcA2
        have B3 : ((w9.setCell ⟨ga, 2, none⟩ (.int .i64 3)).alloc (.cells #[.string ⟨#[114]⟩, .int .i64 1, .int .i64 3, .string ⟨zn.toArray⟩, .int .i64 (xp : Int), .int .i64 (xm : Int), .string ⟨xs.toArray⟩, .string ⟨CL.toArray⟩] 42)).cell? ⟨w9.heap.size, 3, none⟩ = some (.string ⟨zn.toArray⟩) := cell_of_row _ _ 3 _ _ _ hcB2
        have A4 : ((w9.setCell ⟨ga, 2, none⟩ (.int .i64 3)).alloc (.cells #[.string ⟨#[114]⟩, .int .i64 1, .int .i64 3, .string ⟨zn.toArray⟩, .int .i64 (xp : Int), .int .i64 (xm : Int), .string ⟨xs.toArray⟩, .string ⟨CL.toArray⟩] 42)).cell? ⟨ga, 4, none⟩ = some (.int .i64 (xp : Int)) := cell_of_row _ _ 4 _ _ _ hcA2
        have B4 : ((w9.setCell ⟨ga, 2, none⟩ (.int .i64 3)).alloc (.cells #[.string ⟨#[114]⟩, .int .i64 1, .int .i64 3, .string ⟨zn.toArray⟩, .int .i64 (xp : Int), .int .i64 (xm : Int), .string ⟨xs.toArray⟩, .string ⟨CL.toArray⟩] 42)).cell? ⟨w9.heap.size, 4, none⟩ = some (.int .i64 (xp : Int)) := cell_of_row _ _ 4 _ _ _ hcB2
        have A5 : ((w9.setCell ⟨ga, 2, none⟩ (.int .i64 3)).alloc (.cells #[.string ⟨#[114]⟩, .int .i64 1, .int .i64 3, .string ⟨zn.toArray⟩, .int .i64 (xp : Int), .int .i64 (xm : Int), .string ⟨xs.toArray⟩, .string ⟨CL.toArray⟩] 42)).cell? ⟨ga, 5, none⟩ = some (.int .i64 (xm : Int)) := cell_of_row _ _ 5 _ _ _ hcA2
        have B5 : ((w9.setCell ⟨ga, 2, none⟩ (.int .i64 3)).alloc (.cells #[.string ⟨#[114]⟩, .int .i64 1, .int .i64 3, .string ⟨zn.toArray⟩, .int .i64 (xp : Int), .int .i64 (xm : Int), .string ⟨xs.toArray⟩, .string ⟨CL.toArray⟩] 42)).cell? ⟨w9.heap.size, 5, none⟩ = some (.int .i64 (xm : Int)) := cell_of_row _ _ 5 _ _ _ hcB2
        have A6 : ((w9.setCell ⟨ga, 2, none⟩ (.int .i64 3)).alloc (.cells #[.string ⟨#[114]⟩, .int .i64 1, .int .i64 3, .string ⟨zn.toArray⟩, .int .i64 (xp : Int), .int .i64 (xm : Int), .string ⟨xs.toArray⟩, .string ⟨CL.toArray⟩] 42)).cell? ⟨ga, 6, none⟩ = some (.string ⟨xs.toArray⟩) := cell_of_row _ _ 6 _ _ _ hcA2
        have B6 : ((w9.setCell ⟨ga, 2, none⟩ (.int .i64 3)).alloc (.cells #[.string ⟨#[114]⟩, .int .i64 1, .int .i64 3, .string ⟨zn.toArray⟩, .int .i64 (xp : Int), .int .i64 (xm : Int), .string ⟨xs.toArray⟩, .string ⟨CL.toArray⟩] 42)).cell? ⟨w9.heap.size, 6, none⟩ = some (.string ⟨xs.toArray⟩) := cell_of_row _ _ 6 _ _ _ hcB2
        have A7 : ((w9.setCell ⟨ga, 2, none⟩ (.int .i64 3)).alloc (.cells #[.string ⟨#[114]⟩, .int .i64 1, .int .i64 3, .string ⟨zn.toArray⟩, .int .i64 (xp : Int), .int .i64 (xm : Int), .string ⟨xs.toArray⟩, .string ⟨CL.toArray⟩] 42)).cell? ⟨ga, 7, none⟩ = some (.string ⟨CL.toArray⟩) := cell_of_row _ _ 7 _ _ _ hcA2
        have B7 : ((w9.setCell ⟨ga, 2, none⟩ (.int .i64 3)).alloc (.cells #[.string ⟨#[114]⟩, .int .i64 1, .int .i64 3, .string ⟨zn.toArray⟩, .int .i64 (xp : Int), .int .i64 (xm : Int), .string ⟨xs.toArray⟩, .string ⟨CL.toArray⟩] 42)).cell? ⟨w9.heap.size, 7, none⟩ = some (.string ⟨CL.toArray⟩) := cell_of_row _ _ 7 _ _ _ hcB2
        have HBY : Hid (Below w.heap.size w ((w9.setCell ⟨ga, 2, none⟩ (.int .i64 3)).alloc (.cells #[.string ⟨#[114]⟩, .int .i64 1, .int .i64 3, .string ⟨zn.toArray⟩, .int .i64 (xp : Int), .int .i64 (xm : Int), .string ⟨xs.toArray⟩, .string ⟨CL.toArray⟩] 42))) := by
          have h1 := (HFq.out.mono (HB8.out.trans (hb9.mono HB8.out.size))).below
          exact (h1.setCell (p := ⟨ga, 2, none⟩) hgw _).alloc (by rw [hsz9]; exact h1.size) _
        clear hsz9
        clear hcA2 hcB2
        have heq := Kp.eql_rec
        clear hb8 hb9 hc8 hc9 hl8 hcA hcB HA2 HTU HC7 HB7 HB8 hga
        go_wp2_with (go_at_call 23; refine (kswapped_any _ _).mono ?_; rintro e w' ⟨rfl, hw⟩; subst w')
        go_ret
        exact ⟨rfl, HBY.out⟩
      · have h : xn = 2 := e1
        subst h
        have h := h9
        clear h9 e1 hst
        have hE : R2 = Al.turnR R1 := HRR.out
        rw [h] at hE
        have v1 : R1.vals = #[.string ⟨#[114]⟩, .int .i64 1, .int .i64 2, .string ⟨zn.toArray⟩, .int .i64 (xp : Int), .int .i64 (xm : Int), .string ⟨xs.toArray⟩, .string ⟨CL.toArray⟩] := by rw [h]; rfl
        have v2 : R2.vals = #[.string ⟨#[114]⟩, .int .i64 1, .int .i64 4, .string ⟨zn.toArray⟩, .int .i64 (xp : Int), .int .i64 (xm : Int), .string ⟨xs.toArray⟩, .string ⟨CL.toArray⟩] := by rw [hE]; rfl
        rw [v1] at HA1
        rw [v2] at HA2
        clear v1 v2 hE h HO1 HRR
        go_wp2_with fail
        refine (HA1.out _ (by exact Below.refl _ _)).mono ?_
        rintro e w7 ⟨rfl, hb7⟩
        have HBS : Hid (w5.heap.size ≤ w7.heap.size) := hb7.size
        have HB7 : Hid (Below w5.heap.size w5 (w7.alloc (.cells #[.string ⟨#[114]⟩, .int .i64 1, .int .i64 2, .string ⟨zn.toArray⟩, .int .i64 (xp : Int), .int .i64 (xm : Int), .string ⟨xs.toArray⟩, .string ⟨CL.toArray⟩] 42))) := hb7.alloc hb7.size _
        have HC7 : Hid _ := heap_alloc_new w7 (.cells #[.string ⟨#[114]⟩, .int .i64 1, .int .i64 2, .string ⟨zn.toArray⟩, .int .i64 (xp : Int), .int .i64 (xm : Int), .string ⟨xs.toArray⟩, .string ⟨CL.toArray⟩] 42)
        clear hb7 HA1
        go_wp2_with fail
        refine (HTU.out _).mono ?_
        rintro e w8 ⟨rfl, hb8⟩
        have HB8 : Hid (Below w5.heap.size w5 w8) := HB7.out.trans (hb8.mono HB7.out.size)
        go_wp2_with fail
        refine (HA2.out _ (by exact HB8.out)).mono ?_
        rintro e w9 ⟨rfl, hb9⟩
        have hc8 : w8.heap[w7.heap.size]? = some (.cells #[.string ⟨#[114]⟩, .int .i64 1, .int .i64 2, .string ⟨zn.toArray⟩, .int .i64 (xp : Int), .int .i64 (xm : Int), .string ⟨xs.toArray⟩, .string ⟨CL.toArray⟩] 42 (0, 0)) := (hb8.block _ (by simp)).trans HC7.out
        generalize hga : w7.heap.size = ga at *
        have hl8 : ga < w8.heap.size := (Array.getElem?_eq_some_iff.1 hc8).1
        have hc9 : w9.heap[ga]? = some (.cells #[.string ⟨#[114]⟩, .int .i64 1, .int .i64 2, .string ⟨zn.toArray⟩, .int .i64 (xp : Int), .int .i64 (xm : Int), .string ⟨xs.toArray⟩, .string ⟨CL.toArray⟩] 42 (0, 0)) := (hb9.block _ hl8).trans hc8
        have hl9 : ga < w9.heap.size := (Array.getElem?_eq_some_iff.1 hc9).1
        have hcA : (w9.alloc (.cells #[.string ⟨#[114]⟩, .int .i64 1, .int .i64 4, .string ⟨zn.toArray⟩, .int .i64 (xp : Int), .int .i64 (xm : Int), .string ⟨xs.toArray⟩, .string ⟨CL.toArray⟩] 42)).heap[ga]? = some (.cells #[.string ⟨#[114]⟩, .int .i64 1, .int .i64 2, .string ⟨zn.toArray⟩, .int .i64 (xp : Int), .int .i64 (xm : Int), .string ⟨xs.toArray⟩, .string ⟨CL.toArray⟩] 42 (0, 0)) := (Below.heap_alloc _ _ _ hl9).trans hc9
        have hcB : (w9.alloc (.cells #[.string ⟨#[114]⟩, .int .i64 1, .int .i64 4, .string ⟨zn.toArray⟩, .int .i64 (xp : Int), .int .i64 (xm : Int), .string ⟨xs.toArray⟩, .string ⟨CL.toArray⟩] 42)).heap[w9.heap.size]? = some (.cells #[.string ⟨#[114]⟩, .int .i64 1, .int .i64 4, .string ⟨zn.toArray⟩, .int .i64 (xp : Int), .int .i64 (xm : Int), .string ⟨xs.toArray⟩, .string ⟨CL.toArray⟩] 42 (0, 0)) := heap_alloc_new w9 _
        have a0 : (w9.alloc (.cells #[.string ⟨#[114]⟩, .int .i64 1, .int .i64 4, .string ⟨zn.toArray⟩, .int .i64 (xp : Int), .int .i64 (xm : Int), .string ⟨xs.toArray⟩, .string ⟨CL.toArray⟩] 42)).cell? ⟨ga, 0, none⟩ = some (.string ⟨#[114]⟩) := cell_of_row _ _ 0 _ _ _ hcA
        have b0 : (w9.alloc (.cells #[.string ⟨#[114]⟩, .int .i64 1, .int .i64 4, .string ⟨zn.toArray⟩, .int .i64 (xp : Int), .int .i64 (xm : Int), .string ⟨xs.toArray⟩, .string ⟨CL.toArray⟩] 42)).cell? ⟨w9.heap.size, 0, none⟩ = some (.string ⟨#[114]⟩) := cell_of_row _ _ 0 _ _ _ hcB
        have a1 : (w9.alloc (.cells #[.string ⟨#[114]⟩, .int .i64 1, .int .i64 4, .string ⟨zn.toArray⟩, .int .i64 (xp : Int), .int .i64 (xm : Int), .string ⟨xs.toArray⟩, .string ⟨CL.toArray⟩] 42)).cell? ⟨ga, 1, none⟩ = some (.int .i64 1) := cell_of_row _ _ 1 _ _ _ hcA
        have b1 : (w9.alloc (.cells #[.string ⟨#[114]⟩, .int .i64 1, .int .i64 4, .string ⟨zn.toArray⟩, .int .i64 (xp : Int), .int .i64 (xm : Int), .string ⟨xs.toArray⟩, .string ⟨CL.toArray⟩] 42)).cell? ⟨w9.heap.size, 1, none⟩ = some (.int .i64 1) := cell_of_row _ _ 1 _ _ _ hcB
        have a2 : (w9.alloc (.cells #[.string ⟨#[114]⟩, .int .i64 1, .int .i64 4, .string ⟨zn.toArray⟩, .int .i64 (xp : Int), .int .i64 (xm : Int), .string ⟨xs.toArray⟩, .string ⟨CL.toArray⟩] 42)).cell? ⟨ga, 2, none⟩ = some (.int .i64 2) := cell_of_row _ _ 2 _ _ _ hcA
        have b2 : (w9.alloc (.cells #[.string ⟨#[114]⟩, .int .i64 1, .int .i64 4, .string ⟨zn.toArray⟩, .int .i64 (xp : Int), .int .i64 (xm : Int), .string ⟨xs.toArray⟩, .string ⟨CL.toArray⟩] 42)).cell? ⟨w9.heap.size, 2, none⟩ = some (.int .i64 4) := cell_of_row _ _ 2 _ _ _ hcB
        have a3 : (w9.alloc (.cells #[.string ⟨#[114]⟩, .int .i64 1, .int .i64 4, .string ⟨zn.toArray⟩, .int .i64 (xp : Int), .int .i64 (xm : Int), .string ⟨xs.toArray⟩, .string ⟨CL.toArray⟩] 42)).cell? ⟨ga, 3, none⟩ = some (.string ⟨zn.toArray⟩) := cell_of_row _ _ 3 _ _ _ hcA
        have b3 : (w9.alloc (.cells #[.string ⟨#[114]⟩, .int .i64 1, .int .i64 4, .string ⟨zn.toArray⟩, .int .i64 (xp : Int), .int .i64 (xm : Int), .string ⟨xs.toArray⟩, .string ⟨CL.toArray⟩] 42)).cell? ⟨w9.heap.size, 3, none⟩ = some (.string ⟨zn.toArray⟩) := cell_of_row _ _ 3 _ _ _ hcB
        have a4 : (w9.alloc (.cells #[.string ⟨#[114]⟩, .int .i64 1, .int .i64 4, .string ⟨zn.toArray⟩, .int .i64 (xp : Int), .int .i64 (xm : Int), .string ⟨xs.toArray⟩, .string ⟨CL.toArray⟩] 42)).cell? ⟨ga, 4, none⟩ = some (.int .i64 (xp : Int)) := cell_of_row _ _ 4 _ _ _ hcA
        have b4 : (w9.alloc (.cells #[.string ⟨#[114]⟩, .int .i64 1, .int .i64 4, .string ⟨zn.toArray⟩, .int .i64 (xp : Int), .int .i64 (xm : Int), .string ⟨xs.toArray⟩, .string ⟨CL.toArray⟩] 42)).cell? ⟨w9.heap.size, 4, none⟩ = some (.int .i64 (xp : Int)) := cell_of_row _ _ 4 _ _ _ hcB
        have a5 : (w9.alloc (.cells #[.string ⟨#[114]⟩, .int .i64 1, .int .i64 4, .string ⟨zn.toArray⟩, .int .i64 (xp : Int), .int .i64 (xm : Int), .string ⟨xs.toArray⟩, .string ⟨CL.toArray⟩] 42)).cell? ⟨ga, 5, none⟩ = some (.int .i64 (xm : Int)) := cell_of_row _ _ 5 _ _ _ hcA
        have b5 : (w9.alloc (.cells #[.string ⟨#[114]⟩, .int .i64 1, .int .i64 4, .string ⟨zn.toArray⟩, .int .i64 (xp : Int), .int .i64 (xm : Int), .string ⟨xs.toArray⟩, .string ⟨CL.toArray⟩] 42)).cell? ⟨w9.heap.size, 5, none⟩ = some (.int .i64 (xm : Int)) := cell_of_row _ _ 5 _ _ _ hcB
        have a6 : (w9.alloc (.cells #[.string ⟨#[114]⟩, .int .i64 1, .int .i64 4, .string ⟨zn.toArray⟩, .int .i64 (xp : Int), .int .i64 (xm : Int), .string ⟨xs.toArray⟩, .string ⟨CL.toArray⟩] 42)).cell? ⟨ga, 6, none⟩ = some (.string ⟨xs.toArray⟩) := cell_of_row _ _ 6 _ _ _ hcA
        have b6 : (w9.alloc (.cells #[.string ⟨#[114]⟩, .int .i64 1, .int .i64 4, .string ⟨zn.toArray⟩, .int .i64 (xp : Int), .int .i64 (xm : Int), .string ⟨xs.toArray⟩, .string ⟨CL.toArray⟩] 42)).cell? ⟨w9.heap.size, 6, none⟩ = some (.string ⟨xs.toArray⟩) := cell_of_row _ _ 6 _ _ _ hcB
        have a7 : (w9.alloc (.cells #[.string ⟨#[114]⟩, .int .i64 1, .int .i64 4, .string ⟨zn.toArray⟩, .int .i64 (xp : Int), .int .i64 (xm : Int), .string ⟨xs.toArray⟩, .string ⟨CL.toArray⟩] 42)).cell? ⟨ga, 7, none⟩ = some (.string ⟨CL.toArray⟩) := cell_of_row _ _ 7 _ _ _ hcA
        have b7 : (w9.alloc (.cells #[.string ⟨#[114]⟩, .int .i64 1, .int .i64 4, .string ⟨zn.toArray⟩, .int .i64 (xp : Int), .int .i64 (xm : Int), .string ⟨xs.toArray⟩, .string ⟨CL.toArray⟩] 42)).cell? ⟨w9.heap.size, 7, none⟩ = some (.string ⟨CL.toArray⟩) := cell_of_row _ _ 7 _ _ _ hcB
        have f2 : (w9.alloc (.cells #[.string ⟨#[114]⟩, .int .i64 1, .int .i64 4, .string ⟨zn.toArray⟩, .int .i64 (xp : Int), .int .i64 (xm : Int), .string ⟨xs.toArray⟩, .string ⟨CL.toArray⟩] 42)).frozen? ⟨ga, 2, none⟩ = false := frozen_of_row _ _ 2 _ _ hcA
        have hne : ga ≠ w9.heap.size := by omega
        have hne' : w9.heap.size ≠ ga := by omega
        have HBZ : Hid (Below w.heap.size w (w9.alloc (.cells #[.string ⟨#[114]⟩, .int .i64 1, .int .i64 4, .string ⟨zn.toArray⟩, .int .i64 (xp : Int), .int .i64 (xm : Int), .string ⟨xs.toArray⟩, .string ⟨CL.toArray⟩] 42))) := by
          have h1 := HB8.out.trans (hb9.mono HB8.out.size)
          exact ((HFq.out.mono h1).alloc _).below
        have hgw : w.heap.size ≤ ga := by have h1 := HFq.out.lt; have h2 := HBS.out; omega
        have hsz9 : (w9.setCell ⟨ga, 2, none⟩ (.int .i64 4)).heap.size = w9.heap.size := by simp [World.setCell]
        have hcA2 : ((w9.setCell ⟨ga, 2, none⟩ (.int .i64 4)).alloc (.cells #[.string ⟨#[114]⟩, .int .i64 1, .int .i64 4, .string ⟨zn.toArray⟩, .int .i64 (xp : Int), .int .i64 (xm : Int), .string ⟨xs.toArray⟩, .string ⟨CL.toArray⟩] 42)).heap[ga]? = some (.cells #[.string ⟨#[114]⟩, .int .i64 1, .int .i64 4, .string ⟨zn.toArray⟩, .int .i64 (xp : Int), .int .i64 (xm : Int), .string ⟨xs.toArray⟩, .string ⟨CL.toArray⟩] 42 (0, 0)) := (Below.heap_alloc _ _ _ (by rw [hsz9]; exact hl9)).trans (heap_setCell_same _ ga 2 _ _ _ hc9)
        have hcB2 : ((w9.setCell ⟨ga, 2, none⟩ (.int .i64 4)).alloc (.cells #[.string ⟨#[114]⟩, .int .i64 1, .int .i64 4, .string ⟨zn.toArray⟩, .int .i64 (xp : Int), .int .i64 (xm : Int), .string ⟨xs.toArray⟩, .string ⟨CL.toArray⟩] 42)).heap[w9.heap.size]? = some (.cells #[.string ⟨#[114]⟩, .int .i64 1, .int .i64 4, .string ⟨zn.toArray⟩, .int .i64 (xp : Int), .int .i64 (xm : Int), .string ⟨xs.toArray⟩, .string ⟨CL.toArray⟩] 42 (0, 0)) := by have h := heap_alloc_new (w9.setCell ⟨ga, 2, none⟩ (.int .i64 4)) (.cells #[.string ⟨#[114]⟩, .int .i64 1, .int .i64 4, .string ⟨zn.toArray⟩, .int .i64 (xp : Int), .int .i64 (xm : Int), .string ⟨xs.toArray⟩, .string ⟨CL.toArray⟩] 42); rw [hsz9] at h; exact h
        have A0 : ((w9.setCell ⟨ga, 2, none⟩ (.int .i64 4)).alloc (.cells #[.string ⟨#[114]⟩, .int .i64 1, .int .i64 4, .string ⟨zn.toArray⟩, .int .i64 (xp : Int), .int .i64 (xm : Int), .string ⟨xs.toArray⟩, .string ⟨CL.toArray⟩] 42)).cell? ⟨ga, 0, none⟩ = some (.string ⟨#[114]⟩) := cell_of_row _ _ 0 _ _ _ hcA2
        have B0 : ((w9.setCell ⟨ga, 2, none⟩ (.int .i64 4)).alloc (.cells #[.string ⟨#[114]⟩, .int .i64 1, .int .i64 4, .string ⟨zn.toArray⟩, .int .i64 (xp : Int), .int .i64 (xm : Int), .string ⟨xs.toArray⟩, .string ⟨CL.toArray⟩] 42)).cell? ⟨w9.heap.size, 0, none⟩ = some (.string ⟨#[114]⟩) := cell_of_row _ _ 0 _ _ _ hcB2
        have A1 : ((w9.setCell ⟨ga, 2, none⟩ (.int .i64 4)).alloc (.cells #[.string ⟨#[114]⟩, .int .i64 1, .int .i64 4, .string ⟨zn.toArray⟩, .int .i64 (xp : Int), .int .i64 (xm : Int), .string ⟨xs.toArray⟩, .string ⟨CL.toArray⟩] 42)).cell? ⟨ga, 1, none⟩ = some (.int .i64 1) := cell_of_row _ _ 1 _ _ _ hcA2
        have B1 : ((w9.setCell ⟨ga, 2, none⟩ (.int .i64 4)).alloc (.cells #[.string ⟨#[114]⟩, .int .i64 1, .int .i64 4, .string ⟨zn.toArray⟩, .int .i64 (xp : Int), .int .i64 (xm : Int), .string ⟨xs.toArray⟩, .string ⟨CL.toArray⟩] 42)).cell? ⟨w9.heap.size, 1, none⟩ = some (.int .i64 1) := cell_of_row _ _ 1 _ _ _ hcB2
        have A2 : ((w9.setCell ⟨ga, 2, none⟩ (.int .i64 4)).alloc (.cells #[.string ⟨#[114]⟩, .int .i64 1, .int .i64 4, .string ⟨zn.toArray⟩, .int .i64 (xp : Int), .int .i64 (xm : Int), .string ⟨xs.toArray⟩, .string ⟨CL.toArray⟩] 42)).cell? ⟨ga, 2, none⟩ = some (.int .i64 4) := cell_of_row _ _ 2 _ _ _ hcA2
        have B2 : ((w9.setCell ⟨ga, 2, none⟩ (.int .i64 4)).alloc (.cells #[.string ⟨#[114]⟩, .int .i64 1, .int .i64 4, .string ⟨zn.toArray⟩, .int .i64 (xp : Int), .int .i64 (xm : Int), .string ⟨xs.toArray⟩, .string ⟨CL.toArray⟩] 42)).cell? ⟨w9.heap.size, 2, none⟩ = some (.int .i64 4) := cell_of_row _ _ 2 _ _ _ hcB2
        have A3 : ((w9.setCell ⟨ga, 2, none⟩ (.int .i64 4)).alloc (.cells #[.string ⟨#[114]⟩, .int .i64 1, .int .i64 4, .string ⟨zn.toArray⟩, .int .i64 (xp : Int), .int .i64 (xm : Int), .string ⟨xs.toArray⟩, .string ⟨CL.toArray⟩] 42)).cell? ⟨ga, 3, none⟩ = some (.string ⟨zn.toArray⟩) := cell_of_row _ _ 3 _ _ _ hcA2
        have B3 : ((w9.setCell ⟨ga, 2, none⟩ (.int .i64 4)).alloc (.cells #[.string ⟨#[114]⟩, .int .i64 1, .int .i64 4, .string ⟨zn.toArray⟩, .int .i64 (xp : Int), .int .i64 (xm : Int), .string ⟨xs.toArray⟩, .string ⟨CL.toArray⟩] 42)).cell? ⟨w9.heap.size, 3, none⟩ = some (.string ⟨zn.toArray⟩) := cell_of_row _ _ 3 _ _ _ hcB2
        have A4 : ((w9.setCell ⟨ga, 2, none⟩ (.int .i64 4)).alloc (.cells #[.string ⟨#[114]⟩, .int .i64 1, .int .i64 4, .string ⟨zn.toArray⟩, .int .i64 (xp : Int), .int .i64 (xm : Int), .string ⟨xs.toArray⟩, .string ⟨CL.toArray⟩] 42)).cell? ⟨ga, 4, none⟩ = some (.int .i64 (xp : Int)) := cell_of_row _ _ 4 _ _ _ hcA2
        have B4 : ((w9.setCell ⟨ga, 2, none⟩ (.int .i64 4)).alloc (.cells #[.string ⟨#[114]⟩, .int .i64 1, .int .i64 4, .string ⟨zn.toArray⟩, .int .i64 (xp : Int), .int .i64 (xm : Int), .string ⟨xs.toArray⟩, .string ⟨CL.toArray⟩] 42)).cell? ⟨w9.heap.size, 4, none⟩ = some (.int .i64 (xp : Int)) := cell_of_row _ _ 4 _ _ _ hcB2
        have A5 : ((w9.setCell ⟨ga, 2, none⟩ (.int .i64 4)).alloc (.cells #[.string ⟨#[114]⟩, .int .i64 1, .int .i64 4, .string ⟨zn.toArray⟩, .int .i64 (xp : Int), .int .i64 (xm : Int), .string ⟨xs.toArray⟩, .string ⟨CL.toArray⟩] 42)).cell? ⟨ga, 5, none⟩ = some (.int .i64 (xm : Int)) := cell_of_row _ _ 5 _ _ _ hcA2
        have B5 : ((w9.setCell ⟨ga, 2, none⟩ (.int .i64 4)).alloc (.cells #[.string ⟨#[114]⟩, .int .i64 1, .int .i64 4, .string ⟨zn.toArray⟩, .int .i64 (xp : Int), .int .i64 (xm : Int), .string ⟨xs.toArray⟩, .string ⟨CL.toArray⟩] 42)).cell? ⟨w9.heap.size, 5, none⟩ = some (.int .i64 (xm : Int)) := cell_of_row _ _ 5 _ _ _ hcB2
        have A6 : ((w9.setCell ⟨ga, 2, none⟩ (.int .i64 4)).alloc (.cells #[.string ⟨#[114]⟩, .int .i64 1, .int .i64 4, .string ⟨zn.toArray⟩, .int .i64 (xp : Int), .int .i64 (xm : Int), .string ⟨xs.toArray⟩, .string ⟨CL.toArray⟩] 42)).cell? ⟨ga, 6, none⟩ = some (.string ⟨xs.toArray⟩) := cell_of_row _ _ 6 _ _ _ hcA2
        have B6 : ((w9.setCell ⟨ga, 2, none⟩ (.int .i64 4)).alloc (.cells #[.string ⟨#[114]⟩, .int .i64 1, .int .i64 4, .string ⟨zn.toArray⟩, .int .i64 (xp : Int), .int .i64 (xm : Int), .string ⟨xs.toArray⟩, .string ⟨CL.toArray⟩] 42)).cell? ⟨w9.heap.size, 6, none⟩ = some (.string ⟨xs.toArray⟩) := cell_of_row _ _ 6 _ _ _ hcB2
        have A7 : ((w9.setCell ⟨ga, 2, none⟩ (.int .i64 4)).alloc (.cells #[.string ⟨#[114]⟩, .int .i64 1, .int .i64 4, .string ⟨zn.toArray⟩, .int .i64 (xp : Int), .int .i64 (xm : Int), .string ⟨xs.toArray⟩, .string ⟨CL.toArray⟩] 42)).cell? ⟨ga, 7, none⟩ = some (.string ⟨CL.toArray⟩) := cell_of_row _ _ 7 _ _ _ hcA2
        have B7 : ((w9.setCell ⟨ga, 2, none⟩ (.int .i64 4)).alloc (.cells #[.string ⟨#[114]⟩, .int .i64 1, .int .i64 4, .string ⟨zn.toArray⟩, .int .i64 (xp : Int), .int .i64 (xm : Int), .string ⟨xs.toArray⟩, .string ⟨CL.toArray⟩] 42)).cell? ⟨w9.heap.size, 7, none⟩ = some (.string ⟨CL.toArray⟩) := cell_of_row _ _ 7 _ _ _ hcB2
        have HBY : Hid (Below w.heap.size w ((w9.setCell ⟨ga, 2, none⟩ (.int .i64 4)).alloc (.cells #[.string ⟨#[114]⟩, .int .i64 1, .int .i64 4, .string ⟨zn.toArray⟩, .int .i64 (xp : Int), .int .i64 (xm : Int), .string ⟨xs.toArray⟩, .string ⟨CL.toArray⟩] 42))) := by
          have h1 := (HFq.out.mono (HB8.out.trans (hb9.mono HB8.out.size))).below
          exact (h1.setCell (p := ⟨ga, 2, none⟩) hgw _).alloc (by rw [hsz9]; exact h1.size) _
        clear hsz9
        clear hcA2 hcB2
        have heq := Kp.eql_rec
        clear hb8 hb9 hc8 hc9 hl8 hcA hcB HA2 HTU HC7 HB7 HB8 hga
        go_wp2_with (go_at_call 23; refine (kswapped_any _ _).mono ?_; rintro e w' ⟨rfl, hw⟩; subst w')
        go_ret
        exact ⟨rfl, HBY.out⟩
      · have h : xn = 3 := e1
        subst h
        have h := h9
        clear h9 e1 hst
        have hE : R2 = Al.turnR R1 := HRR.out
        rw [h] at hE
        have v1 : R1.vals = #[.string ⟨#[114]⟩, .int .i64 1, .int .i64 3, .string ⟨zn.toArray⟩, .int .i64 (xp : Int), .int .i64 (xm : Int), .string ⟨xs.toArray⟩, .string ⟨CL.toArray⟩] := by rw [h]; rfl
        have v2 : R2.vals = #[.string ⟨#[114]⟩, .int .i64 1, .int .i64 1, .string ⟨zn.toArray⟩, .int .i64 (xp : Int), .int .i64 (xm : Int), .string ⟨xs.toArray⟩, .string ⟨CL.toArray⟩] := by rw [hE]; rfl
        rw [v1] at HA1
        rw [v2] at HA2
        clear v1 v2 hE h HO1 HRR
        go_wp2_with fail
        refine (HA1.out _ (by exact Below.refl _ _)).mono ?_
        rintro e w7 ⟨rfl, hb7⟩
        have HBS : Hid (w5.heap.size ≤ w7.heap.size) := hb7.size
        have HB7 : Hid (Below w5.heap.size w5 (w7.alloc (.cells #[.string ⟨#[114]⟩, .int .i64 1, .int .i64 3, .string ⟨zn.toArray⟩, .int .i64 (xp : Int), .int .i64 (xm : Int), .string ⟨xs.toArray⟩, .string ⟨CL.toArray⟩] 42))) := hb7.alloc hb7.size _
        have HC7 : Hid _ := heap_alloc_new w7 (.cells #[.string ⟨#[114]⟩, .int .i64 1, .int .i64 3, .string ⟨zn.toArray⟩, .int .i64 (xp : Int), .int .i64 (xm : Int), .string ⟨xs.toArray⟩, .string ⟨CL.toArray⟩] 42)
        clear hb7 HA1
        go_wp2_with fail
        refine (HTU.out _).mono ?_
        rintro e w8 ⟨rfl, hb8⟩
        have HB8 : Hid (Below w5.heap.size w5 w8) := HB7.out.trans (hb8.mono HB7.out.size)
        go_wp2_with fail
        refine (HA2.out _ (by exact HB8.out)).mono ?_
        rintro e w9 ⟨rfl, hb9⟩
        have hc8 : w8.heap[w7.heap.size]? = some (.cells #[.string ⟨#[114]⟩, .int .i64 1, .int .i64 3, .string ⟨zn.toArray⟩, .int .i64 (xp : Int), .int .i64 (xm : Int), .string ⟨xs.toArray⟩, .string ⟨CL.toArray⟩] 42 (0, 0)) := (hb8.block _ (by simp)).trans HC7.out
        generalize hga : w7.heap.size = ga at *
        have hl8 : ga < w8.heap.size := (Array.getElem?_eq_some_iff.1 hc8).1
        have hc9 : w9.heap[ga]? = some (.cells #[.string ⟨#[114]⟩, .int .i64 1, .int .i64 3, .string ⟨zn.toArray⟩, .int .i64 (xp : Int), .int .i64 (xm : Int), .string ⟨xs.toArray⟩, .string ⟨CL.toArray⟩] 42 (0, 0)) := (hb9.block _ hl8).trans hc8
        have hl9 : ga < w9.heap.size := (Array.getElem?_eq_some_iff.1 hc9).1
        have hcA : (w9.alloc (.cells #[.string ⟨#[114]⟩, .int .i64 1, .int .i64 1, .string ⟨zn.toArray⟩, .int .i64 (xp : Int), .int .i64 (xm : Int), .string ⟨xs.toArray⟩, .string ⟨CL.toArray⟩] 42)).heap[ga]? = some (.cells #[.string ⟨#[114]⟩, .int .i64 1, .int .i64 3, .string ⟨zn.toArray⟩, .int .i64 (xp : Int), .int .i64 (xm : Int), .string ⟨xs.toArray⟩, .string ⟨CL.toArray⟩] 42 (0, 0)) := (Below.heap_alloc _ _ _ hl9).trans hc9
        have hcB : (w9.alloc (.cells #[.string ⟨#[114]⟩, .int .i64 1, .int .i64 1, .string ⟨zn.toArray⟩, .int .i64 (xp : Int), .int .i64 (xm : Int), .string ⟨xs.toArray⟩, .string ⟨CL.toArray⟩] 42)).heap[w9.heap.size]? = some (.cells #[.string ⟨#[114]⟩, .int .i64 1, .int .i64 1, .string ⟨zn.toArray⟩, .int .i64 (xp : Int), .int .i64 (xm : Int), .string ⟨xs.toArray⟩, .string ⟨CL.toArray⟩] 42 (0, 0)) := heap_alloc_new w9 _
        have a0 : (w9.alloc (.cells #[.string ⟨#[114]⟩, .int .i64 1, .int .i64 1, .string ⟨zn.toArray⟩, .int .i64 (xp : Int), .int .i64 (xm : Int), .string ⟨xs.toArray⟩, .string ⟨CL.toArray⟩] 42)).cell? ⟨ga, 0, none⟩ = some (.string ⟨#[114]⟩) := cell_of_row _ _ 0 _ _ _ hcA
        have b0 : (w9.alloc (.cells #[.string ⟨#[114]⟩, .int .i64 1, .int .i64 1, .string ⟨zn.toArray⟩, .int .i64 (xp : Int), .int .i64 (xm : Int), .string ⟨xs.toArray⟩, .string ⟨CL.toArray⟩] 42)).cell? ⟨w9.heap.size, 0, none⟩ = some (.string ⟨#[114]⟩) := cell_of_row _ _ 0 _ _ _ hcB
        have a1 : (w9.alloc (.cells #[.string ⟨#[114]⟩, .int .i64 1, .int .i64 1, .string ⟨zn.toArray⟩, .int .i64 (xp : Int), .int .i64 (xm : Int), .string ⟨xs.toArray⟩, .string ⟨CL.toArray⟩] 42)).cell? ⟨ga, 1, none⟩ = some (.int .i64 1) := cell_of_row _ _ 1 _ _ _ hcA
        have b1 : (w9.alloc (.cells #[.string ⟨#[114]⟩, .int .i64 1, .int .i64 1, .string ⟨zn.toArray⟩, .int .i64 (xp : Int), .int .i64 (xm : Int), .string ⟨xs.toArray⟩, .string ⟨CL.toArray⟩] 42)).cell? ⟨w9.heap.size, 1, none⟩ = some (.int .i64 1) := cell_of_row _ _ 1 _ _ _ hcB
        have a2 : (w9.alloc (.cells #[.string ⟨#[114]⟩, .int .i64 1, .int .i64 1, .string ⟨zn.toArray⟩, .int .i64 (xp : Int), .int .i64 (xm : Int), .string ⟨xs.toArray⟩, .string ⟨CL.toArray⟩] 42)).cell? ⟨ga, 2, none⟩ = some (.int .i64 3) := cell_of_row _ _ 2 _ _ _ hcA
        have b2 : (w9.alloc (.cells #[.string ⟨#[114]⟩, .int .i64 1, .int .i64 1, .string ⟨zn.toArray⟩, .int .i64 (xp : Int), .int .i64 (xm : Int), .string ⟨xs.toArray⟩, .string ⟨CL.toArray⟩] 42)).cell? ⟨w9.heap.size, 2, none⟩ = some (.int .i64 1) := cell_of_row _ _ 2 _ _ _ hcB
        have a3 : (w9.alloc (.cells #[.string ⟨#[114]⟩, .int .i64 1, .int .i64 1, .string ⟨zn.toArray⟩, .int .i64 (xp : Int), .int .i64 (xm : Int), .string ⟨xs.toArray⟩, .string ⟨CL.toArray⟩] 42)).cell? ⟨ga, 3, none⟩ = some (.string ⟨zn.toArray⟩) := cell_of_row _ _ 3 _ _ _ hcA
        have b3 : (w9.alloc (.cells #[.string ⟨#[114]⟩, .int .i64 1, .int .i64 1, .string ⟨zn.toArray⟩, .int .i64 (xp : Int), .int .i64 (xm : Int), .string ⟨xs.toArray⟩, .string ⟨CL.toArray⟩] 42)).cell? ⟨w9.heap.size, 3, none⟩ = some (.string ⟨zn.toArray⟩) := cell_of_row _ _ 3 _ _ _ hcB
        have a4 : (w9.alloc (.cells #[.string ⟨#[114]⟩, .int .i64 1, .int .i64 1, .string ⟨zn.toArray⟩, .int .i64 (xp : Int), .int .i64 (xm : Int), .string ⟨xs.toArray⟩, .string ⟨CL.toArray⟩] 42)).cell? ⟨ga, 4, none⟩ = some (.int .i64 (xp : Int)) := cell_of_row _ _ 4 _ _ _ hcA
        have b4 : (w9.alloc (.cells #[.string ⟨#[114]⟩, .int .i64 1, .int .i64 1, .string ⟨zn.toArray⟩, .int .i64 (xp : Int), .int .i64 (xm : Int), .string ⟨xs.toArray⟩, .string ⟨CL.toArray⟩] 42)).cell? ⟨w9.heap.size, 4, none⟩ = some (.int .i64 (xp : Int)) := cell_of_row _ _ 4 _ _ _ hcB
        have a5 : (w9.alloc (.cells #[.string ⟨#[114]⟩, .int .i64 1, .int .i64 1, .string ⟨zn.toArray⟩, .int .i64 (xp : Int), .int .i64 (xm : Int), .string ⟨xs.toArray⟩, .string ⟨CL.toArray⟩] 42)).cell? ⟨ga, 5, none⟩ = some (.int .i64 (xm : Int)) := cell_of_row _ _ 5 _ _ _ hcA
        have b5 : (w9.alloc (.cells #[.string ⟨#[114]⟩, .int .i64 1, .int .i64 1, .string ⟨zn.toArray⟩, .int .i64 (xp : Int), .int .i64 (xm : Int), .string ⟨xs.toArray⟩, .string ⟨CL.toArray⟩] 42)).cell? ⟨w9.heap.size, 5, none⟩ = some (.int .i64 (xm : Int)) := cell_of_row _ _ 5 _ _ _ hcB
        have a6 : (w9.alloc (.cells #[.string ⟨#[114]⟩, .int .i64 1, .int .i64 1, .string ⟨zn.toArray⟩, .int .i64 (xp : Int), .int .i64 (xm : Int), .string ⟨xs.toArray⟩, .string ⟨CL.toArray⟩] 42)).cell? ⟨ga, 6, none⟩ = some (.string ⟨xs.toArray⟩) := cell_of_row _ _ 6 _ _ _ hcA
        have b6 : (w9.alloc (.cells #[.string ⟨#[114]⟩, .int .i64 1, .int .i64 1, .string ⟨zn.toArray⟩, .int .i64 (xp : Int), .int .i64 (xm : Int), .string ⟨xs.toArray⟩, .string ⟨CL.toArray⟩] 42)).cell? ⟨w9.heap.size, 6, none⟩ = some (.string ⟨xs.toArray⟩) := cell_of_row _ _ 6 _ _ _ hcB
        have a7 : (w9.alloc (.cells #[.string ⟨#[114]⟩, .int .i64 1, .int .i64 1, .string ⟨zn.toArray⟩, .int .i64 (xp : Int), .int .i64 (xm : Int), .string ⟨xs.toArray⟩, .string ⟨CL.toArray⟩] 42)).cell? ⟨ga, 7, none⟩ = some (.string ⟨CL.toArray⟩) := cell_of_row _ _ 7 _ _ _ hcA
        have b7 : (w9.alloc (.cells #[.string ⟨#[114]⟩, .int .i64 1, .int .i64 1, .string ⟨zn.toArray⟩, .int .i64 (xp : Int), .int .i64 (xm : Int), .string ⟨xs.toArray⟩, .string ⟨CL.toArray⟩] 42)).cell? ⟨w9.heap.size, 7, none⟩ = some (.string ⟨CL.toArray⟩) := cell_of_row _ _ 7 _ _ _ hcB
        have f2 : (w9.alloc (.cells #[.string ⟨#[114]⟩, .int .i64 1, .int .i64 1, .string ⟨zn.toArray⟩, .int .i64 (xp : Int), .int .i64 (xm : Int), .string ⟨xs.toArray⟩, .string ⟨CL.toArray⟩] 42)).frozen? ⟨ga, 2, none⟩ = false := frozen_of_row _ _ 2 _ _ hcA
        have hne : ga ≠ w9.heap.size := by omega
        have hne' : w9.heap.size ≠ ga := by omega
        have HBZ : Hid (Below w.heap.size w (w9.alloc (.cells #[.string ⟨#[114]⟩, .int .i64 1, .int .i64 1, .string ⟨zn.toArray⟩, .int .i64 (xp : Int), .int .i64 (xm : Int), .string ⟨xs.toArray⟩, .string ⟨CL.toArray⟩] 42))) := by
          have h1 := HB8.out.trans (hb9.mono HB8.out.size)
          exact ((HFq.out.mono h1).alloc _).below
        have hgw : w.heap.size ≤ ga := by have h1 := HFq.out.lt; have h2 := HBS.out; omega
        have hsz9 : (w9.setCell ⟨ga, 2, none⟩ (.int .i64 1)).heap.size = w9.heap.size := by simp [World.setCell]
        have hcA2 : ((w9.setCell ⟨ga, 2, none⟩ (.int .i64 1)).alloc (.cells #[.string ⟨#[114]⟩, .int .i64 1, .int .i64 1, .string ⟨zn.toArray⟩, .int .i64 (xp : Int), .int .i64 (xm : Int), .string ⟨xs.toArray⟩, .string ⟨CL.toArray⟩] 42)).heap[ga]? = some (.cells #[.string ⟨#[114]⟩, .int .i64 1, .int .i64 1, .string ⟨zn.toArray⟩, .int .i64 (xp : Int), .int .i64 (xm : Int), .string ⟨xs.toArray⟩, .string ⟨CL.toArray⟩] 42 (0, 0)) := (Below.heap_alloc _ _ _ (by rw [hsz9]; exact hl9)).trans (heap_setCell_same _ ga 2 _ _ _ hc9)
        have hcB2 : ((w9.setCell ⟨ga, 2, none⟩ (.int .i64 1)).alloc (.cells #[.string ⟨#[114]⟩, .int .i64 1, .int .i64 1, .string ⟨zn.toArray⟩, .int .i64 (xp : Int), .int .i64 (xm : Int), .string ⟨xs.toArray⟩, .string ⟨CL.toArray⟩] 42)).heap[w9.heap.size]? = some (.cells #[.string ⟨#[114]⟩, .int .i64 1, .int .i64 1, .string ⟨zn.toArray⟩, .int .i64 (xp : Int), .int .i64 (xm : Int), .string ⟨xs.toArray⟩, .string ⟨CL.toArray⟩] 42 (0, 0)) := by have h := heap_alloc_new (w9.setCell ⟨ga, 2, none⟩ (.int .i64 1)) (.cells #[.string ⟨#[114]⟩, .int .i64 1, .int .i64 1, .string ⟨zn.toArray⟩, .int .i64 (xp : Int), .int .i64 (xm : Int), .string ⟨xs.toArray⟩, .string ⟨CL.toArray⟩] 42); rw [hsz9] at h; exact h
        have A0 : ((w9.setCell ⟨ga, 2, none⟩ (.int .i64 1)).alloc (.cells #[.string ⟨#[114]⟩, .int .i64 1, .int .i64 1, .string ⟨zn.toArray⟩, .int .i64 (xp : Int), .int .i64 (xm : Int), .string ⟨xs.toArray⟩, .string ⟨CL.toArray⟩] 42)).cell? ⟨ga, 0, none⟩ = some (.string ⟨#[114]⟩) := cell_of_row _ _ 0 _ _ _ hcA2
        have B0 : ((w9.setCell ⟨ga, 2, none⟩ (.int .i64 1)).alloc (.cells #[.string ⟨#[114]⟩, .int .i64 1, .int .i64 1, .string ⟨zn.toArray⟩, .int .i64 (xp : Int), .int .i64 (xm : Int), .string ⟨xs.toArray⟩, .string ⟨CL.toArray⟩] 42)).cell? ⟨w9.heap.size, 0, none⟩ = some (.string ⟨#[114]⟩) := cell_of_row _ _ 0 _ _ _ hcB2
        have A1 : ((w9.setCell ⟨ga, 2, none⟩ (.int .i64 1)).alloc (.cells #[.string ⟨#[114]⟩, .int .i64 1, .int .i64 1, .string ⟨zn.toArray⟩, .int .i64 (xp : Int), .int .i64 (xm : Int), .string ⟨xs.toArray⟩, .string ⟨CL.toArray⟩] 42)).cell? ⟨ga, 1, none⟩ = some (.int .i64 1) := cell_of_row _ _ 1 _ _ _ hcA2
        have B1 : ((w9.setCell ⟨ga, 2, none⟩ (.int .i64 1)).alloc (.cells #[.string ⟨#[114]⟩, .int .i64 1, .int .i64 1, .string ⟨zn.toArray⟩, .int .i64 (xp : Int), .int .i64 (xm : Int), .string ⟨xs.toArray⟩, .string ⟨CL.toArray⟩] 42)).cell? ⟨w9.heap.size, 1, none⟩ = some (.int .i64 1) := cell_of_row _ _ 1 _ _ _ hcB2
        have A2 : ((w9.setCell ⟨ga, 2, none⟩ (.int .i64 1)).alloc (.cells #[.string ⟨#[114]⟩, .int .i64 1, .int .i64 1, .string ⟨zn.toArray⟩, .int .i64 (xp : Int), .int .i64 (xm : Int), .string ⟨xs.toArray⟩, .string ⟨CL.toArray⟩] 42)).cell? ⟨ga, 2, none⟩ = some (.int .i64 1) := cell_of_row _ _ 2 _ _ _ hcA2
        have B2 : ((w9.setCell ⟨ga, 2, none⟩ (.int .i64 1)).alloc (.cells #[.string ⟨#[114]⟩, .int .i64 1, .int .i64 1, .string ⟨zn.toArray⟩, .int .i64 (xp : Int), .int .i64 (xm : Int), .string ⟨xs.toArray⟩, .string ⟨CL.toArray⟩] 42)).cell? ⟨w9.heap.size, 2, none⟩ = some (.int .i64 1) := cell_of_row _ _ 2 _ _ _ hcB2
        have A3 : ((w9.setCell ⟨ga, 2, none⟩ (.int .i64 1)).alloc (.cells #[.string ⟨#[114]⟩, .int .i64 1, .int .i64 1, .string ⟨zn.toArray⟩, .int .i64 (xp : Int), .int .i64 (xm : Int), .string ⟨xs.toArray⟩, .string ⟨CL.toArray⟩] 42)).cell? ⟨ga, 3, none⟩ = some (.string ⟨zn.toArray⟩) := cell_of_row _ _ 3 _ _ _ hcA2
        have B3 : ((w9.setCell ⟨ga, 2, none⟩ (.int .i64 1)).alloc (.cells #[.string ⟨#[114]⟩, .int .i64 1, .int .i64 1, .string ⟨zn.toArray⟩, .int .i64 (xp : Int), .int .i64 (xm : Int), .string ⟨xs.toArray⟩, .string ⟨CL.toArray⟩] 42)).cell? ⟨w9.heap.size, 3, none⟩ = some (.string ⟨zn.toArray⟩) := cell_of_row _ _ 3 _ _ _ hcB2
        have A4 : ((w9.setCell ⟨ga, 2, none⟩ (.int .i64 1)).alloc (.cells #[.string ⟨#[114]⟩, .int .i64 1, .int .i64 1, .string ⟨zn.toArray⟩, .int .i64 (xp : Int), .int .i64 (xm : Int), .string ⟨xs.toArray⟩, .string ⟨CL.toArray⟩] 42)).cell? ⟨ga, 4, none⟩ = some (.int .i64 (xp : Int)) := cell_of_row _ _ 4 _ _ _ hcA2
        have B4 : ((w9.setCell ⟨ga, 2, none⟩ (.int .i64 1)).alloc (.cells #[.string ⟨#[114]⟩, .int .i64 1, .int .i64 1, .string ⟨zn.toArray⟩, .int .i64 (xp : Int), .int .i64 (xm : Int), .string ⟨xs.toArray⟩, .string ⟨CL.toArray⟩] 42)).cell? ⟨w9.heap.size, 4, none⟩ = some (.int .i64 (xp : Int)) := cell_of_row _ _ 4 _ _ _ hcB2
        have A5 : ((w9.setCell ⟨ga, 2, none⟩ (.int .i64 1)).alloc (.cells #[.string ⟨#[114]⟩, .int .i64 1, .int .i64 1, .string ⟨zn.toArray⟩, .int .i64 (xp : Int), .int .i64 (xm : Int), .string ⟨xs.toArray⟩, .string ⟨CL.toArray⟩] 42)).cell? ⟨ga, 5, none⟩ = some (.int .i64 (xm : Int)) := cell_of_row _ _ 5 _ _ _ hcA2
        have B5 : ((w9.setCell ⟨ga, 2, none⟩ (.int .i64 1)).alloc (.cells #[.string ⟨#[114]⟩, .int .i64 1, .int .i64 1, .string ⟨zn.toArray⟩, .int .i64 (xp : Int), .int .i64 (xm : Int), .string ⟨xs.toArray⟩, .string ⟨CL.toArray⟩] 42)).cell? ⟨w9.heap.size, 5, none⟩ = some (.int .i64 (xm : Int)) := cell_of_row _ _ 5 _ _ _ hcB2
        have A6 : ((w9.setCell ⟨ga, 2, none⟩ (.int .i64 1)).alloc (.cells #[.string ⟨#[114]⟩, .int .i64 1, .int .i64 1, .string ⟨zn.toArray⟩, .int .i64 (xp : Int), .int .i64 (xm : Int), .string ⟨xs.toArray⟩, .string ⟨CL.toArray⟩] 42)).cell? ⟨ga, 6, none⟩ = some (.string ⟨xs.toArray⟩) := cell_of_row _ _ 6 _ _ _ hcA2
        have B6 : ((w9.setCell ⟨ga, 2, none⟩ (.int .i64 1)).alloc (.cells #[.string ⟨#[114]⟩, .int .i64 1, .int .i64 1, .string ⟨zn.toArray⟩, .int .i64 (xp : Int), .int .i64 (xm : Int), .string ⟨xs.toArray⟩, .string ⟨CL.toArray⟩] 42)).cell? ⟨w9.heap.size, 6, none⟩ = some (.string ⟨xs.toArray⟩) := cell_of_row _ _ 6 _ _ _ hcB2
        have A7 : ((w9.setCell ⟨ga, 2, none⟩ (.int .i64 1)).alloc (.cells #[.string ⟨#[114]⟩, .int .i64 1, .int .i64 1, .string ⟨zn.toArray⟩, .int .i64 (xp : Int), .int .i64 (xm : Int), .string ⟨xs.toArray⟩, .string ⟨CL.toArray⟩] 42)).cell? ⟨ga, 7, none⟩ = some (.string ⟨CL.toArray⟩) := cell_of_row _ _ 7 _ _ _ hcA2
        have B7 : ((w9.setCell ⟨ga, 2, none⟩ (.int .i64 1)).alloc (.cells #[.string ⟨#[114]⟩, .int .i64 1, .int .i64 1, .string ⟨zn.toArray⟩, .int .i64 (xp : Int), .int .i64 (xm : Int), .string ⟨xs.toArray⟩, .string ⟨CL.toArray⟩] 42)).cell? ⟨w9.heap.size, 7, none⟩ = some (.string ⟨CL.toArray⟩) := cell_of_row _ _ 7 _ _ _ hcB2
        have HBY : Hid (Below w.heap.size w ((w9.setCell ⟨ga, 2, none⟩ (.int .i64 1)).alloc (.cells #[.string ⟨#[114]⟩, .int .i64 1, .int .i64 1, .string ⟨zn.toArray⟩, .int .i64 (xp : Int), .int .i64 (xm : Int), .string ⟨xs.toArray⟩, .string ⟨CL.toArray⟩] 42))) := by
          have h1 := (HFq.out.mono (HB8.out.trans (hb9.mono HB8.out.size))).below
          exact (h1.setCell (p := ⟨ga, 2, none⟩) hgw _).alloc (by rw [hsz9]; exact h1.size) _
        clear hsz9
        clear hcA2 hcB2
        have heq := Kp.eql_rec
        clear hb8 hb9 hc8 hc9 hl8 hcA hcB HA2 HTU HC7 HB7 HB8 hga
        go_wp2_with (go_at_call 23; refine (kswapped_any _ _).mono ?_; rintro e w' ⟨rfl, hw⟩; subst w')
        go_ret
        exact ⟨rfl, HBY.out⟩
      · have h : xn = 4 := e1
        subst h
        have h := h9
        clear h9 e1 hst
        have hE : R2 = Al.turnR R1 := HRR.out
        rw [h] at hE
        have v1 : R1.vals = #[.string ⟨#[114]⟩, .int .i64 1, .int .i64 4, .string ⟨zn.toArray⟩, .int .i64 (xp : Int), .int .i64 (xm : Int), .string ⟨xs.toArray⟩, .string ⟨CL.toArray⟩] := by rw [h]; rfl
        have v2 : R2.vals = #[.string ⟨#[114]⟩, .int .i64 1, .int .i64 2, .string ⟨zn.toArray⟩, .int .i64 (xp : Int), .int .i64 (xm : Int), .string ⟨xs.toArray⟩, .string ⟨CL.toArray⟩] := by rw [hE]; rfl
        rw [v1] at HA1
        rw [v2] at HA2
        clear v1 v2 hE h HO1 HRR
        go_wp2_with fail
        refine (HA1.out _ (by exact Below.refl _ _)).mono ?_
        rintro e w7 ⟨rfl, hb7⟩
        have HBS : Hid (w5.heap.size ≤ w7.heap.size) := hb7.size
        have HB7 : Hid (Below w5.heap.size w5 (w7.alloc (.cells #[.string ⟨#[114]⟩, .int .i64 1, .int .i64 4, .string ⟨zn.toArray⟩, .int .i64 (xp : Int), .int .i64 (xm : Int), .string ⟨xs.toArray⟩, .string ⟨CL.toArray⟩] 42))) := hb7.alloc hb7.size _
        have HC7 : Hid _ := heap_alloc_new w7 (.cells #[.string ⟨#[114]⟩, .int .i64 1, .int .i64 4, .string ⟨zn.toArray⟩, .int .i64 (xp : Int), .int .i64 (xm : Int), .string ⟨xs.toArray⟩, .string ⟨CL.toArray⟩] 42)
        clear hb7 HA1
        go_wp2_with fail
        refine (HTU.out _).mono ?_
        rintro e w8 ⟨rfl, hb8⟩
        have HB8 : Hid (Below w5.heap.size w5 w8) := HB7.out.trans (hb8.mono HB7.out.size)
        go_wp2_with fail
        refine (HA2.out _ (by exact HB8.out)).mono ?_
        rintro e w9 ⟨rfl, hb9⟩
        have hc8 : w8.heap[w7.heap.size]? = some (.cells #[.string ⟨#[114]⟩, .int .i64 1, .int .i64 4, .string ⟨zn.toArray⟩, .int .i64 (xp : Int), .int .i64 (xm : Int), .string ⟨xs.toArray⟩, .string ⟨CL.toArray⟩] 42 (0, 0)) := (hb8.block _ (by simp)).trans HC7.out
        generalize hga : w7.heap.size = ga at *
        have hl8 : ga < w8.heap.size := (Array.getElem?_eq_some_iff.1 hc8).1
        have hc9 : w9.heap[ga]? = some (.cells #[.string ⟨#[114]⟩, .int .i64 1, .int .i64 4, .string ⟨zn.toArray⟩, .int .i64 (xp : Int), .int .i64 (xm : Int), .string ⟨xs.toArray⟩, .string ⟨CL.toArray⟩] 42 (0, 0)) := (hb9.block _ hl8).trans hc8
        have hl9 : ga < w9.heap.size := (Array.getElem?_eq_some_iff.1 hc9).1
        have hcA : (w9.alloc (.cells #[.string ⟨#[114]⟩, .int .i64 1, .int .i64 2, .string ⟨zn.toArray⟩, .int .i64 (xp : Int), .int .i64 (xm : Int), .string ⟨xs.toArray⟩, .string ⟨CL.toArray⟩] 42)).heap[ga]? = some (.cells #[.string ⟨#[114]⟩, .int .i64 1, .int .i64 4, .string ⟨zn.toArray⟩, .int .i64 (xp : Int), .int .i64 (xm : Int), .string ⟨xs.toArray⟩, .string ⟨CL.toArray⟩] 42 (0, 0)) := (Below.heap_alloc _ _ _ hl9).trans hc9
        have hcB : (w9.alloc (.cells #[.string ⟨#[114]⟩, .int .i64 1, .int .i64 2, .string ⟨zn.toArray⟩, .int .i64 (xp : Int), .int .i64 (xm : Int), .string ⟨xs.toArray⟩, .string ⟨CL.toArray⟩] 42)).heap[w9.heap.size]? = some (.cells #[.string ⟨#[114]⟩, .int .i64 1, .int .i64 2, .string ⟨zn.toArray⟩, .int .i64 (xp : Int), .int .i64 (xm : Int), .string ⟨xs.toArray⟩, .string ⟨CL.toArray⟩] 42 (0, 0)) := heap_alloc_new w9 _
        have a0 : (w9.alloc (.cells #[.string ⟨#[114]⟩, .int .i64 1, .int .i64 2, .string ⟨zn.toArray⟩, .int .i64 (xp : Int), .int .i64 (xm : Int), .string ⟨xs.toArray⟩, .string ⟨CL.toArray⟩] 42)).cell? ⟨ga, 0, none⟩ = some (.string ⟨#[114]⟩) := cell_of_row _ _ 0 _ _ _ hcA
        have b0 : (w9.alloc (.cells #[.string ⟨#[114]⟩, .int .i64 1, .int .i64 2, .string ⟨zn.toArray⟩, .int .i64 (xp : Int), .int .i64 (xm : Int), .string ⟨xs.toArray⟩, .string ⟨CL.toArray⟩] 42)).cell? ⟨w9.heap.size, 0, none⟩ = some (.string ⟨#[114]⟩) := cell_of_row _ _ 0 _ _ _ hcB
        have a1 : (w9.alloc (.cells #[.string ⟨#[114]⟩, .int .i64 1, .int .i64 2, .string ⟨zn.toArray⟩, .int .i64 (xp : Int), .int .i64 (xm : Int), .string ⟨xs.toArray⟩, .string ⟨CL.toArray⟩] 42)).cell? ⟨ga, 1, none⟩ = some (.int .i64 1) := cell_of_row _ _ 1 _ _ _ hcA
        have b1 : (w9.alloc (.cells #[.string ⟨#[114]⟩, .int .i64 1, .int .i64 2, .string ⟨zn.toArray⟩, .int .i64 (xp : Int), .int .i64 (xm : Int), .string ⟨xs.toArray⟩, .string ⟨CL.toArray⟩] 42)).cell? ⟨w9.heap.size, 1, none⟩ = some (.int .i64 1) := cell_of_row _ _ 1 _ _ _ hcB
        have a2 : (w9.alloc (.cells #[.string ⟨#[114]⟩, .int .i64 1, .int .i64 2, .string ⟨zn.toArray⟩, .int .i64 (xp : Int), .int .i64 (xm : Int), .string ⟨xs.toArray⟩, .string ⟨CL.toArray⟩] 42)).cell? ⟨ga, 2, none⟩ = some (.int .i64 4) := cell_of_row _ _ 2 _ _ _ hcA
        have b2 : (w9.alloc (.cells #[.string ⟨#[114]⟩, .int .i64 1, .int .i64 2, .string ⟨zn.toArray⟩, .int .i64 (xp : Int), .int .i64 (xm : Int), .string ⟨xs.toArray⟩, .string ⟨CL.toArray⟩] 42)).cell? ⟨w9.heap.size, 2, none⟩ = some (.int .i64 2) := cell_of_row _ _ 2 _ _ _ hcB
        have a3 : (w9.alloc (.cells #[.string ⟨#[114]⟩, .int .i64 1, .int .i64 2, .string ⟨zn.toArray⟩, .int .i64 (xp : Int), .int .i64 (xm : Int), .string ⟨xs.toArray⟩, .string ⟨CL.toArray⟩] 42)).cell? ⟨ga, 3, none⟩ = some (.string ⟨zn.toArray⟩) := cell_of_row _ _ 3 _ _ _ hcA
        have b3 : (w9.alloc (.cells #[.string ⟨#[114]⟩, .int .i64 1, .int .i64 2, .string ⟨zn.toArray⟩, .int .i64 (xp : Int), .int .i64 (xm : Int), .string ⟨xs.toArray⟩, .string ⟨CL.toArray⟩] 42)).cell? ⟨w9.heap.size, 3, none⟩ = some (.string ⟨zn.toArray⟩) := cell_of_row _ _ 3 _ _ _ hcB
        have a4 : (w9.alloc (.cells #[.string ⟨#[114]⟩, .int .i64 1, .int .i64 2, .string ⟨zn.toArray⟩, .int .i64 (xp : Int), .int .i64 (xm : Int), .string ⟨xs.toArray⟩, .string ⟨CL.toArray⟩] 42)).cell? ⟨ga, 4, none⟩ = some (.int .i64 (xp : Int)) := cell_of_row _ _ 4 _ _ _ hcA
        have b4 : (w9.alloc (.cells #[.string ⟨#[114]⟩, .int .i64 1, .int .i64 2, .string ⟨zn.toArray⟩, .int .i64 (xp : Int), .int .i64 (xm : Int), .string ⟨xs.toArray⟩, .string ⟨CL.toArray⟩] 42)).cell? ⟨w9.heap.size, 4, none⟩ = some (.int .i64 (xp : Int)) := cell_of_row _ _ 4 _ _ _ hcB
        have a5 : (w9.alloc (.cells #[.string ⟨#[114]⟩, .int .i64 1, .int .i64 2, .string ⟨zn.toArray⟩, .int .i64 (xp : Int), .int .i64 (xm : Int), .string ⟨xs.toArray⟩, .string ⟨CL.toArray⟩] 42)).cell? ⟨ga, 5, none⟩ = some (.int .i64 (xm : Int)) := cell_of_row _ _ 5 _ _ _ hcA
        have b5 : (w9.alloc (.cells #[.string ⟨#[114]⟩, .int .i64 1, .int .i64 2, .string ⟨zn.toArray⟩, .int .i64 (xp : Int), .int .i64 (xm : Int), .string ⟨xs.toArray⟩, .string ⟨CL.toArray⟩] 42)).cell? ⟨w9.heap.size, 5, none⟩ = some (.int .i64 (xm : Int)) := cell_of_row _ _ 5 _ _ _ hcB
        have a6 : (w9.alloc (.cells #[.string ⟨#[114]⟩, .int .i64 1, .int .i64 2, .string ⟨zn.toArray⟩, .int .i64 (xp : Int), .int .i64 (xm : Int), .string ⟨xs.toArray⟩, .string ⟨CL.toArray⟩] 42)).cell? ⟨ga, 6, none⟩ = some (.string ⟨xs.toArray⟩) := cell_of_row _ _ 6 _ _ _ hcA
        have b6 : (w9.alloc (.cells #[.string ⟨#[114]⟩, .int .i64 1, .int .i64 2, .string ⟨zn.toArray⟩, .int .i64 (xp : Int), .int .i64 (xm : Int), .string ⟨xs.toArray⟩, .string ⟨CL.toArray⟩] 42)).cell? ⟨w9.heap.size, 6, none⟩ = some (.string ⟨xs.toArray⟩) := cell_of_row _ _ 6 _ _ _ hcB
        have a7 : (w9.alloc (.cells #[.string ⟨#[114]⟩, .int .i64 1, .int .i64 2, .string ⟨zn.toArray⟩, .int .i64 (xp : Int), .int .i64 (xm : Int), .string ⟨xs.toArray⟩, .string ⟨CL.toArray⟩] 42)).cell? ⟨ga, 7, none⟩ = some (.string ⟨CL.toArray⟩) := cell_of_row _ _ 7 _ _ _ hcA
        have b7 : (w9.alloc (.cells #[.string ⟨#[114]⟩, .int .i64 1, .int .i64 2, .string ⟨zn.toArray⟩, .int .i64 (xp : Int), .int .i64 (xm : Int), .string ⟨xs.toArray⟩, .string ⟨CL.toArray⟩] 42)).cell? ⟨w9.heap.size, 7, none⟩ = some (.string ⟨CL.toArray⟩) := cell_of_row _ _ 7 _ _ _ hcB
        have f2 : (w9.alloc (.cells #[.string ⟨#[114]⟩, .int .i64 1, .int .i64 2, .string ⟨zn.toArray⟩, .int .i64 (xp : Int), .int .i64 (xm : Int), .string ⟨xs.toArray⟩, .string ⟨CL.toArray⟩] 42)).frozen? ⟨ga, 2, none⟩ = false := frozen_of_row _ _ 2 _ _ hcA
        have hne : ga ≠ w9.heap.size := by omega
        have hne' : w9.heap.size ≠ ga := by omega
        have HBZ : Hid (Below w.heap.size w (w9.alloc (.cells #[.string ⟨#[114]⟩, .int .i64 1, .int .i64 2, .string ⟨zn.toArray⟩, .int .i64 (xp : Int), .int .i64 (xm : Int), .string ⟨xs.toArray⟩, .string ⟨CL.toArray⟩] 42))) := by
          have h1 := HB8.out.trans (hb9.mono HB8.out.size)
          exact ((HFq.out.mono h1).alloc _).below
        have hgw : w.heap.size ≤ ga := by have h1 := HFq.out.lt; have h2 := HBS.out; omega
        have hsz9 : (w9.setCell ⟨ga, 2, none⟩ (.int .i64 2)).heap.size = w9.heap.size := by simp [World.setCell]
        have hcA2 : ((w9.setCell ⟨ga, 2, none⟩ (.int .i64 2)).alloc (.cells #[.string ⟨#[114]⟩, .int .i64 1, .int .i64 2, .string ⟨zn.toArray⟩, .int .i64 (xp : Int), .int .i64 (xm : Int), .string ⟨xs.toArray⟩, .string ⟨CL.toArray⟩] 42)).heap[ga]? = some (.cells #[.string ⟨#[114]⟩, .int .i64 1, .int .i64 2, .string ⟨zn.toArray⟩, .int .i64 (xp : Int), .int .i64 (xm : Int), .string ⟨xs.toArray⟩, .string ⟨CL.toArray⟩] 42 (0, 0)) := (Below.heap_alloc _ _ _ (by rw [hsz9]; exact hl9)).trans (heap_setCell_same _ ga 2 _ _ _ hc9)
        have hcB2 : ((w9.setCell ⟨ga, 2, none⟩ (.int .i64 2)).alloc (.cells #[.string ⟨#[114]⟩, .int .i64 1, .int .i64 2, .string ⟨zn.toArray⟩, .int .i64 (xp : Int), .int .i64 (xm : Int), .string ⟨xs.toArray⟩, .string ⟨CL.toArray⟩] 42)).heap[w9.heap.size]? = some (.cells #[.string ⟨#[114]⟩, .int .i64 1, .int .i64 2, .string ⟨zn.toArray⟩, .int .i64 (xp : Int), .int .i64 (xm : Int), .string ⟨xs.toArray⟩, .string ⟨CL.toArray⟩] 42 (0, 0)) := by have h := heap_alloc_new (w9.setCell ⟨ga, 2, none⟩ (.int .i64 2)) (.cells #[.string ⟨#[114]⟩, .int .i64 1, .int .i64 2, .string ⟨zn.toArray⟩, .int .i64 (xp : Int), .int .i64 (xm : Int), .string ⟨xs.toArray⟩, .string ⟨CL.toArray⟩] 42); rw [hsz9] at h; exact h
        have A0 : ((w9.setCell ⟨ga, 2, none⟩ (.int .i64 2)).alloc (.cells #[.string ⟨#[114]⟩, .int .i64 1, .int .i64 2, .string ⟨zn.toArray⟩, .int .i64 (xp : Int), .int .i64 (xm : Int), .string ⟨xs.toArray⟩, .string ⟨CL.toArray⟩] 42)).cell? ⟨ga, 0, none⟩ = some (.string ⟨#[114]⟩) := cell_of_row _ _ 0 _ _ _ hcA2
        have B0 : ((w9.setCell ⟨ga, 2, none⟩ (.int .i64 2)).alloc (.cells #[.string ⟨#[114]⟩, .int .i64 1, .int .i64 2, .string ⟨zn.toArray⟩, .int .i64 (xp : Int), .int .i64 (xm : Int), .string ⟨xs.toArray⟩, .string ⟨CL.toArray⟩] 42)).cell? ⟨w9.heap.size, 0, none⟩ = some (.string ⟨#[114]⟩) := cell_of_row _ _ 0 _ _ _ hcB2
        have A1 : ((w9.setCell ⟨ga, 2, none⟩ (.int .i64 2)).alloc (.cells #[.string ⟨#[114]⟩, .int .i64 1, .int .i64 2, .string ⟨zn.toArray⟩, .int .i64 (xp : Int), .int .i64 (xm : Int), .string ⟨xs.toArray⟩, .string ⟨CL.toArray⟩] 42)).cell? ⟨ga, 1, none⟩ = some (.int .i64 1) := cell_of_row _ _ 1 _ _ _ hcA2
        have B1 : ((w9.setCell ⟨ga, 2, none⟩ (.int .i64 2)).alloc (.cells #[.string ⟨#[114]⟩, .int .i64 1, .int .i64 2, .string ⟨zn.toArray⟩, .int .i64 (xp : Int), .int .i64 (xm : Int), .string ⟨xs.toArray⟩, .string ⟨CL.toArray⟩] 42)).cell? ⟨w9.heap.size, 1, none⟩ = some (.int .i64 1) := cell_of_row _ _ 1 _ _ _ hcB2
        have A2 : ((w9.setCell ⟨ga, 2, none⟩ (.int .i64 2)).alloc (.cells #[.string ⟨#[114]⟩, .int .i64 1, .int .i64 2, .string ⟨zn.toArray⟩, .int .i64 (xp : Int), .int .i64 (xm : Int), .string ⟨xs.toArray⟩, .string ⟨CL.toArray⟩] 42)).cell? ⟨ga, 2, none⟩ = some (.int .i64 2) := cell_of_row _ _ 2 _ _ _ hcA2
        have B2 : ((w9.setCell ⟨ga, 2, none⟩ (.int .i64 2)).alloc (.cells #[.string ⟨#[114]⟩, .int .i64 1, .int .i64 2, .string ⟨zn.toArray⟩, .int .i64 (xp : Int), .int .i64 (xm : Int), .string ⟨xs.toArray⟩, .string ⟨CL.toArray⟩] 42)).cell? ⟨w9.heap.size, 2, none⟩ = some (.int .i64 2) := cell_of_row _ _ 2 _ _ _ hcB2
        have A3 : ((w9.setCell ⟨ga, 2, none⟩ (.int .i64 2)).alloc (.cells #[.string ⟨#[114]⟩, .int .i64 1, .int .i64 2, .string ⟨zn.toArray⟩, .int .i64 (xp : Int), .int .i64 (xm : Int), .string ⟨xs.toArray⟩, .string ⟨CL.toArray⟩] 42)).cell? ⟨ga, 3, none⟩ = some (.string ⟨zn.toArray⟩) := cell_of_row _ _ 3 _ _ _ hcA2
        have B3 : ((w9.setCell ⟨ga, 2, none⟩ (.int .i64 2)).alloc (.cells #[.string ⟨#[114]⟩, .int .i64 1, .int .i64 2, .string ⟨zn.toArray⟩, .int .i64 (xp : Int), .int .i64 (xm : Int), .string ⟨xs.toArray⟩, .string ⟨CL.toArray⟩] 42)).cell? ⟨w9.heap.size, 3, none⟩ = some (.string ⟨zn.toArray⟩) := cell_of_row _ _ 3 _ _ _ hcB2
        have A4 : ((w9.setCell ⟨ga, 2, none⟩ (.int .i64 2)).alloc (.cells #[.string ⟨#[114]⟩, .int .i64 1, .int .i64 2, .string ⟨zn.toArray⟩, .int .i64 (xp : Int), .int .i64 (xm : Int), .string ⟨xs.toArray⟩, .string ⟨CL.toArray⟩] 42)).cell? ⟨ga, 4, none⟩ = some (.int .i64 (xp : Int)) := cell_of_row _ _ 4 _ _ _ hcA2
        have B4 : ((w9.setCell ⟨ga, 2, none⟩ (.int .i64 2)).alloc (.cells #[.string ⟨#[114]⟩, .int .i64 1, .int .i64 2, .string ⟨zn.toArray⟩, .int .i64 (xp : Int), .int .i64 (xm : Int), .string ⟨xs.toArray⟩, .string ⟨CL.toArray⟩] 42)).cell? ⟨w9.heap.size, 4, none⟩ = some (.int .i64 (xp : Int)) := cell_of_row _ _ 4 _ _ _ hcB2
        have A5 : ((w9.setCell ⟨ga, 2, none⟩ (.int .i64 2)).alloc (.cells #[.string ⟨#[114]⟩, .int .i64 1, .int .i64 2, .string ⟨zn.toArray⟩, .int .i64 (xp : Int), .int .i64 (xm : Int), .string ⟨xs.toArray⟩, .string ⟨CL.toArray⟩] 42)).cell? ⟨ga, 5, none⟩ = some (.int .i64 (xm : Int)) := cell_of_row _ _ 5 _ _ _ hcA2
        have B5 : ((w9.setCell ⟨ga, 2, none⟩ (.int .i64 2)).alloc (.cells #[.string ⟨#[114]⟩, .int .i64 1, .int .i64 2, .string ⟨zn.toArray⟩, .int .i64 (xp : Int), .int .i64 (xm : Int), .string ⟨xs.toArray⟩, .string ⟨CL.toArray⟩] 42)).cell? ⟨w9.heap.size, 5, none⟩ = some (.int .i64 (xm : Int)) := cell_of_row _ _ 5 _ _ _ hcB2
        have A6 : ((w9.setCell ⟨ga, 2, none⟩ (.int .i64 2)).alloc (.cells #[.string ⟨#[114]⟩, .int .i64 1, .int .i64 2, .string ⟨zn.toArray⟩, .int .i64 (xp : Int), .int .i64 (xm : Int), .string ⟨xs.toArray⟩, .string ⟨CL.toArray⟩] 42)).cell? ⟨ga, 6, none⟩ = some (.string ⟨xs.toArray⟩) := cell_of_row _ _ 6 _ _ _ hcA2
        have B6 : ((w9.setCell ⟨ga, 2, none⟩ (.int .i64 2)).alloc (.cells #[.string ⟨#[114]⟩, .int .i64 1, .int .i64 2, .string ⟨zn.toArray⟩, .int .i64 (xp : Int), .int .i64 (xm : Int), .string ⟨xs.toArray⟩, .string ⟨CL.toArray⟩] 42)).cell? ⟨w9.heap.size, 6, none⟩ = some (.string ⟨xs.toArray⟩) := cell_of_row _ _ 6 _ _ _ hcB2
        have A7 : ((w9.setCell ⟨ga, 2, none⟩ (.int .i64 2)).alloc (.cells #[.string ⟨#[114]⟩, .int .i64 1, .int .i64 2, .string ⟨zn.toArray⟩, .int .i64 (xp : Int), .int .i64 (xm : Int), .string ⟨xs.toArray⟩, .string ⟨CL.toArray⟩] 42)).cell? ⟨ga, 7, none⟩ = some (.string ⟨CL.toArray⟩) := cell_of_row _ _ 7 _ _ _ hcA2
        have B7 : ((w9.setCell ⟨ga, 2, none⟩ (.int .i64 2)).alloc (.cells #[.string ⟨#[114]⟩, .int .i64 1, .int .i64 2, .string ⟨zn.toArray⟩, .int .i64 (xp : Int), .int .i64 (xm : Int), .string ⟨xs.toArray⟩, .string ⟨CL.toArray⟩] 42)).cell? ⟨w9.heap.size, 7, none⟩ = some (.string ⟨CL.toArray⟩) := cell_of_row _ _ 7 _ _ _ hcB2
        have HBY : Hid (Below w.heap.size w ((w9.setCell ⟨ga, 2, none⟩ (.int .i64 2)).alloc (.cells #[.string ⟨#[114]⟩, .int .i64 1, .int .i64 2, .string ⟨zn.toArray⟩, .int .i64 (xp : Int), .int .i64 (xm : Int), .string ⟨xs.toArray⟩, .string ⟨CL.toArray⟩] 42))) := by
          have h1 := (HFq.out.mono (HB8.out.trans (hb9.mono HB8.out.size))).below
          exact (h1.setCell (p := ⟨ga, 2, none⟩) hgw _).alloc (by rw [hsz9]; exact h1.size) _
        clear hsz9
        clear hcA2 hcB2
        have heq := Kp.eql_rec
        clear hb8 hb9 hc8 hc9 hl8 hcA hcB HA2 HTU HC7 HB7 HB8 hga
        go_wp2_with (go_at_call 23; refine (kswapped_any _ _).mono ?_; rintro e w' ⟨rfl, hw⟩; subst w')
        go_ret
        exact ⟨rfl, HBY.out⟩

end Go.Proofs.Ytjebhbopmfcopaa
