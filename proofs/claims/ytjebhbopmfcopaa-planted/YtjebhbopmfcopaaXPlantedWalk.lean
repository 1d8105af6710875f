/-
  THE WALK of the law Planted. Own text of the verifier.
-/
import Derived.Test.YtjebhbopmfcopaaBun15
namespace Go.Proofs.Ytjebhbopmfcopaa
open Go.RowKit

set_option maxRecDepth 100000 in
set_option maxHeartbeats 1600000 in
theorem planted_any (w : World) (tv : Value) (ts : List ByteArray) (x0 x1 x2 x3 b : Int) (r : ByteArray) (xa : Option Addr) (xn xc : Nat) (hT : Kp.Txs w tv ts) (h0 : Kp.i64 x0) (h1 : Kp.i64 x1) (h2 : Kp.i64 x2) (h3 : Kp.i64 x3) (h4 : Kp.i64 b) (hr : r.size ≤ 140737488355327) :
    Calls Try.prog 4 #[tv, .agg #[.int .i64 x0, .int .i64 x1, .int .i64 x2, .int .i64 x3, .string r, .slice xa xn xc], .int .i64 b] w fun e w' => e = .returned (.bool true) ∧ Below w.heap.size w w' := by
  obtain ⟨va, vc, hv⟩ := hT.form
  subst hv
  have HT : Hid (∀ o, Kp.Txs (w.alloc o) (.slice va ts.length vc) ts) := fun o => hT.mono ((Below.refl _ _).alloc (Nat.le_refl _) o)
  obtain ⟨k, hk, hkv⟩ := pickV_in b 4 (by omega)
  have HPK : Hid (∀ W : World, Calls Try.prog 18 #[.int .i64 b, .int .i64 4] W fun e w' => e = .returned (.int .i64 (k : Int)) ∧ w' = W) := fun W => by
    have := kpick_any b 4 W h4.1 h4.2 (by omega) (by omega)
    rw [hkv] at this
    exact this
  have HI0 : Hid _ := h0
  have HI1 : Hid _ := h1
  have HI2 : Hid _ := h2
  have HI3 : Hid _ := h3
  clear hT hkv h0 h1 h2 h3 h4
  go_enter Try.func4, Try.ntmps4
  go_wp2_with fail
  refine (kreference_any ts _ _ (HT.out _)).mono ?_
  rintro e w1 ⟨cs, g, cc, rfl, hg1, hg2, hpos, hR, hsrc, hb1⟩
  have HR : Hid _ := hR
  have HSRC : Hid _ := hsrc
  have HB1 : Hid _ := hb1
  clear hR hsrc hb1 HT
  go_wp2_with fail
  refine (kopen_any cs g cc _ HR.out hpos HSRC.out).mono ?_
  rintro e w2 ⟨bx, rfl, HIX, hb2⟩
  have HF : Hid (KpF w w2 #[.int .i64 x0, .int .i64 x1, .int .i64 x2, .int .i64 x3, .string r, .slice xa xn xc] cs g bx w1.heap.size) := by
    have hA : Below w.heap.size w (w.alloc (.cells #[.int .i64 x0, .int .i64 x1, .int .i64 x2, .int .i64 x3, .string r, .slice xa xn xc] 31)) := (Below.refl _ _).alloc (Nat.le_refl _) _
    have hs1 := HB1.out.size
    have hs2 := hb2.size
    rw [World.size_alloc] at hs1
    have hB := HB1.out.trans (hb2.mono (by rw [World.size_alloc]; omega))
    exact ⟨hA.trans (hB.mono (by simp)), by omega, (hB.block _ (by simp)).trans (heap_alloc_new w _), src_keep HSRC.out hb2, HIX.out, by omega⟩
  have hbox := HF.out.box
  have c0 : w2.cell? ⟨w.heap.size, 0, none⟩ = some (.int .i64 x0) := cell_of_row _ _ 0 _ _ _ hbox
  have c1 : w2.cell? ⟨w.heap.size, 1, none⟩ = some (.int .i64 x1) := cell_of_row _ _ 1 _ _ _ hbox
  have c2 : w2.cell? ⟨w.heap.size, 2, none⟩ = some (.int .i64 x2) := cell_of_row _ _ 2 _ _ _ hbox
  have c3 : w2.cell? ⟨w.heap.size, 3, none⟩ = some (.int .i64 x3) := cell_of_row _ _ 3 _ _ _ hbox
  have c4 : w2.cell? ⟨w.heap.size, 4, none⟩ = some (.string r) := cell_of_row _ _ 4 _ _ _ hbox
  have c5 : w2.cell? ⟨w.heap.size, 5, none⟩ = some (.slice xa xn xc) := cell_of_row _ _ 5 _ _ _ hbox
  clear hbox HB1 HSRC HIX hb2 hg1 hg2
  go_wp2_with fail
  refine (kpiece_any cs g cc x0 x1 x2 x3 r _ _ HI0.out HI1.out HI2.out HI3.out HR.out hpos HF.out.src).mono ?_
  rintro e w3 ⟨c, a, m, n, z, rfl, hz, hm1, hm128, ham, hn, hb3⟩
  have HF3 : Hid _ := (HF.out.mono hb3).alloc (.cells #[.int .i64 (c : Int), .int .i64 (a : Int)] 37)
  have HZ : Hid _ := hz
  have HN : Hid _ := hn
  obtain ⟨S, hS⟩ : ∃ S, S = (z.2.drop a).take m := ⟨_, rfl⟩
  have hSl : S.length = m := by rw [hS]; exact Kp.piece_len ham
  have HSL : Hid (Lt.allL S = true) := by
    show _ = _
    rw [hS]
    exact Kp.piece_allL (HR.out.let_ z (List.mem_of_getElem? hz)).1 a m
  rw [← hS]
  have HS : Hid _ := hS
  have HSl : Hid _ := hSl
  have hSs : (⟨S.toArray⟩ : ByteArray).size ≤ 128 := by rw [str_size]; omega
  have hSs2 : (⟨S.toArray⟩ : ByteArray).size ≤ maxLen := by unfold maxLen; omega
  have r4 : (w3.alloc (.cells #[.int .i64 (c : Int), .int .i64 (a : Int)] 37)).cell? ⟨w.heap.size, 4, none⟩ = some (.string r) := cell_of_row _ _ 4 _ _ _ HF3.out.box
  clear c0 c1 c2 c3 c4 c5 hz hn hb3 hS hSl HF
  go_wp2_with fail
  refine (khasN_any _ _ hSs2).mono ?_
  rintro e w' ⟨rfl, hw⟩
  subst w'
  obtain ⟨NB, hNB⟩ : ∃ NB, NB = Kp.hasN S := ⟨_, rfl⟩
  rw [show (⟨S.toArray⟩ : ByteArray).data.toList = S from by simp, ← hNB]
  have HNB : Hid _ := hNB
  clear hNB
  go_wp2_with fail
  refine (kbleached_any ⟨S.toArray⟩ r n _ HN.out (by omega) hr).mono ?_
  rintro e w4 ⟨t, rfl, HBL, hb4⟩
  have HF4 : Hid _ := HF3.out.mono hb4
  have HBL2 : Hid (Kp.Bl n S t) := by have := HBL.out; rw [show (⟨S.toArray⟩ : ByteArray).data.toList = S from by simp] at this; exact this
  have HTL : Hid (t.length = m) := by show _ = _; rw [HBL2.out.len, HSl.out]
  have htl : t.length ≤ 128 := by rw [HTL.out]; exact hm128
  have htl1 : 1 ≤ t.length := by rw [HTL.out]; exact hm1
  have htA : Hid (Lt.allL t = true) := Kp.bl_allL HBL2.out HSL.out
  clear r4 hb4 HBL HF3
  go_wp2_with fail
  refine (kread_any ⟨t.toArray⟩ n _ (by rw [str_size]; omega)).mono ?_
  rintro e w5 ⟨rfl, hb5⟩
  rw [show (⟨t.toArray⟩ : ByteArray).data.toList = t from by simp]
  have HF5 : Hid _ := HF4.out.mono hb5
  obtain ⟨Q, hQ⟩ : ∃ Q, Q = Al.along t n := ⟨_, rfl⟩
  rw [← hQ]
  have HQ : Hid _ := hQ
  have hQl : Q.length = t.length := by rw [hQ, Al.along_length]
  have HQA : Hid (Lt.allL Q = true) := by show _ = _; rw [hQ]; exact Al.along_allL htA.out n
  clear hb5 hQ HF4
  go_wp2_with fail
  refine (HPK.out _).mono ?_
  rintro e w' ⟨rfl, hw⟩
  subst w'
  have HAL : Hid (Calls Try.prog 16 #[.slice (some ⟨g, 0, none⟩) cs.length cc, .pointer (some ⟨bx, 0, none⟩), .agg #[.string ⟨#[114]⟩, .string ⟨Q.toArray⟩], .int .i64 (k : Int)] w5 fun e w' => e = .returned (.tuple #[.agg (Rc.vals (Al.upto [114] Q (k : Int) cs 4).best), .int .i64 0]) ∧ Below w5.heap.size w5 w') := Kp.align HF5.out HR.out hpos Q (k : Int) cc (by omega) (by omega) HQA.out (by omega) (by omega)
  obtain ⟨R, hRR⟩ : ∃ R, R = (Al.upto [114] Q (k : Int) cs 4).best := ⟨_, rfl⟩
  rw [← hRR] at HAL
  have HEND : Hid (R.nm = [114] ∧ (NB = false → R = Pa.amb [114] ∨ (R.vd = 1 ∧ R.mm = 0))) := by
    constructor
    · rw [hRR]
      rcases Al.one (nm := [114]) (b := (k : Int)) (cs := cs) (r := Q) (by omega) with h | h | ⟨x, y, h, _⟩ <;> rw [h] <;> rfl
    · intro hNB
      obtain ⟨z3, z4⟩ := Kp.bl_zero _ _ HBL2.out (Kp.hasN_no (by rw [← HNB.out]; exact hNB))
      rw [HS.out] at z3 z4
      have h := Kp.stands (nm := [114]) (b := (k : Int)) HZ.out ham HTL.out hm128 HN.out (by rw [z3]; omega)
      rw [← HQ.out, ← hRR, z4] at h
      rcases h with h | ⟨x, y, h, h0⟩
      · exact .inl h
      · exact .inr (by rw [h]; exact ⟨rfl, by show (x.m : Int) = 0; omega⟩)
  clear hRR
  obtain ⟨rn, rv, rs, rc, rp, rm, rl, rk⟩ := R
  unfold Rc.vals at HAL
  go_wp2_with fail
  refine HAL.out.mono ?_
  rintro e w6 ⟨rfl, hb6⟩
  have HBF : Hid (∀ o, Below w.heap.size w (w6.alloc o)) := fun o => ((HF5.out.mono hb6).alloc o).below
  have hrn : rn = [114] := HEND.out.1
  subst hrn
  clear HAL hb6 HF5
  cases NB with
  | true =>
    go_wp2
    go_ret
    exact ⟨rfl, HBF.out _⟩
  | false =>
    rcases HEND.out.2 rfl with h | ⟨h, h'⟩
    · simp only [Pa.amb, Rc.mk.injEq] at h
      obtain ⟨_, rfl, rfl, rfl, rfl, rfl, rfl, rfl⟩ := h
      clear HEND
      go_wp2
      go_ret
      exact ⟨rfl, HBF.out _⟩
    · have h9 : rv = 1 := h
      have h8 : rm = 0 := h'
      subst h9 h8
      clear HEND
      go_wp2
      go_ret
      exact ⟨rfl, HBF.out _⟩

end Go.Proofs.Ytjebhbopmfcopaa
