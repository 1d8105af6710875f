/-
  THE WALK of the law Missed. Own text of the verifier.
-/
import Derived.Test.YtjebhbopmfcopaaBun15
import Derived.Test.YtjebhbopmfcopaaXKpApart
namespace Go.Proofs.Ytjebhbopmfcopaa
open Go.RowKit

theorem ne_place (a b c d : Int) (h : a = c → b = d → False) (w : World) : (Op.equalIn 10000 37 (.agg #[.int .i64 a, .int .i64 b]) (.agg #[.int .i64 c, .int .i64 d])).run Try.prog w = .ok false w := by
  by_cases h1 : a = c
  · by_cases h2 : b = d
    · exact absurd h2 (h h1)
    · subst h1
      simp [go_sem, Try.underlying37, Try.underlying3, h2]
  · simp [go_sem, Try.underlying37, Try.underlying3, h1]
theorem neq_place (a b c d : Nat) (h : a = c → b = d → False) (w : World) : (binOp .eql 37 (.agg #[.int .i64 (a : Int), .int .i64 (b : Int)]) (.agg #[.int .i64 (c : Int), .int .i64 (d : Int)])).run Try.prog w = .ok (.bool false) w := by
  rw [run_eql_struct, ne_place _ _ _ _ (fun h1 h2 => h (by omega) (by omega))]; rfl

set_option maxRecDepth 100000 in
set_option maxHeartbeats 1200000 in
theorem missed_any (w : World) (tv xv : Value) (ts : List ByteArray) (rs : List Int) (x0 x1 x2 x3 b : Int) (r : ByteArray) (hT : Kp.Txs w tv ts) (hXI : Kp.Ints w xv rs) (h0 : Kp.i64 x0) (h1 : Kp.i64 x1) (h2 : Kp.i64 x2) (h3 : Kp.i64 x3) (h4 : Kp.i64 b) (hr : r.size ≤ 140737488355327) :
    Calls Try.prog 5 #[tv, .agg #[.int .i64 x0, .int .i64 x1, .int .i64 x2, .int .i64 x3, .string r, xv], .int .i64 b] w fun e w' => e = .returned (.bool true) ∧ Below w.heap.size w w' := by
  obtain ⟨va, vc, hv⟩ := hT.form
  subst hv
  obtain ⟨xa, xc, hxv⟩ := hXI.form
  subst hxv
  have HT : Hid (∀ o, Kp.Txs (w.alloc o) (.slice va ts.length vc) ts) := fun o => hT.mono ((Below.refl _ _).alloc (Nat.le_refl _) o)
  have HXI : Hid (∀ W, Below w.heap.size w W → Kp.Ints W (.slice xa rs.length xc) rs) := fun W hb => hXI.mono hb
  obtain ⟨k, hk, hkv⟩ := pickV_in b 4 (by omega)
  have HPK : Hid (∀ W : World, Calls Try.prog 18 #[.int .i64 b, .int .i64 4] W fun e w' => e = .returned (.int .i64 (k : Int)) ∧ w' = W) := fun W => by
    have := kpick_any b 4 W h4.1 h4.2 (by omega) (by omega)
    rw [hkv] at this
    exact this
  have HI0 : Hid _ := h0
  have HI1 : Hid _ := h1
  have HI2 : Hid _ := h2
  have HI3 : Hid _ := h3
  clear hT hXI hkv h0 h1 h2 h3 h4
  go_enter Try.func5, Try.ntmps5
  go_wp2_with fail
  refine (kreference_any ts _ _ (HT.out _)).mono ?_
  rintro e w1 ⟨cs, g, cc, rfl, hg1, hg2, hpos, hR, hsrc, hb1⟩
  have HR : Hid _ := hR
  have HSRC : Hid _ := hsrc
  have HB1 : Hid _ := hb1
  clear hR hsrc hb1 HT
  go_wp2_with fail
  refine (kopen_any cs g cc _ HR.out hpos HSRC.out).mono ?_
  rintro e w2 ⟨bx, rfl, HIX, hb2⟩
  obtain ⟨B, hB⟩ : ∃ B, B = w1.heap.size := ⟨_, rfl⟩
  have HF : Hid (KpF w w2 #[.int .i64 x0, .int .i64 x1, .int .i64 x2, .int .i64 x3, .string r, .slice xa rs.length xc] cs g bx B) := by
    have hA : Below w.heap.size w (w.alloc (.cells #[.int .i64 x0, .int .i64 x1, .int .i64 x2, .int .i64 x3, .string r, .slice xa rs.length xc] 31)) := (Below.refl _ _).alloc (Nat.le_refl _) _
    have hs1 := HB1.out.size
    have hs2 := hb2.size
    rw [World.size_alloc] at hs1
    have hB2 := HB1.out.trans (hb2.mono (by rw [World.size_alloc]; omega))
    exact ⟨hA.trans (hB2.mono (by simp)), by omega, (hB2.block _ (by simp)).trans (heap_alloc_new w _), src_keep HSRC.out hb2, by rw [hB]; exact HIX.out, by omega⟩
  clear HB1 HSRC HIX hb2 hg1 hg2 hB
  go_wp2_with fail
  refine (HPK.out _).mono ?_
  rintro e w' ⟨rfl, hw⟩
  subst w'
  have c0 : w2.cell? ⟨w.heap.size, 0, none⟩ = some (.int .i64 x0) := cell_of_row _ _ 0 _ _ _ HF.out.box
  have c1 : w2.cell? ⟨w.heap.size, 1, none⟩ = some (.int .i64 x1) := cell_of_row _ _ 1 _ _ _ HF.out.box
  have c2 : w2.cell? ⟨w.heap.size, 2, none⟩ = some (.int .i64 x2) := cell_of_row _ _ 2 _ _ _ HF.out.box
  have c3 : w2.cell? ⟨w.heap.size, 3, none⟩ = some (.int .i64 x3) := cell_of_row _ _ 3 _ _ _ HF.out.box
  have c4 : w2.cell? ⟨w.heap.size, 4, none⟩ = some (.string r) := cell_of_row _ _ 4 _ _ _ HF.out.box
  have c5 : w2.cell? ⟨w.heap.size, 5, none⟩ = some (.slice xa rs.length xc) := cell_of_row _ _ 5 _ _ _ HF.out.box
  go_wp2_with fail
  refine (kpiece_any cs g cc x0 x1 x2 x3 r _ _ HI0.out HI1.out HI2.out HI3.out HR.out hpos HF.out.src).mono ?_
  rintro e w3 ⟨c, a, m, n, z, rfl, hz, hm1, hm128, ham, hn, hb3⟩
  have HF3 : Hid (KpF w (w3.alloc (.cells #[.int .i64 (c : Int), .int .i64 (a : Int)] 37)) #[.int .i64 x0, .int .i64 x1, .int .i64 x2, .int .i64 x3, .string r, .slice xa rs.length xc] cs g bx B) := (HF.out.mono hb3).alloc _
  have HPL : Hid ((w3.alloc (.cells #[.int .i64 (c : Int), .int .i64 (a : Int)] 37)).heap[w3.heap.size]? = some (.cells #[.int .i64 (c : Int), .int .i64 (a : Int)] 37 (0, 0))) := heap_alloc_new w3 _
  have HZ : Hid _ := hz
  have HN : Hid _ := hn
  obtain ⟨S, hS⟩ : ∃ S, S = (z.2.drop a).take m := ⟨_, rfl⟩
  have hSl : S.length = m := by rw [hS]; exact Kp.piece_len ham
  have HSL : Hid (Lt.allL S = true) := by
    show _ = _
    rw [hS]
    exact Kp.piece_allL (HR.out.let_ z (List.mem_of_getElem? hz)).1 a m
  rw [← hS]
  have HS : Hid _ := hS
  have HSl : Hid _ := hSl
  have hSs : (⟨S.toArray⟩ : ByteArray).size ≤ 128 := by rw [str_size]; omega
  clear c0 c1 c2 c3 c4 c5 hS hSl
  go_wp2_with fail
  generalize hW3 : w3.alloc (.cells #[.int .i64 (c : Int), .int .i64 (a : Int)] 37) = W3 at *
  generalize w3.heap.size = gp at *
  have HBC : Hid (∀ W, Calls Try.prog 15 #[.string ⟨S.toArray⟩, .int .i64 n, .string r] W fun e w' => ∃ t : List UInt8, e = .returned (.string ⟨t.toArray⟩) ∧ Hid (t.length = m ∧ Lt.allL t = true) ∧ Below W.heap.size W w') := fun W =>
    (kbleached_any ⟨S.toArray⟩ r n W HN.out (by omega) hr).mono fun e w' ⟨t, h1, h2, h3⟩ => ⟨t, h1, by
      have hB : Kp.Bl n S t := by have := h2.out; rw [show (⟨S.toArray⟩ : ByteArray).data.toList = S from by simp] at this; exact this
      exact ⟨by rw [hB.len, HSl.out], Kp.bl_allL hB HSL.out⟩, h3⟩
  have HCC : Hid (∀ W (t : List UInt8), Below W3.heap.size W3 W → Hid (t.length = m ∧ Lt.allL t = true) → Calls Try.prog 19 #[.string ⟨t.toArray⟩, .slice xa rs.length xc] W fun e w' => ∃ u : List UInt8, e = .returned (.string ⟨u.toArray⟩) ∧ Hid (u.length = m ∧ Lt.allL u = true) ∧ Below W.heap.size W w') := fun W t hb ht =>
    (kchanged_any ⟨t.toArray⟩ _ rs W (by rw [str_size, ht.out.1]; omega) (by rw [str_size, ht.out.1]; omega) ht.out.2 (HXI.out W (HF3.out.mono hb).below)).mono fun e w' ⟨u, h1, h2, h3⟩ => ⟨u, h1, ⟨by rw [h2.out.1, str_size, ht.out.1], h2.out.2⟩, h3⟩
  have HK4 : Hid (∀ w1 W : World, Below W.heap.size W w1 → (W.cell? ⟨w.heap.size, 4, none⟩ = some (.string r) ∧ W.cell? ⟨w.heap.size, 5, none⟩ = some (.slice xa rs.length xc)) → (w1.cell? ⟨w.heap.size, 4, none⟩ = some (.string r) ∧ w1.cell? ⟨w.heap.size, 5, none⟩ = some (.slice xa rs.length xc))) := fun w1 W hb h =>
    ⟨(hb.cell (World.block_lt_of_cell? W _ h.1)).trans h.1, (hb.cell (World.block_lt_of_cell? W _ h.2)).trans h.2⟩
  have HS4 : Hid (W3.drew.cell? ⟨w.heap.size, 4, none⟩ = some (.string r) ∧ W3.drew.cell? ⟨w.heap.size, 5, none⟩ = some (.slice xa rs.length xc)) := ⟨cell_of_row _ _ 4 _ _ _ HF3.out.box, cell_of_row _ _ 5 _ _ _ HF3.out.box⟩
  have HDR : Hid (∀ w4, Below W3.drew.heap.size W3.drew w4 → Below W3.heap.size W3 w4) := fun w4 h => (Below.refl W3.heap.size W3).drew.trans h
  clear hz hn hb3 HF hW3
  go_region_held3 (fun Y => Y.cell? ⟨w.heap.size, 4, none⟩ = some (.string r) ∧ Y.cell? ⟨w.heap.size, 5, none⟩ = some (.slice xa rs.length xc))
    (first | (with_reducible exact HS4.out) | (with_reducible (refine HK4.out _ _ (by assumption) ?_; assumption)))
    (first
      | (go_at_call 15; go_must (with_reducible refine (HBC.out _).mono ?_); rintro e w4 ⟨t, rfl, HT4, hb4⟩)
      | (go_at_call 19; go_must (with_reducible refine (HCC.out _ _ (by exact HDR.out _ hb4) (by exact HT4)).mono ?_); rintro e w5 ⟨u, rfl, HU, hb5⟩))
  have HB5 : Hid (Below W3.heap.size W3 w5) := by have h := HDR.out _ hb4; exact h.trans (hb5.mono h.size)
  have HF5 : Hid (KpF w w5 #[.int .i64 x0, .int .i64 x1, .int .i64 x2, .int .i64 x3, .string r, .slice xa rs.length xc] cs g bx B) := HF3.out.mono HB5.out
  clear HK4 HS4 HBC HCC hb4 hb5 HT4 HDR
  obtain ⟨T3, hT3⟩ : ∃ T3, T3 = Se.three n u S := ⟨_, rfl⟩
  obtain ⟨AL, hAL⟩ : ∃ AL, AL = Al.mis n u S := ⟨_, rfl⟩
  obtain ⟨Q, hQ⟩ : ∃ Q, Q = Al.along u n := ⟨_, rfl⟩
  obtain ⟨PL, hPL⟩ : ∃ PL, PL = Se.inAll n (k : Int) u cs cs.length := ⟨_, rfl⟩
  obtain ⟨R, hRR⟩ : ∃ R, R = (Al.upto [114] Q (k : Int) cs 4).best := ⟨_, rfl⟩
  have hul : u.length = m := HU.out.1
  have hQl : Q.length = m := by rw [hQ, Al.along_length, hul]
  have HQA : Hid (Lt.allL Q = true) := by show _ = _; rw [hQ]; exact Al.along_allL HU.out.2 n
  have hRt : Se.Right cs := Se.right_of cs (HR.out.err hpos)
  have HAP : Hid (∀ W, Calls Try.prog 20 #[.string ⟨u.toArray⟩, .string ⟨S.toArray⟩, .int .i64 n] W fun e w' => e = .returned (.tuple #[.int .i64 (T3 : Int), .int .i64 (AL : Int)]) ∧ w' = W) := fun W => by
    have h := kapart_any ⟨u.toArray⟩ ⟨S.toArray⟩ n W HN.out (by rw [str_size]; omega) (by rw [str_size, str_size, HSl.out]; omega) (by omega) HU.out.2 HSL.out
    rw [show (⟨u.toArray⟩ : ByteArray).data.toList = u from by simp, show (⟨S.toArray⟩ : ByteArray).data.toList = S from by simp, ← hT3, ← hAL] at h
    exact h
  have HRD : Hid (∀ W, Calls Try.prog 17 #[.string ⟨u.toArray⟩, .int .i64 n] W fun e w' => e = .returned (.string ⟨Q.toArray⟩) ∧ Below W.heap.size W w') := fun W => by
    have h := kread_any ⟨u.toArray⟩ n W (by rw [str_size]; omega)
    rw [show (⟨u.toArray⟩ : ByteArray).data.toList = u from by simp, ← hQ] at h
    exact h
  have HAL : Hid (∀ W, Below w5.heap.size w5 W → Calls Try.prog 16 #[.slice (some ⟨g, 0, none⟩) cs.length cc, .pointer (some ⟨bx, 0, none⟩), .agg #[.string ⟨#[114]⟩, .string ⟨Q.toArray⟩], .int .i64 (k : Int)] W fun e w' => e = .returned (.tuple #[.agg R.vals, .int .i64 0]) ∧ Below W.heap.size W w') := fun W hb => by
    rw [hRR]
    exact Kp.align (HF5.out.mono hb) HR.out hpos Q (k : Int) cc (by omega) (by omega) HQA.out (by omega) (by omega)
  have HFD : Hid (∀ W, Below w5.heap.size w5 W → Calls Try.prog 21 #[.pointer (some ⟨bx, 0, none⟩), .string ⟨u.toArray⟩, .int .i64 n, .int .i64 (k : Int)] W fun e w' => ∃ v, e = .returned (.tuple #[v, .int .i64 0]) ∧ w'.ownsRow W.heap.size 37 2 v PL.length (Se.pls PL) ∧ Below W.heap.size W w') := fun W hb => by
    have h := ixFind_any cs B _ ⟨u.toArray⟩ n (k : Int) W (HF5.out.mono hb).ix hRt (by rw [str_size]; omega)
    have hz0 : Se.findErr n (k : Int) u = 0 := by rw [Pa.find_err HN.out]; exact Kp.err_none (by omega) (by omega) HU.out.2 (by omega) (by omega)
    have ho : Se.findOut n (k : Int) u cs = PL := by rw [hPL, Se.findOut, if_pos hz0]
    rw [show (⟨u.toArray⟩ : ByteArray).data.toList = u from by simp, hz0, ho] at h
    exact h.mono fun e w' ⟨v, h1, h2, _, h3⟩ => ⟨v, h1, h2, h3⟩
  have hPLn : PL.length ≤ 90000 := by rw [hPL]; exact Pa.places_few hRt n (k : Int) u
  have HIN : Hid (((T3 : Int) ≤ (k : Int) → (c, a) ∈ PL) ∧ ((c, a) ∈ PL → (T3 : Int) ≤ (k : Int))) := by
    have e3 : Se.three n u (z.2.drop a) = T3 := by rw [hT3, HS.out, Se.three_short _ _ _ _ (by omega)]
    constructor
    · intro h
      rw [hPL]
      exact Se.mem_inAll (q := (c, a)) HZ.out (by simp only; omega) (by rw [e3]; exact h) cs.length (List.getElem?_eq_some_iff.1 HZ.out).1
    · intro h
      rw [hPL] at h
      obtain ⟨_, y, h1, _, h3⟩ := Se.inAll_mem n (k : Int) u cs cs.length _ h
      rw [HZ.out] at h1
      obtain rfl := Option.some.inj h1
      rw [e3] at h3
      exact h3
  have HEND : Hid ((T3 : Int) ≤ (k : Int) → R = Pa.amb [114] ∨ (R.vd = 1 ∧ R.mm ≤ (AL : Int))) := by
    intro h
    rw [hT3, HS.out] at h
    have h' := Kp.stands (nm := [114]) (b := (k : Int)) HZ.out ham hul hm128 HN.out h
    rw [← hQ, ← hRR, ← HS.out, ← hAL] at h'
    rcases h' with h' | ⟨x, y, h', h0⟩
    · exact .inl h'
    · exact .inr (by rw [h']; exact ⟨rfl, by show (x.m : Int) ≤ _; omega⟩)
  have hT3m : T3 ≤ 128 := by rw [hT3]; have := Se.three_le n u S; omega
  have hALm : AL ≤ 128 := by rw [hAL]; have := Al.mis_le n u S; omega
  have HPL5 : Hid (w5.heap[gp]? = some (.cells #[.int .i64 (c : Int), .int .i64 (a : Int)] 37 (0, 0))) := (HB5.out.block gp (Array.getElem?_eq_some_iff.1 HPL.out).1).trans HPL.out
  clear hT3 hAL hQ hPL hRR hul hQl HQA hRt HS HSl HSL HU HPL HB5
  go_wp2_with fail
  refine (HAP.out _).mono ?_
  rintro e w' ⟨rfl, hw⟩
  subst w'
  go_wp2_with fail
  refine (HRD.out _).mono ?_
  rintro e w6 ⟨rfl, hb6⟩
  obtain ⟨rn, rv, rsd, rc, rp, rm, rl, rk⟩ := R
  unfold Rc.vals at HAL
  go_wp2_with fail
  refine (HAL.out _ (by exact hb6)).mono ?_
  rintro e w7 ⟨rfl, hb7⟩
  have hb7' : Below w5.heap.size w5 w7 := hb6.trans (hb7.mono hb6.size)
  have HB7 : Hid (∀ o, Below w5.heap.size w5 (w7.alloc o)) := fun o => hb7'.alloc hb7'.size o
  have HRC : Hid _ := heap_alloc_new w7 (.cells #[.string ⟨rn.toArray⟩, .int .i64 rv, .int .i64 rsd, .string ⟨rc.toArray⟩, .int .i64 rp, .int .i64 rm, .string ⟨rl.toArray⟩, .string ⟨rk.toArray⟩] 42)
  clear HAP HRD HAL hb6 hb7 hb7'
  go_wp2_with fail
  refine (HFD.out _ (by exact HB7.out _)).mono ?_
  rintro e w8 ⟨v, rfl, ho, hb8⟩
  obtain ⟨pa, pc, hv⟩ := own_form ho
  subst hv
  have HPP : Hid (Pa.Pl w8 0 pa PL) := fun j hj => by
    obtain ⟨gv, h1, _, h3, h4, h5⟩ := Pa.Pl.of_own ho j hj
    exact ⟨gv, h1, Nat.zero_le _, h3, h4, h5⟩
  have HB8 : Hid (Below w.heap.size w w8) := (HF5.out.mono ((HB7.out _).trans (hb8.mono (HB7.out _).size))).below
  have hrc8 : w8.heap[w7.heap.size]? = some (.cells #[.string ⟨rn.toArray⟩, .int .i64 rv, .int .i64 rsd, .string ⟨rc.toArray⟩, .int .i64 rp, .int .i64 rm, .string ⟨rl.toArray⟩, .string ⟨rk.toArray⟩] 42 (0, 0)) := (hb8.block _ (by simp)).trans HRC.out
  have hpl8 : w8.heap[gp]? = some (.cells #[.int .i64 (c : Int), .int .i64 (a : Int)] 37 (0, 0)) := by
    have h5 : gp < w5.heap.size := (Array.getElem?_eq_some_iff.1 HPL5.out).1
    have h8 := ((HB7.out (.cells #[.string ⟨rn.toArray⟩, .int .i64 rv, .int .i64 rsd, .string ⟨rc.toArray⟩, .int .i64 rp, .int .i64 rm, .string ⟨rl.toArray⟩, .string ⟨rk.toArray⟩] 42)).trans (hb8.mono (HB7.out _).size)).block gp h5
    exact h8.trans HPL5.out
  generalize w7.heap.size = gr at *
  have HR8 : Hid _ := hrc8
  have HP8 : Hid _ := hpl8
  clear ho hb8 HFD HB7 HRC HPL5 HF5 hrc8 hpl8 HXI
  go_wp2
  go_loopw [20, 21] (fun ib i wr => ∃ q : Nat, q ≤ PL.length ∧ i = .int .i64 (q : Int) ∧ ib = .bool (decide ((c, a) ∈ PL.take q)) ∧ Hid (∃ j, wr = w8.drewN j)) (fun _ i _ => PL.length - (intOf i).toNat)
  case atStart => exact ⟨0, Nat.zero_le _, rfl, by simp, ⟨0, rfl⟩⟩
  case round =>
    obtain ⟨q, hq, rfl, rfl, HW⟩ := hrel
    have HBW : Hid (Below w8.heap.size w8 wr) := by obtain ⟨j, hj⟩ := HW.out; rw [hj]; exact below_drewN (Below.refl _ _) j
    by_cases hlt : q < PL.length
    · have hlt' : (q : Int) < (PL.length : Int) := by omega
      obtain ⟨gv, hva, _, hgs, p0, p1⟩ := HPP.out q hlt
      subst hva
      obtain ⟨y, hy⟩ : ∃ y, y = PL[q] := ⟨_, rfl⟩
      rw [← hy] at p0 p1
      have p0' := (HBW.out.cell (p := ⟨gv, q * 2, none⟩) hgs).trans p0
      have p1' := (HBW.out.cell (p := ⟨gv, q * 2 + 1, none⟩) hgs).trans p1
      have hp8 : wr.heap[gp]? = some (.cells #[.int .i64 (c : Int), .int .i64 (a : Int)] 37 (0, 0)) := (HBW.out.block gp (Array.getElem?_eq_some_iff.1 HP8.out).1).trans HP8.out
      have s0 : wr.cell? ⟨gp, 0, none⟩ = some (.int .i64 (c : Int)) := cell_of_row _ _ 0 _ _ _ hp8
      have s1 : wr.cell? ⟨gp, 1, none⟩ = some (.int .i64 (a : Int)) := cell_of_row _ _ 1 _ _ _ hp8
      have hmem : ((c, a) ∈ PL.take (q + 1)) ↔ ((c, a) ∈ PL.take q ∨ y = (c, a)) := by
        rw [List.take_succ_eq_append_getElem hlt, List.mem_append, List.mem_singleton, ← hy]
        exact ⟨fun h => h.imp id Eq.symm, fun h => h.imp id Eq.symm⟩
      cases hin : decide ((c, a) ∈ PL.take q) with
      | true =>
        have HNX : Hid (Value.bool true = .bool (decide ((c, a) ∈ PL.take (q + 1)))) := by show _ = _; rw [decide_eq_true (hmem.2 (.inl (of_decide_eq_true hin)))]
        clear hin hmem hy p0 p1 hp8
        go_wp2_with fail
        go_quiet (fail)
        go_wp2
        go_roundw
        case rel => exact ⟨q + 1, by omega, by go_num, HNX.out, by obtain ⟨j, hj⟩ := HW.out; rw [hj]; exact ⟨j + nq, by rw [drewN_more]⟩⟩
        case measure => simp [intOf]; omega
      | false =>
        by_cases hyc : y = (c, a)
        · have HNX : Hid (Value.bool true = .bool (decide ((c, a) ∈ PL.take (q + 1)))) := by show _ = _; rw [decide_eq_true (hmem.2 (.inr hyc))]
          have heq := eql_place
          subst hyc
          clear hin hmem hy p0 p1 hp8
          go_wp2_with fail
          go_quiet (fail)
          go_wp2
          go_roundw
          case rel => exact ⟨q + 1, by omega, by go_num, HNX.out, by obtain ⟨j, hj⟩ := HW.out; rw [hj]; exact ⟨j + nq, by rw [drewN_more]⟩⟩
          case measure => simp [intOf]; omega
        · have HNX : Hid (Value.bool false = .bool (decide ((c, a) ∈ PL.take (q + 1)))) := by
            show _ = _
            rw [decide_eq_false fun h => ?_]
            rcases hmem.1 h with h | h
            · exact of_decide_eq_false hin h
            · exact hyc h
          have heq := neq_place y.1 y.2 c a (fun h1 h2 => hyc (Prod.ext h1 h2))
          clear hin hmem hy p0 p1 hp8 hyc
          go_wp2_with fail
          go_quiet (fail)
          go_wp2
          go_roundw
          case rel => exact ⟨q + 1, by omega, by go_num, HNX.out, by obtain ⟨j, hj⟩ := HW.out; rw [hj]; exact ⟨j + nq, by rw [drewN_more]⟩⟩
          case measure => simp [intOf]; omega
    · have hqe : q = PL.length := by omega
      have hlt' : ¬ (q : Int) < (PL.length : Int) := by omega
      have hr8 : wr.heap[gr]? = some (.cells #[.string ⟨rn.toArray⟩, .int .i64 rv, .int .i64 rsd, .string ⟨rc.toArray⟩, .int .i64 rp, .int .i64 rm, .string ⟨rl.toArray⟩, .string ⟨rk.toArray⟩] 42 (0, 0)) := (HBW.out.block gr (Array.getElem?_eq_some_iff.1 HR8.out).1).trans HR8.out
      have s1 : wr.cell? ⟨gr, 1, none⟩ = some (.int .i64 rv) := cell_of_row _ _ 1 _ _ _ hr8
      have s5 : wr.cell? ⟨gr, 5, none⟩ = some (.int .i64 rm) := cell_of_row _ _ 5 _ _ _ hr8
      have HBE : Hid (Below w.heap.size w wr) := HB8.out.trans (HBW.out.mono HB8.out.size)
      rw [hqe, List.take_length]
      by_cases hle : (T3 : Int) ≤ (k : Int)
      · have hin : decide ((c, a) ∈ PL) = true := decide_eq_true (HIN.out.1 hle)
        rw [hin]
        have hgt : ¬ (k : Int) < (T3 : Int) := by omega
        rcases HEND.out hle with h | ⟨h, h'⟩
        · simp only [Pa.amb, Rc.mk.injEq] at h
          obtain ⟨_, rfl, _, _, _, rfl, _, _⟩ := h
          clear hin hqe hr8 HEND HIN hle
          go_wp2
          go_ret
          exact ⟨rfl, HBE.out⟩
        · have h9 : rv = 1 := h
          have h8 : rm ≤ (AL : Int) := h'
          subst h9
          clear hin hqe hr8 HEND HIN hle h h'
          go_wp2
          go_ret
          exact ⟨rfl, HBE.out⟩
      · have hin : decide ((c, a) ∈ PL) = false := decide_eq_false fun h => hle (HIN.out.2 h)
        rw [hin]
        have hgt : (k : Int) < (T3 : Int) := by omega
        clear hin hqe hr8 HEND HIN hle
        go_wp2
        go_ret
        exact ⟨rfl, HBE.out⟩

end Go.Proofs.Ytjebhbopmfcopaa
