/-
  THE WALK of the law Called. Own text of the verifier.
-/
import Derived.Test.YtjebhbopmfcopaaXKpCalls
import Derived.Test.YtjebhbopmfcopaaBun17
import Derived.Test.YtjebhbopmfcopaaXKpApart
namespace Go.Proofs.Ytjebhbopmfcopaa
open Go.RowKit

set_option maxRecDepth 100000 in
set_option maxHeartbeats 16000000 in
theorem called_false (w : World) (tv xv : Value) (ts : List ByteArray) (s : ByteArray) (rs : List Int) (x0 x1 x2 x3 b : Int) (r : ByteArray) (hT : Kp.Txs w tv ts) (hs : s.size ≤ maxLen) (hXI : Kp.Ints w xv rs) (h0 : Kp.i64 x0) (h1 : Kp.i64 x1) (h2 : Kp.i64 x2) (h3 : Kp.i64 x3) (h4 : Kp.i64 b) (_hr : r.size ≤ 140737488355327) :
    Calls Try.prog 7 #[tv, .string s, .agg #[.int .i64 x0, .int .i64 x1, .int .i64 x2, .int .i64 x3, .string r, xv], .bool false, .int .i64 b] w fun e w' => e = .returned (.bool true) ∧ Below w.heap.size w w' := by
  obtain ⟨va, vc, hv⟩ := hT.form
  subst hv
  obtain ⟨xa, xc, hxv⟩ := hXI.form
  subst hxv
  have HT : Hid (∀ o, Kp.Txs (w.alloc o) (.slice va ts.length vc) ts) := fun o => hT.mono ((Below.refl _ _).alloc (Nat.le_refl _) o)
  have HXI : Hid (∀ W, Below w.heap.size w W → Kp.Ints W (.slice xa rs.length xc) rs) := fun W hb => hXI.mono hb
  obtain ⟨k, hk, hkv⟩ := pickV_in b 4 (by omega)
  have HPK : Hid (∀ W : World, Calls Try.prog 18 #[.int .i64 b, .int .i64 4] W fun e w' => e = .returned (.int .i64 (k : Int)) ∧ w' = W) := fun W => by
    have := kpick_any b 4 W h4.1 h4.2 (by omega) (by omega)
    rw [hkv] at this
    exact this
  have HI0 : Hid _ := h0
  have HI1 : Hid _ := h1
  have HI2 : Hid _ := h2
  have HI3 : Hid _ := h3
  clear hT hXI hkv h0 h1 h2 h3 h4
  go_enter Try.func7, Try.ntmps7
  go_wp2_with fail
  refine (kreference_any ts _ _ (HT.out _)).mono ?_
  rintro e w1 ⟨cs, g, cc, rfl, hg1, hg2, hpos, hR, hsrc, hb1⟩
  have HR : Hid _ := hR
  have HSRC : Hid _ := hsrc
  have HB1 : Hid _ := hb1
  clear hR hsrc hb1 HT
  go_wp2_with fail
  refine (kopen_any cs g cc _ HR.out hpos HSRC.out).mono ?_
  rintro e w2 ⟨bx, rfl, HIX, hb2⟩
  obtain ⟨B, hB⟩ : ∃ B, B = w1.heap.size := ⟨_, rfl⟩
  have HF : Hid (KpF w w2 #[.int .i64 x0, .int .i64 x1, .int .i64 x2, .int .i64 x3, .string r, .slice xa rs.length xc] cs g bx B) := by
    have hA : Below w.heap.size w (w.alloc (.cells #[.int .i64 x0, .int .i64 x1, .int .i64 x2, .int .i64 x3, .string r, .slice xa rs.length xc] 31)) := (Below.refl _ _).alloc (Nat.le_refl _) _
    have hs1 := HB1.out.size
    have hs2 := hb2.size
    rw [World.size_alloc] at hs1
    have hB2 := HB1.out.trans (hb2.mono (by rw [World.size_alloc]; omega))
    exact ⟨hA.trans (hB2.mono (by simp)), by omega, (hB2.block _ (by simp)).trans (heap_alloc_new w _), src_keep HSRC.out hb2, by rw [hB]; exact HIX.out, by omega⟩
  clear HB1 HSRC HIX hb2 hg1 hg2 hB
  have HLC : Hid (∀ W : World, Calls Try.prog 8 #[.string s, .int .i64 128] W fun e w' => ∃ t : List UInt8, e = .returned (.string ⟨t.toArray⟩) ∧ Hid (1 ≤ t.length ∧ t.length ≤ 128 ∧ Lt.allL t = true) ∧ Below W.heap.size W w') := fun W =>
    (letters_any s 128 W hs (by omega) (by omega)).mono fun e w' ⟨t, h1, h2, h3, h4, h5⟩ => ⟨t, h1, ⟨h3, by omega, h2⟩, h5⟩
  go_wp2_with fail
  refine (HLC.out _).mono ?_
  rintro e wl ⟨q, rfl, HQQ, hbl⟩
  have HFL : Hid _ := HF.out.mono hbl
  clear HF hbl HLC
  have HFq : Hid (KpF w wl #[.int .i64 x0, .int .i64 x1, .int .i64 x2, .int .i64 x3, .string r, .slice xa rs.length xc] cs g bx B) := HFL.out
  clear HFL HXI HI0 HI1 HI2 HI3
  have HQL : Hid (1 ≤ q.length ∧ q.length ≤ 128 ∧ Lt.allL q = true) := HQQ.out
  have hq128 : q.length ≤ 128 := HQL.out.2.1
  have HON : Hid _ := Al.one (nm := [114]) (b := (k : Int)) (cs := cs) (r := q) hq128
  obtain ⟨R1, hR1⟩ : ∃ R1, R1 = (Al.upto [114] q (k : Int) cs 4).best := ⟨_, rfl⟩
  have HA1 : Hid (∀ W, Below wl.heap.size wl W → Calls Try.prog 16 #[.slice (some ⟨g, 0, none⟩) cs.length cc, .pointer (some ⟨bx, 0, none⟩), .agg #[.string ⟨#[114]⟩, .string ⟨q.toArray⟩], .int .i64 (k : Int)] W fun e w' => e = .returned (.tuple #[.agg R1.vals, .int .i64 0]) ∧ Below W.heap.size W w') := fun W hb => by rw [hR1]; exact Kp.align (HFq.out.mono hb) HR.out hpos q (k : Int) cc (by omega) (by omega) HQL.out.2.2 HQL.out.1 HQL.out.2.1
  have HO1 : Hid (R1 = Pa.unm [114] ∨ R1 = Pa.amb [114] ∨ ∃ x z, R1 = Pa.rec [114] x z ∧ Pa.Ok cs (k : Int) x z ∧ x.s = Al.along q x.n) := by
    rcases HON.out with h | h | ⟨x, z, h, h2, h3⟩
    · exact .inl (hR1.trans h)
    · exact .inr (.inl (hR1.trans h))
    · exact .inr (.inr ⟨x, z, hR1.trans h, h2, h3⟩)
  clear HON hR1 HQQ
  go_wp2_with fail
  refine (HPK.out _).mono ?_
  rintro e w' ⟨rfl, hw⟩
  subst w'
  rcases HO1.out with h | h | ⟨x, z, h, hok, hs⟩
  · have v1 : R1.vals = #[.string ⟨#[114]⟩, .int .i64 0, .int .i64 0, .string ⟨#[]⟩, .int .i64 0, .int .i64 0, .string ⟨#[]⟩, .string ⟨#[]⟩] := by rw [h]; rfl
    rw [v1] at HA1
    clear v1 h HO1
    have heq := Kp.eql_rec
    go_wp2_with fail
    refine (HA1.out _ (by exact Below.refl _ _)).mono ?_
    rintro e w7 ⟨rfl, hb7⟩
    have HBZ : Hid (∀ o, Below w.heap.size w (w7.alloc o)) := fun o => ((HFq.out.mono hb7).alloc o).below
    clear hb7 HA1
    go_wp2
    go_ret
    exact ⟨rfl, HBZ.out _⟩
  · have v1 : R1.vals = #[.string ⟨#[114]⟩, .int .i64 2, .int .i64 0, .string ⟨#[]⟩, .int .i64 0, .int .i64 0, .string ⟨#[]⟩, .string ⟨#[]⟩] := by rw [h]; rfl
    rw [v1] at HA1
    clear v1 h HO1
    have heq := Kp.eql_rec
    go_wp2_with fail
    refine (HA1.out _ (by exact Below.refl _ _)).mono ?_
    rintro e w7 ⟨rfl, hb7⟩
    have HBZ : Hid (∀ o, Below w.heap.size w (w7.alloc o)) := fun o => ((HFq.out.mono hb7).alloc o).below
    clear hb7 HA1
    go_wp2
    go_ret
    exact ⟨rfl, HBZ.out _⟩
  · obtain ⟨zn, zl⟩ := z
    obtain ⟨xn, xc0, xp, xs, xm⟩ := x
    obtain ⟨CL, hCL⟩ : ∃ CL, CL = Al.calls xn xs zl xp xs.length := ⟨_, rfl⟩
    have v1 : R1.vals = #[.string ⟨#[114]⟩, .int .i64 1, .int .i64 xn, .string ⟨zn.toArray⟩, .int .i64 (xp : Int), .int .i64 (xm : Int), .string ⟨xs.toArray⟩, .string ⟨CL.toArray⟩] := by rw [h, hCL]; rfl
    rw [v1] at HA1
    have hat : cs[xc0]? = some (zn, zl) := hok.at_
    have hlies : xp + xs.length ≤ zl.length := hok.lies
    have hst : Lt.strandB xn = true := hok.strand
    have hshort : xs.length ≤ 128 := hok.short
    have hmis : xm = Al.mis xn xs (zl.drop xp) := hok.mis
    have hxs : xs = Al.along q xn := hs
    have hxc : xc0 < cs.length := (List.getElem?_eq_some_iff.1 hat).1
    have hcs4 := HR.out.few
    have hze : cs[xc0] = (zn, zl) := by rw [List.getElem?_eq_getElem hxc] at hat; exact Option.some.inj hat
    have hznm : zn = Kp.nm xc0 := by have := HR.out.nm xc0 hxc; rw [hze] at this; exact this
    have hzL : Lt.allL zl = true ∧ 1 ≤ zl.length ∧ zl.length ≤ 400 := by have := HR.out.let_ cs[xc0] (List.getElem_mem _); rw [hze] at this; exact this
    have hCLl : CL.length = xs.length := by rw [hCL, Al.calls_length]
    have HCA : Hid (∀ j (h1 : j < CL.length) (h2 : j < xs.length), CL[j] = Al.call xn xs[j] zl (xp + j)) := fun j h1 h2 => by
      have e : CL[j] = (Al.calls xn xs zl xp xs.length)[j]'(by rw [Al.calls_length]; exact h2) := by congr 1
      rw [e, Pa.calls_at, List.getD_eq_getElem?_getD, List.getElem?_eq_getElem h2]
      rfl
    have HRD : Hid (∀ W, Calls Try.prog 17 #[.string ⟨q.toArray⟩, .int .i64 xn] W fun e w' => e = .returned (.string ⟨xs.toArray⟩) ∧ Below W.heap.size W w') := fun W => by
      have h := kread_any ⟨q.toArray⟩ xn W (by rw [str_size]; omega)
      rw [show (⟨q.toArray⟩ : ByteArray).data.toList = q from by simp, ← hxs] at h
      exact h
    obtain ⟨TX, hTX⟩ : ∃ TX : ByteArray, TX = (⟨zl.toArray⟩ : ByteArray).extract xp (xp + xs.length) := ⟨_, rfl⟩
    have hTXl : TX.data.toList = (zl.drop xp).take xs.length := by rw [hTX, extract_piece, Tx.piece, Nat.add_sub_cancel_left]
    have hTXs : TX.size = xs.length := by
      have h1 : TX.data.toList.length = TX.size := by simp
      rw [← h1, hTXl, Kp.piece_len hlies]
    obtain ⟨T3, hT3⟩ : ∃ T3, T3 = Se.three xn xs TX.data.toList := ⟨_, rfl⟩
    have HAP : Hid (∀ W, Calls Try.prog 20 #[.string ⟨xs.toArray⟩, .string TX, .int .i64 xn] W fun e w' => e = .returned (.tuple #[.int .i64 (T3 : Int), .int .i64 (xm : Int)]) ∧ w' = W) := fun W => by
      have h := kapart_any ⟨xs.toArray⟩ TX xn W hst (by rw [str_size]; omega) (by rw [str_size, hTXs]; omega) (by rw [hTXs]; omega) (by show Lt.allL xs = true; rw [hxs]; exact Al.along_allL HQL.out.2.2 xn) (by rw [hTXl]; exact Kp.piece_allL hzL.1 _ _)
      rw [show (⟨xs.toArray⟩ : ByteArray).data.toList = xs from by simp, ← hT3, hTXl, Al.mis_short _ _ _ _ (Nat.le_refl _), ← hmis] at h
      exact h
    have HSP : Hid (∀ j (h1 : j < xs.length) (h2 : j < TX.size), zl[xp + j]? = some TX[j]) := fun j h1 h2 => by
      have e : TX.data.toList[j]'(by simpa using h2) = TX[j] := rfl
      have e2 : TX.data.toList[j]? = some TX[j] := by rw [List.getElem?_eq_getElem (by simpa using h2), e]
      rw [hTXl, List.getElem?_take, if_pos h1, List.getElem?_drop] at e2
      exact e2
    have HTX : Hid _ := hTX
    have hxm : xm ≤ 128 := by rw [hmis]; have := Al.mis_le xn xs (zl.drop xp); omega
    have hT3m : T3 ≤ 128 := by rw [hT3]; have := Se.three_le xn xs TX.data.toList; omega
    have HZN : Hid _ := hznm
    have HZE : Hid _ := hze
    have hzs4 : zl.length ≤ 400 := hzL.2.2
    have hCB : ((CL.length : Int) != (xs.length : Int)) = false := by rw [hCLl]; simp
    have HCLl : Hid _ := hCLl
    have hle1 : (xp : Int) + (xs.length : Int) ≤ (zl.length : Int) := by omega
    have HTS : Hid _ := hTXs
    have HST : Hid _ := hst
    clear hat hlies hst hmis hxs hze hznm hzL hCLl hCL hT3 hTX hTXl hTXs hok hs h v1 HO1
    go_wp2_with fail
    refine (HA1.out _ (by exact Below.refl _ _)).mono ?_
    rintro e w7 ⟨rfl, hb7⟩
    have HF7 : Hid _ := (HFq.out.mono hb7).alloc (.cells #[.string ⟨#[114]⟩, .int .i64 1, .int .i64 xn, .string ⟨zn.toArray⟩, .int .i64 (xp : Int), .int .i64 (xm : Int), .string ⟨xs.toArray⟩, .string ⟨CL.toArray⟩] 42)
    have HC7 : Hid _ := heap_alloc_new w7 (.cells #[.string ⟨#[114]⟩, .int .i64 1, .int .i64 xn, .string ⟨zn.toArray⟩, .int .i64 (xp : Int), .int .i64 (xm : Int), .string ⟨xs.toArray⟩, .string ⟨CL.toArray⟩] 42)
    clear hb7 HA1 HFq
    go_wp2_with fail
    refine (HRD.out _).mono ?_
    rintro e w8 ⟨rfl, hb8⟩
    have HF8 : Hid (KpF w w8 #[.int .i64 x0, .int .i64 x1, .int .i64 x2, .int .i64 x3, .string r, .slice xa rs.length xc] cs g bx B) := HF7.out.mono hb8
    have HC8 : Hid (w8.heap[w7.heap.size]? = some (.cells #[.string ⟨#[114]⟩, .int .i64 1, .int .i64 xn, .string ⟨zn.toArray⟩, .int .i64 (xp : Int), .int .i64 (xm : Int), .string ⟨xs.toArray⟩, .string ⟨CL.toArray⟩] 42 (0, 0))) := (hb8.block _ (by simp)).trans HC7.out
    generalize w7.heap.size = ga at *
    clear hb8 HRD HC7 HF7
    go_wp2
    go_loopw [20, 21] (fun tb i wr => ∃ j : Nat, j ≤ cs.length ∧ i = .int .i64 (j : Int) ∧ Hid (tb = .string ⟨(if xc0 < j then zl else []).toArray⟩) ∧ (∃ tl : List UInt8, tb = .string ⟨tl.toArray⟩) ∧ Hid (∃ m, wr = w8.drewN m)) (fun _ i _ => cs.length - (intOf i).toNat)
    case atStart => exact ⟨0, Nat.zero_le _, rfl, by simp [Hid], ⟨[], rfl⟩, ⟨0, rfl⟩⟩
    case round =>
      obtain ⟨j, hj, rfl, HTB, ⟨tl, rfl⟩, HW⟩ := hrel
      have HBW : Hid (Below w8.heap.size w8 wr) := by obtain ⟨m, hm⟩ := HW.out; rw [hm]; exact below_drewN (Below.refl _ _) m
      have HF9 : Hid _ := HF8.out.mono HBW.out
      have hc9 : wr.heap[ga]? = some (.cells #[.string ⟨#[114]⟩, .int .i64 1, .int .i64 xn, .string ⟨zn.toArray⟩, .int .i64 (xp : Int), .int .i64 (xm : Int), .string ⟨xs.toArray⟩, .string ⟨CL.toArray⟩] 42 (0, 0)) := (HBW.out.block ga (Array.getElem?_eq_some_iff.1 HC8.out).1).trans HC8.out
      have r2 : wr.cell? ⟨ga, 2, none⟩ = some (.int .i64 xn) := cell_of_row _ _ 2 _ _ _ hc9
      have r3 : wr.cell? ⟨ga, 3, none⟩ = some (.string ⟨zn.toArray⟩) := cell_of_row _ _ 3 _ _ _ hc9
      have r4 : wr.cell? ⟨ga, 4, none⟩ = some (.int .i64 (xp : Int)) := cell_of_row _ _ 4 _ _ _ hc9
      have r5 : wr.cell? ⟨ga, 5, none⟩ = some (.int .i64 (xm : Int)) := cell_of_row _ _ 5 _ _ _ hc9
      have r6 : wr.cell? ⟨ga, 6, none⟩ = some (.string ⟨xs.toArray⟩) := cell_of_row _ _ 6 _ _ _ hc9
      have r7 : wr.cell? ⟨ga, 7, none⟩ = some (.string ⟨CL.toArray⟩) := cell_of_row _ _ 7 _ _ _ hc9
      by_cases hlt : j < cs.length
      · have hlt' : (j : Int) < (cs.length : Int) := by omega
        have s0 := src_first HF9.out.src j hlt
        have s1 := src_pair HF9.out.src j hlt
        rw [Addr.add_lit, Nat.zero_add] at s0 s1
        have HNJ : Hid _ := HR.out.nm j hlt
        obtain ⟨ny, hny⟩ : ∃ ny, ny = cs[j].1 := ⟨_, rfl⟩
        obtain ⟨ly, hly⟩ : ∃ ly, ly = cs[j].2 := ⟨_, rfl⟩
        rw [← hny] at s0 HNJ
        rw [← hly] at s1
        by_cases hje : j = xc0
        · have he : (ny == zn) = true := by rw [HNJ.out, HZN.out, hje]; simp
          have HNX : Hid (Value.string ⟨ly.toArray⟩ = .string ⟨(if xc0 < j + 1 then zl else []).toArray⟩) := by
            show _ = _
            rw [if_pos (by omega), hly]
            have : cs[j] = (zn, zl) := by subst hje; exact HZE.out
            rw [this]
          clear hny hly hje HTB HF9 hc9
          go_wp2_with fail
          go_quiet (fail)
          go_wp2
          go_roundw
          case rel => exact ⟨j + 1, by omega, by go_num, HNX.out, ⟨_, rfl⟩, by obtain ⟨m, hm⟩ := HW.out; rw [hm]; exact ⟨m + nq, by rw [drewN_more]⟩⟩
          case measure => simp [intOf]; omega
        · have he : (ny == zn) = false := by rw [HNJ.out, HZN.out]; exact Kp.nm_ne (by omega) (by omega) hje
          have HNX : Hid (Value.string ⟨tl.toArray⟩ = .string ⟨(if xc0 < j + 1 then zl else []).toArray⟩) := by
            show _ = _
            rw [HTB.out]
            by_cases hc : xc0 < j
            · rw [if_pos hc, if_pos (by omega)]
            · rw [if_neg hc, if_neg (by omega)]
          clear hny hly hje HTB HF9 hc9
          go_wp2_with fail
          go_quiet (fail)
          go_wp2
          go_roundw
          case rel => exact ⟨j + 1, by omega, by go_num, HNX.out, ⟨_, rfl⟩, by obtain ⟨m, hm⟩ := HW.out; rw [hm]; exact ⟨m + nq, by rw [drewN_more]⟩⟩
          case measure => simp [intOf]; omega
      · have hlt' : ¬ (j : Int) < (cs.length : Int) := by omega
        have htl : Value.string ⟨tl.toArray⟩ = .string ⟨zl.toArray⟩ := by rw [HTB.out, if_pos (by omega)]
        have htl2 : zl = tl := by have h := htl; simp at h; exact h.symm
        subst htl2
        have hp0 : ¬ (xp : Int) < 0 := by omega
        have hp1 : (xp : Int) ≤ (xp : Int) + (xs.length : Int) := by omega
        have HBE : Hid (Below w.heap.size w wr) := HF9.out.below
        clear HTB HF9 hc9 htl HF8 HC8 HBW HW r3
        go_wp2_with fail
        rw [← HTX.out]
        refine (HAP.out _).mono ?_
        rintro e w' ⟨rfl, hw⟩
        subst w'
        by_cases htop : Lt.topB xn = true
        · have hb67 : Al.bare xn = 67 := by unfold Al.bare; rw [if_pos htop]
          have hb84 : Al.gone xn = 84 := by unfold Al.gone; rw [if_pos htop]
          have h24 : (xn == 2) = false ∧ (xn == 4) = false := by
            rw [beq_eq_false_iff_ne, beq_eq_false_iff_ne]
            constructor <;> (intro h; rw [h] at htop; exact absurd htop (by decide))
          obtain ⟨n2, n4⟩ := h24
          have HBA : Hid (Al.bare xn = UInt8.ofNat 67 ∧ Al.gone xn = UInt8.ofNat 84) := ⟨hb67, hb84⟩
          clear hb67 hb84 htop
          go_wp2
          go_loop [26] (fun i => ∃ p : Nat, p ≤ xs.length ∧ i = .int .i64 (p : Int)) (fun i => xs.length - (intOf i).toNat)
          case atStart => exact ⟨0, Nat.zero_le _, rfl⟩
          case round =>
            obtain ⟨p, hp, rfl⟩ := hrel
            by_cases hpl : p < xs.length
            · have hpl' : (p : Int) < (xs.length : Int) := by omega
              have hpC : p < (⟨CL.toArray⟩ : ByteArray).size := by rw [str_size, HCLl.out]; exact hpl
              have hpX : p < (⟨xs.toArray⟩ : ByteArray).size := by rw [str_size]; exact hpl
              have hpT : p < TX.size := by rw [HTS.out]; exact hpl
              have i1 := ix_str ⟨CL.toArray⟩ p hpC (p : Int) rfl
              have i2 := ix_str ⟨xs.toArray⟩ p hpX (p : Int) rfl
              have i3 := ix_str TX p hpT (p : Int) rfl
              have HCC : Hid _ := Kp.call_cases (n := xn) (o := xs[p]) (HSP.out p hpl hpT)
              have HCE : Hid ((⟨CL.toArray⟩ : ByteArray)[p] = Al.call xn xs[p] zl (xp + p)) := HCA.out p (by rw [HCLl.out]; exact hpl) hpl
              have HOE : Hid ((⟨xs.toArray⟩ : ByteArray)[p] = xs[p]) := rfl
              rw [← HCE.out, ← HOE.out, HBA.out.1, HBA.out.2] at HCC
              generalize (⟨CL.toArray⟩ : ByteArray)[p] = c at *
              generalize (⟨xs.toArray⟩ : ByteArray)[p] = o at *
              generalize TX[p] = y at *
              have hpC' : (p : Int) < (CL.length : Int) := by rw [HCLl.out]; exact hpl'
              have hpT' : (p : Int) < (TX.size : Int) := by omega
              clear HCE HOE hpC hpX hpT
              rcases HCC.out with ⟨q1, q2⟩ | ⟨q1, q2, q3⟩ | ⟨q1, q2, q3⟩ | ⟨q1, q2, q3, q4⟩
              · have k1 : ((y.toNat : Int) == 67) = false := Kp.ne_int (k := 67) q1 (by omega)
                have k2 : (c.toNat : Int) = 46 := Kp.to_int (k := 46) q2 (by omega)
                rw [k2] at i1
                clear q1 q2 k2 HCC
                as_aux_lemma =>
                  go_wp2
                  go_round
                  case rel => exact ⟨p + 1, by omega, by go_num⟩
                  case measure => simp [intOf]; omega
              · have k1 : (y.toNat : Int) = 67 := Kp.to_int (k := 67) q1 (by omega)
                have k2 : (o.toNat : Int) = 67 := Kp.to_int (k := 67) q2 (by omega)
                rw [k2] at i2
                rw [k1] at i3
                clear q1 q2 k1 k2 HCC
                have q4 : (c.toNat : Int) = 90 ∨ (c.toNat : Int) = 88 ∨ (c.toNat : Int) = 72 ∨ (c.toNat : Int) = 85 := by rcases q3 with q3 | q3 | q3 | q3 <;> (rw [q3]; decide)
                clear q3
                rcases q4 with k3 | k3 | k3 | k3
                all_goals
                  rw [k3] at i1
                  clear k3
                  as_aux_lemma =>
                    go_wp2
                    go_round
                    case rel => exact ⟨p + 1, by omega, by go_num⟩
                    case measure => simp [intOf]; omega
              · have k1 : (y.toNat : Int) = 67 := Kp.to_int (k := 67) q1 (by omega)
                have k2 : (o.toNat : Int) = 84 := Kp.to_int (k := 84) q2 (by omega)
                rw [k2] at i2
                rw [k1] at i3
                clear q1 q2 k1 k2 HCC
                have q4 : (c.toNat : Int) = 122 ∨ (c.toNat : Int) = 120 ∨ (c.toNat : Int) = 104 ∨ (c.toNat : Int) = 117 := by rcases q3 with q3 | q3 | q3 | q3 <;> (rw [q3]; decide)
                clear q3
                rcases q4 with k3 | k3 | k3 | k3
                all_goals
                  rw [k3] at i1
                  clear k3
                  as_aux_lemma =>
                    go_wp2
                    go_round
                    case rel => exact ⟨p + 1, by omega, by go_num⟩
                    case measure => simp [intOf]; omega
              · have k1 : (y.toNat : Int) = 67 := Kp.to_int (k := 67) q1 (by omega)
                have k2 : ((o.toNat : Int) == 67) = false := Kp.ne_int (k := 67) q2 (by omega)
                have k3 : ((o.toNat : Int) == 84) = false := Kp.ne_int (k := 84) q3 (by omega)
                have k4 : (c.toNat : Int) = 46 := Kp.to_int (k := 46) q4 (by omega)
                rw [k4] at i1
                rw [k1] at i3
                clear q1 q2 q3 q4 k1 k4 HCC
                as_aux_lemma =>
                  go_wp2
                  go_round
                  case rel => exact ⟨p + 1, by omega, by go_num⟩
                  case measure => simp [intOf]; omega
            · have hpl' : ¬ (p : Int) < (xs.length : Int) := by omega
              go_wp2
              go_ret
              exact ⟨rfl, HBE.out⟩
        · have htop' : Lt.topB xn = false := by simpa using htop
          have hb67 : Al.bare xn = 71 := by unfold Al.bare; rw [htop']; rfl
          have hb84 : Al.gone xn = 65 := by unfold Al.gone; rw [htop']; rfl
          have HBA : Hid (Al.bare xn = UInt8.ofNat 71 ∧ Al.gone xn = UInt8.ofNat 65) := ⟨hb67, hb84⟩
          have he : ((xn == 2) = true) ∨ ((xn == 2) = false ∧ (xn == 4) = true) := by
            rcases Pa.strand_cases HST.out with h | h | h | h
            · rw [h] at htop'; exact absurd htop' (by decide)
            · left; rw [h]; rfl
            · rw [h] at htop'; exact absurd htop' (by decide)
            · right; rw [h]; exact ⟨rfl, rfl⟩
          clear hb67 hb84 htop htop'
          rcases he with n2 | ⟨n2, n4⟩
          all_goals
            go_wp2
            go_loop [26] (fun i => ∃ p : Nat, p ≤ xs.length ∧ i = .int .i64 (p : Int)) (fun i => xs.length - (intOf i).toNat)
            case atStart => exact ⟨0, Nat.zero_le _, rfl⟩
            case round =>
              obtain ⟨p, hp, rfl⟩ := hrel
              by_cases hpl : p < xs.length
              · have hpl' : (p : Int) < (xs.length : Int) := by omega
                have hpC : p < (⟨CL.toArray⟩ : ByteArray).size := by rw [str_size, HCLl.out]; exact hpl
                have hpX : p < (⟨xs.toArray⟩ : ByteArray).size := by rw [str_size]; exact hpl
                have hpT : p < TX.size := by rw [HTS.out]; exact hpl
                have i1 := ix_str ⟨CL.toArray⟩ p hpC (p : Int) rfl
                have i2 := ix_str ⟨xs.toArray⟩ p hpX (p : Int) rfl
                have i3 := ix_str TX p hpT (p : Int) rfl
                have HCC : Hid _ := Kp.call_cases (n := xn) (o := xs[p]) (HSP.out p hpl hpT)
                have HCE : Hid ((⟨CL.toArray⟩ : ByteArray)[p] = Al.call xn xs[p] zl (xp + p)) := HCA.out p (by rw [HCLl.out]; exact hpl) hpl
                have HOE : Hid ((⟨xs.toArray⟩ : ByteArray)[p] = xs[p]) := rfl
                rw [← HCE.out, ← HOE.out, HBA.out.1, HBA.out.2] at HCC
                generalize (⟨CL.toArray⟩ : ByteArray)[p] = c at *
                generalize (⟨xs.toArray⟩ : ByteArray)[p] = o at *
                generalize TX[p] = y at *
                have hpC' : (p : Int) < (CL.length : Int) := by rw [HCLl.out]; exact hpl'
                have hpT' : (p : Int) < (TX.size : Int) := by omega
                clear HCE HOE hpC hpX hpT
                rcases HCC.out with ⟨q1, q2⟩ | ⟨q1, q2, q3⟩ | ⟨q1, q2, q3⟩ | ⟨q1, q2, q3, q4⟩
                · have k1 : ((y.toNat : Int) == 71) = false := Kp.ne_int (k := 71) q1 (by omega)
                  have k2 : (c.toNat : Int) = 46 := Kp.to_int (k := 46) q2 (by omega)
                  rw [k2] at i1
                  clear q1 q2 k2 HCC
                  as_aux_lemma =>
                    go_wp2
                    go_round
                    case rel => exact ⟨p + 1, by omega, by go_num⟩
                    case measure => simp [intOf]; omega
                · have k1 : (y.toNat : Int) = 71 := Kp.to_int (k := 71) q1 (by omega)
                  have k2 : (o.toNat : Int) = 71 := Kp.to_int (k := 71) q2 (by omega)
                  rw [k2] at i2
                  rw [k1] at i3
                  clear q1 q2 k1 k2 HCC
                  have q4 : (c.toNat : Int) = 90 ∨ (c.toNat : Int) = 88 ∨ (c.toNat : Int) = 72 ∨ (c.toNat : Int) = 85 := by rcases q3 with q3 | q3 | q3 | q3 <;> (rw [q3]; decide)
                  clear q3
                  rcases q4 with k3 | k3 | k3 | k3
                  all_goals
                    rw [k3] at i1
                    clear k3
                    as_aux_lemma =>
                      go_wp2
                      go_round
                      case rel => exact ⟨p + 1, by omega, by go_num⟩
                      case measure => simp [intOf]; omega
                · have k1 : (y.toNat : Int) = 71 := Kp.to_int (k := 71) q1 (by omega)
                  have k2 : (o.toNat : Int) = 65 := Kp.to_int (k := 65) q2 (by omega)
                  rw [k2] at i2
                  rw [k1] at i3
                  clear q1 q2 k1 k2 HCC
                  have q4 : (c.toNat : Int) = 122 ∨ (c.toNat : Int) = 120 ∨ (c.toNat : Int) = 104 ∨ (c.toNat : Int) = 117 := by rcases q3 with q3 | q3 | q3 | q3 <;> (rw [q3]; decide)
                  clear q3
                  rcases q4 with k3 | k3 | k3 | k3
                  all_goals
                    rw [k3] at i1
                    clear k3
                    as_aux_lemma =>
                      go_wp2
                      go_round
                      case rel => exact ⟨p + 1, by omega, by go_num⟩
                      case measure => simp [intOf]; omega
                · have k1 : (y.toNat : Int) = 71 := Kp.to_int (k := 71) q1 (by omega)
                  have k2 : ((o.toNat : Int) == 71) = false := Kp.ne_int (k := 71) q2 (by omega)
                  have k3 : ((o.toNat : Int) == 65) = false := Kp.ne_int (k := 65) q3 (by omega)
                  have k4 : (c.toNat : Int) = 46 := Kp.to_int (k := 46) q4 (by omega)
                  rw [k4] at i1
                  rw [k1] at i3
                  clear q1 q2 q3 q4 k1 k4 HCC
                  as_aux_lemma =>
                    go_wp2
                    go_round
                    case rel => exact ⟨p + 1, by omega, by go_num⟩
                    case measure => simp [intOf]; omega
              · have hpl' : ¬ (p : Int) < (xs.length : Int) := by omega
                go_wp2
                go_ret
                exact ⟨rfl, HBE.out⟩

end Go.Proofs.Ytjebhbopmfcopaa
