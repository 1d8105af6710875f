/-
  THE WALK of the program's choose, where there is no error. Own text of the verifier.
-/
import Derived.Test.YtjebhbopmfcopaaBun13
namespace Go.Proofs.Ytjebhbopmfcopaa
open Go.RowKit

set_option maxRecDepth 100000 in
set_option maxHeartbeats 1600000 in
theorem choose_good (lt : List UInt8) (b : Int) (cs : List Pr) (B : Nat) (p : Value) (ad : Addr) (cc : Nat) (w : World) (hR : Se.Right cs) (hI : IxAt w B p cs) (hE : Al.err b lt = 0) (hsrc : ∀ j u, (Prs cs)[j]? = some u → w.cell? (ad.add j) = some u) :
    Calls Try.prog 29 #[.slice (some ad) cs.length cc, p, .string ⟨lt.toArray⟩, .int .i64 b] w fun e w' =>
      e = .returned (.tuple #[.agg (Pa.upto lt b cs 4).vals, .int .i64 0]) ∧ Below w.heap.size w w' := by
  have hp : ∃ bx, p = .pointer (some ⟨bx, 0, none⟩) := by obtain ⟨bx, _, _, h1, _⟩ := hI; exact ⟨bx, h1⟩
  obtain ⟨bx, rfl⟩ := hp
  obtain ⟨hb0, hb3, hL0, hl128⟩ := Al.err_none hE
  have HIX : Hid (IxAt w B (.pointer (some ⟨bx, 0, none⟩)) cs) := hI
  have HR : Hid _ := hR
  have HSRC : Hid _ := hsrc
  have HE : Hid _ := hE
  have HEQ : Hid _ := Pa.upto_eq hR lt b
  have hfew := hR.few
  have hpos := hR.pos
  have HFIN : Hid (∀ x : Pa.Ch, x = Pa.upto lt b cs 4 → (Pa.upto lt b cs 4).vals = x.vals) := fun x h => by rw [h]
  obtain ⟨FV, hFV⟩ : ∃ FV, FV = (Pa.upto lt b cs 4).vals := ⟨_, rfl⟩
  rw [← hFV] at HFIN ⊢
  clear hFV hR hI hE hsrc hL0
  go_enter Try.func29, Try.ntmps29
  go_wp2
  go_loopw [20] (fun i wr => ∃ (k : Nat) (x : Pa.Ch), k ≤ 4 ∧ i = .int .i64 (k : Int) ∧ Hid (x = Pa.upto lt b cs k) ∧ Hid (PaB w wr x)) (fun i _ => 4 - (intOf i).toNat)
  case atStart => exact ⟨0, Pa.zero, by omega, rfl, rfl, PaB.start w⟩
  case round =>
    obtain ⟨k, x, hk, rfl, HST, HAB⟩ := hrel
    by_cases hlt : k < 4
    · have hlt' : (k : Int) < 4 := by omega
      have h4 := ix_four k hlt
      obtain ⟨n, hn⟩ : ∃ n : Int, n = ((k + 1 : Nat) : Int) := ⟨_, rfl⟩
      have hnn : n = (k : Int) + 1 := by omega
      have HNS : Hid (Lt.strandB n = true) := by show _ = _; rw [Lt.strandB, Bool.and_eq_true]; exact ⟨decide_eq_true (by omega), decide_eq_true (by omega)⟩
      obtain ⟨S, hS⟩ : ∃ S, S = Al.along lt n := ⟨_, rfl⟩
      have hSl : S.length ≤ 128 := by rw [hS, Al.along_length]; exact hl128
      obtain ⟨PL, hPL⟩ : ∃ PL, PL = Se.inAll n b S cs cs.length := ⟨_, rfl⟩
      have hPLn : PL.length ≤ 90000 := by rw [hPL]; exact Pa.places_few HR.out n b S
      have HMEM : Hid (∀ q ∈ PL, q.1 < cs.length ∧ ∃ y, cs[q.1]? = some y ∧ q.2 + S.length ≤ y.2.length) := fun q hq => by
        rw [hPL] at hq
        obtain ⟨h1, y, h2, h3, _⟩ := Se.inAll_mem n b S cs cs.length q hq
        exact ⟨h1, y, h2, h3⟩
      have HNEXT : Hid (Pa.upto lt b cs (k + 1) = PL.foldl (fun x q => Pa.weigh x (Pa.cand n S cs q)) x) := by
        show Pa.strand lt b cs (Pa.upto lt b cs k) ((k + 1 : Nat) : Int) = _
        rw [← hn, ← HST.out, Pa.strand, ← hS, ← hPL]
      have hxe : x.eq ≤ 360000 := by have := HEQ.out k; rw [← HST.out] at this; omega
      have HAC : Hid (∀ W : World, Calls Try.prog 42 #[.string ⟨lt.toArray⟩, .int .i64 ((k : Int) + 1)] W fun e w' => e = .returned (.string ⟨S.toArray⟩) ∧ Below W.heap.size W w') := fun W => by
        have h := palong_any ⟨lt.toArray⟩ n W (by rw [str_size]; omega) HNS.out (.inr (by rw [show (⟨lt.toArray⟩ : ByteArray).data.toList = lt from by simp]; exact Pa.err_allL HE.out))
        rw [show (⟨lt.toArray⟩ : ByteArray).data.toList = lt from by simp, ← hS, hnn] at h
        exact h
      have HFC : Hid (∀ W : World, Below w.heap.size w W → Calls Try.prog 21 #[.pointer (some ⟨bx, 0, none⟩), .string ⟨S.toArray⟩, .int .i64 ((k : Int) + 1), .int .i64 b] W fun e w' => ∃ v, e = .returned (.tuple #[v, .int .i64 0]) ∧ w'.ownsRow W.heap.size 37 2 v PL.length (Se.pls PL) ∧ Below W.heap.size W w') := fun W hb => by
        have h := ixFind_any cs B _ ⟨S.toArray⟩ n b W (IxAt.below HIX.out hb) HR.out (by rw [str_size]; omega)
        have hz : Se.findErr n b S = 0 := by rw [Pa.find_err HNS.out, hS]; exact Pa.along_err HE.out n
        have ho : Se.findOut n b S cs = PL := by rw [hPL, Se.findOut, if_pos hz]
        rw [show (⟨S.toArray⟩ : ByteArray).data.toList = S from by simp, hz, ho, hnn] at h
        exact h.mono fun e w' ⟨v, h1, h2, _, h3⟩ => ⟨v, h1, h2, h3⟩
      have HNE : Hid _ := hnn
      clear HST hS hPL hnn hn
      go_wp2_with fail
      refine (HAC.out _).mono ?_
      rintro e w1 ⟨rfl, hb1⟩
      have HAB1 : Hid _ := PaB.mono HAB.out hb1
      clear hb1 HAB
      go_wp2_with fail
      refine (HFC.out _ (PaB.below HAB1.out)).mono ?_
      rintro e w2 ⟨v, rfl, ho, hb2⟩
      obtain ⟨va, vcap, hv⟩ := own_form ho
      subst hv
      have HAB2 : Hid _ := PaB.mono HAB1.out hb2
      have HPL2 : Hid (Pa.Pl w2 (w.heap.size + 2) va PL) := Pa.Pl.of_own (own_base ho (PaB.size HAB1.out))
      clear hb2 ho HAB1
      go_wp2
      go_loopw [40] (fun i wr2 => ∃ (q : Nat) (x2 : Pa.Ch), q ≤ PL.length ∧ i = .int .i64 (q : Int) ∧ Hid (x2 = (PL.take q).foldl (fun x q => Pa.weigh x (Pa.cand n S cs q)) x) ∧ Hid (PaB w wr2 x2) ∧ Hid (Pa.Pl wr2 (w.heap.size + 2) va PL)) (fun i _ => PL.length - (intOf i).toNat)
      case atStart => exact ⟨0, x, Nat.zero_le _, rfl, by simp [Hid], HAB2.out, HPL2.out⟩
      case round =>
        clear HAB2 HPL2
        obtain ⟨q, x2, hq, rfl, HST3, HAB, HPL⟩ := hrel
        by_cases hqlt : q < PL.length
        · have hq' : (q : Int) < (PL.length : Int) := by omega
          obtain ⟨y, hy⟩ : ∃ y, y = PL[q] := ⟨_, rfl⟩
          have HSTEP : Hid ((PL.take (q + 1)).foldl (fun x q => Pa.weigh x (Pa.cand n S cs q)) x = Pa.weigh x2 (Pa.cand n S cs y)) := by
            show _ = _
            rw [List.take_succ_eq_append_getElem hqlt, List.foldl_append, ← HST3.out, hy]
            first | done | rfl
          have hx2 : x2.eq ≤ 1000000000 := by
            have := Pa.fold_eq n S cs (PL.take q) x
            rw [← HST3.out, List.length_take] at this
            omega
          obtain ⟨hc1, z, hz, hpx⟩ := HMEM.out y (by rw [hy]; exact List.getElem_mem _)
          have hze : z = cs[y.1] := by rw [List.getElem?_eq_getElem hc1] at hz; exact (Option.some.inj hz).symm
          have hzl : z.2.length ≤ 4096 := HR.out.len z (by rw [hze]; exact List.getElem_mem _)
          obtain ⟨gv, hva, hlo, hgs, p0, p1⟩ := HPL.out q hqlt
          rw [← hy] at p0 p1
          have hsw := src_keep HSRC.out (PaB.below HAB.out)
          have s1 := src_pair hsw y.1 hc1
          rw [← hze] at s1
          have hc1' : (y.1 : Int) < (cs.length : Int) := by omega
          obtain ⟨c, p⟩ := y
          dsimp only at p0 p1 s1 hc1 hc1' hpx hz HSTEP
          have hzs : (⟨z.2.toArray⟩ : ByteArray).size = z.2.length := str_size z.2
          have hp2 : (p : Int) ≤ (z.2.length : Int) := by omega
          obtain ⟨m, hm⟩ : ∃ m, m = Al.mis n S (z.2.drop p) := ⟨_, rfl⟩
          have hcand : Pa.cand n S cs (c, p) = ⟨(k : Int) + 1, c, p, S, m⟩ := by
            unfold Pa.cand
            rw [List.getD_eq_getElem?_getD, hz, hm, HNE.out]
            rfl
          rw [hcand] at HSTEP
          have HLC : Hid (∀ o, Calls Try.prog 43 #[.slice (some ad) cs.length cc, .agg #[.int .i64 (c : Int), .int .i64 (p : Int)], .int .i64 (S.length : Int)] (wr.alloc o) fun e w' => e = .returned (.bool true) ∧ Below (wr.alloc o).heap.size (wr.alloc o) w') := fun o => by
            refine plies_yes cs.length cc ad c p S.length z.2 _ hc1 hpx (by omega) ?_
            exact (((Below.refl _ _).alloc (Nat.le_refl _) o).cell (World.block_lt_of_cell? wr _ s1)).trans s1
          have HS1 : Hid _ := s1
          subst hva
          clear hcand hz hze hsw s1 HST3
          go_wp2_with fail
          refine (HLC.out _).mono ?_
          rintro e w3 ⟨rfl, hb3⟩
          have hb3' : Below wr.heap.size wr w3 := ((Below.refl _ _).alloc (Nat.le_refl _) _).trans (hb3.mono (by simp))
          have s1 : w3.cell? ⟨(ad.add (c * 2)).block, (ad.add (c * 2)).off + 1, none⟩ = some (.string ⟨z.2.toArray⟩) := by
            rw [addr_next]
            exact (hb3'.cell (World.block_lt_of_cell? wr _ HS1.out)).trans HS1.out
          have q0 : w3.cell? ⟨wr.heap.size, 0, none⟩ = some (.int .i64 (c : Int)) := (hb3.cell (p := ⟨wr.heap.size, 0, none⟩) (by simp)).trans (cell_of_row _ _ 0 _ _ _ (heap_alloc_new wr _))
          have q1 : w3.cell? ⟨wr.heap.size, 1, none⟩ = some (.int .i64 (p : Int)) := (hb3.cell (p := ⟨wr.heap.size, 1, none⟩) (by simp)).trans (cell_of_row _ _ 1 _ _ _ (heap_alloc_new wr _))
          have HAB3 : Hid _ := PaB.mono HAB.out hb3'
          have HPL3 : Hid _ := Pa.Pl.mono HPL.out hb3'
          clear HAB HPL hb3 hb3' HS1 HLC p0 p1
          go_wp2_with fail
          go_quiet (fail)
          go_wp2_with fail
          have hb4 : Below w3.heap.size w3 (w3.drewN nq) := below_drewN (Below.refl _ _) nq
          have q0' := (hb4.cell (World.block_lt_of_cell? w3 _ q0)).trans q0
          have q1' := (hb4.cell (World.block_lt_of_cell? w3 _ q1)).trans q1
          have HAB4 : Hid _ := PaB.mono HAB3.out hb4
          have HPL4 : Hid _ := Pa.Pl.mono HPL3.out hb4
          clear q0 q1 HAB3 HPL3 s1 hb4
          generalize w3.drewN nq = w4 at *
          have HMC : Hid (∀ W : World, Calls Try.prog 45 #[.string ⟨S.toArray⟩, .string ((⟨z.2.toArray⟩ : ByteArray).extract p z.2.length), .int .i64 ((k : Int) + 1)] W fun e w' => e = .returned (.int .i64 (m : Int)) ∧ ∃ j, w' = W.drewN j) := fun W => by
            have h := pmis_any ⟨S.toArray⟩ ((⟨z.2.toArray⟩ : ByteArray).extract p z.2.length) n W HNS.out (by rw [str_size]; omega) (by rw [ByteArray.size_extract, hzs, str_size]; omega) (by rw [ByteArray.size_extract, hzs]; omega)
            have e : Al.mis n (⟨S.toArray⟩ : ByteArray).data.toList ((⟨z.2.toArray⟩ : ByteArray).extract p z.2.length).data.toList = m := by
              rw [extract_piece]
              show Al.mis n S (Tx.piece ⟨z.2.toArray⟩ p z.2.length) = m
              rw [Tx.piece, Al.mis_short _ _ _ _ (by omega), hm]
            rw [e, HNE.out] at h
            exact h
          have HWC : Hid (∀ W : World, Below w4.heap.size w4 W → Calls Try.prog 44 #[.pointer (some ⟨w.heap.size + 1, 0, none⟩), .agg #[.int .i64 ((k : Int) + 1), .int .i64 (c : Int), .int .i64 (p : Int), .string ⟨S.toArray⟩, .int .i64 (m : Int)]] W fun e w' => e = .returned (.tuple #[]) ∧ Hid (PaB w w' (Pa.weigh x2 ⟨(k : Int) + 1, c, p, S, m⟩)) ∧ Hid (Pa.Pl w' (w.heap.size + 2) (some ⟨gv, 0, none⟩) PL)) := fun W hb => by
            have h1 := PaB.mono HAB4.out hb
            refine (pweigh x2 ⟨(k : Int) + 1, c, p, S, m⟩ (w.heap.size + 1) W h1.box hx2).mono ?_
            rintro e w' ⟨rfl, hT⟩
            exact ⟨rfl, h1.turn hT, (Pa.Pl.mono HPL4.out hb).turn hT (by omega)⟩
          clear HAB4 HPL4 hm hx2
          go_region_with (first
            | (go_at_call 45; refine (HMC.out _).mono ?_; rintro e w5 ⟨rfl, j5, hw5⟩; subst w5)
            | (go_at_call 44; refine (HWC.out _ (by first | exact Below.refl _ _ | exact below_drewN (Below.refl _ _) _ | exact Below.drew (below_drewN (Below.refl _ _) _) | exact Below.drew (Below.drew (below_drewN (Below.refl _ _) _)))).mono ?_; rintro e w6 ⟨rfl, HAB6, HPL6⟩))
          all_goals
            go_wp2
            go_roundw
            case rel => exact ⟨q + 1, _, by omega, by go_num, HSTEP.out.symm, HAB6.out, HPL6.out⟩
            case measure => simp [intOf]; omega
        · have hqe : q = PL.length := by omega
          have hqlt' : ¬ (q : Int) < (PL.length : Int) := by omega
          have HST4 : Hid (x2 = Pa.upto lt b cs (k + 1)) := by show _ = _; rw [HNEXT.out, HST3.out, hqe, List.take_length]
          clear hqe
          go_wp2
          go_roundw
          case rel => exact ⟨k + 1, x2, by omega, by go_num, HST4.out, HAB.out⟩
          case measure => simp [intOf]; omega
    · have hk4 : k = 4 := by omega
      have hlt' : ¬ (k : Int) < 4 := by omega
      have HV : Hid (FV = x.vals) := HFIN.out x (by rw [HST.out, hk4])
      have hbox := PaB.box HAB.out
      have hres := PaB.res HAB.out
      have m0 : wr.cell? ⟨w.heap.size + 1, 0, none⟩ = some (.int .i64 x.b.n) := cell_of_row wr (w.heap.size + 1) 0 _ _ _ hbox
      have m1 : wr.cell? ⟨w.heap.size + 1, 1, none⟩ = some (.int .i64 (x.b.c : Int)) := cell_of_row wr (w.heap.size + 1) 1 _ _ _ hbox
      have m2 : wr.cell? ⟨w.heap.size + 1, 2, none⟩ = some (.int .i64 (x.b.a : Int)) := cell_of_row wr (w.heap.size + 1) 2 _ _ _ hbox
      have m3 : wr.cell? ⟨w.heap.size + 1, 3, none⟩ = some (.string ⟨x.b.s.toArray⟩) := cell_of_row wr (w.heap.size + 1) 3 _ _ _ hbox
      have m4 : wr.cell? ⟨w.heap.size + 1, 4, none⟩ = some (.int .i64 (x.b.m : Int)) := cell_of_row wr (w.heap.size + 1) 4 _ _ _ hbox
      have m5 : wr.cell? ⟨w.heap.size + 1, 5, none⟩ = some (.int .i64 (x.eq : Int)) := cell_of_row wr (w.heap.size + 1) 5 _ _ _ hbox
      have r0 : wr.cell? ⟨w.heap.size, 0, none⟩ = some (.int .i64 0) := cell_of_row wr w.heap.size 0 _ _ _ hres
      have f0 : wr.frozen? ⟨w.heap.size, 0, none⟩ = false := frozen_of_row wr w.heap.size 0 _ _ hres
      have r1 : wr.cell? ⟨w.heap.size, 1, none⟩ = some (.int .i64 0) := cell_of_row wr w.heap.size 1 _ _ _ hres
      have f1 : wr.frozen? ⟨w.heap.size, 1, none⟩ = false := frozen_of_row wr w.heap.size 1 _ _ hres
      have r2 : wr.cell? ⟨w.heap.size, 2, none⟩ = some (.int .i64 0) := cell_of_row wr w.heap.size 2 _ _ _ hres
      have f2 : wr.frozen? ⟨w.heap.size, 2, none⟩ = false := frozen_of_row wr w.heap.size 2 _ _ hres
      have r3 : wr.cell? ⟨w.heap.size, 3, none⟩ = some (.string ⟨#[]⟩) := cell_of_row wr w.heap.size 3 _ _ _ hres
      have f3 : wr.frozen? ⟨w.heap.size, 3, none⟩ = false := frozen_of_row wr w.heap.size 3 _ _ hres
      have r4 : wr.cell? ⟨w.heap.size, 4, none⟩ = some (.int .i64 0) := cell_of_row wr w.heap.size 4 _ _ _ hres
      have f4 : wr.frozen? ⟨w.heap.size, 4, none⟩ = false := frozen_of_row wr w.heap.size 4 _ _ hres
      have r5 : wr.cell? ⟨w.heap.size, 5, none⟩ = some (.int .i64 0) := cell_of_row wr w.heap.size 5 _ _ _ hres
      have f5 : wr.frozen? ⟨w.heap.size, 5, none⟩ = false := frozen_of_row wr w.heap.size 5 _ _ hres
      have HTT : Hid (Pa.T w.heap.size wr wr Pa.zero.vals) := Pa.T.refl hres
      have HBB : Hid _ := PaB.below HAB.out
      clear hbox hres hk4 HST HAB
      go_wp2
      have hT := (((((HTT.out.set 0 (.int .i64 x.b.n)).set 1 (.int .i64 (x.b.c : Int))).set 2 (.int .i64 (x.b.a : Int))).set 3 (.string ⟨x.b.s.toArray⟩)).set 4 (.int .i64 (x.b.m : Int))).set 5 (.int .i64 (x.eq : Int))
      refine bodyPost_ret (ch_ret rfl hT.row rfl) rfl ?_
      exact ⟨by rw [HV.out]; rfl, HBB.out.trans (hT.beneath (Nat.le_refl _) HBB.out.size)⟩

end Go.Proofs.Ytjebhbopmfcopaa
