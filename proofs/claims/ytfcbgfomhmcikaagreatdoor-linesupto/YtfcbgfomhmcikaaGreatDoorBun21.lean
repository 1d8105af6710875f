/-
  THE WALK of the program's choose, where there is no error. Own text of the verifier.
  strings.Clone, by the library's contract laid at this program. Own text of the verifier.
  THE WALK of the program's aligned. Own text of the verifier.
-/
import Derived.Test.YtfcbgfomhmcikaaGreatDoorBun20
import Derived.Test.YtfcbgfomhmcikaaGreatDoorBun1
import Derived.Shelf.LaysM
import Derived.Shelf.Strconv.Clone
namespace Go.Proofs.YtfcbgfomhmcikaaGreatDoor
open Go.RowKit

set_option maxRecDepth 100000 in
set_option maxHeartbeats 1600000 in
theorem choose_good (lt : List UInt8) (b : Int) (cs : List Pr) (B : Nat) (p : Value) (ad : Addr) (cc : Nat) (w : World) (hR : Se.Right cs) (hI : IxAt w B p cs) (hE : Al.err b lt = 0) (hsrc : ∀ j u, (Prs cs)[j]? = some u → w.cell? (ad.add j) = some u) :
    Calls Tryz.prog 92 #[.slice (some ad) cs.length cc, p, .string ⟨lt.toArray⟩, .int .i64 b] w fun e w' =>
      e = .returned (.tuple #[.agg (Pa.upto lt b cs 4).vals, .int .i64 0]) ∧ Below w.heap.size w w' := by
  have hp : ∃ bx, p = .pointer (some ⟨bx, 0, none⟩) := by obtain ⟨bx, _, _, h1, _⟩ := hI; exact ⟨bx, h1⟩
  obtain ⟨bx, rfl⟩ := hp
  obtain ⟨hb0, hb3, hL0, hl128⟩ := Al.err_none hE
  have HIX : Hid (IxAt w B (.pointer (some ⟨bx, 0, none⟩)) cs) := hI
  have HR : Hid _ := hR
  have HSRC : Hid _ := hsrc
  have HE : Hid _ := hE
  have HEQ : Hid _ := Pa.upto_eq hR lt b
  have hfew := hR.few
  have hpos := hR.pos
  have HFIN : Hid (∀ x : Pa.Ch, x = Pa.upto lt b cs 4 → (Pa.upto lt b cs 4).vals = x.vals) := fun x h => by rw [h]
  obtain ⟨FV, hFV⟩ : ∃ FV, FV = (Pa.upto lt b cs 4).vals := ⟨_, rfl⟩
  rw [← hFV] at HFIN ⊢
  clear hFV hR hI hE hsrc hL0
  go_enter Tryz.func92, Tryz.ntmps92
  go_wp2
  go_loopw [20] (fun i wr => ∃ (k : Nat) (x : Pa.Ch), k ≤ 4 ∧ i = .int .i64 (k : Int) ∧ Hid (x = Pa.upto lt b cs k) ∧ Hid (PaB w wr x)) (fun i _ => 4 - (intOf i).toNat)
  case atStart => exact ⟨0, Pa.zero, by omega, rfl, rfl, PaB.start w⟩
  case round =>
    obtain ⟨k, x, hk, rfl, HST, HAB⟩ := hrel
    by_cases hlt : k < 4
    · have hlt' : (k : Int) < 4 := by omega
      have h4 := ix_four k hlt
      obtain ⟨n, hn⟩ : ∃ n : Int, n = ((k + 1 : Nat) : Int) := ⟨_, rfl⟩
      have hnn : n = (k : Int) + 1 := by omega
      have HNS : Hid (Lt.strandB n = true) := by show _ = _; rw [Lt.strandB, Bool.and_eq_true]; exact ⟨decide_eq_true (by omega), decide_eq_true (by omega)⟩
      obtain ⟨S, hS⟩ : ∃ S, S = Al.along lt n := ⟨_, rfl⟩
      have hSl : S.length ≤ 128 := by rw [hS, Al.along_length]; exact hl128
      obtain ⟨PL, hPL⟩ : ∃ PL, PL = Se.inAll n b S cs cs.length := ⟨_, rfl⟩
      have hPLn : PL.length ≤ 90000 := by rw [hPL]; exact Pa.places_few HR.out n b S
      have HMEM : Hid (∀ q ∈ PL, q.1 < cs.length ∧ ∃ y, cs[q.1]? = some y ∧ q.2 + S.length ≤ y.2.length) := fun q hq => by
        rw [hPL] at hq
        obtain ⟨h1, y, h2, h3, _⟩ := Se.inAll_mem n b S cs cs.length q hq
        exact ⟨h1, y, h2, h3⟩
      have HNEXT : Hid (Pa.upto lt b cs (k + 1) = PL.foldl (fun x q => Pa.weigh x (Pa.cand n S cs q)) x) := by
        show Pa.strand lt b cs (Pa.upto lt b cs k) ((k + 1 : Nat) : Int) = _
        rw [← hn, ← HST.out, Pa.strand, ← hS, ← hPL]
      have hxe : x.eq ≤ 360000 := by have := HEQ.out k; rw [← HST.out] at this; omega
      have HAC : Hid (∀ W : World, Calls Tryz.prog 121 #[.string ⟨lt.toArray⟩, .int .i64 ((k : Int) + 1)] W fun e w' => e = .returned (.string ⟨S.toArray⟩) ∧ Below W.heap.size W w') := fun W => by
        have h := palong_any ⟨lt.toArray⟩ n W (by rw [str_size]; omega) HNS.out (.inr (by rw [show (⟨lt.toArray⟩ : ByteArray).data.toList = lt from by simp]; exact Pa.err_allL HE.out))
        rw [show (⟨lt.toArray⟩ : ByteArray).data.toList = lt from by simp, ← hS, hnn] at h
        exact h
      have HFC : Hid (∀ W : World, Below w.heap.size w W → Calls Tryz.prog 55 #[.pointer (some ⟨bx, 0, none⟩), .string ⟨S.toArray⟩, .int .i64 ((k : Int) + 1), .int .i64 b] W fun e w' => ∃ v, e = .returned (.tuple #[v, .int .i64 0]) ∧ w'.ownsRow W.heap.size 67 2 v PL.length (Se.pls PL) ∧ Below W.heap.size W w') := fun W hb => by
        have h := ixFind_any cs B _ ⟨S.toArray⟩ n b W (IxAt.below HIX.out hb) HR.out (by rw [str_size]; omega)
        have hz : Se.findErr n b S = 0 := by rw [Pa.find_err HNS.out, hS]; exact Pa.along_err HE.out n
        have ho : Se.findOut n b S cs = PL := by rw [hPL, Se.findOut, if_pos hz]
        rw [show (⟨S.toArray⟩ : ByteArray).data.toList = S from by simp, hz, ho, hnn] at h
        exact h.mono fun e w' ⟨v, h1, h2, _, h3⟩ => ⟨v, h1, h2, h3⟩
      have HNE : Hid _ := hnn
      clear HST hS hPL hnn hn
      go_wp2_with fail
      refine (HAC.out _).mono ?_
      rintro e w1 ⟨rfl, hb1⟩
      have HAB1 : Hid _ := PaB.mono HAB.out hb1
      clear hb1 HAB
      go_wp2_with fail
      refine (HFC.out _ (PaB.below HAB1.out)).mono ?_
      rintro e w2 ⟨v, rfl, ho, hb2⟩
      obtain ⟨va, vcap, hv⟩ := own_form ho
      subst hv
      have HAB2 : Hid _ := PaB.mono HAB1.out hb2
      have HPL2 : Hid (Pa.Pl w2 (w.heap.size + 2) va PL) := Pa.Pl.of_own (own_base ho (PaB.size HAB1.out))
      clear hb2 ho HAB1
      go_wp2
      go_loopw [40] (fun i wr2 => ∃ (q : Nat) (x2 : Pa.Ch), q ≤ PL.length ∧ i = .int .i64 (q : Int) ∧ Hid (x2 = (PL.take q).foldl (fun x q => Pa.weigh x (Pa.cand n S cs q)) x) ∧ Hid (PaB w wr2 x2) ∧ Hid (Pa.Pl wr2 (w.heap.size + 2) va PL)) (fun i _ => PL.length - (intOf i).toNat)
      case atStart => exact ⟨0, x, Nat.zero_le _, rfl, by simp [Hid], HAB2.out, HPL2.out⟩
      case round =>
        clear HAB2 HPL2
        obtain ⟨q, x2, hq, rfl, HST3, HAB, HPL⟩ := hrel
        by_cases hqlt : q < PL.length
        · have hq' : (q : Int) < (PL.length : Int) := by omega
          obtain ⟨y, hy⟩ : ∃ y, y = PL[q] := ⟨_, rfl⟩
          have HSTEP : Hid ((PL.take (q + 1)).foldl (fun x q => Pa.weigh x (Pa.cand n S cs q)) x = Pa.weigh x2 (Pa.cand n S cs y)) := by
            show _ = _
            rw [List.take_succ_eq_append_getElem hqlt, List.foldl_append, ← HST3.out, hy]
            first | done | rfl
          have hx2 : x2.eq ≤ 1000000000 := by
            have := Pa.fold_eq n S cs (PL.take q) x
            rw [← HST3.out, List.length_take] at this
            omega
          obtain ⟨hc1, z, hz, hpx⟩ := HMEM.out y (by rw [hy]; exact List.getElem_mem _)
          have hze : z = cs[y.1] := by rw [List.getElem?_eq_getElem hc1] at hz; exact (Option.some.inj hz).symm
          have hzl : z.2.length ≤ 4096 := HR.out.len z (by rw [hze]; exact List.getElem_mem _)
          obtain ⟨gv, hva, hlo, hgs, p0, p1⟩ := HPL.out q hqlt
          rw [← hy] at p0 p1
          have hsw := src_keep HSRC.out (PaB.below HAB.out)
          have s1 := src_pair hsw y.1 hc1
          rw [← hze] at s1
          have hc1' : (y.1 : Int) < (cs.length : Int) := by omega
          obtain ⟨c, p⟩ := y
          dsimp only at p0 p1 s1 hc1 hc1' hpx hz HSTEP
          have hzs : (⟨z.2.toArray⟩ : ByteArray).size = z.2.length := str_size z.2
          have hp2 : (p : Int) ≤ (z.2.length : Int) := by omega
          obtain ⟨m, hm⟩ : ∃ m, m = Al.mis n S (z.2.drop p) := ⟨_, rfl⟩
          have hcand : Pa.cand n S cs (c, p) = ⟨(k : Int) + 1, c, p, S, m⟩ := by
            unfold Pa.cand
            rw [List.getD_eq_getElem?_getD, hz, hm, HNE.out]
            rfl
          rw [hcand] at HSTEP
          have HLC : Hid (∀ o, Calls Tryz.prog 122 #[.slice (some ad) cs.length cc, .agg #[.int .i64 (c : Int), .int .i64 (p : Int)], .int .i64 (S.length : Int)] (wr.alloc o) fun e w' => e = .returned (.bool true) ∧ Below (wr.alloc o).heap.size (wr.alloc o) w') := fun o => by
            refine plies_yes cs.length cc ad c p S.length z.2 _ hc1 hpx (by omega) ?_
            exact (((Below.refl _ _).alloc (Nat.le_refl _) o).cell (World.block_lt_of_cell? wr _ s1)).trans s1
          have HS1 : Hid _ := s1
          subst hva
          clear hcand hz hze hsw s1 HST3
          go_wp2_with fail
          refine (HLC.out _).mono ?_
          rintro e w3 ⟨rfl, hb3⟩
          have hb3' : Below wr.heap.size wr w3 := ((Below.refl _ _).alloc (Nat.le_refl _) _).trans (hb3.mono (by simp))
          have s1 : w3.cell? ⟨(ad.add (c * 2)).block, (ad.add (c * 2)).off + 1, none⟩ = some (.string ⟨z.2.toArray⟩) := by
            rw [addr_next]
            exact (hb3'.cell (World.block_lt_of_cell? wr _ HS1.out)).trans HS1.out
          have q0 : w3.cell? ⟨wr.heap.size, 0, none⟩ = some (.int .i64 (c : Int)) := (hb3.cell (p := ⟨wr.heap.size, 0, none⟩) (by simp)).trans (cell_of_row _ _ 0 _ _ _ (heap_alloc_new wr _))
          have q1 : w3.cell? ⟨wr.heap.size, 1, none⟩ = some (.int .i64 (p : Int)) := (hb3.cell (p := ⟨wr.heap.size, 1, none⟩) (by simp)).trans (cell_of_row _ _ 1 _ _ _ (heap_alloc_new wr _))
          have HAB3 : Hid _ := PaB.mono HAB.out hb3'
          have HPL3 : Hid _ := Pa.Pl.mono HPL.out hb3'
          clear HAB HPL hb3 hb3' HS1 HLC p0 p1
          go_wp2_with fail
          go_quiet (fail)
          go_wp2_with fail
          have hb4 : Below w3.heap.size w3 (w3.drewN nq) := below_drewN (Below.refl _ _) nq
          have q0' := (hb4.cell (World.block_lt_of_cell? w3 _ q0)).trans q0
          have q1' := (hb4.cell (World.block_lt_of_cell? w3 _ q1)).trans q1
          have HAB4 : Hid _ := PaB.mono HAB3.out hb4
          have HPL4 : Hid _ := Pa.Pl.mono HPL3.out hb4
          clear q0 q1 HAB3 HPL3 s1 hb4
          generalize w3.drewN nq = w4 at *
          have HMC : Hid (∀ W : World, Calls Tryz.prog 124 #[.string ⟨S.toArray⟩, .string ((⟨z.2.toArray⟩ : ByteArray).extract p z.2.length), .int .i64 ((k : Int) + 1)] W fun e w' => e = .returned (.int .i64 (m : Int)) ∧ ∃ j, w' = W.drewN j) := fun W => by
            have h := pmis_any ⟨S.toArray⟩ ((⟨z.2.toArray⟩ : ByteArray).extract p z.2.length) n W HNS.out (by rw [str_size]; omega) (by rw [ByteArray.size_extract, hzs, str_size]; omega) (by rw [ByteArray.size_extract, hzs]; omega)
            have e : Al.mis n (⟨S.toArray⟩ : ByteArray).data.toList ((⟨z.2.toArray⟩ : ByteArray).extract p z.2.length).data.toList = m := by
              rw [extract_piece]
              show Al.mis n S (Tx.piece ⟨z.2.toArray⟩ p z.2.length) = m
              rw [Tx.piece, Al.mis_short _ _ _ _ (by omega), hm]
            rw [e, HNE.out] at h
            exact h
          have HWC : Hid (∀ W : World, Below w4.heap.size w4 W → Calls Tryz.prog 123 #[.pointer (some ⟨w.heap.size + 1, 0, none⟩), .agg #[.int .i64 ((k : Int) + 1), .int .i64 (c : Int), .int .i64 (p : Int), .string ⟨S.toArray⟩, .int .i64 (m : Int)]] W fun e w' => e = .returned (.tuple #[]) ∧ Hid (PaB w w' (Pa.weigh x2 ⟨(k : Int) + 1, c, p, S, m⟩)) ∧ Hid (Pa.Pl w' (w.heap.size + 2) (some ⟨gv, 0, none⟩) PL)) := fun W hb => by
            have h1 := PaB.mono HAB4.out hb
            refine (pweigh x2 ⟨(k : Int) + 1, c, p, S, m⟩ (w.heap.size + 1) W h1.box hx2).mono ?_
            rintro e w' ⟨rfl, hT⟩
            exact ⟨rfl, h1.turn hT, (Pa.Pl.mono HPL4.out hb).turn hT (by omega)⟩
          clear HAB4 HPL4 hm hx2
          go_region_with (first
            | (go_at_call 124; refine (HMC.out _).mono ?_; rintro e w5 ⟨rfl, j5, hw5⟩; subst w5)
            | (go_at_call 123; refine (HWC.out _ (by first | exact Below.refl _ _ | exact below_drewN (Below.refl _ _) _ | exact Below.drew (below_drewN (Below.refl _ _) _) | exact Below.drew (Below.drew (below_drewN (Below.refl _ _) _)))).mono ?_; rintro e w6 ⟨rfl, HAB6, HPL6⟩))
          all_goals
            go_wp2
            go_roundw
            case rel => exact ⟨q + 1, _, by omega, by go_num, HSTEP.out.symm, HAB6.out, HPL6.out⟩
            case measure => simp [intOf]; omega
        · have hqe : q = PL.length := by omega
          have hqlt' : ¬ (q : Int) < (PL.length : Int) := by omega
          have HST4 : Hid (x2 = Pa.upto lt b cs (k + 1)) := by show _ = _; rw [HNEXT.out, HST3.out, hqe, List.take_length]
          clear hqe
          go_wp2
          go_roundw
          case rel => exact ⟨k + 1, x2, by omega, by go_num, HST4.out, HAB.out⟩
          case measure => simp [intOf]; omega
    · have hk4 : k = 4 := by omega
      have hlt' : ¬ (k : Int) < 4 := by omega
      have HV : Hid (FV = x.vals) := HFIN.out x (by rw [HST.out, hk4])
      have hbox := PaB.box HAB.out
      have hres := PaB.res HAB.out
      have m0 : wr.cell? ⟨w.heap.size + 1, 0, none⟩ = some (.int .i64 x.b.n) := cell_of_row wr (w.heap.size + 1) 0 _ _ _ hbox
      have m1 : wr.cell? ⟨w.heap.size + 1, 1, none⟩ = some (.int .i64 (x.b.c : Int)) := cell_of_row wr (w.heap.size + 1) 1 _ _ _ hbox
      have m2 : wr.cell? ⟨w.heap.size + 1, 2, none⟩ = some (.int .i64 (x.b.a : Int)) := cell_of_row wr (w.heap.size + 1) 2 _ _ _ hbox
      have m3 : wr.cell? ⟨w.heap.size + 1, 3, none⟩ = some (.string ⟨x.b.s.toArray⟩) := cell_of_row wr (w.heap.size + 1) 3 _ _ _ hbox
      have m4 : wr.cell? ⟨w.heap.size + 1, 4, none⟩ = some (.int .i64 (x.b.m : Int)) := cell_of_row wr (w.heap.size + 1) 4 _ _ _ hbox
      have m5 : wr.cell? ⟨w.heap.size + 1, 5, none⟩ = some (.int .i64 (x.eq : Int)) := cell_of_row wr (w.heap.size + 1) 5 _ _ _ hbox
      have r0 : wr.cell? ⟨w.heap.size, 0, none⟩ = some (.int .i64 0) := cell_of_row wr w.heap.size 0 _ _ _ hres
      have f0 : wr.frozen? ⟨w.heap.size, 0, none⟩ = false := frozen_of_row wr w.heap.size 0 _ _ hres
      have r1 : wr.cell? ⟨w.heap.size, 1, none⟩ = some (.int .i64 0) := cell_of_row wr w.heap.size 1 _ _ _ hres
      have f1 : wr.frozen? ⟨w.heap.size, 1, none⟩ = false := frozen_of_row wr w.heap.size 1 _ _ hres
      have r2 : wr.cell? ⟨w.heap.size, 2, none⟩ = some (.int .i64 0) := cell_of_row wr w.heap.size 2 _ _ _ hres
      have f2 : wr.frozen? ⟨w.heap.size, 2, none⟩ = false := frozen_of_row wr w.heap.size 2 _ _ hres
      have r3 : wr.cell? ⟨w.heap.size, 3, none⟩ = some (.string ⟨#[]⟩) := cell_of_row wr w.heap.size 3 _ _ _ hres
      have f3 : wr.frozen? ⟨w.heap.size, 3, none⟩ = false := frozen_of_row wr w.heap.size 3 _ _ hres
      have r4 : wr.cell? ⟨w.heap.size, 4, none⟩ = some (.int .i64 0) := cell_of_row wr w.heap.size 4 _ _ _ hres
      have f4 : wr.frozen? ⟨w.heap.size, 4, none⟩ = false := frozen_of_row wr w.heap.size 4 _ _ hres
      have r5 : wr.cell? ⟨w.heap.size, 5, none⟩ = some (.int .i64 0) := cell_of_row wr w.heap.size 5 _ _ _ hres
      have f5 : wr.frozen? ⟨w.heap.size, 5, none⟩ = false := frozen_of_row wr w.heap.size 5 _ _ hres
      have HTT : Hid (Pa.T w.heap.size wr wr Pa.zero.vals) := Pa.T.refl hres
      have HBB : Hid _ := PaB.below HAB.out
      clear hbox hres hk4 HST HAB
      go_wp2
      have hT := (((((HTT.out.set 0 (.int .i64 x.b.n)).set 1 (.int .i64 (x.b.c : Int))).set 2 (.int .i64 (x.b.a : Int))).set 3 (.string ⟨x.b.s.toArray⟩)).set 4 (.int .i64 (x.b.m : Int))).set 5 (.int .i64 (x.eq : Int))
      refine bodyPost_ret (ch_ret rfl hT.row rfl) rfl ?_
      exact ⟨by rw [HV.out]; rfl, HBB.out.trans (hT.beneath (Nat.le_refl _) HBB.out.size)⟩

end Go.Proofs.YtfcbgfomhmcikaaGreatDoor

namespace Go.Proofs.YtfcbgfomhmcikaaGreatDoor
open Go.RowKit

def Tryz.renClone : Go.Shelf.Ren := ⟨fun | 316 => 125 | n => n, fun | 9 => 9 | 3 => 3 | 4 => 4 | 37 => 68 | 0 => 0 | 127 => 171 | 5 => 5 | n => n, fun | n => n⟩
theorem Tryz.laysClone : Go.Proofs.LaysM.n316 Tryz.prog Tryz.renClone := {
  mixed := by kernel_rfl
  f316 := Tryz.func125.trans (congrArg some (by kernel_rfl))
  t0 := Tryz.underlying0
  a0 := Tryz.isAgg0
  z0 := Tryz.sizeOf0
  v0 := Tryz.zeroValue0
  t3 := Tryz.underlying3
  a3 := Tryz.isAgg3
  z3 := Tryz.sizeOf3
  v3 := Tryz.zeroValue3
  t4 := Tryz.underlying4
  a4 := Tryz.isAgg4
  z4 := Tryz.sizeOf4
  v4 := Tryz.zeroValue4
  t9 := Tryz.underlying9
  a9 := Tryz.isAgg9
  z9 := Tryz.sizeOf9
  v9 := Tryz.zeroValue9
  t37 := Tryz.underlying68
  a37 := Tryz.isAgg68
  z37 := Tryz.sizeOf68
  v37 := Tryz.zeroValue68
  t127 := Tryz.underlying171
  a127 := Tryz.isAgg171
  z127 := Tryz.sizeOf171
  v127 := Tryz.zeroValue171
  t5 := Tryz.underlying5
  a5 := Tryz.isAgg5
  z5 := Tryz.sizeOf5
  v5 := Tryz.zeroValue5
  i0 := by kernel_rfl
  i3 := by kernel_rfl
  i4 := by kernel_rfl
  i5 := by kernel_rfl
  i9 := by kernel_rfl
  i37 := by kernel_rfl
  i127 := by kernel_rfl }

theorem liteClone_any (s : ByteArray) (w : World) (hs : s.size ≤ 281474976710656) :
    Calls Tryz.prog 125 #[.string s] w fun e w' => e = .returned (.string s) ∧ Below w.heap.size w w' := Any.stringslite_Clone Tryz.laysClone s w hs

theorem clone_any (s : ByteArray) (w : World) (hs : s.size ≤ 281474976710656) :
    Calls Tryz.prog 93 #[.string s] w fun e w' => e = .returned (.string s) ∧ Below w.heap.size w w' := by
  go_enter Tryz.func93, Tryz.ntmps93
  go_wp2_with (go_at_call 125; refine (liteClone_any _ _ hs).mono ?_; rintro e w1 ⟨rfl, hb1⟩)
  go_ret
  exact ⟨rfl, hb1⟩

end Go.Proofs.YtfcbgfomhmcikaaGreatDoor

namespace Go.Proofs.YtfcbgfomhmcikaaGreatDoor
open Go.RowKit

/-- a block that holds a record -/
def PaR (B : Nat) (Y : World) : Prop := ∃ a0 a1 a2 a3 a4 a5 a6 a7, Y.heap[B]? = some (.cells #[a0, a1, a2, a3, a4, a5, a6, a7] 47 (0, 0))

/-- one block alone has turned, whatever its type -/
theorem PaR.store {w : World} {g : Nat} {a0 a1 a2 a3 a4 a5 a6 a7 : Value} (h : w.heap[g]? = some (.cells #[a0, a1, a2, a3, a4, a5, a6, a7] 47 (0, 0))) (b0 b1 b2 b3 b4 b5 b6 b7 : Value) :
    ((((((((w.setCell ⟨g, 0, none⟩ b0).setCell ⟨g, 1, none⟩ b1).setCell ⟨g, 2, none⟩ b2).setCell ⟨g, 3, none⟩ b3).setCell ⟨g, 4, none⟩ b4).setCell ⟨g, 5, none⟩ b5).setCell ⟨g, 6, none⟩ b6).setCell ⟨g, 7, none⟩ b7).heap[g]? = some (.cells #[b0, b1, b2, b3, b4, b5, b6, b7] 47 (0, 0)) := by
  have h0 : (w.setCell ⟨g, 0, none⟩ b0).heap[g]? = some (.cells #[b0, a1, a2, a3, a4, a5, a6, a7] 47 (0, 0)) := heap_setCell_same w g 0 _ _ b0 h
  generalize w.setCell ⟨g, 0, none⟩ b0 = y0 at h0 ⊢
  have h1 : (y0.setCell ⟨g, 1, none⟩ b1).heap[g]? = some (.cells #[b0, b1, a2, a3, a4, a5, a6, a7] 47 (0, 0)) := heap_setCell_same y0 g 1 _ _ b1 h0
  generalize y0.setCell ⟨g, 1, none⟩ b1 = y1 at h1 ⊢
  have h2 : (y1.setCell ⟨g, 2, none⟩ b2).heap[g]? = some (.cells #[b0, b1, b2, a3, a4, a5, a6, a7] 47 (0, 0)) := heap_setCell_same y1 g 2 _ _ b2 h1
  generalize y1.setCell ⟨g, 2, none⟩ b2 = y2 at h2 ⊢
  have h3 : (y2.setCell ⟨g, 3, none⟩ b3).heap[g]? = some (.cells #[b0, b1, b2, b3, a4, a5, a6, a7] 47 (0, 0)) := heap_setCell_same y2 g 3 _ _ b3 h2
  generalize y2.setCell ⟨g, 3, none⟩ b3 = y3 at h3 ⊢
  have h4 : (y3.setCell ⟨g, 4, none⟩ b4).heap[g]? = some (.cells #[b0, b1, b2, b3, b4, a5, a6, a7] 47 (0, 0)) := heap_setCell_same y3 g 4 _ _ b4 h3
  generalize y3.setCell ⟨g, 4, none⟩ b4 = y4 at h4 ⊢
  have h5 : (y4.setCell ⟨g, 5, none⟩ b5).heap[g]? = some (.cells #[b0, b1, b2, b3, b4, b5, a6, a7] 47 (0, 0)) := heap_setCell_same y4 g 5 _ _ b5 h4
  generalize y4.setCell ⟨g, 5, none⟩ b5 = y5 at h5 ⊢
  have h6 : (y5.setCell ⟨g, 6, none⟩ b6).heap[g]? = some (.cells #[b0, b1, b2, b3, b4, b5, b6, a7] 47 (0, 0)) := heap_setCell_same y5 g 6 _ _ b6 h5
  generalize y5.setCell ⟨g, 6, none⟩ b6 = y6 at h6 ⊢
  have h7 : (y6.setCell ⟨g, 7, none⟩ b7).heap[g]? = some (.cells #[b0, b1, b2, b3, b4, b5, b6, b7] 47 (0, 0)) := heap_setCell_same y6 g 7 _ _ b7 h6
  generalize y6.setCell ⟨g, 7, none⟩ b7 = y7 at h7 ⊢
  exact h7
theorem PaR.beneath (w : World) (g : Nat) (b0 b1 b2 b3 b4 b5 b6 b7 : Value) :
    Below g w ((((((((w.setCell ⟨g, 0, none⟩ b0).setCell ⟨g, 1, none⟩ b1).setCell ⟨g, 2, none⟩ b2).setCell ⟨g, 3, none⟩ b3).setCell ⟨g, 4, none⟩ b4).setCell ⟨g, 5, none⟩ b5).setCell ⟨g, 6, none⟩ b6).setCell ⟨g, 7, none⟩ b7) := by
  have hle := Nat.le_refl g
  exact below_set (below_set (below_set (below_set (below_set (below_set (below_set (below_set (Below.refl g w) hle 0 b0) hle 1 b1) hle 2 b2) hle 3 b3) hle 4 b4) hle 5 b5) hle 6 b6) hle 7 b7

/-- aligned's result: a record in a block of its own -/
theorem ad_ret {w : World} {g : Nat} {A : Array Value} {tmps : Array Value} (hp : tmps.getD 6 undef = .pointer (some ⟨g, 0, none⟩)) (hg : w.heap[g]? = some (.cells A 47 (0, 0))) (h8 : A.size = 8) :
    (results Tryz.f94 tmps).run Tryz.prog w = .ok (.agg A) w :=
  results_cell_row rfl tmps _ g 47 A (0, 0) _ hp hg Tryz.underlying47 rfl (by rw [Tryz.sizeRec3, h8])

set_option maxRecDepth 100000 in
set_option maxHeartbeats 3200000 in
theorem aligned_any (nm zn zl s : List UInt8) (n : Int) (c a m : Nat) (w : World) (hn : Lt.strandB n = true) (hzn : zn.length ≤ 281474976710656) (hs : s.length ≤ 1000000) (hzl : zl.length ≤ 1000000) (hp : a + s.length ≤ zl.length) (hL : Lt.allL zl = true) :
    Calls Tryz.prog 94 #[.string ⟨nm.toArray⟩, .agg #[.string ⟨zn.toArray⟩, .string ⟨zl.toArray⟩], .agg #[.int .i64 n, .int .i64 (c : Int), .int .i64 (a : Int), .string ⟨s.toArray⟩, .int .i64 (m : Int)]] w fun e w' =>
      e = .returned (.agg (Rc.vals ⟨nm, 1, n, zn, (a : Int), (m : Int), s, Al.calls n s zl a s.length⟩)) ∧ Below w.heap.size w w' := by
  obtain ⟨CL, hCL⟩ : ∃ CL, CL = Al.calls n s zl a s.length := ⟨_, rfl⟩
  rw [← hCL]
  have HC1 : Hid (∀ W : World, Calls Tryz.prog 93 #[.string ⟨zn.toArray⟩] W fun e w' => e = .returned (.string ⟨zn.toArray⟩) ∧ Below W.heap.size W w') := fun W => clone_any _ W (by rw [str_size]; exact hzn)
  have HC2 : Hid (∀ W : World, Calls Tryz.prog 93 #[.string ⟨s.toArray⟩] W fun e w' => e = .returned (.string ⟨s.toArray⟩) ∧ Below W.heap.size W w') := fun W => clone_any _ W (by rw [str_size]; omega)
  have HKC : Hid (∀ W : World, (W.cell? ⟨w.heap.size, 0, none⟩ = some (.string ⟨zn.toArray⟩) ∧ W.cell? ⟨w.heap.size, 1, none⟩ = some (.string ⟨zl.toArray⟩) ∧ W.cell? ⟨w.heap.size + 1, 0, none⟩ = some (.int .i64 n) ∧ W.cell? ⟨w.heap.size + 1, 1, none⟩ = some (.int .i64 (c : Int)) ∧ W.cell? ⟨w.heap.size + 1, 2, none⟩ = some (.int .i64 (a : Int)) ∧ W.cell? ⟨w.heap.size + 1, 3, none⟩ = some (.string ⟨s.toArray⟩) ∧ W.cell? ⟨w.heap.size + 1, 4, none⟩ = some (.int .i64 (m : Int)) ∧ PaR (w.heap.size + 2) W) → Calls Tryz.prog 126 #[.string ⟨s.toArray⟩, .string ⟨zl.toArray⟩, .int .i64 (a : Int), .int .i64 n] W fun e w' => e = .returned (.string ⟨CL.toArray⟩) ∧ Below W.heap.size W w' ∧ ∃ a0 a1 a2 a3 a4 a5 a6 a7, w'.cell? ⟨w.heap.size + 1 + 1, 0, none⟩ = some a0 ∧ w'.frozen? ⟨w.heap.size + 1 + 1, 0, none⟩ = false ∧ w'.cell? ⟨w.heap.size + 1 + 1, 1, none⟩ = some a1 ∧ w'.frozen? ⟨w.heap.size + 1 + 1, 1, none⟩ = false ∧ w'.cell? ⟨w.heap.size + 1 + 1, 2, none⟩ = some a2 ∧ w'.frozen? ⟨w.heap.size + 1 + 1, 2, none⟩ = false ∧ w'.cell? ⟨w.heap.size + 1 + 1, 3, none⟩ = some a3 ∧ w'.frozen? ⟨w.heap.size + 1 + 1, 3, none⟩ = false ∧ w'.cell? ⟨w.heap.size + 1 + 1, 4, none⟩ = some a4 ∧ w'.frozen? ⟨w.heap.size + 1 + 1, 4, none⟩ = false ∧ w'.cell? ⟨w.heap.size + 1 + 1, 5, none⟩ = some a5 ∧ w'.frozen? ⟨w.heap.size + 1 + 1, 5, none⟩ = false ∧ w'.cell? ⟨w.heap.size + 1 + 1, 6, none⟩ = some a6 ∧ w'.frozen? ⟨w.heap.size + 1 + 1, 6, none⟩ = false ∧ w'.cell? ⟨w.heap.size + 1 + 1, 7, none⟩ = some a7 ∧ w'.frozen? ⟨w.heap.size + 1 + 1, 7, none⟩ = false ∧ Hid (w'.heap[w.heap.size + 1 + 1]? = some (.cells #[a0, a1, a2, a3, a4, a5, a6, a7] 47 (0, 0)))) := fun W hS => by
    have h := pcalls_any ⟨s.toArray⟩ ⟨zl.toArray⟩ a n W hn (by rw [str_size]; omega) (by rw [str_size]; omega) (by rw [str_size, str_size]; exact hp) hL
    rw [show (⟨s.toArray⟩ : ByteArray).data.toList = s from by simp, show (⟨zl.toArray⟩ : ByteArray).data.toList = zl from by simp, str_size, ← hCL] at h
    refine h.mono ?_
    rintro e w' ⟨rfl, hb⟩
    obtain ⟨_, _, _, _, _, _, _, a0, a1, a2, a3, a4, a5, a6, a7, hr⟩ := hS
    have hlt : w.heap.size + 2 < W.heap.size := (Array.getElem?_eq_some_iff.1 hr).1
    have hr' := (hb.block _ hlt).trans hr
    refine ⟨rfl, hb, a0, a1, a2, a3, a4, a5, a6, a7, ?_⟩
    exact ⟨cell_of_row _ _ 0 _ _ _ hr', frozen_of_row _ _ 0 _ _ hr', cell_of_row _ _ 1 _ _ _ hr', frozen_of_row _ _ 1 _ _ hr', cell_of_row _ _ 2 _ _ _ hr', frozen_of_row _ _ 2 _ _ hr', cell_of_row _ _ 3 _ _ _ hr', frozen_of_row _ _ 3 _ _ hr', cell_of_row _ _ 4 _ _ _ hr', frozen_of_row _ _ 4 _ _ hr', cell_of_row _ _ 5 _ _ _ hr', frozen_of_row _ _ 5 _ _ hr', cell_of_row _ _ 6 _ _ _ hr', frozen_of_row _ _ 6 _ _ hr', cell_of_row _ _ 7 _ _ _ hr', frozen_of_row _ _ 7 _ _ hr', hr'⟩
  have HK : Hid (∀ w1 W : World, Below W.heap.size W w1 → (W.cell? ⟨w.heap.size, 0, none⟩ = some (.string ⟨zn.toArray⟩) ∧ W.cell? ⟨w.heap.size, 1, none⟩ = some (.string ⟨zl.toArray⟩) ∧ W.cell? ⟨w.heap.size + 1, 0, none⟩ = some (.int .i64 n) ∧ W.cell? ⟨w.heap.size + 1, 1, none⟩ = some (.int .i64 (c : Int)) ∧ W.cell? ⟨w.heap.size + 1, 2, none⟩ = some (.int .i64 (a : Int)) ∧ W.cell? ⟨w.heap.size + 1, 3, none⟩ = some (.string ⟨s.toArray⟩) ∧ W.cell? ⟨w.heap.size + 1, 4, none⟩ = some (.int .i64 (m : Int)) ∧ PaR (w.heap.size + 2) W) → (w1.cell? ⟨w.heap.size, 0, none⟩ = some (.string ⟨zn.toArray⟩) ∧ w1.cell? ⟨w.heap.size, 1, none⟩ = some (.string ⟨zl.toArray⟩) ∧ w1.cell? ⟨w.heap.size + 1, 0, none⟩ = some (.int .i64 n) ∧ w1.cell? ⟨w.heap.size + 1, 1, none⟩ = some (.int .i64 (c : Int)) ∧ w1.cell? ⟨w.heap.size + 1, 2, none⟩ = some (.int .i64 (a : Int)) ∧ w1.cell? ⟨w.heap.size + 1, 3, none⟩ = some (.string ⟨s.toArray⟩) ∧ w1.cell? ⟨w.heap.size + 1, 4, none⟩ = some (.int .i64 (m : Int)) ∧ PaR (w.heap.size + 2) w1)) := fun w1 W hb h => by
    obtain ⟨h1, h2, h3, h4, h5, h6, h7, a0, a1, a2, a3, a4, a5, a6, a7, hr⟩ := h
    have e : ∀ p v, W.cell? p = some v → w1.cell? p = some v := fun p v h => (hb.cell (World.block_lt_of_cell? W _ h)).trans h
    have hlt : w.heap.size + 2 < W.heap.size := (Array.getElem?_eq_some_iff.1 hr).1
    exact ⟨e _ _ h1, e _ _ h2, e _ _ h3, e _ _ h4, e _ _ h5, e _ _ h6, e _ _ h7, a0, a1, a2, a3, a4, a5, a6, a7, (hb.block _ hlt).trans hr⟩
  have HSET : Hid (∀ Y : World, (Y.cell? ⟨w.heap.size, 0, none⟩ = some (.string ⟨zn.toArray⟩) ∧ Y.cell? ⟨w.heap.size, 1, none⟩ = some (.string ⟨zl.toArray⟩) ∧ Y.cell? ⟨w.heap.size + 1, 0, none⟩ = some (.int .i64 n) ∧ Y.cell? ⟨w.heap.size + 1, 1, none⟩ = some (.int .i64 (c : Int)) ∧ Y.cell? ⟨w.heap.size + 1, 2, none⟩ = some (.int .i64 (a : Int)) ∧ Y.cell? ⟨w.heap.size + 1, 3, none⟩ = some (.string ⟨s.toArray⟩) ∧ Y.cell? ⟨w.heap.size + 1, 4, none⟩ = some (.int .i64 (m : Int)) ∧ PaR (w.heap.size + 2) Y) → (((((((((Y.setCell ⟨w.heap.size + 1 + 1, 0, none⟩ (.string ⟨nm.toArray⟩)).setCell ⟨w.heap.size + 1 + 1, 1, none⟩ (.int .i64 1)).setCell ⟨w.heap.size + 1 + 1, 2, none⟩ (.int .i64 n)).setCell ⟨w.heap.size + 1 + 1, 3, none⟩ (.string ⟨zn.toArray⟩)).setCell ⟨w.heap.size + 1 + 1, 4, none⟩ (.int .i64 (a : Int))).setCell ⟨w.heap.size + 1 + 1, 5, none⟩ (.int .i64 (m : Int))).setCell ⟨w.heap.size + 1 + 1, 6, none⟩ (.string ⟨s.toArray⟩)).setCell ⟨w.heap.size + 1 + 1, 7, none⟩ (.string ⟨CL.toArray⟩)).cell? ⟨w.heap.size, 0, none⟩ = some (.string ⟨zn.toArray⟩) ∧ ((((((((Y.setCell ⟨w.heap.size + 1 + 1, 0, none⟩ (.string ⟨nm.toArray⟩)).setCell ⟨w.heap.size + 1 + 1, 1, none⟩ (.int .i64 1)).setCell ⟨w.heap.size + 1 + 1, 2, none⟩ (.int .i64 n)).setCell ⟨w.heap.size + 1 + 1, 3, none⟩ (.string ⟨zn.toArray⟩)).setCell ⟨w.heap.size + 1 + 1, 4, none⟩ (.int .i64 (a : Int))).setCell ⟨w.heap.size + 1 + 1, 5, none⟩ (.int .i64 (m : Int))).setCell ⟨w.heap.size + 1 + 1, 6, none⟩ (.string ⟨s.toArray⟩)).setCell ⟨w.heap.size + 1 + 1, 7, none⟩ (.string ⟨CL.toArray⟩)).cell? ⟨w.heap.size, 1, none⟩ = some (.string ⟨zl.toArray⟩) ∧ ((((((((Y.setCell ⟨w.heap.size + 1 + 1, 0, none⟩ (.string ⟨nm.toArray⟩)).setCell ⟨w.heap.size + 1 + 1, 1, none⟩ (.int .i64 1)).setCell ⟨w.heap.size + 1 + 1, 2, none⟩ (.int .i64 n)).setCell ⟨w.heap.size + 1 + 1, 3, none⟩ (.string ⟨zn.toArray⟩)).setCell ⟨w.heap.size + 1 + 1, 4, none⟩ (.int .i64 (a : Int))).setCell ⟨w.heap.size + 1 + 1, 5, none⟩ (.int .i64 (m : Int))).setCell ⟨w.heap.size + 1 + 1, 6, none⟩ (.string ⟨s.toArray⟩)).setCell ⟨w.heap.size + 1 + 1, 7, none⟩ (.string ⟨CL.toArray⟩)).cell? ⟨w.heap.size + 1, 0, none⟩ = some (.int .i64 n) ∧ ((((((((Y.setCell ⟨w.heap.size + 1 + 1, 0, none⟩ (.string ⟨nm.toArray⟩)).setCell ⟨w.heap.size + 1 + 1, 1, none⟩ (.int .i64 1)).setCell ⟨w.heap.size + 1 + 1, 2, none⟩ (.int .i64 n)).setCell ⟨w.heap.size + 1 + 1, 3, none⟩ (.string ⟨zn.toArray⟩)).setCell ⟨w.heap.size + 1 + 1, 4, none⟩ (.int .i64 (a : Int))).setCell ⟨w.heap.size + 1 + 1, 5, none⟩ (.int .i64 (m : Int))).setCell ⟨w.heap.size + 1 + 1, 6, none⟩ (.string ⟨s.toArray⟩)).setCell ⟨w.heap.size + 1 + 1, 7, none⟩ (.string ⟨CL.toArray⟩)).cell? ⟨w.heap.size + 1, 1, none⟩ = some (.int .i64 (c : Int)) ∧ ((((((((Y.setCell ⟨w.heap.size + 1 + 1, 0, none⟩ (.string ⟨nm.toArray⟩)).setCell ⟨w.heap.size + 1 + 1, 1, none⟩ (.int .i64 1)).setCell ⟨w.heap.size + 1 + 1, 2, none⟩ (.int .i64 n)).setCell ⟨w.heap.size + 1 + 1, 3, none⟩ (.string ⟨zn.toArray⟩)).setCell ⟨w.heap.size + 1 + 1, 4, none⟩ (.int .i64 (a : Int))).setCell ⟨w.heap.size + 1 + 1, 5, none⟩ (.int .i64 (m : Int))).setCell ⟨w.heap.size + 1 + 1, 6, none⟩ (.string ⟨s.toArray⟩)).setCell ⟨w.heap.size + 1 + 1, 7, none⟩ (.string ⟨CL.toArray⟩)).cell? ⟨w.heap.size + 1, 2, none⟩ = some (.int .i64 (a : Int)) ∧ ((((((((Y.setCell ⟨w.heap.size + 1 + 1, 0, none⟩ (.string ⟨nm.toArray⟩)).setCell ⟨w.heap.size + 1 + 1, 1, none⟩ (.int .i64 1)).setCell ⟨w.heap.size + 1 + 1, 2, none⟩ (.int .i64 n)).setCell ⟨w.heap.size + 1 + 1, 3, none⟩ (.string ⟨zn.toArray⟩)).setCell ⟨w.heap.size + 1 + 1, 4, none⟩ (.int .i64 (a : Int))).setCell ⟨w.heap.size + 1 + 1, 5, none⟩ (.int .i64 (m : Int))).setCell ⟨w.heap.size + 1 + 1, 6, none⟩ (.string ⟨s.toArray⟩)).setCell ⟨w.heap.size + 1 + 1, 7, none⟩ (.string ⟨CL.toArray⟩)).cell? ⟨w.heap.size + 1, 3, none⟩ = some (.string ⟨s.toArray⟩) ∧ ((((((((Y.setCell ⟨w.heap.size + 1 + 1, 0, none⟩ (.string ⟨nm.toArray⟩)).setCell ⟨w.heap.size + 1 + 1, 1, none⟩ (.int .i64 1)).setCell ⟨w.heap.size + 1 + 1, 2, none⟩ (.int .i64 n)).setCell ⟨w.heap.size + 1 + 1, 3, none⟩ (.string ⟨zn.toArray⟩)).setCell ⟨w.heap.size + 1 + 1, 4, none⟩ (.int .i64 (a : Int))).setCell ⟨w.heap.size + 1 + 1, 5, none⟩ (.int .i64 (m : Int))).setCell ⟨w.heap.size + 1 + 1, 6, none⟩ (.string ⟨s.toArray⟩)).setCell ⟨w.heap.size + 1 + 1, 7, none⟩ (.string ⟨CL.toArray⟩)).cell? ⟨w.heap.size + 1, 4, none⟩ = some (.int .i64 (m : Int)) ∧ PaR (w.heap.size + 2) ((((((((Y.setCell ⟨w.heap.size + 1 + 1, 0, none⟩ (.string ⟨nm.toArray⟩)).setCell ⟨w.heap.size + 1 + 1, 1, none⟩ (.int .i64 1)).setCell ⟨w.heap.size + 1 + 1, 2, none⟩ (.int .i64 n)).setCell ⟨w.heap.size + 1 + 1, 3, none⟩ (.string ⟨zn.toArray⟩)).setCell ⟨w.heap.size + 1 + 1, 4, none⟩ (.int .i64 (a : Int))).setCell ⟨w.heap.size + 1 + 1, 5, none⟩ (.int .i64 (m : Int))).setCell ⟨w.heap.size + 1 + 1, 6, none⟩ (.string ⟨s.toArray⟩)).setCell ⟨w.heap.size + 1 + 1, 7, none⟩ (.string ⟨CL.toArray⟩)))) := fun Y h => by
    obtain ⟨h1, h2, h3, h4, h5, h6, h7, a0, a1, a2, a3, a4, a5, a6, a7, hr⟩ := h
    have hb := PaR.beneath Y (w.heap.size + 1 + 1) (.string ⟨nm.toArray⟩) (.int .i64 1) (.int .i64 n) (.string ⟨zn.toArray⟩) (.int .i64 (a : Int)) (.int .i64 (m : Int)) (.string ⟨s.toArray⟩) (.string ⟨CL.toArray⟩)
    have e : ∀ g i v, g < w.heap.size + 2 → Y.cell? ⟨g, i, none⟩ = some v → (((((((((Y.setCell ⟨w.heap.size + 1 + 1, 0, none⟩ (.string ⟨nm.toArray⟩)).setCell ⟨w.heap.size + 1 + 1, 1, none⟩ (.int .i64 1)).setCell ⟨w.heap.size + 1 + 1, 2, none⟩ (.int .i64 n)).setCell ⟨w.heap.size + 1 + 1, 3, none⟩ (.string ⟨zn.toArray⟩)).setCell ⟨w.heap.size + 1 + 1, 4, none⟩ (.int .i64 (a : Int))).setCell ⟨w.heap.size + 1 + 1, 5, none⟩ (.int .i64 (m : Int))).setCell ⟨w.heap.size + 1 + 1, 6, none⟩ (.string ⟨s.toArray⟩)).setCell ⟨w.heap.size + 1 + 1, 7, none⟩ (.string ⟨CL.toArray⟩))).cell? ⟨g, i, none⟩ = some v := fun g i v hg h => (Pa.cell_same (p := ⟨g, i, none⟩) (hb.block g hg)).trans h
    exact ⟨e _ _ _ (by omega) h1, e _ _ _ (by omega) h2, e _ _ _ (by omega) h3, e _ _ _ (by omega) h4, e _ _ _ (by omega) h5, e _ _ _ (by omega) h6, e _ _ _ (by omega) h7, _, _, _, _, _, _, _, _, PaR.store hr (.string ⟨nm.toArray⟩) (.int .i64 1) (.int .i64 n) (.string ⟨zn.toArray⟩) (.int .i64 (a : Int)) (.int .i64 (m : Int)) (.string ⟨s.toArray⟩) (.string ⟨CL.toArray⟩)⟩
  have HS0 : Hid (∀ Y : World, Y.heap = (((w.alloc (.cells #[.string ⟨zn.toArray⟩, .string ⟨zl.toArray⟩] 29)).alloc (.cells #[.int .i64 n, .int .i64 (c : Int), .int .i64 (a : Int), .string ⟨s.toArray⟩, .int .i64 (m : Int)] 141)).alloc (.cells #[.string ⟨#[]⟩, .int .i64 0, .int .i64 0, .string ⟨#[]⟩, .int .i64 0, .int .i64 0, .string ⟨#[]⟩, .string ⟨#[]⟩] 47)).heap → (Y.cell? ⟨w.heap.size, 0, none⟩ = some (.string ⟨zn.toArray⟩) ∧ Y.cell? ⟨w.heap.size, 1, none⟩ = some (.string ⟨zl.toArray⟩) ∧ Y.cell? ⟨w.heap.size + 1, 0, none⟩ = some (.int .i64 n) ∧ Y.cell? ⟨w.heap.size + 1, 1, none⟩ = some (.int .i64 (c : Int)) ∧ Y.cell? ⟨w.heap.size + 1, 2, none⟩ = some (.int .i64 (a : Int)) ∧ Y.cell? ⟨w.heap.size + 1, 3, none⟩ = some (.string ⟨s.toArray⟩) ∧ Y.cell? ⟨w.heap.size + 1, 4, none⟩ = some (.int .i64 (m : Int)) ∧ PaR (w.heap.size + 2) Y)) := fun Y hY => by
    have e1 : Y.heap[w.heap.size]? = some (.cells #[.string ⟨zn.toArray⟩, .string ⟨zl.toArray⟩] 29 (0, 0)) := by
      rw [hY, Below.heap_alloc _ _ _ (by simp; omega), Below.heap_alloc _ _ _ (by simp)]
      exact heap_alloc_new w _
    have e2 : Y.heap[w.heap.size + 1]? = some (.cells #[.int .i64 n, .int .i64 (c : Int), .int .i64 (a : Int), .string ⟨s.toArray⟩, .int .i64 (m : Int)] 141 (0, 0)) := by
      rw [hY, Below.heap_alloc _ _ _ (by simp)]
      exact two_heap w _ _
    have e3 : Y.heap[w.heap.size + 2]? = some (.cells #[.string ⟨#[]⟩, .int .i64 0, .int .i64 0, .string ⟨#[]⟩, .int .i64 0, .int .i64 0, .string ⟨#[]⟩, .string ⟨#[]⟩] 47 (0, 0)) := by
      rw [hY]
      have h := heap_alloc_new ((w.alloc (.cells #[.string ⟨zn.toArray⟩, .string ⟨zl.toArray⟩] 29)).alloc (.cells #[.int .i64 n, .int .i64 (c : Int), .int .i64 (a : Int), .string ⟨s.toArray⟩, .int .i64 (m : Int)] 141)) (.cells #[.string ⟨#[]⟩, .int .i64 0, .int .i64 0, .string ⟨#[]⟩, .int .i64 0, .int .i64 0, .string ⟨#[]⟩, .string ⟨#[]⟩] 47)
      rw [World.size_alloc, World.size_alloc] at h
      exact h
    exact ⟨cell_of_row _ _ 0 _ _ _ e1, cell_of_row _ _ 1 _ _ _ e1, cell_of_row _ _ 0 _ _ _ e2, cell_of_row _ _ 1 _ _ _ e2, cell_of_row _ _ 2 _ _ _ e2, cell_of_row _ _ 3 _ _ _ e2, cell_of_row _ _ 4 _ _ _ e2, _, _, _, _, _, _, _, _, e3⟩
  have HS1 : Hid _ := HS0.out ((((w.alloc (.cells #[.string ⟨zn.toArray⟩, .string ⟨zl.toArray⟩] 29)).alloc (.cells #[.int .i64 n, .int .i64 (c : Int), .int .i64 (a : Int), .string ⟨s.toArray⟩, .int .i64 (m : Int)] 141)).alloc (.cells #[.string ⟨#[]⟩, .int .i64 0, .int .i64 0, .string ⟨#[]⟩, .int .i64 0, .int .i64 0, .string ⟨#[]⟩, .string ⟨#[]⟩] 47)).drew) rfl
  clear HS0
  have HB0 : Hid (∀ o1 o2 o3, Below w.heap.size w (((w.alloc o1).alloc o2).alloc o3).drew) := fun o1 o2 o3 => ((((Below.refl _ _).alloc (Nat.le_refl _) o1).alloc (by simp) o2).alloc (by simp; omega) o3).drew
  have HB2 : Hid (∀ (W w1 : World), Below w.heap.size w W → Below W.heap.size W w1 → Below w.heap.size w w1) := fun W w1 h1 h2 => h1.trans (h2.mono h1.size)
  clear hCL hn hL hzn hs hzl hp
  go_enter Tryz.func94, Tryz.ntmps94
  go_wp2_with fail
  go_region_held3 (fun Y => Y.cell? ⟨w.heap.size, 0, none⟩ = some (.string ⟨zn.toArray⟩) ∧ Y.cell? ⟨w.heap.size, 1, none⟩ = some (.string ⟨zl.toArray⟩) ∧ Y.cell? ⟨w.heap.size + 1, 0, none⟩ = some (.int .i64 n) ∧ Y.cell? ⟨w.heap.size + 1, 1, none⟩ = some (.int .i64 (c : Int)) ∧ Y.cell? ⟨w.heap.size + 1, 2, none⟩ = some (.int .i64 (a : Int)) ∧ Y.cell? ⟨w.heap.size + 1, 3, none⟩ = some (.string ⟨s.toArray⟩) ∧ Y.cell? ⟨w.heap.size + 1, 4, none⟩ = some (.int .i64 (m : Int)) ∧ PaR (w.heap.size + 2) Y)
    (first | (with_reducible exact HS1.out) | (with_reducible (refine HSET.out _ ?_; assumption)) | (with_reducible (refine HK.out _ _ (by assumption) ?_; assumption)))
    (first
      | (go_at_call_of 93 (Value.string ⟨zn.toArray⟩); refine (HC1.out _).mono ?_; rintro e w1 ⟨rfl, hb1⟩)
      | (go_at_call 93; refine (HC2.out _).mono ?_; rintro e w2 ⟨rfl, hb2⟩)
      | (go_at_call 126; refine (HKC.out _ (by assumption)).mono ?_; rintro e w3 ⟨rfl, hb3, a0, a1, a2, a3, a4, a5, a6, a7, r0, f0, r1, f1, r2, f2, r3, f3, r4, f4, r5, f5, r6, f6, r7, f7, HROW⟩))
  all_goals
    go_wp2
    refine bodyPost_ret (ad_ret rfl (PaR.store HROW.out _ _ _ _ _ _ _ _) rfl) rfl ?_
    refine ⟨rfl, HB2.out _ _ (HB2.out _ _ (HB2.out _ _ (HB0.out _ _ _) hb1) hb2) hb3 |>.trans ?_⟩
    exact (PaR.beneath w3 (w.heap.size + 1 + 1) _ _ _ _ _ _ _ _).mono (by omega)

end Go.Proofs.YtfcbgfomhmcikaaGreatDoor
