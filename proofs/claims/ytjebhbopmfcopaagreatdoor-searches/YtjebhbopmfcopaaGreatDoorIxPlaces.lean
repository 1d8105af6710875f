/-
  THE WALKS of the program's places and Find. Own text of the verifier.
-/
import Derived.Test.YtjebhbopmfcopaaGreatDoorIxFind
import Derived.Test.YtjebhbopmfcopaaGreatDoorIxNews
namespace Go.Proofs.YtjebhbopmfcopaaGreatDoor
open Go.RowKit

theorem extract_tail (l : List UInt8) (q : Nat) (_h : q ≤ l.length) : ((⟨l.toArray⟩ : ByteArray).extract q l.length).data.toList = l.drop q := by
  rw [extract_piece]
  show Tx.piece ⟨l.toArray⟩ q l.length = _
  rw [Tx.piece]
  show (l.drop q).take (l.length - q) = _
  rw [List.take_of_length_le (by simp)]

set_option maxRecDepth 100000 in
set_option maxHeartbeats 4000000 in
theorem places_any (cs : List Pr) (gx cc : Nat) (S : List UInt8) (n b : Int) (w : World) (hn : Lt.strandB n = true) (hb0 : 0 ≤ b) (hb3 : b ≤ 3) (hc : cs.length ≤ 1000) (hN : ∀ x ∈ cs, x.2.length ≤ 100000) (hS : S.length ≤ 1000)
    (hcell : ∀ k (h : k < cs.length), w.cell? ⟨gx, k, none⟩ = some (Ix.str n cs[k])) :
    Calls Tryz.prog 149 #[.slice (some ⟨gx, 0, none⟩) cs.length cc, .string ⟨(Lt.conv (Lt.frm n) (Lt.tow n) S).toArray⟩, .int .i64 b] w fun e w' =>
      ∃ v, e = .returned v ∧ w'.ownsRow w.heap.size 78 2 v (Se.inAll n b S cs cs.length).length (Se.pls (Se.inAll n b S cs cs.length)) ∧ Below w.heap.size w w' := by
  have HN : Hid _ := hN
  have HCL : Hid _ := hcell
  have HST0 : Hid _ := hn
  clear hN hcell hn
  obtain ⟨s, hs⟩ : ∃ s : ByteArray, s = ⟨(Lt.conv (Lt.frm n) (Lt.tow n) S).toArray⟩ := ⟨_, rfl⟩
  rw [← hs]
  have hss : s.size = S.length := by rw [hs]; simp [ByteArray.size, Lt.conv_length]
  have HS : Hid (s.data.toList = Lt.conv (Lt.frm n) (Lt.tow n) S) := by show _ = _; rw [hs]
  clear hs
  go_enter Tryz.func149, Tryz.ntmps149
  go_wp2
  go_loopw [7, 13] (fun v i wr => ∃ k : Nat, k ≤ cs.length ∧ i = .int .i64 (k : Int) ∧ wr.ownsRow w.heap.size 78 2 v (Se.inAll n b S cs k).length (Se.pls (Se.inAll n b S cs k)) ∧ Below w.heap.size w wr) (fun _ i _ => cs.length - (intOf i).toNat)
  case atStart => exact ⟨0, Nat.zero_le _, rfl, World.ownsRow_nil _ _ _ _, Below.refl _ _⟩
  case round =>
    obtain ⟨k, hk, rfl, hown, hbel⟩ := hrel
    by_cases hlt : k < cs.length
    · have hlt' : (k : Int) < (cs.length : Int) := by omega
      have hck : wr.cell? ⟨gx, k, none⟩ = some (Ix.str n cs[k]) := by
        have h0 := HCL.out k hlt
        rw [hbel.cell (p := ⟨gx, k, none⟩) (World.block_lt_of_cell? w _ h0)]
        exact h0
      obtain ⟨x, hx⟩ : ∃ x, x = cs[k] := ⟨_, rfl⟩
      have hxN : x.2.length ≤ 100000 := HN.out x (by rw [hx]; exact List.getElem_mem _)
      have HX : Hid (Se.inAll n b S cs (k + 1) = Se.inAll n b S cs k ++ Se.inOne n b S x.2 k) := by show _ = _; rw [Se.inAll, List.getElem?_eq_getElem hlt, hx]
      have HLEN : Hid _ := Se.inAll_length n b S cs 100000 HN.out k
      rw [← hx, Ix.str] at hck
      clear hx
      obtain ⟨T, hT⟩ : ∃ T, T = Lt.conv (Lt.frm n) (Lt.tow n) x.2 := ⟨_, rfl⟩
      have HTL : Hid (T.length = x.2.length) := by show _ = _; rw [hT, Lt.conv_length]
      have hTN : T.length ≤ 100000 := by rw [HTL.out]; exact hxN
      rw [← hT] at hck
      have HT : Hid _ := hT
      clear hT
      have hTs : (⟨T.toArray⟩ : ByteArray).size = T.length := by simp [ByteArray.size]
      generalize hP : Se.inAll n b S cs k = P at *
      clear hP
      obtain ⟨va, vcap, hv⟩ := own_form hown
      subst hv
      have HO0 : Hid _ := hown
      have HB0 : Hid _ := hbel
      clear hown hbel
      go_wp2
      go_loopw [7, 24] (fun v i wr2 => ∃ q : Nat, q ≤ T.length + 1 - S.length ∧ i = .int .i64 (q : Int) ∧ wr2.ownsRow w.heap.size 78 2 v (P ++ Se.upto n b S x.2 k q).length (Se.pls (P ++ Se.upto n b S x.2 k q)) ∧ Below w.heap.size w wr2) (fun _ i _ => T.length + 1 - S.length - (intOf i).toNat)
      case atStart => exact ⟨0, Nat.zero_le _, rfl, by rw [show P ++ Se.upto n b S x.2 k 0 = P from by simp [Se.upto]]; exact HO0.out, HB0.out⟩
      case round =>
        clear HO0 HB0 hck
        obtain ⟨q, hq, rfl, hown, hbel⟩ := hrel
        obtain ⟨va2, vcap2, hv⟩ := own_form hown
        subst hv
        by_cases hin : q + S.length ≤ T.length
        · have hin' : (q : Int) < (T.length : Int) - (S.length : Int) + 1 := by omega
          have hqT : q ≤ T.length := by omega
          have hex := extract_tail T q hqT
          have hes : s.size ≤ ((⟨T.toArray⟩ : ByteArray).extract q T.length).size := by rw [ByteArray.size_extract, hTs]; omega
          have hem : ((⟨T.toArray⟩ : ByteArray).extract q T.length).size ≤ 140737488355327 := by rw [ByteArray.size_extract, hTs]; omega
          have HRES : Hid (decide ((Ix.miss s.data.toList ((⟨T.toArray⟩ : ByteArray).extract q T.length).data.toList : Int) ≤ b) = Se.stands n b S x.2 q) := by
            show _ = _
            rw [hex, HS.out, HT.out]
            exact Ix.conv_drop_miss HST0.out S x.2 q b
          have HOWN : Hid _ := hown
          have HUP : Hid _ := Se.upto_succ n b S x.2 k q
          have HUL : Hid _ := Se.upto_length n b S x.2 k q
          clear hex hown
          go_wp2_with fail
          refine (stands_any s _ b _ hes hem hb0 hb3).mono ?_
          rw [HRES.out]
          rintro e w2 ⟨rfl, hw2⟩
          have hb2 : Below wr.heap.size wr w2 := by obtain ⟨m, rfl⟩ := hw2; exact below_drewN (Below.refl _ _) m
          have HO2 : Hid _ := own_below HOWN.out hb2
          have hbel2 := hbel.trans (hb2.mono hbel.size)
          have HB2 : Hid _ := hbel2
          clear hw2 hb2 HRES HOWN hes hem
          have hsz2 := hbel2.size
          clear hbel2 hbel
          have HPL : Hid ((P ++ Se.upto n b S x.2 k q).length ≤ 1000 * 100001 + 100001) := by
            show _ ≤ _
            have h1 := HLEN.out
            have h2 := HUL.out
            have h3 : k * (100000 + 1) ≤ 1000 * (100000 + 1) := Nat.mul_le_mul_right _ (by omega)
            rw [List.length_append]
            omega
          obtain ⟨L, hL⟩ : ∃ L, L = P ++ Se.upto n b S x.2 k q := ⟨_, rfl⟩
          rw [← hL] at HO2 HPL ⊢
          have HL : Hid _ := hL
          clear hL
          cases hst : Se.stands n b S x.2 q with
          | true =>
            have HST : Hid _ := hst
            clear hst
            have hpl := HPL.out
            go_wp2_with (at_builtin; refine app_src rfl _ _ 119 rfl w.heap.size 78 _ 2 16 Tryz.underlying119 Tryz.infoPlace rfl (by decide) (.slice va2 L.length vcap2) L.length (Se.pls L) (.slice (some ⟨w2.heap.size, 0, none⟩) 1 1) 1 [.int .i64 (k : Int), .int .i64 (q : Int)] rfl rfl (by exact World.ownsRow.alloc HO2.out _) (.inr ⟨_, _, rfl, by exact two_cells _ _ _ _⟩) rfl (by simp [Value.oneCell']) (by exact Below.alloc HB2.out hsz2 _) (by simp; omega) (by omega) (by decide) ?_; intro v3 w3 hown3 hbel3 _ _)
            go_roundw
            case rel =>
              refine ⟨q + 1, by omega, by go_num, ?_, hbel3⟩
              rw [HUP.out, HST.out, if_pos rfl, ← List.append_assoc, ← HL.out, Se.pls_append, List.length_append]
              exact hown3
            case measure => simp [intOf]; omega
          | false =>
            have HST : Hid _ := hst
            clear hst
            go_wp2
            go_roundw
            case rel =>
              refine ⟨q + 1, by omega, by go_num, ?_, HB2.out⟩
              rw [HUP.out, HST.out, if_neg (by simp), List.append_nil, ← HL.out]
              exact HO2.out
            case measure => simp [intOf]; omega
        · have hin' : ¬ (q : Int) < (T.length : Int) - (S.length : Int) + 1 := by omega
          have HQE : Hid (q = x.2.length + 1 - S.length) := by show _ = _; have := HTL.out; omega
          have HOWN : Hid _ := hown
          have HB2 : Hid _ := hbel
          clear hown hbel
          go_wp2
          go_roundw
          case rel =>
            refine ⟨k + 1, by omega, by go_num, ?_, HB2.out⟩
            rw [HX.out, Se.inOne, ← HQE.out]
            exact HOWN.out
          case measure => simp [intOf]; omega
    · have hke : k = cs.length := by omega
      have hlt' : ¬ (k : Int) < (cs.length : Int) := by omega
      rw [hke] at hown
      have HO : Hid _ := hown
      clear hke hown
      go_wp2
      go_ret
      exact ⟨_, rfl, HO.out, hbel⟩

end Go.Proofs.YtjebhbopmfcopaaGreatDoor
