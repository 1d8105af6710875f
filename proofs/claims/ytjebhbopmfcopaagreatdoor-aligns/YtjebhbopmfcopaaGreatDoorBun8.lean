/-
  THE WALK of the program's New. Own text of the verifier.
  THE WALKS of the program's places and Find. Own text of the verifier.
  THE WALK of the program's Find. Own text of the verifier.
  THE WORLD of the law Searches: its indexes, each beside its reference, and its book of places. Own text of the verifier.
  THE WALK of the World's 'made': the contigs are lent, an index is made of them, the error is held against the document's. Own text of the verifier.
  THE WALK of the World's 'found': an index is asked, and the document; the answers are held against each other, and what came out is written into the book. Own text of the verifier.
-/
import Derived.Test.YtjebhbopmfcopaaGreatDoorBun7
import Derived.Test.YtjebhbopmfcopaaGreatDoorBun6
import Derived.Laws.StructEq
import Derived.Test.YtjebhbopmfcopaaGreatDoorBun1
import Derived.Test.YtjebhbopmfcopaaGreatDoorBun2
import Derived.Test.YtjebhbopmfcopaaGreatDoorBun3
import Derived.Test.YtjebhbopmfcopaaGreatDoorBun4
import Derived.Test.YtjebhbopmfcopaaGreatDoorBun5
namespace Go.Proofs.YtjebhbopmfcopaaGreatDoor
open Go.RowKit

/-- an index that answers for contigs -/
def IxAt (X : World) (B : Nat) (p : Value) (cs : List Pr) : Prop :=
  ∃ bx top bot, p = .pointer (some ⟨bx, 0, none⟩) ∧ X.ownsRow B 122 2 (.slice (some ⟨bx, 0, none⟩) 1 1) 1 [top, bot] ∧ X.ownsRow B 9 1 top cs.length (Ix.strs 1 cs) ∧ X.ownsRow B 9 1 bot cs.length (Ix.strs 2 cs)

theorem IxAt.below {X Y : World} {B : Nat} {p : Value} {cs : List Pr} (h : IxAt X B p cs) (hb : Below X.heap.size X Y) : IxAt Y B p cs := by
  obtain ⟨bx, top, bot, h1, h2, h3, h4⟩ := h
  exact ⟨bx, top, bot, h1, own_below h2 hb, own_below h3 hb, own_below h4 hb⟩

theorem Se.err_two (cs : List Pr) (h : (!cs.any Se.wrong && decide (0 < cs.length)) = false) : Se.newErr cs = 2 := by
  unfold Se.newErr
  by_cases h0 : cs.length = 0
  · rw [if_pos h0]
  · rw [if_neg h0]
    have : cs.any Se.wrong = true := by
      rw [decide_eq_true (by omega), Bool.and_true] at h
      simpa using h
    rw [if_pos this]
theorem Se.err_four (cs : List Pr) (h : (!cs.any Se.wrong && decide (0 < cs.length)) = true) (h4 : (decide (4096 < Se.total cs) || decide (16 < cs.length)) = true) : Se.newErr cs = 4 := by
  rw [Bool.and_eq_true] at h
  unfold Se.newErr
  rw [if_neg (by have := of_decide_eq_true h.2; omega), if_neg (by have := h.1; simpa using this)]
  rw [Bool.or_eq_true] at h4
  by_cases h16 : 16 < cs.length
  · rw [if_pos h16]
  · rw [if_neg h16]
    rcases h4 with h4 | h4
    · rw [if_pos (of_decide_eq_true h4)]
    · exact absurd (of_decide_eq_true h4) h16
theorem Se.err_none (cs : List Pr) (h : (!cs.any Se.wrong && decide (0 < cs.length)) = true) (h4 : (decide (4096 < Se.total cs) || decide (16 < cs.length)) = false) : Se.newErr cs = 0 := by
  rw [Bool.and_eq_true] at h
  rw [Bool.or_eq_false_iff] at h4
  unfold Se.newErr
  rw [if_neg (by have := of_decide_eq_true h.2; omega), if_neg (by have := h.1; simpa using this), if_neg (of_decide_eq_false h4.2), if_neg (of_decide_eq_false h4.1)]

theorem Se.total_mem (cs : List Pr) (x : Pr) (h : x ∈ cs) : x.2.length ≤ Se.total cs := by
  induction cs with
  | nil => cases h
  | cons c r ih =>
    simp only [Se.total]
    rcases List.mem_cons.1 h with rfl | h
    · omega
    · have := ih h; omega

/-- what is so of contigs that New takes -/
structure Se.Right (cs : List Pr) : Prop where
  pos : 0 < cs.length
  few : cs.length ≤ 16
  len : ∀ x ∈ cs, x.2.length ≤ 4096
  let_ : ∀ x ∈ cs, Lt.allL x.2 = true

theorem Se.right_of (cs : List Pr) (h : Se.newErr cs = 0) : Se.Right cs := by
  unfold Se.newErr at h
  split at h
  · simp at h
  · split at h
    · simp at h
    · split at h
      · simp at h
      · split at h
        · simp at h
        · next h0 h1 h2 h3 =>
          refine ⟨by omega, by omega, fun x hx => by have := Se.total_mem cs x hx; omega, fun x hx => ?_⟩
          have h4 : ¬ Se.wrong x = true := fun hw => h1 (List.any_eq_true.2 ⟨x, hx, hw⟩)
          simp only [Se.wrong, Bool.or_eq_true, Bool.not_eq_true', not_or, Bool.not_eq_false] at h4
          exact h4.1

theorem ret_two' {v : Value} {a b : Int} (h : a = b) : Ending.returned (.tuple #[v, .int .i64 a]) = .returned (.tuple #[v, .int .i64 b]) := by rw [h]

set_option maxRecDepth 100000 in
set_option maxHeartbeats 400000 in
theorem ixNew_nil (w : World) : Calls Tryz.prog 26 #[.slice none 0 0] w fun e w' => e = .returned (.tuple #[.pointer none, .int .i64 2]) ∧ w' = w := by
  go_enter Tryz.func26, Tryz.ntmps26
  go_wp2_with (go_at_call 58; refine (areContigs_nil _).mono ?_; rintro e w' ⟨rfl, hw⟩; subst w')
  go_ret2
  exact ⟨rfl, rfl⟩

set_option maxRecDepth 100000 in
set_option maxHeartbeats 1600000 in
theorem ixNew_any (cs : List Pr) (G cc : Nat) (w : World) (hc : cs.length ≤ 140737488355327) (hN : ∀ x ∈ cs, x.2.length ≤ 140737488355327) (hC : Cs w G cs) :
    Calls Tryz.prog 26 #[.slice (some ⟨G, 0, none⟩) cs.length cc] w fun e w' => ∃ p, e = .returned (.tuple #[p, .int .i64 (Se.newErr cs)]) ∧ Below w.heap.size w w' ∧ ((Se.newErr cs ≠ 0 ∧ p = .pointer none) ∨ (Se.newErr cs = 0 ∧ IxAt w' w.heap.size p cs)) := by
  have HN : Hid _ := hN
  have HC : Hid (Cs w G cs) := hC
  clear hN hC
  cases h1 : (!cs.any Se.wrong && decide (0 < cs.length)) with
  | false =>
    have HE : Hid _ := Se.err_two cs h1
    have H1 : Hid _ := h1
    clear h1
    go_enter Tryz.func26, Tryz.ntmps26
    go_wp2_with (go_at_call 58; refine (areContigs_any cs G cc _ hc HN.out HC.out).mono ?_; rw [H1.out]; rintro e w1 ⟨rfl, hb1⟩)
    go_ret2
    exact ⟨_, ret_two' HE.out.symm, hb1, .inl ⟨by rw [HE.out]; decide, rfl⟩⟩
  | true =>
    have H1 : Hid _ := h1
    cases h2 : (decide (4096 < Se.total cs) || decide (16 < cs.length)) with
    | true =>
      have HE : Hid _ := Se.err_four cs h1 h2
      have H2 : Hid _ := h2
      clear h1 h2
      go_enter Tryz.func26, Tryz.ntmps26
      go_wp2_with fail
      refine (areContigs_any cs G cc _ hc HN.out HC.out).mono ?_
      rw [H1.out]
      rintro e w1 ⟨rfl, hb1⟩
      go_wp2_with fail
      refine (areTooMany_any cs G cc _ hc HN.out (Cs.below HC.out hb1)).mono ?_
      rw [H2.out]
      rintro e w2 ⟨rfl, hb2⟩
      go_wp2
      go_ret2
      exact ⟨_, ret_two' HE.out.symm, hb1.trans (hb2.mono hb1.size), .inl ⟨by rw [HE.out]; decide, rfl⟩⟩
    | false =>
      have HE : Hid _ := Se.err_none cs h1 h2
      have H2 : Hid _ := h2
      clear h1 h2
      have hr := Se.right_of cs HE.out
      have hfew := hr.few
      have HLN : Hid (∀ x ∈ cs, x.2.length ≤ 100000) := fun x hx => by have := hr.len x hx; omega
      have HLL : Hid _ := hr.let_
      clear hr
      go_enter Tryz.func26, Tryz.ntmps26
      go_wp2_with fail
      refine (areContigs_any cs G cc _ hc HN.out HC.out).mono ?_
      rw [H1.out]
      rintro e w1 ⟨rfl, hb1⟩
      go_wp2_with fail
      refine (areTooMany_any cs G cc _ hc HN.out (Cs.below HC.out hb1)).mono ?_
      rw [H2.out]
      rintro e w2 ⟨rfl, hb2⟩
      have hb12 := hb1.trans (hb2.mono hb1.size)
      have HC2 : Hid _ := Cs.below HC.out hb12
      go_wp2_with fail
      refine (converted_any cs G cc 1 _ (by omega) HLN.out HLL.out (by decide) HC2.out).mono ?_
      rintro e w3 ⟨v1, rfl, ho1, hb3⟩
      go_wp2_with fail
      refine (converted_any cs G cc 2 _ (by omega) HLN.out HLL.out (by decide) (Cs.below HC2.out hb3)).mono ?_
      rintro e w4 ⟨v2, rfl, ho2, hb4⟩
      have hb13 := hb12.trans (hb3.mono hb12.size)
      have hb14 := hb13.trans (hb4.mono hb13.size)
      have s1 := hb12.size
      have s2 := hb13.size
      have s3 := hb14.size
      have o1 := own_base (own_below ho1 hb4) s1
      have o2 := own_base ho2 s2
      have hfin : IxAt (w4.alloc (.cells #[v1, v2] 122)) w.heap.size (.pointer (some ⟨w4.heap.size, 0, none⟩)) cs :=
        ⟨w4.heap.size, v1, v2, rfl, World.ownsRow_lit w4 #[v1, v2] 1 s3 (by decide) rfl, o1.alloc _, o2.alloc _⟩
      have HFIN : Hid _ := hfin
      have HBF : Hid _ := hb14.alloc s3 (.cells #[v1, v2] 122)
      obtain ⟨a1, c1, hf1⟩ := own_form ho1
      obtain ⟨a2, c2, hf2⟩ := own_form ho2
      subst hf1 hf2
      clear hfin o1 o2 ho1 ho2 hb3 hb4 hb13 hb14 hb12 hb1 hb2
      go_wp2
      go_ret2
      exact ⟨_, ret_two' HE.out.symm, HBF.out, .inr ⟨HE.out, HFIN.out⟩⟩

end Go.Proofs.YtjebhbopmfcopaaGreatDoor

namespace Go.Proofs.YtjebhbopmfcopaaGreatDoor
open Go.RowKit

theorem extract_tail (l : List UInt8) (q : Nat) (_h : q ≤ l.length) : ((⟨l.toArray⟩ : ByteArray).extract q l.length).data.toList = l.drop q := by
  rw [extract_piece]
  show Tx.piece ⟨l.toArray⟩ q l.length = _
  rw [Tx.piece]
  show (l.drop q).take (l.length - q) = _
  rw [List.take_of_length_le (by simp)]

set_option maxRecDepth 100000 in
set_option maxHeartbeats 4000000 in
theorem places_any (cs : List Pr) (gx cc : Nat) (S : List UInt8) (n b : Int) (w : World) (hn : Lt.strandB n = true) (hb0 : 0 ≤ b) (hb3 : b ≤ 3) (hc : cs.length ≤ 1000) (hN : ∀ x ∈ cs, x.2.length ≤ 100000) (hS : S.length ≤ 1000)
    (hcell : ∀ k (h : k < cs.length), w.cell? ⟨gx, k, none⟩ = some (Ix.str n cs[k])) :
    Calls Tryz.prog 149 #[.slice (some ⟨gx, 0, none⟩) cs.length cc, .string ⟨(Lt.conv (Lt.frm n) (Lt.tow n) S).toArray⟩, .int .i64 b] w fun e w' =>
      ∃ v, e = .returned v ∧ w'.ownsRow w.heap.size 78 2 v (Se.inAll n b S cs cs.length).length (Se.pls (Se.inAll n b S cs cs.length)) ∧ Below w.heap.size w w' := by
  have HN : Hid _ := hN
  have HCL : Hid _ := hcell
  have HST0 : Hid _ := hn
  clear hN hcell hn
  obtain ⟨s, hs⟩ : ∃ s : ByteArray, s = ⟨(Lt.conv (Lt.frm n) (Lt.tow n) S).toArray⟩ := ⟨_, rfl⟩
  rw [← hs]
  have hss : s.size = S.length := by rw [hs]; simp [ByteArray.size, Lt.conv_length]
  have HS : Hid (s.data.toList = Lt.conv (Lt.frm n) (Lt.tow n) S) := by show _ = _; rw [hs]
  clear hs
  go_enter Tryz.func149, Tryz.ntmps149
  go_wp2
  go_loopw [7, 13] (fun v i wr => ∃ k : Nat, k ≤ cs.length ∧ i = .int .i64 (k : Int) ∧ wr.ownsRow w.heap.size 78 2 v (Se.inAll n b S cs k).length (Se.pls (Se.inAll n b S cs k)) ∧ Below w.heap.size w wr) (fun _ i _ => cs.length - (intOf i).toNat)
  case atStart => exact ⟨0, Nat.zero_le _, rfl, World.ownsRow_nil _ _ _ _, Below.refl _ _⟩
  case round =>
    obtain ⟨k, hk, rfl, hown, hbel⟩ := hrel
    by_cases hlt : k < cs.length
    · have hlt' : (k : Int) < (cs.length : Int) := by omega
      have hck : wr.cell? ⟨gx, k, none⟩ = some (Ix.str n cs[k]) := by
        have h0 := HCL.out k hlt
        rw [hbel.cell (p := ⟨gx, k, none⟩) (World.block_lt_of_cell? w _ h0)]
        exact h0
      obtain ⟨x, hx⟩ : ∃ x, x = cs[k] := ⟨_, rfl⟩
      have hxN : x.2.length ≤ 100000 := HN.out x (by rw [hx]; exact List.getElem_mem _)
      have HX : Hid (Se.inAll n b S cs (k + 1) = Se.inAll n b S cs k ++ Se.inOne n b S x.2 k) := by show _ = _; rw [Se.inAll, List.getElem?_eq_getElem hlt, hx]
      have HLEN : Hid _ := Se.inAll_length n b S cs 100000 HN.out k
      rw [← hx, Ix.str] at hck
      clear hx
      obtain ⟨T, hT⟩ : ∃ T, T = Lt.conv (Lt.frm n) (Lt.tow n) x.2 := ⟨_, rfl⟩
      have HTL : Hid (T.length = x.2.length) := by show _ = _; rw [hT, Lt.conv_length]
      have hTN : T.length ≤ 100000 := by rw [HTL.out]; exact hxN
      rw [← hT] at hck
      have HT : Hid _ := hT
      clear hT
      have hTs : (⟨T.toArray⟩ : ByteArray).size = T.length := by simp [ByteArray.size]
      generalize hP : Se.inAll n b S cs k = P at *
      clear hP
      obtain ⟨va, vcap, hv⟩ := own_form hown
      subst hv
      have HO0 : Hid _ := hown
      have HB0 : Hid _ := hbel
      clear hown hbel
      go_wp2
      go_loopw [7, 24] (fun v i wr2 => ∃ q : Nat, q ≤ T.length + 1 - S.length ∧ i = .int .i64 (q : Int) ∧ wr2.ownsRow w.heap.size 78 2 v (P ++ Se.upto n b S x.2 k q).length (Se.pls (P ++ Se.upto n b S x.2 k q)) ∧ Below w.heap.size w wr2) (fun _ i _ => T.length + 1 - S.length - (intOf i).toNat)
      case atStart => exact ⟨0, Nat.zero_le _, rfl, by rw [show P ++ Se.upto n b S x.2 k 0 = P from by simp [Se.upto]]; exact HO0.out, HB0.out⟩
      case round =>
        clear HO0 HB0 hck
        obtain ⟨q, hq, rfl, hown, hbel⟩ := hrel
        obtain ⟨va2, vcap2, hv⟩ := own_form hown
        subst hv
        by_cases hin : q + S.length ≤ T.length
        · have hin' : (q : Int) < (T.length : Int) - (S.length : Int) + 1 := by omega
          have hqT : q ≤ T.length := by omega
          have hex := extract_tail T q hqT
          have hes : s.size ≤ ((⟨T.toArray⟩ : ByteArray).extract q T.length).size := by rw [ByteArray.size_extract, hTs]; omega
          have hem : ((⟨T.toArray⟩ : ByteArray).extract q T.length).size ≤ 140737488355327 := by rw [ByteArray.size_extract, hTs]; omega
          have HRES : Hid (decide ((Ix.miss s.data.toList ((⟨T.toArray⟩ : ByteArray).extract q T.length).data.toList : Int) ≤ b) = Se.stands n b S x.2 q) := by
            show _ = _
            rw [hex, HS.out, HT.out]
            exact Ix.conv_drop_miss HST0.out S x.2 q b
          have HOWN : Hid _ := hown
          have HUP : Hid _ := Se.upto_succ n b S x.2 k q
          have HUL : Hid _ := Se.upto_length n b S x.2 k q
          clear hex hown
          go_wp2_with fail
          refine (stands_any s _ b _ hes hem hb0 hb3).mono ?_
          rw [HRES.out]
          rintro e w2 ⟨rfl, hw2⟩
          have hb2 : Below wr.heap.size wr w2 := by obtain ⟨m, rfl⟩ := hw2; exact below_drewN (Below.refl _ _) m
          have HO2 : Hid _ := own_below HOWN.out hb2
          have hbel2 := hbel.trans (hb2.mono hbel.size)
          have HB2 : Hid _ := hbel2
          clear hw2 hb2 HRES HOWN hes hem
          have hsz2 := hbel2.size
          clear hbel2 hbel
          have HPL : Hid ((P ++ Se.upto n b S x.2 k q).length ≤ 1000 * 100001 + 100001) := by
            show _ ≤ _
            have h1 := HLEN.out
            have h2 := HUL.out
            have h3 : k * (100000 + 1) ≤ 1000 * (100000 + 1) := Nat.mul_le_mul_right _ (by omega)
            rw [List.length_append]
            omega
          obtain ⟨L, hL⟩ : ∃ L, L = P ++ Se.upto n b S x.2 k q := ⟨_, rfl⟩
          rw [← hL] at HO2 HPL ⊢
          have HL : Hid _ := hL
          clear hL
          cases hst : Se.stands n b S x.2 q with
          | true =>
            have HST : Hid _ := hst
            clear hst
            have hpl := HPL.out
            go_wp2_with (at_builtin; refine app_src rfl _ _ 119 rfl w.heap.size 78 _ 2 16 Tryz.underlying119 Tryz.infoPlace rfl (by decide) (.slice va2 L.length vcap2) L.length (Se.pls L) (.slice (some ⟨w2.heap.size, 0, none⟩) 1 1) 1 [.int .i64 (k : Int), .int .i64 (q : Int)] rfl rfl (by exact World.ownsRow.alloc HO2.out _) (.inr ⟨_, _, rfl, by exact two_cells _ _ _ _⟩) rfl (by simp [Value.oneCell']) (by exact Below.alloc HB2.out hsz2 _) (by simp; omega) (by omega) (by decide) ?_; intro v3 w3 hown3 hbel3 _ _)
            go_roundw
            case rel =>
              refine ⟨q + 1, by omega, by go_num, ?_, hbel3⟩
              rw [HUP.out, HST.out, if_pos rfl, ← List.append_assoc, ← HL.out, Se.pls_append, List.length_append]
              exact hown3
            case measure => simp [intOf]; omega
          | false =>
            have HST : Hid _ := hst
            clear hst
            go_wp2
            go_roundw
            case rel =>
              refine ⟨q + 1, by omega, by go_num, ?_, HB2.out⟩
              rw [HUP.out, HST.out, if_neg (by simp), List.append_nil, ← HL.out]
              exact HO2.out
            case measure => simp [intOf]; omega
        · have hin' : ¬ (q : Int) < (T.length : Int) - (S.length : Int) + 1 := by omega
          have HQE : Hid (q = x.2.length + 1 - S.length) := by show _ = _; have := HTL.out; omega
          have HOWN : Hid _ := hown
          have HB2 : Hid _ := hbel
          clear hown hbel
          go_wp2
          go_roundw
          case rel =>
            refine ⟨k + 1, by omega, by go_num, ?_, HB2.out⟩
            rw [HX.out, Se.inOne, ← HQE.out]
            exact HOWN.out
          case measure => simp [intOf]; omega
    · have hke : k = cs.length := by omega
      have hlt' : ¬ (k : Int) < (cs.length : Int) := by omega
      rw [hke] at hown
      have HO : Hid _ := hown
      clear hke hown
      go_wp2
      go_ret
      exact ⟨_, rfl, HO.out, hbel⟩

end Go.Proofs.YtjebhbopmfcopaaGreatDoor

namespace Go.Proofs.YtjebhbopmfcopaaGreatDoor
open Go.RowKit

theorem Ix.str_top {n : Int} (h : Lt.topB n = true) : Ix.str 1 = Ix.str n := by
  have h4 : n = 1 ∨ n = 3 := by simpa [Lt.topB] using h
  rcases h4 with rfl | rfl <;> rfl
theorem Ix.str_bot {n : Int} (h : Lt.topB n = false) (hs : Lt.strandB n = true) : Ix.str 2 = Ix.str n := by
  have h4 : n = 2 ∨ n = 4 := by
    rw [Lt.strandB_int] at hs
    simp only [Lt.topB, Bool.or_eq_false_iff, beq_eq_false_iff_ne, Bool.or_eq_true, beq_iff_eq] at h hs
    omega
  rcases h4 with rfl | rfl <;> rfl

theorem ixContigs_any (n : Int) (w : World) (bx : Nat) (a1 a2 : Option Addr) (n1 n2 c1 c2 : Nat) (x0 : w.cell? ⟨bx, 0, none⟩ = some (.slice a1 n1 c1)) (x1 : w.cell? ⟨bx, 1, none⟩ = some (.slice a2 n2 c2)) :
    Calls Tryz.prog 150 #[.pointer (some ⟨bx, 0, none⟩), .int .i64 n] w fun e w' => e = .returned (if Lt.topB n then .slice a1 n1 c1 else .slice a2 n2 c2) ∧ w' = w := by
  obtain ⟨r, hr⟩ : ∃ r, r = (if Lt.topB n then Value.slice a1 n1 c1 else .slice a2 n2 c2) := ⟨_, rfl⟩
  rw [← hr]
  cases h1 : Lt.topB n
  all_goals
    have HR : Hid (r = _) := hr
    rw [h1] at HR
    have HT : Hid _ := h1
    clear hr h1
    go_enter Tryz.func150, Tryz.ntmps150
    go_wp2_with (go_at_call 157; refine (strTop_any _ _).mono ?_; rintro e w' ⟨rfl, hw⟩; subst w'; rw [HT.out])
    go_ret
    exact ⟨by rw [HR.out]; rfl, rfl⟩

theorem own_strs {X : World} {B : Nat} {v : Value} {n : Int} {cs : List Pr} (h : X.ownsRow B 9 1 v cs.length (Ix.strs n cs)) (hp : 0 < cs.length) :
    ∃ g c, v = .slice (some ⟨g, 0, none⟩) cs.length c ∧ ∀ k (h : k < cs.length), X.cell? ⟨g, k, none⟩ = some (Ix.str n cs[k]) := by
  obtain ⟨g, c, rfl, _, _⟩ := own_pos h hp
  refine ⟨g, c, rfl, fun k hk => ?_⟩
  rw [h.cellAt k (by omega)]
  simp [Ix.strs, hk]

set_option maxRecDepth 100000 in
set_option maxHeartbeats 4000000 in
theorem ixFind_any (cs : List Pr) (B : Nat) (p : Value) (s : ByteArray) (n b : Int) (w : World) (hI : IxAt w B p cs) (hR : Se.Right cs) (hs : s.size ≤ 140737488355327) :
    Calls Tryz.prog 86 #[p, .string s, .int .i64 n, .int .i64 b] w fun e w' =>
      ∃ v, e = .returned (.tuple #[v, .int .i64 (Se.findErr n b s.data.toList)]) ∧ w'.ownsRow w.heap.size 78 2 v (Se.findOut n b s.data.toList cs).length (Se.pls (Se.findOut n b s.data.toList cs)) ∧ (Se.findErr n b s.data.toList ≠ 0 → v = .slice none 0 0) ∧ Below w.heap.size w w' := by
  have hsz : s.data.toList.length = s.size := by simp
  have hsm : s.size ≤ maxLen := by unfold maxLen; omega
  have hbad : ∀ x : Int, Se.findErr n b s.data.toList = x → x ≠ 0 → Se.findOut n b s.data.toList cs = [] := fun x h h0 => by rw [Se.findOut, if_neg (by rw [h]; exact h0)]
  have hE0 : (s.toList = []) ↔ s.size = 0 := by rw [ByteArray.toList_eq, List.eq_nil_iff_length_eq_zero, hsz]
  obtain ⟨E, hE⟩ : ∃ E, E = Se.findErr n b s.data.toList := ⟨_, rfl⟩
  obtain ⟨O, hO⟩ : ∃ O, O = Se.findOut n b s.data.toList cs := ⟨_, rfl⟩
  rw [← hE, ← hO] at hbad
  rw [← hE, ← hO]
  have HFIN : Hid (E ≠ 0 → ∀ X : World, X.ownsRow w.heap.size 78 2 (.slice none 0 0) O.length (Se.pls O)) := fun h X => by
    rw [hbad E rfl h]; exact World.ownsRow_nil _ _ _ _
  clear hbad
  obtain ⟨bx, top, bot, rfl, hx, hto, hbo⟩ := hI
  have hpos := hR.pos
  have hfew := hR.few
  obtain ⟨gt, ct, rfl, htop⟩ := own_strs hto hpos
  obtain ⟨gb, cb, rfl, hbot⟩ := own_strs hbo hpos
  have x0 : w.cell? ⟨bx, 0, none⟩ = some (.slice (some ⟨gt, 0, none⟩) cs.length ct) := by rw [hx.cellAt 0 (by omega)]; rfl
  have x1 : w.cell? ⟨bx, 1, none⟩ = some (.slice (some ⟨gb, 0, none⟩) cs.length cb) := by rw [hx.cellAt 1 (by omega)]; rfl
  have HX0 : Hid _ := x0
  have HX1 : Hid _ := x1
  have HTOP : Hid _ := htop
  have HBOT : Hid _ := hbot
  have HN : Hid (∀ x ∈ cs, x.2.length ≤ 100000) := fun x hx => by have := hR.len x hx; omega
  clear hx hto hbo x0 x1 htop hbot hR
  cases hst : Lt.strandB n with
  | false =>
    have HE : Hid (E = 1) := by show _ = _; rw [hE, Se.findErr, if_pos hst]
    have HT : Hid _ := hst
    clear hst hE hO hsz hE0
    go_enter Tryz.func86, Tryz.ntmps86
    go_wp2_with (go_at_call 77; refine (strIs_any _ _).mono ?_; rintro e w' ⟨rfl, hw⟩; subst w'; rw [HT.out])
    go_ret2
    exact ⟨_, ret_two HE.out.symm, HFIN.out (by rw [HE.out]; decide) _, fun _ => rfl, Below.refl _ _⟩
  | true =>
    have HT : Hid _ := hst
    by_cases hb0 : b < 0
    · have HE : Hid (E = 1) := by show _ = _; rw [hE, Se.findErr, if_neg (by simp [hst]), if_pos hb0]
      clear hst hE hO hsz hE0
      go_enter Tryz.func86, Tryz.ntmps86
      go_wp2_with (go_at_call 77; refine (strIs_any _ _).mono ?_; rintro e w' ⟨rfl, hw⟩; subst w'; rw [HT.out])
      go_ret2
      exact ⟨_, ret_two HE.out.symm, HFIN.out (by rw [HE.out]; decide) _, fun _ => rfl, Below.refl _ _⟩
    · by_cases hb3 : 3 < b
      · have HE : Hid (E = 1) := by show _ = _; rw [hE, Se.findErr, if_neg (by simp [hst]), if_neg hb0, if_pos hb3]
        clear hst hE hO hsz hE0
        go_enter Tryz.func86, Tryz.ntmps86
        go_wp2_with (go_at_call 77; refine (strIs_any _ _).mono ?_; rintro e w' ⟨rfl, hw⟩; subst w'; rw [HT.out])
        go_ret2
        exact ⟨_, ret_two HE.out.symm, HFIN.out (by rw [HE.out]; decide) _, fun _ => rfl, Below.refl _ _⟩
      · have hEL : E = Se.lettersErr s.data.toList := by rw [hE, Se.findErr, if_neg (by simp [hst]), if_neg hb0, if_neg hb3]
        by_cases h0 : s.size = 0
        · have HE : Hid (E = 8) := by show _ = _; rw [hEL, Se.lettersErr, hsz, if_pos h0]; split <;> rfl
          have h0' : s.toList.isEmpty = true := by rw [List.isEmpty_iff]; exact hE0.2 h0
          clear hst hE hO hsz hE0 h0 hEL
          go_enter Tryz.func86, Tryz.ntmps86
          go_wp2_with (go_at_call 77; refine (strIs_any _ _).mono ?_; rintro e w' ⟨rfl, hw⟩; subst w'; rw [HT.out])
          go_ret2
          exact ⟨_, ret_two HE.out.symm, HFIN.out (by rw [HE.out]; decide) _, fun _ => rfl, Below.refl _ _⟩
        · have h0' : s.toList.isEmpty = false := by rw [List.isEmpty_eq_false_iff]; exact fun h => h0 (hE0.1 h)
          cases hL : Lt.allL s.data.toList with
          | false =>
            have HE : Hid (E = 8) := by show _ = _; rw [hEL, Se.lettersErr, if_pos hL]
            have HL : Hid _ := hL
            clear hst hE hO hsz hE0 h0 hEL hL
            go_enter Tryz.func86, Tryz.ntmps86
            go_wp2_with (first
              | (go_at_call 77; refine (strIs_any _ _).mono ?_; rintro e w' ⟨rfl, hw⟩; subst w'; rw [HT.out])
              | (go_at_call 98; refine (areLetters_any _ _ hsm).mono ?_; rintro e w' ⟨rfl, hw⟩; subst w'; rw [HL.out]))
            go_ret2
            exact ⟨_, ret_two HE.out.symm, HFIN.out (by rw [HE.out]; decide) _, fun _ => rfl, Below.refl _ _⟩
          | true =>
            have HL : Hid _ := hL
            by_cases h1 : 128 < s.size
            · have HE : Hid (E = 7) := by show _ = _; rw [hEL, Se.lettersErr, if_neg (by simp [hL]), hsz, if_neg h0, if_pos h1]
              have h1' : (128 : Int) < (s.size : Int) := by omega
              clear hst hE hO hsz hE0 h0 hEL hL
              go_enter Tryz.func86, Tryz.ntmps86
              go_wp2_with (first
                | (go_at_call 77; refine (strIs_any _ _).mono ?_; rintro e w' ⟨rfl, hw⟩; subst w'; rw [HT.out])
                | (go_at_call 98; refine (areLetters_any _ _ hsm).mono ?_; rintro e w' ⟨rfl, hw⟩; subst w'; rw [HL.out]))
              go_ret2
              exact ⟨_, ret_two HE.out.symm, HFIN.out (by rw [HE.out]; decide) _, fun _ => rfl, Below.refl _ _⟩
            · have HE : Hid (E = 0) := by show _ = _; rw [hEL, Se.lettersErr, if_neg (by simp [hL]), hsz, if_neg h0, if_neg h1]
              have HO : Hid (O = Se.inAll n b s.data.toList cs cs.length) := by show _ = _; rw [hO, Se.findOut, if_pos (by rw [← hE]; exact HE.out)]
              have h1' : ¬ (128 : Int) < (s.size : Int) := by omega
              have hsl : s.data.toList.length ≤ 1000 := by rw [hsz]; omega
              have HSL : Hid _ := hsl
              obtain ⟨gx, cx, hsel, hcx⟩ : ∃ gx cx, (if Lt.topB n then (Value.slice (some ⟨gt, 0, none⟩) cs.length ct) else .slice (some ⟨gb, 0, none⟩) cs.length cb) = .slice (some ⟨gx, 0, none⟩) cs.length cx ∧ ∀ k (h : k < cs.length), w.cell? ⟨gx, k, none⟩ = some (Ix.str n cs[k]) := by
                cases ht : Lt.topB n with
                | true => exact ⟨gt, ct, rfl, fun k h => by rw [HTOP.out k h, Ix.str_top ht]⟩
                | false => exact ⟨gb, cb, rfl, fun k h => by rw [HBOT.out k h, Ix.str_bot ht hst]⟩
              have HSEL : Hid _ := hsel
              have HCX : Hid _ := hcx
              clear hst hE hO hsz hE0 h0 hEL hL hsl hsel hcx
              go_enter Tryz.func86, Tryz.ntmps86
              go_wp2_with (first
                | (go_at_call 77; refine (strIs_any _ _).mono ?_; rintro e w' ⟨rfl, hw⟩; subst w'; rw [HT.out])
                | (go_at_call 98; refine (areLetters_any _ _ hsm).mono ?_; rintro e w' ⟨rfl, hw⟩; subst w'; rw [HL.out])
                | (go_at_call 150; refine (ixContigs_any n _ bx _ _ _ _ _ _ HX0.out HX1.out).mono ?_; rintro e w' ⟨rfl, hw⟩; subst w'; rw [HSEL.out])
                | (go_at_call 117; refine (ixConvert_any _ _ _ hsm HL.out HT.out).mono ?_; rintro e w1 ⟨rfl, hb1⟩)
                | (go_at_call 149; refine (places_any cs gx cx s.data.toList n b _ HT.out (by omega) (by omega) (by omega) HN.out HSL.out (fun k h => (hb1.cell (p := ⟨gx, k, none⟩) (World.block_lt_of_cell? w _ (HCX.out k h))).trans (HCX.out k h))).mono ?_; rw [← HO.out]; rintro e w2 ⟨v, rfl, ho, hb2⟩))
              go_ret2
              exact ⟨_, ret_two HE.out.symm, own_base ho hb1.size, fun h => absurd HE.out h, hb1.trans (hb2.mono hb1.size)⟩

end Go.Proofs.YtjebhbopmfcopaaGreatDoor

namespace Go.Proofs.YtjebhbopmfcopaaGreatDoor
open Go.RowKit

theorem add_block (ad : Addr) (j : Nat) : (ad.add j).block = ad.block := by unfold Addr.add; split <;> rfl

/-- a reference that lies below block g -/
structure RefAt (X : World) (g : Nat) (v : Value) (cs : List Pr) : Prop where
  ref : RefOk X v cs
  low : 0 < cs.length → ∀ ad l c, v = .slice (some ad) l c → ad.block < g

theorem RefAt.below {X Y : World} {g : Nat} {v : Value} {cs : List Pr} (h : RefAt X g v cs) (hb : Below g X Y) : RefAt Y g v cs := by
  refine ⟨⟨?_, h.ref.len, h.ref.txt⟩, h.low⟩
  rcases h.ref.src with hs | ⟨ad, c, rfl, hs⟩
  · exact .inl hs
  · refine .inr ⟨ad, c, rfl, fun j u hj => ?_⟩
    have hpos : 0 < cs.length := by
      have := (List.getElem?_eq_some_iff.1 hj).1
      rw [Prs_length] at this
      omega
    rw [hb.cell (p := ad.add j) (by rw [add_block]; exact h.low hpos ad _ _ rfl)]
    exact hs j u hj

theorem RefAt.form {X : World} {g : Nat} {v : Value} {cs : List Pr} (h : RefAt X g v cs) : ∃ ao c, v = .slice ao cs.length c := by
  rcases h.ref.src with ⟨rfl, h0, _⟩ | ⟨ad, c, rfl, _⟩
  · exact ⟨none, 0, by rw [h0]⟩
  · exact ⟨some ad, c, rfl⟩

/-- an index of the program, its reference, and what that holds -/
abbrev Px := Value × Value × List Pr
def pxCells (p : Px) : List Value := [p.1, p.2.1]
def Pxs (l : List Px) : List Value := l.flatMap pxCells
theorem Pxs_cons (p : Px) (l : List Px) : Pxs (p :: l) = p.1 :: p.2.1 :: Pxs l := rfl
theorem Pxs_length (l : List Px) : (Pxs l).length = l.length * 2 := by
  induction l with
  | nil => rfl
  | cons a l ih => rw [Pxs_cons, List.length_cons, List.length_cons, ih, List.length_cons]; omega
theorem Pxs_append (l r : List Px) : Pxs (l ++ r) = Pxs l ++ Pxs r := by simp [Pxs]
theorem Pxs_at (l : List Px) (k : Nat) (h : k < l.length) : (Pxs l)[k * 2]? = some l[k].1 ∧ (Pxs l)[k * 2 + 1]? = some l[k].2.1 := by
  induction l generalizing k with
  | nil => simp at h
  | cons a l ih =>
    cases k with
    | zero => simp [Pxs_cons]
    | succ k =>
      have := ih k (by simpa using h)
      rw [Pxs_cons, show (k + 1) * 2 = k * 2 + 1 + 1 by omega]
      simpa using this

/-- each index answers for its reference -/
def PairsOk (X : World) (g : Nat) (ps : List Px) : Prop := ∀ p ∈ ps, IxAt X (g + 1) p.1 p.2.2 ∧ Se.newErr p.2.2 = 0 ∧ RefAt X g p.2.1 p.2.2

theorem IxAt.move {X Z : World} {B : Nat} {p : Value} {cs : List Pr} (h : IxAt X B p cs)
    (hp : ∀ e s v n xs, (e = 122 ∨ e = 9) → (∀ q, v.ownBlock = some q → q < X.heap.size) → X.ownsRow B e s v n xs → Z.ownsRow B e s v n xs) : IxAt Z B p cs := by
  obtain ⟨bx, top, bot, h1, h2, h3, h4⟩ := h
  exact ⟨bx, top, bot, h1, hp _ _ _ _ _ (.inl rfl) (fun q hq => (h2.lt q hq).2) h2, hp _ _ _ _ _ (.inr rfl) (fun q hq => (h3.lt q hq).2) h3, hp _ _ _ _ _ (.inr rfl) (fun q hq => (h4.lt q hq).2) h4⟩

theorem PairsOk.move {X Z : World} {g : Nat} {ps : List Px} (h : PairsOk X g ps)
    (hp : ∀ e s v n xs, (e = 122 ∨ e = 9) → (∀ q, v.ownBlock = some q → q < X.heap.size) → X.ownsRow (g + 1) e s v n xs → Z.ownsRow (g + 1) e s v n xs) (hb : Below g X Z) : PairsOk Z g ps :=
  fun p hm => let ⟨h1, h2, h3⟩ := h p hm; ⟨h1.move hp, h2, h3.below hb⟩

/-- how a script stands behind its first k steps -/
def SI (X : World) (g : Nat) (lv : Value) (k : Nat) : Prop :=
  ∃ (xv vp : Value) (ps : List Px) (es : List Value), X.heap[g]? = some (.cells #[lv, xv, .slice none 0 0, .slice none 0 0, vp, .slice none 0 0] 68 (0, 0)) ∧
    X.ownsRow (g + 1) 115 2 xv ps.length (Pxs ps) ∧ PairsOk X g ps ∧ ShelfP X g vp es ∧ es.length % 4 = 0 ∧ es.length ≤ 4 * k ∧ ps.length ≤ k

theorem si_lt {X : World} {g k : Nat} {lv : Value} (h : SI X g lv k) : g < X.heap.size := by
  obtain ⟨_, _, _, _, hW, _⟩ := h
  exact (Array.getElem?_eq_some_iff.1 hW).1

theorem si_below {X Y : World} {g k : Nat} {lv : Value} (h : SI X g lv k) (hb : Below X.heap.size X Y) : SI Y g lv k ∧ SI Y g lv (k + 1) := by
  have hg := si_lt h
  obtain ⟨xv, vp, ps, es, hW, hx, hok, hs, h1, h2, h3⟩ := h
  have hW' := (hb.block g hg).trans hW
  have hok' := hok.move (fun e s v n xs _ _ ho => own_below ho hb) (hb.mono (Nat.le_of_lt hg))
  exact ⟨⟨xv, vp, ps, es, hW', own_below hx hb, hok', shelfP_below hs hb, h1, h2, h3⟩, ⟨xv, vp, ps, es, hW', own_below hx hb, hok', shelfP_below hs hb, h1, by omega, by omega⟩⟩

/-- one index more -/
theorem si_made {X Y Z : World} {g k : Nat} {lv xv xv' vp p v : Value} {ps : List Px} {es : List Value} {cs : List Pr}
    (hW : X.heap[g]? = some (.cells #[lv, xv, .slice none 0 0, .slice none 0 0, vp, .slice none 0 0] 68 (0, 0))) (hx : X.ownsRow (g + 1) 115 2 xv ps.length (Pxs ps)) (hok : PairsOk X g ps) (hs : ShelfP X g vp es)
    (h1 : es.length % 4 = 0) (h2 : es.length ≤ 4 * k) (h3 : ps.length ≤ k) (hXY : Below X.heap.size X Y) (hI : IxAt Y (g + 1) p cs) (hE : Se.newErr cs = 0) (hR : RefAt X g v cs)
    (hZ : Z.ownsRow (g + 1) 115 2 xv' (ps.length + 1) (Pxs ps ++ [p, v])) (hb : Below (g + 1) Y Z) (hk : ∀ q, q < Y.heap.size → some q ≠ xv.ownBlock → Z.heap[q]? = Y.heap[q]?) :
    SI (Z.setCell ⟨g, 1, none⟩ xv') g lv (k + 1) := by
  have hg : g < X.heap.size := (Array.getElem?_eq_some_iff.1 hW).1
  have hWY := (hXY.block g hg).trans hW
  have hxY := own_below hx hXY
  have hsY := shelfP_below hs hXY
  have hokY := hok.move (fun e s v n xs _ _ ho => own_below ho hXY) (hXY.mono (Nat.le_of_lt hg))
  have hWZ := (hb.block g (by omega)).trans hWY
  have hne1 : 122 ≠ 115 := by decide
  have hne2 : 9 ≠ 115 := by decide
  have hpz : ∀ e s v n xs, e ≠ 115 → Y.ownsRow (g + 1) e s v n xs → (Z.setCell ⟨g, 1, none⟩ xv').ownsRow (g + 1) e s v n xs := fun e s v n xs he ho =>
    ownsRow_setCell_below (own_keep ho hxY he hk) (a := ⟨g, 1, none⟩) (by simp) xv'
  have hpz2 : ∀ e s v n xs, (e = 122 ∨ e = 9) → (∀ q, v.ownBlock = some q → q < Y.heap.size) → Y.ownsRow (g + 1) e s v n xs → (Z.setCell ⟨g, 1, none⟩ xv').ownsRow (g + 1) e s v n xs := fun e s v n xs he _ ho =>
    hpz e s v n xs (by rcases he with rfl | rfl; exact hne1; exact hne2) ho
  have hbZ : Below g Y (Z.setCell ⟨g, 1, none⟩ xv') := (hb.mono (Nat.le_succ g)).setCell (p := ⟨g, 1, none⟩) (Nat.le_refl _) xv'
  refine ⟨xv', vp, ps ++ [(p, v, cs)], es, heap_setCell_same Z g 1 _ _ xv' hWZ, ?_, ?_, ⟨hpz _ _ _ _ _ (by decide) hsY.list, fun i hi => ?_, hsY.len⟩, h1, by omega, by rw [List.length_append]; simp only [List.length_cons, List.length_nil]; omega⟩
  · rw [List.length_append, Pxs_append]
    exact ownsRow_setCell_below hZ (a := ⟨g, 1, none⟩) (by simp) xv'
  · intro q hq
    rcases List.mem_append.1 hq with hq | hq
    · exact hokY.move hpz2 hbZ q hq
    · obtain rfl := List.mem_singleton.1 hq
      exact ⟨hI.move hpz2, hE, (hR.below (hXY.mono (Nat.le_of_lt hg))).below hbZ⟩
  · obtain ⟨n, hn, ho⟩ := hsY.ent i hi
    exact ⟨n, hn, hpz _ _ _ _ _ (by decide) ho⟩

/-- the lists of a Find, in the book -/
theorem si_found {X Y Z : World} {g n k B : Nat} {lv xv vp v' x0 x1 x2 x3 : Value} {ps : List Px} {es : List Value}
    (hW : X.heap[g]? = some (.cells #[lv, xv, .slice none 0 0, .slice none 0 0, vp, .slice none 0 0] 68 (0, 0))) (hx : X.ownsRow (g + 1) 115 2 xv ps.length (Pxs ps)) (hok : PairsOk X g ps) (hs : ShelfP X g vp es)
    (h4 : es.length % 4 = 0) (h2 : es.length ≤ 4 * k) (h3 : ps.length ≤ k) (hk : 4 * k + 4 ≤ 7000000000000) (hn : n ≤ 90000) (hXY : Below X.heap.size X Y) (hB : X.heap.size ≤ B)
    (hZ : Z.heap[g]? = some (.cells #[lv, xv, .slice none 0 0, .slice none 0 0, v', .slice none 0 0] 68 (0, 0))) (hl : Z.ownsRow (g + 1) 119 1 v' (es.length + 4) (es ++ [x0, x1, x2, x3]))
    (m0 : Z.ownsRow (g + 1) 78 2 x0 n (reps (mp es.length) (.int .i64 0) n)) (m1 : Z.ownsRow (g + 1) 78 2 x1 (n + 1) (reps (mp es.length) (.int .i64 0) (n + 1)))
    (m2 : Z.ownsRow (g + 1) 78 2 x2 (n + 2) (reps (mp es.length) (.int .i64 0) (n + 2))) (m3 : Z.ownsRow (g + 1) 78 2 x3 (n + 3) (reps (mp es.length) (.int .i64 0) (n + 3)))
    (hb : Below g Y Z) (hp : ∀ e s v n xs, e ≠ 119 → (∀ q, v.ownBlock = some q → q < B) → Y.ownsRow (g + 1) e s v n xs → Z.ownsRow (g + 1) e s v n xs) : SI Z g lv (k + 1) := by
  have hg : g < X.heap.size := (Array.getElem?_eq_some_iff.1 hW).1
  have hne1 : 122 ≠ 119 := by decide
  have hne2 : 9 ≠ 119 := by decide
  have hpX : ∀ e s v n xs, e ≠ 119 → X.ownsRow (g + 1) e s v n xs → Z.ownsRow (g + 1) e s v n xs := fun e s v n xs he ho =>
    hp e s v n xs he (fun q hq => by have := (ho.lt q hq).2; omega) (own_below ho hXY)
  refine ⟨xv, v', ps, es ++ [x0, x1, x2, x3], hZ, hpX _ _ _ _ _ (by decide) hx, ?_, ⟨by rw [List.length_append]; exact hl, ?_, by simp; omega⟩, by simp; omega, by simp; omega, by omega⟩
  · exact hok.move (fun e s v n xs he _ ho => hpX e s v n xs (by rcases he with rfl | rfl; exact hne1; exact hne2) ho) ((hXY.mono (Nat.le_of_lt hg)).trans hb)
  · intro i hi
    rw [List.length_append] at hi
    simp only [List.length_cons, List.length_nil] at hi
    by_cases hic : i < es.length
    · obtain ⟨m, hm, ho⟩ := hs.ent i hic
      rw [List.getElem_append_left hic]
      exact ⟨m, hm, hpX _ _ _ _ _ (by decide) ho⟩
    · obtain ⟨j, rfl⟩ : ∃ j, i = es.length + j := ⟨i - es.length, by omega⟩
      rw [mp_same _ _ h4 (by omega), List.getElem_append_right (by omega)]
      have hj : j = 0 ∨ j = 1 ∨ j = 2 ∨ j = 3 := by omega
      rcases hj with rfl | rfl | rfl | rfl
      · exact ⟨n, by omega, by simpa using m0⟩
      · exact ⟨n + 1, by omega, by simpa using m1⟩
      · exact ⟨n + 2, by omega, by simpa using m2⟩
      · exact ⟨n + 3, by omega, by simpa using m3⟩

end Go.Proofs.YtjebhbopmfcopaaGreatDoor

namespace Go.Proofs.YtjebhbopmfcopaaGreatDoor
open Go.RowKit

theorem lentC_block {X w1 : World} {cs : List Pr} {lv v : Value} (hl : LentC X w1 cs lv v) : X.heap.size ≤ w1.heap.size ∧ Below X.heap.size X w1 ∧ ∀ q, v.ownBlock = some q → q = X.heap.size ∧ X.heap.size < w1.heap.size := by
  rcases hl with ⟨_, _, rfl, rfl⟩ | ⟨ad, cc, _, rfl, ho, hb, hlt⟩
  · exact ⟨Nat.le_refl _, Below.refl _ _, fun q hq => by cases hq⟩
  · exact ⟨by omega, hb, fun q hq => by cases hq; exact ⟨rfl, hlt⟩⟩

theorem lentC_form {X w1 : World} {cs : List Pr} {lv v : Value} (hl : LentC X w1 cs lv v) : ∃ ao n c, v = .slice ao n c := by
  rcases hl with ⟨_, _, rfl, rfl⟩ | ⟨ad, cc, _, rfl, ho, hb, hlt⟩
  · exact ⟨_, _, _, rfl⟩
  · exact ⟨_, _, _, rfl⟩

theorem lentC_new {X w1 : World} {cs : List Pr} {lv v : Value} (hl : LentC X w1 cs lv v) (hr : RefOk X lv cs) :
    Calls Tryz.prog 26 #[v] w1 fun e w' => ∃ p, e = .returned (.tuple #[p, .int .i64 (Se.newErr cs)]) ∧ Below w1.heap.size w1 w' ∧ ((Se.newErr cs ≠ 0 ∧ p = .pointer none) ∨ (Se.newErr cs = 0 ∧ IxAt w' w1.heap.size p cs)) := by
  have hlen := hr.len
  rcases hl with ⟨_, rfl, rfl, rfl⟩ | ⟨ad, cc, _, rfl, ho, hb, hlt⟩
  · refine (ixNew_nil _).mono ?_
    rintro e w' ⟨rfl, rfl⟩
    exact ⟨_, rfl, Below.refl _ _, .inl ⟨by decide, rfl⟩⟩
  · refine ixNew_any cs X.heap.size (cs.length + 8) w1 (by omega) (fun x hx => by have := (hr.txt x hx).2; omega) (fun k hk => ?_)
    have := own_pair ho k (by rw [lentC_length]; omega)
    rw [lentC_low cs k hk] at this
    exact this

theorem refNew_any {w : World} {cs : List Pr} {lv : Value} (hr : RefOk w lv cs) :
    Calls Tryz.prog 112 #[lv] w fun e w' => e = .returned (.int .i64 (Se.newErr cs)) ∧ w' = w := by
  have hlen := hr.len
  by_cases h0 : cs.length = 0
  · obtain rfl : cs = [] := List.eq_nil_of_length_eq_zero h0
    rcases hr.src with ⟨rfl, _, _⟩ | ⟨ad, c, rfl, _⟩
    · exact refNew_nil w 0 none
    · exact refNew_nil w c (some ad)
  · rcases hr.src with ⟨rfl, h1, _⟩ | ⟨ad, c, rfl, hs⟩
    · exact absurd h1 h0
    · exact refNew_row cs ad c w (by omega) (fun x hx => by have := (hr.txt x hx).2; omega) hs (by omega)

theorem lentC_whole {X w1 w3 : World} {cs : List Pr} {lv v : Value} (hl : LentC X w1 cs lv v) (hr : RefOk X lv cs) (hb : Below w1.heap.size w1 w3) :
    Calls Tryz.prog 113 #[v, lv] w3 fun e w' => e = .returned (.bool true) ∧ w3.grownBy w' v.ownBlock := by
  rcases hl with ⟨rfl, _, rfl, _⟩ | ⟨ad, cc, rfl, rfl, ho, hb1, hlt⟩
  · refine (wholeContigs_nil _ w3).mono ?_
    rintro e w' ⟨rfl, rfl⟩
    exact ⟨rfl, World.grownBy.refl _ _⟩
  · rcases hr.src with ⟨h, _⟩ | ⟨ad', c', hv, hs⟩
    · simp at h
    · simp only [Value.slice.injEq, Option.some.injEq, true_and] at hv
      obtain ⟨rfl, rfl⟩ := hv
      refine wholeContigs_row cs X.heap.size cc ad w3 hr.len (src_keep (src_keep hs hb1) hb) (fun hp he => ?_) (own_below ho hb)
      have := World.block_lt_of_cell? X _ (src_first hs 0 hp)
      rw [add_block, he] at this
      omega


theorem Tryz.infoPair : (Tryz.prog.info? 115).map (fun i => (i.zero, i.size, i.bytes)) = some (some (.agg #[.pointer none, .slice none 0 0]), 2, 32) := by kernel_rfl

set_option maxRecDepth 100000 in
set_option maxHeartbeats 800000 in
theorem made_any (X : World) (g : Nat) (lv v : Value) (cs : List Pr) (k : Nat) (hI : SI X g lv k) (hR : RefAt X g v cs) (hk : (k + 1) * 32 ≤ 140737488355328) :
    Calls Tryz.prog 53 #[.pointer (some ⟨g, 0, none⟩), v] X fun e X' => e = .returned (.bool true) ∧ SI X' g lv (k + 1) ∧ Below g X X' := by
  have hgX := si_lt hI
  have HI : Hid _ := hI
  have HR : Hid _ := hR
  obtain ⟨E, hE⟩ : ∃ E, E = Se.newErr cs := ⟨_, rfl⟩
  have HE : Hid _ := hE
  obtain ⟨va, vc, hvf⟩ := hR.form
  subst hvf
  clear hI hR hE
  go_enter Tryz.func53, Tryz.ntmps53
  go_wp2_with fail
  refine (lentContigs_any cs _ _ HR.out.ref).mono ?_
  rintro e w1 ⟨v1, rfl, hl⟩
  have HL : Hid _ := hl
  clear hl
  go_wp2_with fail
  refine (lentC_new HL.out HR.out.ref).mono ?_
  rw [← HE.out]
  rintro e w2 ⟨p, rfl, hb2, hp⟩
  obtain ⟨hs1, hb1, hq1⟩ := lentC_block HL.out
  have HB1 : Hid _ := hb1
  have HB2 : Hid _ := hb2
  have hbX2 := hb1.trans (hb2.mono hs1)
  have HBX2 : Hid _ := hbX2
  have HR2 : Hid _ := HR.out.below (hbX2.mono (Nat.le_of_lt hgX))
  have HP : Hid _ := hp
  clear hb1 hb2 hbX2 hp
  go_wp2_with fail
  refine (refNew_any HR2.out.ref).mono ?_
  rw [← HE.out]
  rintro e w3 ⟨rfl, hw3⟩
  subst w3
  go_wp2_with fail
  refine (lentC_whole HL.out HR.out.ref HB2.out).mono ?_
  rintro e w4 ⟨rfl, hg4⟩
  have hbX4 : Below X.heap.size X w4 := HBX2.out.grown hg4 HBX2.out.size (fun q hq => by have := hq1 q hq; omega)
  have HBX4 : Hid _ := hbX4
  have HG4 : Hid _ := hg4
  have hsz4 := hbX4.size
  clear hbX4 hg4
  by_cases h0 : E = 0
  · have hix : IxAt w2 w1.heap.size p cs := by
      rcases HP.out with ⟨h1, _⟩ | ⟨_, h2⟩
      · exact absurd h0 h1
      · exact h2
    have hix4 : IxAt w4 (g + 1) p cs := by
      obtain ⟨bx, top, bot, h1, h2, h3, h4⟩ := hix
      have hm : ∀ e s u n xs, w2.ownsRow w1.heap.size e s u n xs → w4.ownsRow (g + 1) e s u n xs := fun e s u n xs ho =>
        own_base (ho.kept HG4.out (by
          cases hq : u.ownBlock with
          | none => exact .inl rfl
          | some q =>
            right
            intro hh
            have h1 := (ho.lt q hq).1
            have h2 := hq1 q hh.symm
            omega)) (by omega)
      exact ⟨bx, top, bot, h1, hm _ _ _ _ _ h2, hm _ _ _ _ _ h3, hm _ _ _ _ _ h4⟩
    have HIX : Hid _ := hix4
    obtain ⟨bx, hpx⟩ : ∃ bx, p = .pointer (some ⟨bx, 0, none⟩) := by obtain ⟨bx, _, _, h1, _⟩ := hix; exact ⟨bx, h1⟩
    subst hpx
    obtain ⟨xv, vp, ps, es, hW, hx, hok, hsh, e4, e5, e6⟩ := HI.out
    obtain ⟨xa, xc, hxf⟩ := own_form hx
    subst hxf
    have hW4 := (HBX4.out.block g hgX).trans hW
    have c1 : w4.cell? ⟨g, 1, none⟩ = some (.slice xa ps.length xc) := cell_of_row w4 g 1 _ _ _ hW4
    have hg4 : g < w4.heap.size := by omega
    have HX4 : Hid _ := own_below hx HBX4.out
    have HSI : Hid _ := fun Z xv' a b c => @si_made X w4 Z g k lv (.slice xa ps.length xc) xv' vp (.pointer (some ⟨bx, 0, none⟩)) (.slice va cs.length vc) ps es cs hW hx hok hsh e4 e5 e6 HBX4.out HIX.out (by rw [← HE.out]; exact h0) HR.out a b c
    have HW4 : Hid _ := hW4
    have HE0 : Hid _ := h0
    clear hix hix4 hW hx hok hsh hW4 HP HI HR2 h0
    rw [HE0.out]
    go_wp2_with (at_builtin; refine app_src (W := w4) rfl _ _ 61 rfl (g + 1) 115 _ 2 32 Tryz.underlying61 Tryz.infoPair rfl (by decide) (.slice xa ps.length xc) ps.length (Pxs ps) (.slice (some ⟨w4.heap.size, 0, none⟩) 1 1) 1 [.pointer (some ⟨bx, 0, none⟩), .slice va cs.length vc] rfl rfl (by exact World.ownsRow.alloc HX4.out _) (.inr ⟨_, _, rfl, by exact two_cells _ _ _ _⟩) rfl (by simp [Value.oneCell']) (by exact (Below.refl (g + 1) w4).alloc (by omega) _) (by simp; omega) (by omega) (by decide) ?_; intro xv' w6 hown6 hbel6 hsz6 hkeep6; obtain ⟨ya, yc, hyf⟩ := own_form hown6; subst hyf; have hw6 := (hbel6.block g (by omega)).trans HW4.out; have cw6 : w6.cell? ⟨g, 1, none⟩ = some (.slice xa ps.length xc) := cell_of_row w6 g 1 _ _ _ hw6; have fw6 : w6.frozen? ⟨g, 1, none⟩ = false := frozen_of_row w6 g 1 _ _ hw6; have HF : Hid _ := HSI.out w6 _ hown6 hbel6 (fun q hq hn => (hkeep6 q (by simp; omega) hn).trans (Below.heap_alloc _ _ _ hq)); have HBF : Hid _ := hbel6; clear hw6 hown6 hbel6 hsz6 hkeep6 HSI)
    go_ret
    exact ⟨rfl, HF.out, ((HBX4.out.mono (Nat.le_of_lt hgX)).trans (HBF.out.mono (Nat.le_succ g))).setCell (p := ⟨g, 1, none⟩) (Nat.le_refl _) _⟩
  · have hpn : p = .pointer none := by
      rcases HP.out with ⟨_, h2⟩ | ⟨h1, _⟩
      · exact h2
      · exact absurd h1 h0
    subst hpn
    have h0' : (E == 0) = false := by rw [beq_eq_false_iff_ne]; exact h0
    have HF : Hid _ := (si_below HI.out HBX4.out).2
    clear HP
    go_wp2
    go_ret
    exact ⟨rfl, HF.out, HBX4.out.mono (Nat.le_of_lt hgX)⟩

end Go.Proofs.YtjebhbopmfcopaaGreatDoor

namespace Go.Proofs.YtjebhbopmfcopaaGreatDoor
open Go.RowKit

theorem eq_place (a b : Int) (w : World) : (Op.equalIn 10000 78 (.agg #[.int .i64 a, .int .i64 b]) (.agg #[.int .i64 a, .int .i64 b])).run Tryz.prog w = .ok true w := by
  simp [go_sem, Tryz.underlying78, Tryz.underlying3]
theorem eql_place (a b : Int) (w : World) : (binOp .eql 78 (.agg #[.int .i64 a, .int .i64 b]) (.agg #[.int .i64 a, .int .i64 b])).run Tryz.prog w = .ok (.bool true) w := by
  rw [run_eql_struct, eq_place]; rfl

theorem pls_at (l : List (Nat × Nat)) (k : Nat) (h : k < l.length) : (Se.pls l)[k * 2]? = some (.int .i64 (l[k].1 : Int)) ∧ (Se.pls l)[k * 2 + 1]? = some (.int .i64 (l[k].2 : Int)) := by
  induction l generalizing k with
  | nil => simp at h
  | cons a l ih =>
    have e : Se.pls (a :: l) = .int .i64 (a.1 : Int) :: .int .i64 (a.2 : Int) :: Se.pls l := rfl
    cases k with
    | zero => rw [e]; simp
    | succ k =>
      have := ih k (by simpa using h)
      rw [e, show (k + 1) * 2 = k * 2 + 1 + 1 by omega]
      simpa using this

theorem own_place {w : World} {base e n cap g : Nat} {l : List (Nat × Nat)} (h : w.ownsRow base e 2 (.slice (some ⟨g, 0, none⟩) n cap) n (Se.pls l)) (k : Nat) (hk : k < l.length) :
    w.cell? ⟨g, k * 2, none⟩ = some (.int .i64 (l[k].1 : Int)) ∧ w.cell? ⟨g, k * 2 + 1, none⟩ = some (.int .i64 (l[k].2 : Int)) := by
  have hl : l.length * 2 = n * 2 := by have := h.1; rw [Se.pls_length] at this; exact this
  obtain ⟨p0, p1⟩ := pls_at l k hk
  exact ⟨(h.cellAt (k * 2) (by omega)).trans p0, (h.cellAt (k * 2 + 1) (by omega)).trans p1⟩

theorem Se.findOut_length {cs : List Pr} (h : Se.Right cs) (n b : Int) (S : List UInt8) : (Se.findOut n b S cs).length ≤ 90000 := by
  unfold Se.findOut
  split
  · have h1 := Se.inAll_length n b S cs 4096 h.len cs.length
    have h2 := h.few
    have h3 : cs.length * (4096 + 1) ≤ 16 * (4096 + 1) := Nat.mul_le_mul_right _ h2
    omega
  · simp

set_option maxRecDepth 100000 in
set_option maxHeartbeats 1600000 in
theorem found_any (X : World) (g : Nat) (lv : Value) (k : Nat) (xv vp : Value) (ps : List Px) (es : List Value) (px : Px) (hpx : px ∈ ps) (o0 a n b : Int) (s t : ByteArray) (la : Option Addr) (ln lc : Nat)
    (hW : X.heap[g]? = some (.cells #[lv, xv, .slice none 0 0, .slice none 0 0, vp, .slice none 0 0] 68 (0, 0))) (hx : X.ownsRow (g + 1) 115 2 xv ps.length (Pxs ps)) (hok : PairsOk X g ps) (hsh : ShelfP X g vp es)
    (h4 : es.length % 4 = 0) (h2 : es.length ≤ 4 * k) (h3 : ps.length ≤ k) (hk : 4 * k + 4 ≤ 7000000000000) (hs : s.size ≤ 140737488351232) :
    Calls Tryz.prog 55 #[.pointer (some ⟨g, 0, none⟩), .agg #[px.1, px.2.1], .agg #[.int .i64 o0, .int .i64 a, .int .i64 n, .int .i64 b, .string s, .string t, .slice la ln lc]] X fun e X' => e = .returned (.bool true) ∧ SI X' g lv (k + 1) ∧ Below g X X' := by
  have hgX : g < X.heap.size := (Array.getElem?_eq_some_iff.1 hW).1
  obtain ⟨hix, hne, hra⟩ := hok px hpx
  obtain ⟨p, v, cs⟩ := px
  have hright := Se.right_of cs hne
  obtain ⟨bx, hbx⟩ : ∃ bx, p = .pointer (some ⟨bx, 0, none⟩) := by obtain ⟨bx, _, _, h1, _⟩ := hix; exact ⟨bx, h1⟩
  obtain ⟨ad, cc, hv, hsrc⟩ : ∃ ad cc, v = .slice (some ad) cs.length cc ∧ ∀ j u, (Prs cs)[j]? = some u → X.cell? (ad.add j) = some u := by
    have hsr : Src X v cs.length (Prs cs) := hra.ref.src
    rcases hsr with ⟨_, h0, _⟩ | ⟨ad, c, hv, hs⟩
    · have := hright.pos
      omega
    · exact ⟨ad, c, hv, hs⟩
  have hix' : IxAt X (g + 1) p cs := hix
  subst hbx hv
  have HIX : Hid _ := hix'
  have HSRC : Hid _ := hsrc
  have HRT : Hid _ := hright
  have HSI : Hid _ := fun Y Z B m v' x0 x1 x2 x3 hm hXY hB c1 c2 c3 c4 c5 c6 c7 c8 => @si_found X Y Z g m k B lv xv vp v' x0 x1 x2 x3 ps es hW hx hok hsh h4 h2 h3 hk hm hXY hB c1 c2 c3 c4 c5 c6 c7 c8
  have HW : Hid _ := hW
  have HSH : Hid _ := hsh
  obtain ⟨E, hE⟩ : ∃ E, E = Se.findErr n b s.data.toList := ⟨_, rfl⟩
  obtain ⟨O, hO⟩ : ∃ O, O = Se.findOut n b s.data.toList cs := ⟨_, rfl⟩
  have hOl : O.length ≤ 90000 := by rw [hO]; exact Se.findOut_length hright _ _ _
  have HE : Hid _ := hE
  have HO : Hid _ := hO
  have heq := eql_place
  have hnil := fun (wy : World) (a : Option Addr) (l c : Nat) => Lib.run_eql_slice_nil (P := Tryz.prog) wy 119 78 a l c 0 0 Tryz.underlying119
  clear hix hix' hne hra hright hsrc hx hok hsh hW hE hO hpx
  go_enter Tryz.func55, Tryz.ntmps55
  go_wp2_with fail
  have hbA : Below X.heap.size X ((X.alloc (Obj.cells #[Value.pointer (some { block := bx, off := 0 }), Value.slice (some ad) cs.length cc] 115)).alloc (Obj.cells #[Value.int IntKind.i64 o0, Value.int IntKind.i64 a, Value.int IntKind.i64 n, Value.int IntKind.i64 b, Value.string s, Value.string t, Value.slice la ln lc] 70)) :=
    ((Below.refl _ _).alloc (Nat.le_refl _) _).alloc (by simp) _
  have e1 : ((X.alloc (Obj.cells #[Value.pointer (some { block := bx, off := 0 }), Value.slice (some ad) cs.length cc] 115)).alloc (Obj.cells #[Value.int IntKind.i64 o0, Value.int IntKind.i64 a, Value.int IntKind.i64 n, Value.int IntKind.i64 b, Value.string s, Value.string t, Value.slice la ln lc] 70)).heap[X.heap.size]? = some (Obj.cells #[Value.pointer (some { block := bx, off := 0 }), Value.slice (some ad) cs.length cc] 115) :=
    (Below.heap_alloc _ _ _ (by simp)).trans (heap_alloc_new X _)
  have e2 : ((X.alloc (Obj.cells #[Value.pointer (some { block := bx, off := 0 }), Value.slice (some ad) cs.length cc] 115)).alloc (Obj.cells #[Value.int IntKind.i64 o0, Value.int IntKind.i64 a, Value.int IntKind.i64 n, Value.int IntKind.i64 b, Value.string s, Value.string t, Value.slice la ln lc] 70)).heap[X.heap.size + 1]? = some (Obj.cells #[Value.int IntKind.i64 o0, Value.int IntKind.i64 a, Value.int IntKind.i64 n, Value.int IntKind.i64 b, Value.string s, Value.string t, Value.slice la ln lc] 70) := by
    have := heap_alloc_new (X.alloc (Obj.cells #[Value.pointer (some { block := bx, off := 0 }), Value.slice (some ad) cs.length cc] 115)) (Obj.cells #[Value.int IntKind.i64 o0, Value.int IntKind.i64 a, Value.int IntKind.i64 n, Value.int IntKind.i64 b, Value.string s, Value.string t, Value.slice la ln lc] 70)
    rw [World.size_alloc] at this
    exact this
  have esz : X.heap.size + 2 = ((X.alloc (Obj.cells #[Value.pointer (some { block := bx, off := 0 }), Value.slice (some ad) cs.length cc] 115)).alloc (Obj.cells #[Value.int IntKind.i64 o0, Value.int IntKind.i64 a, Value.int IntKind.i64 n, Value.int IntKind.i64 b, Value.string s, Value.string t, Value.slice la ln lc] 70)).heap.size := by simp
  generalize ((X.alloc (Obj.cells #[Value.pointer (some { block := bx, off := 0 }), Value.slice (some ad) cs.length cc] 115)).alloc (Obj.cells #[Value.int IntKind.i64 o0, Value.int IntKind.i64 a, Value.int IntKind.i64 n, Value.int IntKind.i64 b, Value.string s, Value.string t, Value.slice la ln lc] 70)) = W2 at *
  have HBA : Hid _ := hbA
  have HE1 : Hid _ := e1
  have HE2 : Hid _ := e2
  clear hbA e1 e2
  refine (ixFind_any cs (g + 1) _ s n b _ (IxAt.below HIX.out HBA.out) HRT.out (by omega)).mono ?_
  rw [← HE.out, ← HO.out]
  rintro e w3 ⟨v1, rfl, ho1, hz1, hb3⟩
  obtain ⟨a1, cp1, hv1⟩ := own_form ho1
  subst hv1
  have HO1 : Hid _ := ho1
  have HB3 : Hid _ := hb3
  have hs3 := hb3.size
  have b1 := (hb3.block X.heap.size (by omega)).trans HE1.out
  have b2 := (hb3.block (X.heap.size + 1) (by omega)).trans HE2.out
  have k1 : w3.cell? ⟨X.heap.size, 1, none⟩ = some (.slice (some ad) cs.length cc) := cell_of_row w3 _ 1 _ _ _ b1
  have j2 : w3.cell? ⟨X.heap.size + 1, 2, none⟩ = some (.int .i64 n) := cell_of_row w3 _ 2 _ _ _ b2
  have j3 : w3.cell? ⟨X.heap.size + 1, 3, none⟩ = some (.int .i64 b) := cell_of_row w3 _ 3 _ _ _ b2
  have j4 : w3.cell? ⟨X.heap.size + 1, 4, none⟩ = some (.string s) := cell_of_row w3 _ 4 _ _ _ b2
  have HX3 : Hid _ := HBA.out.trans (hb3.mono (by omega))
  clear ho1 hb3 b1 b2
  go_wp2_with fail
  refine (refFind_any cs ad cc s n b _ (by have := HRT.out.few; omega) (fun x hx => by have := HRT.out.len x hx; omega) (by omega) (src_keep HSRC.out HX3.out) HRT.out.pos).mono ?_
  rw [← HE.out, ← HO.out]
  rintro e w4 ⟨v2, rfl, ho2, hb4⟩
  obtain ⟨a2, cp2, hv2⟩ := own_form ho2
  subst hv2
  have HO24 : Hid _ := ho2
  have HO14 : Hid _ := own_below HO1.out hb4
  have HX4 : Hid _ := HX3.out.trans (hb4.mono HX3.out.size)
  have hs4 := hb4.size
  clear ho2 hb4 k1 j2 j3 j4 HO1
  obtain ⟨m, hm⟩ : ∃ m, m = O.length := ⟨_, rfl⟩
  rw [← hm] at hOl ⊢
  have HN : Hid _ := hm
  have hcase : a1 = none ∨ (E = 0 ∧ ∃ b1, a1 = some b1) := by
    cases a1 with
    | none => exact .inl rfl
    | some b1 =>
      refine .inr ⟨?_, b1, rfl⟩
      by_cases h0 : E = 0
      · exact h0
      · have := hz1 h0
        simp at this
  clear hz1 hm
  rcases hcase with rfl | ⟨hE, b1, rfl⟩
  all_goals
    go_wp2
    clear hnil
    go_loopw [11, 12] (fun ok i wr => ∃ q : Nat, q ≤ m ∧ ok = .bool true ∧ i = .int .i64 (q : Int) ∧ Below w4.heap.size w4 wr) (fun _ i _ => m - (intOf i).toNat)
    case atStart => exact ⟨0, Nat.zero_le _, rfl, rfl, Below.refl _ _⟩
    case round =>
      obtain ⟨q, hq, rfl, rfl, hbr⟩ := hrel
      have HBR : Hid _ := hbr
      clear hbr
      by_cases hlt : q < m
      · have hO1 := own_below HO14.out HBR.out
        have hO2 := own_below HO24.out HBR.out
        rw [← HN.out] at hO1 hO2
        obtain ⟨c1, d1, hv1, _, _⟩ := own_pos hO1 (by omega)
        obtain ⟨c2, d2, hv2, _, _⟩ := own_pos hO2 (by omega)
        simp only [Value.slice.injEq, true_and, reduceCtorEq, false_and, Option.some.injEq] at hv1 hv2
        all_goals
          obtain ⟨hv1, rfl⟩ := hv1
          obtain ⟨hv2, rfl⟩ := hv2
          subst hv1 hv2
          obtain ⟨p0, p1⟩ := own_place hO1 q (by rw [← HN.out]; exact hlt)
          obtain ⟨r0, r1⟩ := own_place hO2 q (by rw [← HN.out]; exact hlt)
          clear hO1 hO2
          have hlt' : decide ((q : Int) < (m : Int)) = true := by simp; omega
          have hlt2 : (q : Int) < (m : Int) := by omega
          go_wp2_with fail
          go_quiet (fail)
          go_wp2
          go_roundw
          case rel => exact ⟨q + 1, by omega, rfl, by go_num, below_drewN HBR.out _⟩
          case measure => simp [intOf]; omega
      · have hlt' : decide ((q : Int) < (m : Int)) = false := by simp; omega
        go_wp2_with fail
        have hX := HX4.out.trans (HBR.out.mono HX4.out.size)
        have hO1 := own_below HO14.out HBR.out
        have hsc' := shelfP_below HSH.out hX
        have hW' := (hX.block g hgX).trans HW.out
        rw [HN.out]
        refine (keepsPlaces_any _ g lv xv vp (.slice none 0 0) (.slice none 0 0) (.slice none 0 0) es _ O _ hW' hsc'.list (by omega) hO1 (by omega) (by rw [← HN.out]; exact hOl)).mono ?_
        rintro e w6 ⟨rfl, vc', x1, x2, x3, hW6, hl6, m0, m1, m2, m3, hb6, hpres⟩
        go_wp2
        go_ret
        exact ⟨rfl, HSI.out _ _ _ _ _ _ _ _ _ (by rw [← HN.out]; exact hOl) hX (by omega) hW6 hl6 m0 m1 m2 m3 hb6 hpres, (hX.mono (by omega)).trans hb6⟩

end Go.Proofs.YtjebhbopmfcopaaGreatDoor
