/-
  THE WALK of 'keepsPlaces': a list that came out is marked, appended to thrice, and written into the book. Own text of the verifier.
  THE WALK of 'looks', at a book of places alone. Own text of the verifier.
  PLAIN MATHEMATICS of the program's search: letters that are bleached already, held against each other. Own text of the verifier.
  THE WALKS of the program's search: stands, places, the strand's contigs, convert, Find. Own text of the verifier.
  THE WALKS of the program's places and Find. Own text of the verifier.
  THE WALK of the program's Find. Own text of the verifier.
-/
import Derived.Test.YtjebhbopmfcopaaBun6
import Derived.Test.YtjebhbopmfcopaaBun7
import Derived.Test.YtjebhbopmfcopaaBun3
import Derived.Test.YtjebhbopmfcopaaBun2
import Derived.BigQuiet
namespace Go.Proofs.Ytjebhbopmfcopaa
open Go.RowKit

theorem Try.infoPls : (Try.prog.info? 52).map (fun i => (i.zero, i.size, i.bytes)) = some (some (.slice none 0 0), 1, 24) := by kernel_rfl

/-- the mark of the n-th list of places -/
def mp (n : Nat) : Value := .int .i64 (-1 - ((n / 4 : Nat) : Int))
theorem mp_one (n : Nat) : (mp n).oneCell' = true := rfl
theorem mp_same (n i : Nat) (h : n % 4 = 0) (hi : i < 4) : mp (n + i) = mp n := by
  unfold mp
  rw [show (n + i) / 4 = n / 4 by omega]

/-- the first k of a list's elements marked -/
def mixp (M : Value) (out : List (Nat × Nat)) (k : Nat) : List Value := reps M (.int .i64 0) k ++ (Se.pls out).drop (k * 2)
theorem mixp_zero (M : Value) (out : List (Nat × Nat)) : mixp M out 0 = Se.pls out := by simp [mixp, reps]
theorem mixp_whole (M : Value) (out : List (Nat × Nat)) (k : Nat) (h : out.length ≤ k) : mixp M out k = reps M (.int .i64 0) k := by
  rw [mixp, List.drop_of_length_le (by rw [Se.pls_length]; omega), List.append_nil]
theorem mixp_length (M : Value) (out : List (Nat × Nat)) (k : Nat) (h : k ≤ out.length) : (mixp M out k).length = out.length * 2 := by
  rw [mixp, List.length_append, reps_length, List.length_drop, Se.pls_length]; omega
theorem mixp_set (M : Value) (out : List (Nat × Nat)) (k : Nat) (h : k < out.length) : ((mixp M out k).set (k * 2) M).set (k * 2 + 1) (.int .i64 0) = mixp M out (k + 1) := by
  have hl := reps_length M (.int .i64 0) k
  have hp := Se.pls_length out
  rw [mixp, mixp, reps_succ, List.set_append, if_neg (by omega), hl, Nat.sub_self, List.set_append, if_neg (by omega), hl, show k * 2 + 1 - k * 2 = 1 by omega, List.append_assoc]
  congr 1
  rw [List.drop_eq_getElem_cons (i := k * 2) (by omega), List.drop_eq_getElem_cons (i := k * 2 + 1) (by omega), show k * 2 + 1 + 1 = (k + 1) * 2 by omega]
  simp only [List.set_cons_zero, List.set_cons_succ, List.cons_append, List.nil_append]

end Go.Proofs.Ytjebhbopmfcopaa

namespace Go.Proofs.Ytjebhbopmfcopaa
open Go.RowKit

/-- lists of places that came out, each as its owner has marked it -/
structure ShelfP (X : World) (g : Nat) (v : Value) (es : List Value) : Prop where
  list : X.ownsRow (g + 1) 52 1 v es.length es
  ent : ∀ i (h : i < es.length), ∃ n, n ≤ 100000 ∧ X.ownsRow (g + 1) 37 2 es[i] n (reps (mp i) (.int .i64 0) n)
  len : es.length ≤ 7000000000000

theorem shelfP_below {X Y : World} {g : Nat} {v : Value} {es : List Value} (h : ShelfP X g v es) (hb : Below X.heap.size X Y) : ShelfP Y g v es :=
  ⟨own_below h.list hb, fun i hi => let ⟨n, hn, ho⟩ := h.ent i hi; ⟨n, hn, own_below ho hb⟩, h.len⟩

theorem reps_at (A B : Value) (n q : Nat) (h : q < n) : (reps A B n)[q * 2]? = some A := by
  obtain ⟨m, rfl⟩ : ∃ m, n = q + (1 + m) := ⟨n - q - 1, by omega⟩
  rw [reps_add, reps_add, List.getElem?_append_right (by rw [reps_length]; exact Nat.le_refl _), reps_length, Nat.sub_self]
  rfl

theorem shelfP_at {X : World} {g : Nat} {a : Option Addr} {cap : Nat} {es : List Value} (h : ShelfP X g (.slice a es.length cap) es) (k : Nat) (hk : k < es.length) :
    ∃ (g1 : Nat) (la : Option Addr) (n lcap : Nat), a = some ⟨g1, 0, none⟩ ∧ X.cell? ⟨g1, k, none⟩ = some (.slice la n lcap) ∧ n ≤ 100000 ∧
      (0 < n → ∃ g2, la = some ⟨g2, 0, none⟩ ∧ ∀ q, q < n → X.cell? ⟨g2, q * 2, none⟩ = some (mp k)) := by
  obtain ⟨g1, cap1, hv, _, hg1⟩ := own_pos h.list (by omega)
  simp only [Value.slice.injEq, true_and] at hv
  obtain ⟨rfl, rfl⟩ := hv
  obtain ⟨n, hn, ho⟩ := h.ent k hk
  obtain ⟨la, lcap, hf⟩ := own_form ho
  refine ⟨g1, la, n, lcap, rfl, ?_, hn, ?_⟩
  · rw [h.list.cellAt k (by omega), List.getElem?_eq_getElem hk, hf]
  · intro hpos
    rw [hf] at ho
    obtain ⟨g2, cap2, hv2, _, hg2⟩ := own_pos ho hpos
    simp only [Value.slice.injEq, true_and] at hv2
    obtain ⟨rfl, rfl⟩ := hv2
    exact ⟨g2, rfl, fun q hq => (ho.cellAt (q * 2) (by omega)).trans (reps_at _ _ _ _ hq)⟩

end Go.Proofs.Ytjebhbopmfcopaa

namespace Go.Proofs.Ytjebhbopmfcopaa
open Go.RowKit

/-- the positions at which letters differ, or the first is N -/
def Ix.miss : List UInt8 → List UInt8 → Nat
  | a :: s, b :: t => (if a == b && a != 78 then 0 else 1) + Ix.miss s t
  | _, _ => 0

theorem Ix.miss_take : ∀ (s t : List UInt8) (k : Nat) (h1 : k < s.length) (h2 : k < t.length), Ix.miss (s.take (k + 1)) (t.take (k + 1)) = Ix.miss (s.take k) (t.take k) + (if s[k] == t[k] && s[k] != 78 then 0 else 1) := by
  intro s
  induction s with
  | nil => intro t k h1; simp at h1
  | cons a s ih =>
    intro t k h1 h2
    cases t with
    | nil => simp at h2
    | cons b t =>
      cases k with
      | zero => simp [Ix.miss]
      | succ k =>
        have := ih t k (by simpa using h1) (by simpa using h2)
        simp only [List.take_succ_cons, Ix.miss, List.getElem_cons_succ] at this ⊢
        omega

theorem Ix.miss_whole : ∀ (s t : List UInt8) (k : Nat), s.length ≤ k → Ix.miss (s.take k) (t.take k) = Ix.miss s t := by
  intro s
  induction s with
  | nil => intro t k _; simp [Ix.miss]
  | cons a s ih =>
    intro t k h
    obtain ⟨k, rfl⟩ : ∃ j, k = j + 1 := ⟨k - 1, by simp at h; omega⟩
    cases t with
    | nil => simp [Ix.miss]
    | cons b t => simp only [List.take_succ_cons, Ix.miss]; rw [ih t k (by simpa using h)]

theorem Ix.miss_part : ∀ (s t : List UInt8) (k : Nat), Ix.miss (s.take k) (t.take k) ≤ Ix.miss s t := by
  intro s
  induction s with
  | nil => intro t k; simp [Ix.miss]
  | cons a s ih =>
    intro t k
    cases k with
    | zero => simp [Ix.miss]
    | succ k =>
      cases t with
      | nil => simp [Ix.miss]
      | cons b t => have := ih t k; simp only [List.take_succ_cons, Ix.miss]; omega

theorem Ix.trn_sub {n : Int} (hn : Lt.strandB n = true) (c : UInt8) : Lt.trn c n = Lt.sub (Lt.frm n) (Lt.tow n) c := by
  have h4 : n = 1 ∨ n = 2 ∨ n = 3 ∨ n = 4 := by
    simp only [Lt.strandB, Bool.and_eq_true, decide_eq_true_eq] at hn
    omega
  rcases h4 with rfl | rfl | rfl | rfl <;> simp [Lt.trn, Lt.sub, Lt.frm, Lt.tow, Lt.topB]

theorem Ix.sub_78 {n : Int} (hn : Lt.strandB n = true) (c : UInt8) : (Lt.sub (Lt.frm n) (Lt.tow n) c = 78) ↔ c = 78 := by
  have h4 : n = 1 ∨ n = 2 ∨ n = 3 ∨ n = 4 := by
    simp only [Lt.strandB, Bool.and_eq_true, decide_eq_true_eq] at hn
    omega
  rcases h4 with rfl | rfl | rfl | rfl
  · exact Lt.every (p := fun c => (Lt.sub (Lt.frm 1) (Lt.tow 1) c = 78) ↔ c = 78) (by decide +kernel) c
  · exact Lt.every (p := fun c => (Lt.sub (Lt.frm 2) (Lt.tow 2) c = 78) ↔ c = 78) (by decide +kernel) c
  · exact Lt.every (p := fun c => (Lt.sub (Lt.frm 3) (Lt.tow 3) c = 78) ↔ c = 78) (by decide +kernel) c
  · exact Lt.every (p := fun c => (Lt.sub (Lt.frm 4) (Lt.tow 4) c = 78) ↔ c = 78) (by decide +kernel) c

theorem Ix.off_sub {n : Int} (hn : Lt.strandB n = true) (a b : UInt8) :
    (Lt.sub (Lt.frm n) (Lt.tow n) a == Lt.sub (Lt.frm n) (Lt.tow n) b && Lt.sub (Lt.frm n) (Lt.tow n) a != 78) = !Se.off n a b := by
  have ha := Ix.sub_78 hn a
  have hb := Ix.sub_78 hn b
  unfold Se.off
  rw [Ix.trn_sub hn, Ix.trn_sub hn]
  generalize Lt.sub (Lt.frm n) (Lt.tow n) a = A at *
  generalize Lt.sub (Lt.frm n) (Lt.tow n) b = B at *
  rw [Bool.eq_iff_iff]
  simp only [Bool.and_eq_true, beq_iff_eq, bne_iff_ne, Bool.not_eq_true', Bool.or_eq_false_iff, beq_eq_false_iff_ne, ne_eq, bne_eq_false_iff_eq]
  constructor
  · rintro ⟨h1, h2⟩
    exact ⟨⟨fun h => h2 (ha.2 h), fun h => h2 (h1.trans (hb.2 h))⟩, h1⟩
  · rintro ⟨⟨h1, _⟩, h2⟩
    exact ⟨h2, fun h => h1 (ha.1 h)⟩

theorem Ix.miss_conv {n : Int} (hn : Lt.strandB n = true) : ∀ (s t : List UInt8), Ix.miss (Lt.conv (Lt.frm n) (Lt.tow n) s) (Lt.conv (Lt.frm n) (Lt.tow n) t) = Se.three n s t := by
  intro s
  induction s with
  | nil => intro t; simp [Ix.miss, Se.three, Lt.conv]
  | cons a s ih =>
    intro t
    cases t with
    | nil => simp [Ix.miss, Se.three, Lt.conv]
    | cons b t =>
      have := ih t
      simp only [Lt.conv, List.map_cons, Ix.miss, Se.three] at this ⊢
      rw [this, Ix.off_sub hn]
      cases Se.off n a b <;> simp

theorem Ix.conv_drop (f t : UInt8) (l : List UInt8) (k : Nat) : Lt.conv f t (l.drop k) = (Lt.conv f t l).drop k := by simp [Lt.conv]

theorem Ix.conv_drop_miss {n : Int} (hn : Lt.strandB n = true) (s t : List UInt8) (p : Nat) (b : Int) :
    decide ((Ix.miss (Lt.conv (Lt.frm n) (Lt.tow n) s) ((Lt.conv (Lt.frm n) (Lt.tow n) t).drop p) : Int) ≤ b) = Se.stands n b s t p := by
  rw [← Ix.conv_drop, Ix.miss_conv hn, Se.stands]

end Go.Proofs.Ytjebhbopmfcopaa

namespace Go.Proofs.Ytjebhbopmfcopaa
open Go.RowKit

set_option maxRecDepth 100000 in
set_option maxHeartbeats 1600000 in
theorem stands_any (s t : ByteArray) (b : Int) (w : World) (ht : s.size ≤ t.size) (htm : t.size ≤ 140737488355327) (hb0 : 0 ≤ b) (hb3 : b ≤ 3) :
    Calls Try.prog 48 #[.string s, .string t, .int .i64 b] w fun e w' => e = .returned (.bool (decide ((Ix.miss s.data.toList t.data.toList : Int) ≤ b))) ∧ ∃ m, w' = w.drewN m := by
  go_enter Try.func48, Try.ntmps48
  go_wp2
  go_loopw [2, 10] (fun v i wr => ∃ k j : Nat, k ≤ s.size ∧ i = .int .i64 (k : Int) ∧ v = .int .i64 (b - (j : Int)) ∧ (j : Int) ≤ b ∧ Hid (j = Ix.miss (s.data.toList.take k) (t.data.toList.take k)) ∧ Hid (∃ q, wr = w.drewN q)) (fun _ i _ => s.size - (intOf i).toNat)
  case atStart => exact ⟨0, 0, Nat.zero_le _, rfl, by simp, by simpa using hb0, by simp [Ix.miss, Hid], ⟨0, rfl⟩⟩
  case round =>
    obtain ⟨k, j, hk, rfl, rfl, hjb, HJ, HW⟩ := hrel
    by_cases hlt : k < s.size
    · have hlt2 : k < t.size := by omega
      have HT : Hid _ := Ix.miss_take s.data.toList t.data.toList k (by simpa using hlt) (by simpa using hlt2)
      have HP : Hid _ := Ix.miss_part s.data.toList t.data.toList (k + 1)
      have hi1 := ix_str s k hlt (k : Int) rfl
      have hi2 := ix_str t k hlt2 (k : Int) rfl
      have hlt' : (k : Int) < (s.size : Int) := by omega
      have hlt2' : (k : Int) < (t.size : Int) := by omega
      have ho : (s[k] == t[k] && s[k] != 78) = (((s[k].toNat : Int) == (t[k].toNat : Int)) && ((s[k].toNat : Int) != 78)) := by
        have e1 := u8_bne s[k] t[k]
        have e2 := u8_bne s[k] 78
        have e3 : (s[k] == t[k]) = ((s[k].toNat : Int) == (t[k].toNat : Int)) := by
          simp only [bne] at e1
          exact Bool.not_inj e1
        rw [e3, e2]
        rfl
      have HO : Hid _ := ho
      clear ho
      cases h1 : ((s[k].toNat : Int) == (t[k].toNat : Int)) <;> cases h2 : ((s[k].toNat : Int) != 78) <;> cases h3 : (b - (j : Int) == 0)
      all_goals
        have HOF : Hid _ := HO.out
        rw [h1, h2] at HOF
        clear HO
        go_wp2_with fail
        go_quiet (fail)
        go_wp2
        first
          | (go_roundw
             case rel =>
               have e1 : (s[k] == t[k] && s[k] != 78) = _ := HOF.out
               simp only [Bool.and_false, Bool.and_true, Bool.and_self] at e1
               have e2 : Ix.miss (s.data.toList.take (k + 1)) (t.data.toList.take (k + 1)) = Ix.miss (s.data.toList.take k) (t.data.toList.take k) + (if s[k] == t[k] && s[k] != 78 then 0 else 1) := HT.out
               rw [e1] at e2
               refine ⟨k + 1, _, by omega, by go_num, ?_, ?_, e2.symm, ?_⟩
               · rw [← HJ.out]; first | rfl | (simp; done) | go_num
               · rw [← HJ.out]
                 have h3' : _ := h3
                 simp only [beq_eq_false_iff_ne, beq_iff_eq] at h3'
                 simp
                 omega
               · obtain ⟨q, rfl⟩ := HW.out
                 exact ⟨q + nq, by rw [drewN_more]⟩
             case measure => simp [intOf]; omega)
          | (go_ret
             refine ⟨ret_bool ?_, ?_⟩
             · have e1 : (s[k] == t[k] && s[k] != 78) = _ := HOF.out
               simp only [Bool.and_false, Bool.and_true, Bool.and_self] at e1
               have e2 : Ix.miss (s.data.toList.take (k + 1)) (t.data.toList.take (k + 1)) = Ix.miss (s.data.toList.take k) (t.data.toList.take k) + (if s[k] == t[k] && s[k] != 78 then 0 else 1) := HT.out
               rw [e1, ← HJ.out] at e2
               have e3 := HP.out
               simp only [beq_iff_eq] at h3
               simp at e2
               symm
               rw [decide_eq_false_iff_not]
               omega
             · obtain ⟨q, rfl⟩ := HW.out
               exact ⟨q + nq, by rw [drewN_more]⟩)
    · have HF : Hid _ := Ix.miss_whole s.data.toList t.data.toList k (by simp; omega)
      have hlt' : ¬ (k : Int) < (s.size : Int) := by omega
      go_wp2
      go_ret
      refine ⟨ret_bool ?_, HW.out⟩
      symm
      rw [decide_eq_true_iff, ← HF.out, ← HJ.out]
      exact hjb

end Go.Proofs.Ytjebhbopmfcopaa

namespace Go.Proofs.Ytjebhbopmfcopaa
open Go.RowKit

theorem extract_tail (l : List UInt8) (q : Nat) (_h : q ≤ l.length) : ((⟨l.toArray⟩ : ByteArray).extract q l.length).data.toList = l.drop q := by
  rw [extract_piece]
  show Tx.piece ⟨l.toArray⟩ q l.length = _
  rw [Tx.piece]
  show (l.drop q).take (l.length - q) = _
  rw [List.take_of_length_le (by simp)]

set_option maxRecDepth 100000 in
set_option maxHeartbeats 4000000 in
theorem places_any (cs : List Pr) (gx cc : Nat) (S : List UInt8) (n b : Int) (w : World) (hn : Lt.strandB n = true) (hb0 : 0 ≤ b) (hb3 : b ≤ 3) (hc : cs.length ≤ 1000) (hN : ∀ x ∈ cs, x.2.length ≤ 100000) (hS : S.length ≤ 1000)
    (hcell : ∀ k (h : k < cs.length), w.cell? ⟨gx, k, none⟩ = some (Ix.str n cs[k])) :
    Calls Try.prog 33 #[.slice (some ⟨gx, 0, none⟩) cs.length cc, .string ⟨(Lt.conv (Lt.frm n) (Lt.tow n) S).toArray⟩, .int .i64 b] w fun e w' =>
      ∃ v, e = .returned v ∧ w'.ownsRow w.heap.size 37 2 v (Se.inAll n b S cs cs.length).length (Se.pls (Se.inAll n b S cs cs.length)) ∧ Below w.heap.size w w' := by
  have HN : Hid _ := hN
  have HCL : Hid _ := hcell
  have HST0 : Hid _ := hn
  clear hN hcell hn
  obtain ⟨s, hs⟩ : ∃ s : ByteArray, s = ⟨(Lt.conv (Lt.frm n) (Lt.tow n) S).toArray⟩ := ⟨_, rfl⟩
  rw [← hs]
  have hss : s.size = S.length := by rw [hs]; simp [ByteArray.size, Lt.conv_length]
  have HS : Hid (s.data.toList = Lt.conv (Lt.frm n) (Lt.tow n) S) := by show _ = _; rw [hs]
  clear hs
  go_enter Try.func33, Try.ntmps33
  go_wp2
  go_loopw [7, 13] (fun v i wr => ∃ k : Nat, k ≤ cs.length ∧ i = .int .i64 (k : Int) ∧ wr.ownsRow w.heap.size 37 2 v (Se.inAll n b S cs k).length (Se.pls (Se.inAll n b S cs k)) ∧ Below w.heap.size w wr) (fun _ i _ => cs.length - (intOf i).toNat)
  case atStart => exact ⟨0, Nat.zero_le _, rfl, World.ownsRow_nil _ _ _ _, Below.refl _ _⟩
  case round =>
    obtain ⟨k, hk, rfl, hown, hbel⟩ := hrel
    by_cases hlt : k < cs.length
    · have hlt' : (k : Int) < (cs.length : Int) := by omega
      have hck : wr.cell? ⟨gx, k, none⟩ = some (Ix.str n cs[k]) := by
        have h0 := HCL.out k hlt
        rw [hbel.cell (p := ⟨gx, k, none⟩) (World.block_lt_of_cell? w _ h0)]
        exact h0
      obtain ⟨x, hx⟩ : ∃ x, x = cs[k] := ⟨_, rfl⟩
      have hxN : x.2.length ≤ 100000 := HN.out x (by rw [hx]; exact List.getElem_mem _)
      have HX : Hid (Se.inAll n b S cs (k + 1) = Se.inAll n b S cs k ++ Se.inOne n b S x.2 k) := by show _ = _; rw [Se.inAll, List.getElem?_eq_getElem hlt, hx]
      have HLEN : Hid _ := Se.inAll_length n b S cs 100000 HN.out k
      rw [← hx, Ix.str] at hck
      clear hx
      obtain ⟨T, hT⟩ : ∃ T, T = Lt.conv (Lt.frm n) (Lt.tow n) x.2 := ⟨_, rfl⟩
      have HTL : Hid (T.length = x.2.length) := by show _ = _; rw [hT, Lt.conv_length]
      have hTN : T.length ≤ 100000 := by rw [HTL.out]; exact hxN
      rw [← hT] at hck
      have HT : Hid _ := hT
      clear hT
      have hTs : (⟨T.toArray⟩ : ByteArray).size = T.length := by simp [ByteArray.size]
      generalize hP : Se.inAll n b S cs k = P at *
      clear hP
      obtain ⟨va, vcap, hv⟩ := own_form hown
      subst hv
      have HO0 : Hid _ := hown
      have HB0 : Hid _ := hbel
      clear hown hbel
      go_wp2
      go_loopw [7, 24] (fun v i wr2 => ∃ q : Nat, q ≤ T.length + 1 - S.length ∧ i = .int .i64 (q : Int) ∧ wr2.ownsRow w.heap.size 37 2 v (P ++ Se.upto n b S x.2 k q).length (Se.pls (P ++ Se.upto n b S x.2 k q)) ∧ Below w.heap.size w wr2) (fun _ i _ => T.length + 1 - S.length - (intOf i).toNat)
      case atStart => exact ⟨0, Nat.zero_le _, rfl, by rw [show P ++ Se.upto n b S x.2 k 0 = P from by simp [Se.upto]]; exact HO0.out, HB0.out⟩
      case round =>
        clear HO0 HB0 hck
        obtain ⟨q, hq, rfl, hown, hbel⟩ := hrel
        obtain ⟨va2, vcap2, hv⟩ := own_form hown
        subst hv
        by_cases hin : q + S.length ≤ T.length
        · have hin' : (q : Int) < (T.length : Int) - (S.length : Int) + 1 := by omega
          have hqT : q ≤ T.length := by omega
          have hex := extract_tail T q hqT
          have hes : s.size ≤ ((⟨T.toArray⟩ : ByteArray).extract q T.length).size := by rw [ByteArray.size_extract, hTs]; omega
          have hem : ((⟨T.toArray⟩ : ByteArray).extract q T.length).size ≤ 140737488355327 := by rw [ByteArray.size_extract, hTs]; omega
          have HRES : Hid (decide ((Ix.miss s.data.toList ((⟨T.toArray⟩ : ByteArray).extract q T.length).data.toList : Int) ≤ b) = Se.stands n b S x.2 q) := by
            show _ = _
            rw [hex, HS.out, HT.out]
            exact Ix.conv_drop_miss HST0.out S x.2 q b
          have HOWN : Hid _ := hown
          have HUP : Hid _ := Se.upto_succ n b S x.2 k q
          have HUL : Hid _ := Se.upto_length n b S x.2 k q
          clear hex hown
          go_wp2_with fail
          refine (stands_any s _ b _ hes hem hb0 hb3).mono ?_
          rw [HRES.out]
          rintro e w2 ⟨rfl, hw2⟩
          have hb2 : Below wr.heap.size wr w2 := by obtain ⟨m, rfl⟩ := hw2; exact below_drewN (Below.refl _ _) m
          have HO2 : Hid _ := own_below HOWN.out hb2
          have hbel2 := hbel.trans (hb2.mono hbel.size)
          have HB2 : Hid _ := hbel2
          clear hw2 hb2 HRES HOWN hes hem
          have hsz2 := hbel2.size
          clear hbel2 hbel
          have HPL : Hid ((P ++ Se.upto n b S x.2 k q).length ≤ 1000 * 100001 + 100001) := by
            show _ ≤ _
            have h1 := HLEN.out
            have h2 := HUL.out
            have h3 : k * (100000 + 1) ≤ 1000 * (100000 + 1) := Nat.mul_le_mul_right _ (by omega)
            rw [List.length_append]
            omega
          obtain ⟨L, hL⟩ : ∃ L, L = P ++ Se.upto n b S x.2 k q := ⟨_, rfl⟩
          rw [← hL] at HO2 HPL ⊢
          have HL : Hid _ := hL
          clear hL
          cases hst : Se.stands n b S x.2 q with
          | true =>
            have HST : Hid _ := hst
            clear hst
            have hpl := HPL.out
            go_wp2_with (at_builtin; refine app_src rfl _ _ 52 rfl w.heap.size 37 _ 2 16 Try.underlying52 Try.infoPlace rfl (by decide) (.slice va2 L.length vcap2) L.length (Se.pls L) (.slice (some ⟨w2.heap.size, 0, none⟩) 1 1) 1 [.int .i64 (k : Int), .int .i64 (q : Int)] rfl rfl (by exact World.ownsRow.alloc HO2.out _) (.inr ⟨_, _, rfl, by exact two_cells _ _ _ _⟩) rfl (by simp [Value.oneCell']) (by exact Below.alloc HB2.out hsz2 _) (by simp; omega) (by omega) (by decide) ?_; intro v3 w3 hown3 hbel3 _ _)
            go_roundw
            case rel =>
              refine ⟨q + 1, by omega, by go_num, ?_, hbel3⟩
              rw [HUP.out, HST.out, if_pos rfl, ← List.append_assoc, ← HL.out, Se.pls_append, List.length_append]
              exact hown3
            case measure => simp [intOf]; omega
          | false =>
            have HST : Hid _ := hst
            clear hst
            go_wp2
            go_roundw
            case rel =>
              refine ⟨q + 1, by omega, by go_num, ?_, HB2.out⟩
              rw [HUP.out, HST.out, if_neg (by simp), List.append_nil, ← HL.out]
              exact HO2.out
            case measure => simp [intOf]; omega
        · have hin' : ¬ (q : Int) < (T.length : Int) - (S.length : Int) + 1 := by omega
          have HQE : Hid (q = x.2.length + 1 - S.length) := by show _ = _; have := HTL.out; omega
          have HOWN : Hid _ := hown
          have HB2 : Hid _ := hbel
          clear hown hbel
          go_wp2
          go_roundw
          case rel =>
            refine ⟨k + 1, by omega, by go_num, ?_, HB2.out⟩
            rw [HX.out, Se.inOne, ← HQE.out]
            exact HOWN.out
          case measure => simp [intOf]; omega
    · have hke : k = cs.length := by omega
      have hlt' : ¬ (k : Int) < (cs.length : Int) := by omega
      rw [hke] at hown
      have HO : Hid _ := hown
      clear hke hown
      go_wp2
      go_ret
      exact ⟨_, rfl, HO.out, hbel⟩

end Go.Proofs.Ytjebhbopmfcopaa

namespace Go.Proofs.Ytjebhbopmfcopaa
open Go.RowKit

theorem Ix.str_top {n : Int} (h : Lt.topB n = true) : Ix.str 1 = Ix.str n := by
  have h4 : n = 1 ∨ n = 3 := by simpa [Lt.topB] using h
  rcases h4 with rfl | rfl <;> rfl
theorem Ix.str_bot {n : Int} (h : Lt.topB n = false) (hs : Lt.strandB n = true) : Ix.str 2 = Ix.str n := by
  have h4 : n = 2 ∨ n = 4 := by
    rw [Lt.strandB_int] at hs
    simp only [Lt.topB, Bool.or_eq_false_iff, beq_eq_false_iff_ne, Bool.or_eq_true, beq_iff_eq] at h hs
    omega
  rcases h4 with rfl | rfl <;> rfl

theorem ixContigs_any (n : Int) (w : World) (bx : Nat) (a1 a2 : Option Addr) (n1 n2 c1 c2 : Nat) (x0 : w.cell? ⟨bx, 0, none⟩ = some (.slice a1 n1 c1)) (x1 : w.cell? ⟨bx, 1, none⟩ = some (.slice a2 n2 c2)) :
    Calls Try.prog 34 #[.pointer (some ⟨bx, 0, none⟩), .int .i64 n] w fun e w' => e = .returned (if Lt.topB n then .slice a1 n1 c1 else .slice a2 n2 c2) ∧ w' = w := by
  obtain ⟨r, hr⟩ : ∃ r, r = (if Lt.topB n then Value.slice a1 n1 c1 else .slice a2 n2 c2) := ⟨_, rfl⟩
  rw [← hr]
  cases h1 : Lt.topB n
  all_goals
    have HR : Hid (r = _) := hr
    rw [h1] at HR
    have HT : Hid _ := h1
    clear hr h1
    go_enter Try.func34, Try.ntmps34
    go_wp2_with (go_at_call 38; refine (strTop_any _ _).mono ?_; rintro e w' ⟨rfl, hw⟩; subst w'; rw [HT.out])
    go_ret
    exact ⟨by rw [HR.out]; rfl, rfl⟩

theorem own_strs {X : World} {B : Nat} {v : Value} {n : Int} {cs : List Pr} (h : X.ownsRow B 9 1 v cs.length (Ix.strs n cs)) (hp : 0 < cs.length) :
    ∃ g c, v = .slice (some ⟨g, 0, none⟩) cs.length c ∧ ∀ k (h : k < cs.length), X.cell? ⟨g, k, none⟩ = some (Ix.str n cs[k]) := by
  obtain ⟨g, c, rfl, _, _⟩ := own_pos h hp
  refine ⟨g, c, rfl, fun k hk => ?_⟩
  rw [h.cellAt k (by omega)]
  simp [Ix.strs, hk]

set_option maxRecDepth 100000 in
set_option maxHeartbeats 4000000 in
theorem ixFind_any (cs : List Pr) (B : Nat) (p : Value) (s : ByteArray) (n b : Int) (w : World) (hI : IxAt w B p cs) (hR : Se.Right cs) (hs : s.size ≤ 140737488355327) :
    Calls Try.prog 21 #[p, .string s, .int .i64 n, .int .i64 b] w fun e w' =>
      ∃ v, e = .returned (.tuple #[v, .int .i64 (Se.findErr n b s.data.toList)]) ∧ w'.ownsRow w.heap.size 37 2 v (Se.findOut n b s.data.toList cs).length (Se.pls (Se.findOut n b s.data.toList cs)) ∧ (Se.findErr n b s.data.toList ≠ 0 → v = .slice none 0 0) ∧ Below w.heap.size w w' := by
  have hsz : s.data.toList.length = s.size := by simp
  have hsm : s.size ≤ maxLen := by unfold maxLen; omega
  have hbad : ∀ x : Int, Se.findErr n b s.data.toList = x → x ≠ 0 → Se.findOut n b s.data.toList cs = [] := fun x h h0 => by rw [Se.findOut, if_neg (by rw [h]; exact h0)]
  have hE0 : (s.toList = []) ↔ s.size = 0 := by rw [ByteArray.toList_eq, List.eq_nil_iff_length_eq_zero, hsz]
  obtain ⟨E, hE⟩ : ∃ E, E = Se.findErr n b s.data.toList := ⟨_, rfl⟩
  obtain ⟨O, hO⟩ : ∃ O, O = Se.findOut n b s.data.toList cs := ⟨_, rfl⟩
  rw [← hE, ← hO] at hbad
  rw [← hE, ← hO]
  have HFIN : Hid (E ≠ 0 → ∀ X : World, X.ownsRow w.heap.size 37 2 (.slice none 0 0) O.length (Se.pls O)) := fun h X => by
    rw [hbad E rfl h]; exact World.ownsRow_nil _ _ _ _
  clear hbad
  obtain ⟨bx, top, bot, rfl, hx, hto, hbo⟩ := hI
  have hpos := hR.pos
  have hfew := hR.few
  obtain ⟨gt, ct, rfl, htop⟩ := own_strs hto hpos
  obtain ⟨gb, cb, rfl, hbot⟩ := own_strs hbo hpos
  have x0 : w.cell? ⟨bx, 0, none⟩ = some (.slice (some ⟨gt, 0, none⟩) cs.length ct) := by rw [hx.cellAt 0 (by omega)]; rfl
  have x1 : w.cell? ⟨bx, 1, none⟩ = some (.slice (some ⟨gb, 0, none⟩) cs.length cb) := by rw [hx.cellAt 1 (by omega)]; rfl
  have HX0 : Hid _ := x0
  have HX1 : Hid _ := x1
  have HTOP : Hid _ := htop
  have HBOT : Hid _ := hbot
  have HN : Hid (∀ x ∈ cs, x.2.length ≤ 100000) := fun x hx => by have := hR.len x hx; omega
  clear hx hto hbo x0 x1 htop hbot hR
  cases hst : Lt.strandB n with
  | false =>
    have HE : Hid (E = 1) := by show _ = _; rw [hE, Se.findErr, if_pos hst]
    have HT : Hid _ := hst
    clear hst hE hO hsz hE0
    go_enter Try.func21, Try.ntmps21
    go_wp2_with (go_at_call 32; refine (strIs_any _ _).mono ?_; rintro e w' ⟨rfl, hw⟩; subst w'; rw [HT.out])
    go_ret2
    exact ⟨_, ret_two HE.out.symm, HFIN.out (by rw [HE.out]; decide) _, fun _ => rfl, Below.refl _ _⟩
  | true =>
    have HT : Hid _ := hst
    by_cases hb0 : b < 0
    · have HE : Hid (E = 1) := by show _ = _; rw [hE, Se.findErr, if_neg (by simp [hst]), if_pos hb0]
      clear hst hE hO hsz hE0
      go_enter Try.func21, Try.ntmps21
      go_wp2_with (go_at_call 32; refine (strIs_any _ _).mono ?_; rintro e w' ⟨rfl, hw⟩; subst w'; rw [HT.out])
      go_ret2
      exact ⟨_, ret_two HE.out.symm, HFIN.out (by rw [HE.out]; decide) _, fun _ => rfl, Below.refl _ _⟩
    · by_cases hb3 : 3 < b
      · have HE : Hid (E = 1) := by show _ = _; rw [hE, Se.findErr, if_neg (by simp [hst]), if_neg hb0, if_pos hb3]
        clear hst hE hO hsz hE0
        go_enter Try.func21, Try.ntmps21
        go_wp2_with (go_at_call 32; refine (strIs_any _ _).mono ?_; rintro e w' ⟨rfl, hw⟩; subst w'; rw [HT.out])
        go_ret2
        exact ⟨_, ret_two HE.out.symm, HFIN.out (by rw [HE.out]; decide) _, fun _ => rfl, Below.refl _ _⟩
      · have hEL : E = Se.lettersErr s.data.toList := by rw [hE, Se.findErr, if_neg (by simp [hst]), if_neg hb0, if_neg hb3]
        by_cases h0 : s.size = 0
        · have HE : Hid (E = 8) := by show _ = _; rw [hEL, Se.lettersErr, hsz, if_pos h0]; split <;> rfl
          have h0' : s.toList.isEmpty = true := by rw [List.isEmpty_iff]; exact hE0.2 h0
          clear hst hE hO hsz hE0 h0 hEL
          go_enter Try.func21, Try.ntmps21
          go_wp2_with (go_at_call 32; refine (strIs_any _ _).mono ?_; rintro e w' ⟨rfl, hw⟩; subst w'; rw [HT.out])
          go_ret2
          exact ⟨_, ret_two HE.out.symm, HFIN.out (by rw [HE.out]; decide) _, fun _ => rfl, Below.refl _ _⟩
        · have h0' : s.toList.isEmpty = false := by rw [List.isEmpty_eq_false_iff]; exact fun h => h0 (hE0.1 h)
          cases hL : Lt.allL s.data.toList with
          | false =>
            have HE : Hid (E = 8) := by show _ = _; rw [hEL, Se.lettersErr, if_pos hL]
            have HL : Hid _ := hL
            clear hst hE hO hsz hE0 h0 hEL hL
            go_enter Try.func21, Try.ntmps21
            go_wp2_with (first
              | (go_at_call 32; refine (strIs_any _ _).mono ?_; rintro e w' ⟨rfl, hw⟩; subst w'; rw [HT.out])
              | (go_at_call 24; refine (areLetters_any _ _ hsm).mono ?_; rintro e w' ⟨rfl, hw⟩; subst w'; rw [HL.out]))
            go_ret2
            exact ⟨_, ret_two HE.out.symm, HFIN.out (by rw [HE.out]; decide) _, fun _ => rfl, Below.refl _ _⟩
          | true =>
            have HL : Hid _ := hL
            by_cases h1 : 128 < s.size
            · have HE : Hid (E = 7) := by show _ = _; rw [hEL, Se.lettersErr, if_neg (by simp [hL]), hsz, if_neg h0, if_pos h1]
              have h1' : (128 : Int) < (s.size : Int) := by omega
              clear hst hE hO hsz hE0 h0 hEL hL
              go_enter Try.func21, Try.ntmps21
              go_wp2_with (first
                | (go_at_call 32; refine (strIs_any _ _).mono ?_; rintro e w' ⟨rfl, hw⟩; subst w'; rw [HT.out])
                | (go_at_call 24; refine (areLetters_any _ _ hsm).mono ?_; rintro e w' ⟨rfl, hw⟩; subst w'; rw [HL.out]))
              go_ret2
              exact ⟨_, ret_two HE.out.symm, HFIN.out (by rw [HE.out]; decide) _, fun _ => rfl, Below.refl _ _⟩
            · have HE : Hid (E = 0) := by show _ = _; rw [hEL, Se.lettersErr, if_neg (by simp [hL]), hsz, if_neg h0, if_neg h1]
              have HO : Hid (O = Se.inAll n b s.data.toList cs cs.length) := by show _ = _; rw [hO, Se.findOut, if_pos (by rw [← hE]; exact HE.out)]
              have h1' : ¬ (128 : Int) < (s.size : Int) := by omega
              have hsl : s.data.toList.length ≤ 1000 := by rw [hsz]; omega
              have HSL : Hid _ := hsl
              obtain ⟨gx, cx, hsel, hcx⟩ : ∃ gx cx, (if Lt.topB n then (Value.slice (some ⟨gt, 0, none⟩) cs.length ct) else .slice (some ⟨gb, 0, none⟩) cs.length cb) = .slice (some ⟨gx, 0, none⟩) cs.length cx ∧ ∀ k (h : k < cs.length), w.cell? ⟨gx, k, none⟩ = some (Ix.str n cs[k]) := by
                cases ht : Lt.topB n with
                | true => exact ⟨gt, ct, rfl, fun k h => by rw [HTOP.out k h, Ix.str_top ht]⟩
                | false => exact ⟨gb, cb, rfl, fun k h => by rw [HBOT.out k h, Ix.str_bot ht hst]⟩
              have HSEL : Hid _ := hsel
              have HCX : Hid _ := hcx
              clear hst hE hO hsz hE0 h0 hEL hL hsl hsel hcx
              go_enter Try.func21, Try.ntmps21
              go_wp2_with (first
                | (go_at_call 32; refine (strIs_any _ _).mono ?_; rintro e w' ⟨rfl, hw⟩; subst w'; rw [HT.out])
                | (go_at_call 24; refine (areLetters_any _ _ hsm).mono ?_; rintro e w' ⟨rfl, hw⟩; subst w'; rw [HL.out])
                | (go_at_call 34; refine (ixContigs_any n _ bx _ _ _ _ _ _ HX0.out HX1.out).mono ?_; rintro e w' ⟨rfl, hw⟩; subst w'; rw [HSEL.out])
                | (go_at_call 35; refine (ixConvert_any _ _ _ hsm HL.out HT.out).mono ?_; rintro e w1 ⟨rfl, hb1⟩)
                | (go_at_call 33; refine (places_any cs gx cx s.data.toList n b _ HT.out (by omega) (by omega) (by omega) HN.out HSL.out (fun k h => (hb1.cell (p := ⟨gx, k, none⟩) (World.block_lt_of_cell? w _ (HCX.out k h))).trans (HCX.out k h))).mono ?_; rw [← HO.out]; rintro e w2 ⟨v, rfl, ho, hb2⟩))
              go_ret2
              exact ⟨_, ret_two HE.out.symm, own_base ho hb1.size, fun h => absurd HE.out h, hb1.trans (hb2.mono hb1.size)⟩

end Go.Proofs.Ytjebhbopmfcopaa
