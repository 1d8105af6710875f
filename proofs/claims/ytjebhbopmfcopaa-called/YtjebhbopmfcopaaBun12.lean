/-
  PLAIN MATHEMATICS: bleached pieces of a contig. Own text of the verifier.
  THE WALK of 'reference': contigs made of any texts. Own text of the verifier.
  THE WALK of 'changed': letters of which some are changed. Own text of the verifier.
-/
import Derived.Test.YtjebhbopmfcopaaXKpBleach
import Derived.Test.YtjebhbopmfcopaaBun11
import Derived.Test.YtjebhbopmfcopaaBun3
import Derived.Deep.RegionHeld3
namespace Go.Proofs.Ytjebhbopmfcopaa
open Go.RowKit

theorem Al.along_along (t : List UInt8) (n : Int) : Al.along (Al.along t n) n = t := by
  unfold Al.along
  split
  · exact Lt.rev_rev t
  · rfl
theorem Al.along_allL {t : List UInt8} (h : Lt.allL t = true) (n : Int) : Lt.allL (Al.along t n) = true := by
  unfold Al.along
  split
  · exact Lt.rev_allL h
  · exact h

theorem Kp.Bl.cons {n : Int} {a b : UInt8} {s t : List UInt8} (h : Kp.Bl n (a :: s) (b :: t)) : Kp.bl n a b ∧ Kp.Bl n s t := by
  refine ⟨h.at_ 0 (by simp) (by simp), ⟨by simpa using h.len, fun j h1 h2 => ?_⟩⟩
  have := h.at_ (j + 1) (by simpa using h1) (by simpa using h2)
  simpa using this

theorem Kp.bl_off {n : Int} {a b : UInt8} (h : Kp.bl n a b) (hN : a ≠ 78) : Se.off n b a = false ∧ Al.mm n b a = false := by
  rcases h with rfl | ⟨h1, rfl, rfl⟩ | ⟨h1, rfl, rfl⟩
  · unfold Se.off Al.mm
    simp [hN]
  · unfold Se.off Al.mm Lt.trn
    rw [h1]
    exact ⟨by decide, by decide⟩
  · unfold Se.off Al.mm Lt.trn
    rw [h1]
    exact ⟨by decide, by decide⟩

theorem Kp.bl_zero {n : Int} : ∀ (s t : List UInt8), Kp.Bl n s t → (∀ c ∈ s, c ≠ 78) → Se.three n t s = 0 ∧ Al.mis n t s = 0 := by
  intro s
  induction s with
  | nil =>
    intro t h _
    obtain rfl : t = [] := List.eq_nil_of_length_eq_zero (by have := h.len; simpa using this)
    exact ⟨rfl, rfl⟩
  | cons a s ih =>
    intro t h hN
    cases t with
    | nil => have := h.len; simp at this
    | cons b t =>
      obtain ⟨h1, h2⟩ := h.cons
      obtain ⟨o1, o2⟩ := Kp.bl_off h1 (hN a List.mem_cons_self)
      obtain ⟨i1, i2⟩ := ih t h2 (fun c hc => hN c (List.mem_cons_of_mem _ hc))
      simp only [Se.three, Al.mis]
      rw [o1, o2, i1, i2]
      exact ⟨rfl, rfl⟩

theorem Kp.bl_allL {n : Int} {s t : List UInt8} (h : Kp.Bl n s t) (hL : Lt.allL s = true) : Lt.allL t = true := by
  unfold Lt.allL
  rw [List.all_eq_true]
  intro c hc
  obtain ⟨j, hj, rfl⟩ := List.mem_iff_getElem.1 hc
  have hj' : j < s.length := by rw [← h.len]; exact hj
  rcases h.at_ j hj' hj with e | ⟨_, _, e⟩ | ⟨_, _, e⟩
  · rw [e]; exact Pa.allL_at hL hj'
  · rw [e]; rfl
  · rw [e]; rfl

theorem Kp.piece_allL {z : List UInt8} (h : Lt.allL z = true) (a m : Nat) : Lt.allL ((z.drop a).take m) = true := by
  unfold Lt.allL at *
  rw [List.all_eq_true] at *
  intro c hc
  exact h c (List.mem_of_mem_drop (List.mem_of_mem_take hc))
theorem Kp.piece_len {z : List UInt8} {a m : Nat} (h : a + m ≤ z.length) : ((z.drop a).take m).length = m := by
  rw [List.length_take, List.length_drop]
  omega

/-- letters of a read: no error -/
theorem Kp.err_none {b : Int} {r : List UInt8} (h0 : 0 ≤ b) (h3 : b ≤ 3) (hL : Lt.allL r = true) (h1 : 1 ≤ r.length) (h128 : r.length ≤ 128) : Al.err b r = 0 := by
  unfold Al.err Se.lettersErr
  rw [if_neg (by omega), if_neg (by omega), if_neg (by rw [hL]; simp), if_neg (by omega), if_neg (by omega)]

/-- a piece that stands within a contig: the read is seen there -/
theorem Kp.stands {nm t : List UInt8} {b n : Int} {cs : List Pr} {c a m : Nat} {z : Pr} (hz : cs[c]? = some z) (hm : a + m ≤ z.2.length) (ht : t.length = m) (h128 : m ≤ 128) (hn : Lt.strandB n = true) (h3 : (Se.three n t ((z.2.drop a).take m) : Int) ≤ b) :
    (Al.upto nm (Al.along t n) b cs 4).best = Pa.amb nm ∨ ∃ x y, (Al.upto nm (Al.along t n) b cs 4).best = Pa.rec nm x y ∧ x.m ≤ Al.mis n t ((z.2.drop a).take m) := by
  obtain ⟨k, hk, k1, k4⟩ : ∃ k : Nat, n = (k : Int) ∧ 1 ≤ k ∧ k ≤ 4 := by
    rcases Pa.strand_cases hn with rfl | rfl | rfl | rfl
    · exact ⟨1, rfl, by omega, by omega⟩
    · exact ⟨2, rfl, by omega, by omega⟩
    · exact ⟨3, rfl, by omega, by omega⟩
    · exact ⟨4, rfl, by omega, by omega⟩
  subst hk
  rw [Se.three_short _ _ _ _ (by omega)] at h3
  rw [Al.mis_short _ _ _ _ (by omega)]
  have h := Al.seen (nm := nm) (r := Al.along t (k : Int)) (b := b) (cs := cs) (by rw [Al.along_length]; omega) k1 k4 (q := (c, a)) hz (by rw [Al.along_length]; omega) (by rw [Al.along_along]; exact h3)
  rw [Al.along_along] at h
  exact h

end Go.Proofs.Ytjebhbopmfcopaa

namespace Go.Proofs.Ytjebhbopmfcopaa
open Go.RowKit

/-- the name of the i-th contig -/
def Kp.nm (i : Nat) : List UInt8 := [99, UInt8.ofNat (48 + i)]
/-- contigs as 'reference' makes them -/
structure Kp.Refs (cs : List Pr) : Prop where
  few : cs.length ≤ 4
  nm : ∀ i (h : i < cs.length), cs[i].1 = Kp.nm i
  let_ : ∀ x ∈ cs, Lt.allL x.2 = true ∧ 1 ≤ x.2.length ∧ x.2.length ≤ 400

theorem Kp.Refs.snoc {cs : List Pr} (h : Kp.Refs cs) (h4 : cs.length < 4) {t : List UInt8} (hL : Lt.allL t = true) (h1 : 1 ≤ t.length) (h2 : t.length ≤ 400) : Kp.Refs (cs ++ [(Kp.nm cs.length, t)]) := by
  refine ⟨by simp; omega, fun i hi => ?_, fun x hx => ?_⟩
  · by_cases hc : i < cs.length
    · rw [List.getElem_append_left hc]; exact h.nm i hc
    · have : i = cs.length := by simp at hi; omega
      subst this
      simp
  · rcases List.mem_append.1 hx with hx | hx
    · exact h.let_ x hx
    · obtain rfl := List.mem_singleton.1 hx
      exact ⟨hL, h1, h2⟩

theorem Kp.total_le : ∀ (cs : List Pr), (∀ x ∈ cs, x.2.length ≤ 400) → Se.total cs ≤ cs.length * 400 := by
  intro cs
  induction cs with
  | nil => intro _; simp [Se.total]
  | cons c r ih =>
    intro h
    have h1 := ih (fun x hx => h x (List.mem_cons_of_mem _ hx))
    have h2 := h c List.mem_cons_self
    simp only [Se.total, List.length_cons]
    omega

theorem Kp.Refs.err {cs : List Pr} (h : Kp.Refs cs) (hp : 0 < cs.length) : Se.newErr cs = 0 := by
  have h4 := h.few
  have ht := Kp.total_le cs (fun x hx => (h.let_ x hx).2.2)
  unfold Se.newErr
  rw [if_neg (by omega), if_neg ?_, if_neg (by omega), if_neg (by omega)]
  rw [Bool.not_eq_true, List.any_eq_false]
  intro x hx
  obtain ⟨h1, h2, _⟩ := h.let_ x hx
  unfold Se.wrong
  rw [h1]
  simp
  intro h0
  rw [h0] at h2
  simp at h2

/-- what 'reference' ends with -/
def Kp.RefOut (w : World) (e : Ending) (w' : World) : Prop :=
  ∃ (cs : List Pr) (g cc : Nat), e = .returned (.slice (some ⟨g, 0, none⟩) cs.length cc) ∧ w.heap.size ≤ g ∧ g < w'.heap.size ∧ 0 < cs.length ∧ Kp.Refs cs ∧ (∀ j u, (Prs cs)[j]? = some u → w'.cell? ((⟨g, 0, none⟩ : Addr).add j) = some u) ∧ Below w.heap.size w w'

/-- texts that were handed in -/
structure Kp.Txs (w : World) (v : Value) (ts : List ByteArray) : Prop where
  src : Src w v ts.length (ts.map Value.string)
  len : ts.length ≤ 140737488351232
  txt : ∀ t ∈ ts, t.size ≤ maxLen

theorem Kp.ref_own {w w' : World} {v : Value} {cs : List Pr} (ho : w'.ownsRow w.heap.size 58 2 v cs.length (Prs cs)) (hp : 0 < cs.length) (hr : Kp.Refs cs) (hb : Below w.heap.size w w') : Kp.RefOut w (.returned v) w' := by
  obtain ⟨g, cc, rfl, h1, h2⟩ := own_pos ho hp
  refine ⟨cs, g, cc, rfl, h1, h2, hp, hr, fun j u hj => ?_, hb⟩
  have hjl : j < cs.length * 2 := by
    have := (List.getElem?_eq_some_iff.1 hj).1
    rw [Prs_length] at this
    exact this
  rw [Addr.add_lit, Nat.zero_add, ho.cellAt j hjl]
  exact hj

set_option maxRecDepth 100000 in
set_option maxHeartbeats 1600000 in
theorem kreference_any (ts : List ByteArray) (v : Value) (w : World) (hT : Kp.Txs w v ts) :
    Calls Try.prog 11 #[v] w fun e w' => Kp.RefOut w e w' := by
  obtain ⟨va, vc, hv⟩ : ∃ va vc, v = .slice va ts.length vc := by
    rcases hT.src with ⟨rfl, h0, _⟩ | ⟨ad, c, rfl, _⟩
    · exact ⟨none, 0, by rw [h0]⟩
    · exact ⟨some ad, c, rfl⟩
  have HT : Hid _ := hT
  have hlen := hT.len
  subst hv
  clear hT
  go_enter Try.func11, Try.ntmps11
  go_wp2
  go_loopw [3, 4] (fun o i wr => ∃ cs : List Pr, cs.length ≤ ts.length ∧ cs.length ≤ 4 ∧ i = .int .i64 (cs.length : Int) ∧ Hid (Kp.Refs cs) ∧ wr.ownsRow w.heap.size 58 2 o cs.length (Prs cs) ∧ Below w.heap.size w wr)
    (fun _ i _ => 4 - (intOf i).toNat)
  case atStart => exact ⟨[], Nat.zero_le _, Nat.zero_le _, rfl, ⟨by simp, fun i h => by simp at h, fun x h => by cases h⟩, World.ownsRow_nil _ _ _ _, Below.refl _ _⟩
  case round =>
    obtain ⟨cs, hk, hk4, rfl, HR, hown, hbel⟩ := hrel
    have hsz := hbel.size
    generalize hkk : cs.length = k at *
    have HK : Hid (cs.length = k) := hkk
    clear hkk
    by_cases hgo : k < ts.length ∧ k < 4
    · obtain ⟨hlt, h4⟩ := hgo
      have hlt' : (k : Int) < (ts.length : Int) := by omega
      have h4' : (k : Int) < 4 := by omega
      obtain ⟨ad, hva, hsrc⟩ : ∃ ad, va = some ad ∧ w.cell? (ad.add k) = some (.string ts[k]) := by
        rcases HT.out.src with ⟨_, h0, _⟩ | ⟨ad, c, hv, hs⟩
        · omega
        · simp only [Value.slice.injEq, true_and] at hv
          exact ⟨ad, hv.1, hs k _ (by simp [hlt])⟩
      subst hva
      have hcell : wr.cell? (ad.add k) = some (.string ts[k]) := (hbel.cell (World.block_lt_of_cell? w _ hsrc)).trans hsrc
      have htx : ts[k].size ≤ maxLen := HT.out.txt _ (List.getElem_mem _)
      generalize ts[k] = tk at *
      have HLC : Hid (∀ W : World, Calls Try.prog 8 #[.string tk, .int .i64 400] W fun e w' => ∃ t : List UInt8, e = .returned (.string ⟨t.toArray⟩) ∧ Hid (Lt.allL t = true ∧ 1 ≤ t.length ∧ t.length ≤ 400) ∧ Below W.heap.size W w') := fun W =>
        (letters_any tk 400 W htx (by omega) (by omega)).mono fun e w' ⟨t, h1, h2, h3, h4, h5⟩ => ⟨t, h1, ⟨h2, h3, by omega⟩, h5⟩
      clear hsrc htx
      go_wp2_with fail
      refine (HLC.out _).mono ?_
      rintro e w1 ⟨t, rfl, HL, hb1⟩
      have hbel1 : Below w.heap.size w w1 := hbel.trans (hb1.mono (by omega))
      have hown1 := own_below hown hb1
      have hsz1 := hbel1.size
      have HN : Hid _ := Kp.Refs.snoc HR.out (by rw [HK.out]; exact h4) HL.out.1 HL.out.2.1 HL.out.2.2
      clear hb1 hown hcell hbel hsz HR HL
      obtain ⟨d, hd⟩ : ∃ d : UInt8, d = UInt8.ofNat (48 + k) := ⟨_, rfl⟩
      have hdn : (d.toNat : Int) = 48 + (k : Int) := by rw [hd, UInt8.toNat_ofNat']; omega
      have hcv : (convert 59 9 (.slice (some ⟨w1.heap.size, 0, none⟩) 1 1)).run Try.prog (w1.alloc (.cells #[.int .u8 (48 + (k : Int))] 5)) = .ok (.string ⟨#[d]⟩) (w1.alloc (.cells #[.int .u8 (48 + (k : Int))] 5)) := conv_one _ w1.heap.size d (by rw [hdn]; exact cell_of_row _ _ 0 _ _ _ (heap_alloc_new w1 _))
      have hadd : ∀ wy : World, (Op.stringOp .add ⟨#[99]⟩ ⟨#[d]⟩).run Try.prog wy = .ok (.string ⟨#[99, d]⟩) wy := fun wy => add_texts wy [99] [d] (by simp)
      have HNM : Hid (Kp.nm k = [99, d]) := by show _ = _; rw [Kp.nm, hd]
      rw [HK.out, HNM.out] at HN
      have hownA := hown1.alloc (Obj.cells #[.int .u8 (48 + (k : Int))] 5)
      have hbelA := hbel1.alloc hsz1 (Obj.cells #[.int .u8 (48 + (k : Int))] 5)
      clear hd hdn hown1 hbel1
      go_wp2_with (at_builtin; go_must (refine app_pair (w := w1.alloc (.cells #[.int .u8 (48 + (k : Int))] 5)) rfl _ _ 32 rfl w.heap.size 58 Try.underlying32 Try.infoContig _ cs _ _ ([99, d], t) rfl (by rw [World.size_alloc]; rfl) rfl rfl (by rw [HK.out]; exact hownA) hbelA (by simp; omega) (by rw [HK.out]; omega) ?_); intro v3 w3 hown3 hbel3 hsz3)
      go_roundw
      case rel => exact ⟨cs ++ [([99, d], t)], by rw [List.length_append, HK.out]; simp; omega, by rw [List.length_append, HK.out]; simp; omega, by rw [List.length_append, HK.out]; rfl, HN.out, hown3, hbel3⟩
      case measure => simp [intOf]; omega
    · obtain ⟨ao, cap, hv⟩ := own_form hown
      subst hv
      by_cases hk0 : k = 0
      · have hk1 : ((k : Int) == 0) = true := by rw [beq_iff_eq]; omega
        have HF : Hid (Kp.RefOut w (.returned (.slice (some ⟨wr.heap.size, 0, none⟩) 1 1)) (wr.alloc (.cells #[.string ⟨#[99, 48]⟩, .string ⟨#[65, 67, 71, 84, 84, 67, 71, 65]⟩] 58))) := by
          refine ⟨[([99, 48], [65, 67, 71, 84, 84, 67, 71, 65])], wr.heap.size, 1, rfl, hsz, by simp, by simp, ⟨by simp, ?_, ?_⟩, two_cells wr _ _ _, hbel.alloc hsz _⟩
          · intro i hi
            obtain rfl : i = 0 := by simpa using hi
            rfl
          · intro x hx
            obtain rfl := List.mem_singleton.1 hx
            exact ⟨rfl, by decide, by decide⟩
        have hgo2 : ((k : Int) < (ts.length : Int) ∧ (k : Int) < 4) ∨ ¬ (k : Int) < (ts.length : Int) := by omega
        rcases hgo2 with ⟨g1, g2⟩ | g1
        · exact absurd ⟨by omega, by omega⟩ hgo
        · clear hown hgo hk0 HR
          go_wp2
          go_ret
          exact HF.out
      · have hk1 : ((k : Int) == 0) = false := by rw [beq_eq_false_iff_ne]; omega
        have HF : Hid (Kp.RefOut w (.returned (.slice ao k cap)) wr) := Kp.ref_own (by rw [HK.out]; exact hown) (by rw [HK.out]; omega) HR.out hbel
        by_cases g1 : (k : Int) < (ts.length : Int)
        · have g2 : ¬ (k : Int) < 4 := by omega
          clear hown hgo hk0 HR
          go_wp2
          go_ret
          exact HF.out
        · clear hown hgo hk0 HR
          go_wp2
          go_ret
          exact HF.out

end Go.Proofs.Ytjebhbopmfcopaa

namespace Go.Proofs.Ytjebhbopmfcopaa
open Go.RowKit

/-- an i64 -/
def Kp.i64 (a : Int) : Prop := -9223372036854775808 ≤ a ∧ a ≤ 9223372036854775807

/-- numbers that were handed in -/
structure Kp.Ints (w : World) (v : Value) (rs : List Int) : Prop where
  src : Src w v rs.length (rs.map (Value.int .i64))
  len : rs.length ≤ 140737488351232
  fit : ∀ x ∈ rs, Kp.i64 x

theorem Kp.acgt (j : Nat) (h : j < (⟨#[65, 67, 71, 84]⟩ : ByteArray).size) : Lt.isL (⟨#[65, 67, 71, 84]⟩ : ByteArray)[j] = true := by
  have h' : j < 4 := h
  obtain rfl | rfl | rfl | rfl : j = 0 ∨ j = 1 ∨ j = 2 ∨ j = 3 := by omega
  all_goals rfl

theorem Lt.allL_set {l : List UInt8} {c : UInt8} (j : Nat) (h : Lt.allL l = true) (hc : Lt.isL c = true) : Lt.allL (l.set j c) = true := by
  unfold Lt.allL at *
  rw [List.all_eq_true] at *
  intro x hx
  rcases List.mem_or_eq_of_mem_set hx with hx | rfl
  · exact h x hx
  · exact hc

set_option maxRecDepth 100000 in
set_option maxHeartbeats 1600000 in
theorem kchanged_any (s : ByteArray) (v : Value) (rs : List Int) (w : World) (h0 : 0 < s.size) (hs : s.size ≤ 1000000) (hL : Lt.allL s.data.toList = true) (hI : Kp.Ints w v rs) :
    Calls Try.prog 19 #[.string s, v] w fun e w' => ∃ t : List UInt8, e = .returned (.string ⟨t.toArray⟩) ∧ Hid (t.length = s.size ∧ Lt.allL t = true) ∧ Below w.heap.size w w' := by
  obtain ⟨va, vc, hv⟩ : ∃ va vc, v = .slice va rs.length vc := by
    rcases hI.src with ⟨rfl, h0, _⟩ | ⟨ad, c, rfl, _⟩
    · exact ⟨none, 0, by rw [h0]⟩
    · exact ⟨some ad, c, rfl⟩
  have HI : Hid _ := hI
  have hlen := hI.len
  have HL : Hid _ := hL
  subst hv
  clear hI hL
  obtain ⟨cap, w1, hconv, hcap, hcm, hmk0, hbel0⟩ := mk_of_string s w (by unfold maxLen; omega)
  unfold maxLen at hcm
  go_enter Try.func19, Try.ntmps19
  go_wp2
  clear hconv
  go_loopw [6] (fun i wr => ∃ (k : Nat) (l : List UInt8), k ≤ rs.length + 1 ∧ i = .int .i64 k ∧ Hid (l.length = s.size ∧ Lt.allL l = true) ∧ Mk wr w.heap.size s.size (Bys l) ∧ Below w.heap.size w wr)
    (fun i _ => rs.length + 1 - (intOf i).toNat)
  case atStart => exact ⟨0, _, Nat.zero_le _, rfl, ⟨by simp, HL.out⟩, hmk0, hbel0⟩
  case round =>
    clear hmk0 hbel0
    obtain ⟨k, l, hk, rfl, HT, hmk, hbel⟩ := hrel
    by_cases hgo : k + 1 < rs.length
    · have hgo' : (k : Int) + 1 < (rs.length : Int) := by omega
      have hgo2 : (k : Int) < (rs.length : Int) := by omega
      obtain ⟨ad, hva, hs1, hs2⟩ : ∃ ad, va = some ad ∧ w.cell? (ad.add k) = some (.int .i64 rs[k]) ∧ w.cell? (ad.add (k + 1)) = some (.int .i64 rs[k + 1]) := by
        rcases HI.out.src with ⟨_, h0, _⟩ | ⟨ad, c, hv, hs⟩
        · omega
        · simp only [Value.slice.injEq, true_and] at hv
          exact ⟨ad, hv.1, hs k _ (by simp [show k < rs.length by omega]), hs (k + 1) _ (by simp [hgo])⟩
      subst hva
      have p1 : wr.cell? (ad.add k) = some (.int .i64 rs[k]) := (hbel.cell (World.block_lt_of_cell? w _ hs1)).trans hs1
      have p2 : wr.cell? (ad.add (k + 1)) = some (.int .i64 rs[k + 1]) := (hbel.cell (World.block_lt_of_cell? w _ hs2)).trans hs2
      have f1 := HI.out.fit rs[k] (List.getElem_mem _)
      have f2 := HI.out.fit rs[k + 1] (List.getElem_mem _)
      generalize rs[k] = x1 at *
      generalize rs[k + 1] = x2 at *
      obtain ⟨j, hj, hjv⟩ := pickV_in x1 s.size h0
      obtain ⟨j2, hj2, hj2v⟩ := pickV_in x2 4 (by omega)
      have HP1 : Hid (∀ W : World, Calls Try.prog 18 #[.int .i64 x1, .int .i64 (s.size : Int)] W fun e w' => e = .returned (.int .i64 (j : Int)) ∧ w' = W) := fun W => by
        have := kpick_any x1 s.size W f1.1 f1.2 h0 (by omega)
        rw [hjv] at this
        exact this
      have HP2 : Hid (∀ W : World, Calls Try.prog 18 #[.int .i64 x2, .int .i64 4] W fun e w' => e = .returned (.int .i64 (j2 : Int)) ∧ w' = W) := fun W => by
        have := kpick_any x2 4 W f2.1 f2.2 (by omega) (by omega)
        rw [hj2v] at this
        exact this
      have hj2' : j2 < (⟨#[65, 67, 71, 84]⟩ : ByteArray).size := hj2
      have hix := ix_str ⟨#[65, 67, 71, 84]⟩ j2 hj2' (j2 : Int) rfl
      have hac := Kp.acgt j2 hj2'
      generalize (⟨#[65, 67, 71, 84]⟩ : ByteArray)[j2] = c at *
      have hc0 := hmk.cell hj
      rw [Bys_at l j (by rw [HT.out.1]; exact hj)] at hc0
      obtain ⟨y, hy⟩ : ∃ y : UInt8, wr.cell? ⟨w.heap.size, j, none⟩ = some (.int .u8 (y.toNat : Int)) := ⟨_, hc0⟩
      have hfr := hmk.frozen hj
      clear hc0
      have hst := hmk.stored j (.int .u8 (c.toNat : Int))
      rw [← Bys_set] at hst
      have HS : Hid _ := hst
      have HB : Hid _ := hbel.setCell (p := ⟨w.heap.size, j, none⟩) (Nat.le_refl _) (.int .u8 (c.toNat : Int))
      have HT2 : Hid ((l.set j c).length = s.size ∧ Lt.allL (l.set j c) = true) := ⟨by rw [List.length_set]; exact HT.out.1, Lt.allL_set j HT.out.2 hac⟩
      have hj' : (j : Int) < (s.size : Int) := by omega
      have hj2i : (j2 : Int) < 4 := by omega
      have hwr : IntKind.i64.wrap ((k : Int) + 1) = (k : Int) + 1 := wrap_small _ (by omega) (by omega)
      have hk0 : (0 : Int) ≤ (k : Int) + 1 := by omega
      have hkn : ((k : Int) + 1).toNat = k + 1 := by omega
      have had : ad.add (k + 1) = ⟨ad.block, ad.off + (k + 1), none⟩ := by simp [Addr.add]
      rw [had] at p2
      have hadb : ad.block < w.heap.size := by have := World.block_lt_of_cell? w _ hs1; rw [add_block] at this; exact this
      have HKS : Hid ((wr.setCell ⟨w.heap.size, j, none⟩ (.int .u8 (c.toNat : Int))).drew.cell? (ad.add k) = some (.int .i64 x1) ∧ (wr.setCell ⟨w.heap.size, j, none⟩ (.int .u8 (c.toNat : Int))).drew.cell? ⟨ad.block, ad.off + (k + 1), none⟩ = some (.int .i64 x2)) := by
        have e : ∀ p : Addr, p.block < w.heap.size → (wr.setCell ⟨w.heap.size, j, none⟩ (.int .u8 (c.toNat : Int))).drew.cell? p = wr.cell? p := fun p hp => by
          refine Pa.cell_same ?_
          show (wr.setCell ⟨w.heap.size, j, none⟩ (.int .u8 (c.toNat : Int))).heap[p.block]? = _
          exact Below.heap_setCell _ _ _ _ (by show p.block ≠ w.heap.size; omega)
        exact ⟨(e _ (by rw [add_block]; exact hadb)).trans p1, (e ⟨ad.block, ad.off + (k + 1), none⟩ hadb).trans p2⟩
      clear hst hmk hbel hac had hs1 hs2 f1 f2 hjv hj2v hj2' HT hj2 hadb
      go_wp2_with fail
      go_region_held3 (fun Y => Y.cell? (ad.add k) = some (.int .i64 x1) ∧ Y.cell? ⟨ad.block, ad.off + (k + 1), none⟩ = some (.int .i64 x2)) (first | (exact HKS.out) | go_keep)
        (first
          | (go_at_call_of 18 (Value.int .i64 x1); refine (HP1.out _).mono ?_; rintro e w' ⟨rfl, hw⟩; subst w')
          | (go_at_call 18; refine (HP2.out _).mono ?_; rintro e w' ⟨rfl, hw⟩; subst w'))
      all_goals
        go_wp2
        go_roundw
        case rel => exact ⟨k + 2, _, by omega, by go_num, HT2.out, HS.out, HB.out.drew⟩
        case measure => simp [intOf]; omega
    · have hgo' : ¬ (k : Int) + 1 < (rs.length : Int) := by omega
      have hback := Mk.back (cap := cap) (l := l) (by rw [HT.out.1]; exact hmk)
      rw [HT.out.1] at hback
      clear hmk
      go_wp2
      go_ret
      exact ⟨l, rfl, HT.out, hbel⟩

end Go.Proofs.Ytjebhbopmfcopaa
