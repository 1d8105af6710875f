/-
  THE DOCUMENT'S Render. Own text of the verifier.
  RECORDS THAT ARE HANDED IN: with spare room, laid by the statement itself, and looked at again behind the call. Own text of the verifier.
  THE WALK of the document's Align. Own text of the verifier.
  LAWS for the walk of the document's Align, where there is no error. Own text of the verifier.
  THE PROGRAM'S Align: a candidate weighed. Own text of the verifier.
-/
import Derived.Test.YtjebhbopmfcopaaGreatDoorBun10
import Derived.Test.YtjebhbopmfcopaaGreatDoorBun1
import Derived.Test.YtjebhbopmfcopaaGreatDoorBun6
import Derived.Test.YtjebhbopmfcopaaGreatDoorBun8
import Derived.Laws.ResultCell
import Derived.Test.YtjebhbopmfcopaaGreatDoorBun2
import Derived.Test.YtjebhbopmfcopaaGreatDoorBun3
import Derived.Test.YtjebhbopmfcopaaGreatDoorBun4
import Derived.Test.YtjebhbopmfcopaaGreatDoorBun5
import Derived.Test.YtjebhbopmfcopaaGreatDoorBun7
import Derived.Test.YtjebhbopmfcopaaGreatDoorBun9
namespace Go.Proofs.YtjebhbopmfcopaaGreatDoor
open Go.RowKit

def rcCells (r : Rc) : List Value := [.string ⟨r.nm.toArray⟩, .int .i64 r.vd, .int .i64 r.sd, .string ⟨r.ct.toArray⟩, .int .i64 r.pl, .int .i64 r.mm, .string ⟨r.lt.toArray⟩, .string ⟨r.cl.toArray⟩]
def Rcs (l : List Rc) : List Value := l.flatMap rcCells
theorem Rcs_length (l : List Rc) : (Rcs l).length = l.length * 8 := by
  induction l with
  | nil => rfl
  | cons a l ih => rw [Rcs, List.flatMap_cons, List.length_append, ← Rcs, ih, List.length_cons]; simp [rcCells]; omega
theorem Rcs_append (l r : List Rc) : Rcs (l ++ r) = Rcs l ++ Rcs r := by simp [Rcs]
theorem Rcs_at (l : List Rc) (k : Nat) (h : k < l.length) (j : Nat) (hj : j < 8) : (Rcs l)[k * 8 + j]? = (rcCells l[k])[j]? := by
  induction l generalizing k with
  | nil => simp at h
  | cons o l ih =>
    rw [Rcs, List.flatMap_cons]
    cases k with
    | zero => rw [List.getElem?_append_left (by simp [rcCells]; omega)]; simp
    | succ k =>
      rw [List.getElem?_append_right (by simp [rcCells]; omega)]
      have e : (k + 1) * 8 + j - (rcCells o).length = k * 8 + j := by simp [rcCells]; omega
      rw [e]
      have := ih k (by simpa using h)
      rw [Rcs] at this
      rw [this]
      simp
theorem Rcs_one (l : List Rc) : ∀ u ∈ Rcs l, u.oneCell' = true := by
  intro u hu
  obtain ⟨o, _, hu⟩ := List.mem_flatMap.1 hu
  simp only [rcCells, List.mem_cons, List.not_mem_nil, or_false] at hu
  rcases hu with rfl | rfl | rfl | rfl | rfl | rfl | rfl | rfl <;> rfl

theorem addr_some (ad : Addr) (k i : Nat) (hi : 0 < i) : (⟨(ad.add k).block, (ad.add k).off + i, none⟩ : Addr) = ad.add (k + i) := by
  unfold Addr.add
  by_cases h : k = 0
  · simp [h]; omega
  · simp [h]; omega

/-- the cells of one record among several, as a walk asks for them -/
theorem rc_src {w : World} {ad : Addr} {l : List Rc} (h : ∀ j u, (Rcs l)[j]? = some u → w.cell? (ad.add j) = some u) (k : Nat) (hk : k < l.length) :
    w.cell? (ad.add (k * 8)) = some (.string ⟨l[k].nm.toArray⟩) ∧ w.cell? ⟨(ad.add (k * 8)).block, (ad.add (k * 8)).off + 1, none⟩ = some (.int .i64 l[k].vd) ∧ w.cell? ⟨(ad.add (k * 8)).block, (ad.add (k * 8)).off + 2, none⟩ = some (.int .i64 l[k].sd) ∧
    w.cell? ⟨(ad.add (k * 8)).block, (ad.add (k * 8)).off + 3, none⟩ = some (.string ⟨l[k].ct.toArray⟩) ∧ w.cell? ⟨(ad.add (k * 8)).block, (ad.add (k * 8)).off + 4, none⟩ = some (.int .i64 l[k].pl) ∧ w.cell? ⟨(ad.add (k * 8)).block, (ad.add (k * 8)).off + 5, none⟩ = some (.int .i64 l[k].mm) ∧
    w.cell? ⟨(ad.add (k * 8)).block, (ad.add (k * 8)).off + 6, none⟩ = some (.string ⟨l[k].lt.toArray⟩) ∧ w.cell? ⟨(ad.add (k * 8)).block, (ad.add (k * 8)).off + 7, none⟩ = some (.string ⟨l[k].cl.toArray⟩) := by
  have g : ∀ j u, j < 8 → (rcCells l[k])[j]? = some u → w.cell? (ad.add (k * 8 + j)) = some u := fun j u hj hu => h _ _ ((Rcs_at l k hk j hj).trans hu)
  refine ⟨g 0 _ (by omega) rfl, ?_, ?_, ?_, ?_, ?_, ?_, ?_⟩
  · rw [addr_some _ _ _ (by omega)]; exact g 1 _ (by omega) rfl
  · rw [addr_some _ _ _ (by omega)]; exact g 2 _ (by omega) rfl
  · rw [addr_some _ _ _ (by omega)]; exact g 3 _ (by omega) rfl
  · rw [addr_some _ _ _ (by omega)]; exact g 4 _ (by omega) rfl
  · rw [addr_some _ _ _ (by omega)]; exact g 5 _ (by omega) rfl
  · rw [addr_some _ _ _ (by omega)]; exact g 6 _ (by omega) rfl
  · rw [addr_some _ _ _ (by omega)]; exact g 7 _ (by omega) rfl

/-- Render: the error, and the text -/
def Ln.renderErr (l : List Rc) : Int := if l.all Rc.right then 0 else 9
def Ln.lines (l : List Rc) : List UInt8 := l.flatMap Rc.line
def Ln.render (l : List Rc) : List UInt8 := if l.all Rc.right then Ln.lines l else []

theorem Ln.lines_snoc (l : List Rc) (k : Nat) (h : k < l.length) : Ln.lines (l.take (k + 1)) = Ln.lines (l.take k) ++ l[k].line := by
  rw [List.take_succ_eq_append_getElem h, Ln.lines, List.flatMap_append, ← Ln.lines]
  simp
theorem Ln.lines_length : ∀ (l : List Rc), l.all Rc.right = true → (Ln.lines l).length ≤ l.length * 400 := by
  intro l
  induction l with
  | nil => intro _; simp [Ln.lines]
  | cons a l ih =>
    intro h
    rw [List.all_cons, Bool.and_eq_true] at h
    have h1 := Rc.line_length h.1
    have h2 := ih h.2
    rw [Ln.lines, List.flatMap_cons, List.length_append, ← Ln.lines, List.length_cons]
    omega

set_option maxRecDepth 100000 in
set_option maxHeartbeats 1600000 in
theorem refRender_row (l : List Rc) (ad : Addr) (cc : Nat) (w : World) (hl : l.length ≤ 10000000000000) (hS : ∀ r ∈ l, r.Small) (hsrc : ∀ j u, (Rcs l)[j]? = some u → w.cell? (ad.add j) = some u) :
    Calls Tryz.prog 106 #[.slice (some ad) l.length cc] w fun e w' => e = .returned (.tuple #[.string ⟨(Ln.render l).toArray⟩, .int .i64 (Ln.renderErr l)]) ∧ Below w.heap.size w w' := by
  have HS : Hid _ := hS
  have HSRC : Hid _ := hsrc
  obtain ⟨R, hR⟩ : ∃ R, R = Ln.render l := ⟨_, rfl⟩
  obtain ⟨E, hE⟩ : ∃ E, E = Ln.renderErr l := ⟨_, rfl⟩
  rw [← hR, ← hE]
  have HR : Hid _ := hR
  have HE : Hid _ := hE
  clear hS hsrc hR hE
  go_enter Tryz.func106, Tryz.ntmps106
  go_wp2
  go_loopw [4, 5] (fun t i wr => ∃ (k : Nat) (x : List UInt8), k ≤ l.length ∧ i = .int .i64 (k : Int) ∧ t = .string ⟨x.toArray⟩ ∧ x.length ≤ k * 400 ∧ Hid (x = Ln.lines (l.take k)) ∧ Hid ((l.take k).all Rc.right = true) ∧ Below w.heap.size w wr) (fun _ i _ => l.length - (intOf i).toNat)
  case atStart => exact ⟨0, [], Nat.zero_le _, rfl, rfl, by simp, by simp [Hid, Ln.lines], by simp [Hid], Below.refl _ _⟩
  case round =>
    obtain ⟨k, x, hk, rfl, rfl, hxl, HX, HA, hbel⟩ := hrel
    by_cases hlt : k < l.length
    · have hlt' : (k : Int) < (l.length : Int) := by omega
      have hcs := rc_src HSRC.out k hlt
      have hblk := World.block_lt_of_cell? w _ hcs.1
      obtain ⟨r, hr⟩ : ∃ r, r = l[k] := ⟨_, rfl⟩
      have HSM : Hid _ := HS.out l[k] (List.getElem_mem _)
      have HLS : Hid _ := Ln.lines_snoc l k hlt
      have HAT : Hid ((l.take (k + 1)).all Rc.right = ((l.take k).all Rc.right && r.right)) := by show _ = _; rw [List.take_succ_eq_append_getElem hlt, List.all_append, hr]; simp
      have HAS : Hid (r.right = false → l.all Rc.right = false) := fun h => by rw [List.all_eq_false]; exact ⟨l[k], List.getElem_mem _, by rw [← hr, h]; simp⟩
      rw [← hr] at hcs HSM HLS
      have HC : Hid (∀ W, Below w.heap.size w W → W.cell? (ad.add (k * 8)) = some (.string ⟨r.nm.toArray⟩) ∧ W.cell? ⟨(ad.add (k * 8)).block, (ad.add (k * 8)).off + 1, none⟩ = some (.int .i64 r.vd) ∧ W.cell? ⟨(ad.add (k * 8)).block, (ad.add (k * 8)).off + 2, none⟩ = some (.int .i64 r.sd) ∧
          W.cell? ⟨(ad.add (k * 8)).block, (ad.add (k * 8)).off + 3, none⟩ = some (.string ⟨r.ct.toArray⟩) ∧ W.cell? ⟨(ad.add (k * 8)).block, (ad.add (k * 8)).off + 4, none⟩ = some (.int .i64 r.pl) ∧ W.cell? ⟨(ad.add (k * 8)).block, (ad.add (k * 8)).off + 5, none⟩ = some (.int .i64 r.mm) ∧
          W.cell? ⟨(ad.add (k * 8)).block, (ad.add (k * 8)).off + 6, none⟩ = some (.string ⟨r.lt.toArray⟩) ∧ W.cell? ⟨(ad.add (k * 8)).block, (ad.add (k * 8)).off + 7, none⟩ = some (.string ⟨r.cl.toArray⟩)) := fun W hb => by
        have e0 : W.cell? (ad.add (k * 8)) = w.cell? (ad.add (k * 8)) := hb.cell hblk
        have e : ∀ i, W.cell? ⟨(ad.add (k * 8)).block, (ad.add (k * 8)).off + i, none⟩ = w.cell? ⟨(ad.add (k * 8)).block, (ad.add (k * 8)).off + i, none⟩ := fun i => hb.cell (p := ⟨(ad.add (k * 8)).block, (ad.add (k * 8)).off + i, none⟩) hblk
        rw [e0, e, e, e, e, e, e, e]
        exact hcs
      clear hr hcs
      obtain ⟨q0, q1, q2, q3, q4, q5, q6, q7⟩ := HC.out wr hbel
      cases hrt : r.right with
      | false =>
        have HF : Hid (R = [] ∧ E = 9) := by
          have h1 := HAS.out hrt
          exact ⟨by rw [HR.out, Ln.render, h1]; rfl, by rw [HE.out, Ln.renderErr, h1]; rfl⟩
        have HRT : Hid _ := hrt
        have HB : Hid _ := hbel
        clear hrt HAS HAT HLS HX HA hbel
        go_wp2_with fail
        refine (right_any r _ HSM.out).mono ?_
        rw [HRT.out]
        rintro e w1 ⟨rfl, hb1⟩
        go_wp2
        go_ret2
        exact ⟨by rw [HF.out.1, HF.out.2]; rfl, HB.out.trans (hb1.mono HB.out.size)⟩
      | true =>
        have HRT : Hid _ := hrt
        have hll := Rc.line_length hrt
        obtain ⟨Lr, hLr⟩ : ∃ Lr, Lr = r.line := ⟨_, rfl⟩
        rw [← hLr] at hll HLS
        have HX2 : Hid (x ++ Lr = Ln.lines (l.take (k + 1))) := by show _ = _; rw [HLS.out, HX.out]
        have HA2 : Hid ((l.take (k + 1)).all Rc.right = true) := by show _ = _; rw [HAT.out, HA.out, hrt]; rfl
        obtain ⟨y, hy⟩ : ∃ y, y = x ++ Lr := ⟨_, rfl⟩
        have hyl : y.length ≤ (k + 1) * 400 := by rw [hy, List.length_append]; omega
        have hadd := add_hid x Lr y hy (by omega)
        have HLN : Hid (∀ W : World, Calls Tryz.prog 160 #[.agg r.vals] W fun e w' => e = .returned (.string ⟨Lr.toArray⟩) ∧ Below W.heap.size W w') := fun W => by rw [hLr]; exact line_any r W hrt
        rw [← hy] at HX2
        have HB : Hid _ := hbel
        clear hrt HAS HAT HLS HX HA hbel hy hLr
        go_wp2_with fail
        refine (right_any r _ HSM.out).mono ?_
        rw [HRT.out]
        rintro e w1 ⟨rfl, hb1⟩
        have hb1' := HB.out.trans (hb1.mono HB.out.size)
        obtain ⟨t0, t1, t2, t3, t4, t5, t6, t7⟩ := HC.out w1 hb1'
        have HB1 : Hid _ := hb1'
        clear hb1 hb1' q0 q1 q2 q3 q4 q5 q6 q7
        go_wp2_with fail
        refine (HLN.out _).mono ?_
        rintro e w2 ⟨rfl, hb2⟩
        have HB2 : Hid _ := HB1.out.trans (hb2.mono HB1.out.size)
        clear hb2 t0 t1 t2 t3 t4 t5 t6 t7
        go_wp2
        go_roundw
        case rel => exact ⟨k + 1, y, by omega, by go_num, rfl, hyl, HX2.out, HA2.out, HB2.out⟩
        case measure => simp [intOf]; omega
    · have hke : k = l.length := by omega
      have HF : Hid (R = x ∧ E = 0) := by
        have h1 := HA.out
        have h2 := HX.out
        rw [hke, List.take_length] at h1 h2
        exact ⟨by rw [HR.out, Ln.render, h1, h2]; rfl, by rw [HE.out, Ln.renderErr, h1]; rfl⟩
      have hlt' : ¬ (k : Int) < (l.length : Int) := by omega
      clear hke HA HX
      go_wp2
      go_ret2
      exact ⟨by rw [HF.out.1, HF.out.2]; rfl, hbel⟩

set_option maxRecDepth 100000 in
set_option maxHeartbeats 400000 in
theorem refRender_nil (w : World) : Calls Tryz.prog 106 #[.slice none 0 0] w fun e w' => e = .returned (.tuple #[.string ⟨(Ln.render []).toArray⟩, .int .i64 (Ln.renderErr [])]) ∧ Below w.heap.size w w' := by
  go_enter Tryz.func106, Tryz.ntmps106
  go_wp2
  refine wp_loop_rounds 1 ?_
  rw [rounds_succ]
  go_wp2
  go_ret2
  exact ⟨rfl, Below.refl _ _⟩

end Go.Proofs.YtjebhbopmfcopaaGreatDoor

namespace Go.Proofs.YtjebhbopmfcopaaGreatDoor
open Go.RowKit

/-- records that lie somewhere, of a size that can be -/
structure RecsOk (w : World) (v : Value) (rs : List Rc) : Prop where
  src : Src w v rs.length (Rcs rs)
  len : rs.length * 96 ≤ 140737488351232
  txt : ∀ r ∈ rs, r.Small

def beR : Rc := ⟨[98, 101, 121, 111, 110, 100], 0, 0, [], 0, 0, [], []⟩
def otR : Rc := ⟨[111, 116, 104, 101, 114], 0, 0, [], 0, 0, [], []⟩
def zrR : Rc := ⟨[], 0, 0, [], 0, 0, [], []⟩
def lentR (rs : List Rc) : List Rc := rs ++ List.replicate 8 beR

theorem lentR_length (rs : List Rc) : (lentR rs).length = rs.length + 8 := by simp [lentR]
theorem lentR_low (rs : List Rc) (k : Nat) (h1 : k < rs.length) (h : k < (lentR rs).length) : (lentR rs)[k] = rs[k] := by simp only [lentR, List.getElem_append_left h1]
theorem lentR_high (rs : List Rc) (k : Nat) (h1 : rs.length ≤ k) (h : k < (lentR rs).length) : (lentR rs)[k] = beR := by
  simp only [lentR, List.getElem_append_right h1, List.getElem_replicate]

theorem Rcs_cons (r : Rc) (l : List Rc) : Rcs (r :: l) = .string ⟨r.nm.toArray⟩ :: .int .i64 r.vd :: .int .i64 r.sd :: .string ⟨r.ct.toArray⟩ :: .int .i64 r.pl :: .int .i64 r.mm :: .string ⟨r.lt.toArray⟩ :: .string ⟨r.cl.toArray⟩ :: Rcs l := rfl
theorem Rcs_set (l : List Rc) (k : Nat) (h : k < l.length) (x : Rc) :
    ((((((((Rcs l).set (k * 8) (.string ⟨x.nm.toArray⟩)).set (k * 8 + 1) (.int .i64 x.vd)).set (k * 8 + 2) (.int .i64 x.sd)).set (k * 8 + 3) (.string ⟨x.ct.toArray⟩)).set (k * 8 + 4) (.int .i64 x.pl)).set (k * 8 + 5) (.int .i64 x.mm)).set (k * 8 + 6) (.string ⟨x.lt.toArray⟩)).set (k * 8 + 7) (.string ⟨x.cl.toArray⟩) = Rcs (l.set k x) := by
  induction l generalizing k with
  | nil => simp at h
  | cons o l ih =>
    cases k with
    | zero => simp [Rcs_cons]
    | succ k =>
      have e : ∀ i, (k + 1) * 8 + i = k * 8 + i + 1 + 1 + 1 + 1 + 1 + 1 + 1 + 1 := fun i => by omega
      have e0 : (k + 1) * 8 = k * 8 + 1 + 1 + 1 + 1 + 1 + 1 + 1 + 1 := by omega
      rw [e 1, e 2, e 3, e 4, e 5, e 6, e 7, e0, Rcs_cons]
      simp only [List.set_cons_succ]
      rw [ih k (by simpa using h), Rcs_cons]

def filledR (l : List Rc) (n k : Nat) : List Rc := l.take k ++ List.replicate (n - k) zrR
theorem filledR_length (l : List Rc) (n k : Nat) (h : l.length = n) (hk : k ≤ n) : (filledR l n k).length = n := by simp [filledR]; omega
theorem filledR_whole (l : List Rc) (n : Nat) (h : l.length = n) : filledR l n n = l := by simp [filledR, ← h]
theorem filledR_set (l : List Rc) (n k : Nat) (h : l.length = n) (hk : k < n) : (filledR l n k).set k (l[k]'(by omega)) = filledR l n (k + 1) := by
  unfold filledR
  have h1 : (l.take k).length = k := by rw [List.length_take]; omega
  rw [List.set_append, if_neg (by omega), h1, Nat.sub_self, List.take_succ_eq_append_getElem (by omega)]
  obtain ⟨m, hm⟩ : ∃ m, n - k = m + 1 := ⟨n - k - 1, by omega⟩
  rw [hm, show n - (k + 1) = m by omega, List.replicate_succ, List.set_cons_zero, List.append_assoc, List.singleton_append]

def wipedR (rs : List Rc) (k : Nat) : List Rc := List.replicate k otR ++ (lentR rs).drop k
theorem wipedR_zero (rs : List Rc) : wipedR rs 0 = lentR rs := by simp [wipedR]
theorem wipedR_length (rs : List Rc) (k : Nat) (h : k ≤ rs.length + 8) : (wipedR rs k).length = rs.length + 8 := by simp [wipedR, lentR_length]; omega
theorem wipedR_at (rs : List Rc) (k : Nat) (h : k < rs.length + 8) (h2 : k < (wipedR rs k).length) : (wipedR rs k)[k] = (lentR rs)[k]'(by rw [lentR_length]; exact h) := by
  simp only [wipedR]
  rw [List.getElem_append_right (by simp)]
  simp
theorem wipedR_set (rs : List Rc) (k : Nat) (h : k < rs.length + 8) : (wipedR rs k).set k otR = wipedR rs (k + 1) := by
  rw [wipedR, wipedR, List.set_append, if_neg (by simp), List.length_replicate, Nat.sub_self]
  rw [List.drop_eq_getElem_cons (by rw [lentR_length]; exact h), List.set_cons_zero, List.replicate_succ']
  simp

theorem Tryz.infoRec2 : (Tryz.prog.info? 52).map (fun i => (i.zero, i.size, i.bytes)) = some (some (.agg #[.string ⟨#[]⟩, .int .i64 0, .int .i64 0, .string ⟨#[]⟩, .int .i64 0, .int .i64 0, .string ⟨#[]⟩, .string ⟨#[]⟩]), 8, 96) := by kernel_rfl
theorem Tryz.sizeRec2 : (Tryz.prog.info? 52).map (·.size) = some 8 := by kernel_rfl

/-- empty records, as they are made -/
theorem made_recs (m : Nat) : (madeCells (Value.agg #[.string ⟨#[]⟩, .int .i64 0, .int .i64 0, .string ⟨#[]⟩, .int .i64 0, .int .i64 0, .string ⟨#[]⟩, .string ⟨#[]⟩]).cells (m * 8)).toList = Rcs (List.replicate m zrR) := by
  have hc : (Value.agg #[.string ⟨#[]⟩, .int .i64 0, .int .i64 0, .string ⟨#[]⟩, .int .i64 0, .int .i64 0, .string ⟨#[]⟩, .string ⟨#[]⟩]).cells = #[.string ⟨#[]⟩, .int .i64 0, .int .i64 0, .string ⟨#[]⟩, .int .i64 0, .int .i64 0, .string ⟨#[]⟩, .string ⟨#[]⟩] := rfl
  rw [hc]
  apply List.ext_getElem?
  intro j
  by_cases hj : j < m * 8
  · have hq : j / 8 < m := by omega
    have hj' : j = j / 8 * 8 + j % 8 := by omega
    have h2 := Rcs_at (List.replicate m zrR) (j / 8) (by simpa using hq) (j % 8) (by omega)
    rw [← hj'] at h2
    rw [h2, List.getElem_replicate]
    have h8 : j % 8 = 0 ∨ j % 8 = 1 ∨ j % 8 = 2 ∨ j % 8 = 3 ∨ j % 8 = 4 ∨ j % 8 = 5 ∨ j % 8 = 6 ∨ j % 8 = 7 := by omega
    rcases h8 with h8 | h8 | h8 | h8 | h8 | h8 | h8 | h8 <;> rw [h8] <;> simp [madeCells, hj, h8, rcCells, zrR]
  · rw [List.getElem?_eq_none (by simp [madeCells]; omega), List.getElem?_eq_none (by rw [Rcs_length, List.length_replicate]; omega)]

/-- 'copy(out, l)' into records just made -/
theorem copy_lentR (rs : List Rc) (G cc : Nat) (ad : Addr) (w1 : World) (hsrc : ∀ j u, (Rcs rs)[j]? = some u → w1.cell? (ad.add j) = some u)
    (hown : w1.ownsRow G 52 8 (.slice (some ⟨G, 0, none⟩) (rs.length + 8) (rs.length + 8)) (rs.length + 8) (Rcs (List.replicate (rs.length + 8) zrR))) :
    ∃ W2, (∀ ty, (Builtin.copy_ #[46, 46] ty #[.slice (some ⟨G, 0, none⟩) (rs.length + 8) (rs.length + 8), .slice (some ad) rs.length cc]).run Tryz.prog w1 = .ok (goInt rs.length) W2) ∧
      W2.ownsRow G 52 8 (.slice (some ⟨G, 0, none⟩) (rs.length + 8) (rs.length + 8)) (rs.length + 8) (Rcs (filledR (lentR rs) (rs.length + 8) rs.length)) ∧ w1.grownBy W2 (some G) := by
  rcases hown.2 with ⟨h, _⟩ | ⟨g, cap, cur, hv, hb, hg, hnc, hcm, hcs, htake⟩
  · simp at h
  · simp only [Value.slice.injEq, Option.some.injEq, Addr.mk.injEq, and_true, true_and] at hv
    obtain ⟨rfl, rfl⟩ := hv
    have hmin : Nat.min rs.length (rs.length + 8) = rs.length := Nat.min_eq_left (by omega)
    have hc : cur.toList = Rcs (List.replicate (rs.length + 8) zrR) := by
      rw [← htake, List.take_of_length_le (by rw [Array.length_toList, hcs]; exact Nat.le_refl _)]
    have hrun := fun ty => run_copy_many (P := Tryz.prog) w1 46 46 ty 52 G 0 (rs.length + 8) (rs.length + 8) ad rs.length cc cur 52 (Rcs rs) 8 Tryz.underlying46 Tryz.sizeRec2 hg (by rw [hmin, Rcs_length]) hsrc (by rw [hcs, Rcs_length]; omega) (Rcs_one rs)
    rw [hmin] at hrun
    refine ⟨_, hrun, ?_, ⟨rfl, rfl, rfl, by simp [World.setRow], fun k _ hk => setRow_other w1 G k _ (fun e => hk (by simp [e]))⟩⟩
    have he : (cur.toList.take 0 ++ Rcs rs ++ cur.toList.drop (0 + (Rcs rs).length)) = Rcs (filledR (lentR rs) (rs.length + 8) rs.length) := by
      rw [hc, filledR, lentR, List.take_zero, List.nil_append, List.take_append_of_le_length (Nat.le_refl _), List.take_length, Rcs_append]
      congr 1
      rw [Nat.zero_add, show rs.length + 8 - rs.length = 8 by omega, ← List.replicate_append_replicate, Rcs_append, List.drop_append_of_le_length (by rw [Rcs_length, Rcs_length, List.length_replicate]; exact Nat.le_refl _), List.drop_of_length_le (by rw [Rcs_length, Rcs_length, List.length_replicate]; exact Nat.le_refl _), List.nil_append]
    have hl : (Rcs (filledR (lentR rs) (rs.length + 8) rs.length)).length = (rs.length + 8) * 8 := by
      rw [Rcs_length, filledR_length _ _ _ (lentR_length rs) (by omega)]
    rw [he]
    refine ⟨hl, .inr ⟨G, rs.length + 8, _, rfl, hb, setRow_heap w1 G cur _ 52 _ hg, Nat.le_refl _, hcm, by simp [hl], ?_⟩⟩
    rw [List.take_of_length_le (by simp [hl])]

/-- a record stored into one of several -/
theorem own_set8 {w : World} {b e G n cap : Nat} {l : List Rc} (h : w.ownsRow b e 8 (.slice (some ⟨G, 0, none⟩) n cap) n (Rcs l)) (k : Nat) (hk : k < l.length) (x : Rc) :
    ((((((((w.setCell ⟨G, k * 8, none⟩ (.string ⟨x.nm.toArray⟩)).setCell ⟨G, k * 8 + 1, none⟩ (.int .i64 x.vd)).setCell ⟨G, k * 8 + 2, none⟩ (.int .i64 x.sd)).setCell ⟨G, k * 8 + 3, none⟩ (.string ⟨x.ct.toArray⟩)).setCell ⟨G, k * 8 + 4, none⟩ (.int .i64 x.pl)).setCell ⟨G, k * 8 + 5, none⟩ (.int .i64 x.mm)).setCell ⟨G, k * 8 + 6, none⟩ (.string ⟨x.lt.toArray⟩)).setCell ⟨G, k * 8 + 7, none⟩ (.string ⟨x.cl.toArray⟩)).ownsRow b e 8 (.slice (some ⟨G, 0, none⟩) n cap) n (Rcs (l.set k x)) ∧
    w.grownBy ((((((((w.setCell ⟨G, k * 8, none⟩ (.string ⟨x.nm.toArray⟩)).setCell ⟨G, k * 8 + 1, none⟩ (.int .i64 x.vd)).setCell ⟨G, k * 8 + 2, none⟩ (.int .i64 x.sd)).setCell ⟨G, k * 8 + 3, none⟩ (.string ⟨x.ct.toArray⟩)).setCell ⟨G, k * 8 + 4, none⟩ (.int .i64 x.pl)).setCell ⟨G, k * 8 + 5, none⟩ (.int .i64 x.mm)).setCell ⟨G, k * 8 + 6, none⟩ (.string ⟨x.lt.toArray⟩)).setCell ⟨G, k * 8 + 7, none⟩ (.string ⟨x.cl.toArray⟩)) (some G) := by
  have h0 := h.stored (k * 8) (.string ⟨x.nm.toArray⟩)
  have h1 := h0.1.stored (k * 8 + 1) (.int .i64 x.vd)
  have h2 := h1.1.stored (k * 8 + 2) (.int .i64 x.sd)
  have h3 := h2.1.stored (k * 8 + 3) (.string ⟨x.ct.toArray⟩)
  have h4 := h3.1.stored (k * 8 + 4) (.int .i64 x.pl)
  have h5 := h4.1.stored (k * 8 + 5) (.int .i64 x.mm)
  have h6 := h5.1.stored (k * 8 + 6) (.string ⟨x.lt.toArray⟩)
  have h7 := h6.1.stored (k * 8 + 7) (.string ⟨x.cl.toArray⟩)
  rw [Rcs_set l k hk x] at h7
  exact ⟨h7.1, grown_trans (grown_trans (grown_trans (grown_trans (grown_trans (grown_trans (grown_trans h0.2 h1.2) h2.2) h3.2) h4.2) h5.2) h6.2) h7.2⟩

/-- the cells of one record of a row -/
theorem own_rec {w : World} {b e G n cap : Nat} {l : List Rc} (h : w.ownsRow b e 8 (.slice (some ⟨G, 0, none⟩) n cap) n (Rcs l)) (k : Nat) (hk : k < l.length) :
    w.cell? ⟨G, k * 8, none⟩ = some (.string ⟨l[k].nm.toArray⟩) ∧ w.cell? ⟨G, k * 8 + 1, none⟩ = some (.int .i64 l[k].vd) ∧ w.cell? ⟨G, k * 8 + 2, none⟩ = some (.int .i64 l[k].sd) ∧ w.cell? ⟨G, k * 8 + 3, none⟩ = some (.string ⟨l[k].ct.toArray⟩) ∧
    w.cell? ⟨G, k * 8 + 4, none⟩ = some (.int .i64 l[k].pl) ∧ w.cell? ⟨G, k * 8 + 5, none⟩ = some (.int .i64 l[k].mm) ∧ w.cell? ⟨G, k * 8 + 6, none⟩ = some (.string ⟨l[k].lt.toArray⟩) ∧ w.cell? ⟨G, k * 8 + 7, none⟩ = some (.string ⟨l[k].cl.toArray⟩) := by
  have hl : l.length * 8 = n * 8 := by have := h.1; rw [Rcs_length] at this; exact this
  have g : ∀ j, j < 8 → w.cell? ⟨G, k * 8 + j, none⟩ = (rcCells l[k])[j]? := fun j hj => by rw [h.cellAt (k * 8 + j) (by omega), Rcs_at l k hk j hj]
  exact ⟨g 0 (by omega), g 1 (by omega), g 2 (by omega), g 3 (by omega), g 4 (by omega), g 5 (by omega), g 6 (by omega), g 7 (by omega)⟩

end Go.Proofs.YtjebhbopmfcopaaGreatDoor

namespace Go.Proofs.YtjebhbopmfcopaaGreatDoor
open Go.RowKit

theorem Tryz.sizeRec3 : (Tryz.prog.info? 52).map (·.size) = some 8 := by kernel_rfl

/-- Align's results: a record in a block of its own, and the error -/
theorem al_ret {w : World} {g : Nat} {A : Array Value} {tmps : Array Value} (hp : tmps.getD 6 undef = .pointer (some ⟨g, 0, none⟩)) (hg : w.heap[g]? = some (.cells A 52 (0, 0))) (h8 : A.size = 8) :
    (results Tryz.f116 tmps).run Tryz.prog w = .ok (.tuple #[.agg A, tmps.getD 7 undef]) w := by
  rw [results_cell_tmp rfl, hp]
  simp only [asAddr, Sem.run_pure, Result.andThen_ok]
  rw [run_loadVar_row w g 52 52 A (0, 0) _ hg Tryz.underlying52 rfl (by rw [Tryz.sizeRec3, h8])]
  rfl

theorem two_heap (w : World) (A B : Obj) : ((w.alloc A).alloc B).heap[w.heap.size + 1]? = some B := by
  have h := heap_alloc_new (w.alloc A) B
  rw [World.size_alloc] at h
  exact h

set_option maxRecDepth 100000 in
set_option maxHeartbeats 800000 in
theorem refAlign_bad (nm lt : List UInt8) (b : Int) (la : Option Addr) (ln lc : Nat) (w : World) (hl : lt.length ≤ 140737488355327) (hE : Al.err b lt ≠ 0) :
    Calls Tryz.prog 116 #[.slice la ln lc, .agg #[.string ⟨nm.toArray⟩, .string ⟨lt.toArray⟩], .int .i64 b] w fun e w' =>
      e = .returned (.tuple #[.agg (Rc.vals ⟨[], 0, 0, [], 0, 0, [], []⟩), .int .i64 (Al.err b lt)]) ∧ Below w.heap.size w w' := by
  have HB : Hid (∀ o o2, Below w.heap.size w ((w.alloc o).alloc o2)) := fun o o2 => ((Below.refl _ _).alloc (Nat.le_refl _) o).alloc (by simp) o2
  have hs : (⟨lt.toArray⟩ : ByteArray).size ≤ 140737488355327 := by rw [str_size]; exact hl
  obtain ⟨E, hEE⟩ : ∃ E, E = Al.err b lt := ⟨_, rfl⟩
  rw [← hEE] at hE ⊢
  unfold Al.err at hEE
  by_cases h0 : b < 0
  · have HE : Hid (E = 1) := by show _ = _; rw [hEE, if_pos h0]
    clear hEE hE
    go_enter Tryz.func116, Tryz.ntmps116
    go_wp2
    refine bodyPost_ret (al_ret rfl (two_heap w _ _) rfl) rfl ?_
    exact ⟨by rw [HE.out]; rfl, HB.out _ _⟩
  · rw [if_neg h0] at hEE
    by_cases h3 : 3 < b
    · have HE : Hid (E = 1) := by show _ = _; rw [hEE, if_pos h3]
      clear hEE hE
      go_enter Tryz.func116, Tryz.ntmps116
      go_wp2
      refine bodyPost_ret (al_ret rfl (two_heap w _ _) rfl) rfl ?_
      exact ⟨by rw [HE.out]; rfl, HB.out _ _⟩
    · rw [if_neg h3] at hEE
      have HLC : Hid (∀ W : World, Calls Tryz.prog 164 #[.string ⟨lt.toArray⟩] W fun e w' => e = .returned (.int .i64 E) ∧ w' = W) := fun W => by
        rw [hEE]
        exact refLetters_any ⟨lt.toArray⟩ W hs
      have hne : (E != 0) = true := by rw [bne_iff_ne]; exact hE
      clear hEE hE
      go_enter Tryz.func116, Tryz.ntmps116
      go_wp2_with (go_at_call 164; refine (HLC.out _).mono ?_; rintro e w' ⟨rfl, hw⟩; subst w')
      refine bodyPost_ret (al_ret rfl (two_heap w _ _) rfl) rfl ?_
      exact ⟨rfl, HB.out _ _⟩

end Go.Proofs.YtjebhbopmfcopaaGreatDoor

namespace Go.Proofs.YtjebhbopmfcopaaGreatDoor
open Go.RowKit

/-- how it stands within Align: the read, the result, the best so far -/
structure AlB (w wr : World) (nm lt : List UInt8) (best : Rc) : Prop where
  below : Below w.heap.size w wr
  size : w.heap.size + 3 ≤ wr.heap.size
  read : wr.heap[w.heap.size]? = some (.cells #[.string ⟨nm.toArray⟩, .string ⟨lt.toArray⟩] 56 (0, 0))
  res : wr.heap[w.heap.size + 1]? = some (.cells #[.string ⟨#[]⟩, .int .i64 0, .int .i64 0, .string ⟨#[]⟩, .int .i64 0, .int .i64 0, .string ⟨#[]⟩, .string ⟨#[]⟩] 52 (0, 0))
  box : wr.heap[w.heap.size + 2]? = some (.cells best.vals 52 (0, 0))

theorem AlB.mono {w wr wr' : World} {nm lt : List UInt8} {best : Rc} (h : AlB w wr nm lt best) (hb : Below (w.heap.size + 3) wr wr') : AlB w wr' nm lt best :=
  ⟨h.below.trans (hb.mono (by omega)), Nat.le_trans h.size hb.size, (hb.block _ (by omega)).trans h.read, (hb.block _ (by omega)).trans h.res, (hb.block _ (by omega)).trans h.box⟩

theorem below_set {B : Nat} {a w : World} (h : Below B a w) {g : Nat} (hg : B ≤ g) (i : Nat) (u : Value) : Below B a (w.setCell ⟨g, i, none⟩ u) := h.setCell (p := ⟨g, i, none⟩) hg u

theorem AlB.store {w wr : World} {nm lt : List UInt8} {best : Rc} (h : AlB w wr nm lt best) (x : Rc) (g : Nat) (hg : g = w.heap.size + 2) :
    AlB w ((((((((wr.setCell ⟨g, 0, none⟩ (.string ⟨x.nm.toArray⟩)).setCell ⟨g, 1, none⟩ (.int .i64 x.vd)).setCell ⟨g, 2, none⟩ (.int .i64 x.sd)).setCell ⟨g, 3, none⟩ (.string ⟨x.ct.toArray⟩)).setCell ⟨g, 4, none⟩ (.int .i64 x.pl)).setCell ⟨g, 5, none⟩ (.int .i64 x.mm)).setCell ⟨g, 6, none⟩ (.string ⟨x.lt.toArray⟩)).setCell ⟨g, 7, none⟩ (.string ⟨x.cl.toArray⟩)) nm lt x := by
  have hle : g ≤ g := Nat.le_refl _
  have b_ : Below g wr wr := Below.refl g wr
  have h_ : wr.heap[g]? = some (.cells #[.string ⟨best.nm.toArray⟩, .int .i64 best.vd, .int .i64 best.sd, .string ⟨best.ct.toArray⟩, .int .i64 best.pl, .int .i64 best.mm, .string ⟨best.lt.toArray⟩, .string ⟨best.cl.toArray⟩] 52 (0, 0)) := by rw [hg]; exact h.box
  have b0 := below_set b_ hle 0 (.string ⟨x.nm.toArray⟩)
  have h0 : (wr.setCell ⟨g, 0, none⟩ (.string ⟨x.nm.toArray⟩)).heap[g]? = some (.cells #[.string ⟨x.nm.toArray⟩, .int .i64 best.vd, .int .i64 best.sd, .string ⟨best.ct.toArray⟩, .int .i64 best.pl, .int .i64 best.mm, .string ⟨best.lt.toArray⟩, .string ⟨best.cl.toArray⟩] 52 (0, 0)) := heap_setCell_same wr g 0 _ _ (.string ⟨x.nm.toArray⟩) h_
  generalize wr.setCell ⟨g, 0, none⟩ (.string ⟨x.nm.toArray⟩) = y0 at b0 h0 ⊢
  have b1 := below_set b0 hle 1 (.int .i64 x.vd)
  have h1 : (y0.setCell ⟨g, 1, none⟩ (.int .i64 x.vd)).heap[g]? = some (.cells #[.string ⟨x.nm.toArray⟩, .int .i64 x.vd, .int .i64 best.sd, .string ⟨best.ct.toArray⟩, .int .i64 best.pl, .int .i64 best.mm, .string ⟨best.lt.toArray⟩, .string ⟨best.cl.toArray⟩] 52 (0, 0)) := heap_setCell_same y0 g 1 _ _ (.int .i64 x.vd) h0
  generalize y0.setCell ⟨g, 1, none⟩ (.int .i64 x.vd) = y1 at b1 h1 ⊢
  have b2 := below_set b1 hle 2 (.int .i64 x.sd)
  have h2 : (y1.setCell ⟨g, 2, none⟩ (.int .i64 x.sd)).heap[g]? = some (.cells #[.string ⟨x.nm.toArray⟩, .int .i64 x.vd, .int .i64 x.sd, .string ⟨best.ct.toArray⟩, .int .i64 best.pl, .int .i64 best.mm, .string ⟨best.lt.toArray⟩, .string ⟨best.cl.toArray⟩] 52 (0, 0)) := heap_setCell_same y1 g 2 _ _ (.int .i64 x.sd) h1
  generalize y1.setCell ⟨g, 2, none⟩ (.int .i64 x.sd) = y2 at b2 h2 ⊢
  have b3 := below_set b2 hle 3 (.string ⟨x.ct.toArray⟩)
  have h3 : (y2.setCell ⟨g, 3, none⟩ (.string ⟨x.ct.toArray⟩)).heap[g]? = some (.cells #[.string ⟨x.nm.toArray⟩, .int .i64 x.vd, .int .i64 x.sd, .string ⟨x.ct.toArray⟩, .int .i64 best.pl, .int .i64 best.mm, .string ⟨best.lt.toArray⟩, .string ⟨best.cl.toArray⟩] 52 (0, 0)) := heap_setCell_same y2 g 3 _ _ (.string ⟨x.ct.toArray⟩) h2
  generalize y2.setCell ⟨g, 3, none⟩ (.string ⟨x.ct.toArray⟩) = y3 at b3 h3 ⊢
  have b4 := below_set b3 hle 4 (.int .i64 x.pl)
  have h4 : (y3.setCell ⟨g, 4, none⟩ (.int .i64 x.pl)).heap[g]? = some (.cells #[.string ⟨x.nm.toArray⟩, .int .i64 x.vd, .int .i64 x.sd, .string ⟨x.ct.toArray⟩, .int .i64 x.pl, .int .i64 best.mm, .string ⟨best.lt.toArray⟩, .string ⟨best.cl.toArray⟩] 52 (0, 0)) := heap_setCell_same y3 g 4 _ _ (.int .i64 x.pl) h3
  generalize y3.setCell ⟨g, 4, none⟩ (.int .i64 x.pl) = y4 at b4 h4 ⊢
  have b5 := below_set b4 hle 5 (.int .i64 x.mm)
  have h5 : (y4.setCell ⟨g, 5, none⟩ (.int .i64 x.mm)).heap[g]? = some (.cells #[.string ⟨x.nm.toArray⟩, .int .i64 x.vd, .int .i64 x.sd, .string ⟨x.ct.toArray⟩, .int .i64 x.pl, .int .i64 x.mm, .string ⟨best.lt.toArray⟩, .string ⟨best.cl.toArray⟩] 52 (0, 0)) := heap_setCell_same y4 g 5 _ _ (.int .i64 x.mm) h4
  generalize y4.setCell ⟨g, 5, none⟩ (.int .i64 x.mm) = y5 at b5 h5 ⊢
  have b6 := below_set b5 hle 6 (.string ⟨x.lt.toArray⟩)
  have h6 : (y5.setCell ⟨g, 6, none⟩ (.string ⟨x.lt.toArray⟩)).heap[g]? = some (.cells #[.string ⟨x.nm.toArray⟩, .int .i64 x.vd, .int .i64 x.sd, .string ⟨x.ct.toArray⟩, .int .i64 x.pl, .int .i64 x.mm, .string ⟨x.lt.toArray⟩, .string ⟨best.cl.toArray⟩] 52 (0, 0)) := heap_setCell_same y5 g 6 _ _ (.string ⟨x.lt.toArray⟩) h5
  generalize y5.setCell ⟨g, 6, none⟩ (.string ⟨x.lt.toArray⟩) = y6 at b6 h6 ⊢
  have b7 := below_set b6 hle 7 (.string ⟨x.cl.toArray⟩)
  have h7 : (y6.setCell ⟨g, 7, none⟩ (.string ⟨x.cl.toArray⟩)).heap[g]? = some (.cells #[.string ⟨x.nm.toArray⟩, .int .i64 x.vd, .int .i64 x.sd, .string ⟨x.ct.toArray⟩, .int .i64 x.pl, .int .i64 x.mm, .string ⟨x.lt.toArray⟩, .string ⟨x.cl.toArray⟩] 52 (0, 0)) := heap_setCell_same y6 g 7 _ _ (.string ⟨x.cl.toArray⟩) h6
  generalize y6.setCell ⟨g, 7, none⟩ (.string ⟨x.cl.toArray⟩) = y7 at b7 h7 ⊢
  subst hg
  exact ⟨h.below.trans (b7.mono (by omega)), Nat.le_trans h.size b7.size, (b7.block _ (by omega)).trans h.read, (b7.block _ (by omega)).trans h.res, h7⟩

theorem res_store {wr : World} (x : Rc) (g : Nat) (h_ : wr.heap[g]? = some (.cells #[.string ⟨#[]⟩, .int .i64 0, .int .i64 0, .string ⟨#[]⟩, .int .i64 0, .int .i64 0, .string ⟨#[]⟩, .string ⟨#[]⟩] 52 (0, 0))) :
    (((((((((wr.setCell ⟨g, 0, none⟩ (.string ⟨x.nm.toArray⟩)).setCell ⟨g, 1, none⟩ (.int .i64 x.vd)).setCell ⟨g, 2, none⟩ (.int .i64 x.sd)).setCell ⟨g, 3, none⟩ (.string ⟨x.ct.toArray⟩)).setCell ⟨g, 4, none⟩ (.int .i64 x.pl)).setCell ⟨g, 5, none⟩ (.int .i64 x.mm)).setCell ⟨g, 6, none⟩ (.string ⟨x.lt.toArray⟩)).setCell ⟨g, 7, none⟩ (.string ⟨x.cl.toArray⟩))).heap[g]? = some (.cells x.vals 52 (0, 0)) ∧ Below g wr ((((((((wr.setCell ⟨g, 0, none⟩ (.string ⟨x.nm.toArray⟩)).setCell ⟨g, 1, none⟩ (.int .i64 x.vd)).setCell ⟨g, 2, none⟩ (.int .i64 x.sd)).setCell ⟨g, 3, none⟩ (.string ⟨x.ct.toArray⟩)).setCell ⟨g, 4, none⟩ (.int .i64 x.pl)).setCell ⟨g, 5, none⟩ (.int .i64 x.mm)).setCell ⟨g, 6, none⟩ (.string ⟨x.lt.toArray⟩)).setCell ⟨g, 7, none⟩ (.string ⟨x.cl.toArray⟩)) := by
  have hle : g ≤ g := Nat.le_refl _
  have b_ : Below g wr wr := Below.refl g wr
  have b0 := below_set b_ hle 0 (.string ⟨x.nm.toArray⟩)
  have h0 : (wr.setCell ⟨g, 0, none⟩ (.string ⟨x.nm.toArray⟩)).heap[g]? = some (.cells #[.string ⟨x.nm.toArray⟩, .int .i64 0, .int .i64 0, .string ⟨#[]⟩, .int .i64 0, .int .i64 0, .string ⟨#[]⟩, .string ⟨#[]⟩] 52 (0, 0)) := heap_setCell_same wr g 0 _ _ (.string ⟨x.nm.toArray⟩) h_
  generalize wr.setCell ⟨g, 0, none⟩ (.string ⟨x.nm.toArray⟩) = y0 at b0 h0 ⊢
  have b1 := below_set b0 hle 1 (.int .i64 x.vd)
  have h1 : (y0.setCell ⟨g, 1, none⟩ (.int .i64 x.vd)).heap[g]? = some (.cells #[.string ⟨x.nm.toArray⟩, .int .i64 x.vd, .int .i64 0, .string ⟨#[]⟩, .int .i64 0, .int .i64 0, .string ⟨#[]⟩, .string ⟨#[]⟩] 52 (0, 0)) := heap_setCell_same y0 g 1 _ _ (.int .i64 x.vd) h0
  generalize y0.setCell ⟨g, 1, none⟩ (.int .i64 x.vd) = y1 at b1 h1 ⊢
  have b2 := below_set b1 hle 2 (.int .i64 x.sd)
  have h2 : (y1.setCell ⟨g, 2, none⟩ (.int .i64 x.sd)).heap[g]? = some (.cells #[.string ⟨x.nm.toArray⟩, .int .i64 x.vd, .int .i64 x.sd, .string ⟨#[]⟩, .int .i64 0, .int .i64 0, .string ⟨#[]⟩, .string ⟨#[]⟩] 52 (0, 0)) := heap_setCell_same y1 g 2 _ _ (.int .i64 x.sd) h1
  generalize y1.setCell ⟨g, 2, none⟩ (.int .i64 x.sd) = y2 at b2 h2 ⊢
  have b3 := below_set b2 hle 3 (.string ⟨x.ct.toArray⟩)
  have h3 : (y2.setCell ⟨g, 3, none⟩ (.string ⟨x.ct.toArray⟩)).heap[g]? = some (.cells #[.string ⟨x.nm.toArray⟩, .int .i64 x.vd, .int .i64 x.sd, .string ⟨x.ct.toArray⟩, .int .i64 0, .int .i64 0, .string ⟨#[]⟩, .string ⟨#[]⟩] 52 (0, 0)) := heap_setCell_same y2 g 3 _ _ (.string ⟨x.ct.toArray⟩) h2
  generalize y2.setCell ⟨g, 3, none⟩ (.string ⟨x.ct.toArray⟩) = y3 at b3 h3 ⊢
  have b4 := below_set b3 hle 4 (.int .i64 x.pl)
  have h4 : (y3.setCell ⟨g, 4, none⟩ (.int .i64 x.pl)).heap[g]? = some (.cells #[.string ⟨x.nm.toArray⟩, .int .i64 x.vd, .int .i64 x.sd, .string ⟨x.ct.toArray⟩, .int .i64 x.pl, .int .i64 0, .string ⟨#[]⟩, .string ⟨#[]⟩] 52 (0, 0)) := heap_setCell_same y3 g 4 _ _ (.int .i64 x.pl) h3
  generalize y3.setCell ⟨g, 4, none⟩ (.int .i64 x.pl) = y4 at b4 h4 ⊢
  have b5 := below_set b4 hle 5 (.int .i64 x.mm)
  have h5 : (y4.setCell ⟨g, 5, none⟩ (.int .i64 x.mm)).heap[g]? = some (.cells #[.string ⟨x.nm.toArray⟩, .int .i64 x.vd, .int .i64 x.sd, .string ⟨x.ct.toArray⟩, .int .i64 x.pl, .int .i64 x.mm, .string ⟨#[]⟩, .string ⟨#[]⟩] 52 (0, 0)) := heap_setCell_same y4 g 5 _ _ (.int .i64 x.mm) h4
  generalize y4.setCell ⟨g, 5, none⟩ (.int .i64 x.mm) = y5 at b5 h5 ⊢
  have b6 := below_set b5 hle 6 (.string ⟨x.lt.toArray⟩)
  have h6 : (y5.setCell ⟨g, 6, none⟩ (.string ⟨x.lt.toArray⟩)).heap[g]? = some (.cells #[.string ⟨x.nm.toArray⟩, .int .i64 x.vd, .int .i64 x.sd, .string ⟨x.ct.toArray⟩, .int .i64 x.pl, .int .i64 x.mm, .string ⟨x.lt.toArray⟩, .string ⟨#[]⟩] 52 (0, 0)) := heap_setCell_same y5 g 6 _ _ (.string ⟨x.lt.toArray⟩) h5
  generalize y5.setCell ⟨g, 6, none⟩ (.string ⟨x.lt.toArray⟩) = y6 at b6 h6 ⊢
  have b7 := below_set b6 hle 7 (.string ⟨x.cl.toArray⟩)
  have h7 : (y6.setCell ⟨g, 7, none⟩ (.string ⟨x.cl.toArray⟩)).heap[g]? = some (.cells #[.string ⟨x.nm.toArray⟩, .int .i64 x.vd, .int .i64 x.sd, .string ⟨x.ct.toArray⟩, .int .i64 x.pl, .int .i64 x.mm, .string ⟨x.lt.toArray⟩, .string ⟨x.cl.toArray⟩] 52 (0, 0)) := heap_setCell_same y6 g 7 _ _ (.string ⟨x.cl.toArray⟩) h6
  generalize y6.setCell ⟨g, 7, none⟩ (.string ⟨x.cl.toArray⟩) = y7 at b7 h7 ⊢
  exact ⟨h7, b7⟩

theorem AlB.start (w : World) (nm lt : List UInt8) (best : Rc) :
    AlB w (((w.alloc (.cells #[.string ⟨nm.toArray⟩, .string ⟨lt.toArray⟩] 56)).alloc (.cells #[.string ⟨#[]⟩, .int .i64 0, .int .i64 0, .string ⟨#[]⟩, .int .i64 0, .int .i64 0, .string ⟨#[]⟩, .string ⟨#[]⟩] 52)).alloc (.cells best.vals 52)) nm lt best := by
  refine ⟨(((Below.refl _ _).alloc (Nat.le_refl _) _).alloc (by simp) _).alloc (by simp; omega) _, by simp, ?_, ?_, ?_⟩
  · rw [Below.heap_alloc _ _ _ (by simp; omega), Below.heap_alloc _ _ _ (by simp)]
    exact heap_alloc_new w _
  · rw [Below.heap_alloc _ _ _ (by simp)]
    exact two_heap w _ _
  · have h := heap_alloc_new ((w.alloc (.cells #[.string ⟨nm.toArray⟩, .string ⟨lt.toArray⟩] 56)).alloc (.cells #[.string ⟨#[]⟩, .int .i64 0, .int .i64 0, .string ⟨#[]⟩, .int .i64 0, .int .i64 0, .string ⟨#[]⟩, .string ⟨#[]⟩] 52)) (.cells best.vals 52)
    rw [World.size_alloc, World.size_alloc] at h
    exact h

theorem Al.mis_short (n : Int) : ∀ (s t : List UInt8) (k : Nat), s.length ≤ k → Al.mis n s (t.take k) = Al.mis n s t := by
  intro s
  induction s with
  | nil => intro t k _; simp [Al.mis]
  | cons a s ih =>
    intro t k h
    obtain ⟨k, rfl⟩ : ∃ j, k = j + 1 := ⟨k - 1, by simp at h; omega⟩
    cases t with
    | nil => simp [Al.mis]
    | cons b t => simp only [List.take_succ_cons, Al.mis]; rw [ih t k (by simpa using h)]

theorem Al.err_none {b : Int} {lt : List UInt8} (h : Al.err b lt = 0) : 0 ≤ b ∧ b ≤ 3 ∧ Se.lettersErr lt = 0 ∧ lt.length ≤ 128 := by
  unfold Al.err at h
  split at h
  · simp at h
  · split at h
    · simp at h
    · refine ⟨by omega, by omega, h, ?_⟩
      unfold Se.lettersErr at h
      split at h
      · simp at h
      · split at h
        · simp at h
        · split at h
          · simp at h
          · omega

end Go.Proofs.YtjebhbopmfcopaaGreatDoor

namespace Go.Proofs.YtjebhbopmfcopaaGreatDoor
open Go.RowKit

/-- a candidate: strand, contig, place, letters, mismatches -/
structure Pa.Cd where
  n : Int
  c : Nat
  a : Nat
  s : List UInt8
  m : Nat
/-- the best candidate, and how many are as good -/
structure Pa.Ch where
  b : Pa.Cd
  eq : Nat
def Pa.Cd.vals (x : Pa.Cd) : Array Value := #[.int .i64 x.n, .int .i64 (x.c : Int), .int .i64 (x.a : Int), .string ⟨x.s.toArray⟩, .int .i64 (x.m : Int)]
def Pa.Ch.vals (x : Pa.Ch) : Array Value := #[.int .i64 x.b.n, .int .i64 (x.b.c : Int), .int .i64 (x.b.a : Int), .string ⟨x.b.s.toArray⟩, .int .i64 (x.b.m : Int), .int .i64 (x.eq : Int)]
def Pa.zero : Pa.Ch := ⟨⟨0, 0, 0, [], 0⟩, 0⟩
def Pa.weigh (x : Pa.Ch) (o : Pa.Cd) : Pa.Ch := if x.eq = 0 then ⟨o, 1⟩ else if o.m < x.b.m then ⟨o, 1⟩ else if o.m = x.b.m then ⟨x.b, x.eq + 1⟩ else x

/-- a world in which one block alone has turned -/
structure Pa.T (g : Nat) (w w' : World) (A : Array Value) : Prop where
  os : w'.os = w.os
  tape : w'.tape = w.tape
  output : w'.output = w.output
  size : w.heap.size ≤ w'.heap.size
  other : ∀ k, k < w.heap.size → k ≠ g → w'.heap[k]? = w.heap[k]?
  row : w'.heap[g]? = some (.cells A 103 (0, 0))

theorem Pa.T.refl {g : Nat} {w : World} {A : Array Value} (h : w.heap[g]? = some (.cells A 103 (0, 0))) : Pa.T g w w A := ⟨rfl, rfl, rfl, Nat.le_refl _, fun _ _ _ => rfl, h⟩
theorem Pa.T.set {g : Nat} {w w' : World} {A : Array Value} (h : Pa.T g w w' A) (i : Nat) (v : Value) : Pa.T g w (w'.setCell ⟨g, i, none⟩ v) (A.setIfInBounds i v) := by
  have hb := below_set (Below.refl g w') (Nat.le_refl g) i v
  exact ⟨hb.os.trans h.os, hb.tape.trans h.tape, hb.output.trans h.output, Nat.le_trans h.size hb.size, fun k hk hg => (heap_setCell_other w' ⟨g, i, none⟩ k v hg).trans (h.other k hk hg), heap_setCell_same w' g i A _ v h.row⟩
theorem Pa.T.below {g : Nat} {w w' w'' : World} {A : Array Value} (h : Pa.T g w w' A) (hb : Below w'.heap.size w' w'') : Pa.T g w w'' A := by
  have hg : g < w'.heap.size := by
    rcases Nat.lt_or_ge g w'.heap.size with h1 | h1
    · exact h1
    · have := h.row; rw [Array.getElem?_eq_none h1] at this; cases this
  have hs := h.size
  exact ⟨hb.os.trans h.os, hb.tape.trans h.tape, hb.output.trans h.output, Nat.le_trans h.size hb.size, fun k hk hk2 => (hb.block k (by omega)).trans (h.other k hk hk2), (hb.block g hg).trans h.row⟩
theorem Pa.T.alloc {g : Nat} {w w' : World} {A : Array Value} (h : Pa.T g w w' A) (o : Obj) (n : Nat) : Pa.T g w ((w'.alloc o).drewN n) A := h.below (below_drewN ((Below.refl _ _).alloc (Nat.le_refl _) o) n)
/-- what lies beneath the block is as it was -/
theorem Pa.T.beneath {g B : Nat} {w w' : World} {A : Array Value} (h : Pa.T g w w' A) (hB : B ≤ g) (hB2 : B ≤ w.heap.size) : Below B w w' := ⟨h.os, h.tape, h.output, h.size, fun k hk => h.other k (by omega) (by omega)⟩

set_option maxRecDepth 100000 in
set_option maxHeartbeats 1600000 in
theorem pweigh (x : Pa.Ch) (o : Pa.Cd) (g : Nat) (w : World) (hrow : w.heap[g]? = some (.cells x.vals 103 (0, 0))) (he : x.eq ≤ 1000000000) :
    Calls Tryz.prog 88 #[.pointer (some ⟨g, 0, none⟩), .agg o.vals] w fun e w' => e = .returned (.tuple #[]) ∧ Pa.T g w w' (Pa.weigh x o).vals := by
  have HT : Hid (Pa.T g w w x.vals) := Pa.T.refl hrow
  obtain ⟨R, hR⟩ : ∃ R, R = Pa.weigh x o := ⟨_, rfl⟩
  rw [← hR]
  unfold Pa.weigh at hR
  obtain ⟨⟨xn, xc, xa, xs, xm⟩, eq⟩ := x
  obtain ⟨on, oc, oa, os, om⟩ := o
  dsimp only [Pa.Ch.vals, Pa.Cd.vals] at *
  have c4 : w.cell? ⟨g, 4, none⟩ = some (.int .i64 (xm : Int)) := cell_of_row w g 4 _ _ _ hrow
  have c5 : w.cell? ⟨g, 5, none⟩ = some (.int .i64 (eq : Int)) := cell_of_row w g 5 _ _ _ hrow
  have c0 : w.cell? ⟨g, 0, none⟩ = some (.int .i64 xn) := cell_of_row w g 0 _ _ _ hrow
  have c1 : w.cell? ⟨g, 1, none⟩ = some (.int .i64 (xc : Int)) := cell_of_row w g 1 _ _ _ hrow
  have c2 : w.cell? ⟨g, 2, none⟩ = some (.int .i64 (xa : Int)) := cell_of_row w g 2 _ _ _ hrow
  have c3 : w.cell? ⟨g, 3, none⟩ = some (.string ⟨xs.toArray⟩) := cell_of_row w g 3 _ _ _ hrow
  have f0 : w.frozen? ⟨g, 0, none⟩ = false := frozen_of_row w g 0 _ _ hrow
  have f1 : w.frozen? ⟨g, 1, none⟩ = false := frozen_of_row w g 1 _ _ hrow
  have f2 : w.frozen? ⟨g, 2, none⟩ = false := frozen_of_row w g 2 _ _ hrow
  have f3 : w.frozen? ⟨g, 3, none⟩ = false := frozen_of_row w g 3 _ _ hrow
  have f4 : w.frozen? ⟨g, 4, none⟩ = false := frozen_of_row w g 4 _ _ hrow
  have f5 : w.frozen? ⟨g, 5, none⟩ = false := frozen_of_row w g 5 _ _ hrow
  have hgs : g < w.heap.size := World.block_lt_of_cell? w _ c5
  clear hrow
  by_cases h0 : eq = 0
  · rw [if_pos h0] at hR
    subst h0
    have HR : Hid _ := hR
    clear hR
    go_enter Tryz.func88, Tryz.ntmps88
    go_wp2_with fail
    go_quiet (fail)
    go_wp2
    go_end0
    exact ⟨rfl, by rw [HR.out]; exact ((((((HT.out.alloc _ _).set 0 _).set 1 _).set 2 _).set 3 _).set 4 _).set 5 _⟩
  · rw [if_neg h0] at hR
    have h0' : ((eq : Int) == 0) = false := by rw [beq_eq_false_iff_ne]; omega
    clear h0
    by_cases h1 : om < xm
    · rw [if_pos h1] at hR
      have h1' : (om : Int) < (xm : Int) := by omega
      have HR : Hid _ := hR
      clear hR h1
      go_enter Tryz.func88, Tryz.ntmps88
      go_wp2_with fail
      go_quiet (fail)
      go_wp2
      go_end0
      exact ⟨rfl, by rw [HR.out]; exact ((((((HT.out.alloc _ _).set 0 _).set 1 _).set 2 _).set 3 _).set 4 _).set 5 _⟩
    · rw [if_neg h1] at hR
      have h1' : ¬ (om : Int) < (xm : Int) := by omega
      clear h1
      by_cases h2 : om = xm
      · rw [if_pos h2] at hR
        subst h2
        have HR : Hid _ := hR
        clear hR
        go_enter Tryz.func88, Tryz.ntmps88
        go_wp2_with fail
        go_quiet (fail)
        go_wp2_with fail
        go_quiet (fail)
        go_wp2
        go_end0
        exact ⟨rfl, by rw [HR.out]; exact (HT.out.alloc _ _).set 5 _⟩
      · rw [if_neg h2] at hR
        have h2' : ((om : Int) == (xm : Int)) = false := by rw [beq_eq_false_iff_ne]; omega
        have HR : Hid _ := hR
        clear hR h2
        go_enter Tryz.func88, Tryz.ntmps88
        go_wp2_with fail
        go_quiet (fail)
        go_wp2_with fail
        go_quiet (fail)
        go_wp2
        go_end0
        exact ⟨rfl, by rw [HR.out]; simp only [drewN_more]; exact HT.out.alloc _ _⟩

end Go.Proofs.YtjebhbopmfcopaaGreatDoor
