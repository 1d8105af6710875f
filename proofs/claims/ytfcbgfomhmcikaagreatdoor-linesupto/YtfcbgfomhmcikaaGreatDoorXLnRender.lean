/-
  THE DOCUMENT'S Render. Own text of the verifier.
-/
import Derived.Test.YtfcbgfomhmcikaaGreatDoorBun5
import Derived.Test.YtfcbgfomhmcikaaGreatDoorBun3
namespace Go.Proofs.YtfcbgfomhmcikaaGreatDoor
open Go.RowKit

def rcCells (r : Rc) : List Value := [.string ⟨r.nm.toArray⟩, .int .i64 r.vd, .int .i64 r.sd, .string ⟨r.ct.toArray⟩, .int .i64 r.pl, .int .i64 r.mm, .string ⟨r.lt.toArray⟩, .string ⟨r.cl.toArray⟩]
def Rcs (l : List Rc) : List Value := l.flatMap rcCells
theorem Rcs_length (l : List Rc) : (Rcs l).length = l.length * 8 := by
  induction l with
  | nil => rfl
  | cons a l ih => rw [Rcs, List.flatMap_cons, List.length_append, ← Rcs, ih, List.length_cons]; simp [rcCells]; omega
theorem Rcs_append (l r : List Rc) : Rcs (l ++ r) = Rcs l ++ Rcs r := by simp [Rcs]
theorem Rcs_at (l : List Rc) (k : Nat) (h : k < l.length) (j : Nat) (hj : j < 8) : (Rcs l)[k * 8 + j]? = (rcCells l[k])[j]? := by
  induction l generalizing k with
  | nil => simp at h
  | cons o l ih =>
    rw [Rcs, List.flatMap_cons]
    cases k with
    | zero => rw [List.getElem?_append_left (by simp [rcCells]; omega)]; simp
    | succ k =>
      rw [List.getElem?_append_right (by simp [rcCells]; omega)]
      have e : (k + 1) * 8 + j - (rcCells o).length = k * 8 + j := by simp [rcCells]; omega
      rw [e]
      have := ih k (by simpa using h)
      rw [Rcs] at this
      rw [this]
      simp
theorem Rcs_one (l : List Rc) : ∀ u ∈ Rcs l, u.oneCell' = true := by
  intro u hu
  obtain ⟨o, _, hu⟩ := List.mem_flatMap.1 hu
  simp only [rcCells, List.mem_cons, List.not_mem_nil, or_false] at hu
  rcases hu with rfl | rfl | rfl | rfl | rfl | rfl | rfl | rfl <;> rfl

theorem addr_some (ad : Addr) (k i : Nat) (hi : 0 < i) : (⟨(ad.add k).block, (ad.add k).off + i, none⟩ : Addr) = ad.add (k + i) := by
  unfold Addr.add
  by_cases h : k = 0
  · simp [h]; omega
  · simp [h]; omega

/-- the cells of one record among several, as a walk asks for them -/
theorem rc_src {w : World} {ad : Addr} {l : List Rc} (h : ∀ j u, (Rcs l)[j]? = some u → w.cell? (ad.add j) = some u) (k : Nat) (hk : k < l.length) :
    w.cell? (ad.add (k * 8)) = some (.string ⟨l[k].nm.toArray⟩) ∧ w.cell? ⟨(ad.add (k * 8)).block, (ad.add (k * 8)).off + 1, none⟩ = some (.int .i64 l[k].vd) ∧ w.cell? ⟨(ad.add (k * 8)).block, (ad.add (k * 8)).off + 2, none⟩ = some (.int .i64 l[k].sd) ∧
    w.cell? ⟨(ad.add (k * 8)).block, (ad.add (k * 8)).off + 3, none⟩ = some (.string ⟨l[k].ct.toArray⟩) ∧ w.cell? ⟨(ad.add (k * 8)).block, (ad.add (k * 8)).off + 4, none⟩ = some (.int .i64 l[k].pl) ∧ w.cell? ⟨(ad.add (k * 8)).block, (ad.add (k * 8)).off + 5, none⟩ = some (.int .i64 l[k].mm) ∧
    w.cell? ⟨(ad.add (k * 8)).block, (ad.add (k * 8)).off + 6, none⟩ = some (.string ⟨l[k].lt.toArray⟩) ∧ w.cell? ⟨(ad.add (k * 8)).block, (ad.add (k * 8)).off + 7, none⟩ = some (.string ⟨l[k].cl.toArray⟩) := by
  have g : ∀ j u, j < 8 → (rcCells l[k])[j]? = some u → w.cell? (ad.add (k * 8 + j)) = some u := fun j u hj hu => h _ _ ((Rcs_at l k hk j hj).trans hu)
  refine ⟨g 0 _ (by omega) rfl, ?_, ?_, ?_, ?_, ?_, ?_, ?_⟩
  · rw [addr_some _ _ _ (by omega)]; exact g 1 _ (by omega) rfl
  · rw [addr_some _ _ _ (by omega)]; exact g 2 _ (by omega) rfl
  · rw [addr_some _ _ _ (by omega)]; exact g 3 _ (by omega) rfl
  · rw [addr_some _ _ _ (by omega)]; exact g 4 _ (by omega) rfl
  · rw [addr_some _ _ _ (by omega)]; exact g 5 _ (by omega) rfl
  · rw [addr_some _ _ _ (by omega)]; exact g 6 _ (by omega) rfl
  · rw [addr_some _ _ _ (by omega)]; exact g 7 _ (by omega) rfl

/-- Render: the error, and the text -/
def Ln.renderErr (l : List Rc) : Int := if l.all Rc.right then 0 else 9
def Ln.lines (l : List Rc) : List UInt8 := l.flatMap Rc.line
def Ln.render (l : List Rc) : List UInt8 := if l.all Rc.right then Ln.lines l else []

theorem Ln.lines_snoc (l : List Rc) (k : Nat) (h : k < l.length) : Ln.lines (l.take (k + 1)) = Ln.lines (l.take k) ++ l[k].line := by
  rw [List.take_succ_eq_append_getElem h, Ln.lines, List.flatMap_append, ← Ln.lines]
  simp
theorem Ln.lines_length : ∀ (l : List Rc), l.all Rc.right = true → (Ln.lines l).length ≤ l.length * 400 := by
  intro l
  induction l with
  | nil => intro _; simp [Ln.lines]
  | cons a l ih =>
    intro h
    rw [List.all_cons, Bool.and_eq_true] at h
    have h1 := Rc.line_length h.1
    have h2 := ih h.2
    rw [Ln.lines, List.flatMap_cons, List.length_append, ← Ln.lines, List.length_cons]
    omega

set_option maxRecDepth 100000 in
set_option maxHeartbeats 1600000 in
theorem refRender_row (l : List Rc) (ad : Addr) (cc : Nat) (w : World) (hl : l.length ≤ 10000000000000) (hS : ∀ r ∈ l, r.Small) (hsrc : ∀ j u, (Rcs l)[j]? = some u → w.cell? (ad.add j) = some u) :
    Calls Tryz.prog 44 #[.slice (some ad) l.length cc] w fun e w' => e = .returned (.tuple #[.string ⟨(Ln.render l).toArray⟩, .int .i64 (Ln.renderErr l)]) ∧ Below w.heap.size w w' := by
  have HS : Hid _ := hS
  have HSRC : Hid _ := hsrc
  obtain ⟨R, hR⟩ : ∃ R, R = Ln.render l := ⟨_, rfl⟩
  obtain ⟨E, hE⟩ : ∃ E, E = Ln.renderErr l := ⟨_, rfl⟩
  rw [← hR, ← hE]
  have HR : Hid _ := hR
  have HE : Hid _ := hE
  clear hS hsrc hR hE
  go_enter Tryz.func44, Tryz.ntmps44
  go_wp2
  go_loopw [4, 5] (fun t i wr => ∃ (k : Nat) (x : List UInt8), k ≤ l.length ∧ i = .int .i64 (k : Int) ∧ t = .string ⟨x.toArray⟩ ∧ x.length ≤ k * 400 ∧ Hid (x = Ln.lines (l.take k)) ∧ Hid ((l.take k).all Rc.right = true) ∧ Below w.heap.size w wr) (fun _ i _ => l.length - (intOf i).toNat)
  case atStart => exact ⟨0, [], Nat.zero_le _, rfl, rfl, by simp, by simp [Hid, Ln.lines], by simp [Hid], Below.refl _ _⟩
  case round =>
    obtain ⟨k, x, hk, rfl, rfl, hxl, HX, HA, hbel⟩ := hrel
    by_cases hlt : k < l.length
    · have hlt' : (k : Int) < (l.length : Int) := by omega
      have hcs := rc_src HSRC.out k hlt
      have hblk := World.block_lt_of_cell? w _ hcs.1
      obtain ⟨r, hr⟩ : ∃ r, r = l[k] := ⟨_, rfl⟩
      have HSM : Hid _ := HS.out l[k] (List.getElem_mem _)
      have HLS : Hid _ := Ln.lines_snoc l k hlt
      have HAT : Hid ((l.take (k + 1)).all Rc.right = ((l.take k).all Rc.right && r.right)) := by show _ = _; rw [List.take_succ_eq_append_getElem hlt, List.all_append, hr]; simp
      have HAS : Hid (r.right = false → l.all Rc.right = false) := fun h => by rw [List.all_eq_false]; exact ⟨l[k], List.getElem_mem _, by rw [← hr, h]; simp⟩
      rw [← hr] at hcs HSM HLS
      have HC : Hid (∀ W, Below w.heap.size w W → W.cell? (ad.add (k * 8)) = some (.string ⟨r.nm.toArray⟩) ∧ W.cell? ⟨(ad.add (k * 8)).block, (ad.add (k * 8)).off + 1, none⟩ = some (.int .i64 r.vd) ∧ W.cell? ⟨(ad.add (k * 8)).block, (ad.add (k * 8)).off + 2, none⟩ = some (.int .i64 r.sd) ∧
          W.cell? ⟨(ad.add (k * 8)).block, (ad.add (k * 8)).off + 3, none⟩ = some (.string ⟨r.ct.toArray⟩) ∧ W.cell? ⟨(ad.add (k * 8)).block, (ad.add (k * 8)).off + 4, none⟩ = some (.int .i64 r.pl) ∧ W.cell? ⟨(ad.add (k * 8)).block, (ad.add (k * 8)).off + 5, none⟩ = some (.int .i64 r.mm) ∧
          W.cell? ⟨(ad.add (k * 8)).block, (ad.add (k * 8)).off + 6, none⟩ = some (.string ⟨r.lt.toArray⟩) ∧ W.cell? ⟨(ad.add (k * 8)).block, (ad.add (k * 8)).off + 7, none⟩ = some (.string ⟨r.cl.toArray⟩)) := fun W hb => by
        have e0 : W.cell? (ad.add (k * 8)) = w.cell? (ad.add (k * 8)) := hb.cell hblk
        have e : ∀ i, W.cell? ⟨(ad.add (k * 8)).block, (ad.add (k * 8)).off + i, none⟩ = w.cell? ⟨(ad.add (k * 8)).block, (ad.add (k * 8)).off + i, none⟩ := fun i => hb.cell (p := ⟨(ad.add (k * 8)).block, (ad.add (k * 8)).off + i, none⟩) hblk
        rw [e0, e, e, e, e, e, e, e]
        exact hcs
      clear hr hcs
      obtain ⟨q0, q1, q2, q3, q4, q5, q6, q7⟩ := HC.out wr hbel
      cases hrt : r.right with
      | false =>
        have HF : Hid (R = [] ∧ E = 9) := by
          have h1 := HAS.out hrt
          exact ⟨by rw [HR.out, Ln.render, h1]; rfl, by rw [HE.out, Ln.renderErr, h1]; rfl⟩
        have HRT : Hid _ := hrt
        have HB : Hid _ := hbel
        clear hrt HAS HAT HLS HX HA hbel
        go_wp2_with fail
        refine (right_any r _ HSM.out).mono ?_
        rw [HRT.out]
        rintro e w1 ⟨rfl, hb1⟩
        go_wp2
        go_ret2
        exact ⟨by rw [HF.out.1, HF.out.2]; rfl, HB.out.trans (hb1.mono HB.out.size)⟩
      | true =>
        have HRT : Hid _ := hrt
        have hll := Rc.line_length hrt
        obtain ⟨Lr, hLr⟩ : ∃ Lr, Lr = r.line := ⟨_, rfl⟩
        rw [← hLr] at hll HLS
        have HX2 : Hid (x ++ Lr = Ln.lines (l.take (k + 1))) := by show _ = _; rw [HLS.out, HX.out]
        have HA2 : Hid ((l.take (k + 1)).all Rc.right = true) := by show _ = _; rw [HAT.out, HA.out, hrt]; rfl
        obtain ⟨y, hy⟩ : ∃ y, y = x ++ Lr := ⟨_, rfl⟩
        have hyl : y.length ≤ (k + 1) * 400 := by rw [hy, List.length_append]; omega
        have hadd := add_hid x Lr y hy (by omega)
        have HLN : Hid (∀ W : World, Calls Tryz.prog 78 #[.agg r.vals] W fun e w' => e = .returned (.string ⟨Lr.toArray⟩) ∧ Below W.heap.size W w') := fun W => by rw [hLr]; exact line_any r W hrt
        rw [← hy] at HX2
        have HB : Hid _ := hbel
        clear hrt HAS HAT HLS HX HA hbel hy hLr
        go_wp2_with fail
        refine (right_any r _ HSM.out).mono ?_
        rw [HRT.out]
        rintro e w1 ⟨rfl, hb1⟩
        have hb1' := HB.out.trans (hb1.mono HB.out.size)
        obtain ⟨t0, t1, t2, t3, t4, t5, t6, t7⟩ := HC.out w1 hb1'
        have HB1 : Hid _ := hb1'
        clear hb1 hb1' q0 q1 q2 q3 q4 q5 q6 q7
        go_wp2_with fail
        refine (HLN.out _).mono ?_
        rintro e w2 ⟨rfl, hb2⟩
        have HB2 : Hid _ := HB1.out.trans (hb2.mono HB1.out.size)
        clear hb2 t0 t1 t2 t3 t4 t5 t6 t7
        go_wp2
        go_roundw
        case rel => exact ⟨k + 1, y, by omega, by go_num, rfl, hyl, HX2.out, HA2.out, HB2.out⟩
        case measure => simp [intOf]; omega
    · have hke : k = l.length := by omega
      have HF : Hid (R = x ∧ E = 0) := by
        have h1 := HA.out
        have h2 := HX.out
        rw [hke, List.take_length] at h1 h2
        exact ⟨by rw [HR.out, Ln.render, h1, h2]; rfl, by rw [HE.out, Ln.renderErr, h1]; rfl⟩
      have hlt' : ¬ (k : Int) < (l.length : Int) := by omega
      clear hke HA HX
      go_wp2
      go_ret2
      exact ⟨by rw [HF.out.1, HF.out.2]; rfl, hbel⟩

set_option maxRecDepth 100000 in
set_option maxHeartbeats 400000 in
theorem refRender_nil (w : World) : Calls Tryz.prog 44 #[.slice none 0 0] w fun e w' => e = .returned (.tuple #[.string ⟨(Ln.render []).toArray⟩, .int .i64 (Ln.renderErr [])]) ∧ Below w.heap.size w w' := by
  go_enter Tryz.func44, Tryz.ntmps44
  go_wp2
  refine wp_loop_rounds 1 ?_
  rw [rounds_succ]
  go_wp2
  go_ret2
  exact ⟨rfl, Below.refl _ _⟩

end Go.Proofs.YtfcbgfomhmcikaaGreatDoor
