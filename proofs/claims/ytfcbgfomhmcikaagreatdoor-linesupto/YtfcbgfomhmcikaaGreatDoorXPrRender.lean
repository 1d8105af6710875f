/-
  THE WALK of the program's Render. Own text of the verifier.
-/
import Derived.Test.YtfcbgfomhmcikaaGreatDoorXPrLineFull
import Derived.Test.YtfcbgfomhmcikaaGreatDoorBun14
namespace Go.Proofs.YtfcbgfomhmcikaaGreatDoor
open Go.RowKit

theorem lineOf_any (r : Rc) (w : World) (hr : r.right = true) (hG : LnG w) :
    Calls Tryz.prog 75 #[.agg r.vals] w fun e w' => e = .returned (.string ⟨r.line.toArray⟩) ∧ Below w.heap.size w w' := by
  by_cases hv : r.vd = 1
  · exact lineOf_full r w hr hv hG
  · exact lineOf_bare r w hr hv hG

/-- the first k lines, and empty texts behind them -/
def Ln.part (rs : List Rc) (k : Nat) : List Value := (rs.take k).map (fun r => Value.string ⟨r.line.toArray⟩) ++ List.replicate (rs.length - k) (.string ⟨#[]⟩)
theorem Ln.part_zero (rs : List Rc) : Ln.part rs 0 = List.replicate rs.length (.string ⟨#[]⟩) := by simp [Ln.part]
theorem Ln.part_whole (rs : List Rc) : Ln.part rs rs.length = rs.map (fun r => Value.string ⟨r.line.toArray⟩) := by simp [Ln.part]
theorem Ln.part_set (rs : List Rc) (k : Nat) (h : k < rs.length) : (Ln.part rs k).set k (.string ⟨rs[k].line.toArray⟩) = Ln.part rs (k + 1) := by
  unfold Ln.part
  have h1 : ((rs.take k).map (fun r => Value.string ⟨r.line.toArray⟩)).length = k := by rw [List.length_map, List.length_take]; omega
  rw [List.set_append, if_neg (by omega), h1, Nat.sub_self, List.take_succ_eq_append_getElem h]
  obtain ⟨m, hm⟩ : ∃ m, rs.length - k = m + 1 := ⟨rs.length - k - 1, by omega⟩
  rw [hm, show rs.length - (k + 1) = m by omega, List.replicate_succ, List.set_cons_zero]
  simp only [List.map_append, List.map_cons, List.map_nil, List.append_assoc, List.singleton_append]
theorem Ln.join_lines (rs : List Rc) : Lib.join (rs.map Rc.line) [] = Ln.lines rs := by
  have e : ∀ l : List (List UInt8), Lib.join l [] = l.flatten := fun l => by
    unfold Lib.join List.intercalate
    induction l with
    | nil => rfl
    | cons a l ih =>
      cases l with
      | nil => simp [List.intersperse]
      | cons b l => rw [List.intersperse_cons_cons]; simp only [List.flatten_cons, List.nil_append] at ih ⊢; rw [ih]
  rw [e, Ln.lines, List.flatMap]

set_option maxRecDepth 100000 in
set_option maxHeartbeats 1600000 in
theorem render_row (rs : List Rc) (G cc : Nat) (la : Option Addr) (w : World) (hla : 0 < rs.length → la = some ⟨G, 0, none⟩) (hn : rs.length ≤ 10000000) (hS : ∀ r ∈ rs, r.Small) (hsrc : ∀ j u, (Rcs rs)[j]? = some u → w.cell? ((⟨G, 0, none⟩ : Addr).add j) = some u) (hG : LnG w) :
    Calls Tryz.prog 43 #[.slice la rs.length cc] w fun e w' => e = .returned (.tuple #[.string ⟨(Ln.render rs).toArray⟩, .int .i64 (Ln.renderErr rs)]) ∧ Below w.heap.size w w' := by
  have HS : Hid _ := hS
  have HSRC : Hid _ := hsrc
  have HG : Hid _ := hG
  have hfew := hG.few
  obtain ⟨R, hR⟩ : ∃ R, R = Ln.render rs := ⟨_, rfl⟩
  obtain ⟨E, hE⟩ : ∃ E, E = Ln.renderErr rs := ⟨_, rfl⟩
  rw [← hR, ← hE]
  have HR : Hid _ := hR
  have HE : Hid _ := hE
  clear hS hsrc hR hE hG
  obtain ⟨i0, hi, hz0, hz1, hz2⟩ := info_parts Tryz.infoStr
  go_enter Tryz.func43, Tryz.ntmps43
  go_wp2_with (at_make; refine wpList_make_full _ rfl _ _ 120 rfl w.heap.size 9 i0 (.string ⟨#[]⟩) 1 Tryz.underlying120 hi hz0 hz1 _ _ _ _ rs.length rfl rfl rfl rfl (by rw [hz2]; omega) (by unfold maxLen; omega) (Nat.le_refl _) ?_; intro w1 hown0 hgrow; rw [show (madeCells (Value.string ⟨#[]⟩).cells (rs.length * 1)).toList = List.replicate rs.length (.string ⟨#[]⟩) from by rw [Nat.mul_one]; exact toList_madeCells_one _ _] at hown0)
  have hb1 : Below w.heap.size w w1 := (Below.refl _ _).grown hgrow (Nat.le_refl _) (fun k hk => by cases hk)
  clear hgrow
  go_loopw [12] (fun i wr => ∃ k : Nat, k ≤ rs.length ∧ i = .int .i64 (k : Int) ∧ wr.ownsRow w.heap.size 9 1 (.slice (some ⟨w.heap.size, 0, none⟩) rs.length rs.length) rs.length (Ln.part rs k) ∧ Hid ((rs.take k).all Rc.right = true) ∧ Below w.heap.size w wr) (fun i _ => rs.length - (intOf i).toNat)
  case atStart => exact ⟨0, Nat.zero_le _, rfl, by rw [Ln.part_zero]; exact hown0, by simp [Hid], hb1⟩
  case round =>
    clear hown0 hb1
    obtain ⟨k, hk, rfl, hown, HA, hbel⟩ := hrel
    by_cases hlt : k < rs.length
    · have hlt' : (k : Int) < (rs.length : Int) := by omega
      obtain rfl := hla (by omega)
      clear hla
      obtain ⟨r, hr⟩ : ∃ r, r = rs[k] := ⟨_, rfl⟩
      have HSM : Hid _ := HS.out rs[k] (List.getElem_mem _)
      have HAT : Hid ((rs.take (k + 1)).all Rc.right = ((rs.take k).all Rc.right && r.right)) := by show _ = _; rw [List.take_succ_eq_append_getElem hlt, List.all_append, hr]; simp
      have HAS : Hid (r.right = false → rs.all Rc.right = false) := fun h => by rw [List.all_eq_false]; exact ⟨rs[k], List.getElem_mem _, by rw [← hr, h]; simp⟩
      have HSET : Hid _ := Ln.part_set rs k hlt
      have gc : ∀ i u, i < 8 → (rcCells rs[k])[i]? = some u → wr.cell? ⟨G, k * 8 + i, none⟩ = some u := fun i u hi hu => by
        have h0 := HSRC.out (k * 8 + i) u ((Rcs_at rs k hlt i hi).trans hu)
        rw [Addr.add_lit, Nat.zero_add] at h0
        exact (hbel.cell (World.block_lt_of_cell? w _ h0)).trans h0
      rw [← hr] at HSM HSET gc
      clear hr
      obtain ⟨n, v, s, c, p, m, l, y⟩ := r
      have q0 : wr.cell? ⟨G, k * 8, none⟩ = some (.string ⟨n.toArray⟩) := gc 0 _ (by omega) rfl
      have q1 : wr.cell? ⟨G, k * 8 + 1, none⟩ = some (.int .i64 v) := gc 1 _ (by omega) rfl
      have q2 : wr.cell? ⟨G, k * 8 + 2, none⟩ = some (.int .i64 s) := gc 2 _ (by omega) rfl
      have q3 : wr.cell? ⟨G, k * 8 + 3, none⟩ = some (.string ⟨c.toArray⟩) := gc 3 _ (by omega) rfl
      have q4 : wr.cell? ⟨G, k * 8 + 4, none⟩ = some (.int .i64 p) := gc 4 _ (by omega) rfl
      have q5 : wr.cell? ⟨G, k * 8 + 5, none⟩ = some (.int .i64 m) := gc 5 _ (by omega) rfl
      have q6 : wr.cell? ⟨G, k * 8 + 6, none⟩ = some (.string ⟨l.toArray⟩) := gc 6 _ (by omega) rfl
      have q7 : wr.cell? ⟨G, k * 8 + 7, none⟩ = some (.string ⟨y.toArray⟩) := gc 7 _ (by omega) rfl
      obtain ⟨RT, hRT⟩ : ∃ RT, RT = Rc.right ⟨n, v, s, c, p, m, l, y⟩ := ⟨_, rfl⟩
      obtain ⟨LN, hLN⟩ : ∃ LN, LN = Rc.line ⟨n, v, s, c, p, m, l, y⟩ := ⟨_, rfl⟩
      have HRI : Hid (∀ W, Calls Tryz.prog 74 #[.agg #[.string ⟨n.toArray⟩, .int .i64 v, .int .i64 s, .string ⟨c.toArray⟩, .int .i64 p, .int .i64 m, .string ⟨l.toArray⟩, .string ⟨y.toArray⟩]] W fun e w' => e = .returned (.bool RT) ∧ Below W.heap.size W w') := fun W => by rw [hRT]; exact isRight_any _ W HSM.out
      have HLO : Hid (RT = true → ∀ W, LnG W → Calls Tryz.prog 75 #[.agg #[.string ⟨n.toArray⟩, .int .i64 v, .int .i64 s, .string ⟨c.toArray⟩, .int .i64 p, .int .i64 m, .string ⟨l.toArray⟩, .string ⟨y.toArray⟩]] W fun e w' => e = .returned (.string ⟨LN.toArray⟩) ∧ Below W.heap.size W w') := fun h W hg => by rw [hLN]; exact lineOf_any ⟨n, v, s, c, p, m, l, y⟩ W (by rw [← hRT]; exact h) hg
      rw [← hRT] at HAT HAS
      have HSET2 : Hid ((Ln.part rs k).set k (.string ⟨LN.toArray⟩) = Ln.part rs (k + 1)) := by rw [hLN]; exact HSET.out
      clear HSET
      have HSET : Hid _ := HSET2.out
      clear HSET2
      have HO : Hid _ := hown
      have HB : Hid _ := hbel
      have hB0 := hbel.size
      clear gc hRT hLN HSM hown hbel
      go_wp2_with fail
      refine (HRI.out _).mono ?_
      rintro e w2 ⟨rfl, hb2⟩
      have hbx : w2.heap[wr.heap.size]? = some (.cells #[.string ⟨n.toArray⟩, .int .i64 v, .int .i64 s, .string ⟨c.toArray⟩, .int .i64 p, .int .i64 m, .string ⟨l.toArray⟩, .string ⟨y.toArray⟩] 47 (0, 0)) := (hb2.block _ (by simp)).trans (heap_alloc_new wr _)
      have HB2 : Hid (Below wr.heap.size wr w2) := ((Below.refl _ _).alloc (Nat.le_refl _) _).trans (hb2.mono (by simp))
      have b0 : w2.cell? ⟨wr.heap.size, 0, none⟩ = some (.string ⟨n.toArray⟩) := cell_of_row _ _ 0 _ _ _ hbx
      have b1 : w2.cell? ⟨wr.heap.size, 1, none⟩ = some (.int .i64 v) := cell_of_row _ _ 1 _ _ _ hbx
      have b2 : w2.cell? ⟨wr.heap.size, 2, none⟩ = some (.int .i64 s) := cell_of_row _ _ 2 _ _ _ hbx
      have b3 : w2.cell? ⟨wr.heap.size, 3, none⟩ = some (.string ⟨c.toArray⟩) := cell_of_row _ _ 3 _ _ _ hbx
      have b4 : w2.cell? ⟨wr.heap.size, 4, none⟩ = some (.int .i64 p) := cell_of_row _ _ 4 _ _ _ hbx
      have b5 : w2.cell? ⟨wr.heap.size, 5, none⟩ = some (.int .i64 m) := cell_of_row _ _ 5 _ _ _ hbx
      have b6 : w2.cell? ⟨wr.heap.size, 6, none⟩ = some (.string ⟨l.toArray⟩) := cell_of_row _ _ 6 _ _ _ hbx
      have b7 : w2.cell? ⟨wr.heap.size, 7, none⟩ = some (.string ⟨y.toArray⟩) := cell_of_row _ _ 7 _ _ _ hbx
      clear hbx hb2 q0 q1 q2 q3 q4 q5 q6 q7 HRI
      cases RT with
      | false =>
        have HF : Hid (R = [] ∧ E = 9) := by
          have h1 := HAS.out rfl
          exact ⟨by rw [HR.out, Ln.render, h1]; rfl, by rw [HE.out, Ln.renderErr, h1]; rfl⟩
        go_wp2
        go_ret2
        exact ⟨by rw [HF.out.1, HF.out.2]; rfl, HB.out.trans (HB2.out.mono HB.out.size)⟩
      | true =>
        have HG2 : Hid (LnG w2) := HG.out.below hfew (HB.out.trans (HB2.out.mono HB.out.size))
        have HLO2 : Hid (∀ W, LnG W → Calls Tryz.prog 75 #[.agg #[.string ⟨n.toArray⟩, .int .i64 v, .int .i64 s, .string ⟨c.toArray⟩, .int .i64 p, .int .i64 m, .string ⟨l.toArray⟩, .string ⟨y.toArray⟩]] W fun e w' => e = .returned (.string ⟨LN.toArray⟩) ∧ Below W.heap.size W w') := HLO.out rfl
        have HNA : Hid ((rs.take (k + 1)).all Rc.right = true) := by show _ = _; rw [HAT.out, HA.out]; rfl
        go_wp2_with fail
        refine (HLO2.out _ HG2.out).mono ?_
        rintro e w3 ⟨rfl, hb3⟩
        have hb23 : Below wr.heap.size wr w3 := HB2.out.trans (hb3.mono HB2.out.size)
        have ho3 := own_below HO.out hb23
        obtain ⟨v0, hc0, _⟩ := own_cell ho3 k hlt
        have hfr := ho3.frozenAt k
        have hst := ho3.stored k (.string ⟨LN.toArray⟩)
        rw [HSET.out] at hst
        have HST : Hid _ := hst.1
        have HB3 : Hid _ := (HB.out.trans (hb23.mono HB.out.size)).setCell (p := ⟨w.heap.size, k, none⟩) (Nat.le_refl _) (.string ⟨LN.toArray⟩)
        clear hst ho3 hb23 hb3 HSET HLO HLO2 HAT HAS HA b0 b1 b2 b3 b4 b5 b6 b7
        go_wp2
        go_roundw
        case rel => exact ⟨k + 1, by omega, by go_num, HST.out, HNA.out, HB3.out⟩
        case measure => simp [intOf]; omega
    · have hke : k = rs.length := by omega
      have hlt' : ¬ (k : Int) < (rs.length : Int) := by omega
      have HALL : Hid (rs.all Rc.right = true) := by have h := HA.out; rw [hke, List.take_length] at h; exact h
      have HRV : Hid (R = Lib.join (rs.map Rc.line) [] ∧ E = 0) := ⟨by rw [HR.out, Ln.render, HALL.out, Ln.join_lines]; rfl, by rw [HE.out, Ln.renderErr, HALL.out]; rfl⟩
      have HJ : Hid (Calls Tryz.prog 76 #[.slice (some ⟨w.heap.size, 0, none⟩) rs.length rs.length, .string ⟨#[]⟩] wr fun e w' => e = .returned (.string ⟨R.toArray⟩) ∧ Below wr.heap.size wr w') := by
        rw [hke, Ln.part_whole] at hown
        have h := Tryz.strings_Join w.heap.size 0 rs.length ((rs.map Rc.line).map (fun x => (⟨x.toArray⟩ : ByteArray))) ⟨#[]⟩ wr (fun j x hj => by
          have hjl : j < rs.length := by have := (List.getElem?_eq_some_iff.1 hj).1; simpa using this
          rw [Nat.zero_add, hown.cellAt j (by omega)]
          rw [List.getElem?_map, List.getElem?_map, List.getElem?_eq_getElem hjl] at hj
          rw [List.getElem?_map, List.getElem?_eq_getElem hjl]
          simp at hj ⊢
          exact hj) (by
            obtain ⟨g, cap, hv, h1, h2⟩ | h0 : (∃ g cap, (Value.slice (some ⟨w.heap.size, 0, none⟩) rs.length rs.length) = .slice (some ⟨g, 0, none⟩) rs.length cap ∧ w.heap.size ≤ g ∧ g < wr.heap.size) ∨ True := by
              rcases hown.2 with ⟨hv, _⟩ | ⟨g, cap, cur, hv, h1, h2, _⟩
              · simp at hv
              · exact .inl ⟨g, cap, hv, h1, (Array.getElem?_eq_some_iff.1 h2).1⟩
            · simp at hv; omega
            · rcases hown.2 with ⟨hv, _⟩ | ⟨g, cap, cur, hv, h1, h2, _⟩
              · simp at hv
              · simp at hv; have := (Array.getElem?_eq_some_iff.1 h2).1; omega) (by simp; omega) (by simp) (by
            rw [texts_back]
            show (Lib.join (rs.map Rc.line) []).length ≤ _
            rw [Ln.join_lines]
            have := Ln.lines_length rs HALL.out
            omega)
        rw [texts_back] at h
        simp only [List.length_map] at h
        rw [HRV.out.1]
        exact h
      have HE0 : Hid _ := HRV.out.2
      have HB : Hid _ := hbel
      clear hke hown HA HALL HRV
      go_wp2_with fail
      refine HJ.out.mono ?_
      rintro e w2 ⟨rfl, hb2⟩
      go_wp2
      go_ret2
      exact ⟨by rw [HE0.out]; rfl, HB.out.trans (hb2.mono HB.out.size)⟩

end Go.Proofs.YtfcbgfomhmcikaaGreatDoor
