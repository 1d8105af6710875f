/-
  THE DOCUMENT'S Parse. Own text of the verifier.
-/
import Derived.Test.YtfcbgfomhmcikaaGreatDoorBun7
namespace Go.Proofs.YtfcbgfomhmcikaaGreatDoor
open Go.RowKit

theorem Tryz.infoRec : (Tryz.prog.info? 47).map (fun i => (i.zero, i.size, i.bytes)) = some (some (.agg #[.string ⟨#[]⟩, .int .i64 0, .int .i64 0, .string ⟨#[]⟩, .int .i64 0, .int .i64 0, .string ⟨#[]⟩, .string ⟨#[]⟩]), 8, 96) := by kernel_rfl

theorem rec_row (w : World) (r : Rc) : ∀ j u, (Rcs [r])[j]? = some u → (w.alloc (.cells #[.string ⟨r.nm.toArray⟩, .int .i64 r.vd, .int .i64 r.sd, .string ⟨r.ct.toArray⟩, .int .i64 r.pl, .int .i64 r.mm, .string ⟨r.lt.toArray⟩, .string ⟨r.cl.toArray⟩] 47)).cell? ((⟨w.heap.size, 0, none⟩ : Addr).add j) = some u := by
  intro j u hj
  rw [Addr.add_lit, Nat.zero_add, cell_of_row _ _ j _ _ (0, 0) (heap_alloc_new w _), ← hj]
  simp [Rcs, rcCells]

/-- the fields of a text are no longer than it is -/
theorem Ln.flds_small : ∀ (t : List UInt8) (acc : List (List UInt8)) (cur : List UInt8) (N : Nat), (∀ x ∈ acc, x.length ≤ N) → cur.length + t.length ≤ N → ∀ l rest, Ln.flds acc cur t = some (l, rest) → ∀ x ∈ l, x.length ≤ N := by
  intro t
  induction t with
  | nil => intro acc cur N _ _ l rest h; simp [Ln.flds] at h
  | cons c t ih =>
    intro acc cur N ha hc l rest h
    simp only [List.length_cons] at hc
    rw [Ln.flds] at h
    have ha2 : ∀ x ∈ acc ++ [cur], x.length ≤ N := by
      intro x hx
      rcases List.mem_append.1 hx with hx | hx
      · exact ha x hx
      · rw [List.mem_singleton.1 hx]; omega
    split at h
    · simp only [Option.some.injEq, Prod.mk.injEq] at h
      rw [← h.1]
      exact ha2
    · split at h
      · exact ih _ [] N ha2 (by simp; omega) l rest h
      · exact ih acc _ N ha (by simp; omega) l rest h

theorem recOf_small (l : List (List UInt8)) (N : Nat) (h : ∀ x ∈ l, x.length ≤ N) : (Ln.recOf l).nm.length ≤ N ∧ (Ln.recOf l).ct.length ≤ N ∧ (Ln.recOf l).lt.length ≤ N ∧ (Ln.recOf l).cl.length ≤ N := by
  unfold Ln.recOf
  split
  · refine ⟨h _ (by simp), h _ (by simp), h _ (by simp), h _ (by simp)⟩
  · refine ⟨h _ (by simp), by simp, by simp, by simp⟩
  · simp

theorem render_one (r : Rc) : Ln.render [r] = if r.right then r.line else [] := by
  unfold Ln.render Ln.lines
  cases h : r.right <;> simp [h]
theorem renderErr_one (r : Rc) : Ln.renderErr [r] = if r.right then 0 else 9 := by
  unfold Ln.renderErr
  cases h : r.right <;> simp [h]

theorem piece_drop (s : ByteArray) (p k : Nat) (x t : List UInt8) (h : s.data.toList.drop p = x ++ t) (hk : s.data.toList.drop k = t) (hpk : p ≤ k) (hks : k ≤ s.size) : Tx.piece s p k = x := by
  have hl := congrArg List.length h
  have hl2 := congrArg List.length hk
  simp only [List.length_drop, List.length_append, Array.length_toList] at hl hl2
  have hsz : s.data.size = s.size := rfl
  unfold Tx.piece
  rw [h, List.take_append_of_le_length (by omega), List.take_of_length_le (by omega)]
theorem drop_piece (s : ByteArray) (p k : Nat) (hpk : p ≤ k) : s.data.toList.drop p = Tx.piece s p k ++ s.data.toList.drop k := by
  unfold Tx.piece
  have : s.data.toList.drop k = (s.data.toList.drop p).drop (k - p) := by rw [List.drop_drop]; congr 1; omega
  rw [this, List.take_append_drop]

theorem lines_step {S P : List UInt8} {acc : List Rc} {r : Rc} {k k2 : Nat} (h : S = Ln.lines acc ++ S.drop k) (hp : S.drop k = P ++ S.drop k2) (hr : r.line = P) : S = Ln.lines (acc ++ [r]) ++ S.drop k2 := by
  have e : Ln.lines (acc ++ [r]) = Ln.lines acc ++ r.line := by simp [Ln.lines]
  rw [e, hr, List.append_assoc, ← hp]
  exact h

/-- what Parse answers, of the document and of the program -/
def Parsed (t : List UInt8) (w : World) (e : Ending) (w' : World) : Prop := Below w.heap.size w w' ∧
  ((∃ l v, Ln.IsParse t l ∧ e = .returned (.tuple #[v, .int .i64 0]) ∧ w'.ownsRow w.heap.size 47 8 v l.length (Rcs l)) ∨
   ((∀ l, ¬ Ln.IsParse t l) ∧ e = .returned (.tuple #[.slice none 0 0, .int .i64 9])))

set_option maxRecDepth 100000 in
set_option maxHeartbeats 1600000 in
theorem refParse_any (s : ByteArray) (w : World) (hs : s.size ≤ 1000000000) :
    Calls Tryz.prog 47 #[.string s] w fun e w' => Parsed s.data.toList w e w' := by
  have hsz : s.data.toList.length = s.size := by simp
  have HSZ : Hid _ := hsz
  clear hsz
  go_enter Tryz.func47, Tryz.ntmps47
  go_wp2
  go_loopw [4, 5] (fun v i wr => ∃ (k : Nat) (acc : List Rc), k ≤ s.size ∧ i = .int .i64 (k : Int) ∧ wr.ownsRow w.heap.size 47 8 v acc.length (Rcs acc) ∧ acc.length ≤ k ∧ Below w.heap.size w wr ∧ Hid (acc.all Rc.right = true ∧ s.data.toList = Ln.lines acc ++ s.data.toList.drop k ∧ ∀ l, Ln.IsParse s.data.toList l → ∃ l', l = acc ++ l' ∧ Ln.IsParse (s.data.toList.drop k) l')) (fun _ i _ => s.size - (intOf i).toNat)
  case atStart => exact ⟨0, [], Nat.zero_le _, rfl, World.ownsRow_nil _ _ _ _, Nat.zero_le _, Below.refl _ _, by simp, by simp [Ln.lines], fun l hl => ⟨l, by simp, by simpa using hl⟩⟩
  case round =>
    obtain ⟨k, acc, hk, rfl, hown, hal, hbel, HH⟩ := hrel
    obtain ⟨va, vcap, hv⟩ := own_form hown
    subst hv
    have HO : Hid _ := hown
    have HB : Hid _ := hbel
    have hsz0 := hbel.size
    clear hown hbel
    by_cases hlt : k < s.size
    · have hlt' : (k : Int) < (s.size : Int) := by omega
      have hne : s.data.toList.drop k ≠ [] := by
        intro h
        have := congrArg List.length h
        rw [List.length_drop, HSZ.out] at this
        simp at this
        omega
      have HNE : Hid _ := hne
      clear hne
      go_wp2_with fail
      refine (fields_any s k _ hs (by omega)).mono ?_
      rintro e w1 ⟨hb1, h⟩
      have HB1 : Hid _ := HB.out.trans (hb1.mono hsz0)
      have HO1 : Hid _ := own_below HO.out hb1
      have hsz1 := hb1.size
      clear hb1
      rcases h with ⟨hnone, rfl⟩ | ⟨l, k2, v2, hsome, hkk, hk2, rfl, ho2⟩
      · have HF : Hid (∀ l, ¬ Ln.IsParse s.data.toList l) := fun l hl => by
          obtain ⟨l', _, hl'⟩ := HH.out.2.2 l hl
          obtain ⟨r, l2, _, _, hf, _⟩ := Ln.parse_step hl' HNE.out
          rw [hnone] at hf
          simp at hf
        clear HH hnone
        go_wp2
        go_ret2
        exact ⟨HB1.out, .inr ⟨HF.out, rfl⟩⟩
      · have hsm := Ln.flds_small _ [] [] s.size (by simp) (by simp) l _ hsome
        have hrs := recOf_small l s.size hsm
        have HREC : Hid (Calls Tryz.prog 82 #[v2] w1 fun e' w' => e' = .returned (.agg (Ln.recOf l).vals) ∧ Below w1.heap.size w1 w') := record_any w1 _ v2 l ho2 (fun x hx => by have := hsm x hx; omega)
        obtain ⟨ao2, c2, hv2⟩ := own_form ho2
        subst hv2
        obtain ⟨r, hr⟩ : ∃ r, r = Ln.recOf l := ⟨_, rfl⟩
        rw [← hr] at HREC hrs
        have HSM : Hid (∀ x ∈ [r], Rc.Small x) := fun x hx => by
          rw [List.mem_singleton.1 hx]
          exact ⟨by omega, by omega, by omega, by omega⟩
        have HRL : Hid (∀ l, Ln.IsParse s.data.toList l → ∃ l', l = acc ++ r :: l' ∧ r.right = true ∧ s.data.toList.drop k = r.line ++ s.data.toList.drop k2 ∧ Ln.IsParse (s.data.toList.drop k2) l') := fun L hL => by
          obtain ⟨l', e1, hl'⟩ := HH.out.2.2 L hL
          obtain ⟨r1, l2, e2, hr1, hf, hb, he, hp⟩ := Ln.parse_step hl' HNE.out
          rw [hsome] at hf
          simp only [Option.some.injEq, Prod.mk.injEq] at hf
          have hrr : r = r1 := by rw [hr, hf.1, hb]
          subst hrr
          exact ⟨l2, by rw [e1, e2], hr1, by rw [hf.2]; exact he, by rw [hf.2]; exact hp⟩
        have HPC : Hid _ := drop_piece s k k2 (by omega)
        have HPD : Hid (∀ x, s.data.toList.drop k = x ++ s.data.toList.drop k2 → Tx.piece s k k2 = x) := fun x hx => piece_drop s k k2 x _ hx rfl (by omega) hk2
        have hex := extract_piece s k k2
        obtain ⟨P, hP⟩ : ∃ P, P = Tx.piece s k k2 := ⟨_, rfl⟩
        rw [← hP] at hex HPC HPD
        clear hsome hsm hrs hP hr ho2
        have hk20 : ¬ (k2 : Int) < 0 := by omega
        have hkk' : (k : Int) ≤ (k2 : Int) := by omega
        have hk2' : (k2 : Int) ≤ (s.size : Int) := by omega
        go_wp2_with fail
        refine Calls.mono HREC.out ?_
        rintro e w2 ⟨rfl, hb2⟩
        have HB2 : Hid _ := HB1.out.trans (hb2.mono HB1.out.size)
        have HO2 : Hid _ := own_below HO1.out hb2
        have hsz2 := HB2.out.size
        clear hb2
        unfold Rc.vals
        go_wp2_with fail
        have HC : Hid (∀ W, Below (w2.heap.size + 2) ((w2.alloc (Obj.cells #[Value.string { data := r.nm.toArray }, Value.int IntKind.i64 r.vd, Value.int IntKind.i64 r.sd, Value.string { data := r.ct.toArray }, Value.int IntKind.i64 r.pl, Value.int IntKind.i64 r.mm, Value.string { data := r.lt.toArray }, Value.string { data := r.cl.toArray }] 47)).alloc (Obj.cells #[Value.string { data := r.nm.toArray }, Value.int IntKind.i64 r.vd, Value.int IntKind.i64 r.sd, Value.string { data := r.ct.toArray }, Value.int IntKind.i64 r.pl, Value.int IntKind.i64 r.mm, Value.string { data := r.lt.toArray }, Value.string { data := r.cl.toArray }] 47)) W →
            W.heap[w2.heap.size]? = some (Obj.cells #[Value.string { data := r.nm.toArray }, Value.int IntKind.i64 r.vd, Value.int IntKind.i64 r.sd, Value.string { data := r.ct.toArray }, Value.int IntKind.i64 r.pl, Value.int IntKind.i64 r.mm, Value.string { data := r.lt.toArray }, Value.string { data := r.cl.toArray }] 47)) := fun W hb =>
          (hb.block _ (by omega)).trans ((Below.heap_alloc _ _ _ (by simp)).trans (heap_alloc_new w2 _))
        have HBA : Hid (∀ o o2, Below w2.heap.size w2 ((w2.alloc o).alloc o2)) := fun o o2 => ((Below.refl _ _).alloc (Nat.le_refl _) o).alloc (by simp) o2
        have hrr := rec_row (w2.alloc (Obj.cells #[Value.string { data := r.nm.toArray }, Value.int IntKind.i64 r.vd, Value.int IntKind.i64 r.sd, Value.string { data := r.ct.toArray }, Value.int IntKind.i64 r.pl, Value.int IntKind.i64 r.mm, Value.string { data := r.lt.toArray }, Value.string { data := r.cl.toArray }] 47)) r
        rw [World.size_alloc] at hrr
        refine (refRender_row [r] ⟨w2.heap.size + 1, 0, none⟩ 1 _ (by simp) HSM.out hrr).mono ?_
        rw [render_one, renderErr_one]
        rintro e w3 ⟨rfl, hb3⟩
        have hb3' : Below (w2.heap.size + 2) _ w3 := hb3.mono (by simp)
        have hbox := HC.out w3 hb3'
        have hb23 := (HBA.out _ _).trans (hb3.mono (by simp; omega))
        have HB3 : Hid _ := HB2.out.trans (hb23.mono hsz2)
        have HO3 : Hid _ := own_below HO2.out hb23
        have hsz3 := HB3.out.size
        have c0 : w3.cell? ⟨w2.heap.size, 0, none⟩ = some (.string ⟨r.nm.toArray⟩) := cell_of_row w3 _ 0 _ _ _ hbox
        have c1 : w3.cell? ⟨w2.heap.size, 1, none⟩ = some (.int .i64 r.vd) := cell_of_row w3 _ 1 _ _ _ hbox
        have c2' : w3.cell? ⟨w2.heap.size, 2, none⟩ = some (.int .i64 r.sd) := cell_of_row w3 _ 2 _ _ _ hbox
        have c3 : w3.cell? ⟨w2.heap.size, 3, none⟩ = some (.string ⟨r.ct.toArray⟩) := cell_of_row w3 _ 3 _ _ _ hbox
        have c4 : w3.cell? ⟨w2.heap.size, 4, none⟩ = some (.int .i64 r.pl) := cell_of_row w3 _ 4 _ _ _ hbox
        have c5 : w3.cell? ⟨w2.heap.size, 5, none⟩ = some (.int .i64 r.mm) := cell_of_row w3 _ 5 _ _ _ hbox
        have c6 : w3.cell? ⟨w2.heap.size, 6, none⟩ = some (.string ⟨r.lt.toArray⟩) := cell_of_row w3 _ 6 _ _ _ hbox
        have c7 : w3.cell? ⟨w2.heap.size, 7, none⟩ = some (.string ⟨r.cl.toArray⟩) := cell_of_row w3 _ 7 _ _ _ hbox
        clear hb3 hb3' hbox hb23 hrr HC HBA
        cases hrt : r.right with
        | false =>
          have HF : Hid (∀ l, ¬ Ln.IsParse s.data.toList l) := fun L hL => by
            obtain ⟨_, _, h2, _⟩ := HRL.out L hL
            rw [hrt] at h2
            simp at h2
          clear hrt HRL HH HPC HPD
          simp only [Bool.false_eq_true, if_false]
          go_wp2
          go_ret2
          exact ⟨HB3.out, .inr ⟨HF.out, rfl⟩⟩
        | true =>
          simp only [if_true]
          have hll := Rc.line_length hrt
          cases hq : (r.line == P) with
          | false =>
            have HF : Hid (∀ l, ¬ Ln.IsParse s.data.toList l) := fun L hL => by
              obtain ⟨_, _, _, h3, _⟩ := HRL.out L hL
              have := HPD.out _ h3
              rw [this] at hq
              simp at hq
            obtain ⟨X, hX⟩ : ∃ X, X = r.line := ⟨_, rfl⟩
            rw [← hX] at hq ⊢
            clear hrt HRL HH HPC HPD hX hll
            go_wp2
            go_ret2
            exact ⟨HB3.out, .inr ⟨HF.out, rfl⟩⟩
          | true =>
            have hPr : r.line = P := by simpa using hq
            have HH2 : Hid ((acc ++ [r]).all Rc.right = true ∧ s.data.toList = Ln.lines (acc ++ [r]) ++ s.data.toList.drop k2 ∧ ∀ l, Ln.IsParse s.data.toList l → ∃ l', l = (acc ++ [r]) ++ l' ∧ Ln.IsParse (s.data.toList.drop k2) l') := by
              refine ⟨by rw [List.all_append, HH.out.1]; simp [hrt], ?_, fun L hL => ?_⟩
              · exact lines_step HH.out.2.1 HPC.out hPr
              · obtain ⟨l', h1, _, _, h4⟩ := HRL.out L hL
                exact ⟨l', by rw [h1]; simp, h4⟩
            obtain ⟨X, hX⟩ : ∃ X, X = r.line := ⟨_, rfl⟩
            rw [← hX] at hq ⊢
            clear hrt HRL HH HPC HPD hX hll hPr
            go_wp2_with (at_builtin; refine app_src rfl _ _ 40 rfl w.heap.size 47 _ 8 96 Tryz.underlying40 Tryz.infoRec rfl (by decide) (.slice va acc.length vcap) acc.length (Rcs acc) (.slice (some ⟨w3.heap.size, 0, none⟩) 1 1) 1 (Rcs [r]) rfl rfl (by exact World.ownsRow.alloc HO3.out _) (.inr ⟨_, _, rfl, by exact rec_row _ _⟩) (Rcs_length [r]) (Rcs_one [r]) (by exact Below.alloc HB3.out hsz3 _) (by simp; omega) (by omega) (by decide) ?_; intro v3 w4 hown4 hbel4 _ _)
            go_roundw
            case rel => exact ⟨k2, acc ++ [r], hk2, rfl, by rw [Rcs_append, List.length_append]; exact hown4, by rw [List.length_append]; simp; omega, hbel4, HH2.out⟩
            case measure => simp [intOf]; omega
    · have hke : k = s.size := by omega
      have hlt' : ¬ (k : Int) < (s.size : Int) := by omega
      have HF : Hid (Ln.IsParse s.data.toList acc) := by
        have h := HH.out
        refine ⟨h.1, ?_⟩
        have h2 := h.2.1
        rw [hke, List.drop_of_length_le (by rw [HSZ.out]; exact Nat.le_refl _), List.append_nil] at h2
        exact h2.symm
      clear hke HH
      go_wp2
      go_ret2
      exact ⟨HB.out, .inl ⟨acc, _, HF.out, rfl, HO.out⟩⟩

end Go.Proofs.YtfcbgfomhmcikaaGreatDoor
