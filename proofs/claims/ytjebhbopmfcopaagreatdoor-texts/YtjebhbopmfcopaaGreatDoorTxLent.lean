/-
  WHAT IS HANDED IN: bytes with spare room, laid by the statement itself, and looked at again behind the call. Own text of the verifier.
-/
import Derived.Test.YtjebhbopmfcopaaGreatDoorStrand
import Derived.Test.YtjebhbopmfcopaaGreatDoorMarked
import Derived.Test.YtjebhbopmfcopaaGreatDoorScope
import Derived.Lib.BufferWrite
namespace Go.Proofs.YtjebhbopmfcopaaGreatDoor
open Go.RowKit

/-- the bytes of a text, and eight more of the caller's behind them -/
def lent (s : ByteArray) : List UInt8 := s.data.toList ++ List.replicate 8 77

theorem lent_length (s : ByteArray) : (lent s).length = s.size + 8 := by simp [lent]

theorem lent_77 (s : ByteArray) (k : Nat) (h1 : s.size ≤ k) (h : k < (lent s).length) : (lent s)[k] = 77 := by
  have h2 : k < s.size + 8 := by rw [lent_length] at h; exact h
  have h3 : (lent s)[k]? = some 77 := by
    rw [lent, List.getElem?_append_right (by simpa using h1), List.getElem?_replicate, if_pos (by simp; omega)]
  rw [List.getElem?_eq_getElem h] at h3
  exact Option.some.inj h3

/-- what 'lentBytes' answers: nil, or a new row -/
def Lent (w w' : World) (s : ByteArray) (v : Value) : Prop :=
  (s.size = 0 ∧ v = .slice none 0 0 ∧ w' = w) ∨
  (v = .slice (some ⟨w.heap.size, 0, none⟩) s.size (s.size + 8) ∧ w'.ownsRow w.heap.size 5 1 (.slice (some ⟨w.heap.size, 0, none⟩) (s.size + 8) (s.size + 8)) (s.size + 8) (Bys (lent s)) ∧ Below w.heap.size w w' ∧ w.heap.size < w'.heap.size)

theorem isEmpty_size (s : ByteArray) : s.data.toList.isEmpty = decide (s.size = 0) := by
  cases h : s.data.toList with
  | nil => have : s.size = 0 := by have := congrArg List.length h; simpa using this
           simp [this]
  | cons a r => have : s.size = r.length + 1 := by have := congrArg List.length h; simpa using this
                simp [this]

theorem Tryz.sizeU8 : (Tryz.prog.info? 5).map (·.size) = some 1 := by kernel_rfl

/-- 'copy(out, s)' into a row just made -/
theorem copy_lent (s : ByteArray) (G : Nat) (w1 : World) (hown : w1.ownsRow G 5 1 (.slice (some ⟨G, 0, none⟩) (s.size + 8) (s.size + 8)) (s.size + 8) (List.replicate (s.size + 8) (.int .u8 0))) :
    ∃ W2, (∀ ty, (Builtin.copy_ #[43, 9] ty #[.slice (some ⟨G, 0, none⟩) (s.size + 8) (s.size + 8), .string s]).run Tryz.prog w1 = .ok (goInt s.size) W2) ∧
      W2.ownsRow G 5 1 (.slice (some ⟨G, 0, none⟩) (s.size + 8) (s.size + 8)) (s.size + 8) (filled (lent s) (s.size + 8) s.size) ∧ w1.grownBy W2 (some G) := by
  rcases hown.2 with ⟨h, _⟩ | ⟨g, cap, cur, hv, hb, hg, hnc, hcm, hcs, htake⟩
  · simp at h
  · simp only [Value.slice.injEq, Option.some.injEq, Addr.mk.injEq, and_true, true_and] at hv
    obtain ⟨rfl, rfl⟩ := hv
    have hc : cur.toList = List.replicate (s.size + 8) (.int .u8 0) := by
      rw [← htake, List.take_of_length_le (by rw [Array.length_toList, hcs]; exact Nat.le_refl _)]
    refine ⟨_, fun ty => Lib.run_copy_row_string (P := Tryz.prog) w1 43 9 ty 5 G 0 (s.size + 8) (s.size + 8) s cur 5 Tryz.underlying43 Tryz.sizeU8 hg (by omega) (by rw [hcs]; omega), ?_, ⟨rfl, rfl, rfl, by simp, fun k _ hk => setRow_other w1 G k _ (fun e => hk (by simp [e]))⟩⟩
    have he : (cur.toList.take 0 ++ Lib.byteCells s.data.toList ++ cur.toList.drop (0 + s.size)) = filled (lent s) (s.size + 8) s.size := by
      rw [hc, filled, lent, List.take_zero, List.nil_append, List.drop_replicate, List.take_append_of_le_length (by simp), List.take_of_length_le (by simp), Nat.zero_add]
      rfl
    have hl : (filled (lent s) (s.size + 8) s.size).length = s.size + 8 := by
      rw [filled, List.length_append, Bys_length, List.length_take, lent_length, List.length_replicate]; omega
    rw [he]
    refine ⟨by rw [hl]; omega, .inr ⟨G, s.size + 8, _, rfl, hb, setRow_heap w1 G cur _ 5 _ hg, Nat.le_refl _, hcm, by simp [hl], ?_⟩⟩
    rw [List.take_of_length_le (by simp [hl])]

set_option maxRecDepth 100000 in
set_option maxHeartbeats 1600000 in
theorem lentBytes_any (s : ByteArray) (raw : Int) (w : World) (hs : s.size ≤ 140737488351232) :
    Calls Tryz.prog 92 #[.string s, .int .i64 raw] w fun e w' => ∃ v, e = .returned v ∧ Lent w w' s v := by
  obtain ⟨i0, hi, hz0, hz1, hz2⟩ := info_parts Tryz.infoU8
  have hcases : (s.toList = [] ∧ (raw.tmod 2 != 0) = true) ∨ (s.toList = [] ∧ (raw.tmod 2 != 0) = false) ∨ ¬ s.toList = [] := by
    by_cases h : s.toList = []
    · cases hr : (raw.tmod 2 != 0)
      · exact .inr (.inl ⟨h, rfl⟩)
      · exact .inl ⟨h, rfl⟩
    · exact .inr (.inr h)
  rcases hcases with ⟨h1, h2⟩ | h3
  · have h0 : s.size = 0 := by have := congrArg List.length h1; simpa [ByteArray.toList_eq] using this
    have HZ : Hid _ := h0
    clear h0
    go_enter Tryz.func92, Tryz.ntmps92
    go_wp2
    go_ret
    exact ⟨_, rfl, .inl ⟨HZ.out, rfl, rfl⟩⟩
  · rcases h3 with ⟨h1, h2⟩ | h1
    all_goals
      go_enter Tryz.func92, Tryz.ntmps92
      go_wp2_with (at_make; refine wpList_make_full _ rfl _ _ 43 rfl w.heap.size 5 i0 (.int .u8 0) 1 Tryz.underlying43 hi hz0 hz1 _ _ _ _ (s.size + 8) rfl rfl (by omega) (by omega) (by rw [hz2]; omega) (by unfold maxLen; omega) (Nat.le_refl _) ?_; intro w1 hown0 hgrow; rw [show (madeCells (Value.int IntKind.u8 0).cells ((s.size + 8) * 1)).toList = List.replicate (s.size + 8) (.int .u8 0) from by rw [Nat.mul_one]; exact toList_madeCells_one _ _] at hown0; obtain ⟨W2, hcopy, hown2, hgrow2⟩ := copy_lent s w.heap.size w1 hown0)
      have hb2 : Below w.heap.size w W2 := ((Below.refl _ _).grown hgrow (Nat.le_refl _) (fun k hk => by cases hk)).grown hgrow2 (by have := hgrow.size; omega) (fun k hk => by cases hk; exact Nat.le_refl _)
      clear hcopy hown0 hgrow hgrow2
      go_loopw [7] (fun i wr => ∃ k : Nat, s.size ≤ k ∧ k ≤ s.size + 8 ∧ i = .int .i64 (k : Int) ∧ wr.ownsRow w.heap.size 5 1 (.slice (some ⟨w.heap.size, 0, none⟩) (s.size + 8) (s.size + 8)) (s.size + 8) (filled (lent s) (s.size + 8) k) ∧ Below w.heap.size w wr)
        (fun i _ => s.size + 8 - (intOf i).toNat)
      case atStart => exact ⟨s.size, Nat.le_refl _, by omega, rfl, hown2, hb2⟩
      case round =>
        clear hown2 hb2
        obtain ⟨k, hk1, hk, rfl, hown, hbel⟩ := hrel
        by_cases hlt : k < s.size + 8
        · obtain ⟨v0, hc0, _⟩ := own_cell hown k hlt
          have hfr := hown.frozenAt k
          have hst := hown.stored k (.int .u8 77)
          have h77 : (lent s)[k]'(by rw [lent_length]; exact hlt) = 77 := lent_77 s k hk1 _
          have HS : Hid _ := filled_set (lent s) (s.size + 8) k (lent_length s) hlt
          rw [h77] at HS
          have hst1 : _ ∧ _ := hst
          have HST : Hid _ := hst.1
          have HB1 : Hid _ := hbel.setCell (p := ⟨w.heap.size, k, none⟩) (Nat.le_refl _) (.int .u8 77)
          clear hst hst1 hown hbel h77
          have hlt' : (k : Int) < (s.size : Int) + 8 := by omega
          go_wp2
          go_roundw
          case rel => exact ⟨k + 1, by omega, by omega, by go_num, by rw [← HS.out]; exact HST.out, HB1.out⟩
          case measure => simp [intOf]; omega
        · have hke : k = s.size + 8 := by omega
          rw [hke, filled_whole _ _ (lent_length s)] at hown
          have hlt' : ¬ (k : Int) < (s.size : Int) + 8 := by omega
          have hlt9 : w.heap.size < wr.heap.size := by
            rcases hown.2 with ⟨h, _⟩ | ⟨g, cap, cur, hv, _, hg, _⟩
            · simp at h
            · simp only [Value.slice.injEq, Option.some.injEq, Addr.mk.injEq, and_true, true_and] at hv
              obtain ⟨rfl, _⟩ := hv
              exact (Array.getElem?_eq_some_iff.1 hg).1
          clear hke
          go_wp2
          go_ret
          exact ⟨_, rfl, .inr ⟨rfl, hown, hbel, hlt9⟩⟩

/-- while it is looked at: the first k cells written into by the caller -/
def wiped (s : ByteArray) (k : Nat) : List Value := List.replicate k (.int .u8 65) ++ (Bys (lent s)).drop k

theorem wiped_zero (s : ByteArray) : wiped s 0 = Bys (lent s) := by simp [wiped]
theorem wiped_at (s : ByteArray) (k : Nat) (h : k < s.size + 8) : (wiped s k)[k]? = some (.int .u8 ((lent s)[k]'(by rw [lent_length]; exact h)).toNat) := by
  rw [wiped, List.getElem?_append_right (by simp), List.length_replicate, Nat.sub_self, List.getElem?_drop, Nat.add_zero, Bys_at _ _ (by rw [lent_length]; exact h)]
theorem wiped_set (s : ByteArray) (k : Nat) (h : k < s.size + 8) : (wiped s k).set k (.int .u8 65) = wiped s (k + 1) := by
  rw [wiped, wiped, List.set_append, if_neg (by simp), List.length_replicate, Nat.sub_self]
  rw [List.drop_eq_getElem_cons (by rw [Bys_length, lent_length]; exact h), List.set_cons_zero, List.replicate_succ']
  simp

set_option maxRecDepth 100000 in
set_option maxHeartbeats 1600000 in
theorem wholeBytes_nil (s : ByteArray) (w : World) :
    Calls Tryz.prog 94 #[.slice none 0 0, .string s] w fun e w' => e = .returned (.bool true) ∧ w' = w := by
  have hnil := fun (wy : World) (a : Option Addr) (l c : Nat) => Lib.run_eql_slice_nil (P := Tryz.prog) wy 43 5 a l c 0 0 Tryz.underlying43
  go_enter Tryz.func94, Tryz.ntmps94
  go_wp2
  go_ret
  exact ⟨rfl, rfl⟩

set_option maxRecDepth 100000 in
set_option maxHeartbeats 1600000 in
theorem wholeBytes_row (s : ByteArray) (G : Nat) (w : World) (hs : s.size ≤ 140737488351232) (hown : w.ownsRow G 5 1 (.slice (some ⟨G, 0, none⟩) (s.size + 8) (s.size + 8)) (s.size + 8) (Bys (lent s))) :
    Calls Tryz.prog 94 #[.slice (some ⟨G, 0, none⟩) s.size (s.size + 8), .string s] w fun e w' => e = .returned (.bool true) ∧ w.grownBy w' (some G) := by
  have hback : (convert 43 9 (.slice (some ⟨G, 0, none⟩) s.size (s.size + 8))).run Tryz.prog w = .ok (.string s) w := by
    have h := run_convert_bytes_back (P := Tryz.prog) w 43 9 5 ⟨G, 0, none⟩ (s.size + 8) s.data.toList Tryz.underlying43 Tryz.underlying5 Tryz.underlying9 (fun j hj => by
      have hj2 : j < s.size := by simpa using hj
      rw [Addr.add_lit, Nat.zero_add, hown.cellAt j (by omega), Bys_at _ _ (by rw [lent_length]; omega)]
      simp only [lent, List.getElem_append_left hj])
    have hl : s.data.toList.length = s.size := by simp
    rw [hl] at h
    exact h
  have HO : Hid _ := hown
  clear hown
  have hcut : (0 : Int) ≤ (s.size : Int) + 8 := by omega
  have hnil := fun (wy : World) (a : Option Addr) (l c : Nat) => Lib.run_eql_slice_nil (P := Tryz.prog) wy 43 5 a l c 0 0 Tryz.underlying43
  go_enter Tryz.func94, Tryz.ntmps94
  go_wp2
  clear hback hnil
  go_loopw [7, 8] (fun ok i wr => ∃ k : Nat, k ≤ s.size + 8 ∧ i = .int .i64 (k : Int) ∧ ok = .bool true ∧ wr.ownsRow G 5 1 (.slice (some ⟨G, 0, none⟩) (s.size + 8) (s.size + 8)) (s.size + 8) (wiped s k) ∧ w.grownBy wr (some G))
    (fun _ i _ => s.size + 8 - (intOf i).toNat)
  case atStart => exact ⟨0, by omega, rfl, rfl, by rw [wiped_zero]; exact HO.out, World.grownBy.refl _ _⟩
  case round =>
    obtain ⟨k, hk, rfl, rfl, hown, hgr⟩ := hrel
    by_cases hlt : k < s.size + 8
    · have hc0 : wr.cell? ⟨G, k, none⟩ = some (.int .u8 ((lent s)[k]'(by rw [lent_length]; exact hlt)).toNat) := by rw [hown.cellAt k (by omega)]; exact wiped_at s k hlt
      have hfr := hown.frozenAt k
      have hst := hown.stored k (.int .u8 65)
      rw [wiped_set s k hlt] at hst
      have HST : Hid _ := hst.1
      have HG1 : Hid (w.grownBy (wr.setCell ⟨G, k, none⟩ (.int .u8 65)) (some G)) := ⟨hgr.os, hgr.tape, hgr.output, by have := hgr.size; simp [World.setCell]; exact this, fun q hq hn => by rw [hst.2.block q (by have := hgr.size; omega) hn]; exact hgr.block q hq hn⟩
      clear hst hown hgr
      have hlt' : (k : Int) < (s.size : Int) + 8 := by omega
      by_cases hin : k < s.size
      · have hin' : decide ((k : Int) < (s.size : Int)) = true := by simp; omega
        go_wp2
        go_roundw
        case rel => exact ⟨k + 1, by omega, by go_num, rfl, HST.out, HG1.out⟩
        case measure => simp [intOf]; omega
      · have hin' : decide ((k : Int) < (s.size : Int)) = false := by simp; omega
        rw [lent_77 s k (by omega)] at hc0
        have hc1 : wr.cell? ⟨G, k, none⟩ = some (.int .u8 77) := hc0
        clear hc0
        go_wp2
        go_roundw
        case rel => exact ⟨k + 1, by omega, by go_num, rfl, HST.out, HG1.out⟩
        case measure => simp [intOf]; omega
    · have hlt' : ¬ (k : Int) < (s.size : Int) + 8 := by omega
      go_wp2
      go_ret
      exact ⟨rfl, hgr⟩

end Go.Proofs.YtjebhbopmfcopaaGreatDoor
