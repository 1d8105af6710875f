/-
  THE WALK of the program's Parse. Own text of the verifier.
-/
import Derived.Test.YtfcbgfomhmcikaaGreatDoorBun24
import Derived.Test.YtfcbgfomhmcikaaGreatDoorXLnParse
namespace Go.Proofs.YtfcbgfomhmcikaaGreatDoor
open Go.RowKit

def Ln.vlen : Value → Nat
  | .string b => b.size
  | _ => 0

theorem Ln.cut_le (s : List UInt8) : (Lib.cut s [10]).1.length ≤ s.length ∧ (Lib.cut s [10]).2.1.length ≤ s.length := by
  unfold Lib.cut
  split
  · simp only [List.length_take, List.length_drop]; omega
  · simp

theorem pcut_any (s : List UInt8) (w : World) (hG : LnG w) (hs : s.length ≤ 1000000000) :
    Calls Tryz.prog 79 #[.string ⟨s.toArray⟩, .string ⟨#[10]⟩] w fun e w' => e = .returned (.tuple #[.string ⟨(Lib.cut s [10]).1.toArray⟩, .string ⟨(Lib.cut s [10]).2.1.toArray⟩, .bool (Lib.cut s [10]).2.2]) ∧ Below w.heap.size w w' := by
  obtain ⟨m, hm⟩ := hG.max
  refine (Tryz.strings_Cut ⟨s.toArray⟩ ⟨#[10]⟩ m w (by rw [str_size]; omega) hm).mono ?_
  rintro e w' ⟨rfl, n, rfl⟩
  exact ⟨rfl, below_drewN (Below.refl _ _) n⟩

set_option maxRecDepth 100000 in
set_option maxHeartbeats 800000 in
theorem parse_any (t : List UInt8) (w : World) (hG : LnG w) (ht : t.length ≤ 1000000000) :
    Calls Tryz.prog 46 #[.string ⟨t.toArray⟩] w fun e w' => Parsed t w e w' := by
  have HCUT : Hid (∀ s W, LnG W → s.length ≤ 1000000000 → Calls Tryz.prog 79 #[.string ⟨s.toArray⟩, .string ⟨#[10]⟩] W fun e w' => e = .returned (.tuple #[.string ⟨(Lib.cut s [10]).1.toArray⟩, .string ⟨(Lib.cut s [10]).2.1.toArray⟩, .bool (Lib.cut s [10]).2.2]) ∧ Below W.heap.size W w') := fun s W hg hs => pcut_any s W hg hs
  have HG : Hid (∀ W, Below w.heap.size w W → LnG W) := fun W hb => hG.below hG.few hb
  clear hG
  go_enter Tryz.func46, Tryz.ntmps46
  go_wp2
  go_loopw [0, 4] (fun sv v wr => ∃ (s : List UInt8) (acc : List Rc), sv = .string ⟨s.toArray⟩ ∧ acc.length + s.length ≤ t.length ∧ wr.ownsRow w.heap.size 47 8 v acc.length (Rcs acc) ∧ Below w.heap.size w wr ∧ Hid (acc.all Rc.right = true ∧ t = Ln.lines acc ++ s)) (fun sv _ _ => Ln.vlen sv)
  case atStart => exact ⟨t, [], rfl, by simp, World.ownsRow_nil _ _ _ _, Below.refl _ _, by simp, by simp [Ln.lines]⟩
  case round =>
    obtain ⟨s, acc, rfl, hal, hown, hbel, HH⟩ := hrel
    obtain ⟨va, vcap, hv⟩ := own_form hown
    subst hv
    have HO : Hid _ := hown
    have HB : Hid _ := hbel
    have hsz0 := hbel.size
    clear hown hbel
    cases hse : s with
    | nil =>
      subst hse
      have HF : Hid (Ln.IsParse t acc) := ⟨HH.out.1, by rw [HH.out.2, List.append_nil]⟩
      clear HH
      go_wp2
      go_ret2
      exact ⟨HB.out, .inl ⟨acc, _, HF.out, rfl, HO.out⟩⟩
    | cons x y =>
      have HNE : Hid (s ≠ []) := by show _ ≠ _; rw [hse]; simp
      have hE : s.isEmpty = false := by rw [hse]; rfl
      have hpos : 0 < s.length := by rw [hse]; simp
      rw [← hse]
      clear hse
      go_wp2_with fail
      refine (HCUT.out s _ (HG.out _ HB.out) (by omega)).mono ?_
      rintro e w1 ⟨rfl, hb1⟩
      have HB1 : Hid _ := HB.out.trans (hb1.mono hsz0)
      have HO1 : Hid _ := own_below HO.out hb1
      have hsz1 := HB1.out.size
      have hxl := (Ln.cut_le s).1
      have HN : Hid ((Lib.cut s [10]).2.2 = false ∨ Ln.isRec (Lib.cut s [10]).1 = false → ∀ l, ¬ Ln.IsParse t l) := fun h l => by rw [HH.out.2]; exact Ln.parse_none HH.out.1 HNE.out h l
      have HM : Hid ((Lib.cut s [10]).2.2 = true → Ln.isRec (Lib.cut s [10]).1 = true → ((acc ++ [Ln.recd (Lib.cut s [10]).1]).all Rc.right = true ∧ t = Ln.lines (acc ++ [Ln.recd (Lib.cut s [10]).1]) ++ (Lib.cut s [10]).2.1)) := fun h1 h2 => by
        obtain ⟨m1, m2⟩ := Ln.parse_more HH.out.1 h1 h2
        exact ⟨m1, by rw [m2]; exact HH.out.2⟩
      have HY : Hid ((Lib.cut s [10]).2.2 = true → (Lib.cut s [10]).2.1.length < s.length) := fun h => by
        have := congrArg List.length (Ln.cut_parts s h)
        simp only [List.length_append, List.length_singleton] at this
        omega
      obtain ⟨X, hX⟩ : ∃ X, X = (Lib.cut s [10]).1 := ⟨_, rfl⟩
      obtain ⟨Y, hY⟩ : ∃ Y, Y = (Lib.cut s [10]).2.1 := ⟨_, rfl⟩
      obtain ⟨b, hb⟩ : ∃ b, b = (Lib.cut s [10]).2.2 := ⟨_, rfl⟩
      rw [← hX, ← hb] at HN
      rw [← hX, ← hY, ← hb] at HM
      rw [← hY, ← hb] at HY
      rw [← hX] at hxl
      rw [← hX, ← hY, ← hb]
      have HRO : Hid (∀ W, LnG W → Calls Tryz.prog 80 #[.string ⟨X.toArray⟩] W fun e w' => e = .returned (.tuple #[.agg (Ln.recd X).vals, .bool (Ln.isRec X)]) ∧ Below W.heap.size W w') := fun W hg => recordOf_any X W hg (by omega)
      obtain ⟨r, hr⟩ : ∃ r, r = Ln.recd X := ⟨_, rfl⟩
      obtain ⟨k, hk⟩ : ∃ k, k = Ln.isRec X := ⟨_, rfl⟩
      rw [← hr, ← hk] at HRO
      rw [← hr, ← hk] at HM
      rw [← hk] at HN
      clear hX hY hb hr hk hb1 HB HO HH HNE HCUT hxl
      have hrv : r.vals = #[.string ⟨r.nm.toArray⟩, .int .i64 r.vd, .int .i64 r.sd, .string ⟨r.ct.toArray⟩, .int .i64 r.pl, .int .i64 r.mm, .string ⟨r.lt.toArray⟩, .string ⟨r.cl.toArray⟩] := rfl
      rw [hrv] at HRO
      clear hrv
      go_wp2_with fail
      refine (HRO.out _ (HG.out _ HB1.out)).mono ?_
      rintro e w2 ⟨rfl, hb2⟩
      have HB2 : Hid _ := HB1.out.trans (hb2.mono hsz1)
      have HO2 : Hid _ := own_below HO1.out hb2
      have hsz2 := HB2.out.size
      clear hb2 HB1 HO1 HRO HG
      cases b with
      | false =>
        have HF : Hid _ := HN.out (.inl rfl)
        clear HN HM HY
        go_wp2
        go_ret2
        exact ⟨HB2.out.alloc hsz2 _, .inr ⟨HF.out, rfl⟩⟩
      | true =>
        cases k with
        | false =>
          have HF : Hid _ := HN.out (.inr rfl)
          clear HN HM HY
          go_wp2
          go_ret2
          exact ⟨HB2.out.alloc hsz2 _, .inr ⟨HF.out, rfl⟩⟩
        | true =>
          have HM2 : Hid _ := HM.out rfl rfl
          have hyl := HY.out rfl
          clear HN HM HY
          have hrr := rec_row (w2.alloc (Obj.cells #[.string ⟨r.nm.toArray⟩, .int .i64 r.vd, .int .i64 r.sd, .string ⟨r.ct.toArray⟩, .int .i64 r.pl, .int .i64 r.mm, .string ⟨r.lt.toArray⟩, .string ⟨r.cl.toArray⟩] 47)) r
          rw [World.size_alloc] at hrr
          have HRR : Hid _ := hrr
          have HO4 : Hid (((w2.alloc (Obj.cells #[.string ⟨r.nm.toArray⟩, .int .i64 r.vd, .int .i64 r.sd, .string ⟨r.ct.toArray⟩, .int .i64 r.pl, .int .i64 r.mm, .string ⟨r.lt.toArray⟩, .string ⟨r.cl.toArray⟩] 47)).alloc (Obj.cells #[.string ⟨r.nm.toArray⟩, .int .i64 r.vd, .int .i64 r.sd, .string ⟨r.ct.toArray⟩, .int .i64 r.pl, .int .i64 r.mm, .string ⟨r.lt.toArray⟩, .string ⟨r.cl.toArray⟩] 47)).ownsRow w.heap.size 47 8 (.slice va acc.length vcap) acc.length (Rcs acc)) := World.ownsRow.alloc (World.ownsRow.alloc HO2.out _) _
          have HB4 : Hid (Below w.heap.size w ((w2.alloc (Obj.cells #[.string ⟨r.nm.toArray⟩, .int .i64 r.vd, .int .i64 r.sd, .string ⟨r.ct.toArray⟩, .int .i64 r.pl, .int .i64 r.mm, .string ⟨r.lt.toArray⟩, .string ⟨r.cl.toArray⟩] 47)).alloc (Obj.cells #[.string ⟨r.nm.toArray⟩, .int .i64 r.vd, .int .i64 r.sd, .string ⟨r.ct.toArray⟩, .int .i64 r.pl, .int .i64 r.mm, .string ⟨r.lt.toArray⟩, .string ⟨r.cl.toArray⟩] 47))) := (HB2.out.alloc hsz2 _).alloc (by simp; omega) _
          clear hrr HO2 HB2
          go_wp2_with (at_builtin; refine app_src rfl _ _ 40 rfl w.heap.size 47 _ 8 96 Tryz.underlying40 Tryz.infoRec rfl (by decide) (.slice va acc.length vcap) acc.length (Rcs acc) (.slice (some ⟨w2.heap.size + 1, 0, none⟩) 1 1) 1 (Rcs [r]) rfl rfl (by exact HO4.out) (.inr ⟨_, _, rfl, by exact HRR.out⟩) (Rcs_length [r]) (Rcs_one [r]) (by exact HB4.out) (by simp; omega) (by omega) (by decide) ?_; intro v3 w4 hown4 hbel4 _ _)
          go_roundw
          case rel => exact ⟨Y, acc ++ [r], rfl, by rw [List.length_append]; simp; omega, by rw [Rcs_append, List.length_append]; exact hown4, hbel4, HM2.out⟩
          case measure => show (⟨Y.toArray⟩ : ByteArray).size < (⟨s.toArray⟩ : ByteArray).size; rw [str_size, str_size]; exact hyl

end Go.Proofs.YtfcbgfomhmcikaaGreatDoor
