/-
  THE DOCUMENT'S RECORDS: the line of one that is right. Own text of the verifier.
-/
import Derived.Test.YtfcbgfomhmcikaaGreatDoorBun4
import Derived.BigQuiet
namespace Go.Proofs.YtfcbgfomhmcikaaGreatDoor
open Go.RowKit

/-- the line of a record -/
def Rc.line (r : Rc) : List UInt8 :=
  if r.vd = 1 then r.nm ++ [9] ++ Ln.verdict r.vd ++ [9] ++ Ln.strand r.sd ++ [9] ++ r.ct ++ [9] ++ Ln.dig 3 r.pl.toNat ++ [9] ++ Ln.dig 3 r.mm.toNat ++ [9] ++ r.lt ++ [9] ++ r.cl ++ [10]
  else r.nm ++ [9] ++ Ln.verdict r.vd ++ [10]

theorem Ln.verdict_length (n : Int) : (Ln.verdict n).length ≤ 9 := by unfold Ln.verdict; split; decide; split <;> decide
theorem Ln.strand_length (n : Int) : (Ln.strand n).length ≤ 4 := by unfold Ln.strand; split; decide; split; decide; split <;> decide

theorem add_hid (x y z : List UInt8) (hz : z = x ++ y) (h : z.length ≤ 9223372036854775807) : ∀ w : World, (Op.stringOp .add ⟨x.toArray⟩ ⟨y.toArray⟩).run Tryz.prog w = .ok (.string ⟨z.toArray⟩) w := fun w => by
  have := add_texts w x y (by rw [hz, List.length_append] at h; omega)
  rw [hz]
  exact this

structure Rc.Short (r : Rc) : Prop where
  nm : r.nm.length ≤ 32
  ct : r.ct.length ≤ 32
  lt : r.lt.length ≤ 128
  cl : r.cl.length ≤ 128
  p0 : 0 ≤ r.pl
  p1 : r.pl ≤ 4096
  m0 : 0 ≤ r.mm
  m1 : r.mm ≤ 128

set_option maxRecDepth 100000 in
set_option maxHeartbeats 800000 in
theorem line_bare (r : Rc) (w : World) (h1 : r.nm.length ≤ 32) (hv : r.vd ≠ 1) :
    Calls Tryz.prog 78 #[.agg r.vals] w fun e w' => e = .returned (.string ⟨r.line.toArray⟩) ∧ Below w.heap.size w w' := by
  obtain ⟨n, v, s, c, p, m, l, k⟩ := r
  unfold Rc.vals Rc.line
  dsimp only at h1 hv ⊢
  rw [if_neg hv]
  obtain ⟨V, hV⟩ : ∃ V, V = Ln.verdict v := ⟨_, rfl⟩
  have hVl : V.length ≤ 9 := by rw [hV]; exact Ln.verdict_length v
  rw [← hV]
  obtain ⟨A1, hA1⟩ : ∃ A1, A1 = n ++ [9] := ⟨_, rfl⟩
  obtain ⟨A2, hA2⟩ : ∃ A2, A2 = A1 ++ V := ⟨_, rfl⟩
  obtain ⟨Z, hZ⟩ : ∃ Z, Z = A2 ++ [10] := ⟨_, rfl⟩
  rw [show n ++ [9] ++ V ++ [10] = Z from by rw [hZ, hA2, hA1]]
  have l1 : A1.length = n.length + 1 := by rw [hA1]; simp
  have l2 : A2.length = A1.length + V.length := by rw [hA2]; simp
  have l3 : Z.length = A2.length + 1 := by rw [hZ]; simp
  have a1 : ∀ w : World, (Op.stringOp .add ⟨n.toArray⟩ ⟨#[9]⟩).run Tryz.prog w = .ok (.string ⟨A1.toArray⟩) w := add_hid n [9] A1 hA1 (by omega)
  have a2 := add_hid A1 V A2 hA2 (by omega)
  have a3 : ∀ w : World, (Op.stringOp .add ⟨A2.toArray⟩ ⟨#[10]⟩).run Tryz.prog w = .ok (.string ⟨Z.toArray⟩) w := add_hid A2 [10] Z hZ (by omega)
  have hv' : (v == 1) = false := by rw [beq_eq_false_iff_ne]; exact hv
  have HVC : Hid (∀ W : World, Calls Tryz.prog 111 #[.int .i64 v] W fun e w' => e = .returned (.string ⟨V.toArray⟩) ∧ w' = W) := fun W => by rw [hV]; exact verdictName_any v W
  have HB : Hid (∀ o n, Below w.heap.size w ((w.alloc o).drewN n)) := fun o n => below_drewN ((Below.refl _ _).alloc (Nat.le_refl _) o) n
  clear hV hA1 hA2 hZ l1 l2 l3 hv
  go_enter Tryz.func78, Tryz.ntmps78
  go_wp2_with fail
  go_quiet (first | (go_at_call 111; refine Calls.quiet_of_same (HVC.out _)))
  go_wp2
  go_ret
  exact ⟨rfl, HB.out _ _⟩

set_option maxRecDepth 100000 in
set_option maxHeartbeats 1600000 in
theorem line_full (r : Rc) (w : World) (hs : r.Short) (hv : r.vd = 1) :
    Calls Tryz.prog 78 #[.agg r.vals] w fun e w' => e = .returned (.string ⟨r.line.toArray⟩) ∧ Below w.heap.size w w' := by
  obtain ⟨n, v, s, c, p, m, l, k⟩ := r
  obtain ⟨s1, s2, s3, s4, p0, p1, m0, m1⟩ := hs
  unfold Rc.vals Rc.line
  dsimp only at s1 s2 s3 s4 p0 p1 m0 m1 hv ⊢
  subst hv
  rw [if_pos rfl]
  obtain ⟨P, rfl⟩ : ∃ P : Nat, p = (P : Int) := ⟨p.toNat, by omega⟩
  obtain ⟨M, rfl⟩ : ∃ M : Nat, m = (M : Int) := ⟨m.toNat, by omega⟩
  rw [show ((P : Int)).toNat = P by omega, show ((M : Int)).toNat = M by omega]
  obtain ⟨V, hV⟩ : ∃ V, V = Ln.verdict 1 := ⟨_, rfl⟩
  obtain ⟨SD, hSD⟩ : ∃ SD, SD = Ln.strand s := ⟨_, rfl⟩
  obtain ⟨D1, hD1⟩ : ∃ D1, D1 = Ln.dig 3 P := ⟨_, rfl⟩
  obtain ⟨D2, hD2⟩ : ∃ D2, D2 = Ln.dig 3 M := ⟨_, rfl⟩
  have lV : V.length ≤ 9 := by rw [hV]; exact Ln.verdict_length 1
  have lS : SD.length ≤ 4 := by rw [hSD]; exact Ln.strand_length s
  have lD1 : D1.length ≤ 4 := by rw [hD1]; exact Ln.dig_length 3 P
  have lD2 : D2.length ≤ 4 := by rw [hD2]; exact Ln.dig_length 3 M
  rw [← hV, ← hSD, ← hD1, ← hD2]
  obtain ⟨A1, hA1⟩ : ∃ x, x = n ++ [9] := ⟨_, rfl⟩
  obtain ⟨A2, hA2⟩ : ∃ x, x = A1 ++ V := ⟨_, rfl⟩
  obtain ⟨B1, hB1⟩ : ∃ x, x = A2 ++ [9] := ⟨_, rfl⟩
  obtain ⟨B2, hB2⟩ : ∃ x, x = B1 ++ SD := ⟨_, rfl⟩
  obtain ⟨B3, hB3⟩ : ∃ x, x = B2 ++ [9] := ⟨_, rfl⟩
  obtain ⟨B4, hB4⟩ : ∃ x, x = B3 ++ c := ⟨_, rfl⟩
  obtain ⟨B5, hB5⟩ : ∃ x, x = B4 ++ [9] := ⟨_, rfl⟩
  obtain ⟨B6, hB6⟩ : ∃ x, x = B5 ++ D1 := ⟨_, rfl⟩
  obtain ⟨B7, hB7⟩ : ∃ x, x = B6 ++ [9] := ⟨_, rfl⟩
  obtain ⟨B8, hB8⟩ : ∃ x, x = B7 ++ D2 := ⟨_, rfl⟩
  obtain ⟨B9, hB9⟩ : ∃ x, x = B8 ++ [9] := ⟨_, rfl⟩
  obtain ⟨B10, hB10⟩ : ∃ x, x = B9 ++ l := ⟨_, rfl⟩
  obtain ⟨B11, hB11⟩ : ∃ x, x = B10 ++ [9] := ⟨_, rfl⟩
  obtain ⟨B12, hB12⟩ : ∃ x, x = B11 ++ k := ⟨_, rfl⟩
  obtain ⟨Z, hZ⟩ : ∃ x, x = B12 ++ [10] := ⟨_, rfl⟩
  rw [show n ++ [9] ++ V ++ [9] ++ SD ++ [9] ++ c ++ [9] ++ D1 ++ [9] ++ D2 ++ [9] ++ l ++ [9] ++ k ++ [10] = Z from by rw [hZ, hB12, hB11, hB10, hB9, hB8, hB7, hB6, hB5, hB4, hB3, hB2, hB1, hA2, hA1]]
  have l1 := congrArg List.length hA1
  have l2 := congrArg List.length hA2
  have l3 := congrArg List.length hB1
  have l4 := congrArg List.length hB2
  have l5 := congrArg List.length hB3
  have l6 := congrArg List.length hB4
  have l7 := congrArg List.length hB5
  have l8 := congrArg List.length hB6
  have l9 := congrArg List.length hB7
  have l10 := congrArg List.length hB8
  have l11 := congrArg List.length hB9
  have l12 := congrArg List.length hB10
  have l13 := congrArg List.length hB11
  have l14 := congrArg List.length hB12
  have l15 := congrArg List.length hZ
  simp only [List.length_append, List.length_cons, List.length_nil] at l1 l2 l3 l4 l5 l6 l7 l8 l9 l10 l11 l12 l13 l14 l15
  have a1 : ∀ w : World, (Op.stringOp .add ⟨n.toArray⟩ ⟨#[9]⟩).run Tryz.prog w = .ok (.string ⟨A1.toArray⟩) w := add_hid n [9] A1 hA1 (by omega)
  have a2 := add_hid A1 V A2 hA2 (by omega)
  have b1 : ∀ w : World, (Op.stringOp .add ⟨A2.toArray⟩ ⟨#[9]⟩).run Tryz.prog w = .ok (.string ⟨B1.toArray⟩) w := add_hid A2 [9] B1 hB1 (by omega)
  have b2 := add_hid B1 SD B2 hB2 (by omega)
  have b3 : ∀ w : World, (Op.stringOp .add ⟨B2.toArray⟩ ⟨#[9]⟩).run Tryz.prog w = .ok (.string ⟨B3.toArray⟩) w := add_hid B2 [9] B3 hB3 (by omega)
  have b4 := add_hid B3 c B4 hB4 (by omega)
  have b5 : ∀ w : World, (Op.stringOp .add ⟨B4.toArray⟩ ⟨#[9]⟩).run Tryz.prog w = .ok (.string ⟨B5.toArray⟩) w := add_hid B4 [9] B5 hB5 (by omega)
  have b6 := add_hid B5 D1 B6 hB6 (by omega)
  have b7 : ∀ w : World, (Op.stringOp .add ⟨B6.toArray⟩ ⟨#[9]⟩).run Tryz.prog w = .ok (.string ⟨B7.toArray⟩) w := add_hid B6 [9] B7 hB7 (by omega)
  have b8 := add_hid B7 D2 B8 hB8 (by omega)
  have b9 : ∀ w : World, (Op.stringOp .add ⟨B8.toArray⟩ ⟨#[9]⟩).run Tryz.prog w = .ok (.string ⟨B9.toArray⟩) w := add_hid B8 [9] B9 hB9 (by omega)
  have b10 := add_hid B9 l B10 hB10 (by omega)
  have b11 : ∀ w : World, (Op.stringOp .add ⟨B10.toArray⟩ ⟨#[9]⟩).run Tryz.prog w = .ok (.string ⟨B11.toArray⟩) w := add_hid B10 [9] B11 hB11 (by omega)
  have b12 := add_hid B11 k B12 hB12 (by omega)
  have b13 : ∀ w : World, (Op.stringOp .add ⟨B12.toArray⟩ ⟨#[10]⟩).run Tryz.prog w = .ok (.string ⟨Z.toArray⟩) w := add_hid B12 [10] Z hZ (by omega)
  have HVC : Hid (∀ W : World, Calls Tryz.prog 111 #[.int .i64 1] W fun e w' => e = .returned (.string ⟨V.toArray⟩) ∧ w' = W) := fun W => by rw [hV]; exact verdictName_any 1 W
  have HSC : Hid (∀ W : World, Calls Tryz.prog 112 #[.int .i64 s] W fun e w' => e = .returned (.string ⟨SD.toArray⟩) ∧ w' = W) := fun W => by rw [hSD]; exact strandName_any s W
  have HD1 : Hid (∀ W : World, Calls Tryz.prog 113 #[.int .i64 (P : Int)] W fun e w' => e = .returned (.string ⟨D1.toArray⟩) ∧ Below W.heap.size W w') := fun W => by rw [hD1]; exact digits_any 3 P W (by omega) (by omega)
  have HD2 : Hid (∀ W : World, Calls Tryz.prog 113 #[.int .i64 (M : Int)] W fun e w' => e = .returned (.string ⟨D2.toArray⟩) ∧ Below W.heap.size W w') := fun W => by rw [hD2]; exact digits_any 3 M W (by omega) (by omega)
  have HK : Hid (∀ w1 W : World, Below W.heap.size W w1 →
      W.cell? ⟨w.heap.size, 2, none⟩ = some (.int .i64 s) ∧ W.cell? ⟨w.heap.size, 3, none⟩ = some (.string ⟨c.toArray⟩) ∧ W.cell? ⟨w.heap.size, 4, none⟩ = some (.int .i64 (P : Int)) ∧ W.cell? ⟨w.heap.size, 5, none⟩ = some (.int .i64 (M : Int)) ∧ W.cell? ⟨w.heap.size, 6, none⟩ = some (.string ⟨l.toArray⟩) ∧ W.cell? ⟨w.heap.size, 7, none⟩ = some (.string ⟨k.toArray⟩) →
      w1.cell? ⟨w.heap.size, 2, none⟩ = some (.int .i64 s) ∧ w1.cell? ⟨w.heap.size, 3, none⟩ = some (.string ⟨c.toArray⟩) ∧ w1.cell? ⟨w.heap.size, 4, none⟩ = some (.int .i64 (P : Int)) ∧ w1.cell? ⟨w.heap.size, 5, none⟩ = some (.int .i64 (M : Int)) ∧ w1.cell? ⟨w.heap.size, 6, none⟩ = some (.string ⟨l.toArray⟩) ∧ w1.cell? ⟨w.heap.size, 7, none⟩ = some (.string ⟨k.toArray⟩)) := fun w1 W hb h => by
    have hlt := World.block_lt_of_cell? W _ h.1
    have e : ∀ i, w1.cell? ⟨w.heap.size, i, none⟩ = W.cell? ⟨w.heap.size, i, none⟩ := fun i => hb.cell (p := ⟨w.heap.size, i, none⟩) hlt
    rw [e, e, e, e, e, e]
    exact h
  have HB : Hid (∀ o n, Below w.heap.size w ((w.alloc o).drewN n)) := fun o n => below_drewN ((Below.refl _ _).alloc (Nat.le_refl _) o) n
  have HB2 : Hid (∀ (W w1 : World), Below w.heap.size w W → Below W.heap.size W w1 → Below w.heap.size w w1) := fun W w1 h1 h2 => h1.trans (h2.mono h1.size)
  clear hV hSD hD1 hD2 hA1 hA2 hB1 hB2 hB3 hB4 hB5 hB6 hB7 hB8 hB9 hB10 hB11 hB12 hZ l1 l2 l3 l4 l5 l6 l7 l8 l9 l10 l11 l12 l13 l14 l15
  go_enter Tryz.func78, Tryz.ntmps78
  go_wp2_with fail
  go_quiet (first | (go_at_call 111; refine Calls.quiet_of_same (HVC.out _)))
  go_wp2_with fail
  go_region_held3 (fun Y => Y.cell? ⟨w.heap.size, 2, none⟩ = some (.int .i64 s) ∧ Y.cell? ⟨w.heap.size, 3, none⟩ = some (.string ⟨c.toArray⟩) ∧ Y.cell? ⟨w.heap.size, 4, none⟩ = some (.int .i64 (P : Int)) ∧ Y.cell? ⟨w.heap.size, 5, none⟩ = some (.int .i64 (M : Int)) ∧ Y.cell? ⟨w.heap.size, 6, none⟩ = some (.string ⟨l.toArray⟩) ∧ Y.cell? ⟨w.heap.size, 7, none⟩ = some (.string ⟨k.toArray⟩))
    (first | (refine HK.out _ _ (by assumption) ?_; assumption) | (go_keep))
    (first
      | (go_at_call 112; refine (HSC.out _).mono ?_; rintro e w' ⟨rfl, hw⟩; subst w')
      | (go_at_call_of 113 (Value.int IntKind.i64 (P : Int)); refine (HD1.out _).mono ?_; rintro e w1 ⟨rfl, hb1⟩)
      | (go_at_call 113; refine (HD2.out _).mono ?_; rintro e w2 ⟨rfl, hb2⟩))
  all_goals
    go_wp2
    go_ret
    refine ⟨rfl, HB2.out _ _ (HB2.out _ _ ?_ hb1) hb2⟩
    exact (HB.out _ _).drew

theorem Rc.short_of {r : Rc} (h : r.right = true) : r.nm.length ≤ 32 ∧ (r.vd = 1 → r.Short) := by
  unfold Rc.right at h
  split at h
  · simp at h
  · next hn =>
    have hn' : Ln.name r.nm = true := by simpa using hn
    have h32 : r.nm.length ≤ 32 := by
      simp only [Ln.name, Bool.and_eq_true, decide_eq_true_eq] at hn'
      exact hn'.2.2
    refine ⟨h32, fun hv => ?_⟩
    split at h
    · simp at h
    · split at h
      · simp at h
      · simp only [Rc.full, Ln.name, Bool.and_eq_true, decide_eq_true_eq, beq_iff_eq] at h
        obtain ⟨_, ⟨_, _, hc⟩, _, _, h1, h2, _, h4, h5, h6, h7⟩ := h
        exact ⟨h32, hc, by omega, by omega, h1, h2, h5, by omega⟩

theorem line_any (r : Rc) (w : World) (h : r.right = true) :
    Calls Tryz.prog 78 #[.agg r.vals] w fun e w' => e = .returned (.string ⟨r.line.toArray⟩) ∧ Below w.heap.size w w' := by
  obtain ⟨h1, h2⟩ := Rc.short_of h
  by_cases hv : r.vd = 1
  · exact line_full r w (h2 hv) hv
  · exact line_bare r w h1 hv

theorem Rc.line_length {r : Rc} (h : r.right = true) : r.line.length ≤ 400 := by
  obtain ⟨h1, h2⟩ := Rc.short_of h
  have hv := Ln.verdict_length r.vd
  unfold Rc.line
  split
  · next hv1 =>
    obtain ⟨s1, s2, s3, s4, _, _, _, _⟩ := h2 hv1
    have := Ln.strand_length r.sd
    have := Ln.dig_length 3 r.pl.toNat
    have := Ln.dig_length 3 r.mm.toNat
    simp only [List.length_append, List.length_cons, List.length_nil]
    omega
  · simp only [List.length_append, List.length_cons, List.length_nil]
    omega

end Go.Proofs.YtfcbgfomhmcikaaGreatDoor
