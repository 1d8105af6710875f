/-
  THE WALKS of 'piece' and 'changed': a piece of a reference, and letters of which some are changed. Own text of the verifier.
-/
import Derived.Test.YtjebhbopmfcopaaBun12
import Derived.Deep.RegionHeld3
namespace Go.Proofs.Ytjebhbopmfcopaa
open Go.RowKit

/-- what 'piece' ends with: letters of a contig, their place, a strand -/
def Kp.PieceOut (cs : List Pr) (w : World) (e : Ending) (w' : World) : Prop :=
  ∃ (c a m : Nat) (n : Int) (z : Pr), e = .returned (.tuple #[.string ⟨((z.2.drop a).take m).toArray⟩, .agg #[.int .i64 (c : Int), .int .i64 (a : Int)], .int .i64 n]) ∧ cs[c]? = some z ∧ 1 ≤ m ∧ m ≤ 128 ∧ a + m ≤ z.2.length ∧ Lt.strandB n = true ∧ Below w.heap.size w w'

theorem Kp.piece_same {cs : List Pr} {w w' : World} {x : ByteArray} {l : List UInt8} {b c : Value} (h : x.data.toList = l) (hF : Kp.PieceOut cs w (.returned (.tuple #[.string ⟨l.toArray⟩, b, c])) w') : Kp.PieceOut cs w (.returned (.tuple #[.string x, b, c])) w' := by
  subst h
  have e : (⟨x.data.toList.toArray⟩ : ByteArray) = x := by cases x; simp
  rw [e] at hF
  exact hF
theorem Kp.sizePlace : (Try.prog.info? 37).map (·.size) = some 2 := by kernel_rfl
theorem Kp.place_ret {w : World} {g : Nat} {A : Array Value} {tmps : Array Value} (hp : tmps.getD 5 undef = .pointer (some ⟨g, 0, none⟩)) (hg : w.heap[g]? = some (.cells A 37 (0, 0))) (h8 : A.size = 2) :
    (results Try.f13 tmps).run Try.prog w = .ok (.tuple #[tmps.getD 4 undef, .agg A, tmps.getD 6 undef]) w := by
  have e : (results Try.f13 tmps).run Try.prog w = ((asAddr (tmps.getD 5 undef)).run Try.prog w).andThen fun a w₁ => ((loadVar 37 a).run Try.prog w₁).andThen fun v w₂ => .ok (.tuple #[tmps.getD 4 undef, v, tmps.getD 6 undef]) w₂ := by
    simp only [results, show Try.f13.results = #[.tmp 4, .cell 5 37, .tmp 6] from rfl]
    simp [Sem.run_bind, Result.andThen]
  rw [e, hp]
  simp only [asAddr, Sem.run_pure, Result.andThen_ok]
  rw [run_loadVar_row w g 37 37 A (0, 0) _ hg Try.underlying37 rfl (by rw [Kp.sizePlace, h8])]
  rfl

set_option maxRecDepth 100000 in
set_option maxHeartbeats 800000 in
theorem kpiece_any (cs : List Pr) (G cc : Nat) (x0 x1 x2 x3 : Int) (r : ByteArray) (xv : Value) (w : World) (h0 : Kp.i64 x0) (h1 : Kp.i64 x1) (h2 : Kp.i64 x2) (h3 : Kp.i64 x3) (hR : Kp.Refs cs) (hp : 0 < cs.length) (hsrc : ∀ j u, (Prs cs)[j]? = some u → w.cell? ((⟨G, 0, none⟩ : Addr).add j) = some u) :
    Calls Try.prog 13 #[.agg #[.int .i64 x0, .int .i64 x1, .int .i64 x2, .int .i64 x3, .string r, xv], .slice (some ⟨G, 0, none⟩) cs.length cc] w fun e w' => Kp.PieceOut cs w e w' := by
  have hfew := hR.few
  obtain ⟨c, hc, hcv⟩ := pickV_in x0 cs.length hp
  have HP0 : Hid (∀ W : World, Calls Try.prog 18 #[.int .i64 x0, .int .i64 (cs.length : Int)] W fun e w' => e = .returned (.int .i64 (c : Int)) ∧ w' = W) := fun W => by
    have := kpick_any x0 cs.length W h0.1 h0.2 hp (by omega)
    rw [hcv] at this
    exact this
  obtain ⟨z, hz⟩ : ∃ z, z = cs[c] := ⟨_, rfl⟩
  have hzm : z ∈ cs := by rw [hz]; exact List.getElem_mem _
  obtain ⟨hzL, hz1, hz4⟩ := hR.let_ z hzm
  have HZ : Hid (cs[c]? = some z) := by show _ = _; rw [hz]; exact List.getElem?_eq_getElem hc
  have s1 := src_pair hsrc c hc
  rw [← hz, Addr.add_lit, Nat.zero_add] at s1
  obtain ⟨a, ha, hav⟩ := pickV_in x1 z.2.length (by omega)
  have hzs : (⟨z.2.toArray⟩ : ByteArray).size = z.2.length := str_size z.2
  have HP1 : Hid (∀ W : World, Calls Try.prog 18 #[.int .i64 x1, .int .i64 (z.2.length : Int)] W fun e w' => e = .returned (.int .i64 (a : Int)) ∧ w' = W) := fun W => by
    have := kpick_any x1 z.2.length W h1.1 h1.2 (by omega) (by omega)
    rw [hav] at this
    exact this
  obtain ⟨q, hq, hqv⟩ := pickV_in x2 128 (by omega)
  have HP2 : Hid (∀ W : World, Calls Try.prog 18 #[.int .i64 x2, .int .i64 128] W fun e w' => e = .returned (.int .i64 (q : Int)) ∧ w' = W) := fun W => by
    have := kpick_any x2 128 W h2.1 h2.2 (by omega) (by omega)
    rw [hqv] at this
    exact this
  obtain ⟨d, hd, hdv⟩ := pickV_in x3 4 (by omega)
  have HP3 : Hid (∀ W : World, Calls Try.prog 18 #[.int .i64 x3, .int .i64 4] W fun e w' => e = .returned (.int .i64 (d : Int)) ∧ w' = W) := fun W => by
    have := kpick_any x3 4 W h3.1 h3.2 (by omega) (by omega)
    rw [hdv] at this
    exact this
  have hc' : (c : Int) < (cs.length : Int) := by omega
  have t1 : (((w.alloc (.cells #[.int .i64 x0, .int .i64 x1, .int .i64 x2, .int .i64 x3, .string r, xv] 31)).alloc (.cells #[.int .i64 0, .int .i64 0] 37)).cell? ⟨G, c * 2 + 1, none⟩) = some (.string ⟨z.2.toArray⟩) := ((((Below.refl _ _).alloc (Nat.le_refl _) _).alloc (by simp) _).cell (World.block_lt_of_cell? w _ s1)).trans s1
  have hst : Lt.strandB (1 + (d : Int)) = true := by rw [Lt.strandB, Bool.and_eq_true]; exact ⟨decide_eq_true (by omega), decide_eq_true (by omega)⟩
  have HFIN : Hid (∀ (m : Nat) (w' : World), 1 ≤ m → m ≤ 128 → a + m ≤ z.2.length → Below w.heap.size w w' → Kp.PieceOut cs w (.returned (.tuple #[.string ⟨((z.2.drop a).take m).toArray⟩, .agg #[.int .i64 (c : Int), .int .i64 (a : Int)], .int .i64 (1 + (d : Int))])) w') := fun m w' m1 m2 m3 hb => ⟨c, a, m, _, z, rfl, HZ.out, m1, m2, m3, hst, hb⟩
  clear hcv hav hqv hdv hz hzm hzL h0 h1 h2 h3 hsrc s1 hR hst HZ
  go_enter Try.func13, Try.ntmps13
  go_wp2_with fail
  refine (HP0.out _).mono ?_
  rintro e w' ⟨rfl, hw⟩
  subst w'
  go_wp2_with fail
  refine (HP1.out _).mono ?_
  rintro e w' ⟨rfl, hw⟩
  subst w'
  go_wp2_with fail
  refine (HP2.out _).mono ?_
  rintro e w' ⟨rfl, hw⟩
  subst w'
  by_cases hgt : (z.2.length : Int) < (a : Int) + (1 + (q : Int))
  · go_wp2_with fail
    rw [show ((z.2.length : Int) - (a : Int)) = ((z.2.length - a : Nat) : Int) from by omega]
    have hm1 : 1 ≤ z.2.length - a := by omega
    have hm2 : z.2.length - a ≤ 128 := by omega
    have hm3 : a + (z.2.length - a) ≤ z.2.length := by omega
    generalize z.2.length - a = m at *
    have hw1 : IntKind.i64.wrap ((a : Int) + (m : Int)) = (a : Int) + (m : Int) := wrap_small _ (by omega) (by omega)
    have hw2 : IntKind.i64.wrap (1 + (d : Int)) = 1 + (d : Int) := wrap_small _ (by omega) (by omega)
    have hm4 : (a : Int) + (m : Int) ≤ (z.2.length : Int) := by omega
    go_region_with (first
      | (go_at_call 18; refine (HP3.out _).mono ?_; rintro e w' ⟨rfl, hw⟩; subst w'))
    all_goals
      go_wp2
      refine bodyPost_ret (Kp.place_ret rfl (by exact two_heap w _ _) rfl) rfl ?_
      refine Kp.piece_same (l := (z.2.drop a).take m) ?_ (HFIN.out m _ hm1 hm2 hm3 (by exact (((Below.refl _ _).alloc (Nat.le_refl _) _).alloc (by simp) _).drew))
      have hx := extract_piece (⟨z.2.toArray⟩ : ByteArray) a (a + m)
      rw [Tx.piece, Nat.add_sub_cancel_left] at hx
      rw [hx]
  · go_wp2_with fail
    rw [show (1 + (q : Int)) = ((1 + q : Nat) : Int) from by omega]
    have hm1 : 1 ≤ 1 + q := by omega
    have hm2 : 1 + q ≤ 128 := by omega
    have hm3 : a + (1 + q) ≤ z.2.length := by omega
    generalize 1 + q = m at *
    have hw1 : IntKind.i64.wrap ((a : Int) + (m : Int)) = (a : Int) + (m : Int) := wrap_small _ (by omega) (by omega)
    have hw2 : IntKind.i64.wrap (1 + (d : Int)) = 1 + (d : Int) := wrap_small _ (by omega) (by omega)
    have hm4 : (a : Int) + (m : Int) ≤ (z.2.length : Int) := by omega
    go_region_with (first
      | (go_at_call 18; refine (HP3.out _).mono ?_; rintro e w' ⟨rfl, hw⟩; subst w'))
    all_goals
      go_wp2
      refine bodyPost_ret (Kp.place_ret rfl (by exact two_heap w _ _) rfl) rfl ?_
      refine Kp.piece_same (l := (z.2.drop a).take m) ?_ (HFIN.out m _ hm1 hm2 hm3 (by exact (((Below.refl _ _).alloc (Nat.le_refl _) _).alloc (by simp) _).drew))
      have hx := extract_piece (⟨z.2.toArray⟩ : ByteArray) a (a + m)
      rw [Tx.piece, Nat.add_sub_cancel_left] at hx
      rw [hx]

end Go.Proofs.Ytjebhbopmfcopaa
