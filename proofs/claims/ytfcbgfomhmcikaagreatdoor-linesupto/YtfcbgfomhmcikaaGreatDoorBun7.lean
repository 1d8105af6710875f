/-
  THE DOCUMENT'S Parse: the record of a line's fields. Own text of the verifier.
  THE STEPS AHEAD OF EVERY SCRIPT ('first'), 'among', and a step as seven cells. Own text of the verifier.
  THE WALK of 'among': does a number stand in a list? Own text of the verifier.
  'plays', ONCE FOR ALL SCRIPTS: whatever invariant the steps in play keep. Own text of the verifier.
  THE DOCUMENT'S Parse: the record of eight fields. Own text of the verifier.
  PLAIN MATHEMATICS: the fields of a right record's line are the record again. Own text of the verifier.
-/
import Derived.Test.YtfcbgfomhmcikaaGreatDoorBun6
import Derived.Test.YtfcbgfomhmcikaaGreatDoorBun1
import Derived.Test.YtfcbgfomhmcikaaGreatDoorBun3
namespace Go.Proofs.YtfcbgfomhmcikaaGreatDoor
open Go.RowKit

/-- the verdict that a word is, of the first k -/
def Ln.vdk (y : List UInt8) : Nat → Int
  | 0 => -1
  | k + 1 => if Ln.verdict (k : Int) = y then (k : Int) else Ln.vdk y k
/-- the strand that a word is, of the first k -/
def Ln.sdk (y : List UInt8) : Nat → Int
  | 0 => 0
  | k + 1 => if Ln.strand ((k + 1 : Nat) : Int) = y then ((k + 1 : Nat) : Int) else Ln.sdk y k

/-- the record of fields; it may be wrong -/
def Ln.recOf : List (List UInt8) → Rc
  | [a, b, c, d, e, f, g, h] => ⟨a, Ln.vdk b 3, Ln.sdk c 4, d, Ln.num e, Ln.num f, g, h⟩
  | a :: b :: _ => ⟨a, Ln.vdk b 3, 0, [], 0, 0, [], []⟩
  | _ => ⟨[], -1, 0, [], 0, 0, [], []⟩

theorem Tryz.sizeRec : (Tryz.prog.info? 47).map (·.size) = some 8 := by kernel_rfl

/-- the result of 'record' lies in a block of its own -/
theorem rec_ret {w : World} {A : Array Value} {o2 : Obj} {tmps : Array Value} (hp : tmps.getD 2 undef = .pointer (some ⟨w.heap.size, 0, none⟩)) (h8 : A.size = 8) :
    (results Tryz.f82 tmps).run Tryz.prog ((w.alloc (.cells A 47)).alloc o2) = .ok (.agg A) ((w.alloc (.cells A 47)).alloc o2) :=
  results_cell_row rfl tmps _ w.heap.size 47 A (0, 0) _ hp ((Below.heap_alloc _ _ _ (by simp)).trans (heap_alloc_new w _)) Tryz.underlying47 rfl (by rw [Tryz.sizeRec, h8])

set_option maxRecDepth 100000 in
set_option maxHeartbeats 400000 in
theorem record_few (w : World) (va : Option Addr) (n c : Nat) (h : n < 2) :
    Calls Tryz.prog 82 #[.slice va n c] w fun e w' => e = .returned (.agg (Rc.vals ⟨[], -1, 0, [], 0, 0, [], []⟩)) ∧ Below w.heap.size w w' := by
  have h1 : ¬ (2 : Int) ≤ (n : Int) := by omega
  have h8 : ((n : Int) == 8) = false := by rw [beq_eq_false_iff_ne]; omega
  have HB : Hid (∀ o o2, Below w.heap.size w ((w.alloc o).alloc o2)) := fun o o2 => ((Below.refl _ _).alloc (Nat.le_refl _) o).alloc (by simp) o2
  go_enter Tryz.func82, Tryz.ntmps82
  go_wp2
  refine bodyPost_ret (rec_ret rfl rfl) rfl ?_
  exact ⟨rfl, HB.out _ _⟩

theorem beq_list (a b : List UInt8) : (a == b) = decide (a = b) := by
  by_cases h : a = b
  · subst h; simp
  · simp [h]

set_option maxRecDepth 100000 in
set_option maxHeartbeats 800000 in
theorem record_two (w : World) (gl n c : Nat) (x y : List UInt8) (h2 : 2 ≤ n) (h8 : n ≠ 8) (x0 : w.cell? ⟨gl, 0, none⟩ = some (.string ⟨x.toArray⟩)) (x1 : w.cell? ⟨gl, 1, none⟩ = some (.string ⟨y.toArray⟩)) :
    Calls Tryz.prog 82 #[.slice (some ⟨gl, 0, none⟩) n c] w fun e w' => e = .returned (.agg (Rc.vals ⟨x, Ln.vdk y 3, 0, [], 0, 0, [], []⟩)) ∧ Below w.heap.size w w' := by
  have h2' : (2 : Int) ≤ (n : Int) := by omega
  have h8' : ((n : Int) == 8) = false := by rw [beq_eq_false_iff_ne]; omega
  have hgl := World.block_lt_of_cell? w _ x0
  have hn0 : (0 : Int) < (n : Int) := by omega
  have hn1 : (1 : Int) < (n : Int) := by omega
  have HB : Hid (∀ o o2, Below w.heap.size w ((w.alloc o).alloc o2)) := fun o o2 => ((Below.refl _ _).alloc (Nat.le_refl _) o).alloc (by simp) o2
  obtain ⟨F, hF⟩ : ∃ F, F = Ln.vdk y 3 := ⟨_, rfl⟩
  rw [← hF]
  have HF : Hid _ := hF
  clear hF
  simp only [] at hgl
  go_enter Tryz.func82, Tryz.ntmps82
  go_wp2
  go_loopw [4] (fun i wr => ∃ (k : Nat) (u : Int), k ≤ 3 ∧ i = .int .i64 (k : Int) ∧ Hid (u = Ln.vdk y k) ∧ wr = (w.alloc (.cells #[.string ⟨#[]⟩, .int .i64 0, .int .i64 0, .string ⟨#[]⟩, .int .i64 0, .int .i64 0, .string ⟨#[]⟩, .string ⟨#[]⟩] 47)).alloc (.cells #[.string ⟨x.toArray⟩, .int .i64 u, .int .i64 0, .string ⟨#[]⟩, .int .i64 0, .int .i64 0, .string ⟨#[]⟩, .string ⟨#[]⟩] 47)) (fun i _ => 3 - (intOf i).toNat)
  case atStart => exact ⟨0, -1, by omega, rfl, rfl, rfl⟩
  case round =>
    obtain ⟨k, u, hk, rfl, HU, rfl⟩ := hrel
    by_cases hlt : k < 3
    · have hlt' : (k : Int) ≤ 2 := by omega
      obtain ⟨V, hV⟩ : ∃ V, V = Ln.verdict (k : Int) := ⟨_, rfl⟩
      have HVC : Hid (∀ W : World, Calls Tryz.prog 111 #[.int .i64 (k : Int)] W fun e w' => e = .returned (.string ⟨V.toArray⟩) ∧ w' = W) := fun W => by rw [hV]; exact verdictName_any _ W
      cases hb : (V == y) with
      | true =>
        have HU2 : Hid ((k : Int) = Ln.vdk y (k + 1)) := by
          show _ = _
          rw [Ln.vdk, if_pos (by rw [← hV]; exact eq_of_beq hb)]
        clear HU hV
        go_wp2_with (go_at_call 111; refine (HVC.out _).mono ?_; rintro e w' ⟨rfl, hw⟩; subst w')
        go_roundw
        case rel => exact ⟨k + 1, (k : Int), by omega, by go_num, HU2.out, rfl⟩
        case measure => simp [intOf]; omega
      | false =>
        have HU2 : Hid (u = Ln.vdk y (k + 1)) := by
          show _ = _
          rw [Ln.vdk, if_neg (by rw [← hV]; intro h; rw [h] at hb; simp at hb)]
          exact HU.out
        clear HU hV
        go_wp2_with (go_at_call 111; refine (HVC.out _).mono ?_; rintro e w' ⟨rfl, hw⟩; subst w')
        go_roundw
        case rel => exact ⟨k + 1, u, by omega, by go_num, HU2.out, rfl⟩
        case measure => simp [intOf]; omega
    · have hk3 : k = 3 := by omega
      have HU2 : Hid (u = F) := by show _ = _; rw [HF.out, HU.out, hk3]
      have hlt' : ¬ (k : Int) ≤ 2 := by omega
      clear hk3 HU
      go_wp2
      refine bodyPost_ret (rec_ret rfl rfl) rfl ?_
      exact ⟨by rw [HU2.out]; rfl, HB.out _ _⟩

end Go.Proofs.YtfcbgfomhmcikaaGreatDoor

namespace Go.Proofs.YtfcbgfomhmcikaaGreatDoor
open Go.RowKit

/-- a step, as a value: its seven cells -/
structure OpV where
  k : Int
  a : Int
  b : Int
  c : Int
  s : ByteArray
  t : ByteArray
  la : Option Addr
  ln : Nat
  lc : Nat

def OpV.cells (o : OpV) : List Value := [.int .i64 o.k, .int .i64 o.a, .int .i64 o.b, .int .i64 o.c, .string o.s, .string o.t, .slice o.la o.ln o.lc]

/-- the ten steps that are asked in any case; h: the block of the one record -/
def firstOps (h : Nat) : List OpV := [
  ⟨1, 0, 0, 0, ⟨#[62, 111, 110, 101, 10, 65, 67, 71, 84, 10, 116, 84, 67, 103, 97, 10]⟩, ⟨#[]⟩, none, 0, 0⟩,
  ⟨2, 0, 0, 0, ⟨#[64, 114, 10, 65, 67, 71, 10, 43, 10, 73, 73, 73, 10]⟩, ⟨#[]⟩, none, 0, 0⟩,
  ⟨3, 0, 0, 0, ⟨#[65, 67, 71, 84, 78]⟩, ⟨#[]⟩, none, 0, 0⟩,
  ⟨4, 1, 0, 0, ⟨#[65, 67, 71, 84, 78]⟩, ⟨#[]⟩, none, 0, 0⟩,
  ⟨5, 0, 0, 0, ⟨#[]⟩, ⟨#[]⟩, none, 0, 0⟩,
  ⟨6, 0, 1, 1, ⟨#[84, 84, 71]⟩, ⟨#[]⟩, none, 0, 0⟩,
  ⟨7, 0, 0, 0, ⟨#[114]⟩, ⟨#[84, 84, 84, 71]⟩, none, 0, 0⟩,
  ⟨8, 0, 0, 0, ⟨#[]⟩, ⟨#[]⟩, some ⟨h, 0, none⟩, 1, 1⟩,
  ⟨9, 0, 0, 0, ⟨#[114, 9, 97, 109, 98, 105, 103, 117, 111, 117, 115, 10]⟩, ⟨#[]⟩, none, 0, 0⟩,
  ⟨10, 0, 2, 0, ⟨#[62, 111, 110, 101, 10, 65, 67, 71, 84, 84, 67, 71, 65, 10]⟩, ⟨#[64, 114, 10, 84, 84, 84, 71, 10, 43, 10, 73, 73, 73, 73, 10]⟩, none, 0, 0⟩]

def recordCells : Array Value := #[.string ⟨#[114]⟩, .int .i64 0, .int .i64 0, .string ⟨#[]⟩, .int .i64 0, .int .i64 0, .string ⟨#[]⟩, .string ⟨#[]⟩]

set_option maxRecDepth 100000 in
set_option maxHeartbeats 1600000 in
theorem first_any (w : World) :
    Calls Tryz.prog 9 #[] w fun e w' =>
      ∃ v, e = .returned v ∧ w'.ownsRow w.heap.size 42 7 v 10 ((firstOps w.heap.size).flatMap OpV.cells) ∧ w'.heap[w.heap.size]? = some (.cells recordCells 47 (0, 0)) ∧ Below w.heap.size w w' ∧ w'.heap.size = w.heap.size + 2 := by
  go_enter Tryz.func9, Tryz.ntmps9
  go_wp2
  go_ret
  have hn : (w.alloc (.cells recordCells 47)).heap.size = w.heap.size + 1 := by simp
  have ho := World.ownsRow_lit (base := w.heap.size) (e := 42) (size := 7) (w.alloc (.cells recordCells 47)) ((firstOps w.heap.size).flatMap OpV.cells).toArray 10 (by rw [hn]; omega) (by decide) rfl
  rw [hn] at ho
  refine ⟨_, rfl, ho, ?_, ((Below.refl _ _).alloc (Nat.le_refl _) _).alloc (by rw [World.size_alloc]; omega) _, by simp⟩
  refine (Below.heap_alloc _ _ _ (by rw [World.size_alloc]; omega)).trans ?_
  exact heap_alloc_new w _

end Go.Proofs.YtfcbgfomhmcikaaGreatDoor

namespace Go.Proofs.YtfcbgfomhmcikaaGreatDoor
open Go.RowKit

/-- does k stand in the list? -/
def inL (pl : List Int) (k : Int) : Bool := pl.any (· == k)

theorem inL_stop (pl : List Int) (k : Int) (j : Nat) (h : j < pl.length) (he : (pl[j] == k) = true) : inL pl k = true := by
  rw [inL, List.any_eq_true]
  exact ⟨pl[j], List.getElem_mem _, he⟩
theorem inL_snoc (pl : List Int) (k : Int) (j : Nat) (h : j < pl.length) (h0 : inL (pl.take j) k = false) (he : (pl[j] == k) = false) : inL (pl.take (j + 1)) k = false := by
  rw [List.take_succ_eq_append_getElem h]
  simp only [inL, List.any_append, List.any_cons, List.any_nil, Bool.or_false] at *
  rw [h0, he]; rfl
theorem inL_whole (pl : List Int) (k : Int) (j : Nat) (h : ¬ j < pl.length) (h0 : inL (pl.take j) k = false) : inL pl k = false := by
  rwa [List.take_of_length_le (by omega)] at h0

set_option maxRecDepth 100000 in
set_option maxHeartbeats 800000 in
theorem among_any (pl : List Int) (b n : Nat) (k : Int) (w : World) (hn : pl.length = n) (h10 : n ≤ 100) (hc : ∀ j (h : j < pl.length), w.cell? ⟨b, j, none⟩ = some (.int .i64 pl[j])) :
    Calls Tryz.prog 10 #[.slice (some ⟨b, 0, none⟩) n n, .int .i64 k] w fun e w' => e = .returned (.bool (inL pl k)) ∧ w' = w := by
  have HN : Hid (pl.length = n) := hn
  have HC : Hid (∀ j (h : j < pl.length), w.cell? ⟨b, j, none⟩ = some (.int .i64 pl[j])) := hc
  clear hn hc
  go_enter Tryz.func10, Tryz.ntmps10
  go_wp2
  go_loop [5] (fun i => ∃ j : Nat, j ≤ n ∧ i = .int .i64 j ∧ Hid (inL (pl.take j) k = false)) (fun i => n - (intOf i).toNat)
  case atStart => exact ⟨0, Nat.zero_le _, rfl, rfl⟩
  case round =>
    obtain ⟨j, hj, rfl, HI⟩ := hrel
    by_cases hlt : j < n
    · have hl : j < pl.length := by rw [HN.out]; exact hlt
      have hcell := HC.out j hl
      cases he : (pl[j] == k) with
      | true =>
        have HF : Hid (inL pl k = true) := inL_stop pl k j hl he
        clear HI
        go_wp2
        go_ret
        exact ⟨ret_bool HF.out.symm, rfl⟩
      | false =>
        have HF : Hid (inL (pl.take (j + 1)) k = false) := inL_snoc pl k j hl HI.out he
        clear HI
        go_wp2
        go_round
        case rel => exact ⟨j + 1, by omega, by go_num, HF⟩
        case measure => simp [intOf]; omega
    · have HF : Hid (inL pl k = false) := inL_whole pl k j (by rw [HN.out]; exact hlt) HI.out
      clear HI
      go_wp2
      go_ret
      exact ⟨ret_bool HF.out.symm, rfl⟩

end Go.Proofs.YtfcbgfomhmcikaaGreatDoor

namespace Go.Proofs.YtfcbgfomhmcikaaGreatDoor
open Go.RowKit

theorem Tryz.infoOp : (Tryz.prog.info? 42).map (fun i => (i.zero, i.size, i.bytes)) = some (some (.agg #[.int .i64 0, .int .i64 0, .int .i64 0, .int .i64 0, .string ⟨#[]⟩, .string ⟨#[]⟩, .slice none 0 0]), 7, 88) := by kernel_rfl
theorem Tryz.infoConts : (Tryz.prog.info? 30).map (fun i => (i.zero, i.size, i.bytes)) = some (some (.slice none 0 0), 1, 24) := by kernel_rfl

theorem cells_length (l : List OpV) : (l.flatMap OpV.cells).length = l.length * 7 := by
  induction l with
  | nil => rfl
  | cons o l ih => rw [List.flatMap_cons, List.length_append, ih, List.length_cons]; simp [OpV.cells]; omega

theorem cells_at (l : List OpV) (k : Nat) (h : k < l.length) (j : Nat) (hj : j < 7) : (l.flatMap OpV.cells)[k * 7 + j]? = (l[k].cells)[j]? := by
  induction l generalizing k with
  | nil => simp at h
  | cons o l ih =>
    rw [List.flatMap_cons]
    cases k with
    | zero => rw [List.getElem?_append_left (by simp [OpV.cells]; omega)]; simp
    | succ k =>
      rw [List.getElem?_append_right (by simp [OpV.cells]; omega)]
      have e : (k + 1) * 7 + j - o.cells.length = k * 7 + j := by simp [OpV.cells]; omega
      rw [e, ih k (by simpa using h)]
      simp

theorem cells_one (l : List OpV) : ∀ u ∈ l.flatMap OpV.cells, u.oneCell' = true := by
  intro u hu
  obtain ⟨o, ho, hu⟩ := List.mem_flatMap.1 hu
  simp only [OpV.cells, List.mem_cons, List.not_mem_nil, or_false] at hu
  rcases hu with rfl | rfl | rfl | rfl | rfl | rfl | rfl <;> rfl

/-- how it stands when the first step is about to be played: w0, the World at block g; h1: the block of the reference's one contig; h: that of the one record; lv: the references -/
structure PlayStart (w w0 : World) (g h h1 : Nat) (lv : Value) (rs : List Value) : Prop where
  world : w0.heap[g]? = some (.cells #[lv, .slice none 0 0, .slice none 0 0, .slice none 0 0, .slice none 0 0, .slice none 0 0] 39 (0, 0))
  refs : w0.ownsRow w.heap.size 30 1 lv (1 + rs.length) ([.slice (some ⟨h1, 0, none⟩) 1 1] ++ rs)
  contig : w0.heap[h1]? = some (.cells #[.string ⟨#[111, 110, 101]⟩, .string ⟨#[65, 67, 71, 84, 84, 67, 71, 65]⟩] 29 (0, 0))
  record : w0.heap[h]? = some (.cells recordCells 47 (0, 0))
  below : Below w.heap.size w w0
  h_lt : h < g
  h1_lt : h1 < g
  size : w0.heap.size = g + 1
  old : w.heap.size ≤ g

theorem own_pos {w : World} {base e size n : Nat} {v : Value} {xs : List Value} (h : w.ownsRow base e size v n xs) (hn : 0 < n) : ∃ g cap, v = .slice (some ⟨g, 0, none⟩) n cap ∧ base ≤ g ∧ g < w.heap.size := by
  rcases h.2 with ⟨_, rfl⟩ | ⟨g, cap, cur, rfl, hb, hg, _⟩
  · omega
  · exact ⟨g, cap, rfl, hb, (Array.getElem?_eq_some_iff.1 hg).1⟩

/-- the reference of the law's own, just made -/
def contigObj : Obj := .cells #[.string ⟨#[111, 110, 101]⟩, .string ⟨#[65, 67, 71, 84, 84, 67, 71, 65]⟩] 29

theorem lit3 (w w2 : World) (hbel2 : Below w.heap.size w w2) :
    ((w2.alloc (.cells #[.string ⟨#[111, 110, 101]⟩, .string ⟨#[65, 67, 71, 84, 84, 67, 71, 65]⟩] 29)).alloc (.cells #[.slice (some ⟨w2.heap.size, 0, none⟩) 1 1] 30)).ownsRow w.heap.size 30 1 (.slice (some ⟨w2.heap.size + 1, 0, none⟩) 1 1) 1 [.slice (some ⟨w2.heap.size, 0, none⟩) 1 1] ∧
    Below w.heap.size w ((w2.alloc (.cells #[.string ⟨#[111, 110, 101]⟩, .string ⟨#[65, 67, 71, 84, 84, 67, 71, 65]⟩] 29)).alloc (.cells #[.slice (some ⟨w2.heap.size, 0, none⟩) 1 1] 30)) ∧
    ((w2.alloc (.cells #[.string ⟨#[111, 110, 101]⟩, .string ⟨#[65, 67, 71, 84, 84, 67, 71, 65]⟩] 29)).alloc (.cells #[.slice (some ⟨w2.heap.size, 0, none⟩) 1 1] 30)).heap[w2.heap.size]? = some contigObj := by
  have hs := hbel2.size
  generalize hA : (Obj.cells #[.string ⟨#[111, 110, 101]⟩, .string ⟨#[65, 67, 71, 84, 84, 67, 71, 65]⟩] 29) = A
  have hn : (w2.alloc A).heap.size = w2.heap.size + 1 := World.size_alloc ..
  have ho := World.ownsRow_lit (base := w.heap.size) (e := 30) (size := 1) (w2.alloc A) #[.slice (some ⟨w2.heap.size, 0, none⟩) 1 1] 1 (by rw [hn]; omega) (by decide) rfl
  rw [hn] at ho
  refine ⟨ho, (hbel2.alloc hs _).alloc (by rw [hn]; omega) _, ?_⟩
  refine (Below.heap_alloc _ _ _ (by rw [hn]; omega)).trans ?_
  rw [contigObj, hA]
  exact heap_alloc_new w2 _

theorem start_of {w w1 w2 W3 w4 : World} {v a4v : Value} {n2 ga capa : Nat} {rs xs1 xs2 xs4 : List Value} {C : Array Value}
    (hown1 : w1.ownsRow w.heap.size 42 7 v 10 xs1) (hrec : w1.heap[w.heap.size]? = some (.cells recordCells 47 (0, 0))) (hs1 : w1.heap.size = w.heap.size + 2)
    (_hown2 : w2.ownsRow w.heap.size 42 7 (.slice (some ⟨ga, 0, none⟩) n2 capa) n2 xs2) (hga : ga < w2.heap.size) (hs2 : w1.heap.size ≤ w2.heap.size) (hk2 : ∀ k, k < w1.heap.size → some k ≠ v.ownBlock → w2.heap[k]? = w1.heap[k]?)
    (hs3 : W3.heap.size = w2.heap.size + 2) (h3 : ∀ k, k < w2.heap.size → W3.heap[k]? = w2.heap[k]?) (hc3 : W3.heap[w2.heap.size]? = some contigObj)
    (hs4 : W3.heap.size ≤ w4.heap.size) (hk4 : ∀ k, k < W3.heap.size → some k ≠ some (w2.heap.size + 1) → w4.heap[k]? = W3.heap[k]?)
    (hown4 : w4.ownsRow w.heap.size 30 1 a4v (1 + rs.length) xs4) (hx4 : xs4 = [.slice (some ⟨w2.heap.size, 0, none⟩) 1 1] ++ rs) (hbel4 : Below w.heap.size w w4)
    (hC : C = #[a4v, .slice none 0 0, .slice none 0 0, .slice none 0 0, .slice none 0 0, .slice none 0 0]) :
    PlayStart w (w4.alloc (.cells C 39)) w4.heap.size w.heap.size w2.heap.size a4v rs ∧ (w4.alloc (.cells C 39)).heap[ga]? = w2.heap[ga]? ∧ ga < w4.heap.size := by
  subst hC hx4
  have hrow : some w.heap.size ≠ v.ownBlock := by
    rcases hown1.2 with ⟨_, h0⟩ | ⟨g, cap, cur, rfl, _, hg, _⟩
    · omega
    · intro he
      simp [Value.ownBlock] at he
      rw [← he, hrec] at hg
      simp at hg
  refine ⟨⟨heap_alloc_new _ _, hown4.alloc _, ?_, ?_, hbel4.alloc hbel4.size _, by omega, by omega, by rw [World.size_alloc], hbel4.size⟩, ?_, by omega⟩
  · rw [Below.heap_alloc _ _ _ (by omega), hk4 _ (by omega) (by simp)]
    exact hc3
  · rw [Below.heap_alloc _ _ _ (by omega), hk4 _ (by omega) (by simp; omega), h3 _ (by omega), hk2 _ (by omega) hrow]
    exact hrec
  · rw [Below.heap_alloc _ _ _ (by omega), hk4 _ (by omega) (by simp; omega), h3 _ hga]

/-- a step's cells, where the list of all steps lies -/
theorem all_cells {w2 wr : World} {base ga n capa : Nat} {l : List OpV} (hown : w2.ownsRow base 42 7 (.slice (some ⟨ga, 0, none⟩) n capa) n (l.flatMap OpV.cells)) (hn : l.length = n) (h : wr.heap[ga]? = w2.heap[ga]?) (k : Nat) (hk : k < l.length) :
    ∀ j, j < 7 → wr.cell? ⟨ga, k * 7 + j, none⟩ = (l[k].cells)[j]? := by
  intro j hj
  rw [World.cell?_of_block (w := w2) (a := ⟨ga, k * 7 + j, none⟩) h, hown.cellAt _ (by omega), cells_at l k hk j hj]

set_option maxRecDepth 100000 in
set_option maxHeartbeats 4000000 in
theorem plays_any (w : World) (refsV scriptV : Value) (rs : List Value) (ss : List OpV) (pl : List Int) (bp np : Nat)
    (hrefs : Src w refsV rs.length rs) (hrs : ∀ u ∈ rs, u.oneCell' = true) (hrl : (1 + rs.length) * 24 ≤ 140737488355328)
    (hscr : Src w scriptV ss.length (ss.flatMap OpV.cells)) (hsl : (10 + ss.length) * 88 ≤ 140737488355328)
    (hnp : pl.length = np) (hp100 : np ≤ 100) (hpl : ∀ j (h : j < pl.length), w.cell? ⟨bp, j, none⟩ = some (.int .i64 pl[j]))
    (H : ∀ (w0 : World) (g h h1 : Nat) (lv : Value), PlayStart w w0 g h h1 lv rs → ∃ Inv : Nat → World → Prop, Inv 0 w0 ∧ (∀ k w1 w2, Inv k w1 → Below w1.heap.size w1 w2 → Inv k w2 ∧ Inv (k + 1) w2) ∧
      (∀ o, o ∈ firstOps h ++ ss → inL pl o.k = true → ∀ k w1, k < 10 + ss.length → Inv k w1 → Below g w0 w1 → g < w1.heap.size →
        Calls Tryz.prog 11 #[.pointer (some ⟨g, 0, none⟩), .agg #[.int .i64 o.k, .int .i64 o.a, .int .i64 o.b, .int .i64 o.c, .string o.s, .string o.t, .slice o.la o.ln o.lc]] w1 fun e w2 => e = .returned (.bool true) ∧ Inv (k + 1) w2 ∧ Below g w1 w2) ∧
      (∀ k w1, k ≤ 10 + ss.length → Inv k w1 → Below g w0 w1 → g < w1.heap.size → Calls Tryz.prog 12 #[.pointer (some ⟨g, 2, none⟩)] w1 fun e w2 => e = .returned (.bool true) ∧ Inv k w2 ∧ Below g w1 w2)) :
    Calls Tryz.prog 8 #[refsV, scriptV, .slice (some ⟨bp, 0, none⟩) np np] w fun e w' => e = .returned (.bool true) ∧ Below w.heap.size w w' := by
  have HH : Hid _ := H
  have HPL : Hid _ := hpl
  have HNP : Hid _ := hnp
  clear H hpl hnp
  go_enter Tryz.func8, Tryz.ntmps8
  go_wp2_with fail
  refine (first_any _).mono ?_
  rintro e w1 ⟨v, rfl, hown1, hrec1, hbel1, hsize1⟩
  have HR1 : Hid _ := hrec1
  have HS1 : Hid _ := hsize1
  clear hrec1 hsize1
  go_wp2_with (first
    | (at_builtin; refine app_src rfl _ _ 23 rfl w.heap.size 42 _ 7 88 Tryz.underlying23 Tryz.infoOp rfl (by decide) v 10 _ scriptV ss.length (ss.flatMap OpV.cells) rfl rfl (by exact hown1) (hscr.mono hbel1) (cells_length ss) (cells_one ss) hbel1 (by have := hbel1.size; omega) hsl (by decide) ?_; intro v2 w2 hown2 hbel2 hsize2 hkeep2; obtain ⟨ga, capa, hv2, hga1, hga2⟩ := own_pos hown2 (by omega); subst hv2; have HK2 : Hid _ := hkeep2; clear hkeep2; have h3 := lit3 w w2 hbel2; obtain ⟨hown3, hbel3, hcont3⟩ := h3; have HC3 : Hid _ := hcont3; clear hcont3)
    | (at_builtin; refine app_src rfl _ _ 22 rfl w.heap.size 30 _ 1 24 Tryz.underlying22 Tryz.infoConts rfl (by decide) (.slice (some ⟨w2.heap.size + 1, 0, none⟩) 1 1) 1 _ refsV rs.length rs rfl rfl (by exact hown3) (hrefs.mono hbel3) (by omega) hrs hbel3 (by have := hbel3.size; omega) hrl (by decide) ?_; intro v4 w4 hown4 hbel4 hsize4 hkeep4; obtain ⟨a4, cap4, hv4⟩ := own_form hown4; subst hv4; have HK4 : Hid _ := hkeep4; clear hkeep4))
  have hfl : (firstOps w.heap.size).length = 10 := rfl
  rw [← List.flatMap_append] at hown2
  obtain ⟨hst, hga0, hga4⟩ := start_of hown1 HR1.out HS1.out hown2 hga2 hsize2 HK2.out (by simp) (fun k hk => by rw [Below.heap_alloc _ _ _ (by rw [World.size_alloc]; omega), Below.heap_alloc _ _ _ hk]) HC3.out hsize4 HK4.out hown4 rfl hbel4 rfl
  obtain ⟨Inv, hI0, hIst, hIstep, hIlooks⟩ := HH.out _ _ _ _ _ hst
  have hs0 := hst.size
  have hb0 := hst.below
  have HL : Hid ((firstOps w.heap.size ++ ss).length = 10 + ss.length) := by show _ = _; rw [List.length_append, hfl]
  have HCs : Hid _ := fun (wr : World) (h : wr.heap[ga]? = w2.heap[ga]?) k hk => all_cells hown2 HL.out h k hk
  have HG0 : Hid _ := hga0
  have HST : Hid _ := hIst
  have HSP : Hid _ := hIstep
  have HLK : Hid _ := hIlooks
  clear hst hIst hIstep hIlooks hown1 hown2 hown3 hown4 hrefs hscr hga0 hbel1 hbel2 hbel3 hbel4 hsize2 hsize4 HK2 HK4 HC3 HR1 HS1 HH hfl
  generalize hw0 : (w4.alloc (Obj.cells #[Value.slice a4 (1 + rs.length) cap4, .slice none 0 0, .slice none 0 0, .slice none 0 0, .slice none 0 0, .slice none 0 0] 39)) = w0 at *
  clear hw0
  generalize hg0 : w4.heap.size = g at *
  clear hg0
  generalize firstOps w.heap.size ++ ss = ops at *
  generalize 10 + ss.length = N at *
  go_loopw [10] (fun i wr => ∃ k : Nat, k ≤ N ∧ i = .int .i64 k ∧ Inv k wr ∧ Below g w0 wr) (fun i _ => N - (intOf i).toNat)
  case atStart => exact ⟨0, Nat.zero_le _, rfl, hI0, Below.refl _ _⟩
  case round =>
    obtain ⟨k, hk, rfl, hI, hbr⟩ := hrel
    have hsr := hbr.size
    by_cases hlt : k < N
    · have hkl : k < ops.length := by rw [HL.out]; exact hlt
      have hcs := HCs.out wr ((hbr.block _ (by omega)).trans HG0.out) k hkl
      obtain ⟨o, ho⟩ : ∃ o, o = ops[k] := ⟨_, rfl⟩
      rw [← ho] at hcs
      have hmem : o ∈ ops := by rw [ho]; exact List.getElem_mem _
      have c0 : wr.cell? ⟨ga, k * 7, none⟩ = some (.int .i64 o.k) := hcs 0 (by omega)
      have c1 : wr.cell? ⟨ga, k * 7 + 1, none⟩ = some (.int .i64 o.a) := hcs 1 (by omega)
      have c2 : wr.cell? ⟨ga, k * 7 + 2, none⟩ = some (.int .i64 o.b) := hcs 2 (by omega)
      have c3 : wr.cell? ⟨ga, k * 7 + 3, none⟩ = some (.int .i64 o.c) := hcs 3 (by omega)
      have c4 : wr.cell? ⟨ga, k * 7 + 4, none⟩ = some (.string o.s) := hcs 4 (by omega)
      have c5 : wr.cell? ⟨ga, k * 7 + 5, none⟩ = some (.string o.t) := hcs 5 (by omega)
      have c6 : wr.cell? ⟨ga, k * 7 + 6, none⟩ = some (.slice o.la o.ln o.lc) := hcs 6 (by omega)
      clear hcs ho
      have hmx : (k : Int) < 144115188075855872 := by omega
      have hkn : (k : Int) < (N : Int) := by omega
      have hb5 : Below wr.heap.size wr (wr.alloc (Obj.cells #[.int .i64 o.k, .int .i64 o.a, .int .i64 o.b, .int .i64 o.c, .string o.s, .string o.t, .slice o.la o.ln o.lc] 42)) := (Below.refl _ _).alloc (Nat.le_refl _) _
      have HI5 : Hid _ := HST.out _ _ _ hI hb5
      have HB5 : Hid _ := hbr.trans (hb5.mono (by omega))
      have HP5 : Hid _ := fun j (h : j < pl.length) => (hb5.cell (p := ⟨bp, j, none⟩) (by have := World.block_lt_of_cell? w _ (HPL.out j h); have := hb0.size; simp at *; omega)).trans ((hbr.cell (p := ⟨bp, j, none⟩) (by have := World.block_lt_of_cell? w _ (HPL.out j h); simp at *; omega)).trans ((hb0.cell (p := ⟨bp, j, none⟩) (World.block_lt_of_cell? w _ (HPL.out j h))).trans (HPL.out j h)))
      clear hb5 hI
      have HBR : Hid _ := hbr
      clear hbr
      have hgr : g < wr.heap.size + 1 := by omega
      cases hin : inL pl o.k with
      | false =>
        have HIN : Hid _ := hin
        clear hin
        go_wp2_with (go_at_call 10; refine (among_any pl bp np _ _ HNP.out hp100 HP5.out).mono ?_; rintro e w' ⟨rfl, hw⟩; subst w'; rw [HIN.out])
        go_roundw
        case rel => exact ⟨k + 1, by omega, by go_num, HI5.out.2, HB5.out⟩
        case measure => simp [intOf]; omega
      | true =>
        have HIN : Hid _ := hin
        clear hin
        go_wp2_with fail
        refine (among_any pl bp np _ _ HNP.out hp100 HP5.out).mono ?_
        rintro e w' ⟨rfl, hw⟩
        subst w'
        rw [HIN.out]
        go_wp2_with fail
        refine (HSP.out o hmem HIN.out k _ hlt HI5.out.1 HB5.out (by simp; omega)).mono ?_
        rintro e w6 ⟨rfl, hI6, hb6⟩
        have hs6 := hb6.size
        rw [World.size_alloc] at hs6
        have hb06 := HB5.out.trans hb6
        go_wp2_with fail
        refine (HLK.out (k + 1) _ hlt hI6 hb06 (by omega)).mono ?_
        rintro e w7 ⟨rfl, hI7, hb7⟩
        go_wp2
        go_roundw
        case rel => exact ⟨k + 1, by omega, by go_num, hI7, hb06.trans hb7⟩
        case measure => simp [intOf]; omega
    · have hnk : ¬ (k : Int) < (N : Int) := by omega
      go_wp2
      go_ret
      exact ⟨rfl, hb0.trans (hbr.mono (by have := hb0.size; omega))⟩

end Go.Proofs.YtfcbgfomhmcikaaGreatDoor

namespace Go.Proofs.YtfcbgfomhmcikaaGreatDoor
open Go.RowKit

set_option maxRecDepth 100000 in
set_option maxHeartbeats 1600000 in
theorem record_eight (w : World) (gl cp : Nat) (a b c d e f g h : List UInt8) (he : e.length ≤ 140737488355327) (hf : f.length ≤ 140737488355327)
    (x0 : w.cell? ⟨gl, 0, none⟩ = some (.string ⟨a.toArray⟩)) (x1 : w.cell? ⟨gl, 1, none⟩ = some (.string ⟨b.toArray⟩)) (x2 : w.cell? ⟨gl, 2, none⟩ = some (.string ⟨c.toArray⟩)) (x3 : w.cell? ⟨gl, 3, none⟩ = some (.string ⟨d.toArray⟩))
    (x4 : w.cell? ⟨gl, 4, none⟩ = some (.string ⟨e.toArray⟩)) (x5 : w.cell? ⟨gl, 5, none⟩ = some (.string ⟨f.toArray⟩)) (x6 : w.cell? ⟨gl, 6, none⟩ = some (.string ⟨g.toArray⟩)) (x7 : w.cell? ⟨gl, 7, none⟩ = some (.string ⟨h.toArray⟩)) :
    Calls Tryz.prog 82 #[.slice (some ⟨gl, 0, none⟩) 8 cp] w fun e' w' => e' = .returned (.agg (Rc.vals ⟨a, Ln.vdk b 3, Ln.sdk c 4, d, Ln.num e, Ln.num f, g, h⟩)) ∧ Below w.heap.size w w' := by
  have hgl : gl < w.heap.size := World.block_lt_of_cell? w _ x0
  have HB : Hid (∀ o o2, Below w.heap.size w ((w.alloc o).alloc o2)) := fun o o2 => ((Below.refl _ _).alloc (Nat.le_refl _) o).alloc (by simp) o2
  obtain ⟨F1, hF1⟩ : ∃ F, F = Ln.vdk b 3 := ⟨_, rfl⟩
  obtain ⟨F2, hF2⟩ : ∃ F, F = Ln.sdk c 4 := ⟨_, rfl⟩
  obtain ⟨N1, hN1⟩ : ∃ F, F = Ln.num e := ⟨_, rfl⟩
  obtain ⟨N2, hN2⟩ : ∃ F, F = Ln.num f := ⟨_, rfl⟩
  rw [← hF1, ← hF2, ← hN1, ← hN2]
  have HF1 : Hid _ := hF1
  have HF2 : Hid _ := hF2
  have HN1 : Hid (∀ W : World, Calls Tryz.prog 117 #[.string ⟨e.toArray⟩] W fun e' w' => e' = .returned (.int .i64 N1) ∧ w' = W) := fun W => by
    have := number_any ⟨e.toArray⟩ W (by rw [str_size]; exact he)
    rw [hN1]
    exact this
  have HN2 : Hid (∀ W : World, Calls Tryz.prog 117 #[.string ⟨f.toArray⟩] W fun e' w' => e' = .returned (.int .i64 N2) ∧ w' = W) := fun W => by
    have := number_any ⟨f.toArray⟩ W (by rw [str_size]; exact hf)
    rw [hN2]
    exact this
  clear hF1 hF2 hN1 hN2
  go_enter Tryz.func82, Tryz.ntmps82
  go_wp2
  go_loopw [4] (fun i wr => ∃ (k : Nat) (u : Int), k ≤ 3 ∧ i = .int .i64 (k : Int) ∧ Hid (u = Ln.vdk b k) ∧ wr = (w.alloc (.cells #[.string ⟨#[]⟩, .int .i64 0, .int .i64 0, .string ⟨#[]⟩, .int .i64 0, .int .i64 0, .string ⟨#[]⟩, .string ⟨#[]⟩] 47)).alloc (.cells #[.string ⟨a.toArray⟩, .int .i64 u, .int .i64 0, .string ⟨#[]⟩, .int .i64 0, .int .i64 0, .string ⟨#[]⟩, .string ⟨#[]⟩] 47)) (fun i _ => 3 - (intOf i).toNat)
  case atStart => exact ⟨0, -1, by omega, rfl, rfl, rfl⟩
  case round =>
    obtain ⟨k, u, hk, rfl, HU, rfl⟩ := hrel
    by_cases hlt : k < 3
    · have hlt' : (k : Int) ≤ 2 := by omega
      obtain ⟨V, hV⟩ : ∃ V, V = Ln.verdict (k : Int) := ⟨_, rfl⟩
      have HVC : Hid (∀ W : World, Calls Tryz.prog 111 #[.int .i64 (k : Int)] W fun e w' => e = .returned (.string ⟨V.toArray⟩) ∧ w' = W) := fun W => by rw [hV]; exact verdictName_any _ W
      cases hb : (V == b) with
      | true =>
        have HU2 : Hid ((k : Int) = Ln.vdk b (k + 1)) := by
          show _ = _
          rw [Ln.vdk, if_pos (by rw [← hV]; exact eq_of_beq hb)]
        clear HU hV
        go_wp2_with (go_at_call 111; refine (HVC.out _).mono ?_; rintro e w' ⟨rfl, hw⟩; subst w')
        go_roundw
        case rel => exact ⟨k + 1, (k : Int), by omega, by go_num, HU2.out, rfl⟩
        case measure => simp [intOf]; omega
      | false =>
        have HU2 : Hid (u = Ln.vdk b (k + 1)) := by
          show _ = _
          rw [Ln.vdk, if_neg (by rw [← hV]; intro h; rw [h] at hb; simp at hb)]
          exact HU.out
        clear HU hV
        go_wp2_with (go_at_call 111; refine (HVC.out _).mono ?_; rintro e w' ⟨rfl, hw⟩; subst w')
        go_roundw
        case rel => exact ⟨k + 1, u, by omega, by go_num, HU2.out, rfl⟩
        case measure => simp [intOf]; omega
    · have hk3 : k = 3 := by omega
      have HU2 : Hid (u = F1) := by show _ = _; rw [HF1.out, HU.out, hk3]
      have hlt' : ¬ (k : Int) ≤ 2 := by omega
      clear hk3 HU
      go_wp2
      go_loopw [6] (fun i wr => ∃ (q : Nat) (z : Int), q ≤ 4 ∧ i = .int .i64 ((q : Int) + 1) ∧ Hid (z = Ln.sdk c q) ∧ wr = (w.alloc (.cells #[.string ⟨#[]⟩, .int .i64 0, .int .i64 0, .string ⟨#[]⟩, .int .i64 0, .int .i64 0, .string ⟨#[]⟩, .string ⟨#[]⟩] 47)).alloc (.cells #[.string ⟨a.toArray⟩, .int .i64 u, .int .i64 z, .string ⟨#[]⟩, .int .i64 0, .int .i64 0, .string ⟨#[]⟩, .string ⟨#[]⟩] 47)) (fun i _ => 5 - (intOf i).toNat)
      case atStart => exact ⟨0, 0, by omega, rfl, rfl, rfl⟩
      case round =>
        obtain ⟨q, z, hq, rfl, HZ, rfl⟩ := hrel
        by_cases hlt : q < 4
        · have hlt2 : (q : Int) + 1 ≤ 4 := by omega
          obtain ⟨V, hV⟩ : ∃ V, V = Ln.strand ((q + 1 : Nat) : Int) := ⟨_, rfl⟩
          have HVC : Hid (∀ W : World, Calls Tryz.prog 112 #[.int .i64 ((q : Int) + 1)] W fun e w' => e = .returned (.string ⟨V.toArray⟩) ∧ w' = W) := fun W => by
            rw [hV, show ((q : Int) + 1) = ((q + 1 : Nat) : Int) by omega]; exact strandName_any _ W
          cases hb : (V == c) with
          | true =>
            have HZ2 : Hid ((q : Int) + 1 = Ln.sdk c (q + 1)) := by
              show _ = _
              rw [Ln.sdk, if_pos (by rw [← hV]; exact eq_of_beq hb)]
              omega
            clear HZ hV
            go_wp2_with (go_at_call 112; refine (HVC.out _).mono ?_; rintro e w' ⟨rfl, hw⟩; subst w')
            go_roundw
            case rel => exact ⟨q + 1, (q : Int) + 1, by omega, by go_num, HZ2.out, rfl⟩
            case measure => simp [intOf]; omega
          | false =>
            have HZ2 : Hid (z = Ln.sdk c (q + 1)) := by
              show _ = _
              rw [Ln.sdk, if_neg (by rw [← hV]; intro h; rw [h] at hb; simp at hb)]
              exact HZ.out
            clear HZ hV
            go_wp2_with (go_at_call 112; refine (HVC.out _).mono ?_; rintro e w' ⟨rfl, hw⟩; subst w')
            go_roundw
            case rel => exact ⟨q + 1, z, by omega, by go_num, HZ2.out, rfl⟩
            case measure => simp [intOf]; omega
        · have hq4 : q = 4 := by omega
          have HZ2 : Hid (z = F2) := by show _ = _; rw [HF2.out, HZ.out, hq4]
          have hlt2 : ¬ (q : Int) + 1 ≤ 4 := by omega
          clear hq4 HZ
          go_wp2_with (first
            | (go_at_call_of 117 (Value.string ⟨e.toArray⟩); refine (HN1.out _).mono ?_; rintro e w' ⟨rfl, hw⟩; subst w')
            | (go_at_call 117; refine (HN2.out _).mono ?_; rintro e w' ⟨rfl, hw⟩; subst w'))
          refine bodyPost_ret (rec_ret rfl rfl) rfl ?_
          exact ⟨by rw [HU2.out, HZ2.out]; rfl, HB.out _ _⟩

theorem Txs_at {X : World} {B : Nat} {v : Value} {l : List (List UInt8)} (h : X.ownsRow B 9 1 v l.length (Txs l)) (hp : 0 < l.length) :
    ∃ g c, v = .slice (some ⟨g, 0, none⟩) l.length c ∧ ∀ k (h : k < l.length), X.cell? ⟨g, k, none⟩ = some (.string ⟨l[k].toArray⟩) := by
  obtain ⟨g, c, rfl, _, _⟩ := own_pos h hp
  refine ⟨g, c, rfl, fun k hk => ?_⟩
  rw [h.cellAt k (by omega)]
  simp [Txs, hk]

theorem record_any (w : World) (B : Nat) (v : Value) (l : List (List UInt8)) (ho : w.ownsRow B 9 1 v l.length (Txs l)) (hl : ∀ x ∈ l, x.length ≤ 140737488355327) :
    Calls Tryz.prog 82 #[v] w fun e' w' => e' = .returned (.agg (Ln.recOf l).vals) ∧ Below w.heap.size w w' := by
  by_cases h2 : l.length < 2
  · obtain ⟨ao, c, rfl⟩ := own_form ho
    have e : Ln.recOf l = ⟨[], -1, 0, [], 0, 0, [], []⟩ := by
      match l, h2 with
      | [], _ => rfl
      | [_], _ => rfl
    rw [e]
    exact record_few w ao l.length c h2
  · obtain ⟨g, c, rfl, hc⟩ := Txs_at ho (by omega)
    by_cases h8 : l.length = 8
    · match l, h8, hc, hl with
      | [a0, a1, a2, a3, a4, a5, a6, a7], _, hc, hl =>
        exact record_eight w g c a0 a1 a2 a3 a4 a5 a6 a7 (hl _ (by simp)) (hl _ (by simp)) (hc 0 (by simp)) (hc 1 (by simp)) (hc 2 (by simp)) (hc 3 (by simp)) (hc 4 (by simp)) (hc 5 (by simp)) (hc 6 (by simp)) (hc 7 (by simp))
    · obtain ⟨a, b, r, rfl⟩ : ∃ a b r, l = a :: b :: r := by
        cases l with
        | nil => exact absurd (by simp) h2
        | cons a l =>
          cases l with
          | nil => exact absurd (by simp) h2
          | cons b r => exact ⟨a, b, r, rfl⟩
      have e : Ln.recOf (a :: b :: r) = ⟨a, Ln.vdk b 3, 0, [], 0, 0, [], []⟩ := by
        unfold Ln.recOf
        split
        · next hx => rw [hx] at h8; simp at h8
        · next hx => simp only [List.cons.injEq] at hx; obtain ⟨rfl, rfl, _⟩ := hx; rfl
        · next hn1 hn2 => exact absurd rfl (hn2 a b r)
      rw [e]
      exact record_two w g _ c _ _ (by simp) h8 (hc 0 (by simp)) (hc 1 (by simp))

end Go.Proofs.YtfcbgfomhmcikaaGreatDoor

namespace Go.Proofs.YtfcbgfomhmcikaaGreatDoor

/-- no tab, no line's end -/
def Ln.clean (l : List UInt8) : Prop := ∀ c ∈ l, c ≠ 10 ∧ c ≠ 9

theorem Ln.flds_run : ∀ (a : List UInt8), Ln.clean a → ∀ acc cur t, Ln.flds acc cur (a ++ t) = Ln.flds acc (cur ++ a) t := by
  intro a
  induction a with
  | nil => intro _ acc cur t; simp
  | cons c a ih =>
    intro h acc cur t
    have hc := h c (List.mem_cons_self ..)
    rw [List.cons_append, Ln.flds, if_neg hc.1, if_neg hc.2, ih (fun x hx => h x (List.mem_cons_of_mem _ hx))]
    simp

theorem Ln.flds_tab (a t : List UInt8) (h : Ln.clean a) (acc : List (List UInt8)) : Ln.flds acc [] (a ++ ([9] ++ t)) = Ln.flds (acc ++ [a]) [] t := by
  rw [Ln.flds_run a h]
  simp [Ln.flds]
theorem Ln.flds_end (a t : List UInt8) (h : Ln.clean a) (acc : List (List UInt8)) : Ln.flds acc [] (a ++ ([10] ++ t)) = some (acc ++ [a], t) := by
  rw [Ln.flds_run a h]
  simp [Ln.flds]

theorem clean_all {p : UInt8 → Bool} (hp : ∀ c, p c = true → c ≠ 10 ∧ c ≠ 9) {l : List UInt8} (h : l.all p = true) : Ln.clean l := by
  intro c hc
  exact hp c (List.all_eq_true.1 h c hc)
theorem nb_clean (c : UInt8) : Tx.nb c = true → c ≠ 10 ∧ c ≠ 9 := Lt.every (p := fun c => Tx.nb c = true → c ≠ 10 ∧ c ≠ 9) (by decide +kernel) c
theorem isL_clean (c : UInt8) : Lt.isL c = true → c ≠ 10 ∧ c ≠ 9 := Lt.every (p := fun c => Lt.isL c = true → c ≠ 10 ∧ c ≠ 9) (by decide +kernel) c
theorem isCall_clean (c : UInt8) : Ln.isCall c = true → c ≠ 10 ∧ c ≠ 9 := Lt.every (p := fun c => Ln.isCall c = true → c ≠ 10 ∧ c ≠ 9) (by decide +kernel) c
theorem isDig_clean (c : UInt8) : Ln.isDig c = true → c ≠ 10 ∧ c ≠ 9 := Lt.every (p := fun c => Ln.isDig c = true → c ≠ 10 ∧ c ≠ 9) (by decide +kernel) c
theorem name_clean {l : List UInt8} (h : Ln.name l = true) : Ln.clean l := by
  simp only [Ln.name, Bool.and_eq_true] at h
  exact clean_all nb_clean h.1
theorem verdict_clean (n : Int) : Ln.clean (Ln.verdict n) := by
  unfold Ln.verdict Ln.clean
  split
  · decide
  · split <;> decide
theorem strand_clean (n : Int) : Ln.clean (Ln.strand n) := by
  unfold Ln.strand Ln.clean
  split
  · decide
  · split
    · decide
    · split <;> decide

theorem dig_one (n : Nat) (h : n < 10) : Ln.isDig (UInt8.ofNat (48 + n)) = true ∧ (UInt8.ofNat (48 + n)).toNat - 48 = n := by
  have : n = 0 ∨ n = 1 ∨ n = 2 ∨ n = 3 ∨ n = 4 ∨ n = 5 ∨ n = 6 ∨ n = 7 ∨ n = 8 ∨ n = 9 := by omega
  rcases this with rfl | rfl | rfl | rfl | rfl | rfl | rfl | rfl | rfl | rfl <;> decide
theorem dig_all : ∀ (f n : Nat), n < 10 ^ (f + 1) → (Ln.dig f n).all Ln.isDig = true ∧ Ln.numv (Ln.dig f n) = n ∧ 0 < (Ln.dig f n).length := by
  intro f
  induction f with
  | zero =>
    intro n h
    have h10 : n < 10 := by simpa using h
    obtain ⟨h1, h2⟩ := dig_one n h10
    rw [Ln.dig_low 0 n h10]
    refine ⟨by rw [List.all_cons, h1]; rfl, ?_, by simp⟩
    simp only [Ln.numv, List.foldl_cons, List.foldl_nil]
    omega
  | succ f ih =>
    intro n h
    by_cases h10 : n < 10
    · obtain ⟨h1, h2⟩ := dig_one n h10
      rw [Ln.dig_low _ n h10]
      refine ⟨by rw [List.all_cons, h1]; rfl, ?_, by simp⟩
      simp only [Ln.numv, List.foldl_cons, List.foldl_nil]
      omega
    · obtain ⟨i1, i2, i3⟩ := ih (n / 10) (by rw [Nat.pow_succ] at h; omega)
      obtain ⟨h1, h2⟩ := dig_one (n % 10) (by omega)
      rw [Ln.dig, if_neg h10]
      refine ⟨by rw [List.all_append, i1, List.all_cons, h1]; rfl, ?_, by simp⟩
      rw [numv_snoc, i2, h2]
      omega
theorem num_dig (n : Nat) (h : n < 10000) : Ln.num (Ln.dig 3 n) = (n : Int) := by
  obtain ⟨h1, h2, h3⟩ := dig_all 3 n (by simpa using h)
  have h4 := Ln.dig_length 3 n
  rw [Ln.num, if_neg (by omega), if_neg (by omega), h1, h2]
  rfl
theorem dig_clean (n : Nat) (h : n < 10000) : Ln.clean (Ln.dig 3 n) := clean_all isDig_clean (dig_all 3 n (by simpa using h)).1

theorem vdk_verdict (v : Int) (h0 : 0 ≤ v) (h2 : v ≤ 2) : Ln.vdk (Ln.verdict v) 3 = v := by
  have : v = 0 ∨ v = 1 ∨ v = 2 := by omega
  rcases this with rfl | rfl | rfl <;> decide
theorem sdk_strand (v : Int) (h : Lt.strandB v = true) : Ln.sdk (Ln.strand v) 4 = v := by
  have : v = 1 ∨ v = 2 ∨ v = 3 ∨ v = 4 := by
    simp only [Lt.strandB, Bool.and_eq_true, decide_eq_true_eq] at h
    omega
  rcases this with rfl | rfl | rfl | rfl <;> decide

/-- the fields of a record's line -/
def Rc.fields (r : Rc) : List (List UInt8) :=
  if r.vd = 1 then [r.nm, Ln.verdict r.vd, Ln.strand r.sd, r.ct, Ln.dig 3 r.pl.toNat, Ln.dig 3 r.mm.toNat, r.lt, r.cl] else [r.nm, Ln.verdict r.vd]

theorem Rc.right_parts {r : Rc} (h : r.right = true) : Ln.name r.nm = true ∧ 0 ≤ r.vd ∧ r.vd ≤ 2 ∧ (r.vd = 1 → r.full = true) ∧ (r.vd ≠ 1 → r.bare = true) := by
  unfold Rc.right at h
  split at h
  · simp at h
  · next hn =>
    split at h
    · simp at h
    · split at h
      · simp at h
      · next h0 h2 =>
        refine ⟨by simpa using hn, by omega, by omega, fun hv => ?_, fun hv => ?_⟩
        · rw [if_pos hv] at h; exact h
        · rw [if_neg hv] at h; exact h

theorem Rc.full_parts {r : Rc} (h : r.full = true) : Lt.strandB r.sd = true ∧ Ln.name r.ct = true ∧ Lt.allL r.lt = true ∧ Ln.calls r.cl = true ∧ 0 ≤ r.pl ∧ r.pl ≤ 4096 ∧ 0 ≤ r.mm ∧ r.mm ≤ 128 := by
  simp only [Rc.full, Bool.and_eq_true, decide_eq_true_eq] at h
  obtain ⟨h1, h2, h3, h4, h5, h6, _, h8, h9, h10, _⟩ := h
  exact ⟨h1, h2, h3, h4, h5, h6, h9, by omega⟩

theorem Rc.back (r : Rc) (h : r.right = true) (t : List UInt8) : Ln.flds [] [] (r.line ++ t) = some (r.fields, t) ∧ Ln.recOf r.fields = r := by
  obtain ⟨hn, h0, h2, hf, hb⟩ := Rc.right_parts h
  have cn := name_clean hn
  have cv := verdict_clean r.vd
  by_cases hv : r.vd = 1
  · obtain ⟨f1, f2, f3, f4, f5, f6, f7, f8⟩ := Rc.full_parts (hf hv)
    have cs := strand_clean r.sd
    have cc := name_clean f2
    have cp := dig_clean r.pl.toNat (by omega)
    have cm := dig_clean r.mm.toNat (by omega)
    have cl := clean_all isL_clean f3
    have ck := clean_all isCall_clean f4
    constructor
    · rw [Rc.line, if_pos hv, Rc.fields, if_pos hv]
      simp only [List.append_assoc]
      rw [Ln.flds_tab _ _ cn, Ln.flds_tab _ _ cv, Ln.flds_tab _ _ cs, Ln.flds_tab _ _ cc, Ln.flds_tab _ _ cp, Ln.flds_tab _ _ cm, Ln.flds_tab _ _ cl, Ln.flds_end _ _ ck]
      rfl
    · rw [Rc.fields, if_pos hv]
      simp only [Ln.recOf]
      rw [vdk_verdict _ h0 h2, sdk_strand _ f1, num_dig _ (by omega), num_dig _ (by omega)]
      rw [show ((r.pl.toNat : Nat) : Int) = r.pl by omega, show ((r.mm.toNat : Nat) : Int) = r.mm by omega]
  · constructor
    · rw [Rc.line, if_neg hv, Rc.fields, if_neg hv]
      simp only [List.append_assoc]
      rw [Ln.flds_tab _ _ cn, Ln.flds_end _ _ cv]
      rfl
    · have hbare := hb hv
      simp only [Rc.bare, Bool.and_eq_true, beq_iff_eq, List.isEmpty_iff] at hbare
      obtain ⟨b1, b2, b3, b4, b5, b6⟩ := hbare
      rw [Rc.fields, if_neg hv]
      simp only [Ln.recOf]
      rw [vdk_verdict _ h0 h2]
      cases r
      simp_all

/-- records that are right, and that Render makes into t -/
def Ln.IsParse (t : List UInt8) (l : List Rc) : Prop := l.all Rc.right = true ∧ Ln.lines l = t

theorem Rc.line_pos (r : Rc) : 0 < r.line.length := by unfold Rc.line; split <;> (simp; try omega)

/-- of what is not empty: the first record, and the rest -/
theorem Ln.parse_step {t : List UInt8} {l : List Rc} (h : Ln.IsParse t l) (ht : t ≠ []) :
    ∃ r l', l = r :: l' ∧ r.right = true ∧ Ln.flds [] [] t = some (r.fields, Ln.lines l') ∧ Ln.recOf r.fields = r ∧ t = r.line ++ Ln.lines l' ∧ Ln.IsParse (Ln.lines l') l' := by
  obtain ⟨h1, h2⟩ := h
  cases l with
  | nil => exact absurd h2.symm ht
  | cons r l' =>
    rw [List.all_cons, Bool.and_eq_true] at h1
    have e : t = r.line ++ Ln.lines l' := by rw [← h2]; simp [Ln.lines]
    obtain ⟨b1, b2⟩ := Rc.back r h1.1 (Ln.lines l')
    exact ⟨r, l', rfl, h1.1, by rw [e]; exact b1, b2, e, h1.2, rfl⟩

theorem Ln.lines_cons (r : Rc) (l : List Rc) : Ln.lines (r :: l) = r.line ++ Ln.lines l := by simp [Ln.lines]

theorem Ln.parse_unique : ∀ (l l' : List Rc) (t : List UInt8), Ln.IsParse t l → Ln.IsParse t l' → l = l' := by
  intro l
  induction l with
  | nil =>
    intro l' t h h'
    cases l' with
    | nil => rfl
    | cons r l' =>
      have h1 := h.2
      have h2 := h'.2
      have := Rc.line_pos r
      have e : Ln.lines (r :: l') = [] := by rw [h2, ← h1]; rfl
      have := congrArg List.length e
      rw [Ln.lines_cons, List.length_append, List.length_nil] at this
      omega
  | cons r l ih =>
    intro l' t h h'
    have ht : t ≠ [] := by
      intro e
      have h1 := h.2
      rw [e] at h1
      have := Rc.line_pos r
      have := congrArg List.length h1
      rw [Ln.lines_cons, List.length_append, List.length_nil] at this
      omega
    obtain ⟨r1, l1, e1, _, f1, b1, _, p1⟩ := Ln.parse_step h ht
    obtain ⟨r2, l2, e2, _, f2, b2, _, p2⟩ := Ln.parse_step h' ht
    rw [f1] at f2
    simp only [Option.some.injEq, Prod.mk.injEq] at f2
    simp only [List.cons.injEq] at e1
    obtain ⟨rfl, rfl⟩ := e1
    have hr : r = r2 := by rw [← b1, ← b2, f2.1]
    rw [e2, ← hr, ih l2 _ p1 (by rw [f2.2]; exact p2)]

end Go.Proofs.YtfcbgfomhmcikaaGreatDoor
