/-
  THE PACKAGE-LEVEL VARIABLES THAT THE ROWS LIST: a world in which they are laid. Own text of the verifier.
  PLAIN MATHEMATICS of letters: which bytes are letters, the letter of the other strand, what bleaching turns. No program is named here. Own text of the verifier.
  THE WALKS of the small functions of letters: IsLetter, Complement, turned, areLetters of the program. Own text of the verifier.
  BYTES OF THE CALL'S OWN: a slice of bytes that the call made: a byte appended, a byte stored, and the string made of it. Own text of the verifier.
  THE STEPS AHEAD OF EVERY SCRIPT ('first'), 'among', and a step as seven cells. Own text of the verifier.
  THE WALK of 'among': does a number stand in a list? Own text of the verifier.
  'append(own, src...)': what is appended came in, or is nil. Own text of the verifier.
  'plays', ONCE FOR ALL SCRIPTS: whatever invariant the steps in play keep. Own text of the verifier.
  A SCRIPT AND A LIST OF REFERENCES THAT CAME IN, OPENED: what their reading says of the cells. Own text of the verifier.
-/
import Derived.Test.YtfcbgfomhmcikaaGreatDoorRows
import Derived.Test.YtfcbgfomhmcikaaGreatDoorTie
import Derived.Test.YtfcbgfomhmcikaaGreatDoorCards
import Derived.ProofKit
import Derived.LaidMore
import Derived.Lay
import Derived.SevenTiedAt
import Derived.Stop.Joined
import Derived.WalkKit
import Derived.WalkSpells
import Derived.WalkLawsBesides
import Derived.Laws.AppendOwnNone
import Derived.OpenShut
import Derived.ShutString
import Derived.ChangeOld
import Derived.Below
import Derived.Deep.Slices
import Derived.SizedLaws
namespace Go.Proofs.YtfcbgfomhmcikaaGreatDoor
open Go.RowKit

/-- what the rows list -/
def laidList : List (String × DataW Unit) := Rows.textsRow.laid

theorem laid_shaped (os : Os) : (World.laidAll Tryz.prog os laidList).Shaped Tryz.prog := World.shaped_of_ZipB (by kernel_rfl) (by kernel_rfl)

theorem laid_met (os : Os) (args : Array Value) : laidMetH Tryz.prog laidList ((World.laidAll Tryz.prog os laidList).forCall (fun _ _ => 0) ⟨#[], args, []⟩).memory := by
  rw [MakeChecks.laidMetH_plain _ _ _ (by kernel_rfl)]
  exact laidMet_laidAll _ (by kernel_rfl) (by kernel_rfl)

end Go.Proofs.YtfcbgfomhmcikaaGreatDoor

namespace Go.Proofs.YtfcbgfomhmcikaaGreatDoor.Lt

def isL (c : UInt8) : Bool := c == 65 || c == 67 || c == 71 || c == 84 || c == 78

def comp (c : UInt8) : UInt8 := if c = 65 then 84 else if c = 67 then 71 else if c = 71 then 67 else if c = 84 then 65 else c

def allL (l : List UInt8) : Bool := l.all isL

def rev (l : List UInt8) : List UInt8 := (l.map comp).reverse

def sub (f t c : UInt8) : UInt8 := if c = f then t else c

def conv (f t : UInt8) (l : List UInt8) : List UInt8 := l.map (sub f t)

theorem toNat_inj {c : UInt8} {n : Nat} (hn : n < 256) : (c.toNat = n) ↔ c = UInt8.ofNat n := by
  constructor
  · intro h
    apply UInt8.toNat_inj.1
    rw [h, UInt8.toNat_ofNat']
    omega
  · intro h
    rw [h, UInt8.toNat_ofNat']
    omega

theorem comp_isL {c : UInt8} (h : isL c = true) : isL (comp c) = true := by
  simp only [isL, Bool.or_eq_true, beq_iff_eq] at h
  rcases h with (((h | h) | h) | h) | h <;> subst h <;> decide

theorem comp_comp {c : UInt8} : comp (comp c) = c := by
  unfold comp
  repeat (first | split | (subst_vars; rfl) | simp_all)

theorem rev_length (l : List UInt8) : (rev l).length = l.length := by simp [rev]

theorem rev_rev (l : List UInt8) : rev (rev l) = l := by
  simp only [rev, List.map_reverse, List.reverse_reverse, List.map_map]
  rw [show (comp ∘ comp) = id from funext fun c => comp_comp]
  simp

theorem rev_allL {l : List UInt8} (h : allL l = true) : allL (rev l) = true := by
  simp only [allL, rev, List.all_reverse, List.all_map, List.all_eq_true] at *
  intro c hc
  exact comp_isL (h c hc)

theorem conv_length (f t : UInt8) (l : List UInt8) : (conv f t l).length = l.length := by simp [conv]

theorem conv_allL {f t : UInt8} (ht : isL t = true) {l : List UInt8} (h : allL l = true) : allL (conv f t l) = true := by
  simp only [allL, conv, List.all_map, List.all_eq_true] at *
  intro c hc
  simp only [Function.comp, sub]
  split
  · exact ht
  · exact h c hc

theorem conv_conv {f t : UInt8} (h : t ≠ f) (l : List UInt8) : conv f t (conv f t l) = conv f t l := by
  simp only [conv, List.map_map]
  congr 1
  funext c
  simp only [Function.comp, sub]
  by_cases hc : c = f
  · simp [hc, h]
  · simp [hc]

/-- what is turned round and bleached for the bottom, turned round again, is what is bleached for the top -/
theorem sub_comp {c : UInt8} (h : isL c = true) : comp (sub 71 65 (comp c)) = sub 67 84 c := by
  simp only [isL, Bool.or_eq_true, beq_iff_eq] at h
  rcases h with (((h | h) | h) | h) | h <;> subst h <;> decide

theorem rev_conv_rev {l : List UInt8} (h : allL l = true) : rev (conv 71 65 (rev l)) = conv 67 84 l := by
  simp only [rev, conv, List.map_reverse, List.reverse_reverse, List.map_map]
  apply List.map_congr_left
  intro c hc
  exact sub_comp (by simp only [allL, List.all_eq_true] at h; exact h c hc)

/-- a fact on bytes, asked of each of the 256 -/
theorem every {p : UInt8 → Prop} [DecidablePred p] (h : (List.range 256).all (fun n => decide (p (UInt8.ofNat n))) = true) (c : UInt8) : p c := by
  have h1 := List.all_eq_true.1 h c.toNat (by rw [List.mem_range]; exact c.toNat_lt)
  rw [UInt8.ofNat_toNat] at h1
  exact of_decide_eq_true h1

theorem isL_int (c : UInt8) : isL c = ((c.toNat : Int) == 65 || (c.toNat : Int) == 67 || (c.toNat : Int) == 71 || (c.toNat : Int) == 84 || (c.toNat : Int) == 78) :=
  every (p := fun c => isL c = ((c.toNat : Int) == 65 || (c.toNat : Int) == 67 || (c.toNat : Int) == 71 || (c.toNat : Int) == 84 || (c.toNat : Int) == 78)) (by decide +kernel) c

theorem comp_int (c : UInt8) : ((comp c).toNat : Int) = if ((c.toNat : Int) == 65) = true then 84 else if ((c.toNat : Int) == 67) = true then 71 else if ((c.toNat : Int) == 71) = true then 67 else if ((c.toNat : Int) == 84) = true then 65 else (c.toNat : Int) :=
  every (p := fun c => ((comp c).toNat : Int) = if ((c.toNat : Int) == 65) = true then 84 else if ((c.toNat : Int) == 67) = true then 71 else if ((c.toNat : Int) == 71) = true then 67 else if ((c.toNat : Int) == 84) = true then 65 else (c.toNat : Int)) (by decide +kernel) c

/-- which letter a strand's treatment turns, and into which; 0: it is no strand -/
def frm (n : Int) : UInt8 := if (n == 1) = true then 67 else if (n == 3) = true then 67 else if (n == 2) = true then 71 else if (n == 4) = true then 71 else 0
def tow (n : Int) : UInt8 := if (n == 1) = true then 84 else if (n == 3) = true then 84 else if (n == 2) = true then 65 else if (n == 4) = true then 65 else 0

theorem allL_take_succ (s : ByteArray) (k : Nat) (h : k < s.size) : allL (s.data.toList.take (k + 1)) = (allL (s.data.toList.take k) && isL s[k]) := by
  rw [show s.data.toList.take (k + 1) = s.data.toList.take k ++ [s[k]] from by rw [List.take_succ_eq_append_getElem (by simpa using h)]; rfl]
  simp [allL]

theorem allL_stop (s : ByteArray) (k : Nat) (h : k < s.size) (hn : isL s[k] = false) : allL s.data.toList = false := by
  unfold allL
  rw [List.all_eq_false]
  exact ⟨s[k], by have : s[k] = s.data.toList[k]'(by simpa using h) := rfl
                  rw [this]; exact List.getElem_mem _, by simp [hn]⟩

theorem allL_whole (s : ByteArray) (k : Nat) (h : ¬ k < s.size) (ht : allL (s.data.toList.take k) = true) : allL s.data.toList = true := by
  rwa [List.take_of_length_le (by simp; omega)] at ht

theorem take_snoc (s : ByteArray) (k : Nat) (h : k < s.size) : s.data.toList.take (k + 1) = s.data.toList.take k ++ [s[k]] := by
  rw [List.take_succ_eq_append_getElem (by simpa using h)]; rfl

def topB (n : Int) : Bool := n == 1 || n == 3
def strandB (n : Int) : Bool := decide (1 ≤ n) && decide (n ≤ 4)
theorem strandB_int (n : Int) : strandB n = ((n == 1) || (n == 2) || (n == 3) || (n == 4)) := by
  rw [Bool.eq_iff_iff]
  simp only [strandB, Bool.and_eq_true, decide_eq_true_eq, Bool.or_eq_true, beq_iff_eq]
  omega
theorem frm_tow_none {n : Int} (h : strandB n = false) : frm n = 0 ∧ tow n = 0 := by
  rw [strandB_int] at h
  simp only [Bool.or_eq_false_iff] at h
  simp [frm, tow, h]
theorem frm_tow_top {n : Int} (h : topB n = true) : frm n = 67 ∧ tow n = 84 := by
  have h4 : n = 1 ∨ n = 3 := by simpa [topB] using h
  rcases h4 with rfl | rfl <;> exact ⟨rfl, rfl⟩
theorem frm_tow_bot {n : Int} (h : topB n = false) (hs : strandB n = true) : frm n = 71 ∧ tow n = 65 := by
  have h4 : n = 2 ∨ n = 4 := by
    rw [strandB_int] at hs
    simp only [topB, Bool.or_eq_false_iff, beq_eq_false_iff_ne, Bool.or_eq_true, beq_iff_eq] at h hs
    omega
  rcases h4 with rfl | rfl <;> exact ⟨rfl, rfl⟩

end Go.Proofs.YtfcbgfomhmcikaaGreatDoor.Lt

namespace Go.Proofs.YtfcbgfomhmcikaaGreatDoor
open Go.RowKit

theorem ret_bool {a b : Bool} (h : a = b) : Ending.returned (.bool a) = .returned (.bool b) := by rw [h]
theorem ret_int {k : IntKind} {a b : Int} (h : a = b) : Ending.returned (.int k a) = .returned (.int k b) := by rw [h]

set_option maxHeartbeats 400000 in
theorem isLetter_any (c : UInt8) (w : World) :
    Calls Tryz.prog 68 #[.int .u8 (c.toNat : Int)] w fun e w' => e = .returned (.bool (Lt.isL c)) ∧ w' = w := by
  go_enter Tryz.func68, Tryz.ntmps68
  go_wp2
  all_goals go_ret
  all_goals exact ⟨ret_bool (by rw [Lt.isL_int]; simp only [*, Bool.or_true, Bool.true_or, Bool.or_false]), rfl⟩

set_option maxHeartbeats 400000 in
theorem complement_any (c : UInt8) (w : World) :
    Calls Tryz.prog 36 #[.int .u8 (c.toNat : Int)] w fun e w' => e = .returned (.int .u8 ((Lt.comp c).toNat : Int)) ∧ w' = w := by
  go_enter Tryz.func36, Tryz.ntmps36
  go_wp2
  all_goals go_ret
  all_goals exact ⟨ret_int (by rw [Lt.comp_int]; simp only [*, if_true, if_false, Bool.false_eq_true]), rfl⟩

set_option maxHeartbeats 400000 in
theorem strIs_any (n : Int) (w : World) :
    Calls Tryz.prog 71 #[.int .i64 n] w fun e w' => e = .returned (.bool (Lt.strandB n)) ∧ w' = w := by
  go_enter Tryz.func71, Tryz.ntmps71
  go_wp2
  all_goals go_ret
  all_goals exact ⟨ret_bool (by rw [Lt.strandB_int]; simp only [*, Bool.or_true, Bool.true_or, Bool.or_false]), rfl⟩

set_option maxHeartbeats 400000 in
theorem strTop_any (n : Int) (w : World) :
    Calls Tryz.prog 72 #[.int .i64 n] w fun e w' => e = .returned (.bool (Lt.topB n)) ∧ w' = w := by
  go_enter Tryz.func72, Tryz.ntmps72
  go_wp2
  all_goals go_ret
  all_goals exact ⟨ret_bool (by unfold Lt.topB; simp [*]), rfl⟩

set_option maxHeartbeats 400000 in
theorem turned_any (n : Int) (w : World) :
    Calls Tryz.prog 39 #[.int .i64 n] w fun e w' => e = .returned (.tuple #[.int .u8 ((Lt.frm n).toNat : Int), .int .u8 ((Lt.tow n).toNat : Int)]) ∧ w' = w := by
  cases hS : Lt.strandB n with
  | false =>
    have HS : Hid _ := hS
    rw [(Lt.frm_tow_none hS).1, (Lt.frm_tow_none hS).2]
    clear hS
    go_enter Tryz.func39, Tryz.ntmps39
    go_wp2_with (go_at_call 71; refine (strIs_any _ _).mono ?_; rintro e w' ⟨rfl, hw⟩; subst w'; rw [HS.out])
    go_ret2
    exact ⟨rfl, rfl⟩
  | true =>
    have HS : Hid _ := hS
    cases hT : Lt.topB n with
    | true =>
      have HT : Hid _ := hT
      rw [(Lt.frm_tow_top hT).1, (Lt.frm_tow_top hT).2]
      clear hS hT
      go_enter Tryz.func39, Tryz.ntmps39
      go_wp2_with (first
        | (go_at_call 71; refine (strIs_any _ _).mono ?_; rintro e w' ⟨rfl, hw⟩; subst w'; rw [HS.out])
        | (go_at_call 72; refine (strTop_any _ _).mono ?_; rintro e w' ⟨rfl, hw⟩; subst w'; rw [HT.out]))
      go_ret2
      exact ⟨rfl, rfl⟩
    | false =>
      have HT : Hid _ := hT
      rw [(Lt.frm_tow_bot hT hS).1, (Lt.frm_tow_bot hT hS).2]
      clear hS hT
      go_enter Tryz.func39, Tryz.ntmps39
      go_wp2_with (first
        | (go_at_call 71; refine (strIs_any _ _).mono ?_; rintro e w' ⟨rfl, hw⟩; subst w'; rw [HS.out])
        | (go_at_call 72; refine (strTop_any _ _).mono ?_; rintro e w' ⟨rfl, hw⟩; subst w'; rw [HT.out]))
      go_ret2
      exact ⟨rfl, rfl⟩

set_option maxHeartbeats 400000 in
theorem areLetters_any (s : ByteArray) (w : World) (hs : s.size ≤ maxLen) :
    Calls Tryz.prog 35 #[.string s] w fun e w' => e = .returned (.bool (Lt.allL s.data.toList)) ∧ w' = w := by
  unfold maxLen at hs
  go_enter Tryz.func35, Tryz.ntmps35
  go_wp2
  go_loop [6] (fun i => ∃ k : Nat, k ≤ s.size ∧ i = .int .i64 k ∧ Hid (Lt.allL (s.data.toList.take k) = true)) (fun i => s.size - (intOf i).toNat)
  case atStart => exact ⟨0, Nat.zero_le _, rfl, rfl⟩
  case round =>
    obtain ⟨k, hk, rfl, HA⟩ := hrel
    by_cases hlt : k < s.size
    · cases hL : Lt.isL s[k] with
      | true =>
        have HS := Lt.allL_take_succ s k hlt
        rw [HA.out, hL, Bool.and_self] at HS
        have HT : Hid (Lt.allL (s.data.toList.take (k + 1)) = true) := HS
        clear HS HA
        have HL : Hid (Lt.isL s[k] = true) := hL
        clear hL
        go_wp2_with (go_at_call 68; refine (isLetter_any _ _).mono ?_; rintro e w' ⟨rfl, rfl⟩; rw [HL.out])
        go_round
        case rel => exact ⟨k + 1, by omega, by go_num, HT⟩
        case measure => simp [intOf]; omega
      | false =>
        have HF : Hid (Lt.allL s.data.toList = false) := Lt.allL_stop s k hlt hL
        have HL : Hid (Lt.isL s[k] = false) := hL
        clear hL HA
        go_wp2_with (go_at_call 68; refine (isLetter_any _ _).mono ?_; rintro e w' ⟨rfl, rfl⟩; rw [HL.out])
        go_ret
        exact ⟨ret_bool HF.out.symm, rfl⟩
    · have HF : Hid (Lt.allL s.data.toList = true) := Lt.allL_whole s k hlt HA.out
      clear HA
      go_wp2
      go_ret
      exact ⟨ret_bool HF.out.symm, rfl⟩

end Go.Proofs.YtfcbgfomhmcikaaGreatDoor

namespace Go.Proofs.YtfcbgfomhmcikaaGreatDoor
open Go.RowKit

/-- a byte as a cell -/
def By (c : UInt8) : Value := .int .u8 (c.toNat : Int)
/-- bytes as cells -/
def Bys (l : List UInt8) : List Value := l.map By

theorem Bys_length (l : List UInt8) : (Bys l).length = l.length := by simp [Bys]
theorem Bys_append (l r : List UInt8) : Bys (l ++ r) = Bys l ++ Bys r := by simp [Bys]
theorem Bys_at (l : List UInt8) (j : Nat) (h : j < l.length) : (Bys l)[j]? = some (.int .u8 (l[j].toNat : Int)) := by simp [Bys, By, h]
theorem By_one (l : List UInt8) : ∀ u ∈ Bys l, u.oneCell' = true := by
  intro u hu
  obtain ⟨c, _, rfl⟩ := List.mem_map.1 hu
  rfl

theorem Tryz.infoU8 : (Tryz.prog.info? 5).map (fun i => (i.zero, i.size, i.bytes)) = some (some (.int .u8 0), 1, 1) := by kernel_rfl

/-- '[]byte' of the call's own, made a string -/
theorem back_own {w : World} {base n : Nat} {v : Value} {l : List UInt8} (hown : w.ownsRow base 5 1 v n (Bys l)) :
    (convert 68 9 v).run Tryz.prog w = .ok (.string ⟨l.toArray⟩) w := by
  have hn : l.length = n := by have := hown.1; rw [Bys_length] at this; omega
  rcases hown.2 with ⟨rfl, hx⟩ | ⟨g, cap, cur, rfl, _, hg, _, _, _, htake⟩
  · have hl : l = [] := List.eq_nil_of_length_eq_zero (by omega)
    subst hl
    rw [run_convert_bytes_string w 68 9 5 none 0 0 Tryz.underlying68 Tryz.underlying5 Tryz.underlying9]
    simp [Conv.bytesToString]
    rfl
  · subst hn
    refine run_convert_bytes_back (P := Tryz.prog) w 68 9 5 ⟨g, 0, none⟩ cap l Tryz.underlying68 Tryz.underlying5 Tryz.underlying9 (fun j hj => ?_)
    rw [Addr.add_lit, Nat.zero_add, hown.cellAt j (by omega), Bys_at l j hj]

/-- the shape of what is owned -/
theorem own_form {w : World} {base e size n : Nat} {v : Value} {xs : List Value} (h : w.ownsRow base e size v n xs) : ∃ ao cap, v = .slice ao n cap := by
  rcases h.2 with ⟨rfl, rfl⟩ | ⟨g, cap, cur, rfl, _⟩
  · exact ⟨none, 0, rfl⟩
  · exact ⟨some ⟨g, 0, none⟩, cap, rfl⟩

/-- a cell of what is owned -/
theorem own_cell {w : World} {base e g n cap : Nat} {xs : List Value} (h : w.ownsRow base e 1 (.slice (some ⟨g, 0, none⟩) n cap) n xs) (j : Nat) (hj : j < n) : ∃ u, w.cell? ⟨g, j, none⟩ = some u ∧ xs[j]? = some u := by
  have hl : j < xs.length := by rw [h.1]; omega
  exact ⟨xs[j], by rw [h.cellAt j (by omega)]; exact List.getElem?_eq_getElem hl, List.getElem?_eq_getElem hl⟩

/-- 'b = append(b, c)': one byte behind bytes of the call's own -/
theorem app_byte {W w : World} {ops : Array Oper} {rest : List Oper} {o : Oper} {a : Act} {Q : Exit → Act → World → Prop} (hgd : o.guard = none) (s x : Operand)
    (ho : o.op = .call { callee := .builtin .append, args := #[s, x], argTypes := #[68, 68] })
    (base : Nat) (v : Value) (l : List UInt8) (c : UInt8) (hs : a.eval s = v) (hx : a.eval x = .slice (some ⟨w.heap.size, 0, none⟩) 1 1)
    (hown : w.ownsRow base 5 1 v l.length (Bys l)) (hbel : Below base W w) (hbase : base ≤ w.heap.size) (hlen : l.length + 1 ≤ 140737488355328)
    (h : ∀ v' w', w'.ownsRow base 5 1 v' (l ++ [c]).length (Bys (l ++ [c])) → Below base W w' → w.heap.size ≤ w'.heap.size → wpList Tryz.prog ops Q rest (a.put o.dst v') w') :
    wpList Tryz.prog ops Q (o :: rest) a (w.alloc (.cells #[.int .u8 (c.toNat : Int)] 5)) := by
  obtain ⟨i0, hi, hz0, hz1, hz2⟩ := info_parts Tryz.infoU8
  refine wpList_append_own _ hgd s x 68 ho base 5 i0 (.int .u8 0) 1 1 Tryz.underlying68 hi hz0 hz1 hz2 rfl (by decide) v l.length (Bys l) hs (hown.alloc _) ⟨w.heap.size, 0, none⟩ 1 1 [By c] hx rfl ?_ ?_ ?_ ?_ ?_ ?_
  · intro j u hj
    match j, hj with
    | 0, hj => simp at hj; subst hj; simp [Addr.add, By]
  · intro u hu; simp at hu; subst hu; rfl
  · unfold maxLen; omega
  · omega
  · simp; omega
  · intro v' w' h1 h2 _
    refine h v' w' ?_ ?_ ?_
    · rw [Bys_append, List.length_append]; exact h1
    · exact (hbel.alloc hbase _).grown h2 (by simp; omega) (fun k hk => (hown.lt k hk).1)
    · have := h2.size; simp at this; omega

end Go.Proofs.YtfcbgfomhmcikaaGreatDoor

namespace Go.Proofs.YtfcbgfomhmcikaaGreatDoor
open Go.RowKit

/-- a step, as a value: its seven cells -/
structure OpV where
  k : Int
  a : Int
  b : Int
  c : Int
  s : ByteArray
  t : ByteArray
  la : Option Addr
  ln : Nat
  lc : Nat

def OpV.cells (o : OpV) : List Value := [.int .i64 o.k, .int .i64 o.a, .int .i64 o.b, .int .i64 o.c, .string o.s, .string o.t, .slice o.la o.ln o.lc]

/-- the ten steps that are asked in any case; h: the block of the one record -/
def firstOps (h : Nat) : List OpV := [
  ⟨1, 0, 0, 0, ⟨#[62, 111, 110, 101, 10, 65, 67, 71, 84, 10, 116, 84, 67, 103, 97, 10]⟩, ⟨#[]⟩, none, 0, 0⟩,
  ⟨2, 0, 0, 0, ⟨#[64, 114, 10, 65, 67, 71, 10, 43, 10, 73, 73, 73, 10]⟩, ⟨#[]⟩, none, 0, 0⟩,
  ⟨3, 0, 0, 0, ⟨#[65, 67, 71, 84, 78]⟩, ⟨#[]⟩, none, 0, 0⟩,
  ⟨4, 1, 0, 0, ⟨#[65, 67, 71, 84, 78]⟩, ⟨#[]⟩, none, 0, 0⟩,
  ⟨5, 0, 0, 0, ⟨#[]⟩, ⟨#[]⟩, none, 0, 0⟩,
  ⟨6, 0, 1, 1, ⟨#[84, 84, 71]⟩, ⟨#[]⟩, none, 0, 0⟩,
  ⟨7, 0, 0, 0, ⟨#[114]⟩, ⟨#[84, 84, 84, 71]⟩, none, 0, 0⟩,
  ⟨8, 0, 0, 0, ⟨#[]⟩, ⟨#[]⟩, some ⟨h, 0, none⟩, 1, 1⟩,
  ⟨9, 0, 0, 0, ⟨#[114, 9, 97, 109, 98, 105, 103, 117, 111, 117, 115, 10]⟩, ⟨#[]⟩, none, 0, 0⟩,
  ⟨10, 0, 2, 0, ⟨#[62, 111, 110, 101, 10, 65, 67, 71, 84, 84, 67, 71, 65, 10]⟩, ⟨#[64, 114, 10, 84, 84, 84, 71, 10, 43, 10, 73, 73, 73, 73, 10]⟩, none, 0, 0⟩]

def recordCells : Array Value := #[.string ⟨#[114]⟩, .int .i64 0, .int .i64 0, .string ⟨#[]⟩, .int .i64 0, .int .i64 0, .string ⟨#[]⟩, .string ⟨#[]⟩]

set_option maxRecDepth 100000 in
set_option maxHeartbeats 1600000 in
theorem first_any (w : World) :
    Calls Tryz.prog 9 #[] w fun e w' =>
      ∃ v, e = .returned v ∧ w'.ownsRow w.heap.size 42 7 v 10 ((firstOps w.heap.size).flatMap OpV.cells) ∧ w'.heap[w.heap.size]? = some (.cells recordCells 47 (0, 0)) ∧ Below w.heap.size w w' ∧ w'.heap.size = w.heap.size + 2 := by
  go_enter Tryz.func9, Tryz.ntmps9
  go_wp2
  go_ret
  have hn : (w.alloc (.cells recordCells 47)).heap.size = w.heap.size + 1 := by simp
  have ho := World.ownsRow_lit (base := w.heap.size) (e := 42) (size := 7) (w.alloc (.cells recordCells 47)) ((firstOps w.heap.size).flatMap OpV.cells).toArray 10 (by rw [hn]; omega) (by decide) rfl
  rw [hn] at ho
  refine ⟨_, rfl, ho, ?_, ((Below.refl _ _).alloc (Nat.le_refl _) _).alloc (by rw [World.size_alloc]; omega) _, by simp⟩
  refine (Below.heap_alloc _ _ _ (by rw [World.size_alloc]; omega)).trans ?_
  exact heap_alloc_new w _

end Go.Proofs.YtfcbgfomhmcikaaGreatDoor

namespace Go.Proofs.YtfcbgfomhmcikaaGreatDoor
open Go.RowKit

/-- does k stand in the list? -/
def inL (pl : List Int) (k : Int) : Bool := pl.any (· == k)

theorem inL_stop (pl : List Int) (k : Int) (j : Nat) (h : j < pl.length) (he : (pl[j] == k) = true) : inL pl k = true := by
  rw [inL, List.any_eq_true]
  exact ⟨pl[j], List.getElem_mem _, he⟩
theorem inL_snoc (pl : List Int) (k : Int) (j : Nat) (h : j < pl.length) (h0 : inL (pl.take j) k = false) (he : (pl[j] == k) = false) : inL (pl.take (j + 1)) k = false := by
  rw [List.take_succ_eq_append_getElem h]
  simp only [inL, List.any_append, List.any_cons, List.any_nil, Bool.or_false] at *
  rw [h0, he]; rfl
theorem inL_whole (pl : List Int) (k : Int) (j : Nat) (h : ¬ j < pl.length) (h0 : inL (pl.take j) k = false) : inL pl k = false := by
  rwa [List.take_of_length_le (by omega)] at h0

set_option maxRecDepth 100000 in
set_option maxHeartbeats 800000 in
theorem among_any (pl : List Int) (b n : Nat) (k : Int) (w : World) (hn : pl.length = n) (h10 : n ≤ 100) (hc : ∀ j (h : j < pl.length), w.cell? ⟨b, j, none⟩ = some (.int .i64 pl[j])) :
    Calls Tryz.prog 10 #[.slice (some ⟨b, 0, none⟩) n n, .int .i64 k] w fun e w' => e = .returned (.bool (inL pl k)) ∧ w' = w := by
  have HN : Hid (pl.length = n) := hn
  have HC : Hid (∀ j (h : j < pl.length), w.cell? ⟨b, j, none⟩ = some (.int .i64 pl[j])) := hc
  clear hn hc
  go_enter Tryz.func10, Tryz.ntmps10
  go_wp2
  go_loop [5] (fun i => ∃ j : Nat, j ≤ n ∧ i = .int .i64 j ∧ Hid (inL (pl.take j) k = false)) (fun i => n - (intOf i).toNat)
  case atStart => exact ⟨0, Nat.zero_le _, rfl, rfl⟩
  case round =>
    obtain ⟨j, hj, rfl, HI⟩ := hrel
    by_cases hlt : j < n
    · have hl : j < pl.length := by rw [HN.out]; exact hlt
      have hcell := HC.out j hl
      cases he : (pl[j] == k) with
      | true =>
        have HF : Hid (inL pl k = true) := inL_stop pl k j hl he
        clear HI
        go_wp2
        go_ret
        exact ⟨ret_bool HF.out.symm, rfl⟩
      | false =>
        have HF : Hid (inL (pl.take (j + 1)) k = false) := inL_snoc pl k j hl HI.out he
        clear HI
        go_wp2
        go_round
        case rel => exact ⟨j + 1, by omega, by go_num, HF⟩
        case measure => simp [intOf]; omega
    · have HF : Hid (inL pl k = false) := inL_whole pl k j (by rw [HN.out]; exact hlt) HI.out
      clear HI
      go_wp2
      go_ret
      exact ⟨ret_bool HF.out.symm, rfl⟩

end Go.Proofs.YtfcbgfomhmcikaaGreatDoor

namespace Go.Proofs.YtfcbgfomhmcikaaGreatDoor
open Go.RowKit

/-- the value sv is a slice of m elements whose cells are xs (or nil, and there are none) -/
def Src (w : World) (sv : Value) (m : Nat) (xs : List Value) : Prop :=
  (sv = .slice none 0 0 ∧ m = 0 ∧ xs = []) ∨ ∃ ad c, sv = .slice (some ad) m c ∧ (∀ j u, xs[j]? = some u → w.cell? (ad.add j) = some u)

theorem Src.mono {w w' : World} {sv : Value} {m : Nat} {xs : List Value} (h : Src w sv m xs) (hb : Below w.heap.size w w') : Src w' sv m xs := by
  rcases h with h | ⟨ad, c, rfl, hc⟩
  · exact .inl h
  · refine .inr ⟨ad, c, rfl, fun j u hj => ?_⟩
    have h0 := hc j u hj
    rw [hb.cell (World.block_lt_of_cell? w _ h0)]
    exact h0

/-- 'own = append(own, src...)' -/
theorem app_src {W w : World} {ops : Array Oper} {rest : List Oper} {o : Oper} {a : Act} {Q : Exit → Act → World → Prop} (hgd : o.guard = none) (s x : Operand) (t : TypeId)
    (ho : o.op = .call { callee := .builtin .append, args := #[s, x], argTypes := #[t, t] })
    (base : Nat) (e : TypeId) (z : Value) (size bytes : Nat) (ht : Tryz.prog.underlying t = some (.slice e)) (hinfo : (Tryz.prog.info? e).map (fun i => (i.zero, i.size, i.bytes)) = some (some z, size, bytes)) (hzs : z.cells.size = size) (hsz : 0 < size)
    (v : Value) (n : Nat) (xs : List Value) (sv : Value) (m : Nat) (news : List Value) (hs : a.eval s = v) (hx : a.eval x = sv)
    (hown : w.ownsRow base e size v n xs) (hsrc : Src w sv m news) (hl : news.length = m * size) (h1 : ∀ u ∈ news, u.oneCell' = true)
    (hbel : Below base W w) (hbase : base ≤ w.heap.size) (hlen : (n + m) * bytes ≤ 140737488355328) (hb0 : 0 < bytes)
    (h : ∀ v' w', w'.ownsRow base e size v' (n + m) (xs ++ news) → Below base W w' → w.heap.size ≤ w'.heap.size → (∀ k, k < w.heap.size → some k ≠ v.ownBlock → w'.heap[k]? = w.heap[k]?) → wpList Tryz.prog ops Q rest (a.put o.dst v') w') :
    wpList Tryz.prog ops Q (o :: rest) a w := by
  obtain ⟨i0, hi, hz0, hz1, hz2⟩ := info_parts hinfo
  have hle : (n + m) * 1 ≤ (n + m) * bytes := Nat.mul_le_mul_left _ hb0
  rcases hsrc with ⟨rfl, rfl, rfl⟩ | ⟨ad, c, rfl, hc⟩
  · refine wpList_append_own_none hgd s x t ho base e i0 size ht hi v n xs hs hown hx ?_
    refine h v w ?_ hbel (Nat.le_refl _) (fun _ _ _ => rfl)
    rw [Nat.add_zero, List.append_nil]; exact hown
  · refine wpList_append_own _ hgd s x t ho base e i0 z size bytes ht hi hz0 hz1 hz2 hzs hsz v n xs hs hown ad m c news hx hl hc h1 ?_ hlen hbase ?_
    · unfold maxLen; omega
    · intro v' w' g1 g2 _
      exact h v' w' g1 (hbel.grown g2 hbase (fun k hk => (hown.lt k hk).1)) g2.size g2.block

end Go.Proofs.YtfcbgfomhmcikaaGreatDoor

namespace Go.Proofs.YtfcbgfomhmcikaaGreatDoor
open Go.RowKit

theorem Tryz.infoOp : (Tryz.prog.info? 42).map (fun i => (i.zero, i.size, i.bytes)) = some (some (.agg #[.int .i64 0, .int .i64 0, .int .i64 0, .int .i64 0, .string ⟨#[]⟩, .string ⟨#[]⟩, .slice none 0 0]), 7, 88) := by kernel_rfl
theorem Tryz.infoConts : (Tryz.prog.info? 30).map (fun i => (i.zero, i.size, i.bytes)) = some (some (.slice none 0 0), 1, 24) := by kernel_rfl

theorem cells_length (l : List OpV) : (l.flatMap OpV.cells).length = l.length * 7 := by
  induction l with
  | nil => rfl
  | cons o l ih => rw [List.flatMap_cons, List.length_append, ih, List.length_cons]; simp [OpV.cells]; omega

theorem cells_at (l : List OpV) (k : Nat) (h : k < l.length) (j : Nat) (hj : j < 7) : (l.flatMap OpV.cells)[k * 7 + j]? = (l[k].cells)[j]? := by
  induction l generalizing k with
  | nil => simp at h
  | cons o l ih =>
    rw [List.flatMap_cons]
    cases k with
    | zero => rw [List.getElem?_append_left (by simp [OpV.cells]; omega)]; simp
    | succ k =>
      rw [List.getElem?_append_right (by simp [OpV.cells]; omega)]
      have e : (k + 1) * 7 + j - o.cells.length = k * 7 + j := by simp [OpV.cells]; omega
      rw [e, ih k (by simpa using h)]
      simp

theorem cells_one (l : List OpV) : ∀ u ∈ l.flatMap OpV.cells, u.oneCell' = true := by
  intro u hu
  obtain ⟨o, ho, hu⟩ := List.mem_flatMap.1 hu
  simp only [OpV.cells, List.mem_cons, List.not_mem_nil, or_false] at hu
  rcases hu with rfl | rfl | rfl | rfl | rfl | rfl | rfl <;> rfl

/-- how it stands when the first step is about to be played: w0, the World at block g; h1: the block of the reference's one contig; h: that of the one record; lv: the references -/
structure PlayStart (w w0 : World) (g h h1 : Nat) (lv : Value) (rs : List Value) : Prop where
  world : w0.heap[g]? = some (.cells #[lv, .slice none 0 0, .slice none 0 0, .slice none 0 0, .slice none 0 0, .slice none 0 0] 39 (0, 0))
  refs : w0.ownsRow w.heap.size 30 1 lv (1 + rs.length) ([.slice (some ⟨h1, 0, none⟩) 1 1] ++ rs)
  contig : w0.heap[h1]? = some (.cells #[.string ⟨#[111, 110, 101]⟩, .string ⟨#[65, 67, 71, 84, 84, 67, 71, 65]⟩] 29 (0, 0))
  record : w0.heap[h]? = some (.cells recordCells 47 (0, 0))
  below : Below w.heap.size w w0
  h_lt : h < g
  h1_lt : h1 < g
  size : w0.heap.size = g + 1
  old : w.heap.size ≤ g

theorem own_pos {w : World} {base e size n : Nat} {v : Value} {xs : List Value} (h : w.ownsRow base e size v n xs) (hn : 0 < n) : ∃ g cap, v = .slice (some ⟨g, 0, none⟩) n cap ∧ base ≤ g ∧ g < w.heap.size := by
  rcases h.2 with ⟨_, rfl⟩ | ⟨g, cap, cur, rfl, hb, hg, _⟩
  · omega
  · exact ⟨g, cap, rfl, hb, (Array.getElem?_eq_some_iff.1 hg).1⟩

/-- the reference of the law's own, just made -/
def contigObj : Obj := .cells #[.string ⟨#[111, 110, 101]⟩, .string ⟨#[65, 67, 71, 84, 84, 67, 71, 65]⟩] 29

theorem lit3 (w w2 : World) (hbel2 : Below w.heap.size w w2) :
    ((w2.alloc (.cells #[.string ⟨#[111, 110, 101]⟩, .string ⟨#[65, 67, 71, 84, 84, 67, 71, 65]⟩] 29)).alloc (.cells #[.slice (some ⟨w2.heap.size, 0, none⟩) 1 1] 30)).ownsRow w.heap.size 30 1 (.slice (some ⟨w2.heap.size + 1, 0, none⟩) 1 1) 1 [.slice (some ⟨w2.heap.size, 0, none⟩) 1 1] ∧
    Below w.heap.size w ((w2.alloc (.cells #[.string ⟨#[111, 110, 101]⟩, .string ⟨#[65, 67, 71, 84, 84, 67, 71, 65]⟩] 29)).alloc (.cells #[.slice (some ⟨w2.heap.size, 0, none⟩) 1 1] 30)) ∧
    ((w2.alloc (.cells #[.string ⟨#[111, 110, 101]⟩, .string ⟨#[65, 67, 71, 84, 84, 67, 71, 65]⟩] 29)).alloc (.cells #[.slice (some ⟨w2.heap.size, 0, none⟩) 1 1] 30)).heap[w2.heap.size]? = some contigObj := by
  have hs := hbel2.size
  generalize hA : (Obj.cells #[.string ⟨#[111, 110, 101]⟩, .string ⟨#[65, 67, 71, 84, 84, 67, 71, 65]⟩] 29) = A
  have hn : (w2.alloc A).heap.size = w2.heap.size + 1 := World.size_alloc ..
  have ho := World.ownsRow_lit (base := w.heap.size) (e := 30) (size := 1) (w2.alloc A) #[.slice (some ⟨w2.heap.size, 0, none⟩) 1 1] 1 (by rw [hn]; omega) (by decide) rfl
  rw [hn] at ho
  refine ⟨ho, (hbel2.alloc hs _).alloc (by rw [hn]; omega) _, ?_⟩
  refine (Below.heap_alloc _ _ _ (by rw [hn]; omega)).trans ?_
  rw [contigObj, hA]
  exact heap_alloc_new w2 _

theorem start_of {w w1 w2 W3 w4 : World} {v a4v : Value} {n2 ga capa : Nat} {rs xs1 xs2 xs4 : List Value} {C : Array Value}
    (hown1 : w1.ownsRow w.heap.size 42 7 v 10 xs1) (hrec : w1.heap[w.heap.size]? = some (.cells recordCells 47 (0, 0))) (hs1 : w1.heap.size = w.heap.size + 2)
    (_hown2 : w2.ownsRow w.heap.size 42 7 (.slice (some ⟨ga, 0, none⟩) n2 capa) n2 xs2) (hga : ga < w2.heap.size) (hs2 : w1.heap.size ≤ w2.heap.size) (hk2 : ∀ k, k < w1.heap.size → some k ≠ v.ownBlock → w2.heap[k]? = w1.heap[k]?)
    (hs3 : W3.heap.size = w2.heap.size + 2) (h3 : ∀ k, k < w2.heap.size → W3.heap[k]? = w2.heap[k]?) (hc3 : W3.heap[w2.heap.size]? = some contigObj)
    (hs4 : W3.heap.size ≤ w4.heap.size) (hk4 : ∀ k, k < W3.heap.size → some k ≠ some (w2.heap.size + 1) → w4.heap[k]? = W3.heap[k]?)
    (hown4 : w4.ownsRow w.heap.size 30 1 a4v (1 + rs.length) xs4) (hx4 : xs4 = [.slice (some ⟨w2.heap.size, 0, none⟩) 1 1] ++ rs) (hbel4 : Below w.heap.size w w4)
    (hC : C = #[a4v, .slice none 0 0, .slice none 0 0, .slice none 0 0, .slice none 0 0, .slice none 0 0]) :
    PlayStart w (w4.alloc (.cells C 39)) w4.heap.size w.heap.size w2.heap.size a4v rs ∧ (w4.alloc (.cells C 39)).heap[ga]? = w2.heap[ga]? ∧ ga < w4.heap.size := by
  subst hC hx4
  have hrow : some w.heap.size ≠ v.ownBlock := by
    rcases hown1.2 with ⟨_, h0⟩ | ⟨g, cap, cur, rfl, _, hg, _⟩
    · omega
    · intro he
      simp [Value.ownBlock] at he
      rw [← he, hrec] at hg
      simp at hg
  refine ⟨⟨heap_alloc_new _ _, hown4.alloc _, ?_, ?_, hbel4.alloc hbel4.size _, by omega, by omega, by rw [World.size_alloc], hbel4.size⟩, ?_, by omega⟩
  · rw [Below.heap_alloc _ _ _ (by omega), hk4 _ (by omega) (by simp)]
    exact hc3
  · rw [Below.heap_alloc _ _ _ (by omega), hk4 _ (by omega) (by simp; omega), h3 _ (by omega), hk2 _ (by omega) hrow]
    exact hrec
  · rw [Below.heap_alloc _ _ _ (by omega), hk4 _ (by omega) (by simp; omega), h3 _ hga]

/-- a step's cells, where the list of all steps lies -/
theorem all_cells {w2 wr : World} {base ga n capa : Nat} {l : List OpV} (hown : w2.ownsRow base 42 7 (.slice (some ⟨ga, 0, none⟩) n capa) n (l.flatMap OpV.cells)) (hn : l.length = n) (h : wr.heap[ga]? = w2.heap[ga]?) (k : Nat) (hk : k < l.length) :
    ∀ j, j < 7 → wr.cell? ⟨ga, k * 7 + j, none⟩ = (l[k].cells)[j]? := by
  intro j hj
  rw [World.cell?_of_block (w := w2) (a := ⟨ga, k * 7 + j, none⟩) h, hown.cellAt _ (by omega), cells_at l k hk j hj]

set_option maxRecDepth 100000 in
set_option maxHeartbeats 4000000 in
theorem plays_any (w : World) (refsV scriptV : Value) (rs : List Value) (ss : List OpV) (pl : List Int) (bp np : Nat)
    (hrefs : Src w refsV rs.length rs) (hrs : ∀ u ∈ rs, u.oneCell' = true) (hrl : (1 + rs.length) * 24 ≤ 140737488355328)
    (hscr : Src w scriptV ss.length (ss.flatMap OpV.cells)) (hsl : (10 + ss.length) * 88 ≤ 140737488355328)
    (hnp : pl.length = np) (hp100 : np ≤ 100) (hpl : ∀ j (h : j < pl.length), w.cell? ⟨bp, j, none⟩ = some (.int .i64 pl[j]))
    (H : ∀ (w0 : World) (g h h1 : Nat) (lv : Value), PlayStart w w0 g h h1 lv rs → ∃ Inv : Nat → World → Prop, Inv 0 w0 ∧ (∀ k w1 w2, Inv k w1 → Below w1.heap.size w1 w2 → Inv k w2 ∧ Inv (k + 1) w2) ∧
      (∀ o, o ∈ firstOps h ++ ss → inL pl o.k = true → ∀ k w1, k < 10 + ss.length → Inv k w1 → Below g w0 w1 → g < w1.heap.size →
        Calls Tryz.prog 11 #[.pointer (some ⟨g, 0, none⟩), .agg #[.int .i64 o.k, .int .i64 o.a, .int .i64 o.b, .int .i64 o.c, .string o.s, .string o.t, .slice o.la o.ln o.lc]] w1 fun e w2 => e = .returned (.bool true) ∧ Inv (k + 1) w2 ∧ Below g w1 w2) ∧
      (∀ k w1, k ≤ 10 + ss.length → Inv k w1 → Below g w0 w1 → g < w1.heap.size → Calls Tryz.prog 12 #[.pointer (some ⟨g, 2, none⟩)] w1 fun e w2 => e = .returned (.bool true) ∧ Inv k w2 ∧ Below g w1 w2)) :
    Calls Tryz.prog 8 #[refsV, scriptV, .slice (some ⟨bp, 0, none⟩) np np] w fun e w' => e = .returned (.bool true) ∧ Below w.heap.size w w' := by
  have HH : Hid _ := H
  have HPL : Hid _ := hpl
  have HNP : Hid _ := hnp
  clear H hpl hnp
  go_enter Tryz.func8, Tryz.ntmps8
  go_wp2_with fail
  refine (first_any _).mono ?_
  rintro e w1 ⟨v, rfl, hown1, hrec1, hbel1, hsize1⟩
  have HR1 : Hid _ := hrec1
  have HS1 : Hid _ := hsize1
  clear hrec1 hsize1
  go_wp2_with (first
    | (at_builtin; refine app_src rfl _ _ 23 rfl w.heap.size 42 _ 7 88 Tryz.underlying23 Tryz.infoOp rfl (by decide) v 10 _ scriptV ss.length (ss.flatMap OpV.cells) rfl rfl (by exact hown1) (hscr.mono hbel1) (cells_length ss) (cells_one ss) hbel1 (by have := hbel1.size; omega) hsl (by decide) ?_; intro v2 w2 hown2 hbel2 hsize2 hkeep2; obtain ⟨ga, capa, hv2, hga1, hga2⟩ := own_pos hown2 (by omega); subst hv2; have HK2 : Hid _ := hkeep2; clear hkeep2; have h3 := lit3 w w2 hbel2; obtain ⟨hown3, hbel3, hcont3⟩ := h3; have HC3 : Hid _ := hcont3; clear hcont3)
    | (at_builtin; refine app_src rfl _ _ 22 rfl w.heap.size 30 _ 1 24 Tryz.underlying22 Tryz.infoConts rfl (by decide) (.slice (some ⟨w2.heap.size + 1, 0, none⟩) 1 1) 1 _ refsV rs.length rs rfl rfl (by exact hown3) (hrefs.mono hbel3) (by omega) hrs hbel3 (by have := hbel3.size; omega) hrl (by decide) ?_; intro v4 w4 hown4 hbel4 hsize4 hkeep4; obtain ⟨a4, cap4, hv4⟩ := own_form hown4; subst hv4; have HK4 : Hid _ := hkeep4; clear hkeep4))
  have hfl : (firstOps w.heap.size).length = 10 := rfl
  rw [← List.flatMap_append] at hown2
  obtain ⟨hst, hga0, hga4⟩ := start_of hown1 HR1.out HS1.out hown2 hga2 hsize2 HK2.out (by simp) (fun k hk => by rw [Below.heap_alloc _ _ _ (by rw [World.size_alloc]; omega), Below.heap_alloc _ _ _ hk]) HC3.out hsize4 HK4.out hown4 rfl hbel4 rfl
  obtain ⟨Inv, hI0, hIst, hIstep, hIlooks⟩ := HH.out _ _ _ _ _ hst
  have hs0 := hst.size
  have hb0 := hst.below
  have HL : Hid ((firstOps w.heap.size ++ ss).length = 10 + ss.length) := by show _ = _; rw [List.length_append, hfl]
  have HCs : Hid _ := fun (wr : World) (h : wr.heap[ga]? = w2.heap[ga]?) k hk => all_cells hown2 HL.out h k hk
  have HG0 : Hid _ := hga0
  have HST : Hid _ := hIst
  have HSP : Hid _ := hIstep
  have HLK : Hid _ := hIlooks
  clear hst hIst hIstep hIlooks hown1 hown2 hown3 hown4 hrefs hscr hga0 hbel1 hbel2 hbel3 hbel4 hsize2 hsize4 HK2 HK4 HC3 HR1 HS1 HH hfl
  generalize hw0 : (w4.alloc (Obj.cells #[Value.slice a4 (1 + rs.length) cap4, .slice none 0 0, .slice none 0 0, .slice none 0 0, .slice none 0 0, .slice none 0 0] 39)) = w0 at *
  clear hw0
  generalize hg0 : w4.heap.size = g at *
  clear hg0
  generalize firstOps w.heap.size ++ ss = ops at *
  generalize 10 + ss.length = N at *
  go_loopw [10] (fun i wr => ∃ k : Nat, k ≤ N ∧ i = .int .i64 k ∧ Inv k wr ∧ Below g w0 wr) (fun i _ => N - (intOf i).toNat)
  case atStart => exact ⟨0, Nat.zero_le _, rfl, hI0, Below.refl _ _⟩
  case round =>
    obtain ⟨k, hk, rfl, hI, hbr⟩ := hrel
    have hsr := hbr.size
    by_cases hlt : k < N
    · have hkl : k < ops.length := by rw [HL.out]; exact hlt
      have hcs := HCs.out wr ((hbr.block _ (by omega)).trans HG0.out) k hkl
      obtain ⟨o, ho⟩ : ∃ o, o = ops[k] := ⟨_, rfl⟩
      rw [← ho] at hcs
      have hmem : o ∈ ops := by rw [ho]; exact List.getElem_mem _
      have c0 : wr.cell? ⟨ga, k * 7, none⟩ = some (.int .i64 o.k) := hcs 0 (by omega)
      have c1 : wr.cell? ⟨ga, k * 7 + 1, none⟩ = some (.int .i64 o.a) := hcs 1 (by omega)
      have c2 : wr.cell? ⟨ga, k * 7 + 2, none⟩ = some (.int .i64 o.b) := hcs 2 (by omega)
      have c3 : wr.cell? ⟨ga, k * 7 + 3, none⟩ = some (.int .i64 o.c) := hcs 3 (by omega)
      have c4 : wr.cell? ⟨ga, k * 7 + 4, none⟩ = some (.string o.s) := hcs 4 (by omega)
      have c5 : wr.cell? ⟨ga, k * 7 + 5, none⟩ = some (.string o.t) := hcs 5 (by omega)
      have c6 : wr.cell? ⟨ga, k * 7 + 6, none⟩ = some (.slice o.la o.ln o.lc) := hcs 6 (by omega)
      clear hcs ho
      have hmx : (k : Int) < 144115188075855872 := by omega
      have hkn : (k : Int) < (N : Int) := by omega
      have hb5 : Below wr.heap.size wr (wr.alloc (Obj.cells #[.int .i64 o.k, .int .i64 o.a, .int .i64 o.b, .int .i64 o.c, .string o.s, .string o.t, .slice o.la o.ln o.lc] 42)) := (Below.refl _ _).alloc (Nat.le_refl _) _
      have HI5 : Hid _ := HST.out _ _ _ hI hb5
      have HB5 : Hid _ := hbr.trans (hb5.mono (by omega))
      have HP5 : Hid _ := fun j (h : j < pl.length) => (hb5.cell (p := ⟨bp, j, none⟩) (by have := World.block_lt_of_cell? w _ (HPL.out j h); have := hb0.size; simp at *; omega)).trans ((hbr.cell (p := ⟨bp, j, none⟩) (by have := World.block_lt_of_cell? w _ (HPL.out j h); simp at *; omega)).trans ((hb0.cell (p := ⟨bp, j, none⟩) (World.block_lt_of_cell? w _ (HPL.out j h))).trans (HPL.out j h)))
      clear hb5 hI
      have HBR : Hid _ := hbr
      clear hbr
      have hgr : g < wr.heap.size + 1 := by omega
      cases hin : inL pl o.k with
      | false =>
        have HIN : Hid _ := hin
        clear hin
        go_wp2_with (go_at_call 10; refine (among_any pl bp np _ _ HNP.out hp100 HP5.out).mono ?_; rintro e w' ⟨rfl, hw⟩; subst w'; rw [HIN.out])
        go_roundw
        case rel => exact ⟨k + 1, by omega, by go_num, HI5.out.2, HB5.out⟩
        case measure => simp [intOf]; omega
      | true =>
        have HIN : Hid _ := hin
        clear hin
        go_wp2_with fail
        refine (among_any pl bp np _ _ HNP.out hp100 HP5.out).mono ?_
        rintro e w' ⟨rfl, hw⟩
        subst w'
        rw [HIN.out]
        go_wp2_with fail
        refine (HSP.out o hmem HIN.out k _ hlt HI5.out.1 HB5.out (by simp; omega)).mono ?_
        rintro e w6 ⟨rfl, hI6, hb6⟩
        have hs6 := hb6.size
        rw [World.size_alloc] at hs6
        have hb06 := HB5.out.trans hb6
        go_wp2_with fail
        refine (HLK.out (k + 1) _ hlt hI6 hb06 (by omega)).mono ?_
        rintro e w7 ⟨rfl, hI7, hb7⟩
        go_wp2
        go_roundw
        case rel => exact ⟨k + 1, by omega, by go_num, hI7, hb06.trans hb7⟩
        case measure => simp [intOf]; omega
    · have hnk : ¬ (k : Int) < (N : Int) := by omega
      go_wp2
      go_ret
      exact ⟨rfl, hb0.trans (hbr.mono (by have := hb0.size; omega))⟩

end Go.Proofs.YtfcbgfomhmcikaaGreatDoor

namespace Go.Proofs.YtfcbgfomhmcikaaGreatDoor
open Go.ChangeShapes Go.WideShapes Go.ChangeAt Go.RowKit Go.Deep

theorem Tryz.cellsOp : Tryz.prog.cellsOf 42 = 7 := by kernel_rfl
theorem Tryz.cellsConts : Tryz.prog.cellsOf 30 = 1 := by kernel_rfl
theorem Tryz.cellsInt : Tryz.prog.cellsOf 3 = 1 := by kernel_rfl
theorem Tryz.cellsStr : Tryz.prog.cellsOf 9 = 1 := by kernel_rfl
theorem Tryz.cellsRecs : Tryz.prog.cellsOf 40 = 1 := by kernel_rfl
theorem Tryz.bytesOp : Tryz.prog.bytesOf 42 = 88 := by kernel_rfl
theorem Tryz.bytesConts : Tryz.prog.bytesOf 30 = 24 := by kernel_rfl

section
variable {H : Type} {enc : TypeId × Value → H} {w : World} {base : Nat} {spare : Nat → Bool} {held : Bool}

theorem list7 {α : Type} {l : List α} (h : l.length = 7) : ∃ a b c d e f g, l = [a, b, c, d, e, f, g] := by
  match l, h with
  | [a, b, c, d, e, f, g], _ => exact ⟨a, b, c, d, e, f, g, rfl⟩

theorem slice_cell {t e : TypeId} {fuel : Nat} {cs : List Value} {y : DataW H × List MemPlace} (ht : Tryz.prog.underlying t = some (.slice e)) (hf : DataW.trod enc Tryz.prog w base spare held fuel t cs = some y) : ∃ a l c, cs = [.slice a l c] := by
  rcases DataW.trod_slice ht hf with ⟨rfl, _⟩ | ⟨a, len, cap, _, _, _, _, rfl, _⟩
  · exact ⟨none, 0, 0, rfl⟩
  · exact ⟨some a, len, cap, rfl⟩

/-- one step, as it is read -/
theorem open_op {fuel : Nat} {cs : List Value} {x : DataW H × List MemPlace} (h : DataW.trod enc Tryz.prog w base spare held fuel 42 cs = some x) :
    ∃ (o : OpV) (n : Nat) (dl : DataW H) (pl : List MemPlace), cs = o.cells ∧ o.s.size ≤ maxLen ∧ o.t.size ≤ maxLen ∧
      x.1 = .agg [.lit (.int .i64 o.k), .lit (.int .i64 o.a), .lit (.int .i64 o.b), .lit (.int .i64 o.c), .lit (.string o.s.data.toList), .lit (.string o.t.data.toList), dl] ∧
      (Lit.int .i64 o.k).wf = true ∧ (Lit.int .i64 o.a).wf = true ∧ (Lit.int .i64 o.b).wf = true ∧ (Lit.int .i64 o.c).wf = true ∧
      DataW.trod enc Tryz.prog w base spare held n 40 [.slice o.la o.ln o.lc] = some (dl, pl) := by
  obtain ⟨xs, n, _, rfl, hcl, hxl, hf⟩ := DataW.trod_struct Tryz.underlying42 h
  rw [Tryz.cellsOp] at hcl
  obtain ⟨c0, c1, c2, c3, c4, c5, c6, rfl⟩ := list7 hcl
  obtain ⟨x0, x1, x2, x3, x4, x5, x6, rfl⟩ := list7 (show xs.length = 7 from hxl)
  have f0 : DataW.trod enc Tryz.prog w base spare held n 3 (([c0, c1, c2, c3, c4, c5, c6].drop 0).take (Tryz.prog.cellsOf 3)) = some x0 := hf 0 _ rfl
  rw [Tryz.cellsInt] at f0
  have f1 : DataW.trod enc Tryz.prog w base spare held n 3 (([c0, c1, c2, c3, c4, c5, c6].drop 1).take (Tryz.prog.cellsOf 3)) = some x1 := hf 1 _ rfl
  rw [Tryz.cellsInt] at f1
  have f2 : DataW.trod enc Tryz.prog w base spare held n 3 (([c0, c1, c2, c3, c4, c5, c6].drop 2).take (Tryz.prog.cellsOf 3)) = some x2 := hf 2 _ rfl
  rw [Tryz.cellsInt] at f2
  have f3 : DataW.trod enc Tryz.prog w base spare held n 3 (([c0, c1, c2, c3, c4, c5, c6].drop 3).take (Tryz.prog.cellsOf 3)) = some x3 := hf 3 _ rfl
  rw [Tryz.cellsInt] at f3
  have f4 : DataW.trod enc Tryz.prog w base spare held n 9 (([c0, c1, c2, c3, c4, c5, c6].drop 4).take (Tryz.prog.cellsOf 9)) = some x4 := hf 4 _ rfl
  rw [Tryz.cellsStr] at f4
  have f5 : DataW.trod enc Tryz.prog w base spare held n 9 (([c0, c1, c2, c3, c4, c5, c6].drop 5).take (Tryz.prog.cellsOf 9)) = some x5 := hf 5 _ rfl
  rw [Tryz.cellsStr] at f5
  have f6 : DataW.trod enc Tryz.prog w base spare held n 40 (([c0, c1, c2, c3, c4, c5, c6].drop 6).take (Tryz.prog.cellsOf 40)) = some x6 := hf 6 _ rfl
  rw [Tryz.cellsRecs] at f6
  obtain ⟨k, e0, rfl, w0⟩ := DataW.trod_int Tryz.underlying3 f0
  obtain ⟨a, e1, rfl, w1⟩ := DataW.trod_int Tryz.underlying3 f1
  obtain ⟨b, e2, rfl, w2⟩ := DataW.trod_int Tryz.underlying3 f2
  obtain ⟨c, e3, rfl, w3⟩ := DataW.trod_int Tryz.underlying3 f3
  obtain ⟨s, e4, rfl, w4⟩ := DataW.trod_string Tryz.underlying9 f4
  obtain ⟨t, e5, rfl, w5⟩ := DataW.trod_string Tryz.underlying9 f5
  have f6' : DataW.trod enc Tryz.prog w base spare held n 40 [c6] = some x6 := f6
  obtain ⟨la, ln, lc, e6⟩ := slice_cell Tryz.underlying40 f6'
  simp only [List.drop, List.take, List.cons.injEq, and_true] at e0 e1 e2 e3 e4 e5 e6
  subst e0 e1 e2 e3 e4 e5 e6
  exact ⟨⟨k, a, b, c, s, t, la, ln, lc⟩, n, x6.1, x6.2, rfl, w4, w5, rfl, w0, w1, w2, w3, f6'⟩

/-- a script, as it is read: its steps -/
theorem open_script {v : Value} {d : DataW H} {p : List MemPlace} (hv : ∃ a l c, v = .slice a l c) (h : DataW.Trod enc Tryz.prog w 0 (fun _ => true) true 23 v d p) :
    (v = .slice none 0 0 ∧ d = .nil ∧ Src w v 0 []) ∨
    ∃ (ss : List OpV) (elems sp : List (DataW H)), Src w v ss.length (ss.flatMap OpV.cells) ∧ d = .slice elems sp ∧ elems.length = ss.length ∧
      ∀ o ∈ ss, ∃ (n : Nat) (dl : DataW H) (pl : List MemPlace), o.s.size ≤ maxLen ∧ o.t.size ≤ maxLen ∧
        .agg [.lit (.int .i64 o.k), .lit (.int .i64 o.a), .lit (.int .i64 o.b), .lit (.int .i64 o.c), .lit (.string o.s.data.toList), .lit (.string o.t.data.toList), dl] ∈ elems ∧
        (Lit.int .i64 o.k).wf = true ∧ (Lit.int .i64 o.a).wf = true ∧ (Lit.int .i64 o.b).wf = true ∧ (Lit.int .i64 o.c).wf = true ∧
        DataW.trod enc Tryz.prog w 0 (fun _ => true) true n 40 [.slice o.la o.ln o.lc] = some (dl, pl) := by
  obtain ⟨va, vl, vc, rfl⟩ := hv
  obtain ⟨fuel, hf⟩ := h
  rcases open_slice Tryz.underlying23 hf with ⟨hcs, hx⟩ | ⟨a, len, cap, m, n, D, Pl, hcs, _, hl, hm, hmm, hx, hel⟩
  · simp [Value.cells] at hcs
    obtain ⟨rfl, rfl, rfl⟩ := hcs
    simp only [Prod.mk.injEq] at hx
    exact .inl ⟨rfl, hx.1, .inl ⟨rfl, rfl, rfl⟩⟩
  · right
    simp [Value.cells] at hcs
    obtain ⟨rfl, rfl, rfl⟩ := hcs
    simp only [Prod.mk.injEq] at hx
    obtain ⟨rfl, _⟩ := hx
    have hml : vl ≤ m := by rw [hmm]; simpa using hl
    have hel' : ∀ i, i < vl → ∃ o : OpV, ∃ (n' : Nat) (dl : DataW H) (pl : List MemPlace), w.cells? 0 (a.add (i * 7)) 7 = some o.cells ∧ o.s.size ≤ maxLen ∧ o.t.size ≤ maxLen ∧
        D i = .agg [.lit (.int .i64 o.k), .lit (.int .i64 o.a), .lit (.int .i64 o.b), .lit (.int .i64 o.c), .lit (.string o.s.data.toList), .lit (.string o.t.data.toList), dl] ∧
        (Lit.int .i64 o.k).wf = true ∧ (Lit.int .i64 o.a).wf = true ∧ (Lit.int .i64 o.b).wf = true ∧ (Lit.int .i64 o.c).wf = true ∧
        DataW.trod enc Tryz.prog w 0 (fun _ => true) true n' 40 [.slice o.la o.ln o.lc] = some (dl, pl) := by
      intro i hi
      obtain ⟨cs', h1, h2⟩ := hel i (by omega)
      rw [Tryz.cellsOp] at h1
      obtain ⟨o, n', dl, pl, rfl, g1, g2, g3, g4, g5, g6, g7, g8⟩ := open_op h2
      exact ⟨o, n', dl, pl, h1, g1, g2, g3, g4, g5, g6, g7, g8⟩
    have : Inhabited OpV := ⟨⟨0, 0, 0, 0, ⟨#[]⟩, ⟨#[]⟩, none, 0, 0⟩⟩
    obtain ⟨f, hfo⟩ := choose_lt hel'
    refine ⟨(List.range vl).map f, (List.range vl).map D, _, .inr ⟨a, vc, by simp, ?_⟩, rfl, by simp, ?_⟩
    · intro j u hj
      have hlen : j < vl * 7 := by
        have := (List.getElem?_eq_some_iff.1 hj).1
        rw [cells_length] at this
        simpa using this
      have hjk : j / 7 < vl := by omega
      have hj' : j = j / 7 * 7 + j % 7 := by omega
      rw [hj', cells_at _ (j / 7) (by simpa using hjk) (j % 7) (by omega)] at hj
      simp only [List.getElem_map, List.getElem_range] at hj
      obtain ⟨n', dl, pl, h1, _⟩ := hfo (j / 7) hjk
      obtain ⟨_, hlen7, hcell⟩ := World.cells?_some h1
      have := hcell (j % 7) (by omega)
      rw [add_add, hj] at this
      rw [hj']
      exact this
    · intro o ho
      obtain ⟨i, hi, rfl⟩ := List.mem_map.1 ho
      obtain ⟨n', dl, pl, _, g1, g2, g3, g4⟩ := hfo i (List.mem_range.1 hi)
      exact ⟨n', dl, pl, g1, g2, by rw [← g3]; exact List.mem_map.2 ⟨i, hi, rfl⟩, g4⟩

/-- the references, as they are read -/
theorem open_refs {v : Value} {d : DataW H} {p : List MemPlace} (hv : ∃ a l c, v = .slice a l c) (h : DataW.Trod enc Tryz.prog w 0 (fun _ => true) true 22 v d p) :
    (v = .slice none 0 0 ∧ d = .nil ∧ Src w v 0 []) ∨
    ∃ (rs : List Value) (elems sp : List (DataW H)), Src w v rs.length rs ∧ d = .slice elems sp ∧ elems.length = rs.length ∧ (∀ u ∈ rs, u.oneCell' = true) ∧
      ∀ i, i < rs.length → ∃ (n a l c : Nat) (ao : Option Addr) (pl : List MemPlace) (dl : DataW H), rs[i]? = some (.slice ao l c) ∧ elems[i]? = some dl ∧ a = 0 ∧ DataW.trod enc Tryz.prog w 0 (fun _ => true) true n 30 [.slice ao l c] = some (dl, pl) := by
  obtain ⟨va, vl, vc, rfl⟩ := hv
  obtain ⟨fuel, hf⟩ := h
  rcases open_slice Tryz.underlying22 hf with ⟨hcs, hx⟩ | ⟨a, len, cap, m, n, D, Pl, hcs, _, hl, hm, hmm, hx, hel⟩
  · simp [Value.cells] at hcs
    obtain ⟨rfl, rfl, rfl⟩ := hcs
    simp only [Prod.mk.injEq] at hx
    exact .inl ⟨rfl, hx.1, .inl ⟨rfl, rfl, rfl⟩⟩
  · right
    simp [Value.cells] at hcs
    obtain ⟨rfl, rfl, rfl⟩ := hcs
    simp only [Prod.mk.injEq] at hx
    obtain ⟨rfl, _⟩ := hx
    have hml : vl ≤ m := by rw [hmm]; simpa using hl
    have hel' : ∀ i, i < vl → ∃ u : Value, ∃ (l c : Nat) (ao : Option Addr), u = .slice ao l c ∧ w.cell? (a.add i) = some u ∧ DataW.trod enc Tryz.prog w 0 (fun _ => true) true n 30 [u] = some (D i, Pl i) := by
      intro i hi
      obtain ⟨cs', h1, h2⟩ := hel i (by omega)
      rw [Tryz.cellsConts, Nat.mul_one] at h1
      obtain ⟨ao, l, c, rfl⟩ := slice_cell Tryz.underlying30 h2
      exact ⟨_, l, c, ao, rfl, cell_of_cells?_one h1, h2⟩
    have : Inhabited Value := ⟨undef⟩
    obtain ⟨f, hfo⟩ := choose_lt hel'
    refine ⟨(List.range vl).map f, (List.range vl).map D, _, .inr ⟨a, vc, by simp, ?_⟩, rfl, by simp, ?_, ?_⟩
    · intro j u hj
      have hlen : j < vl := by
        have := (List.getElem?_eq_some_iff.1 hj).1
        simpa using this
      obtain ⟨_, _, _, _, h2, _⟩ := hfo j hlen
      rw [h2]
      simpa [hlen] using hj
    · intro u hu
      obtain ⟨i, hi, rfl⟩ := List.mem_map.1 hu
      obtain ⟨_, _, _, h1, _⟩ := hfo i (List.mem_range.1 hi)
      rw [h1]; rfl
    · intro i hi
      have hiv : i < vl := by simpa using hi
      obtain ⟨l, c, ao, h1, h2, h3⟩ := hfo i hiv
      rw [h1] at h3
      exact ⟨n, 0, l, c, ao, Pl i, D i, by simp [hiv, h1], by simp [hiv], rfl, h3⟩

end

section
variable {H : Type}
theorem weightsAll_mem {P : Program} {e : TypeId} {d : DataW H} {elems : List (DataW H)} (h : d ∈ elems) {n : Nat} (hn : n ∈ d.weights P e) : n ∈ DataW.weightsAll P e elems := by
  induction elems with
  | nil => cases h
  | cons x r ih =>
    rw [DataW.weightsAll]
    rcases List.mem_cons.1 h with rfl | h
    · exact List.mem_append_left _ hn
    · exact List.mem_append_right _ (ih h)

/-- a step's texts are within the reach -/
theorem op_sized {elems sp : List (DataW H)} {o : OpV} {dl : DataW H} (h : ∀ n ∈ (DataW.slice elems sp).weights Tryz.prog 23, n ≤ reachBytes)
    (hm : .agg [.lit (.int .i64 o.k), .lit (.int .i64 o.a), .lit (.int .i64 o.b), .lit (.int .i64 o.c), .lit (.string o.s.data.toList), .lit (.string o.t.data.toList), dl] ∈ elems) :
    o.s.size ≤ reachBytes ∧ o.t.size ≤ reachBytes := by
  have hw : ∀ n ∈ DataW.weights Tryz.prog 42 (.agg [.lit (.int .i64 o.k), .lit (.int .i64 o.a), .lit (.int .i64 o.b), .lit (.int .i64 o.c), .lit (.string o.s.data.toList), .lit (.string o.t.data.toList), dl]), n ≤ reachBytes := by
    intro n hn
    refine h n ?_
    simp only [DataW.weights, Tryz.underlying23]
    exact List.mem_cons_of_mem _ (List.mem_append_left _ (weightsAll_mem hm hn))
  simp only [DataW.weights, Tryz.underlying42, DataW.weightsEach, List.map] at hw
  constructor
  · exact hw _ (by simp)
  · exact hw _ (by simp)
end

end Go.Proofs.YtfcbgfomhmcikaaGreatDoor
