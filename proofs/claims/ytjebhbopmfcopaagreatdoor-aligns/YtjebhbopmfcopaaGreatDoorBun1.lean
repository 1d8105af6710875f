/-
  THE PACKAGE-LEVEL VARIABLES THAT THE ROWS LIST: a world in which they are laid. Own text of the verifier.
  A CALL THAT STARTS NO GOROUTINE, over a row that says 'leaving', 'calm' and 'outside := [.timePasses]': who is alone at the return is only leaving; who leaves the outside as it was lets time pass. Own text of the verifier.
  PLAIN MATHEMATICS of letters: which bytes are letters, the letter of the other strand, what bleaching turns. No program is named here. Own text of the verifier.
  THE WALKS of the small functions of letters: IsLetter, Complement, turned, areLetters of the program. Own text of the verifier.
  BYTES OF THE CALL'S OWN: a slice of bytes that the call made: a byte appended, a byte stored, and the string made of it. Own text of the verifier.
  THE STEPS AHEAD OF EVERY SCRIPT ('first'), 'among', and a step as seven cells. Own text of the verifier.
  THE WALK of 'among': does a number stand in a list? Own text of the verifier.
  'append(own, src...)': what is appended came in, or is nil. Own text of the verifier.
  'plays', ONCE FOR ALL SCRIPTS: whatever invariant the steps in play keep. Own text of the verifier.
-/
import Derived.Test.YtjebhbopmfcopaaGreatDoorRows
import Derived.Test.YtjebhbopmfcopaaGreatDoorTie
import Derived.Test.YtjebhbopmfcopaaGreatDoorCards
import Derived.ProofKit
import Derived.LaidMore
import Derived.Lay
import Derived.SevenTiedAt
import Derived.Stop.Joined
import Derived.Conc.HoldsTime
import Derived.LaidLaws
import Derived.WalkKit
import Derived.WalkSpells
import Derived.WalkLawsBesides
import Derived.Laws.AppendOwnNone
namespace Go.Proofs.YtjebhbopmfcopaaGreatDoor
open Go.RowKit

/-- what the rows list -/
def laidList : List (String × DataW Unit) := Rows.textsRow.laid

theorem laid_shaped (os : Os) : (World.laidAll Tryz.prog os laidList).Shaped Tryz.prog := World.shaped_of_ZipB (by kernel_rfl) (by kernel_rfl)

theorem laid_met (os : Os) (args : Array Value) : laidMetH Tryz.prog laidList ((World.laidAll Tryz.prog os laidList).forCall (fun _ _ => 0) ⟨#[], args, []⟩).memory := by
  rw [MakeChecks.laidMetH_plain _ _ _ (by kernel_rfl)]
  exact laidMet_laidAll _ (by kernel_rfl) (by kernel_rfl)

end Go.Proofs.YtjebhbopmfcopaaGreatDoor

namespace Go.Proofs.YtjebhbopmfcopaaGreatDoor
open Go.Conc Go.ConcM

theorem leaving_of_alone {P : Program} {last : Machine} {w : World} {t : Trace} (h : aloneAtReturn P last w t) : leavingAtReturn P last w t := by
  obtain ⟨⟨h1, h2⟩, h3, h4⟩ := h
  refine ⟨h3, ⟨fun g hg => ⟨0, ?_⟩, h2⟩, h4⟩
  have := List.all_eq_true.1 h1 g hg
  simpa [Goroutine.LeavesIn] using this

theorem timed_of_post {H : Type} {enc : TypeId × Value → H} {P : Program} {f : Func} {s : ChangeSpec} {F : Stop.Interp} {apart fresh handsOn again : Bool} {W W' : World} {args : Array Value} {v : Value}
    (h : s.post enc P f apart fresh handsOn again W args v W') : (OpenSpec.ofChange s).postWith enc P f F (outsideKept [.timePasses]) apart fresh handsOn W args v W' := by
  obtain ⟨ds, gs, before, pr, pa, pv, h1, h2, h3, h4, h5, _⟩ := h
  have hos : OsLater W.os W'.os := by rw [h5.1]; exact OsLater.refl _
  exact ⟨ds, gs, before, pr, pa, pv, h1, h2, h3, h4, leftAs_later hos, h5.2⟩

/-- from the contract of a lone call to the row's -/
theorem leaving_of_handed {H : Type} {enc : TypeId × Value → H} {C : Checked} {os : Os} {f : FuncId} {fn : Func} {s : ChangeSpec} {F : Stop.Interp} {apart fresh handsOn again : Bool} {Pre : World → Array Value → Prop}
    (wit : ∃ (w : World) (tape : Tape) (i : Input), w.os = os ∧ (w.forCall tape i).Shaped C.prog ∧ i.vars = [] ∧ Input.okWide C.prog (w.forCall tape i) .any w.heap.size f i ∧ Pre (w.forCall tape i).memory i.args ∧
      ({ calm := true } : Assume).holds C.prog (lone (Frame.enter C.prog f i.args .normal) [] (w.forCall tape i)))
    (h : ReturnsInHanded {} C os f .any Pre (s.post enc C.prog fn apart fresh handsOn again)) :
    ReturnsInLeavingWide { calm := true } C os f .any Pre ((OpenSpec.ofChange s).postWith enc C.prog fn F (outsideKept [.timePasses]) apart fresh handsOn) := fun enter => by
  obtain ⟨g0, g1, g2, _, g4⟩ := h enter
  obtain ⟨w0, t0, i0, a1, a2, a3, a4, a5, a6⟩ := wit
  refine ⟨g0, g1, g2, ⟨w0, t0, i0, a1, a2, a3, a4, a5, a6, trivial⟩, fun w tape i hf => ?_⟩
  obtain ⟨b1, b2, b3, b4, b5, b6, b7⟩ := hf
  obtain ⟨n, v, w', e, c, ro, po, ⟨j, last, hj, hs, hq⟩, al⟩ := g4 w tape i ⟨b1, b2, b3, b4, b5, (by simp [Assume.holds]), b7⟩
  exact ⟨n, v, w', e, c, ro, timed_of_post po, ⟨j, last, hj, hs, leaving_of_alone hq⟩, al⟩

/-- an input that fits, on the tape of noughts -/
theorem calm_witness {H : Type} {enc : TypeId × Value → H} {C : Checked} {os : Os} {f : FuncId} {fn : Func} {s : ChangeSpec} {conds : List PathCond} {apart : Bool} {X : World → Array Value → Prop} (w0 : World) (args : Array Value) (fuel : Nat) (hos : w0.os = os)
    (hsh : (w0.forCall (fun _ _ => 0) ⟨#[], args, []⟩).Shaped C.prog)
    (hok : Input.okWideB C.prog (w0.forCall (fun _ _ => 0) ⟨#[], args, []⟩) f ⟨#[], args, []⟩ = true)
    (hpre : s.preB enc C.prog fn conds apart (w0.forCall (fun _ _ => 0) ⟨#[], args, []⟩).memory args fuel = true)
    (hsz : s.sizedB enc C.prog fn apart (w0.forCall (fun _ _ => 0) ⟨#[], args, []⟩).memory args fuel = true)
    (hx : X (w0.forCall (fun _ _ => 0) ⟨#[], args, []⟩).memory args) :
    ∃ (w : World) (tape : Tape) (i : Input), w.os = os ∧ (w.forCall tape i).Shaped C.prog ∧ i.vars = [] ∧ Input.okWide C.prog (w.forCall tape i) .any w.heap.size f i ∧
      ((s.pre enc C.prog fn conds apart (w.forCall tape i).memory i.args ∧ X (w.forCall tape i).memory i.args) ∧ sizedMet enc C.prog fn (OpenSpec.ofChange s) apart (w.forCall tape i).memory i.args) ∧ ({ calm := true } : Assume).holds C.prog (lone (Frame.enter C.prog f i.args .normal) [] (w.forCall tape i)) :=
  ⟨w0, fun _ _ => 0, ⟨#[], args, []⟩, hos, hsh, (Input.okWide_of_okWideB (base := 0) hok).1, (Input.okWide_of_okWideB hok).2, ⟨⟨ChangeSpec.pre_of_preB hpre, hx⟩, sizedMet_of_sizedB hsz⟩, by
    simp only [Assume.holds]
    exact ⟨by simp, fun _ _ _ _ => rfl, by simp, by simp, by simp⟩⟩

/-- a tied card of a row whose call can start goroutines -/
theorem tied_goes (Lk : Looks) {p : Pinned} {s : OpenSpec} {c : OpenClaim} (kinds : List LaidKind) (tests : Bool) (har : Bool × String) (lk : Bool)
    (hc : c.holds p s) (hw : c.wfByText s = true) (htie : c.laidByTextAt Lk p kinds tests)
    (hst : c.start = .entering) (hnb : c.noBlocks = false ∧ c.again = false) (hm : p.checked.prog.mainIs = some (har.1, har.2.toList)) (hn : (!har.1 && har.2.isEmpty && !lk) = false)
    (hl : ∀ f fn, p.checked.prog.funcNamed c.func = some f → p.checked.prog.funcs[f]? = some fn → lk = p.checked.prog.looks [] ∧ ∀ (j : Nat) t, fn.params[j]? = some t → p.checked.prog.wantsStandIn t = false)
    (hg : true = c.goesBy p.checked.prog) :
    Claim7.holds p (.plain s) { stood := { row := c, standIns := [], harness := har, looks := lk }, kinds := [], alts := [], goes := true, laidByText := true, laidKinds := kinds, laidTests := tests, laidLooks := Lk } := by
  have h6 : Claim7.isSixth { stood := { row := c, standIns := [], harness := har, looks := lk }, kinds := [] } = false := by simpa [Claim7.isSixth] using hn
  exact ⟨Claim7.tied_new_at Lk kinds tests (Claim7.new_of_sixth hc har lk hst hnb hm h6 hl) hw, (fun D hD => by cases hD), htie, (fun h => by cases h), hg⟩

end Go.Proofs.YtjebhbopmfcopaaGreatDoor

namespace Go.Proofs.YtjebhbopmfcopaaGreatDoor.Lt

def isL (c : UInt8) : Bool := c == 65 || c == 67 || c == 71 || c == 84 || c == 78

def comp (c : UInt8) : UInt8 := if c = 65 then 84 else if c = 67 then 71 else if c = 71 then 67 else if c = 84 then 65 else c

def allL (l : List UInt8) : Bool := l.all isL

def rev (l : List UInt8) : List UInt8 := (l.map comp).reverse

def sub (f t c : UInt8) : UInt8 := if c = f then t else c

def conv (f t : UInt8) (l : List UInt8) : List UInt8 := l.map (sub f t)

theorem toNat_inj {c : UInt8} {n : Nat} (hn : n < 256) : (c.toNat = n) ↔ c = UInt8.ofNat n := by
  constructor
  · intro h
    apply UInt8.toNat_inj.1
    rw [h, UInt8.toNat_ofNat']
    omega
  · intro h
    rw [h, UInt8.toNat_ofNat']
    omega

theorem comp_isL {c : UInt8} (h : isL c = true) : isL (comp c) = true := by
  simp only [isL, Bool.or_eq_true, beq_iff_eq] at h
  rcases h with (((h | h) | h) | h) | h <;> subst h <;> decide

theorem comp_comp {c : UInt8} : comp (comp c) = c := by
  unfold comp
  repeat (first | split | (subst_vars; rfl) | simp_all)

theorem rev_length (l : List UInt8) : (rev l).length = l.length := by simp [rev]

theorem rev_rev (l : List UInt8) : rev (rev l) = l := by
  simp only [rev, List.map_reverse, List.reverse_reverse, List.map_map]
  rw [show (comp ∘ comp) = id from funext fun c => comp_comp]
  simp

theorem rev_allL {l : List UInt8} (h : allL l = true) : allL (rev l) = true := by
  simp only [allL, rev, List.all_reverse, List.all_map, List.all_eq_true] at *
  intro c hc
  exact comp_isL (h c hc)

theorem conv_length (f t : UInt8) (l : List UInt8) : (conv f t l).length = l.length := by simp [conv]

theorem conv_allL {f t : UInt8} (ht : isL t = true) {l : List UInt8} (h : allL l = true) : allL (conv f t l) = true := by
  simp only [allL, conv, List.all_map, List.all_eq_true] at *
  intro c hc
  simp only [Function.comp, sub]
  split
  · exact ht
  · exact h c hc

theorem conv_conv {f t : UInt8} (h : t ≠ f) (l : List UInt8) : conv f t (conv f t l) = conv f t l := by
  simp only [conv, List.map_map]
  congr 1
  funext c
  simp only [Function.comp, sub]
  by_cases hc : c = f
  · simp [hc, h]
  · simp [hc]

/-- what is turned round and bleached for the bottom, turned round again, is what is bleached for the top -/
theorem sub_comp {c : UInt8} (h : isL c = true) : comp (sub 71 65 (comp c)) = sub 67 84 c := by
  simp only [isL, Bool.or_eq_true, beq_iff_eq] at h
  rcases h with (((h | h) | h) | h) | h <;> subst h <;> decide

theorem rev_conv_rev {l : List UInt8} (h : allL l = true) : rev (conv 71 65 (rev l)) = conv 67 84 l := by
  simp only [rev, conv, List.map_reverse, List.reverse_reverse, List.map_map]
  apply List.map_congr_left
  intro c hc
  exact sub_comp (by simp only [allL, List.all_eq_true] at h; exact h c hc)

/-- a fact on bytes, asked of each of the 256 -/
theorem every {p : UInt8 → Prop} [DecidablePred p] (h : (List.range 256).all (fun n => decide (p (UInt8.ofNat n))) = true) (c : UInt8) : p c := by
  have h1 := List.all_eq_true.1 h c.toNat (by rw [List.mem_range]; exact c.toNat_lt)
  rw [UInt8.ofNat_toNat] at h1
  exact of_decide_eq_true h1

theorem isL_int (c : UInt8) : isL c = ((c.toNat : Int) == 65 || (c.toNat : Int) == 67 || (c.toNat : Int) == 71 || (c.toNat : Int) == 84 || (c.toNat : Int) == 78) :=
  every (p := fun c => isL c = ((c.toNat : Int) == 65 || (c.toNat : Int) == 67 || (c.toNat : Int) == 71 || (c.toNat : Int) == 84 || (c.toNat : Int) == 78)) (by decide +kernel) c

theorem comp_int (c : UInt8) : ((comp c).toNat : Int) = if ((c.toNat : Int) == 65) = true then 84 else if ((c.toNat : Int) == 67) = true then 71 else if ((c.toNat : Int) == 71) = true then 67 else if ((c.toNat : Int) == 84) = true then 65 else (c.toNat : Int) :=
  every (p := fun c => ((comp c).toNat : Int) = if ((c.toNat : Int) == 65) = true then 84 else if ((c.toNat : Int) == 67) = true then 71 else if ((c.toNat : Int) == 71) = true then 67 else if ((c.toNat : Int) == 84) = true then 65 else (c.toNat : Int)) (by decide +kernel) c

/-- which letter a strand's treatment turns, and into which; 0: it is no strand -/
def frm (n : Int) : UInt8 := if (n == 1) = true then 67 else if (n == 3) = true then 67 else if (n == 2) = true then 71 else if (n == 4) = true then 71 else 0
def tow (n : Int) : UInt8 := if (n == 1) = true then 84 else if (n == 3) = true then 84 else if (n == 2) = true then 65 else if (n == 4) = true then 65 else 0

theorem allL_take_succ (s : ByteArray) (k : Nat) (h : k < s.size) : allL (s.data.toList.take (k + 1)) = (allL (s.data.toList.take k) && isL s[k]) := by
  rw [show s.data.toList.take (k + 1) = s.data.toList.take k ++ [s[k]] from by rw [List.take_succ_eq_append_getElem (by simpa using h)]; rfl]
  simp [allL]

theorem allL_stop (s : ByteArray) (k : Nat) (h : k < s.size) (hn : isL s[k] = false) : allL s.data.toList = false := by
  unfold allL
  rw [List.all_eq_false]
  exact ⟨s[k], by have : s[k] = s.data.toList[k]'(by simpa using h) := rfl
                  rw [this]; exact List.getElem_mem _, by simp [hn]⟩

theorem allL_whole (s : ByteArray) (k : Nat) (h : ¬ k < s.size) (ht : allL (s.data.toList.take k) = true) : allL s.data.toList = true := by
  rwa [List.take_of_length_le (by simp; omega)] at ht

theorem take_snoc (s : ByteArray) (k : Nat) (h : k < s.size) : s.data.toList.take (k + 1) = s.data.toList.take k ++ [s[k]] := by
  rw [List.take_succ_eq_append_getElem (by simpa using h)]; rfl

def topB (n : Int) : Bool := n == 1 || n == 3
def strandB (n : Int) : Bool := decide (1 ≤ n) && decide (n ≤ 4)
theorem strandB_int (n : Int) : strandB n = ((n == 1) || (n == 2) || (n == 3) || (n == 4)) := by
  rw [Bool.eq_iff_iff]
  simp only [strandB, Bool.and_eq_true, decide_eq_true_eq, Bool.or_eq_true, beq_iff_eq]
  omega
theorem frm_tow_none {n : Int} (h : strandB n = false) : frm n = 0 ∧ tow n = 0 := by
  rw [strandB_int] at h
  simp only [Bool.or_eq_false_iff] at h
  simp [frm, tow, h]
theorem frm_tow_top {n : Int} (h : topB n = true) : frm n = 67 ∧ tow n = 84 := by
  have h4 : n = 1 ∨ n = 3 := by simpa [topB] using h
  rcases h4 with rfl | rfl <;> exact ⟨rfl, rfl⟩
theorem frm_tow_bot {n : Int} (h : topB n = false) (hs : strandB n = true) : frm n = 71 ∧ tow n = 65 := by
  have h4 : n = 2 ∨ n = 4 := by
    rw [strandB_int] at hs
    simp only [topB, Bool.or_eq_false_iff, beq_eq_false_iff_ne, Bool.or_eq_true, beq_iff_eq] at h hs
    omega
  rcases h4 with rfl | rfl <;> exact ⟨rfl, rfl⟩

end Go.Proofs.YtjebhbopmfcopaaGreatDoor.Lt

namespace Go.Proofs.YtjebhbopmfcopaaGreatDoor
open Go.RowKit

theorem ret_bool {a b : Bool} (h : a = b) : Ending.returned (.bool a) = .returned (.bool b) := by rw [h]
theorem ret_int {k : IntKind} {a b : Int} (h : a = b) : Ending.returned (.int k a) = .returned (.int k b) := by rw [h]

set_option maxHeartbeats 400000 in
theorem isLetter_any (c : UInt8) (w : World) :
    Calls Tryz.prog 120 #[.int .u8 (c.toNat : Int)] w fun e w' => e = .returned (.bool (Lt.isL c)) ∧ w' = w := by
  go_enter Tryz.func120, Tryz.ntmps120
  go_wp2
  all_goals go_ret
  all_goals exact ⟨ret_bool (by rw [Lt.isL_int]; simp only [*, Bool.or_true, Bool.true_or, Bool.or_false]), rfl⟩

set_option maxHeartbeats 400000 in
theorem complement_any (c : UInt8) (w : World) :
    Calls Tryz.prog 99 #[.int .u8 (c.toNat : Int)] w fun e w' => e = .returned (.int .u8 ((Lt.comp c).toNat : Int)) ∧ w' = w := by
  go_enter Tryz.func99, Tryz.ntmps99
  go_wp2
  all_goals go_ret
  all_goals exact ⟨ret_int (by rw [Lt.comp_int]; simp only [*, if_true, if_false, Bool.false_eq_true]), rfl⟩

set_option maxHeartbeats 400000 in
theorem strIs_any (n : Int) (w : World) :
    Calls Tryz.prog 77 #[.int .i64 n] w fun e w' => e = .returned (.bool (Lt.strandB n)) ∧ w' = w := by
  go_enter Tryz.func77, Tryz.ntmps77
  go_wp2
  all_goals go_ret
  all_goals exact ⟨ret_bool (by rw [Lt.strandB_int]; simp only [*, Bool.or_true, Bool.true_or, Bool.or_false]), rfl⟩

set_option maxHeartbeats 400000 in
theorem strTop_any (n : Int) (w : World) :
    Calls Tryz.prog 157 #[.int .i64 n] w fun e w' => e = .returned (.bool (Lt.topB n)) ∧ w' = w := by
  go_enter Tryz.func157, Tryz.ntmps157
  go_wp2
  all_goals go_ret
  all_goals exact ⟨ret_bool (by unfold Lt.topB; simp [*]), rfl⟩

set_option maxHeartbeats 400000 in
theorem turned_any (n : Int) (w : World) :
    Calls Tryz.prog 102 #[.int .i64 n] w fun e w' => e = .returned (.tuple #[.int .u8 ((Lt.frm n).toNat : Int), .int .u8 ((Lt.tow n).toNat : Int)]) ∧ w' = w := by
  cases hS : Lt.strandB n with
  | false =>
    have HS : Hid _ := hS
    rw [(Lt.frm_tow_none hS).1, (Lt.frm_tow_none hS).2]
    clear hS
    go_enter Tryz.func102, Tryz.ntmps102
    go_wp2_with (go_at_call 77; refine (strIs_any _ _).mono ?_; rintro e w' ⟨rfl, hw⟩; subst w'; rw [HS.out])
    go_ret2
    exact ⟨rfl, rfl⟩
  | true =>
    have HS : Hid _ := hS
    cases hT : Lt.topB n with
    | true =>
      have HT : Hid _ := hT
      rw [(Lt.frm_tow_top hT).1, (Lt.frm_tow_top hT).2]
      clear hS hT
      go_enter Tryz.func102, Tryz.ntmps102
      go_wp2_with (first
        | (go_at_call 77; refine (strIs_any _ _).mono ?_; rintro e w' ⟨rfl, hw⟩; subst w'; rw [HS.out])
        | (go_at_call 157; refine (strTop_any _ _).mono ?_; rintro e w' ⟨rfl, hw⟩; subst w'; rw [HT.out]))
      go_ret2
      exact ⟨rfl, rfl⟩
    | false =>
      have HT : Hid _ := hT
      rw [(Lt.frm_tow_bot hT hS).1, (Lt.frm_tow_bot hT hS).2]
      clear hS hT
      go_enter Tryz.func102, Tryz.ntmps102
      go_wp2_with (first
        | (go_at_call 77; refine (strIs_any _ _).mono ?_; rintro e w' ⟨rfl, hw⟩; subst w'; rw [HS.out])
        | (go_at_call 157; refine (strTop_any _ _).mono ?_; rintro e w' ⟨rfl, hw⟩; subst w'; rw [HT.out]))
      go_ret2
      exact ⟨rfl, rfl⟩

set_option maxHeartbeats 400000 in
theorem areLetters_any (s : ByteArray) (w : World) (hs : s.size ≤ maxLen) :
    Calls Tryz.prog 98 #[.string s] w fun e w' => e = .returned (.bool (Lt.allL s.data.toList)) ∧ w' = w := by
  unfold maxLen at hs
  go_enter Tryz.func98, Tryz.ntmps98
  go_wp2
  go_loop [6] (fun i => ∃ k : Nat, k ≤ s.size ∧ i = .int .i64 k ∧ Hid (Lt.allL (s.data.toList.take k) = true)) (fun i => s.size - (intOf i).toNat)
  case atStart => exact ⟨0, Nat.zero_le _, rfl, rfl⟩
  case round =>
    obtain ⟨k, hk, rfl, HA⟩ := hrel
    by_cases hlt : k < s.size
    · cases hL : Lt.isL s[k] with
      | true =>
        have HS := Lt.allL_take_succ s k hlt
        rw [HA.out, hL, Bool.and_self] at HS
        have HT : Hid (Lt.allL (s.data.toList.take (k + 1)) = true) := HS
        clear HS HA
        have HL : Hid (Lt.isL s[k] = true) := hL
        clear hL
        go_wp2_with (go_at_call 120; refine (isLetter_any _ _).mono ?_; rintro e w' ⟨rfl, rfl⟩; rw [HL.out])
        go_round
        case rel => exact ⟨k + 1, by omega, by go_num, HT⟩
        case measure => simp [intOf]; omega
      | false =>
        have HF : Hid (Lt.allL s.data.toList = false) := Lt.allL_stop s k hlt hL
        have HL : Hid (Lt.isL s[k] = false) := hL
        clear hL HA
        go_wp2_with (go_at_call 120; refine (isLetter_any _ _).mono ?_; rintro e w' ⟨rfl, rfl⟩; rw [HL.out])
        go_ret
        exact ⟨ret_bool HF.out.symm, rfl⟩
    · have HF : Hid (Lt.allL s.data.toList = true) := Lt.allL_whole s k hlt HA.out
      clear HA
      go_wp2
      go_ret
      exact ⟨ret_bool HF.out.symm, rfl⟩

end Go.Proofs.YtjebhbopmfcopaaGreatDoor

namespace Go.Proofs.YtjebhbopmfcopaaGreatDoor
open Go.RowKit

/-- a byte as a cell -/
def By (c : UInt8) : Value := .int .u8 (c.toNat : Int)
/-- bytes as cells -/
def Bys (l : List UInt8) : List Value := l.map By

theorem Bys_length (l : List UInt8) : (Bys l).length = l.length := by simp [Bys]
theorem Bys_append (l r : List UInt8) : Bys (l ++ r) = Bys l ++ Bys r := by simp [Bys]
theorem Bys_at (l : List UInt8) (j : Nat) (h : j < l.length) : (Bys l)[j]? = some (.int .u8 (l[j].toNat : Int)) := by simp [Bys, By, h]
theorem By_one (l : List UInt8) : ∀ u ∈ Bys l, u.oneCell' = true := by
  intro u hu
  obtain ⟨c, _, rfl⟩ := List.mem_map.1 hu
  rfl

theorem Tryz.infoU8 : (Tryz.prog.info? 5).map (fun i => (i.zero, i.size, i.bytes)) = some (some (.int .u8 0), 1, 1) := by kernel_rfl

/-- '[]byte' of the call's own, made a string -/
theorem back_own {w : World} {base n : Nat} {v : Value} {l : List UInt8} (hown : w.ownsRow base 5 1 v n (Bys l)) :
    (convert 43 9 v).run Tryz.prog w = .ok (.string ⟨l.toArray⟩) w := by
  have hn : l.length = n := by have := hown.1; rw [Bys_length] at this; omega
  rcases hown.2 with ⟨rfl, hx⟩ | ⟨g, cap, cur, rfl, _, hg, _, _, _, htake⟩
  · have hl : l = [] := List.eq_nil_of_length_eq_zero (by omega)
    subst hl
    rw [run_convert_bytes_string w 43 9 5 none 0 0 Tryz.underlying43 Tryz.underlying5 Tryz.underlying9]
    simp [Conv.bytesToString]
    rfl
  · subst hn
    refine run_convert_bytes_back (P := Tryz.prog) w 43 9 5 ⟨g, 0, none⟩ cap l Tryz.underlying43 Tryz.underlying5 Tryz.underlying9 (fun j hj => ?_)
    rw [Addr.add_lit, Nat.zero_add, hown.cellAt j (by omega), Bys_at l j hj]

/-- the shape of what is owned -/
theorem own_form {w : World} {base e size n : Nat} {v : Value} {xs : List Value} (h : w.ownsRow base e size v n xs) : ∃ ao cap, v = .slice ao n cap := by
  rcases h.2 with ⟨rfl, rfl⟩ | ⟨g, cap, cur, rfl, _⟩
  · exact ⟨none, 0, rfl⟩
  · exact ⟨some ⟨g, 0, none⟩, cap, rfl⟩

/-- a cell of what is owned -/
theorem own_cell {w : World} {base e g n cap : Nat} {xs : List Value} (h : w.ownsRow base e 1 (.slice (some ⟨g, 0, none⟩) n cap) n xs) (j : Nat) (hj : j < n) : ∃ u, w.cell? ⟨g, j, none⟩ = some u ∧ xs[j]? = some u := by
  have hl : j < xs.length := by rw [h.1]; omega
  exact ⟨xs[j], by rw [h.cellAt j (by omega)]; exact List.getElem?_eq_getElem hl, List.getElem?_eq_getElem hl⟩

/-- 'b = append(b, c)': one byte behind bytes of the call's own -/
theorem app_byte {W w : World} {ops : Array Oper} {rest : List Oper} {o : Oper} {a : Act} {Q : Exit → Act → World → Prop} (hgd : o.guard = none) (s x : Operand)
    (ho : o.op = .call { callee := .builtin .append, args := #[s, x], argTypes := #[43, 43] })
    (base : Nat) (v : Value) (l : List UInt8) (c : UInt8) (hs : a.eval s = v) (hx : a.eval x = .slice (some ⟨w.heap.size, 0, none⟩) 1 1)
    (hown : w.ownsRow base 5 1 v l.length (Bys l)) (hbel : Below base W w) (hbase : base ≤ w.heap.size) (hlen : l.length + 1 ≤ 140737488355328)
    (h : ∀ v' w', w'.ownsRow base 5 1 v' (l ++ [c]).length (Bys (l ++ [c])) → Below base W w' → w.heap.size ≤ w'.heap.size → wpList Tryz.prog ops Q rest (a.put o.dst v') w') :
    wpList Tryz.prog ops Q (o :: rest) a (w.alloc (.cells #[.int .u8 (c.toNat : Int)] 5)) := by
  obtain ⟨i0, hi, hz0, hz1, hz2⟩ := info_parts Tryz.infoU8
  refine wpList_append_own _ hgd s x 43 ho base 5 i0 (.int .u8 0) 1 1 Tryz.underlying43 hi hz0 hz1 hz2 rfl (by decide) v l.length (Bys l) hs (hown.alloc _) ⟨w.heap.size, 0, none⟩ 1 1 [By c] hx rfl ?_ ?_ ?_ ?_ ?_ ?_
  · intro j u hj
    match j, hj with
    | 0, hj => simp at hj; subst hj; simp [Addr.add, By]
  · intro u hu; simp at hu; subst hu; rfl
  · unfold maxLen; omega
  · omega
  · simp; omega
  · intro v' w' h1 h2 _
    refine h v' w' ?_ ?_ ?_
    · rw [Bys_append, List.length_append]; exact h1
    · exact (hbel.alloc hbase _).grown h2 (by simp; omega) (fun k hk => (hown.lt k hk).1)
    · have := h2.size; simp at this; omega

end Go.Proofs.YtjebhbopmfcopaaGreatDoor

namespace Go.Proofs.YtjebhbopmfcopaaGreatDoor
open Go.RowKit

/-- a step, as a value: its seven cells -/
structure OpV where
  k : Int
  a : Int
  b : Int
  c : Int
  s : ByteArray
  t : ByteArray
  la : Option Addr
  ln : Nat
  lc : Nat

def OpV.cells (o : OpV) : List Value := [.int .i64 o.k, .int .i64 o.a, .int .i64 o.b, .int .i64 o.c, .string o.s, .string o.t, .slice o.la o.ln o.lc]

/-- the ten steps that are asked in any case; h: the block of the one record -/
def firstOps (h : Nat) : List OpV := [
  ⟨1, 0, 0, 0, ⟨#[62, 111, 110, 101, 10, 65, 67, 71, 84, 10, 116, 84, 67, 103, 97, 10]⟩, ⟨#[]⟩, none, 0, 0⟩,
  ⟨2, 0, 0, 0, ⟨#[64, 114, 10, 65, 67, 71, 10, 43, 10, 73, 73, 73, 10]⟩, ⟨#[]⟩, none, 0, 0⟩,
  ⟨3, 0, 0, 0, ⟨#[65, 67, 71, 84, 78]⟩, ⟨#[]⟩, none, 0, 0⟩,
  ⟨4, 1, 0, 0, ⟨#[65, 67, 71, 84, 78]⟩, ⟨#[]⟩, none, 0, 0⟩,
  ⟨5, 0, 0, 0, ⟨#[]⟩, ⟨#[]⟩, none, 0, 0⟩,
  ⟨6, 0, 1, 1, ⟨#[84, 84, 71]⟩, ⟨#[]⟩, none, 0, 0⟩,
  ⟨7, 0, 0, 0, ⟨#[114]⟩, ⟨#[84, 84, 84, 71]⟩, none, 0, 0⟩,
  ⟨8, 0, 0, 0, ⟨#[]⟩, ⟨#[]⟩, some ⟨h, 0, none⟩, 1, 1⟩,
  ⟨9, 0, 0, 0, ⟨#[114, 9, 97, 109, 98, 105, 103, 117, 111, 117, 115, 10]⟩, ⟨#[]⟩, none, 0, 0⟩,
  ⟨10, 0, 2, 0, ⟨#[62, 111, 110, 101, 10, 65, 67, 71, 84, 84, 67, 71, 65, 10]⟩, ⟨#[64, 114, 10, 84, 84, 84, 71, 10, 43, 10, 73, 73, 73, 73, 10]⟩, none, 0, 0⟩]

def recordCells : Array Value := #[.string ⟨#[114]⟩, .int .i64 0, .int .i64 0, .string ⟨#[]⟩, .int .i64 0, .int .i64 0, .string ⟨#[]⟩, .string ⟨#[]⟩]

set_option maxRecDepth 100000 in
set_option maxHeartbeats 1600000 in
theorem first_any (w : World) :
    Calls Tryz.prog 21 #[] w fun e w' =>
      ∃ v, e = .returned v ∧ w'.ownsRow w.heap.size 70 7 v 10 ((firstOps w.heap.size).flatMap OpV.cells) ∧ w'.heap[w.heap.size]? = some (.cells recordCells 52 (0, 0)) ∧ Below w.heap.size w w' ∧ w'.heap.size = w.heap.size + 2 := by
  go_enter Tryz.func21, Tryz.ntmps21
  go_wp2
  go_ret
  have hn : (w.alloc (.cells recordCells 52)).heap.size = w.heap.size + 1 := by simp
  have ho := World.ownsRow_lit (base := w.heap.size) (e := 70) (size := 7) (w.alloc (.cells recordCells 52)) ((firstOps w.heap.size).flatMap OpV.cells).toArray 10 (by rw [hn]; omega) (by decide) rfl
  rw [hn] at ho
  refine ⟨_, rfl, ho, ?_, ((Below.refl _ _).alloc (Nat.le_refl _) _).alloc (by rw [World.size_alloc]; omega) _, by simp⟩
  refine (Below.heap_alloc _ _ _ (by rw [World.size_alloc]; omega)).trans ?_
  exact heap_alloc_new w _

end Go.Proofs.YtjebhbopmfcopaaGreatDoor

namespace Go.Proofs.YtjebhbopmfcopaaGreatDoor
open Go.RowKit

/-- does k stand in the list? -/
def inL (pl : List Int) (k : Int) : Bool := pl.any (· == k)

theorem inL_stop (pl : List Int) (k : Int) (j : Nat) (h : j < pl.length) (he : (pl[j] == k) = true) : inL pl k = true := by
  rw [inL, List.any_eq_true]
  exact ⟨pl[j], List.getElem_mem _, he⟩
theorem inL_snoc (pl : List Int) (k : Int) (j : Nat) (h : j < pl.length) (h0 : inL (pl.take j) k = false) (he : (pl[j] == k) = false) : inL (pl.take (j + 1)) k = false := by
  rw [List.take_succ_eq_append_getElem h]
  simp only [inL, List.any_append, List.any_cons, List.any_nil, Bool.or_false] at *
  rw [h0, he]; rfl
theorem inL_whole (pl : List Int) (k : Int) (j : Nat) (h : ¬ j < pl.length) (h0 : inL (pl.take j) k = false) : inL pl k = false := by
  rwa [List.take_of_length_le (by omega)] at h0

set_option maxRecDepth 100000 in
set_option maxHeartbeats 800000 in
theorem among_any (pl : List Int) (b n : Nat) (k : Int) (w : World) (hn : pl.length = n) (h10 : n ≤ 100) (hc : ∀ j (h : j < pl.length), w.cell? ⟨b, j, none⟩ = some (.int .i64 pl[j])) :
    Calls Tryz.prog 22 #[.slice (some ⟨b, 0, none⟩) n n, .int .i64 k] w fun e w' => e = .returned (.bool (inL pl k)) ∧ w' = w := by
  have HN : Hid (pl.length = n) := hn
  have HC : Hid (∀ j (h : j < pl.length), w.cell? ⟨b, j, none⟩ = some (.int .i64 pl[j])) := hc
  clear hn hc
  go_enter Tryz.func22, Tryz.ntmps22
  go_wp2
  go_loop [5] (fun i => ∃ j : Nat, j ≤ n ∧ i = .int .i64 j ∧ Hid (inL (pl.take j) k = false)) (fun i => n - (intOf i).toNat)
  case atStart => exact ⟨0, Nat.zero_le _, rfl, rfl⟩
  case round =>
    obtain ⟨j, hj, rfl, HI⟩ := hrel
    by_cases hlt : j < n
    · have hl : j < pl.length := by rw [HN.out]; exact hlt
      have hcell := HC.out j hl
      cases he : (pl[j] == k) with
      | true =>
        have HF : Hid (inL pl k = true) := inL_stop pl k j hl he
        clear HI
        go_wp2
        go_ret
        exact ⟨ret_bool HF.out.symm, rfl⟩
      | false =>
        have HF : Hid (inL (pl.take (j + 1)) k = false) := inL_snoc pl k j hl HI.out he
        clear HI
        go_wp2
        go_round
        case rel => exact ⟨j + 1, by omega, by go_num, HF⟩
        case measure => simp [intOf]; omega
    · have HF : Hid (inL pl k = false) := inL_whole pl k j (by rw [HN.out]; exact hlt) HI.out
      clear HI
      go_wp2
      go_ret
      exact ⟨ret_bool HF.out.symm, rfl⟩

end Go.Proofs.YtjebhbopmfcopaaGreatDoor

namespace Go.Proofs.YtjebhbopmfcopaaGreatDoor
open Go.RowKit

/-- the value sv is a slice of m elements whose cells are xs (or nil, and there are none) -/
def Src (w : World) (sv : Value) (m : Nat) (xs : List Value) : Prop :=
  (sv = .slice none 0 0 ∧ m = 0 ∧ xs = []) ∨ ∃ ad c, sv = .slice (some ad) m c ∧ (∀ j u, xs[j]? = some u → w.cell? (ad.add j) = some u)

theorem Src.mono {w w' : World} {sv : Value} {m : Nat} {xs : List Value} (h : Src w sv m xs) (hb : Below w.heap.size w w') : Src w' sv m xs := by
  rcases h with h | ⟨ad, c, rfl, hc⟩
  · exact .inl h
  · refine .inr ⟨ad, c, rfl, fun j u hj => ?_⟩
    have h0 := hc j u hj
    rw [hb.cell (World.block_lt_of_cell? w _ h0)]
    exact h0

/-- 'own = append(own, src...)' -/
theorem app_src {W w : World} {ops : Array Oper} {rest : List Oper} {o : Oper} {a : Act} {Q : Exit → Act → World → Prop} (hgd : o.guard = none) (s x : Operand) (t : TypeId)
    (ho : o.op = .call { callee := .builtin .append, args := #[s, x], argTypes := #[t, t] })
    (base : Nat) (e : TypeId) (z : Value) (size bytes : Nat) (ht : Tryz.prog.underlying t = some (.slice e)) (hinfo : (Tryz.prog.info? e).map (fun i => (i.zero, i.size, i.bytes)) = some (some z, size, bytes)) (hzs : z.cells.size = size) (hsz : 0 < size)
    (v : Value) (n : Nat) (xs : List Value) (sv : Value) (m : Nat) (news : List Value) (hs : a.eval s = v) (hx : a.eval x = sv)
    (hown : w.ownsRow base e size v n xs) (hsrc : Src w sv m news) (hl : news.length = m * size) (h1 : ∀ u ∈ news, u.oneCell' = true)
    (hbel : Below base W w) (hbase : base ≤ w.heap.size) (hlen : (n + m) * bytes ≤ 140737488355328) (hb0 : 0 < bytes)
    (h : ∀ v' w', w'.ownsRow base e size v' (n + m) (xs ++ news) → Below base W w' → w.heap.size ≤ w'.heap.size → (∀ k, k < w.heap.size → some k ≠ v.ownBlock → w'.heap[k]? = w.heap[k]?) → wpList Tryz.prog ops Q rest (a.put o.dst v') w') :
    wpList Tryz.prog ops Q (o :: rest) a w := by
  obtain ⟨i0, hi, hz0, hz1, hz2⟩ := info_parts hinfo
  have hle : (n + m) * 1 ≤ (n + m) * bytes := Nat.mul_le_mul_left _ hb0
  rcases hsrc with ⟨rfl, rfl, rfl⟩ | ⟨ad, c, rfl, hc⟩
  · refine wpList_append_own_none hgd s x t ho base e i0 size ht hi v n xs hs hown hx ?_
    refine h v w ?_ hbel (Nat.le_refl _) (fun _ _ _ => rfl)
    rw [Nat.add_zero, List.append_nil]; exact hown
  · refine wpList_append_own _ hgd s x t ho base e i0 z size bytes ht hi hz0 hz1 hz2 hzs hsz v n xs hs hown ad m c news hx hl hc h1 ?_ hlen hbase ?_
    · unfold maxLen; omega
    · intro v' w' g1 g2 _
      exact h v' w' g1 (hbel.grown g2 hbase (fun k hk => (hown.lt k hk).1)) g2.size g2.block

end Go.Proofs.YtjebhbopmfcopaaGreatDoor

namespace Go.Proofs.YtjebhbopmfcopaaGreatDoor
open Go.RowKit

theorem Tryz.infoOp : (Tryz.prog.info? 70).map (fun i => (i.zero, i.size, i.bytes)) = some (some (.agg #[.int .i64 0, .int .i64 0, .int .i64 0, .int .i64 0, .string ⟨#[]⟩, .string ⟨#[]⟩, .slice none 0 0]), 7, 88) := by kernel_rfl
theorem Tryz.infoConts : (Tryz.prog.info? 29).map (fun i => (i.zero, i.size, i.bytes)) = some (some (.slice none 0 0), 1, 24) := by kernel_rfl

theorem cells_length (l : List OpV) : (l.flatMap OpV.cells).length = l.length * 7 := by
  induction l with
  | nil => rfl
  | cons o l ih => rw [List.flatMap_cons, List.length_append, ih, List.length_cons]; simp [OpV.cells]; omega

theorem cells_at (l : List OpV) (k : Nat) (h : k < l.length) (j : Nat) (hj : j < 7) : (l.flatMap OpV.cells)[k * 7 + j]? = (l[k].cells)[j]? := by
  induction l generalizing k with
  | nil => simp at h
  | cons o l ih =>
    rw [List.flatMap_cons]
    cases k with
    | zero => rw [List.getElem?_append_left (by simp [OpV.cells]; omega)]; simp
    | succ k =>
      rw [List.getElem?_append_right (by simp [OpV.cells]; omega)]
      have e : (k + 1) * 7 + j - o.cells.length = k * 7 + j := by simp [OpV.cells]; omega
      rw [e, ih k (by simpa using h)]
      simp

theorem cells_one (l : List OpV) : ∀ u ∈ l.flatMap OpV.cells, u.oneCell' = true := by
  intro u hu
  obtain ⟨o, ho, hu⟩ := List.mem_flatMap.1 hu
  simp only [OpV.cells, List.mem_cons, List.not_mem_nil, or_false] at hu
  rcases hu with rfl | rfl | rfl | rfl | rfl | rfl | rfl <;> rfl

/-- how it stands when the first step is about to be played: w0, the World at block g; h1: the block of the reference's one contig; h: that of the one record; lv: the references -/
structure PlayStart (w w0 : World) (g h h1 : Nat) (lv : Value) (rs : List Value) : Prop where
  world : w0.heap[g]? = some (.cells #[lv, .slice none 0 0, .slice none 0 0, .slice none 0 0, .slice none 0 0, .slice none 0 0] 68 (0, 0))
  refs : w0.ownsRow w.heap.size 29 1 lv (1 + rs.length) ([.slice (some ⟨h1, 0, none⟩) 1 1] ++ rs)
  contig : w0.heap[h1]? = some (.cells #[.string ⟨#[111, 110, 101]⟩, .string ⟨#[65, 67, 71, 84, 84, 67, 71, 65]⟩] 59 (0, 0))
  record : w0.heap[h]? = some (.cells recordCells 52 (0, 0))
  below : Below w.heap.size w w0
  h_lt : h < g
  h1_lt : h1 < g
  size : w0.heap.size = g + 1
  old : w.heap.size ≤ g

theorem own_pos {w : World} {base e size n : Nat} {v : Value} {xs : List Value} (h : w.ownsRow base e size v n xs) (hn : 0 < n) : ∃ g cap, v = .slice (some ⟨g, 0, none⟩) n cap ∧ base ≤ g ∧ g < w.heap.size := by
  rcases h.2 with ⟨_, rfl⟩ | ⟨g, cap, cur, rfl, hb, hg, _⟩
  · omega
  · exact ⟨g, cap, rfl, hb, (Array.getElem?_eq_some_iff.1 hg).1⟩

/-- the reference of the law's own, just made -/
def contigObj : Obj := .cells #[.string ⟨#[111, 110, 101]⟩, .string ⟨#[65, 67, 71, 84, 84, 67, 71, 65]⟩] 59

theorem lit3 (w w2 : World) (hbel2 : Below w.heap.size w w2) :
    ((w2.alloc (.cells #[.string ⟨#[111, 110, 101]⟩, .string ⟨#[65, 67, 71, 84, 84, 67, 71, 65]⟩] 59)).alloc (.cells #[.slice (some ⟨w2.heap.size, 0, none⟩) 1 1] 29)).ownsRow w.heap.size 29 1 (.slice (some ⟨w2.heap.size + 1, 0, none⟩) 1 1) 1 [.slice (some ⟨w2.heap.size, 0, none⟩) 1 1] ∧
    Below w.heap.size w ((w2.alloc (.cells #[.string ⟨#[111, 110, 101]⟩, .string ⟨#[65, 67, 71, 84, 84, 67, 71, 65]⟩] 59)).alloc (.cells #[.slice (some ⟨w2.heap.size, 0, none⟩) 1 1] 29)) ∧
    ((w2.alloc (.cells #[.string ⟨#[111, 110, 101]⟩, .string ⟨#[65, 67, 71, 84, 84, 67, 71, 65]⟩] 59)).alloc (.cells #[.slice (some ⟨w2.heap.size, 0, none⟩) 1 1] 29)).heap[w2.heap.size]? = some contigObj := by
  have hs := hbel2.size
  generalize hA : (Obj.cells #[.string ⟨#[111, 110, 101]⟩, .string ⟨#[65, 67, 71, 84, 84, 67, 71, 65]⟩] 59) = A
  have hn : (w2.alloc A).heap.size = w2.heap.size + 1 := World.size_alloc ..
  have ho := World.ownsRow_lit (base := w.heap.size) (e := 29) (size := 1) (w2.alloc A) #[.slice (some ⟨w2.heap.size, 0, none⟩) 1 1] 1 (by rw [hn]; omega) (by decide) rfl
  rw [hn] at ho
  refine ⟨ho, (hbel2.alloc hs _).alloc (by rw [hn]; omega) _, ?_⟩
  refine (Below.heap_alloc _ _ _ (by rw [hn]; omega)).trans ?_
  rw [contigObj, hA]
  exact heap_alloc_new w2 _

theorem start_of {w w1 w2 W3 w4 : World} {v a4v : Value} {n2 ga capa : Nat} {rs xs1 xs2 xs4 : List Value} {C : Array Value}
    (hown1 : w1.ownsRow w.heap.size 70 7 v 10 xs1) (hrec : w1.heap[w.heap.size]? = some (.cells recordCells 52 (0, 0))) (hs1 : w1.heap.size = w.heap.size + 2)
    (_hown2 : w2.ownsRow w.heap.size 70 7 (.slice (some ⟨ga, 0, none⟩) n2 capa) n2 xs2) (hga : ga < w2.heap.size) (hs2 : w1.heap.size ≤ w2.heap.size) (hk2 : ∀ k, k < w1.heap.size → some k ≠ v.ownBlock → w2.heap[k]? = w1.heap[k]?)
    (hs3 : W3.heap.size = w2.heap.size + 2) (h3 : ∀ k, k < w2.heap.size → W3.heap[k]? = w2.heap[k]?) (hc3 : W3.heap[w2.heap.size]? = some contigObj)
    (hs4 : W3.heap.size ≤ w4.heap.size) (hk4 : ∀ k, k < W3.heap.size → some k ≠ some (w2.heap.size + 1) → w4.heap[k]? = W3.heap[k]?)
    (hown4 : w4.ownsRow w.heap.size 29 1 a4v (1 + rs.length) xs4) (hx4 : xs4 = [.slice (some ⟨w2.heap.size, 0, none⟩) 1 1] ++ rs) (hbel4 : Below w.heap.size w w4)
    (hC : C = #[a4v, .slice none 0 0, .slice none 0 0, .slice none 0 0, .slice none 0 0, .slice none 0 0]) :
    PlayStart w (w4.alloc (.cells C 68)) w4.heap.size w.heap.size w2.heap.size a4v rs ∧ (w4.alloc (.cells C 68)).heap[ga]? = w2.heap[ga]? ∧ ga < w4.heap.size := by
  subst hC hx4
  have hrow : some w.heap.size ≠ v.ownBlock := by
    rcases hown1.2 with ⟨_, h0⟩ | ⟨g, cap, cur, rfl, _, hg, _⟩
    · omega
    · intro he
      simp [Value.ownBlock] at he
      rw [← he, hrec] at hg
      simp at hg
  refine ⟨⟨heap_alloc_new _ _, hown4.alloc _, ?_, ?_, hbel4.alloc hbel4.size _, by omega, by omega, by rw [World.size_alloc], hbel4.size⟩, ?_, by omega⟩
  · rw [Below.heap_alloc _ _ _ (by omega), hk4 _ (by omega) (by simp)]
    exact hc3
  · rw [Below.heap_alloc _ _ _ (by omega), hk4 _ (by omega) (by simp; omega), h3 _ (by omega), hk2 _ (by omega) hrow]
    exact hrec
  · rw [Below.heap_alloc _ _ _ (by omega), hk4 _ (by omega) (by simp; omega), h3 _ hga]

/-- a step's cells, where the list of all steps lies -/
theorem all_cells {w2 wr : World} {base ga n capa : Nat} {l : List OpV} (hown : w2.ownsRow base 70 7 (.slice (some ⟨ga, 0, none⟩) n capa) n (l.flatMap OpV.cells)) (hn : l.length = n) (h : wr.heap[ga]? = w2.heap[ga]?) (k : Nat) (hk : k < l.length) :
    ∀ j, j < 7 → wr.cell? ⟨ga, k * 7 + j, none⟩ = (l[k].cells)[j]? := by
  intro j hj
  rw [World.cell?_of_block (w := w2) (a := ⟨ga, k * 7 + j, none⟩) h, hown.cellAt _ (by omega), cells_at l k hk j hj]

set_option maxRecDepth 100000 in
set_option maxHeartbeats 4000000 in
theorem plays_any (w : World) (refsV scriptV : Value) (rs : List Value) (ss : List OpV) (pl : List Int) (bp np : Nat)
    (hrefs : Src w refsV rs.length rs) (hrs : ∀ u ∈ rs, u.oneCell' = true) (hrl : (1 + rs.length) * 24 ≤ 140737488355328)
    (hscr : Src w scriptV ss.length (ss.flatMap OpV.cells)) (hsl : (10 + ss.length) * 88 ≤ 140737488355328)
    (hnp : pl.length = np) (hp100 : np ≤ 100) (hpl : ∀ j (h : j < pl.length), w.cell? ⟨bp, j, none⟩ = some (.int .i64 pl[j]))
    (H : ∀ (w0 : World) (g h h1 : Nat) (lv : Value), PlayStart w w0 g h h1 lv rs → ∃ Inv : Nat → World → Prop, Inv 0 w0 ∧ (∀ k w1 w2, Inv k w1 → Below w1.heap.size w1 w2 → Inv k w2 ∧ Inv (k + 1) w2) ∧
      (∀ o, o ∈ firstOps h ++ ss → inL pl o.k = true → ∀ k w1, k < 10 + ss.length → Inv k w1 → Below g w0 w1 → g < w1.heap.size →
        Calls Tryz.prog 23 #[.pointer (some ⟨g, 0, none⟩), .agg #[.int .i64 o.k, .int .i64 o.a, .int .i64 o.b, .int .i64 o.c, .string o.s, .string o.t, .slice o.la o.ln o.lc]] w1 fun e w2 => e = .returned (.bool true) ∧ Inv (k + 1) w2 ∧ Below g w1 w2) ∧
      (∀ k w1, k ≤ 10 + ss.length → Inv k w1 → Below g w0 w1 → g < w1.heap.size → Calls Tryz.prog 24 #[.pointer (some ⟨g, 2, none⟩)] w1 fun e w2 => e = .returned (.bool true) ∧ Inv k w2 ∧ Below g w1 w2)) :
    Calls Tryz.prog 10 #[refsV, scriptV, .slice (some ⟨bp, 0, none⟩) np np] w fun e w' => e = .returned (.bool true) ∧ Below w.heap.size w w' := by
  have HH : Hid _ := H
  have HPL : Hid _ := hpl
  have HNP : Hid _ := hnp
  clear H hpl hnp
  go_enter Tryz.func10, Tryz.ntmps10
  go_wp2_with fail
  refine (first_any _).mono ?_
  rintro e w1 ⟨v, rfl, hown1, hrec1, hbel1, hsize1⟩
  have HR1 : Hid _ := hrec1
  have HS1 : Hid _ := hsize1
  clear hrec1 hsize1
  go_wp2_with (first
    | (at_builtin; refine app_src rfl _ _ 23 rfl w.heap.size 70 _ 7 88 Tryz.underlying23 Tryz.infoOp rfl (by decide) v 10 _ scriptV ss.length (ss.flatMap OpV.cells) rfl rfl (by exact hown1) (hscr.mono hbel1) (cells_length ss) (cells_one ss) hbel1 (by have := hbel1.size; omega) hsl (by decide) ?_; intro v2 w2 hown2 hbel2 hsize2 hkeep2; obtain ⟨ga, capa, hv2, hga1, hga2⟩ := own_pos hown2 (by omega); subst hv2; have HK2 : Hid _ := hkeep2; clear hkeep2; have h3 := lit3 w w2 hbel2; obtain ⟨hown3, hbel3, hcont3⟩ := h3; have HC3 : Hid _ := hcont3; clear hcont3)
    | (at_builtin; refine app_src rfl _ _ 22 rfl w.heap.size 29 _ 1 24 Tryz.underlying22 Tryz.infoConts rfl (by decide) (.slice (some ⟨w2.heap.size + 1, 0, none⟩) 1 1) 1 _ refsV rs.length rs rfl rfl (by exact hown3) (hrefs.mono hbel3) (by omega) hrs hbel3 (by have := hbel3.size; omega) hrl (by decide) ?_; intro v4 w4 hown4 hbel4 hsize4 hkeep4; obtain ⟨a4, cap4, hv4⟩ := own_form hown4; subst hv4; have HK4 : Hid _ := hkeep4; clear hkeep4))
  have hfl : (firstOps w.heap.size).length = 10 := rfl
  rw [← List.flatMap_append] at hown2
  obtain ⟨hst, hga0, hga4⟩ := start_of hown1 HR1.out HS1.out hown2 hga2 hsize2 HK2.out (by simp) (fun k hk => by rw [Below.heap_alloc _ _ _ (by rw [World.size_alloc]; omega), Below.heap_alloc _ _ _ hk]) HC3.out hsize4 HK4.out hown4 rfl hbel4 rfl
  obtain ⟨Inv, hI0, hIst, hIstep, hIlooks⟩ := HH.out _ _ _ _ _ hst
  have hs0 := hst.size
  have hb0 := hst.below
  have HL : Hid ((firstOps w.heap.size ++ ss).length = 10 + ss.length) := by show _ = _; rw [List.length_append, hfl]
  have HCs : Hid _ := fun (wr : World) (h : wr.heap[ga]? = w2.heap[ga]?) k hk => all_cells hown2 HL.out h k hk
  have HG0 : Hid _ := hga0
  have HST : Hid _ := hIst
  have HSP : Hid _ := hIstep
  have HLK : Hid _ := hIlooks
  clear hst hIst hIstep hIlooks hown1 hown2 hown3 hown4 hrefs hscr hga0 hbel1 hbel2 hbel3 hbel4 hsize2 hsize4 HK2 HK4 HC3 HR1 HS1 HH hfl
  generalize hw0 : (w4.alloc (Obj.cells #[Value.slice a4 (1 + rs.length) cap4, .slice none 0 0, .slice none 0 0, .slice none 0 0, .slice none 0 0, .slice none 0 0] 68)) = w0 at *
  clear hw0
  generalize hg0 : w4.heap.size = g at *
  clear hg0
  generalize firstOps w.heap.size ++ ss = ops at *
  generalize 10 + ss.length = N at *
  go_loopw [10] (fun i wr => ∃ k : Nat, k ≤ N ∧ i = .int .i64 k ∧ Inv k wr ∧ Below g w0 wr) (fun i _ => N - (intOf i).toNat)
  case atStart => exact ⟨0, Nat.zero_le _, rfl, hI0, Below.refl _ _⟩
  case round =>
    obtain ⟨k, hk, rfl, hI, hbr⟩ := hrel
    have hsr := hbr.size
    by_cases hlt : k < N
    · have hkl : k < ops.length := by rw [HL.out]; exact hlt
      have hcs := HCs.out wr ((hbr.block _ (by omega)).trans HG0.out) k hkl
      obtain ⟨o, ho⟩ : ∃ o, o = ops[k] := ⟨_, rfl⟩
      rw [← ho] at hcs
      have hmem : o ∈ ops := by rw [ho]; exact List.getElem_mem _
      have c0 : wr.cell? ⟨ga, k * 7, none⟩ = some (.int .i64 o.k) := hcs 0 (by omega)
      have c1 : wr.cell? ⟨ga, k * 7 + 1, none⟩ = some (.int .i64 o.a) := hcs 1 (by omega)
      have c2 : wr.cell? ⟨ga, k * 7 + 2, none⟩ = some (.int .i64 o.b) := hcs 2 (by omega)
      have c3 : wr.cell? ⟨ga, k * 7 + 3, none⟩ = some (.int .i64 o.c) := hcs 3 (by omega)
      have c4 : wr.cell? ⟨ga, k * 7 + 4, none⟩ = some (.string o.s) := hcs 4 (by omega)
      have c5 : wr.cell? ⟨ga, k * 7 + 5, none⟩ = some (.string o.t) := hcs 5 (by omega)
      have c6 : wr.cell? ⟨ga, k * 7 + 6, none⟩ = some (.slice o.la o.ln o.lc) := hcs 6 (by omega)
      clear hcs ho
      have hmx : (k : Int) < 144115188075855872 := by omega
      have hkn : (k : Int) < (N : Int) := by omega
      have hb5 : Below wr.heap.size wr (wr.alloc (Obj.cells #[.int .i64 o.k, .int .i64 o.a, .int .i64 o.b, .int .i64 o.c, .string o.s, .string o.t, .slice o.la o.ln o.lc] 70)) := (Below.refl _ _).alloc (Nat.le_refl _) _
      have HI5 : Hid _ := HST.out _ _ _ hI hb5
      have HB5 : Hid _ := hbr.trans (hb5.mono (by omega))
      have HP5 : Hid _ := fun j (h : j < pl.length) => (hb5.cell (p := ⟨bp, j, none⟩) (by have := World.block_lt_of_cell? w _ (HPL.out j h); have := hb0.size; simp at *; omega)).trans ((hbr.cell (p := ⟨bp, j, none⟩) (by have := World.block_lt_of_cell? w _ (HPL.out j h); simp at *; omega)).trans ((hb0.cell (p := ⟨bp, j, none⟩) (World.block_lt_of_cell? w _ (HPL.out j h))).trans (HPL.out j h)))
      clear hb5 hI
      have HBR : Hid _ := hbr
      clear hbr
      have hgr : g < wr.heap.size + 1 := by omega
      cases hin : inL pl o.k with
      | false =>
        have HIN : Hid _ := hin
        clear hin
        go_wp2_with (go_at_call 22; refine (among_any pl bp np _ _ HNP.out hp100 HP5.out).mono ?_; rintro e w' ⟨rfl, hw⟩; subst w'; rw [HIN.out])
        go_roundw
        case rel => exact ⟨k + 1, by omega, by go_num, HI5.out.2, HB5.out⟩
        case measure => simp [intOf]; omega
      | true =>
        have HIN : Hid _ := hin
        clear hin
        go_wp2_with fail
        refine (among_any pl bp np _ _ HNP.out hp100 HP5.out).mono ?_
        rintro e w' ⟨rfl, hw⟩
        subst w'
        rw [HIN.out]
        go_wp2_with fail
        refine (HSP.out o hmem HIN.out k _ hlt HI5.out.1 HB5.out (by simp; omega)).mono ?_
        rintro e w6 ⟨rfl, hI6, hb6⟩
        have hs6 := hb6.size
        rw [World.size_alloc] at hs6
        have hb06 := HB5.out.trans hb6
        go_wp2_with fail
        refine (HLK.out (k + 1) _ hlt hI6 hb06 (by omega)).mono ?_
        rintro e w7 ⟨rfl, hI7, hb7⟩
        go_wp2
        go_roundw
        case rel => exact ⟨k + 1, by omega, by go_num, hI7, hb06.trans hb7⟩
        case measure => simp [intOf]; omega
    · have hnk : ¬ (k : Int) < (N : Int) := by omega
      go_wp2
      go_ret
      exact ⟨rfl, hb0.trans (hbr.mono (by have := hb0.size; omega))⟩

end Go.Proofs.YtjebhbopmfcopaaGreatDoor
