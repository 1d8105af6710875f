/-
  THE WALK of the law Turns. Own text of the verifier.
-/
import Derived.Test.YtjebhbopmfcopaaKeepLetters
import Derived.Test.YtjebhbopmfcopaaStrand
import Derived.Test.YtjebhbopmfcopaaConvert
namespace Go.Proofs.Ytjebhbopmfcopaa
open Go.RowKit

theorem reverse_list (t : List UInt8) (w : World) (ht : t.length ≤ 140737488355328) (hL : Lt.allL t = true) :
    Calls Try.prog 9 #[.string ⟨t.toArray⟩] w fun e w' => e = .returned (.tuple #[.string ⟨(Lt.rev t).toArray⟩, .int .i64 0]) ∧ Below w.heap.size w w' :=
  reverse_good ⟨t.toArray⟩ w (by simpa [ByteArray.size] using ht) hL

theorem convert_list (t : List UInt8) (n : Int) (f g : UInt8) (w : World) (ht : t.length ≤ 140737488355328) (hL : Lt.allL t = true) (hf : Lt.frm n = f) (hg : Lt.tow n = g) (h0 : f ≠ 0) :
    Calls Try.prog 10 #[.string ⟨t.toArray⟩, .int .i64 n] w fun e w' => e = .returned (.tuple #[.string ⟨(Lt.conv f g t).toArray⟩, .int .i64 0]) ∧ Below w.heap.size w w' :=
  convert_good ⟨t.toArray⟩ n f g w (by simp [ByteArray.size, maxLen]; omega) hL hf hg h0

set_option maxRecDepth 100000 in
set_option maxHeartbeats 1600000 in
theorem turns_any (s : ByteArray) (w : World) (hs : s.size ≤ maxLen) :
    Calls Try.prog 3 #[.string s] w fun e w' => e = .returned (.bool true) ∧ Below w.heap.size w w' := by
  go_enter Try.func3, Try.ntmps3
  go_wp2_with fail
  refine (letters_any _ _ _ hs (by omega) (by omega)).mono ?_
  rintro e w1 ⟨t, rfl, hL, h1, hm, hb1⟩
  have HL : Hid (Lt.allL t = true) := hL
  have ht : t.length ≤ 1000 := by omega
  clear hL h1 hm
  go_wp2_with fail
  refine (reverse_list _ _ (by omega) HL.out).mono ?_
  rintro e w2 ⟨rfl, hb2⟩
  go_wp2_with fail
  refine (reverse_list _ _ (by rw [Lt.rev_length]; omega) (Lt.rev_allL HL.out)).mono ?_
  rintro e w3 ⟨rfl, hb3⟩
  rw [Lt.rev_rev]
  have hl : (Lt.rev t).length = t.length := Lt.rev_length t
  go_wp2_with fail
  clear hl
  refine (convert_list _ _ 67 84 _ (by omega) HL.out rfl rfl (by decide)).mono ?_
  rintro e w4 ⟨rfl, hb4⟩
  go_wp2_with fail
  refine (convert_list _ _ 67 84 _ (by rw [Lt.conv_length]; omega) (Lt.conv_allL rfl HL.out) rfl rfl (by decide)).mono ?_
  rintro e w5 ⟨rfl, hb5⟩
  rw [Lt.conv_conv (by decide)]
  go_wp2_with fail
  refine (convert_list _ _ 71 65 _ (by rw [Lt.rev_length]; omega) (Lt.rev_allL HL.out) rfl rfl (by decide)).mono ?_
  rintro e w6 ⟨rfl, hb6⟩
  go_wp2_with fail
  refine (reverse_list _ _ (by rw [Lt.conv_length, Lt.rev_length]; omega) (Lt.conv_allL rfl (Lt.rev_allL HL.out))).mono ?_
  rintro e w7 ⟨rfl, hb7⟩
  rw [Lt.rev_conv_rev HL.out]
  go_wp2_with fail
  refine (convert_good _ _ 67 84 _ (by decide) rfl rfl rfl (by decide)).mono ?_
  rintro e w8 ⟨rfl, hb8⟩
  rw [show (Lt.conv 67 84 (ByteArray.mk #[65, 67, 71, 84, 78]).data.toList).toArray = #[65, 84, 71, 84, 78] from rfl]
  go_wp2
  go_ret
  have s1 := hb1.size
  have s2 := hb2.size
  have s3 := hb3.size
  have s4 := hb4.size
  have s5 := hb5.size
  have s6 := hb6.size
  have s7 := hb7.size
  exact ⟨rfl, ((((((hb1.trans (hb2.mono (by omega))).trans (hb3.mono (by omega))).trans (hb4.mono (by omega))).trans (hb5.mono (by omega))).trans (hb6.mono (by omega))).trans (hb7.mono (by omega))).trans (hb8.mono (by omega))⟩

end Go.Proofs.Ytjebhbopmfcopaa
