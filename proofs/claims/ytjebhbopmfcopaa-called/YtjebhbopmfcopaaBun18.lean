/-
  THE WALK of the law Called. Own text of the verifier.
-/
import Derived.Test.YtjebhbopmfcopaaXCalledF
import Derived.Test.YtjebhbopmfcopaaXCalledT
import Derived.Test.YtjebhbopmfcopaaBun17
import Derived.Test.YtjebhbopmfcopaaXKpApart
namespace Go.Proofs.Ytjebhbopmfcopaa
open Go.RowKit

theorem called_any (w : World) (tv xv : Value) (ts : List ByteArray) (s : ByteArray) (rs : List Int) (x0 x1 x2 x3 b : Int) (r : ByteArray) (whole : Bool) (hT : Kp.Txs w tv ts) (hs : s.size ≤ maxLen) (hXI : Kp.Ints w xv rs) (h0 : Kp.i64 x0) (h1 : Kp.i64 x1) (h2 : Kp.i64 x2) (h3 : Kp.i64 x3) (h4 : Kp.i64 b) (hr : r.size ≤ 140737488355327) :
    Calls Try.prog 7 #[tv, .string s, .agg #[.int .i64 x0, .int .i64 x1, .int .i64 x2, .int .i64 x3, .string r, xv], .bool whole, .int .i64 b] w fun e w' => e = .returned (.bool true) ∧ Below w.heap.size w w' := by
  cases whole
  · exact called_false w tv xv ts s rs x0 x1 x2 x3 b r hT hs hXI h0 h1 h2 h3 h4 hr
  · exact called_true w tv xv ts s rs x0 x1 x2 x3 b r hT hs hXI h0 h1 h2 h3 h4 hr

end Go.Proofs.Ytjebhbopmfcopaa
