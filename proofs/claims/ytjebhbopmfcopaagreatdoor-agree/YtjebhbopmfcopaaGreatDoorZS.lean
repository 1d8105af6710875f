/- Agree, a part. -/
import Derived.Test.YtjebhbopmfcopaaGreatDoorProg
import Derived.Test.YtjebhbopmfcopaaGreatDoorZL
set_option maxRecDepth 100000
namespace Go.Proofs.YtjebhbopmfcopaaGreatDoor
open Go.Proofs Tryz
noncomputable section
variable{v:HH}
namespace Kd
open Conc Kw Kl
structure Kd where
 b:Nat
 c:Frame
 cs:Fi
abbrev Kd.m(q:Kd):HH:=.pointer (some ⟨q.b,0,none⟩)
noncomputable def Yq(q:Kd):Gq:=R (Frame.enter prog 70 #[q.m] .deferred) ({q.c with mode:=.returning}::q.cs)
noncomputable def ta(d n:Nat)(g:Gq):Gq:=aL prog 68 d n g
def Wv(q:Kd):Gq:=ta 12 30 (Yq q)
theorem acv(q:Kd):semAt (Wv q)=some (do pure (.value (<-convert 187 189 q.m))):=HW
def Wr(q:Kd):Gq:=ta 13 10 (fin (Wv q) q.m)
theorem FF(q:Kd):semAt (Wr q)=some (callFunc 121 #[q.m]):=HW
theorem Xp(q:Kd):aa prog (fin (Wv q) q.m) (Wr q):=ap prog 68 13 10 _
def Wx(q:Kd):Gq:=ta 14 10 (fin (Wr q) (.tuple #[]))
theorem JG(q:Kd):semAt (Wx q)=some (callFunc 122 #[]):=HW
theorem Qm(q:Kd):aa prog (fin (Wr q) (.tuple #[])) (Wx q):=ap prog 68 14 10 _
noncomputable def D1(q:Kd):Gq:=aL prog 128 9 90 (fin (Wx q) (.tuple #[]))
theorem J7(q:Kd):semAt (D1 q)=some (callFunc 170 #[q.m,.int .u64 18446744069414584320]):=HW
theorem QP(q:Kd):aa prog (fin (Wx q) (.tuple #[])) (D1 q):=ap prog 128 9 90 _
def pj(q:Kd)(x:Int):Gq:=ta 45 30 (fin (D1 q) (.int .u64 x))
theorem Wo(q:Kd)(x:Int):semAt (pj q x)=some (do pure (.value (<-Go.binOp .and 141 (.int .u64 x) (.int .u64 2147483648)))):=HW
theorem WE(q:Kd)(x:Int)(a:calm? (α:=Next) prog (do pure (.value (<-Go.binOp .and 141 (.int .u64 x) (.int .u64 2147483648))))=some (.value v)):aa prog (fin (D1 q) (.int .u64 x)) (fin (pj q x) v):=ah (fn:=68) (d:=45) (n:=30) (Wo q x) a
def oD(q:Kd)(x z:Int):Gq:=ta 46 10 (fin (pj q x) (.int .u64 z))
theorem P1(q:Kd)(x z:Int):semAt (oD q x z)=some (do pure (.value (<-Go.binOp .neq 141 (.int .u64 z) (.int .u64 0)))):=HW
theorem ae1(q:Kd)(x z:Int)(a:calm? (α:=Next) prog (do pure (.value (<-Go.binOp .neq 141 (.int .u64 z) (.int .u64 0))))=some (.value v)):aa prog (fin (pj q x) (.int .u64 z)) (fin (oD q x z) v):=ah (fn:=68) (d:=46) (n:=10) (P1 q x z) a
def oW(q:Kd)(x z:Int):Gq:=ta 53 30 (fin (oD q x z) (.bool false))
theorem NC(q:Kd)(x z:Int):semAt (oW q x z)=some (do pure (.value (<-Go.binOp .shr 141 (.int .u64 x) (.int .i64 32)))):=HW
theorem ahr(q:Kd)(x z:Int)(a:calm? (α:=Next) prog (do pure (.value (<-Go.binOp .shr 141 (.int .u64 x) (.int .i64 32))))=some (.value v)):aa prog (fin (oD q x z) (.bool false)) (fin (oW q x z) v):=ah (fn:=68) (d:=53) (n:=30) (NC q x z) a
def oU(q:Kd)(x z y:Int):Gq:=ta 54 10 (fin (oW q x z) (.int .u64 y))
theorem Oo(q:Kd)(x z y:Int):semAt (oU q x z y)=some (do pure (.value (<-convert 141 21 (.int .u64 y)))):=HW
theorem ahQ(q:Kd)(x z y:Int)(a:calm? (α:=Next) prog (do pure (.value (<-convert 141 21 (.int .u64 y))))=some (.value v)):aa prog (fin (oW q x z) (.int .u64 y)) (fin (oU q x z y) v):=ah (fn:=68) (d:=54) (n:=10) (Oo q x z y) a
def pR(q:Kd)(x z y k:Int):Gq:=ta 56 20 (fin (oU q x z y) (.int .i32 k))
theorem Nw(q:Kd)(x z y k:Int):semAt (pR q x z y k)=some (do pure (.value (<-Go.binOp .and 141 (.int .u64 x) (.int .u64 2147483647)))):=HW
theorem ai5(q:Kd)(x z y k:Int)(a:calm? (α:=Next) prog (do pure (.value (<-Go.binOp .and 141 (.int .u64 x) (.int .u64 2147483647))))=some (.value v)):aa prog (fin (oU q x z y) (.int .i32 k)) (fin (pR q x z y k) v):=ah (fn:=68) (d:=56) (n:=20) (Nw q x z y k) a
def oq(q:Kd)(x z y k u:Int):Gq:=ta 57 10 (fin (pR q x z y k) (.int .u64 u))
theorem PQ(q:Kd)(x z y k u:Int):semAt (oq q x z y k u)=some (do pure (.value (<-convert 141 132 (.int .u64 u)))):=HW
theorem aki(q:Kd)(x z y k u:Int)(a:calm? (α:=Next) prog (do pure (.value (<-convert 141 132 (.int .u64 u))))=some (.value v)):aa prog (fin (pR q x z y k) (.int .u64 u)) (fin (oq q x z y k u) v):=ah (fn:=68) (d:=57) (n:=10) (PQ q x z y k u) a
def mX(q:Kd)(x z y k u t:Int):Gq:=ta 74 60 (fin (oq q x z y k u) (.int .u32 t))
theorem aj9(q:Kd)(x z y k u t:Int):semAt (mX q x z y k u t)=some (do pure (.value (<-Go.binOp .lss 21 (.int .i32 k) (.int .i32 0)))):=HW
theorem Ts(q:Kd)(x z y k u t:Int)(a:calm? (α:=Next) prog (do pure (.value (<-Go.binOp .lss 21 (.int .i32 k) (.int .i32 0))))=some (.value v)):aa prog (fin (oq q x z y k u) (.int .u32 t)) (fin (mX q x z y k u t) v):=ah (fn:=68) (d:=74) (n:=60) (aj9 q x z y k u t) a
end Kd
