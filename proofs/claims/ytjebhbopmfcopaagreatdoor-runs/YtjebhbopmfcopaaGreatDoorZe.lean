/- Runs, a part. -/
import Derived.Test.YtjebhbopmfcopaaGreatDoorZa
set_option maxRecDepth 100000
namespace Go.Proofs.YtjebhbopmfcopaaGreatDoor
open Go.Proofs Tryz
noncomputable section
variable{v:Fi}
namespace Kd
open Conc Kw Kl
set_option maxRecDepth 100000
structure Kd where
 b:Nat
 c:Frame
 cs:B8
abbrev Kd.m(q:Kd):Fi:=.pointer (some ⟨q.b,0,none⟩)
noncomputable def ad8(q:Kd):Dm:=R (Frame.enter prog 70 #[q.m] .deferred) ({q.c with mode:=.returning}::q.cs)
noncomputable def ta(d n:Nat)(g:Dm):Dm:=aK prog 68 d n g
def Wv(q:Kd):Dm:=ta 12 30 (ad8 q)
theorem LV(q:Kd):semAt (Wv q)=some (do pure (.value (<-convert 187 189 q.m))):=by kernel_rfl
def Wr(q:Kd):Dm:=ta 13 10 (fin (Wv q) q.m)
theorem Fc(q:Kd):semAt (Wr q)=some (callFunc 121 #[q.m]):=by kernel_rfl
theorem VP(q:Kd):aa prog (fin (Wv q) q.m) (Wr q):=ay prog 68 13 10 _
def Wx(q:Kd):Dm:=ta 14 10 (fin (Wr q) (.tuple #[]))
theorem GZ(q:Kd):semAt (Wx q)=some (callFunc 122 #[]):=by kernel_rfl
theorem agX(q:Kd):aa prog (fin (Wr q) (.tuple #[])) (Wx q):=ay prog 68 14 10 _
noncomputable def D1(q:Kd):Dm:=aK prog 128 9 90 (fin (Wx q) (.tuple #[]))
theorem GW(q:Kd):semAt (D1 q)=some (callFunc 170 #[q.m,.int .u64 18446744069414584320]):=by kernel_rfl
theorem ab9(q:Kd):aa prog (fin (Wx q) (.tuple #[])) (D1 q):=ay prog 128 9 90 _
def pF(q:Kd)(x:Int):Dm:=ta 45 30 (fin (D1 q) (.int .u64 x))
theorem Rv(q:Kd)(x:Int):semAt (pF q x)=some (do pure (.value (<-Go.binOp .and 141 (.int .u64 x) (.int .u64 2147483648)))):=by kernel_rfl
theorem acX(q:Kd)(x:Int)(a:calm? (α:=Next) prog (do pure (.value (<-Go.binOp .and 141 (.int .u64 x) (.int .u64 2147483648))))=some (.value v)):aa prog (fin (D1 q) (.int .u64 x)) (fin (pF q x) v):=ah (fn:=68) (d:=45) (n:=30) (Rv q x) a
def oz(q:Kd)(x z:Int):Dm:=ta 46 10 (fin (pF q x) (.int .u64 z))
theorem aaM(q:Kd)(x z:Int):semAt (oz q x z)=some (do pure (.value (<-Go.binOp .neq 141 (.int .u64 z) (.int .u64 0)))):=by kernel_rfl
theorem Uj(q:Kd)(x z:Int)(a:calm? (α:=Next) prog (do pure (.value (<-Go.binOp .neq 141 (.int .u64 z) (.int .u64 0))))=some (.value v)):aa prog (fin (pF q x) (.int .u64 z)) (fin (oz q x z) v):=ah (fn:=68) (d:=46) (n:=10) (aaM q x z) a
def oS(q:Kd)(x z:Int):Dm:=ta 53 30 (fin (oz q x z) (.bool false))
theorem Wq(q:Kd)(x z:Int):semAt (oS q x z)=some (do pure (.value (<-Go.binOp .shr 141 (.int .u64 x) (.int .i64 32)))):=by kernel_rfl
theorem aal(q:Kd)(x z:Int)(a:calm? (α:=Next) prog (do pure (.value (<-Go.binOp .shr 141 (.int .u64 x) (.int .i64 32))))=some (.value v)):aa prog (fin (oz q x z) (.bool false)) (fin (oS q x z) v):=ah (fn:=68) (d:=53) (n:=30) (Wq q x z) a
def oL(q:Kd)(x z y:Int):Dm:=ta 54 10 (fin (oS q x z) (.int .u64 y))
theorem WB(q:Kd)(x z y:Int):semAt (oL q x z y)=some (do pure (.value (<-convert 141 21 (.int .u64 y)))):=by kernel_rfl
theorem aaj(q:Kd)(x z y:Int)(a:calm? (α:=Next) prog (do pure (.value (<-convert 141 21 (.int .u64 y))))=some (.value v)):aa prog (fin (oS q x z) (.int .u64 y)) (fin (oL q x z y) v):=ah (fn:=68) (d:=54) (n:=10) (WB q x z y) a
def pZ(q:Kd)(x z y k:Int):Dm:=ta 56 20 (fin (oL q x z y) (.int .i32 k))
theorem ahx(q:Kd)(x z y k:Int):semAt (pZ q x z y k)=some (do pure (.value (<-Go.binOp .and 141 (.int .u64 x) (.int .u64 2147483647)))):=by kernel_rfl
theorem abZ(q:Kd)(x z y k:Int)(a:calm? (α:=Next) prog (do pure (.value (<-Go.binOp .and 141 (.int .u64 x) (.int .u64 2147483647))))=some (.value v)):aa prog (fin (oL q x z y) (.int .i32 k)) (fin (pZ q x z y k) v):=ah (fn:=68) (d:=56) (n:=20) (ahx q x z y k) a
def pX(q:Kd)(x z y k u:Int):Dm:=ta 57 10 (fin (pZ q x z y k) (.int .u64 u))
theorem RF(q:Kd)(x z y k u:Int):semAt (pX q x z y k u)=some (do pure (.value (<-convert 141 132 (.int .u64 u)))):=by kernel_rfl
theorem MY(q:Kd)(x z y k u:Int)(a:calm? (α:=Next) prog (do pure (.value (<-convert 141 132 (.int .u64 u))))=some (.value v)):aa prog (fin (pZ q x z y k) (.int .u64 u)) (fin (pX q x z y k u) v):=ah (fn:=68) (d:=57) (n:=10) (RF q x z y k u) a
def nZ(q:Kd)(x z y k u t:Int):Dm:=ta 74 60 (fin (pX q x z y k u) (.int .u32 t))
theorem Z3(q:Kd)(x z y k u t:Int):semAt (nZ q x z y k u t)=some (do pure (.value (<-Go.binOp .lss 21 (.int .i32 k) (.int .i32 0)))):=by kernel_rfl
theorem Zw(q:Kd)(x z y k u t:Int)(a:calm? (α:=Next) prog (do pure (.value (<-Go.binOp .lss 21 (.int .i32 k) (.int .i32 0))))=some (.value v)):aa prog (fin (pX q x z y k u) (.int .u32 t)) (fin (nZ q x z y k u t) v):=ah (fn:=68) (d:=74) (n:=60) (Z3 q x z y k u t) a
end Kd
end
end Go.Proofs.YtjebhbopmfcopaaGreatDoor
