/- Runs, a part. -/
import Derived.Test.YtjebhbopmfcopaaGreatDoorZa
set_option maxRecDepth 100000
namespace Go.Proofs.YtjebhbopmfcopaaGreatDoor
open Go.Proofs Tryz
noncomputable section
variable{v:Fi}
namespace Kl
open Conc Kw
set_option maxRecDepth 100000
theorem Y8(q:Lk)(x:Int):tl 14 60 (fin (R0 q) (.int .i32 x))=A {q with ws:=0,sv:=false,aw:=false,it:=0,old:=x,v7:=ak (tl 14 60 (fin (R0 q) (.int .i32 x))) 7,v9:=ak (tl 14 60 (fin (R0 q) (.int .i32 x))) 9,J:=ak (tl 14 60 (fin (R0 q) (.int .i32 x)))}:=by kernel_rfl
theorem UB(q:Lk)(x:Int):aa prog (fin (R0 q) (.int .i32 x)) (A {q with ws:=0,sv:=false,aw:=false,it:=0,old:=x,v7:=ak (tl 14 60 (fin (R0 q) (.int .i32 x))) 7,v9:=ak (tl 14 60 (fin (R0 q) (.int .i32 x))) 9,J:=ak (tl 14 60 (fin (R0 q) (.int .i32 x)))}):=Y8 q x▸ay prog 224 14 60 _
def iw(q:Lk):Dm:=tl 15 10 (A q)
theorem xA(q:Lk):semAt (iw q)=some (do pure (.value (<-Go.binOp .and 21 (.int .i32 q.old) (.int .i32 5)))):=by kernel_rfl
theorem af4(q:Lk)(a:calm? (α:=Next) prog (do pure (.value (<-Go.binOp .and 21 (.int .i32 q.old) (.int .i32 5))))=some (.value v)):aa prog (A q) (fin (iw q) v):=ah (fn:=224) (d:=15) (n:=10) (xA q) a
def fL(q:Lk)(z:Int):Dm:=tl 16 10 (fin (iw q) (.int .i32 z))
theorem xV(q:Lk)(z:Int):semAt (fL q z)=some (do pure (.value (<-Go.binOp .eql 21 (.int .i32 z) (.int .i32 1)))):=by kernel_rfl
theorem Cq(q:Lk)(z:Int)(a:calm? (α:=Next) prog (do pure (.value (<-Go.binOp .eql 21 (.int .i32 z) (.int .i32 1))))=some (.value v)):aa prog (fin (iw q) (.int .i32 z)) (fin (fL q z) v):=ah (fn:=224) (d:=16) (n:=10) (xV q z) a
def Sq(q:Lk)(z:Int):Dm:=tl 19 10 (fin (fL q z) (.bool true))
theorem yH(q:Lk)(z:Int):semAt (Sq q z)=some (callFunc 235 #[.int .i64 q.it]):=by kernel_rfl
theorem NM(q:Lk)(z:Int):aa prog (fin (fL q z) (.bool true)) (Sq q z):=ay prog 224 19 10 _
theorem UK(q:Lk)(z:Int):tl 49 40 (fin (fL q z) (.bool false))=B {q with J:=ak (tl 49 40 (fin (fL q z) (.bool false)))}:=by kernel_rfl
theorem acg(q:Lk)(z:Int):aa prog (fin (fL q z) (.bool false)) (B {q with J:=ak (tl 49 40 (fin (fL q z) (.bool false)))}):=UK q z▸ay prog 224 49 40 _
theorem acL(q:Lk)(z:Int):tl 49 40 (fin (Sq q z) (.bool false))=B {q with J:=ak (tl 49 40 (fin (Sq q z) (.bool false)))}:=by kernel_rfl
theorem Xw(q:Lk)(z:Int):aa prog (fin (Sq q z) (.bool false)) (B {q with J:=ak (tl 49 40 (fin (Sq q z) (.bool false)))}):=acL q z▸ay prog 224 49 40 _
theorem agj(q:Lk)(z:Int):tl 43 60 (fin (Sq {q with aw:=true} z) (.bool true))=gJ {q with aw:=true,J:=ak (tl 43 60 (fin (Sq {q with aw:=true} z) (.bool true)))}:=by kernel_rfl
theorem KD(q:Lk)(z:Int):aa prog (fin (Sq {q with aw:=true} z) (.bool true)) (gJ {q with aw:=true,J:=ak (tl 43 60 (fin (Sq {q with aw:=true} z) (.bool true)))}):=agj q z▸ay prog 224 43 60 _
def sK(q:Lk)(z:Int):Dm:=tl 25 20 (fin (Sq {q with aw:=false} z) (.bool true))
theorem aan(q:Lk)(z:Int):semAt (sK q z)=some (do pure (.value (<-Go.binOp .and 21 (.int .i32 q.old) (.int .i32 2)))):=by kernel_rfl
theorem abv(q:Lk)(z:Int)(a:calm? (α:=Next) prog (do pure (.value (<-Go.binOp .and 21 (.int .i32 q.old) (.int .i32 2))))=some (.value v)):aa prog (fin (Sq {q with aw:=false} z) (.bool true)) (fin (sK q z) v):=ah (fn:=224) (d:=25) (n:=20) (aan q z) a
def kq(q:Lk)(z a:Int):Dm:=tl 26 10 (fin (sK q z) (.int .i32 a))
theorem Z8(q:Lk)(z a:Int):semAt (kq q z a)=some (do pure (.value (<-Go.binOp .eql 21 (.int .i32 a) (.int .i32 0)))):=by kernel_rfl
theorem Hb(q:Lk)(z a:Int)(b:calm? (α:=Next) prog (do pure (.value (<-Go.binOp .eql 21 (.int .i32 a) (.int .i32 0))))=some (.value v)):aa prog (fin (sK q z) (.int .i32 a)) (fin (kq q z a) v):=ah (fn:=224) (d:=26) (n:=10) (Z8 q z a) b
theorem Rg(q:Lk)(z a:Int):tl 43 60 (fin (kq q z a) (.bool false))=gJ {q with aw:=false,J:=ak (tl 43 60 (fin (kq q z a) (.bool false)))}:=by kernel_rfl
theorem afO(q:Lk)(z a:Int):aa prog (fin (kq q z a) (.bool false)) (gJ {q with aw:=false,J:=ak (tl 43 60 (fin (kq q z a) (.bool false)))}):=Rg q z a▸ay prog 224 43 60 _
def rQ(q:Lk)(z a:Int):Dm:=tl 30 20 (fin (kq q z a) (.bool true))
theorem ae7(q:Lk)(z a:Int):semAt (rQ q z a)=some (do pure (.value (<-Go.binOp .shr 21 (.int .i32 q.old) (.int .i64 3)))):=by kernel_rfl
theorem TK(q:Lk)(z a:Int)(b:calm? (α:=Next) prog (do pure (.value (<-Go.binOp .shr 21 (.int .i32 q.old) (.int .i64 3))))=some (.value v)):aa prog (fin (kq q z a) (.bool true)) (fin (rQ q z a) v):=ah (fn:=224) (d:=30) (n:=20) (ae7 q z a) b
def lb(q:Lk)(z b a:Int):Dm:=tl 31 10 (fin (rQ q z b) (.int .i32 a))
theorem abD(q:Lk)(z b a:Int):semAt (lb q z b a)=some (do pure (.value (<-Go.binOp .neq 21 (.int .i32 a) (.int .i32 0)))):=by kernel_rfl
theorem IU(q:Lk)(z b a:Int)(c:calm? (α:=Next) prog (do pure (.value (<-Go.binOp .neq 21 (.int .i32 a) (.int .i32 0))))=some (.value v)):aa prog (fin (rQ q z b) (.int .i32 a)) (fin (lb q z b a) v):=ah (fn:=224) (d:=31) (n:=10) (abD q z b a) c
theorem aew(q:Lk)(z b a:Int):tl 43 60 (fin (lb q z b a) (.bool false))=gJ {q with aw:=false,J:=ak (tl 43 60 (fin (lb q z b a) (.bool false)))}:=by kernel_rfl
theorem aci(q:Lk)(z b a:Int):aa prog (fin (lb q z b a) (.bool false)) (gJ {q with aw:=false,J:=ak (tl 43 60 (fin (lb q z b a) (.bool false)))}):=aew q z b a▸ay prog 224 43 60 _
def rN(q:Lk)(z b a:Int):Dm:=tl 39 20 (fin (lb q z b a) (.bool true))
theorem ahz(q:Lk)(z b a:Int):semAt (rN q z b a)=some (do pure (.value (<-Go.binOp .or 21 (.int .i32 q.old) (.int .i32 2)))):=by kernel_rfl
theorem Zg(q:Lk)(z b a:Int)(c:calm? (α:=Next) prog (do pure (.value (<-Go.binOp .or 21 (.int .i32 q.old) (.int .i32 2))))=some (.value v)):aa prog (fin (lb q z b a) (.bool true)) (fin (rN q z b a) v):=ah (fn:=224) (d:=39) (n:=20) (ahz q z b a) c
def C1(q:Lk)(z b c a:Int):Dm:=tl 40 10 (fin (rN q z b c) (.int .i32 a))
theorem DZ(q:Lk)(z b c a:Int):semAt (C1 q z b c a)=some (callFunc 223 #[q.m,.int .i32 q.old,.int .i32 a]):=by kernel_rfl
theorem Nk(q:Lk)(z b c a:Int):aa prog (fin (rN q z b c) (.int .i32 a)) (C1 q z b c a):=ay prog 224 40 10 _
theorem Wp(q:Lk)(z b c a:Int):tl 43 60 (fin (C1 q z b c a) (.bool true))=gJ {q with aw:=true,J:=ak (tl 43 60 (fin (C1 q z b c a) (.bool true)))}:=by kernel_rfl
theorem Qz(q:Lk)(z b c a:Int):aa prog (fin (C1 q z b c a) (.bool true)) (gJ {q with aw:=true,J:=ak (tl 43 60 (fin (C1 q z b c a) (.bool true)))}):=Wp q z b c a▸ay prog 224 43 60 _
theorem TA(q:Lk)(z b c a:Int):tl 43 60 (fin (C1 q z b c a) (.bool false))=gJ {q with aw:=false,J:=ak (tl 43 60 (fin (C1 q z b c a) (.bool false)))}:=by kernel_rfl
theorem UO(q:Lk)(z b c a:Int):aa prog (fin (C1 q z b c a) (.bool false)) (gJ {q with aw:=false,J:=ak (tl 43 60 (fin (C1 q z b c a) (.bool false)))}):=TA q z b c a▸ay prog 224 43 60 _
def sX(q:Lk):Dm:=tl 44 5 (gJ q)
theorem QF(q:Lk):semAt (sX q)=some (do pure (.value (<-Go.binOp .add 3 (.int .i64 q.it) (.int .i64 1)))):=by kernel_rfl
theorem Qo(q:Lk)(a:calm? (α:=Next) prog (do pure (.value (<-Go.binOp .add 3 (.int .i64 q.it) (.int .i64 1))))=some (.value v)):aa prog (gJ q) (fin (sX q) v):=ah (fn:=224) (d:=44) (n:=5) (QF q) a
def R1(q:Lk)(t:Int):Dm:=tl 48 30 (fin (sX q) (.int .i64 t))
theorem uS(q:Lk)(t:Int):semAt (R1 q t)=some (do pure (.value (<-Instr.loadAt 21 q.m))):=by kernel_rfl
theorem XM(q:Lk)(t:Int):aa prog (fin (sX q) (.int .i64 t)) (R1 q t):=ay prog 224 48 30 _
theorem RL(q:Lk)(t x:Int):tl 14 40 (fin (R1 q t) (.int .i32 x))=A {q with it:=t,old:=x,J:=ak (tl 14 40 (fin (R1 q t) (.int .i32 x)))}:=by kernel_rfl
theorem adp(q:Lk)(t x:Int):aa prog (fin (R1 q t) (.int .i32 x)) (A {q with it:=t,old:=x,J:=ak (tl 14 40 (fin (R1 q t) (.int .i32 x)))}):=RL q t x▸ay prog 224 14 40 _
end Kl
end
end Go.Proofs.YtjebhbopmfcopaaGreatDoor
