/- Agree, a part. -/
import Derived.Test.YtjebhbopmfcopaaGreatDoorZM
set_option maxRecDepth 100000
namespace Go.Proofs.YtjebhbopmfcopaaGreatDoor
open Go.Proofs Tryz
noncomputable section
variable{v:HH}
namespace Kl
open Conc Kw
theorem Zl(q:Lk)(x:Int):tl 14 60 (fin (R0 q) (.int .i32 x))=A {q with ws:=0,sv:=false,aw:=false,it:=0,old:=x,v7:=au (tl 14 60 (fin (R0 q) (.int .i32 x))) 7,v9:=au (tl 14 60 (fin (R0 q) (.int .i32 x))) 9,J:=au (tl 14 60 (fin (R0 q) (.int .i32 x)))}:=HW
theorem Mw(q:Lk)(x:Int):aa prog (fin (R0 q) (.int .i32 x)) (A {q with ws:=0,sv:=false,aw:=false,it:=0,old:=x,v7:=au (tl 14 60 (fin (R0 q) (.int .i32 x))) 7,v9:=au (tl 14 60 (fin (R0 q) (.int .i32 x))) 9,J:=au (tl 14 60 (fin (R0 q) (.int .i32 x)))}):=Zl q x▸ap prog 224 14 60 _
def qF(q:Lk):Gq:=tl 15 10 (A q)
theorem ajQ(q:Lk):semAt (qF q)=some (do pure (.value (<-Go.binOp .and 21 (.int .i32 q.old) (.int .i32 5)))):=HW
theorem ai6(q:Lk)(a:calm? (α:=Next) prog (do pure (.value (<-Go.binOp .and 21 (.int .i32 q.old) (.int .i32 5))))=some (.value v)):aa prog (A q) (fin (qF q) v):=ah (fn:=224) (d:=15) (n:=10) (ajQ q) a
def kY(q:Lk)(z:Int):Gq:=tl 16 10 (fin (qF q) (.int .i32 z))
theorem ac1(q:Lk)(z:Int):semAt (kY q z)=some (do pure (.value (<-Go.binOp .eql 21 (.int .i32 z) (.int .i32 1)))):=HW
theorem Dw(q:Lk)(z:Int)(a:calm? (α:=Next) prog (do pure (.value (<-Go.binOp .eql 21 (.int .i32 z) (.int .i32 1))))=some (.value v)):aa prog (fin (qF q) (.int .i32 z)) (fin (kY q z) v):=ah (fn:=224) (d:=16) (n:=10) (ac1 q z) a
def Sq(q:Lk)(z:Int):Gq:=tl 19 10 (fin (kY q z) (.bool true))
theorem yX(q:Lk)(z:Int):semAt (Sq q z)=some (callFunc 235 #[.int .i64 q.it]):=HW
theorem VH(q:Lk)(z:Int):aa prog (fin (kY q z) (.bool true)) (Sq q z):=ap prog 224 19 10 _
theorem Mx(q:Lk)(z:Int):tl 49 40 (fin (kY q z) (.bool false))=B {q with J:=au (tl 49 40 (fin (kY q z) (.bool false)))}:=HW
theorem U6(q:Lk)(z:Int):aa prog (fin (kY q z) (.bool false)) (B {q with J:=au (tl 49 40 (fin (kY q z) (.bool false)))}):=Mx q z▸ap prog 224 49 40 _
theorem aiM(q:Lk)(z:Int):tl 49 40 (fin (Sq q z) (.bool false))=B {q with J:=au (tl 49 40 (fin (Sq q z) (.bool false)))}:=HW
theorem XQ(q:Lk)(z:Int):aa prog (fin (Sq q z) (.bool false)) (B {q with J:=au (tl 49 40 (fin (Sq q z) (.bool false)))}):=aiM q z▸ap prog 224 49 40 _
theorem ahi(q:Lk)(z:Int):tl 43 60 (fin (Sq {q with aw:=true} z) (.bool true))=gD {q with aw:=true,J:=au (tl 43 60 (fin (Sq {q with aw:=true} z) (.bool true)))}:=HW
theorem aic(q:Lk)(z:Int):aa prog (fin (Sq {q with aw:=true} z) (.bool true)) (gD {q with aw:=true,J:=au (tl 43 60 (fin (Sq {q with aw:=true} z) (.bool true)))}):=ahi q z▸ap prog 224 43 60 _
def sF(q:Lk)(z:Int):Gq:=tl 25 20 (fin (Sq {q with aw:=false} z) (.bool true))
theorem abZ(q:Lk)(z:Int):semAt (sF q z)=some (do pure (.value (<-Go.binOp .and 21 (.int .i32 q.old) (.int .i32 2)))):=HW
theorem ahg(q:Lk)(z:Int)(a:calm? (α:=Next) prog (do pure (.value (<-Go.binOp .and 21 (.int .i32 q.old) (.int .i32 2))))=some (.value v)):aa prog (fin (Sq {q with aw:=false} z) (.bool true)) (fin (sF q z) v):=ah (fn:=224) (d:=25) (n:=20) (abZ q z) a
def ki(q:Lk)(z a:Int):Gq:=tl 26 10 (fin (sF q z) (.int .i32 a))
theorem ZF(q:Lk)(z a:Int):semAt (ki q z a)=some (do pure (.value (<-Go.binOp .eql 21 (.int .i32 a) (.int .i32 0)))):=HW
theorem F3(q:Lk)(z a:Int)(b:calm? (α:=Next) prog (do pure (.value (<-Go.binOp .eql 21 (.int .i32 a) (.int .i32 0))))=some (.value v)):aa prog (fin (sF q z) (.int .i32 a)) (fin (ki q z a) v):=ah (fn:=224) (d:=26) (n:=10) (ZF q z a) b
theorem aft(q:Lk)(z a:Int):tl 43 60 (fin (ki q z a) (.bool false))=gD {q with aw:=false,J:=au (tl 43 60 (fin (ki q z a) (.bool false)))}:=HW
theorem aev(q:Lk)(z a:Int):aa prog (fin (ki q z a) (.bool false)) (gD {q with aw:=false,J:=au (tl 43 60 (fin (ki q z a) (.bool false)))}):=aft q z a▸ap prog 224 43 60 _
def qQ(q:Lk)(z a:Int):Gq:=tl 30 20 (fin (ki q z a) (.bool true))
theorem YT(q:Lk)(z a:Int):semAt (qQ q z a)=some (do pure (.value (<-Go.binOp .shr 21 (.int .i32 q.old) (.int .i64 3)))):=HW
theorem ajA(q:Lk)(z a:Int)(b:calm? (α:=Next) prog (do pure (.value (<-Go.binOp .shr 21 (.int .i32 q.old) (.int .i64 3))))=some (.value v)):aa prog (fin (ki q z a) (.bool true)) (fin (qQ q z a) v):=ah (fn:=224) (d:=30) (n:=20) (YT q z a) b
def kz(q:Lk)(z b a:Int):Gq:=tl 31 10 (fin (qQ q z b) (.int .i32 a))
theorem adI(q:Lk)(z b a:Int):semAt (kz q z b a)=some (do pure (.value (<-Go.binOp .neq 21 (.int .i32 a) (.int .i32 0)))):=HW
theorem CE(q:Lk)(z b a:Int)(c:calm? (α:=Next) prog (do pure (.value (<-Go.binOp .neq 21 (.int .i32 a) (.int .i32 0))))=some (.value v)):aa prog (fin (qQ q z b) (.int .i32 a)) (fin (kz q z b a) v):=ah (fn:=224) (d:=31) (n:=10) (adI q z b a) c
theorem WA(q:Lk)(z b a:Int):tl 43 60 (fin (kz q z b a) (.bool false))=gD {q with aw:=false,J:=au (tl 43 60 (fin (kz q z b a) (.bool false)))}:=HW
theorem YZ(q:Lk)(z b a:Int):aa prog (fin (kz q z b a) (.bool false)) (gD {q with aw:=false,J:=au (tl 43 60 (fin (kz q z b a) (.bool false)))}):=WA q z b a▸ap prog 224 43 60 _
def rK(q:Lk)(z b a:Int):Gq:=tl 39 20 (fin (kz q z b a) (.bool true))
theorem VN(q:Lk)(z b a:Int):semAt (rK q z b a)=some (do pure (.value (<-Go.binOp .or 21 (.int .i32 q.old) (.int .i32 2)))):=HW
theorem acI(q:Lk)(z b a:Int)(c:calm? (α:=Next) prog (do pure (.value (<-Go.binOp .or 21 (.int .i32 q.old) (.int .i32 2))))=some (.value v)):aa prog (fin (kz q z b a) (.bool true)) (fin (rK q z b a) v):=ah (fn:=224) (d:=39) (n:=20) (VN q z b a) c
def C1(q:Lk)(z b c a:Int):Gq:=tl 40 10 (fin (rK q z b c) (.int .i32 a))
theorem vR(q:Lk)(z b c a:Int):semAt (C1 q z b c a)=some (callFunc 223 #[q.m,.int .i32 q.old,.int .i32 a]):=HW
theorem LP(q:Lk)(z b c a:Int):aa prog (fin (rK q z b c) (.int .i32 a)) (C1 q z b c a):=ap prog 224 40 10 _
theorem ag4(q:Lk)(z b c a:Int):tl 43 60 (fin (C1 q z b c a) (.bool true))=gD {q with aw:=true,J:=au (tl 43 60 (fin (C1 q z b c a) (.bool true)))}:=HW
theorem aee(q:Lk)(z b c a:Int):aa prog (fin (C1 q z b c a) (.bool true)) (gD {q with aw:=true,J:=au (tl 43 60 (fin (C1 q z b c a) (.bool true)))}):=ag4 q z b c a▸ap prog 224 43 60 _
theorem Q8(q:Lk)(z b c a:Int):tl 43 60 (fin (C1 q z b c a) (.bool false))=gD {q with aw:=false,J:=au (tl 43 60 (fin (C1 q z b c a) (.bool false)))}:=HW
theorem Yt(q:Lk)(z b c a:Int):aa prog (fin (C1 q z b c a) (.bool false)) (gD {q with aw:=false,J:=au (tl 43 60 (fin (C1 q z b c a) (.bool false)))}):=Q8 q z b c a▸ap prog 224 43 60 _
def qn(q:Lk):Gq:=tl 44 5 (gD q)
theorem abM(q:Lk):semAt (qn q)=some (do pure (.value (<-Go.binOp .add 3 (.int .i64 q.it) (.int .i64 1)))):=HW
theorem Y8(q:Lk)(a:calm? (α:=Next) prog (do pure (.value (<-Go.binOp .add 3 (.int .i64 q.it) (.int .i64 1))))=some (.value v)):aa prog (gD q) (fin (qn q) v):=ah (fn:=224) (d:=44) (n:=5) (abM q) a
def R1(q:Lk)(t:Int):Gq:=tl 48 30 (fin (qn q) (.int .i64 t))
theorem vb(q:Lk)(t:Int):semAt (R1 q t)=some (do pure (.value (<-Instr.loadAt 21 q.m))):=HW
theorem aiY(q:Lk)(t:Int):aa prog (fin (qn q) (.int .i64 t)) (R1 q t):=ap prog 224 48 30 _
theorem MO(q:Lk)(t x:Int):tl 14 40 (fin (R1 q t) (.int .i32 x))=A {q with it:=t,old:=x,J:=au (tl 14 40 (fin (R1 q t) (.int .i32 x)))}:=HW
theorem Sx(q:Lk)(t x:Int):aa prog (fin (R1 q t) (.int .i32 x)) (A {q with it:=t,old:=x,J:=au (tl 14 40 (fin (R1 q t) (.int .i32 x)))}):=MO q t x▸ap prog 224 14 40 _
end Kl
