/- Agree, a part. -/
import Derived.Test.YtjebhbopmfcopaaGreatDoorZM
set_option maxRecDepth 100000
namespace Go.Proofs.YtjebhbopmfcopaaGreatDoor
open Go.Proofs Tryz
noncomputable section
variable{v:HH}
namespace Kl
open Conc Kw
def q8(q:Lk):Gq:=tl 82 10 (qY q)
theorem S6(q:Lk):semAt (q8 q)=some (do pure (.value (<-Go.binOp .and 21 (.int .i32 q.old) (.int .i32 5)))):=HW
theorem Jn(q:Lk)(a:calm? (α:=Next) prog (do pure (.value (<-Go.binOp .and 21 (.int .i32 q.old) (.int .i32 5))))=some (.value v)):aa prog (qY q) (fin (q8 q) v):=ah (fn:=224) (d:=82) (n:=10) (S6 q) a
def kA(q:Lk)(z:Int):Gq:=tl 83 10 (fin (q8 q) (.int .i32 z))
theorem Qf(q:Lk)(z:Int):semAt (kA q z)=some (do pure (.value (<-Go.binOp .eql 21 (.int .i32 z) (.int .i32 0)))):=HW
theorem BF(q:Lk)(z:Int)(a:calm? (α:=Next) prog (do pure (.value (<-Go.binOp .eql 21 (.int .i32 z) (.int .i32 0))))=some (.value v)):aa prog (fin (q8 q) (.int .i32 z)) (fin (kA q z) v):=ah (fn:=224) (d:=83) (n:=10) (Qf q z) a
theorem adL(q:Lk)(z:Int):tl 135 40 (fin (kA q z) (.bool true))=iK {q with J:=au (tl 135 40 (fin (kA q z) (.bool true)))}:=HW
theorem agu(q:Lk)(z:Int):aa prog (fin (kA q z) (.bool true)) (iK {q with J:=au (tl 135 40 (fin (kA q z) (.bool true)))}):=adL q z▸ap prog 224 135 40 _
def rO(q:Lk)(z:Int):Gq:=tl 85 20 (fin (kA q z) (.bool false))
theorem Vr(q:Lk)(z:Int):semAt (rO q z)=some (do pure (.value (<-Go.binOp .neq 2 (.int .i64 q.ws) (.int .i64 0)))):=HW
theorem PV(q:Lk)(z:Int)(a:calm? (α:=Next) prog (do pure (.value (<-Go.binOp .neq 2 (.int .i64 q.ws) (.int .i64 0))))=some (.value v)):aa prog (fin (kA q z) (.bool false)) (fin (rO q z) v):=ah (fn:=224) (d:=85) (n:=20) (Vr q z) a
def kD(q:Lk)(z:Int)(a:Bool):Gq:=tl 87 20 (fin (rO q z) (.bool a))
theorem Rg(q:Lk)(z:Int)(a:Bool):semAt (kD q z a)=some (do pure (.value (<-Go.binOp .eql 2 (.int .i64 q.ws) (.int .i64 0)))):=HW
theorem C9(q:Lk)(z:Int)(a:Bool)(b:calm? (α:=Next) prog (do pure (.value (<-Go.binOp .eql 2 (.int .i64 q.ws) (.int .i64 0))))=some (.value v)):aa prog (fin (rO q z) (.bool a)) (fin (kD q z a) v):=ah (fn:=224) (d:=87) (n:=20) (Rg q z a) b
def T1(q:Lk)(z:Int)(a:Bool):Gq:=tl 88 20 (fin (kD q z a) (.bool true))
theorem EP(q:Lk)(z:Int)(a:Bool):semAt (T1 q z a)=some (callFunc 238 #[]):=HW
theorem LM(q:Lk)(z:Int)(a:Bool):aa prog (fin (kD q z a) (.bool true)) (T1 q z a):=ap prog 224 88 20 _
theorem Tv(q:Lk)(z:Int)(a:Bool)(n:Int):tl 89 20 (fin (T1 q z a) (.int .i64 n))=nZ {q with ws:=n,J:=au (tl 89 20 (fin (T1 q z a) (.int .i64 n)))}:=HW
theorem aiy(q:Lk)(z:Int)(a:Bool)(n:Int):aa prog (fin (T1 q z a) (.int .i64 n)) (nZ {q with ws:=n,J:=au (tl 89 20 (fin (T1 q z a) (.int .i64 n)))}):=Tv q z a n▸ap prog 224 89 20 _
theorem SJ(q:Lk)(z:Int)(a:Bool):tl 89 20 (fin (kD q z a) (.bool false))=nZ {q with J:=au (tl 89 20 (fin (kD q z a) (.bool false)))}:=HW
theorem LW(q:Lk)(z:Int)(a:Bool):aa prog (fin (kD q z a) (.bool false)) (nZ {q with J:=au (tl 89 20 (fin (kD q z a) (.bool false)))}):=SJ q z a▸ap prog 224 89 20 _
def S1(q:Lk):Gq:=tl 93 10 (nZ q)
theorem sM(q:Lk):semAt (S1 q)=some (callFunc 239 #[.pointer (some ⟨q.b,q.o+1,none⟩),q.J 8,.int .i64 2]):=HW
theorem KT(q:Lk):aa prog (nZ q) (S1 q):=ap prog 224 93 10 _
theorem aa4(q:Lk):tl 94 20 (fin (S1 q) (.tuple #[]))=np {q with J:=au (tl 94 20 (fin (S1 q) (.tuple #[])))}:=HW
theorem Nz(q:Lk):aa prog (fin (S1 q) (.tuple #[])) (np {q with J:=au (tl 94 20 (fin (S1 q) (.tuple #[])))}):=aa4 q▸ap prog 224 94 20 _
def iz(q:Lk):Gq:=tl 95 5 (np {q with sv:=true})
theorem BL(q:Lk):semAt (iz q)=some (pure (.value (.bool true))):=HW
theorem Tm(q:Lk):aa prog (np {q with sv:=true}) (iz q):=ap prog 224 95 5 _
theorem Yy(q:Lk):tl 101 40 (fin (iz q) (.bool true))=nu {q with sv:=true,J:=au (tl 101 40 (fin (iz q) (.bool true)))}:=HW
theorem M7(q:Lk):aa prog (fin (iz q) (.bool true)) (nu {q with sv:=true,J:=au (tl 101 40 (fin (iz q) (.bool true)))}):=Yy q▸ap prog 224 101 40 _
def T2(q:Lk):Gq:=tl 96 5 (np {q with sv:=false})
theorem Fu(q:Lk):semAt (T2 q)=some (callFunc 238 #[]):=HW
theorem Ps(q:Lk):aa prog (np {q with sv:=false}) (T2 q):=ap prog 224 96 5 _
def qM(q:Lk)(n:Int):Gq:=tl 98 10 (fin (T2 q) (.int .i64 n))
theorem ady(q:Lk)(n:Int):semAt (qM q n)=some (do pure (.value (<-Go.binOp .sub 2 (.int .i64 n) (.int .i64 q.ws)))):=HW
theorem UG(q:Lk)(n:Int)(a:calm? (α:=Next) prog (do pure (.value (<-Go.binOp .sub 2 (.int .i64 n) (.int .i64 q.ws))))=some (.value v)):aa prog (fin (T2 q) (.int .i64 n)) (fin (qM q n) v):=ah (fn:=224) (d:=98) (n:=10) (ady q n) a
def nS(q:Lk)(n z:Int):Gq:=tl 99 10 (fin (qM q n) (.int .i64 z))
theorem ahH(q:Lk)(n z:Int):semAt (nS q n z)=some (do pure (.value (<-Go.binOp .gtr 2 (.int .i64 z) (.int .i64 1000000)))):=HW
theorem adA(q:Lk)(n z:Int)(a:calm? (α:=Next) prog (do pure (.value (<-Go.binOp .gtr 2 (.int .i64 z) (.int .i64 1000000))))=some (.value v)):aa prog (fin (qM q n) (.int .i64 z)) (fin (nS q n z) v):=ah (fn:=224) (d:=99) (n:=10) (ahH q n z) a
theorem ac9(q:Lk)(n z:Int)(a:Bool):tl 101 40 (fin (nS q n z) (.bool a))=nu {q with sv:=a,J:=au (tl 101 40 (fin (nS q n z) (.bool a)))}:=HW
theorem abn(q:Lk)(n z:Int)(a:Bool):aa prog (fin (nS q n z) (.bool a)) (nu {q with sv:=a,J:=au (tl 101 40 (fin (nS q n z) (.bool a)))}):=ac9 q n z a▸ap prog 224 101 40 _
def R2(q:Lk):Gq:=tl 104 10 (nu q)
theorem vE(q:Lk):semAt (R2 q)=some (do pure (.value (<-Instr.loadAt 21 q.m))):=HW
theorem Ef(q:Lk):aa prog (nu q) (R2 q):=ap prog 224 104 10 _
def rP(q:Lk)(x:Int):Gq:=tl 106 20 (fin (R2 q) (.int .i32 x))
theorem Nx(q:Lk)(x:Int):semAt (rP q x)=some (do pure (.value (<-Go.binOp .and 21 (.int .i32 x) (.int .i32 4)))):=HW
theorem JL(q:Lk)(x:Int)(a:calm? (α:=Next) prog (do pure (.value (<-Go.binOp .and 21 (.int .i32 x) (.int .i32 4))))=some (.value v)):aa prog (fin (R2 q) (.int .i32 x)) (fin (rP q x) v):=ah (fn:=224) (d:=106) (n:=20) (Nx q x) a
def kv(q:Lk)(x z:Int):Gq:=tl 107 10 (fin (rP q x) (.int .i32 z))
theorem abl(q:Lk)(x z:Int):semAt (kv q x z)=some (do pure (.value (<-Go.binOp .neq 21 (.int .i32 z) (.int .i32 0)))):=HW
theorem GG(q:Lk)(x z:Int)(a:calm? (α:=Next) prog (do pure (.value (<-Go.binOp .neq 21 (.int .i32 z) (.int .i32 0))))=some (.value v)):aa prog (fin (rP q x) (.int .i32 z)) (fin (kv q x z) v):=ah (fn:=224) (d:=107) (n:=10) (abl q x z) a
theorem akm(q:Lk)(x z:Int):tl 14 60 (fin (kv q x z) (.bool false))=A {q with aw:=true,it:=0,old:=x,J:=au (tl 14 60 (fin (kv q x z) (.bool false)))}:=HW
theorem Oy(q:Lk)(x z:Int):aa prog (fin (kv q x z) (.bool false)) (A {q with aw:=true,it:=0,old:=x,J:=au (tl 14 60 (fin (kv q x z) (.bool false)))}):=akm q x z▸ap prog 224 14 60 _
def rW(q:Lk)(x z:Int):Gq:=tl 109 20 (fin (kv q x z) (.bool true))
theorem LO(q:Lk)(x z:Int):semAt (rW q x z)=some (do pure (.value (<-Go.binOp .and 21 (.int .i32 x) (.int .i32 3)))):=HW
theorem Tu(q:Lk)(x z:Int)(a:calm? (α:=Next) prog (do pure (.value (<-Go.binOp .and 21 (.int .i32 x) (.int .i32 3))))=some (.value v)):aa prog (fin (kv q x z) (.bool true)) (fin (rW q x z) v):=ah (fn:=224) (d:=109) (n:=20) (LO q x z) a
def rp(q:Lk)(x z a:Int):Gq:=tl 110 10 (fin (rW q x z) (.int .i32 a))
theorem WQ(q:Lk)(x z a:Int):semAt (rp q x z a)=some (do pure (.value (<-Go.binOp .neq 21 (.int .i32 a) (.int .i32 0)))):=HW
theorem TQ(q:Lk)(x z a:Int)(b:calm? (α:=Next) prog (do pure (.value (<-Go.binOp .neq 21 (.int .i32 a) (.int .i32 0))))=some (.value v)):aa prog (fin (rW q x z) (.int .i32 a)) (fin (rp q x z a) v):=ah (fn:=224) (d:=110) (n:=10) (WQ q x z a) b
def sL(q:Lk)(x z a:Int):Gq:=tl 113 20 (fin (rp q x z a) (.bool false))
theorem SZ(q:Lk)(x z a:Int):semAt (sL q x z a)=some (do pure (.value (<-Go.binOp .shr 21 (.int .i32 x) (.int .i64 3)))):=HW
theorem agX(q:Lk)(x z a:Int)(b:calm? (α:=Next) prog (do pure (.value (<-Go.binOp .shr 21 (.int .i32 x) (.int .i64 3))))=some (.value v)):aa prog (fin (rp q x z a) (.bool false)) (fin (sL q x z a) v):=ah (fn:=224) (d:=113) (n:=20) (SZ q x z a) b
def lu(q:Lk)(x z b a:Int):Gq:=tl 114 10 (fin (sL q x z b) (.int .i32 a))
theorem Z8(q:Lk)(x z b a:Int):semAt (lu q x z b a)=some (do pure (.value (<-Go.binOp .eql 21 (.int .i32 a) (.int .i32 0)))):=HW
theorem adp(q:Lk)(x z b a:Int)(c:calm? (α:=Next) prog (do pure (.value (<-Go.binOp .eql 21 (.int .i32 a) (.int .i32 0))))=some (.value v)):aa prog (fin (sL q x z b) (.int .i32 a)) (fin (lu q x z b a) v):=ah (fn:=224) (d:=114) (n:=10) (Z8 q x z b a) c
theorem aeo(q:Lk)(x z b a:Int):tl 126 60 (fin (lu {q with sv:=false} x z b a) (.bool false))=kl {q with sv:=false,old:=x,v9:=.int .i32 (-11),J:=au (tl 126 60 (fin (lu {q with sv:=false} x z b a) (.bool false)))}:=HW
theorem ahf(q:Lk)(x z b a:Int):aa prog (fin (lu {q with sv:=false} x z b a) (.bool false)) (kl {q with sv:=false,old:=x,v9:=.int .i32 (-11),J:=au (tl 126 60 (fin (lu {q with sv:=false} x z b a) (.bool false)))}):=aeo q x z b a▸ap prog 224 126 60 _
def qP(q:Lk)(x z b a:Int):Gq:=tl 121 40 (fin (lu {q with sv:=true} x z b a) (.bool false))
theorem afn(q:Lk)(x z b a:Int):semAt (qP q x z b a)=some (do pure (.value (<-Go.binOp .shr 21 (.int .i32 x) (.int .i64 3)))):=HW
theorem ad9(q:Lk)(x z b a:Int)(c:calm? (α:=Next) prog (do pure (.value (<-Go.binOp .shr 21 (.int .i32 x) (.int .i64 3))))=some (.value v)):aa prog (fin (lu {q with sv:=true} x z b a) (.bool false)) (fin (qP q x z b a) v):=ah (fn:=224) (d:=121) (n:=40) (afn q x z b a) c
def ju(q:Lk)(x z b c a:Int):Gq:=tl 122 10 (fin (qP q x z b c) (.int .i32 a))
theorem aaI(q:Lk)(x z b c a:Int):semAt (ju q x z b c a)=some (do pure (.value (<-Go.binOp .eql 21 (.int .i32 a) (.int .i32 1)))):=HW
theorem Jo(q:Lk)(x z c b a:Int)(e:calm? (α:=Next) prog (do pure (.value (<-Go.binOp .eql 21 (.int .i32 a) (.int .i32 1))))=some (.value v)):aa prog (fin (qP q x z c b) (.int .i32 a)) (fin (ju q x z c b a) v):=ah (fn:=224) (d:=122) (n:=10) (aaI q x z c b a) e
theorem afF(q:Lk)(x z b c a:Int):tl 126 40 (fin (ju q x z b c a) (.bool true))=kl {q with sv:=true,old:=x,v9:=.int .i32 (-11),J:=au (tl 126 40 (fin (ju q x z b c a) (.bool true)))}:=HW
theorem agZ(q:Lk)(x z b c a:Int):aa prog (fin (ju q x z b c a) (.bool true)) (kl {q with sv:=true,old:=x,v9:=.int .i32 (-11),J:=au (tl 126 40 (fin (ju q x z b c a) (.bool true)))}):=afF q x z b c a▸ap prog 224 126 40 _
theorem aj8(q:Lk)(x z b c a:Int):tl 126 40 (fin (ju q x z b c a) (.bool false))=kl {q with sv:=true,old:=x,v9:=.int .i32 (-7),J:=au (tl 126 40 (fin (ju q x z b c a) (.bool false)))}:=HW
theorem Vb(q:Lk)(x z b c a:Int):aa prog (fin (ju q x z b c a) (.bool false)) (kl {q with sv:=true,old:=x,v9:=.int .i32 (-7),J:=au (tl 126 40 (fin (ju q x z b c a) (.bool false)))}):=aj8 q x z b c a▸ap prog 224 126 40 _
def A1(q:Lk)(d:Int):Gq:=tl 130 10 (kl {q with v9:=.int .i32 d})
theorem qy(q:Lk)(d:Int):semAt (A1 q d)=some (callFunc 225 #[q.m,.int .i32 d]):=HW
theorem yV(q:Lk)(d:Int):aa prog (kl {q with v9:=.int .i32 d}) (A1 q d):=ap prog 224 130 10 _
theorem aek(q:Lk)(d:Int)(v:HH):tl 135 40 (fin (A1 q d) v)=iK {q with v9:=.int .i32 d,J:=au (tl 135 40 (fin (A1 q d) v))}:=HW
theorem NZ(q:Lk)(d:Int)(v:HH):aa prog (fin (A1 q d) v) (iK {q with v9:=.int .i32 d,J:=au (tl 135 40 (fin (A1 q d) v))}):=aek q d v▸ap prog 224 135 40 _
def R3(q:Lk):Gq:=tl 134 10 (qA q)
theorem Je(q:Lk):semAt (R3 q)=some (do pure (.value (<-Instr.loadAt 21 q.m))):=HW
theorem PF(q:Lk):aa prog (qA q) (R3 q):=ap prog 224 134 10 _
theorem RY(q:Lk)(x:Int):tl 14 60 (fin (R3 q) (.int .i32 x))=A {q with old:=x,J:=au (tl 14 60 (fin (R3 q) (.int .i32 x)))}:=HW
theorem Tz(q:Lk)(x:Int):aa prog (fin (R3 q) (.int .i32 x)) (A {q with old:=x,J:=au (tl 14 60 (fin (R3 q) (.int .i32 x)))}):=RY q x▸ap prog 224 14 60 _
theorem IF(q:Lk):semAt (iK q)=some (callFunc 123 #[]):=HW
def nQ(q:Lk):Gq:=tl 137 10 (fin (iK q) (.tuple #[]))
theorem acJ(q:Lk):semAt (nQ q)=some (do pure (.value (<-convert 263 189 q.m))):=HW
def kC(q:Lk):Gq:=tl 138 10 (fin (nQ q) q.m)
theorem Cc(q:Lk):semAt (kC q)=some (callFunc 136 #[q.m]):=HW
theorem X1(q:Lk):aN prog 9 (fin (kC q) (.tuple #[]))=R (q.c.finish (.tuple #[])) q.cs:=HW
end Kl
