/- Runs, a part. -/
import Derived.Test.YtjebhbopmfcopaaGreatDoorZa
set_option maxRecDepth 100000
namespace Go.Proofs.YtjebhbopmfcopaaGreatDoor
open Go.Proofs Tryz
noncomputable section
variable{v:Fi}
namespace Kl
open Conc Kw
set_option maxRecDepth 100000
def qB(q:Lk):Dm:=tl 82 10 (qU q)
theorem aeJ(q:Lk):semAt (qB q)=some (do pure (.value (<-Go.binOp .and 21 (.int .i32 q.old) (.int .i32 5)))):=by kernel_rfl
theorem EK(q:Lk)(a:calm? (α:=Next) prog (do pure (.value (<-Go.binOp .and 21 (.int .i32 q.old) (.int .i32 5))))=some (.value v)):aa prog (qU q) (fin (qB q) v):=ah (fn:=224) (d:=82) (n:=10) (aeJ q) a
def kL(q:Lk)(z:Int):Dm:=tl 83 10 (fin (qB q) (.int .i32 z))
theorem Ol(q:Lk)(z:Int):semAt (kL q z)=some (do pure (.value (<-Go.binOp .eql 21 (.int .i32 z) (.int .i32 0)))):=by kernel_rfl
theorem Ia(q:Lk)(z:Int)(a:calm? (α:=Next) prog (do pure (.value (<-Go.binOp .eql 21 (.int .i32 z) (.int .i32 0))))=some (.value v)):aa prog (fin (qB q) (.int .i32 z)) (fin (kL q z) v):=ah (fn:=224) (d:=83) (n:=10) (Ol q z) a
theorem Z6(q:Lk)(z:Int):tl 135 40 (fin (kL q z) (.bool true))=iP {q with J:=ak (tl 135 40 (fin (kL q z) (.bool true)))}:=by kernel_rfl
theorem ads(q:Lk)(z:Int):aa prog (fin (kL q z) (.bool true)) (iP {q with J:=ak (tl 135 40 (fin (kL q z) (.bool true)))}):=Z6 q z▸ay prog 224 135 40 _
def so(q:Lk)(z:Int):Dm:=tl 85 20 (fin (kL q z) (.bool false))
theorem Tj(q:Lk)(z:Int):semAt (so q z)=some (do pure (.value (<-Go.binOp .neq 2 (.int .i64 q.ws) (.int .i64 0)))):=by kernel_rfl
theorem PS(q:Lk)(z:Int)(a:calm? (α:=Next) prog (do pure (.value (<-Go.binOp .neq 2 (.int .i64 q.ws) (.int .i64 0))))=some (.value v)):aa prog (fin (kL q z) (.bool false)) (fin (so q z) v):=ah (fn:=224) (d:=85) (n:=20) (Tj q z) a
def kp(q:Lk)(z:Int)(a:Bool):Dm:=tl 87 20 (fin (so q z) (.bool a))
theorem aea(q:Lk)(z:Int)(a:Bool):semAt (kp q z a)=some (do pure (.value (<-Go.binOp .eql 2 (.int .i64 q.ws) (.int .i64 0)))):=by kernel_rfl
theorem Ik(q:Lk)(z:Int)(a:Bool)(b:calm? (α:=Next) prog (do pure (.value (<-Go.binOp .eql 2 (.int .i64 q.ws) (.int .i64 0))))=some (.value v)):aa prog (fin (so q z) (.bool a)) (fin (kp q z a) v):=ah (fn:=224) (d:=87) (n:=20) (aea q z a) b
def T1(q:Lk)(z:Int)(a:Bool):Dm:=tl 88 20 (fin (kp q z a) (.bool true))
theorem GJ(q:Lk)(z:Int)(a:Bool):semAt (T1 q z a)=some (callFunc 238 #[]):=by kernel_rfl
theorem Ug(q:Lk)(z:Int)(a:Bool):aa prog (fin (kp q z a) (.bool true)) (T1 q z a):=ay prog 224 88 20 _
theorem OO(q:Lk)(z:Int)(a:Bool)(n:Int):tl 89 20 (fin (T1 q z a) (.int .i64 n))=np {q with ws:=n,J:=ak (tl 89 20 (fin (T1 q z a) (.int .i64 n)))}:=by kernel_rfl
theorem aca(q:Lk)(z:Int)(a:Bool)(n:Int):aa prog (fin (T1 q z a) (.int .i64 n)) (np {q with ws:=n,J:=ak (tl 89 20 (fin (T1 q z a) (.int .i64 n)))}):=OO q z a n▸ay prog 224 89 20 _
theorem aae(q:Lk)(z:Int)(a:Bool):tl 89 20 (fin (kp q z a) (.bool false))=np {q with J:=ak (tl 89 20 (fin (kp q z a) (.bool false)))}:=by kernel_rfl
theorem Nl(q:Lk)(z:Int)(a:Bool):aa prog (fin (kp q z a) (.bool false)) (np {q with J:=ak (tl 89 20 (fin (kp q z a) (.bool false)))}):=aae q z a▸ay prog 224 89 20 _
def S1(q:Lk):Dm:=tl 93 10 (np q)
theorem nY(q:Lk):semAt (S1 q)=some (callFunc 239 #[.pointer (some ⟨q.b,q.o+1,none⟩),q.J 8,.int .i64 2]):=by kernel_rfl
theorem Ha(q:Lk):aa prog (np q) (S1 q):=ay prog 224 93 10 _
theorem aaF(q:Lk):tl 94 20 (fin (S1 q) (.tuple #[]))=oi {q with J:=ak (tl 94 20 (fin (S1 q) (.tuple #[])))}:=by kernel_rfl
theorem OB(q:Lk):aa prog (fin (S1 q) (.tuple #[])) (oi {q with J:=ak (tl 94 20 (fin (S1 q) (.tuple #[])))}):=aaF q▸ay prog 224 94 20 _
def io(q:Lk):Dm:=tl 95 5 (oi {q with sv:=true})
theorem FH(q:Lk):semAt (io q)=some (pure (.value (.bool true))):=by kernel_rfl
theorem Xa(q:Lk):aa prog (oi {q with sv:=true}) (io q):=ay prog 224 95 5 _
theorem VC(q:Lk):tl 101 40 (fin (io q) (.bool true))=nG {q with sv:=true,J:=ak (tl 101 40 (fin (io q) (.bool true)))}:=by kernel_rfl
theorem ac6(q:Lk):aa prog (fin (io q) (.bool true)) (nG {q with sv:=true,J:=ak (tl 101 40 (fin (io q) (.bool true)))}):=VC q▸ay prog 224 101 40 _
def T2(q:Lk):Dm:=tl 96 5 (oi {q with sv:=false})
theorem Hl(q:Lk):semAt (T2 q)=some (callFunc 238 #[]):=by kernel_rfl
theorem NO(q:Lk):aa prog (oi {q with sv:=false}) (T2 q):=ay prog 224 96 5 _
def sO(q:Lk)(n:Int):Dm:=tl 98 10 (fin (T2 q) (.int .i64 n))
theorem LX(q:Lk)(n:Int):semAt (sO q n)=some (do pure (.value (<-Go.binOp .sub 2 (.int .i64 n) (.int .i64 q.ws)))):=by kernel_rfl
theorem agW(q:Lk)(n:Int)(a:calm? (α:=Next) prog (do pure (.value (<-Go.binOp .sub 2 (.int .i64 n) (.int .i64 q.ws))))=some (.value v)):aa prog (fin (T2 q) (.int .i64 n)) (fin (sO q n) v):=ah (fn:=224) (d:=98) (n:=10) (LX q n) a
def ou(q:Lk)(n z:Int):Dm:=tl 99 10 (fin (sO q n) (.int .i64 z))
theorem Zk(q:Lk)(n z:Int):semAt (ou q n z)=some (do pure (.value (<-Go.binOp .gtr 2 (.int .i64 z) (.int .i64 1000000)))):=by kernel_rfl
theorem af2(q:Lk)(n z:Int)(a:calm? (α:=Next) prog (do pure (.value (<-Go.binOp .gtr 2 (.int .i64 z) (.int .i64 1000000))))=some (.value v)):aa prog (fin (sO q n) (.int .i64 z)) (fin (ou q n z) v):=ah (fn:=224) (d:=99) (n:=10) (Zk q n z) a
theorem TM(q:Lk)(n z:Int)(a:Bool):tl 101 40 (fin (ou q n z) (.bool a))=nG {q with sv:=a,J:=ak (tl 101 40 (fin (ou q n z) (.bool a)))}:=by kernel_rfl
theorem VQ(q:Lk)(n z:Int)(a:Bool):aa prog (fin (ou q n z) (.bool a)) (nG {q with sv:=a,J:=ak (tl 101 40 (fin (ou q n z) (.bool a)))}):=TM q n z a▸ay prog 224 101 40 _
def R2(q:Lk):Dm:=tl 104 10 (nG q)
theorem wD(q:Lk):semAt (R2 q)=some (do pure (.value (<-Instr.loadAt 21 q.m))):=by kernel_rfl
theorem BG(q:Lk):aa prog (nG q) (R2 q):=ay prog 224 104 10 _
def sV(q:Lk)(x:Int):Dm:=tl 106 20 (fin (R2 q) (.int .i32 x))
theorem Us(q:Lk)(x:Int):semAt (sV q x)=some (do pure (.value (<-Go.binOp .and 21 (.int .i32 x) (.int .i32 4)))):=by kernel_rfl
theorem Fh(q:Lk)(x:Int)(a:calm? (α:=Next) prog (do pure (.value (<-Go.binOp .and 21 (.int .i32 x) (.int .i32 4))))=some (.value v)):aa prog (fin (R2 q) (.int .i32 x)) (fin (sV q x) v):=ah (fn:=224) (d:=106) (n:=20) (Us q x) a
def lr(q:Lk)(x z:Int):Dm:=tl 107 10 (fin (sV q x) (.int .i32 z))
theorem Oo(q:Lk)(x z:Int):semAt (lr q x z)=some (do pure (.value (<-Go.binOp .neq 21 (.int .i32 z) (.int .i32 0)))):=by kernel_rfl
theorem D5(q:Lk)(x z:Int)(a:calm? (α:=Next) prog (do pure (.value (<-Go.binOp .neq 21 (.int .i32 z) (.int .i32 0))))=some (.value v)):aa prog (fin (sV q x) (.int .i32 z)) (fin (lr q x z) v):=ah (fn:=224) (d:=107) (n:=10) (Oo q x z) a
theorem XL(q:Lk)(x z:Int):tl 14 60 (fin (lr q x z) (.bool false))=A {q with aw:=true,it:=0,old:=x,J:=ak (tl 14 60 (fin (lr q x z) (.bool false)))}:=by kernel_rfl
theorem aga(q:Lk)(x z:Int):aa prog (fin (lr q x z) (.bool false)) (A {q with aw:=true,it:=0,old:=x,J:=ak (tl 14 60 (fin (lr q x z) (.bool false)))}):=XL q x z▸ay prog 224 14 60 _
def sw(q:Lk)(x z:Int):Dm:=tl 109 20 (fin (lr q x z) (.bool true))
theorem Uo(q:Lk)(x z:Int):semAt (sw q x z)=some (do pure (.value (<-Go.binOp .and 21 (.int .i32 x) (.int .i32 3)))):=by kernel_rfl
theorem Zq(q:Lk)(x z:Int)(a:calm? (α:=Next) prog (do pure (.value (<-Go.binOp .and 21 (.int .i32 x) (.int .i32 3))))=some (.value v)):aa prog (fin (lr q x z) (.bool true)) (fin (sw q x z) v):=ah (fn:=224) (d:=109) (n:=20) (Uo q x z) a
def qz(q:Lk)(x z a:Int):Dm:=tl 110 10 (fin (sw q x z) (.int .i32 a))
theorem Kk(q:Lk)(x z a:Int):semAt (qz q x z a)=some (do pure (.value (<-Go.binOp .neq 21 (.int .i32 a) (.int .i32 0)))):=by kernel_rfl
theorem aaZ(q:Lk)(x z a:Int)(b:calm? (α:=Next) prog (do pure (.value (<-Go.binOp .neq 21 (.int .i32 a) (.int .i32 0))))=some (.value v)):aa prog (fin (sw q x z) (.int .i32 a)) (fin (qz q x z a) v):=ah (fn:=224) (d:=110) (n:=10) (Kk q x z a) b
def rH(q:Lk)(x z a:Int):Dm:=tl 113 20 (fin (qz q x z a) (.bool false))
theorem ahA(q:Lk)(x z a:Int):semAt (rH q x z a)=some (do pure (.value (<-Go.binOp .shr 21 (.int .i32 x) (.int .i64 3)))):=by kernel_rfl
theorem aaR(q:Lk)(x z a:Int)(b:calm? (α:=Next) prog (do pure (.value (<-Go.binOp .shr 21 (.int .i32 x) (.int .i64 3))))=some (.value v)):aa prog (fin (qz q x z a) (.bool false)) (fin (rH q x z a) v):=ah (fn:=224) (d:=113) (n:=20) (ahA q x z a) b
def kC(q:Lk)(x z b a:Int):Dm:=tl 114 10 (fin (rH q x z b) (.int .i32 a))
theorem aaH(q:Lk)(x z b a:Int):semAt (kC q x z b a)=some (do pure (.value (<-Go.binOp .eql 21 (.int .i32 a) (.int .i32 0)))):=by kernel_rfl
theorem agU(q:Lk)(x z b a:Int)(c:calm? (α:=Next) prog (do pure (.value (<-Go.binOp .eql 21 (.int .i32 a) (.int .i32 0))))=some (.value v)):aa prog (fin (rH q x z b) (.int .i32 a)) (fin (kC q x z b a) v):=ah (fn:=224) (d:=114) (n:=10) (aaH q x z b a) c
theorem OW(q:Lk)(x z b a:Int):tl 126 60 (fin (kC {q with sv:=false} x z b a) (.bool false))=kP {q with sv:=false,old:=x,v9:=.int .i32 (-11),J:=ak (tl 126 60 (fin (kC {q with sv:=false} x z b a) (.bool false)))}:=by kernel_rfl
theorem JX(q:Lk)(x z b a:Int):aa prog (fin (kC {q with sv:=false} x z b a) (.bool false)) (kP {q with sv:=false,old:=x,v9:=.int .i32 (-11),J:=ak (tl 126 60 (fin (kC {q with sv:=false} x z b a) (.bool false)))}):=OW q x z b a▸ay prog 224 126 60 _
def rU(q:Lk)(x z b a:Int):Dm:=tl 121 40 (fin (kC {q with sv:=true} x z b a) (.bool false))
theorem Ym(q:Lk)(x z b a:Int):semAt (rU q x z b a)=some (do pure (.value (<-Go.binOp .shr 21 (.int .i32 x) (.int .i64 3)))):=by kernel_rfl
theorem acA(q:Lk)(x z b a:Int)(c:calm? (α:=Next) prog (do pure (.value (<-Go.binOp .shr 21 (.int .i32 x) (.int .i64 3))))=some (.value v)):aa prog (fin (kC {q with sv:=true} x z b a) (.bool false)) (fin (rU q x z b a) v):=ah (fn:=224) (d:=121) (n:=40) (Ym q x z b a) c
def ja(q:Lk)(x z b c a:Int):Dm:=tl 122 10 (fin (rU q x z b c) (.int .i32 a))
theorem Xp(q:Lk)(x z b c a:Int):semAt (ja q x z b c a)=some (do pure (.value (<-Go.binOp .eql 21 (.int .i32 a) (.int .i32 1)))):=by kernel_rfl
theorem Gl(q:Lk)(x z c b a:Int)(e:calm? (α:=Next) prog (do pure (.value (<-Go.binOp .eql 21 (.int .i32 a) (.int .i32 1))))=some (.value v)):aa prog (fin (rU q x z c b) (.int .i32 a)) (fin (ja q x z c b a) v):=ah (fn:=224) (d:=122) (n:=10) (Xp q x z c b a) e
theorem Kb(q:Lk)(x z b c a:Int):tl 126 40 (fin (ja q x z b c a) (.bool true))=kP {q with sv:=true,old:=x,v9:=.int .i32 (-11),J:=ak (tl 126 40 (fin (ja q x z b c a) (.bool true)))}:=by kernel_rfl
theorem Vt(q:Lk)(x z b c a:Int):aa prog (fin (ja q x z b c a) (.bool true)) (kP {q with sv:=true,old:=x,v9:=.int .i32 (-11),J:=ak (tl 126 40 (fin (ja q x z b c a) (.bool true)))}):=Kb q x z b c a▸ay prog 224 126 40 _
theorem ZT(q:Lk)(x z b c a:Int):tl 126 40 (fin (ja q x z b c a) (.bool false))=kP {q with sv:=true,old:=x,v9:=.int .i32 (-7),J:=ak (tl 126 40 (fin (ja q x z b c a) (.bool false)))}:=by kernel_rfl
theorem acG(q:Lk)(x z b c a:Int):aa prog (fin (ja q x z b c a) (.bool false)) (kP {q with sv:=true,old:=x,v9:=.int .i32 (-7),J:=ak (tl 126 40 (fin (ja q x z b c a) (.bool false)))}):=ZT q x z b c a▸ay prog 224 126 40 _
def A1(q:Lk)(d:Int):Dm:=tl 130 10 (kP {q with v9:=.int .i32 d})
theorem nR(q:Lk)(d:Int):semAt (A1 q d)=some (callFunc 225 #[q.m,.int .i32 d]):=by kernel_rfl
theorem Aq(q:Lk)(d:Int):aa prog (kP {q with v9:=.int .i32 d}) (A1 q d):=ay prog 224 130 10 _
theorem So(q:Lk)(d:Int)(v:Fi):tl 135 40 (fin (A1 q d) v)=iP {q with v9:=.int .i32 d,J:=ak (tl 135 40 (fin (A1 q d) v))}:=by kernel_rfl
theorem acK(q:Lk)(d:Int)(v:Fi):aa prog (fin (A1 q d) v) (iP {q with v9:=.int .i32 d,J:=ak (tl 135 40 (fin (A1 q d) v))}):=So q d v▸ay prog 224 135 40 _
def R3(q:Lk):Dm:=tl 134 10 (sf q)
theorem DX(q:Lk):semAt (R3 q)=some (do pure (.value (<-Instr.loadAt 21 q.m))):=by kernel_rfl
theorem ah7(q:Lk):aa prog (sf q) (R3 q):=ay prog 224 134 10 _
theorem PC(q:Lk)(x:Int):tl 14 60 (fin (R3 q) (.int .i32 x))=A {q with old:=x,J:=ak (tl 14 60 (fin (R3 q) (.int .i32 x)))}:=by kernel_rfl
theorem XA(q:Lk)(x:Int):aa prog (fin (R3 q) (.int .i32 x)) (A {q with old:=x,J:=ak (tl 14 60 (fin (R3 q) (.int .i32 x)))}):=PC q x▸ay prog 224 14 60 _
theorem CH(q:Lk):semAt (iP q)=some (callFunc 123 #[]):=by kernel_rfl
def nM(q:Lk):Dm:=tl 137 10 (fin (iP q) (.tuple #[]))
theorem Vp(q:Lk):semAt (nM q)=some (do pure (.value (<-convert 263 189 q.m))):=by kernel_rfl
def j4(q:Lk):Dm:=tl 138 10 (fin (nM q) q.m)
theorem F4(q:Lk):semAt (j4 q)=some (callFunc 136 #[q.m]):=by kernel_rfl
theorem Zz(q:Lk):aM prog 9 (fin (j4 q) (.tuple #[]))=R (q.c.finish (.tuple #[])) q.cs:=by kernel_rfl
end Kl
end
end Go.Proofs.YtjebhbopmfcopaaGreatDoor
