/- Agree, a part. -/
import Derived.Test.YtjebhbopmfcopaaGreatDoorZM
set_option maxRecDepth 100000
namespace Go.Proofs.YtjebhbopmfcopaaGreatDoor
open Go.Proofs Tryz
noncomputable section
variable{v:HH}
namespace Kl
open Conc Kw
def ri(q:Lk):Gq:=tl 51 20 (B q)
theorem acA(q:Lk):semAt (ri q)=some (do pure (.value (<-Go.binOp .and 21 (.int .i32 q.old) (.int .i32 4)))):=HW
theorem Pf(q:Lk)(a:calm? (α:=Next) prog (do pure (.value (<-Go.binOp .and 21 (.int .i32 q.old) (.int .i32 4))))=some (.value v)):aa prog (B q) (fin (ri q) v):=ah (fn:=224) (d:=51) (n:=20) (acA q) a
def kt(q:Lk)(z:Int):Gq:=tl 52 10 (fin (ri q) (.int .i32 z))
theorem Rh(q:Lk)(z:Int):semAt (kt q z)=some (do pure (.value (<-Go.binOp .eql 21 (.int .i32 z) (.int .i32 0)))):=HW
theorem Jr(q:Lk)(z:Int)(a:calm? (α:=Next) prog (do pure (.value (<-Go.binOp .eql 21 (.int .i32 z) (.int .i32 0))))=some (.value v)):aa prog (fin (ri q) (.int .i32 z)) (fin (kt q z) v):=ah (fn:=224) (d:=52) (n:=10) (Rh q z) a
theorem XK(q:Lk)(z:Int):tl 55 30 (fin (kt q z) (.bool false))=C {q with v7:=.int .i32 q.old,J:=au (tl 55 30 (fin (kt q z) (.bool false)))}:=HW
theorem acY(q:Lk)(z:Int):aa prog (fin (kt q z) (.bool false)) (C {q with v7:=.int .i32 q.old,J:=au (tl 55 30 (fin (kt q z) (.bool false)))}):=XK q z▸ap prog 224 55 30 _
def fR(q:Lk)(z:Int):Gq:=tl 54 20 (fin (kt q z) (.bool true))
theorem Bb(q:Lk)(z:Int):semAt (fR q z)=some (do pure (.value (<-Go.binOp .or 21 (.int .i32 q.old) (.int .i32 1)))):=HW
theorem ab7(q:Lk)(z:Int)(a:calm? (α:=Next) prog (do pure (.value (<-Go.binOp .or 21 (.int .i32 q.old) (.int .i32 1))))=some (.value v)):aa prog (fin (kt q z) (.bool true)) (fin (fR q z) v):=ah (fn:=224) (d:=54) (n:=20) (Bb q z) a
theorem NS(q:Lk)(z y:Int):tl 55 30 (fin (fR q z) (.int .i32 y))=C {q with v7:=.int .i32 y,J:=au (tl 55 30 (fin (fR q z) (.int .i32 y)))}:=HW
theorem ZD(q:Lk)(z y:Int):aa prog (fin (fR q z) (.int .i32 y)) (C {q with v7:=.int .i32 y,J:=au (tl 55 30 (fin (fR q z) (.int .i32 y)))}):=NS q z y▸ap prog 224 55 30 _
def rB(q:Lk):Gq:=tl 56 10 (C q)
theorem ac6(q:Lk):semAt (rB q)=some (do pure (.value (<-Go.binOp .and 21 (.int .i32 q.old) (.int .i32 5)))):=HW
theorem aaU(q:Lk)(a:calm? (α:=Next) prog (do pure (.value (<-Go.binOp .and 21 (.int .i32 q.old) (.int .i32 5))))=some (.value v)):aa prog (C q) (fin (rB q) v):=ah (fn:=224) (d:=56) (n:=10) (ac6 q) a
def kr(q:Lk)(z:Int):Gq:=tl 57 10 (fin (rB q) (.int .i32 z))
theorem aim(q:Lk)(z:Int):semAt (kr q z)=some (do pure (.value (<-Go.binOp .neq 21 (.int .i32 z) (.int .i32 0)))):=HW
theorem GW(q:Lk)(z:Int)(a:calm? (α:=Next) prog (do pure (.value (<-Go.binOp .neq 21 (.int .i32 z) (.int .i32 0))))=some (.value v)):aa prog (fin (rB q) (.int .i32 z)) (fin (kr q z) v):=ah (fn:=224) (d:=57) (n:=10) (aim q z) a
theorem WC(q:Lk)(z:Int):tl 60 30 (fin (kr q z) (.bool false))=D {q with J:=au (tl 60 30 (fin (kr q z) (.bool false)))}:=HW
theorem Uo(q:Lk)(z:Int):aa prog (fin (kr q z) (.bool false)) (D {q with J:=au (tl 60 30 (fin (kr q z) (.bool false)))}):=WC q z▸ap prog 224 60 30 _
def nk(q:Lk)(a z:Int):Gq:=tl 59 20 (fin (kr {q with v7:=.int .i32 a} z) (.bool true))
theorem aag(q:Lk)(a z:Int):semAt (nk q a z)=some (do pure (.value (<-Go.binOp .add 21 (.int .i32 a) (.int .i32 8)))):=HW
theorem Tp(q:Lk)(a z:Int)(b:calm? (α:=Next) prog (do pure (.value (<-Go.binOp .add 21 (.int .i32 a) (.int .i32 8))))=some (.value v)):aa prog (fin (kr {q with v7:=.int .i32 a} z) (.bool true)) (fin (nk q a z) v):=ah (fn:=224) (d:=59) (n:=20) (aag q a z) b
theorem Yx(q:Lk)(a z y:Int):tl 60 30 (fin (nk q a z) (.int .i32 y))=D {q with v7:=.int .i32 y,J:=au (tl 60 30 (fin (nk q a z) (.int .i32 y)))}:=HW
theorem Xw(q:Lk)(a z y:Int):aa prog (fin (nk q a z) (.int .i32 y)) (D {q with v7:=.int .i32 y,J:=au (tl 60 30 (fin (nk q a z) (.int .i32 y)))}):=Yx q a z y▸ap prog 224 60 30 _
def sf(q:Lk):Gq:=tl 63 20 (D {q with sv:=true})
theorem adb(q:Lk):semAt (sf q)=some (do pure (.value (<-Go.binOp .and 21 (.int .i32 q.old) (.int .i32 1)))):=HW
theorem Sj(q:Lk)(a:calm? (α:=Next) prog (do pure (.value (<-Go.binOp .and 21 (.int .i32 q.old) (.int .i32 1))))=some (.value v)):aa prog (D {q with sv:=true}) (fin (sf q) v):=ah (fn:=224) (d:=63) (n:=20) (adb q) a
def kT(q:Lk)(z:Int):Gq:=tl 64 10 (fin (sf q) (.int .i32 z))
theorem ahV(q:Lk)(z:Int):semAt (kT q z)=some (do pure (.value (<-Go.binOp .neq 21 (.int .i32 z) (.int .i32 0)))):=HW
theorem CV(q:Lk)(z:Int)(a:calm? (α:=Next) prog (do pure (.value (<-Go.binOp .neq 21 (.int .i32 z) (.int .i32 0))))=some (.value v)):aa prog (fin (sf q) (.int .i32 z)) (fin (kT q z) v):=ah (fn:=224) (d:=64) (n:=10) (ahV q z) a
theorem Bd(q:Lk)(z:Int):tl 68 30 (fin (kT q z) (.bool false))=E {q with sv:=true,J:=au (tl 68 30 (fin (kT q z) (.bool false)))}:=HW
theorem MF(q:Lk)(z:Int):aa prog (fin (kT q z) (.bool false)) (E {q with sv:=true,J:=au (tl 68 30 (fin (kT q z) (.bool false)))}):=Bd q z▸ap prog 224 68 30 _
def nJ(q:Lk)(a z:Int):Gq:=tl 67 20 (fin (kT {q with v7:=.int .i32 a} z) (.bool true))
theorem aiv(q:Lk)(a z:Int):semAt (nJ q a z)=some (do pure (.value (<-Go.binOp .or 21 (.int .i32 a) (.int .i32 4)))):=HW
theorem XW(q:Lk)(a z:Int)(b:calm? (α:=Next) prog (do pure (.value (<-Go.binOp .or 21 (.int .i32 a) (.int .i32 4))))=some (.value v)):aa prog (fin (kT {q with v7:=.int .i32 a} z) (.bool true)) (fin (nJ q a z) v):=ah (fn:=224) (d:=67) (n:=20) (aiv q a z) b
theorem Zo(q:Lk)(a z y:Int):tl 68 30 (fin (nJ q a z) (.int .i32 y))=E {q with sv:=true,v7:=.int .i32 y,J:=au (tl 68 30 (fin (nJ q a z) (.int .i32 y)))}:=HW
theorem ac2(q:Lk)(a z y:Int):aa prog (fin (nJ q a z) (.int .i32 y)) (E {q with sv:=true,v7:=.int .i32 y,J:=au (tl 68 30 (fin (nJ q a z) (.int .i32 y)))}):=Zo q a z y▸ap prog 224 68 30 _
theorem Q7(q:Lk):tl 68 50 (D {q with sv:=false})=E {q with sv:=false,J:=au (tl 68 50 (D {q with sv:=false}))}:=HW
theorem VF(q:Lk):aa prog (D {q with sv:=false}) (E {q with sv:=false,J:=au (tl 68 50 (D {q with sv:=false}))}):=Q7 q▸ap prog 224 68 50 _
def sw(q:Lk)(a:Int):Gq:=tl 70 20 (E {q with v7:=.int .i32 a,aw:=true})
theorem Lx(q:Lk)(a:Int):semAt (sw q a)=some (do pure (.value (<-Go.binOp .and 21 (.int .i32 a) (.int .i32 2)))):=HW
theorem PP(q:Lk)(a:Int)(b:calm? (α:=Next) prog (do pure (.value (<-Go.binOp .and 21 (.int .i32 a) (.int .i32 2))))=some (.value v)):aa prog (E {q with v7:=.int .i32 a,aw:=true}) (fin (sw q a) v):=ah (fn:=224) (d:=70) (n:=20) (Lx q a) b
def ry(q:Lk)(a z:Int):Gq:=tl 71 10 (fin (sw q a) (.int .i32 z))
theorem aiB(q:Lk)(a z:Int):semAt (ry q a z)=some (do pure (.value (<-Go.binOp .eql 21 (.int .i32 z) (.int .i32 0)))):=HW
theorem VL(q:Lk)(a z:Int)(b:calm? (α:=Next) prog (do pure (.value (<-Go.binOp .eql 21 (.int .i32 z) (.int .i32 0))))=some (.value v)):aa prog (fin (sw q a) (.int .i32 z)) (fin (ry q a z) v):=ah (fn:=224) (d:=71) (n:=10) (aiB q a z) b
def nV(q:Lk)(a z:Int):Gq:=tl 74 20 (fin (ry q a z) (.bool false))
theorem ZH(q:Lk)(a z:Int):semAt (nV q a z)=some (do pure (.value (<-Go.binOp .andNot 21 (.int .i32 a) (.int .i32 2)))):=HW
theorem aij(q:Lk)(a z:Int)(b:calm? (α:=Next) prog (do pure (.value (<-Go.binOp .andNot 21 (.int .i32 a) (.int .i32 2))))=some (.value v)):aa prog (fin (ry q a z) (.bool false)) (fin (nV q a z) v):=ah (fn:=224) (d:=74) (n:=20) (ZH q a z) b
theorem E_t(q:Lk)(a z y:Int):tl 75 30 (fin (nV q a z) (.int .i32 y))=F {q with aw:=true,v7:=.int .i32 y,J:=au (tl 75 30 (fin (nV q a z) (.int .i32 y)))}:=HW
theorem Vw(q:Lk)(a z y:Int):aa prog (fin (nV q a z) (.int .i32 y)) (F {q with aw:=true,v7:=.int .i32 y,J:=au (tl 75 30 (fin (nV q a z) (.int .i32 y)))}):=E_t q a z y▸ap prog 224 75 30 _
theorem O5(q:Lk):tl 75 30 (E {q with aw:=false})=F {q with aw:=false,J:=au (tl 75 30 (E {q with aw:=false}))}:=HW
theorem aaj(q:Lk):aa prog (E {q with aw:=false}) (F {q with aw:=false,J:=au (tl 75 30 (E {q with aw:=false}))}):=O5 q▸ap prog 224 75 30 _
def C2(q:Lk)(a:Int):Gq:=tl 80 20 (F {q with v7:=.int .i32 a})
theorem vM(q:Lk)(a:Int):semAt (C2 q a)=some (callFunc 223 #[q.m,.int .i32 q.old,.int .i32 a]):=HW
theorem Gi(q:Lk)(a:Int):aa prog (F {q with v7:=.int .i32 a}) (C2 q a):=ap prog 224 80 20 _
theorem aaP(q:Lk)(a:Int):tl 81 20 (fin (C2 q a) (.bool true))=qY {q with v7:=.int .i32 a,J:=au (tl 81 20 (fin (C2 q a) (.bool true)))}:=HW
theorem Di(q:Lk)(a:Int):aa prog (fin (C2 q a) (.bool true)) (qY {q with v7:=.int .i32 a,J:=au (tl 81 20 (fin (C2 q a) (.bool true)))}):=aaP q a▸ap prog 224 81 20 _
theorem X9(q:Lk)(a:Int):tl 131 20 (fin (C2 q a) (.bool false))=qA {q with v7:=.int .i32 a,J:=au (tl 131 20 (fin (C2 q a) (.bool false)))}:=HW
theorem T9(q:Lk)(a:Int):aa prog (fin (C2 q a) (.bool false)) (qA {q with v7:=.int .i32 a,J:=au (tl 131 20 (fin (C2 q a) (.bool false)))}):=X9 q a▸ap prog 224 131 20 _
end Kl
