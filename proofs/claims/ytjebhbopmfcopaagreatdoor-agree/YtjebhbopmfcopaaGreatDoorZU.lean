/- Agree, a part. -/
import Derived.Test.YtjebhbopmfcopaaGreatDoorZT
set_option maxRecDepth 100000
namespace Go.Proofs.YtjebhbopmfcopaaGreatDoor
open Go.Proofs Tryz
noncomputable section
namespace Km
open Conc Kw Kl
structure Km where
 b:Nat
 c:Frame
 cs:Fi
 J:Nat->HH:=λ_=>undef
abbrev Km.m(q:Km):HH:=.pointer (some ⟨q.b,0,none⟩)
abbrev Km.sm(q:Km):HH:=.pointer (some ⟨q.b,1,none⟩)
abbrev Km.bk(q:Km):Gq:=R (q.c.finish (.tuple #[])) q.cs
noncomputable def ta(d n:Nat)(g:Gq):Gq:=aL prog 68 d n g
noncomputable def tb(d n:Nat)(g:Gq):Gq:=aL prog 72 d n g
noncomputable def th(n:Nat)(g:Gq):Gq:=aN prog n g
noncomputable def lb(g:Gq):Gq:=match stepG prog true g default with|.go g' _ _=>g'|_=>g
noncomputable def oQ(q:Km):Gq:=R (Frame.enter prog 68 #[q.m,.int .i64 1] .normal) (q.c::q.cs)
def Md(q:Km):Gq:=ta 14 40 (oQ q)
theorem F5(q:Km):semAt (Md q)=some (callFunc 122 #[]):=HW
noncomputable def Ma(q:Km):Gq:=aL prog 128 9 90 (fin (Md q) (.tuple #[]))
theorem EK(q:Km):semAt (Ma q)=some (callFunc 170 #[q.m,.int .u64 4294967296]):=HW
def mO(q:Km)(x:Int):Gq:=ta 45 30 (fin (Ma q) (.int .u64 x))
theorem afG(q:Km)(x:Int):semAt (mO q x)=some (do pure (.value (<-Go.binOp .and 141 (.int .u64 x) (.int .u64 2147483648)))):=HW
def mb(q:Km)(x:Int):Gq:=ta 53 60 (fin (mO q x) (.int .u64 0))
theorem abD(q:Km)(x:Int):semAt (mb q x)=some (do pure (.value (<-Go.binOp .shr 141 (.int .u64 x) (.int .i64 32)))):=HW
def fR(q:Km)(x y:Int):Gq:=ta 54 10 (fin (mb q x) (.int .u64 y))
theorem Bb(q:Km)(x y:Int):semAt (fR q x y)=some (do pure (.value (<-convert 141 21 (.int .u64 y)))):=HW
def lJ(q:Km)(x y:Int):Gq:=ta 56 20 (fin (fR q x y) (.int .i32 y))
theorem PX(q:Km)(x y:Int):semAt (lJ q x y)=some (do pure (.value (<-Go.binOp .and 141 (.int .u64 x) (.int .u64 2147483647)))):=HW
def iZ(q:Km)(x y:Int):Gq:=ta 66 60 (fin (lJ q x y) (.int .u64 0))
theorem Hn(q:Km)(x y:Int):semAt (iZ q x y)=some (do pure (.value (<-Go.binOp .eql 21 (.int .i32 y) (.int .i32 1)))):=HW
def Mv(q:Km)(x:Int):Gq:=ta 71 30 (fin (iZ q x 1) (.bool true))
theorem QI(q:Km)(x:Int):semAt (Mv q x)=some (do pure (.value (<-convert 195 189 q.sm))):=HW
def Mr(q:Km)(x:Int):Gq:=ta 72 10 (fin (Mv q x) q.sm)
theorem CJ(q:Km)(x:Int):semAt (Mr q x)=some (callFunc 129 #[q.sm]):=HW
def iO(q:Km)(x:Int):Gq:=th 80 (fin (Mr q x) (.tuple #[]))
def mJ(q:Km)(x y:Int):Gq:=ta 74 30 (fin (iZ q x y) (.bool false))
theorem NM(q:Km)(x y:Int):semAt (mJ q x y)=some (do pure (.value (<-Go.binOp .lss 21 (.int .i32 y) (.int .i32 0)))):=HW
def lX(q:Km)(x y:Int):Gq:=ta 90 80 (fin (mJ q x y) (.bool false))
theorem PO(q:Km)(x y:Int):semAt (lX q x y)=some (do pure (.value (<-Go.binOp .gtr 21 (.int .i32 y) (.int .i32 0)))):=HW
def ij(q:Km)(x y:Int):Gq:=th 40 (fin (lX q x y) (.bool true))
theorem XV(q:Km)(x:Int):(iO q x).status=.running:=HW
theorem Q4(q:Km)(x y:Int):(ij q x y).status=.running:=HW
theorem ajg(q:Km)(x:Int):(iO q x).offers=none:=HW
theorem ah2(q:Km)(x y:Int):(ij q x y).offers=none:=HW
theorem WO(q:Km)(x:Int)(w:HA):stepG prog true (iO q x) w=.go (lb (iO q x)) w #[⟨.mark .enable,false,true⟩]:=HW
theorem UC(q:Km)(x y:Int)(w:HA):stepG prog true (ij q x y) w=.go (lb (ij q x y)) w #[⟨.mark .enable,false,true⟩]:=HW
theorem XD(q:Km)(x:Int):th 1 (lb (iO q x))=q.bk:=HW
theorem UK(q:Km)(x y:Int):th 1 (lb (ij q x y))=q.bk:=HW
noncomputable def pa(q:Km):Gq:=R (Frame.enter prog 72 #[q.m] .normal) (q.c::q.cs)
def K0(q:Km):Gq:=tb 7 20 (pa q)
theorem IW(q:Km):semAt (K0 q)=some (callFunc 122 #[]):=HW
def ajX(q:Km):DS:=#[q.m,q.J 1,q.J 2,q.J 3,q.J 4,q.J 5,q.J 6,q.J 7,q.m,q.m,q.m,q.J 11,q.J 12,q.J 13,q.J 14,q.J 15,q.J 16,q.J 17,q.J 18,q.J 19,q.J 20,q.J 21,q.J 22,q.J 23,q.J 24,q.J 25,q.J 26,q.J 27,q.J 28,q.J 29,q.J 30,q.J 31,q.J 32,q.J 33,q.J 34,q.J 35,q.J 36,q.J 37,q.J 38,q.J 39,q.J 40,q.J 41,q.J 42,q.J 43,q.J 44,q.J 45,q.J 46,q.J 47,q.J 48,q.J 49,q.J 50,q.J 51,q.J 52,q.J 53,q.J 54,q.J 55,q.J 56,q.J 57,q.J 58,q.J 59,q.J 60,q.J 61,q.J 62,q.J 63,q.J 64,q.J 65,q.J 66,q.J 67,q.J 68,q.J 69,q.J 70,q.J 71,q.J 72,q.J 73,q.J 74,q.J 75,q.J 76,q.J 77,q.J 78,q.J 79,q.J 80,q.J 81,q.J 82,q.J 83]
def WL(q:Km):Gq:=eM (tb 11 40 (fin (K0 q) (.tuple #[]))) (ajX q)
theorem Pz(q:Km):tb 11 40 (fin (K0 q) (.tuple #[]))=WL {q with J:=au (tb 11 40 (fin (K0 q) (.tuple #[])))}:=HW
noncomputable def W1(q:Km):Gq:=aL prog 130 6 30 (WL q)
theorem FW(q:Km):semAt (W1 q)=some (callFunc 171 #[q.m]):=HW
def kw(q:Km):Gq:=tb 20 80 (fin (W1 q) (.int .u64 0))
theorem GH(q:Km):semAt (kw q)=some (callFunc 123 #[]):=HW
def mT(q:Km):Gq:=tb 22 20 (fin (kw q) (.tuple #[]))
theorem aj3(q:Km):semAt (mT q)=some (do pure (.value (<-convert 187 189 q.m))):=HW
def kQ(q:Km):Gq:=tb 23 10 (fin (mT q) q.m)
theorem H5(q:Km):semAt (kQ q)=some (callFunc 136 #[q.m]):=HW
def lZ(q:Km)(x:Int):Gq:=tb 13 40 (fin (W1 q) (.int .u64 x))
theorem ahc(q:Km)(x:Int):semAt (lZ q x)=some (do pure (.value (<-Go.binOp .shr 141 (.int .u64 x) (.int .i64 32)))):=HW
def lI(q:Km)(x y:Int):Gq:=tb 14 10 (fin (lZ q x) (.int .u64 y))
theorem afQ(q:Km)(x y:Int):semAt (lI q x y)=some (do pure (.value (<-convert 141 21 (.int .u64 y)))):=HW
def lC(q:Km)(x y:Int):Gq:=tb 16 20 (fin (lI q x y) (.int .i32 y))
theorem ais(q:Km)(x y:Int):semAt (lC q x y)=some (do pure (.value (<-Go.binOp .and 141 (.int .u64 x) (.int .u64 2147483647)))):=HW
def lN(q:Km)(x y:Int):Gq:=tb 19 40 (fin (lC q x y) (.int .u64 0))
theorem ajD(q:Km)(x y:Int):semAt (lN q x y)=some (do pure (.value (<-Go.binOp .eql 21 (.int .i32 y) (.int .i32 0)))):=HW
def W2(q:Km)(x y:Int):Gq:=th 80 (fin (lN q x y) (.bool false))
theorem DJ(q:Km)(x y:Int):semAt (W2 q x y)=some (callFunc 177 #[q.m,.int .u64 x,.int .u64 (IntKind.u64.wrap (x+1))]):=HW
theorem MD(q:Km)(x y:Int):tb 11 60 (fin (W2 q x y) (.bool false))=WL {q with J:=au (tb 11 60 (fin (W2 q x y) (.bool false)))}:=HW
def Wc(q:Km)(x y:Int):Gq:=tb 56 60 (fin (W2 q x y) (.bool true))
theorem Qd(q:Km)(x y:Int):semAt (Wc q x y)=some (do pure (.value (<-convert 195 189 q.sm))):=HW
def Ww(q:Km)(x y:Int):Gq:=tb 57 10 (fin (Wc q x y) q.sm)
theorem JV(q:Km)(x y:Int):semAt (Ww q x y)=some (callFunc 139 #[q.sm]):=HW
def mw(q:Km)(x y:Int):Gq:=tb 59 40 (fin (Ww q x y) (.tuple #[]))
theorem Sz(q:Km)(x y:Int):semAt (mw q x y)=some (do pure (.value (<-Go.binOp .and 141 (.int .u64 x) (.int .u64 2147483648)))):=HW
def W3(q:Km)(x y:Int):Gq:=th 80 (fin (mw q x y) (.int .u64 0))
theorem zS(q:Km)(x y:Int):semAt (W3 q x y)=some (callFunc 140 #[q.sm,.bool false]):=HW
def W4(q:Km)(x y:Int):Gq:=th 60 (fin (W3 q x y) (.tuple #[]))
theorem wz(q:Km)(x y:Int):semAt (W4 q x y)=some (callFunc 171 #[q.m]):=HW
def lf(q:Km)(x y:Int):Gq:=th 80 (fin (W4 q x y) (.int .u64 0))
theorem Dj(q:Km)(x y:Int):semAt (lf q x y)=some (callFunc 123 #[]):=HW
def fU(q:Km)(x y:Int):Gq:=tb 80 20 (fin (lf q x y) (.tuple #[]))
theorem rE(q:Km)(x y:Int):semAt (fU q x y)=some (do pure (.value (<-convert 187 189 q.m))):=HW
def kZ(q:Km)(x y:Int):Gq:=tb 81 10 (fin (fU q x y) q.m)
theorem KM(q:Km)(x y:Int):semAt (kZ q x y)=some (callFunc 136 #[q.m]):=HW
structure Al where
 wg:Nat
 cb:Nat
 n:Int
 i:Int:=0
 J:Nat->HH
 cs:Fi
def ahh(P:Program)(g:Gq):Gq:=match g.frame.todo with|.inRegion _ (_::_)::_=>fin g undef|.code (.region _ ops _)::k=>{g with frame:={g.frame with todo:=.inRegion ops (List.range ops.size)::k}}|_=>(bY P g).getD g
def IG(P:Program)(fn d:Nat):Nat->Gq->Gq|0,g=>g|n+1,g=>match xO fn d g with|true=>g|false=>IG P fn d n (ahh P g)
noncomputable def tl(d n:Nat)(g:Gq):Gq:=aL prog 35 d n g
def adN(q:Al):DS:=#[q.J 0,q.J 1,q.J 2,q.J 3,q.J 4,q.J 5,q.J 6,q.J 7,q.J 8,q.J 9,.pointer (some ⟨q.cb,0,none⟩),.pointer (some ⟨q.wg,0,none⟩),q.J 12,q.J 13,q.J 14,q.J 15,q.J 16,q.J 17,q.J 18,q.J 19,q.J 20,q.J 21,q.J 22,q.J 23,q.J 24,q.J 25,q.J 26,q.J 27,.int .i64 q.n,.int .i64 q.i,q.J 30,q.J 31,q.J 32,q.J 33,q.J 34,q.J 35,q.J 36,q.J 37,q.J 38,q.J 39,q.J 40,q.J 41,q.J 42]
noncomputable def LH(q:Al):Gq:=eM (IG prog 35 30 120 (R (Frame.enter prog 35 #[undef,undef,undef] .normal) q.cs)) (adN q)
theorem Gl(q:Al):semAt (LH q)=some (do pure (.value (<-Go.binOp .lss 3 (.int .i64 q.i) (.int .i64 q.n)))):=HW
def L6(q:Al):Gq:=tl 31 40 (fin (LH q) (.bool true))
def ad(q:Al):Km:={b:=q.wg,c:=(L6 q).frame,cs:=q.cs}
theorem ah1(q:Al):bY prog (L6 q)=some (oQ (ad q)):=HW
def Lg(q:Al):Gq:=th 30 (ad q).bk
noncomputable def fE(g:Gq):Gq×Gq:=match stepG prog true g default with|.spawn g' c _ _=>(g',c)|_=>(g,g)
theorem UX(q:Al):(Lg q).status=.running:=HW
theorem Rf(q:Al):(Lg q).offers=none:=HW
theorem Ry(q:Al)(w:HA):stepG prog true (Lg q) w=.spawn (fE (Lg q)).1 (fE (Lg q)).2 w #[]:=HW
theorem OB(q:Al)(Q:Ko.Wk):bY prog (fE (Lg q)).2=some (Ko.jK {Q with wg:=q.wg,cb:=q.cb}):=HW
theorem RP(q:Al):(fE (Lg q)).2.status=.running:=HW
theorem Ua(q:Al):(fE (Lg q)).1.status=.running:=HW
theorem U8(q:Al):tl 30 60 (fE (Lg q)).1=LH {q with i:=IntKind.i64.wrap (q.i+1),J:=au (tl 30 60 (fE (Lg q)).1)}:=HW
def L9(q:Al):Gq:=tl 34 60 (fin (LH q) (.bool false))
def aX(q:Al):Km:={b:=q.wg,c:=(L9 q).frame,cs:=q.cs}
theorem UO(q:Al):bY prog (L9 q)=some (pa (aX q)):=HW
end Km
