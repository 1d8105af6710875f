/- Runs, a part. -/
import Derived.Test.YtjebhbopmfcopaaGreatDoorZj
set_option maxRecDepth 100000
namespace Go.Proofs.YtjebhbopmfcopaaGreatDoor
open Go.Proofs Tryz
noncomputable section
namespace Km
open Conc Kw Kl
set_option maxRecDepth 100000
structure Km where
 b:Nat
 c:Frame
 cs:B8
 J:Nat->Fi:=λ_=>undef
abbrev Km.m(q:Km):Fi:=.pointer (some ⟨q.b,0,none⟩)
abbrev Km.sm(q:Km):Fi:=.pointer (some ⟨q.b,1,none⟩)
abbrev Km.bk(q:Km):Dm:=R (q.c.finish (.tuple #[])) q.cs
noncomputable def ta(d n:Nat)(g:Dm):Dm:=aK prog 68 d n g
noncomputable def tb(d n:Nat)(g:Dm):Dm:=aK prog 72 d n g
noncomputable def th(n:Nat)(g:Dm):Dm:=aM prog n g
noncomputable def lq(g:Dm):Dm:=match stepG prog true g default with|.go g' _ _=>g'|_=>g
noncomputable def pz(q:Km):Dm:=R (Frame.enter prog 68 #[q.m,.int .i64 1] .normal) (q.c::q.cs)
def Md(q:Km):Dm:=ta 14 40 (pz q)
theorem BM(q:Km):semAt (Md q)=some (callFunc 122 #[]):=by kernel_rfl
noncomputable def Ma(q:Km):Dm:=aK prog 128 9 90 (fin (Md q) (.tuple #[]))
theorem Hw(q:Km):semAt (Ma q)=some (callFunc 170 #[q.m,.int .u64 4294967296]):=by kernel_rfl
def lR(q:Km)(x:Int):Dm:=ta 45 30 (fin (Ma q) (.int .u64 x))
theorem acb(q:Km)(x:Int):semAt (lR q x)=some (do pure (.value (<-Go.binOp .and 141 (.int .u64 x) (.int .u64 2147483648)))):=by kernel_rfl
def mf(q:Km)(x:Int):Dm:=ta 53 60 (fin (lR q x) (.int .u64 0))
theorem aba(q:Km)(x:Int):semAt (mf q x)=some (do pure (.value (<-Go.binOp .shr 141 (.int .u64 x) (.int .i64 32)))):=by kernel_rfl
def fK(q:Km)(x y:Int):Dm:=ta 54 10 (fin (mf q x) (.int .u64 y))
theorem yZ(q:Km)(x y:Int):semAt (fK q x y)=some (do pure (.value (<-convert 141 21 (.int .u64 y)))):=by kernel_rfl
def mz(q:Km)(x y:Int):Dm:=ta 56 20 (fin (fK q x y) (.int .i32 y))
theorem Oy(q:Km)(x y:Int):semAt (mz q x y)=some (do pure (.value (<-Go.binOp .and 141 (.int .u64 x) (.int .u64 2147483647)))):=by kernel_rfl
def iT(q:Km)(x y:Int):Dm:=ta 66 60 (fin (mz q x y) (.int .u64 0))
theorem DW(q:Km)(x y:Int):semAt (iT q x y)=some (do pure (.value (<-Go.binOp .eql 21 (.int .i32 y) (.int .i32 1)))):=by kernel_rfl
def Mv(q:Km)(x:Int):Dm:=ta 71 30 (fin (iT q x 1) (.bool true))
theorem Lf(q:Km)(x:Int):semAt (Mv q x)=some (do pure (.value (<-convert 195 189 q.sm))):=by kernel_rfl
def Mr(q:Km)(x:Int):Dm:=ta 72 10 (fin (Mv q x) q.sm)
theorem DN(q:Km)(x:Int):semAt (Mr q x)=some (callFunc 129 #[q.sm]):=by kernel_rfl
def iA(q:Km)(x:Int):Dm:=th 80 (fin (Mr q x) (.tuple #[]))
def lU(q:Km)(x y:Int):Dm:=ta 74 30 (fin (iT q x y) (.bool false))
theorem ahC(q:Km)(x y:Int):semAt (lU q x y)=some (do pure (.value (<-Go.binOp .lss 21 (.int .i32 y) (.int .i32 0)))):=by kernel_rfl
def mI(q:Km)(x y:Int):Dm:=ta 90 80 (fin (lU q x y) (.bool false))
theorem Xi(q:Km)(x y:Int):semAt (mI q x y)=some (do pure (.value (<-Go.binOp .gtr 21 (.int .i32 y) (.int .i32 0)))):=by kernel_rfl
def ig(q:Km)(x y:Int):Dm:=th 40 (fin (mI q x y) (.bool true))
theorem T9(q:Km)(x:Int):(iA q x).status=.running:=by kernel_rfl
theorem Rk(q:Km)(x y:Int):(ig q x y).status=.running:=by kernel_rfl
theorem Qg(q:Km)(x:Int):(iA q x).offers=none:=by kernel_rfl
theorem aeR(q:Km)(x y:Int):(ig q x y).offers=none:=by kernel_rfl
theorem P8(q:Km)(x:Int)(w:DS):stepG prog true (iA q x) w=.go (lq (iA q x)) w #[⟨.mark .enable,false,true⟩]:=by kernel_rfl
theorem OG(q:Km)(x y:Int)(w:DS):stepG prog true (ig q x y) w=.go (lq (ig q x y)) w #[⟨.mark .enable,false,true⟩]:=by kernel_rfl
theorem ahj(q:Km)(x:Int):th 1 (lq (iA q x))=q.bk:=by kernel_rfl
theorem abI(q:Km)(x y:Int):th 1 (lq (ig q x y))=q.bk:=by kernel_rfl
noncomputable def oW(q:Km):Dm:=R (Frame.enter prog 72 #[q.m] .normal) (q.c::q.cs)
def K0(q:Km):Dm:=tb 7 20 (oW q)
theorem IR(q:Km):semAt (K0 q)=some (callFunc 122 #[]):=by kernel_rfl
def Mz(q:Km):B6:=#[q.m,q.J 1,q.J 2,q.J 3,q.J 4,q.J 5,q.J 6,q.J 7,q.m,q.m,q.m,q.J 11,q.J 12,q.J 13,q.J 14,q.J 15,q.J 16,q.J 17,q.J 18,q.J 19,q.J 20,q.J 21,q.J 22,q.J 23,q.J 24,q.J 25,q.J 26,q.J 27,q.J 28,q.J 29,q.J 30,q.J 31,q.J 32,q.J 33,q.J 34,q.J 35,q.J 36,q.J 37,q.J 38,q.J 39,q.J 40,q.J 41,q.J 42,q.J 43,q.J 44,q.J 45,q.J 46,q.J 47,q.J 48,q.J 49,q.J 50,q.J 51,q.J 52,q.J 53,q.J 54,q.J 55,q.J 56,q.J 57,q.J 58,q.J 59,q.J 60,q.J 61,q.J 62,q.J 63,q.J 64,q.J 65,q.J 66,q.J 67,q.J 68,q.J 69,q.J 70,q.J 71,q.J 72,q.J 73,q.J 74,q.J 75,q.J 76,q.J 77,q.J 78,q.J 79,q.J 80,q.J 81,q.J 82,q.J 83]
def WL(q:Km):Dm:=eG (tb 11 40 (fin (K0 q) (.tuple #[]))) (Mz q)
theorem OJ(q:Km):tb 11 40 (fin (K0 q) (.tuple #[]))=WL {q with J:=ak (tb 11 40 (fin (K0 q) (.tuple #[])))}:=by kernel_rfl
noncomputable def W1(q:Km):Dm:=aK prog 130 6 30 (WL q)
theorem CJ(q:Km):semAt (W1 q)=some (callFunc 171 #[q.m]):=by kernel_rfl
def kQ(q:Km):Dm:=tb 20 80 (fin (W1 q) (.int .u64 0))
theorem Cy(q:Km):semAt (kQ q)=some (callFunc 123 #[]):=by kernel_rfl
def lI(q:Km):Dm:=tb 22 20 (fin (kQ q) (.tuple #[]))
theorem ah1(q:Km):semAt (lI q)=some (do pure (.value (<-convert 187 189 q.m))):=by kernel_rfl
def kF(q:Km):Dm:=tb 23 10 (fin (lI q) q.m)
theorem IM(q:Km):semAt (kF q)=some (callFunc 136 #[q.m]):=by kernel_rfl
def lW(q:Km)(x:Int):Dm:=tb 13 40 (fin (W1 q) (.int .u64 x))
theorem aex(q:Km)(x:Int):semAt (lW q x)=some (do pure (.value (<-Go.binOp .shr 141 (.int .u64 x) (.int .i64 32)))):=by kernel_rfl
def mM(q:Km)(x y:Int):Dm:=tb 14 10 (fin (lW q x) (.int .u64 y))
theorem RV(q:Km)(x y:Int):semAt (mM q x y)=some (do pure (.value (<-convert 141 21 (.int .u64 y)))):=by kernel_rfl
def mn(q:Km)(x y:Int):Dm:=tb 16 20 (fin (mM q x y) (.int .i32 y))
theorem ac2(q:Km)(x y:Int):semAt (mn q x y)=some (do pure (.value (<-Go.binOp .and 141 (.int .u64 x) (.int .u64 2147483647)))):=by kernel_rfl
def mq(q:Km)(x y:Int):Dm:=tb 19 40 (fin (mn q x y) (.int .u64 0))
theorem agO(q:Km)(x y:Int):semAt (mq q x y)=some (do pure (.value (<-Go.binOp .eql 21 (.int .i32 y) (.int .i32 0)))):=by kernel_rfl
def W2(q:Km)(x y:Int):Dm:=th 80 (fin (mq q x y) (.bool false))
theorem Ex(q:Km)(x y:Int):semAt (W2 q x y)=some (callFunc 177 #[q.m,.int .u64 x,.int .u64 (IntKind.u64.wrap (x+1))]):=by kernel_rfl
theorem ad7(q:Km)(x y:Int):tb 11 60 (fin (W2 q x y) (.bool false))=WL {q with J:=ak (tb 11 60 (fin (W2 q x y) (.bool false)))}:=by kernel_rfl
def Wc(q:Km)(x y:Int):Dm:=tb 56 60 (fin (W2 q x y) (.bool true))
theorem Yc(q:Km)(x y:Int):semAt (Wc q x y)=some (do pure (.value (<-convert 195 189 q.sm))):=by kernel_rfl
def Ww(q:Km)(x y:Int):Dm:=tb 57 10 (fin (Wc q x y) q.sm)
theorem Gy(q:Km)(x y:Int):semAt (Ww q x y)=some (callFunc 139 #[q.sm]):=by kernel_rfl
def lY(q:Km)(x y:Int):Dm:=tb 59 40 (fin (Ww q x y) (.tuple #[]))
theorem Xf(q:Km)(x y:Int):semAt (lY q x y)=some (do pure (.value (<-Go.binOp .and 141 (.int .u64 x) (.int .u64 2147483648)))):=by kernel_rfl
def W3(q:Km)(x y:Int):Dm:=th 80 (fin (lY q x y) (.int .u64 0))
theorem AV(q:Km)(x y:Int):semAt (W3 q x y)=some (callFunc 140 #[q.sm,.bool false]):=by kernel_rfl
def W4(q:Km)(x y:Int):Dm:=th 60 (fin (W3 q x y) (.tuple #[]))
theorem vb(q:Km)(x y:Int):semAt (W4 q x y)=some (callFunc 171 #[q.m]):=by kernel_rfl
def j3(q:Km)(x y:Int):Dm:=th 80 (fin (W4 q x y) (.int .u64 0))
theorem Di(q:Km)(x y:Int):semAt (j3 q x y)=some (callFunc 123 #[]):=by kernel_rfl
def fO(q:Km)(x y:Int):Dm:=tb 80 20 (fin (j3 q x y) (.tuple #[]))
theorem qC(q:Km)(x y:Int):semAt (fO q x y)=some (do pure (.value (<-convert 187 189 q.m))):=by kernel_rfl
def lj(q:Km)(x y:Int):Dm:=tb 81 10 (fin (fO q x y) q.m)
theorem Jc(q:Km)(x y:Int):semAt (lj q x y)=some (callFunc 136 #[q.m]):=by kernel_rfl
structure Al where
 wg:Nat
 cb:Nat
 n:Int
 i:Int:=0
 J:Nat->Fi
 cs:B8
def XG(P:Program)(g:Dm):Dm:=match g.frame.todo with|.inRegion _ (_::_)::_=>fin g undef|.code (.region _ ops _)::k=>{g with frame:={g.frame with todo:=.inRegion ops (List.range ops.size)::k}}|_=>(bQ P g).getD g
def Bz(P:Program)(fn d:Nat):Nat->Dm->Dm|0,g=>g|n+1,g=>match AP fn d g with|true=>g|false=>Bz P fn d n (XG P g)
noncomputable def tl(d n:Nat)(g:Dm):Dm:=aK prog 35 d n g
def ZG(q:Al):B6:=#[q.J 0,q.J 1,q.J 2,q.J 3,q.J 4,q.J 5,q.J 6,q.J 7,q.J 8,q.J 9,.pointer (some ⟨q.cb,0,none⟩),.pointer (some ⟨q.wg,0,none⟩),q.J 12,q.J 13,q.J 14,q.J 15,q.J 16,q.J 17,q.J 18,q.J 19,q.J 20,q.J 21,q.J 22,q.J 23,q.J 24,q.J 25,q.J 26,q.J 27,.int .i64 q.n,.int .i64 q.i,q.J 30,q.J 31,q.J 32,q.J 33,q.J 34,q.J 35,q.J 36,q.J 37,q.J 38,q.J 39,q.J 40,q.J 41,q.J 42]
noncomputable def LH(q:Al):Dm:=eG (Bz prog 35 30 120 (R (Frame.enter prog 35 #[undef,undef,undef] .normal) q.cs)) (ZG q)
theorem C9(q:Al):semAt (LH q)=some (do pure (.value (<-Go.binOp .lss 3 (.int .i64 q.i) (.int .i64 q.n)))):=by kernel_rfl
def L6(q:Al):Dm:=tl 31 40 (fin (LH q) (.bool true))
def ad(q:Al):Km:={b:=q.wg,c:=(L6 q).frame,cs:=q.cs}
theorem aa8(q:Al):bQ prog (L6 q)=some (pz (ad q)):=by kernel_rfl
def Lg(q:Al):Dm:=th 30 (ad q).bk
noncomputable def fB(g:Dm):Dm×Dm:=match stepG prog true g default with|.spawn g' c _ _=>(g',c)|_=>(g,g)
theorem TG(q:Al):(Lg q).status=.running:=by kernel_rfl
theorem aaG(q:Al):(Lg q).offers=none:=by kernel_rfl
theorem agD(q:Al)(w:DS):stepG prog true (Lg q) w=.spawn (fB (Lg q)).1 (fB (Lg q)).2 w #[]:=by kernel_rfl
theorem TS(q:Al)(Q:Ko.Wk):bQ prog (fB (Lg q)).2=some (Ko.jO {Q with wg:=q.wg,cb:=q.cb}):=by kernel_rfl
theorem ahN(q:Al):(fB (Lg q)).2.status=.running:=by kernel_rfl
theorem Ze(q:Al):(fB (Lg q)).1.status=.running:=by kernel_rfl
theorem Lm(q:Al):tl 30 60 (fB (Lg q)).1=LH {q with i:=IntKind.i64.wrap (q.i+1),J:=ak (tl 30 60 (fB (Lg q)).1)}:=by kernel_rfl
def L9(q:Al):Dm:=tl 34 60 (fin (LH q) (.bool false))
def bw(q:Al):Km:={b:=q.wg,c:=(L9 q).frame,cs:=q.cs}
theorem afj(q:Al):bQ prog (L9 q)=some (oW (bw q)):=by kernel_rfl
end Km
end
end Go.Proofs.YtjebhbopmfcopaaGreatDoor
