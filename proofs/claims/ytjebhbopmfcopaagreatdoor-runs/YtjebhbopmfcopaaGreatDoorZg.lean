/- Runs, a part. -/
import Derived.Test.YtjebhbopmfcopaaGreatDoorZa
set_option maxRecDepth 100000
namespace Go.Proofs.YtjebhbopmfcopaaGreatDoor
open Go.Proofs Tryz
noncomputable section
namespace Ka
open Conc Kw Kl
set_option maxRecDepth 100000
structure Ac where
 b:Nat
 c:Frame
 cs:B8
 s:Fo
 i:Int:=0
 J:Nat->Fi:=λ_=>undef
abbrev Ac.p(q:Ac)(o:Nat):Fi:=.pointer (some ⟨q.b,o,none⟩)
def adq(q:Ac):B6:=#[.pointer (some ⟨q.b,8,none⟩),.string q.s,q.J 2,q.J 3,q.J 4,q.J 5,q.J 6,q.J 7,.int .i64 q.s.size,.int .i64 q.i,q.J 10,q.J 11,q.J 12,q.J 13,q.J 14,q.J 15,q.J 16,q.J 17,q.J 18,q.J 19,q.J 20,q.J 21,q.J 22,q.J 23,q.J 24,q.J 25,q.J 26,q.J 27,q.J 28,q.J 29,q.J 30,q.J 31,q.J 32,q.J 33,q.J 34,q.J 35,q.J 36,q.J 37,q.J 38,q.J 39,q.J 40,q.J 41,q.J 42,q.J 43,q.J 44]
def PV(q:Ac):B6:=#[.pointer (some ⟨q.b,8,none⟩),.string q.s,q.J 2,q.J 3,.int .i64 q.i,q.J 5,q.J 6,q.J 7,.int .i64 q.s.size,.int .i64 q.i,q.J 10,q.J 11,q.J 12,q.J 13,q.J 14,q.J 15,q.J 16,q.J 17,q.J 18,q.J 19,q.J 20,q.J 21,q.J 22,q.J 23,q.J 24,q.J 25,q.J 26,q.J 27,.string q.s,.int .i64 q.i,q.J 30,q.J 31,q.J 32,q.J 33,q.J 34,q.J 35,q.J 36,q.J 37,q.J 38,q.J 39,q.J 40,q.J 41,q.J 42,q.J 43,q.J 44]
noncomputable def jA(q:Ac):Dm:=R (Frame.enter prog 176 #[q.p 8,.string q.s] .normal) (q.c::q.cs)
noncomputable def tz(d n:Nat)(g:Dm):Dm:=aK prog 176 d n g
def H(q:Ac):Dm:=eG (tz 10 40 (jA q)) (adq q)
theorem Nf(q:Ac):tz 10 40 (jA q)=H {q with i:=0,J:=ak (tz 10 40 (jA q))}:=by kernel_rfl
theorem EU(q:Ac):semAt (H q)=some (do pure (.value (<-Go.binOp .lss 3 (.int .i64 q.i) (.int .i64 q.s.size)))):=by kernel_rfl
def H1(q:Ac):Dm:=tz 14 40 (fin (H q) (.bool true))
theorem Zh(q:Ac):semAt (H1 q)=some (do pure (.value (<-Instr.index 9 (.string q.s) (.int .i64 q.i)))):=by kernel_rfl
noncomputable def H2(q:Ac)(x:Int):Dm:=aK prog 178 7 60 (fin (H1 q) (.int .u8 x))
theorem agG(q:Ac)(x:Int):semAt (H2 q x)=some (callFunc 206 #[.string ⟨#[90,88,72,85]⟩,.int .u8 x]):=by kernel_rfl
def H3(q:Ac)(x k:Int):Dm:=tz 17 60 (fin (H2 q x) (.int .i64 k))
theorem H'(q:Ac)(x k:Int):semAt (H3 q x k)=some (do pure (.value (<-Go.binOp .geq 3 (.int .i64 k) (.int .i64 0)))):=by kernel_rfl
noncomputable def Hd(q:Ac)(x:Int)(k:Nat):Dm:=aM prog 30 (fin (H3 q x k) (.bool true))
def lT:Array Oper:=(da (Hd ⟨0,default,[],default,0,λ_=>undef⟩ 0 0)).getD #[]
theorem aeI(q:Ac)(x:Int)(k:Nat):da (Hd q x k)=some lT:=by kernel_rfl
theorem N3:sound lT=true:=by kernel_rfl
theorem ac4:lT.size=11:=by kernel_rfl
theorem Uy(q:Ac)(x:Int)(k:Nat):(Hd q x k).frame.kind=.normal:=by kernel_rfl
def V5(q:Ac)(o k:Nat)(n:Int)(i:Nat):Fi:=match i with|1=>.int .i64 k|3|8=>q.p o|4|9=>q.p (o+k)|5=>.int .i64 n|6=>.int .i64 (IntKind.i64.wrap (n+1))|10=>undef|_=>q.p 8
def E5(q:Ac)(x:Int)(k:Nat)(n:Int):Dm:=bG (Hd q x k) lT (V5 q 11 k n)
def x5(q:Ac)(x:Int)(k:Nat)(n:Int)(i:Nat):Option (Sem Next):=(lT[i]?).map λo=>execOp (E5 q x k n).frame.eval o
theorem xw(q:Ac)(x:Int)(k:Nat)(n:Int):(x5 q x k n 0).map (calm? prog)=some (some (.value (V5 q 11 k n 0))):=by kernel_rfl
theorem yj(q:Ac)(x:Int)(k:Nat)(n:Int):(x5 q x k n 1).map (calm? prog)=some (some (.value (V5 q 11 k n 1))):=by kernel_rfl
theorem xr(q:Ac)(x:Int)(k:Nat)(n:Int):(x5 q x k n 2).map (calm? prog)=some (some (.value (V5 q 11 k n 2))):=by kernel_rfl
theorem yE(q:Ac)(x:Int)(k:Nat)(n:Int):(x5 q x k n 3).map (calm? prog)=some (some (.value (V5 q 11 k n 3))):=by kernel_rfl
theorem Tt(q:Ac)(x:Int)(k:Nat)(n:Int):(x5 q x k n 6).map (calm? prog)=some (some (.value (V5 q 11 k n 6))):=by kernel_rfl
theorem agf(q:Ac)(x:Int)(k:Nat)(n:Int):(x5 q x k n 7).map (calm? prog)=some (some (.value (V5 q 11 k n 7))):=by kernel_rfl
theorem acv(q:Ac)(x:Int)(k:Nat)(n:Int):(x5 q x k n 8).map (calm? prog)=some (some (.value (V5 q 11 k n 8))):=by kernel_rfl
theorem zP(q:Ac)(x:Int)(k:Nat)(n:Int):x5 q x k n 4=some (do pure (.value (<-Instr.indexAt 37 (q.p 11) (.int .i64 k)))):=by kernel_rfl
theorem aeV(q:Ac)(x:Int)(k:Nat)(n:Int):x5 q x k n 9=some (do pure (.value (<-Instr.indexAt 37 (q.p 11) (.int .i64 k)))):=by kernel_rfl
theorem xR(q:Ac)(x:Int)(k:Nat)(n:Int):x5 q x k n 5=some (do pure (.value (<-Instr.loadAt 3 (q.p (11+k))))):=by kernel_rfl
theorem WY(q:Ac)(x:Int)(k:Nat)(n:Int):x5 q x k n 10=some (do Instr.storeAt 3 (q.p (11+k)) (.int .i64 (IntKind.i64.wrap (n+1)));pure .skip):=by kernel_rfl
theorem abA:(lT[10]?).map (·.dst)=some none:=by kernel_rfl
def M(q:Ac):Dm:=eG (tz 30 60 (fin (H3 {q with i:=0,J:=λ_=>undef} 0 (-1)) (.bool false))) (PV q)
theorem aeZ(q:Ac)(x k:Int):tz 30 60 (fin (H3 q x k) (.bool false))=M {q with J:=ak (tz 30 60 (fin (H3 q x k) (.bool false)))}:=by kernel_rfl
theorem PB(q:Ac)(x:Int)(k:Nat)(n:Int):tz 30 60 (E5 q x k n)=M {q with J:=ak (tz 30 60 (E5 q x k n))}:=by kernel_rfl
theorem TU(q:Ac):semAt (M q)=some (do pure (.value (<-Instr.index 9 (.string q.s) (.int .i64 q.i)))):=by kernel_rfl
noncomputable def M2(q:Ac)(x:Int):Dm:=aK prog 178 7 60 (fin (M q) (.int .u8 x))
theorem xT(q:Ac)(x:Int):semAt (M2 q x)=some (callFunc 206 #[.string ⟨#[122,120,104,117]⟩,.int .u8 x]):=by kernel_rfl
def M3(q:Ac)(x k:Int):Dm:=tz 33 60 (fin (M2 q x) (.int .i64 k))
theorem Gh(q:Ac)(x k:Int):semAt (M3 q x k)=some (do pure (.value (<-Go.binOp .geq 3 (.int .i64 k) (.int .i64 0)))):=by kernel_rfl
noncomputable def Md(q:Ac)(x:Int)(k:Nat):Dm:=aM prog 30 (fin (M3 q x k) (.bool true))
def lN:Array Oper:=(da (Md ⟨0,default,[],default,0,λ_=>undef⟩ 0 0)).getD #[]
theorem Yx(q:Ac)(x:Int)(k:Nat):da (Md q x k)=some lN:=by kernel_rfl
theorem aah:sound lN=true:=by kernel_rfl
theorem VL:lN.size=11:=by kernel_rfl
theorem SJ(q:Ac)(x:Int)(k:Nat):(Md q x k).frame.kind=.normal:=by kernel_rfl
def E8(q:Ac)(x:Int)(k:Nat)(n:Int):Dm:=bG (Md q x k) lN (V5 q 15 k n)
def x8(q:Ac)(x:Int)(k:Nat)(n:Int)(i:Nat):Option (Sem Next):=(lN[i]?).map λo=>execOp (E8 q x k n).frame.eval o
theorem NT(q:Ac)(x:Int)(k:Nat)(n:Int):(x8 q x k n 0).map (calm? prog)=some (some (.value (V5 q 15 k n 0))):=by kernel_rfl
theorem aaD(q:Ac)(x:Int)(k:Nat)(n:Int):(x8 q x k n 1).map (calm? prog)=some (some (.value (V5 q 15 k n 1))):=by kernel_rfl
theorem acr(q:Ac)(x:Int)(k:Nat)(n:Int):(x8 q x k n 2).map (calm? prog)=some (some (.value (V5 q 15 k n 2))):=by kernel_rfl
theorem ack(q:Ac)(x:Int)(k:Nat)(n:Int):(x8 q x k n 3).map (calm? prog)=some (some (.value (V5 q 15 k n 3))):=by kernel_rfl
theorem adF(q:Ac)(x:Int)(k:Nat)(n:Int):(x8 q x k n 6).map (calm? prog)=some (some (.value (V5 q 15 k n 6))):=by kernel_rfl
theorem Y1(q:Ac)(x:Int)(k:Nat)(n:Int):(x8 q x k n 7).map (calm? prog)=some (some (.value (V5 q 15 k n 7))):=by kernel_rfl
theorem Ow(q:Ac)(x:Int)(k:Nat)(n:Int):(x8 q x k n 8).map (calm? prog)=some (some (.value (V5 q 15 k n 8))):=by kernel_rfl
theorem Mq(q:Ac)(x:Int)(k:Nat)(n:Int):x8 q x k n 4=some (do pure (.value (<-Instr.indexAt 37 (q.p 15) (.int .i64 k)))):=by kernel_rfl
theorem ahu(q:Ac)(x:Int)(k:Nat)(n:Int):x8 q x k n 9=some (do pure (.value (<-Instr.indexAt 37 (q.p 15) (.int .i64 k)))):=by kernel_rfl
theorem afS(q:Ac)(x:Int)(k:Nat)(n:Int):x8 q x k n 5=some (do pure (.value (<-Instr.loadAt 3 (q.p (15+k))))):=by kernel_rfl
theorem LI(q:Ac)(x:Int)(k:Nat)(n:Int):x8 q x k n 10=some (do Instr.storeAt 3 (q.p (15+k)) (.int .i64 (IntKind.i64.wrap (n+1)));pure .skip):=by kernel_rfl
theorem LB:(lN[10]?).map (·.dst)=some none:=by kernel_rfl
theorem aeS(q:Ac)(x k:Int):tz 10 60 (fin (M3 q x k) (.bool false))=H {q with i:=IntKind.i64.wrap (q.i+1),J:=ak (tz 10 60 (fin (M3 q x k) (.bool false)))}:=by kernel_rfl
theorem WG(q:Ac)(x:Int)(k:Nat)(n:Int):tz 10 60 (E8 q x k n)=H {q with i:=IntKind.i64.wrap (q.i+1),J:=ak (tz 10 60 (E8 q x k n))}:=by kernel_rfl
theorem Uq(q:Ac):aM prog 6 (fin (H q) (.bool false))=R (q.c.finish (.tuple #[])) q.cs:=by kernel_rfl
end Ka
end
end Go.Proofs.YtjebhbopmfcopaaGreatDoor
