/- Agree, a part. -/
import Derived.Test.YtjebhbopmfcopaaGreatDoorZM
set_option maxRecDepth 100000
namespace Go.Proofs.YtjebhbopmfcopaaGreatDoor
open Go.Proofs Tryz
noncomputable section
namespace Ka
open Conc Kw Kl
structure Ac where
 b:Nat
 c:Frame
 cs:Fi
 s:HM
 i:Int:=0
 J:Nat->HH:=λ_=>undef
abbrev Ac.p(q:Ac)(o:Nat):HH:=.pointer (some ⟨q.b,o,none⟩)
def RF(q:Ac):DS:=#[.pointer (some ⟨q.b,8,none⟩),.string q.s,q.J 2,q.J 3,q.J 4,q.J 5,q.J 6,q.J 7,.int .i64 q.s.size,.int .i64 q.i,q.J 10,q.J 11,q.J 12,q.J 13,q.J 14,q.J 15,q.J 16,q.J 17,q.J 18,q.J 19,q.J 20,q.J 21,q.J 22,q.J 23,q.J 24,q.J 25,q.J 26,q.J 27,q.J 28,q.J 29,q.J 30,q.J 31,q.J 32,q.J 33,q.J 34,q.J 35,q.J 36,q.J 37,q.J 38,q.J 39,q.J 40,q.J 41,q.J 42,q.J 43,q.J 44]
def Ni(q:Ac):DS:=#[.pointer (some ⟨q.b,8,none⟩),.string q.s,q.J 2,q.J 3,.int .i64 q.i,q.J 5,q.J 6,q.J 7,.int .i64 q.s.size,.int .i64 q.i,q.J 10,q.J 11,q.J 12,q.J 13,q.J 14,q.J 15,q.J 16,q.J 17,q.J 18,q.J 19,q.J 20,q.J 21,q.J 22,q.J 23,q.J 24,q.J 25,q.J 26,q.J 27,.string q.s,.int .i64 q.i,q.J 30,q.J 31,q.J 32,q.J 33,q.J 34,q.J 35,q.J 36,q.J 37,q.J 38,q.J 39,q.J 40,q.J 41,q.J 42,q.J 43,q.J 44]
noncomputable def jS(q:Ac):Gq:=R (Frame.enter prog 176 #[q.p 8,.string q.s] .normal) (q.c::q.cs)
noncomputable def tz(d n:Nat)(g:Gq):Gq:=aL prog 176 d n g
def H(q:Ac):Gq:=eM (tz 10 40 (jS q)) (RF q)
theorem aej(q:Ac):tz 10 40 (jS q)=H {q with i:=0,J:=au (tz 10 40 (jS q))}:=HW
theorem Ek(q:Ac):semAt (H q)=some (do pure (.value (<-Go.binOp .lss 3 (.int .i64 q.i) (.int .i64 q.s.size)))):=HW
def H1(q:Ac):Gq:=tz 14 40 (fin (H q) (.bool true))
theorem abU(q:Ac):semAt (H1 q)=some (do pure (.value (<-Instr.index 9 (.string q.s) (.int .i64 q.i)))):=HW
noncomputable def H2(q:Ac)(x:Int):Gq:=aL prog 178 7 60 (fin (H1 q) (.int .u8 x))
theorem Mi(q:Ac)(x:Int):semAt (H2 q x)=some (callFunc 206 #[.string ⟨#[90,88,72,85]⟩,.int .u8 x]):=HW
def H3(q:Ac)(x k:Int):Gq:=tz 17 60 (fin (H2 q x) (.int .i64 k))
theorem I'(q:Ac)(x k:Int):semAt (H3 q x k)=some (do pure (.value (<-Go.binOp .geq 3 (.int .i64 k) (.int .i64 0)))):=HW
noncomputable def Hd(q:Ac)(x:Int)(k:Nat):Gq:=aN prog 30 (fin (H3 q x k) (.bool true))
def lK:Array Oper:=(da (Hd ⟨0,default,[],default,0,λ_=>undef⟩ 0 0)).getD #[]
theorem ac5(q:Ac)(x:Int)(k:Nat):da (Hd q x k)=some lK:=HW
theorem Vz:sound lK=true:=HW
theorem Ny:lK.size=11:=HW
theorem Ow(q:Ac)(x:Int)(k:Nat):(Hd q x k).frame.kind=.normal:=HW
def V5(q:Ac)(o k:Nat)(n:Int)(i:Nat):HH:=match i with|1=>.int .i64 k|3|8=>q.p o|4|9=>q.p (o+k)|5=>.int .i64 n|6=>.int .i64 (IntKind.i64.wrap (n+1))|10=>undef|_=>q.p 8
def E5(q:Ac)(x:Int)(k:Nat)(n:Int):Gq:=bz (Hd q x k) lK (V5 q 11 k n)
def x5(q:Ac)(x:Int)(k:Nat)(n:Int)(i:Nat):Option (Sem Next):=(lK[i]?).map λo=>execOp (E5 q x k n).frame.eval o
theorem yy(q:Ac)(x:Int)(k:Nat)(n:Int):(x5 q x k n 0).map (calm? prog)=some (some (.value (V5 q 11 k n 0))):=HW
theorem AZ(q:Ac)(x:Int)(k:Nat)(n:Int):(x5 q x k n 1).map (calm? prog)=some (some (.value (V5 q 11 k n 1))):=HW
theorem AU(q:Ac)(x:Int)(k:Nat)(n:Int):(x5 q x k n 2).map (calm? prog)=some (some (.value (V5 q 11 k n 2))):=HW
theorem xL(q:Ac)(x:Int)(k:Nat)(n:Int):(x5 q x k n 3).map (calm? prog)=some (some (.value (V5 q 11 k n 3))):=HW
theorem LC(q:Ac)(x:Int)(k:Nat)(n:Int):(x5 q x k n 6).map (calm? prog)=some (some (.value (V5 q 11 k n 6))):=HW
theorem UL(q:Ac)(x:Int)(k:Nat)(n:Int):(x5 q x k n 7).map (calm? prog)=some (some (.value (V5 q 11 k n 7))):=HW
theorem agR(q:Ac)(x:Int)(k:Nat)(n:Int):(x5 q x k n 8).map (calm? prog)=some (some (.value (V5 q 11 k n 8))):=HW
theorem yE(q:Ac)(x:Int)(k:Nat)(n:Int):x5 q x k n 4=some (do pure (.value (<-Instr.indexAt 37 (q.p 11) (.int .i64 k)))):=HW
theorem SV(q:Ac)(x:Int)(k:Nat)(n:Int):x5 q x k n 9=some (do pure (.value (<-Instr.indexAt 37 (q.p 11) (.int .i64 k)))):=HW
theorem AK(q:Ac)(x:Int)(k:Nat)(n:Int):x5 q x k n 5=some (do pure (.value (<-Instr.loadAt 3 (q.p (11+k))))):=HW
theorem aeS(q:Ac)(x:Int)(k:Nat)(n:Int):x5 q x k n 10=some (do Instr.storeAt 3 (q.p (11+k)) (.int .i64 (IntKind.i64.wrap (n+1)));pure .skip):=HW
theorem aiV:(lK[10]?).map (·.dst)=some none:=HW
def M(q:Ac):Gq:=eM (tz 30 60 (fin (H3 {q with i:=0,J:=λ_=>undef} 0 (-1)) (.bool false))) (Ni q)
theorem agJ(q:Ac)(x k:Int):tz 30 60 (fin (H3 q x k) (.bool false))=M {q with J:=au (tz 30 60 (fin (H3 q x k) (.bool false)))}:=HW
theorem Yk(q:Ac)(x:Int)(k:Nat)(n:Int):tz 30 60 (E5 q x k n)=M {q with J:=au (tz 30 60 (E5 q x k n))}:=HW
theorem Qj(q:Ac):semAt (M q)=some (do pure (.value (<-Instr.index 9 (.string q.s) (.int .i64 q.i)))):=HW
noncomputable def M2(q:Ac)(x:Int):Gq:=aL prog 178 7 60 (fin (M q) (.int .u8 x))
theorem zF(q:Ac)(x:Int):semAt (M2 q x)=some (callFunc 206 #[.string ⟨#[122,120,104,117]⟩,.int .u8 x]):=HW
def M3(q:Ac)(x k:Int):Gq:=tz 33 60 (fin (M2 q x) (.int .i64 k))
theorem Jc(q:Ac)(x k:Int):semAt (M3 q x k)=some (do pure (.value (<-Go.binOp .geq 3 (.int .i64 k) (.int .i64 0)))):=HW
noncomputable def Md(q:Ac)(x:Int)(k:Nat):Gq:=aN prog 30 (fin (M3 q x k) (.bool true))
def mD:Array Oper:=(da (Md ⟨0,default,[],default,0,λ_=>undef⟩ 0 0)).getD #[]
theorem Qc(q:Ac)(x:Int)(k:Nat):da (Md q x k)=some mD:=HW
theorem QC:sound mD=true:=HW
theorem acF:mD.size=11:=HW
theorem ah4(q:Ac)(x:Int)(k:Nat):(Md q x k).frame.kind=.normal:=HW
def E8(q:Ac)(x:Int)(k:Nat)(n:Int):Gq:=bz (Md q x k) mD (V5 q 15 k n)
def x8(q:Ac)(x:Int)(k:Nat)(n:Int)(i:Nat):Option (Sem Next):=(mD[i]?).map λo=>execOp (E8 q x k n).frame.eval o
theorem Ly(q:Ac)(x:Int)(k:Nat)(n:Int):(x8 q x k n 0).map (calm? prog)=some (some (.value (V5 q 15 k n 0))):=HW
theorem ai8(q:Ac)(x:Int)(k:Nat)(n:Int):(x8 q x k n 1).map (calm? prog)=some (some (.value (V5 q 15 k n 1))):=HW
theorem aeZ(q:Ac)(x:Int)(k:Nat)(n:Int):(x8 q x k n 2).map (calm? prog)=some (some (.value (V5 q 15 k n 2))):=HW
theorem ad2(q:Ac)(x:Int)(k:Nat)(n:Int):(x8 q x k n 3).map (calm? prog)=some (some (.value (V5 q 15 k n 3))):=HW
theorem agE(q:Ac)(x:Int)(k:Nat)(n:Int):(x8 q x k n 6).map (calm? prog)=some (some (.value (V5 q 15 k n 6))):=HW
theorem XL(q:Ac)(x:Int)(k:Nat)(n:Int):(x8 q x k n 7).map (calm? prog)=some (some (.value (V5 q 15 k n 7))):=HW
theorem Xh(q:Ac)(x:Int)(k:Nat)(n:Int):(x8 q x k n 8).map (calm? prog)=some (some (.value (V5 q 15 k n 8))):=HW
theorem adH(q:Ac)(x:Int)(k:Nat)(n:Int):x8 q x k n 4=some (do pure (.value (<-Instr.indexAt 37 (q.p 15) (.int .i64 k)))):=HW
theorem abv(q:Ac)(x:Int)(k:Nat)(n:Int):x8 q x k n 9=some (do pure (.value (<-Instr.indexAt 37 (q.p 15) (.int .i64 k)))):=HW
theorem LX(q:Ac)(x:Int)(k:Nat)(n:Int):x8 q x k n 5=some (do pure (.value (<-Instr.loadAt 3 (q.p (15+k))))):=HW
theorem afq(q:Ac)(x:Int)(k:Nat)(n:Int):x8 q x k n 10=some (do Instr.storeAt 3 (q.p (15+k)) (.int .i64 (IntKind.i64.wrap (n+1)));pure .skip):=HW
theorem ahn:(mD[10]?).map (·.dst)=some none:=HW
theorem Of(q:Ac)(x k:Int):tz 10 60 (fin (M3 q x k) (.bool false))=H {q with i:=IntKind.i64.wrap (q.i+1),J:=au (tz 10 60 (fin (M3 q x k) (.bool false)))}:=HW
theorem MG(q:Ac)(x:Int)(k:Nat)(n:Int):tz 10 60 (E8 q x k n)=H {q with i:=IntKind.i64.wrap (q.i+1),J:=au (tz 10 60 (E8 q x k n))}:=HW
theorem M6(q:Ac):aN prog 6 (fin (H q) (.bool false))=R (q.c.finish (.tuple #[])) q.cs:=HW
end Ka
