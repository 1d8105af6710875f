/- Agree, a part. -/
import Derived.Test.YtjebhbopmfcopaaGreatDoorZX
import Derived.Test.YtjebhbopmfcopaaGreatDoorZa
set_option maxRecDepth 100000
namespace Go.Proofs.YtjebhbopmfcopaaGreatDoor
open Go.Proofs Tryz
noncomputable section
namespace Kd
open Conc Kw Kl Ph
theorem DG:cN prog 170 (Extern.Atomic.update (Op.intArith .add) .u64 true) true:=⟨(prog.funcs[170]?).getD default,HW,HW,HW,HW,HW,HW⟩
theorem An:cN prog 171 (Extern.Atomic.loadT (.int .u64)) true:=⟨(prog.funcs[171]?).getD default,HW,HW,HW,HW,HW,HW⟩
theorem Pe:cN prog 172 Extern.Atomic.storeT true:=⟨(prog.funcs[172]?).getD default,HW,HW,HW,HW,HW,HW⟩
theorem Og:cN prog 133 Extern.Sync.semrelease true:=⟨(prog.funcs[133]?).getD default,HW,HW,HW,HW,HW,HW⟩
theorem Db:prog.underlying 187=some (.pointer 145):=HW
theorem KW:(prog.info? 145).map (λi=>decide (i.size=0))=some false:=HW
def iD(P:Program)(g:Gq):Gq:=match stepG P false g default with|.go g' _ _=>g'|_=>g
noncomputable def Za(q:Kd)(x z y k u t:Int):Gq:=aN prog 40 (fin (my q x z y k u t) (.bool true))
noncomputable def Zb(q:Kd)(x z y k u t:Int):Gq:=aN prog 40 (fin (mG q x z y k u t) (.bool true))
noncomputable def Zc(q:Kd)(x z y k u t:Int):Gq:=aN prog 40 (fin (pM q x z y k u t) (.bool true))
noncomputable def Zd(q:Kd)(x z y k u t e r:Int):Gq:=aN prog 40 (fin (pC q x z y k u t e r) (.bool false))
theorem Lr(q:Kd)(x z y k u t:Int):(Za q x z y k u t).status=.running:=HW
theorem aby(q:Kd)(x z y k u t:Int):(Zb q x z y k u t).status=.running:=HW
theorem agC(q:Kd)(x z y k u t:Int):(Zc q x z y k u t).status=.running:=HW
theorem ajN(q:Kd)(x z y k u t e r:Int):(Zd q x z y k u t e r).status=.running:=HW
theorem akh(q:Kd)(x z y k u t:Int)(w:HA):stepG prog false (Za q x z y k u t) w=.go (iD prog (Za q x z y k u t)) w #[mk .enable]:=HW
theorem ag0(q:Kd)(x z y k u t:Int)(w:HA):stepG prog false (Zb q x z y k u t) w=.go (iD prog (Zb q x z y k u t)) w #[mk .enable]:=HW
theorem ajp(q:Kd)(x z y k u t:Int)(w:HA):stepG prog false (Zc q x z y k u t) w=.go (iD prog (Zc q x z y k u t)) w #[mk .enable]:=HW
theorem LF(q:Kd)(x z y k u t e r:Int)(w:HA):stepG prog false (Zd q x z y k u t e r) w=.go (iD prog (Zd q x z y k u t e r)) w #[mk .enable]:=HW
theorem S9(q:Kd)(x z y k u t:Int):aN prog 4 (iD prog (Za q x z y k u t))=R {q.c with mode:=.returning} q.cs:=HW
theorem acN(q:Kd)(x z y k u t:Int):aN prog 4 (iD prog (Zb q x z y k u t))=R {q.c with mode:=.returning} q.cs:=HW
theorem ND(q:Kd)(x z y k u t:Int):aN prog 4 (iD prog (Zc q x z y k u t))=R {q.c with mode:=.returning} q.cs:=HW
theorem aeu(q:Kd)(x z y k u t e r:Int):aN prog 4 (iD prog (Zd q x z y k u t e r))=R {q.c with mode:=.returning} q.cs:=HW
end Kd
