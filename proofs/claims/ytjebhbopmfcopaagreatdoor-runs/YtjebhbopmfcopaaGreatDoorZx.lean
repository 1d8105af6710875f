/- Runs, a part. -/
import Derived.Test.YtjebhbopmfcopaaGreatDoorZw
set_option maxRecDepth 100000
namespace Go.Proofs.YtjebhbopmfcopaaGreatDoor
open Go.Proofs Tryz
noncomputable section
namespace Kd
open Conc Kw Kl Ph
set_option maxRecDepth 100000
theorem FZ:cK prog 170 (Extern.Atomic.update (Op.intArith .add) .u64 true) true:=⟨(prog.funcs[170]?).getD default,by kernel_rfl,by kernel_rfl,by kernel_rfl,by kernel_rfl,by kernel_rfl,by kernel_rfl⟩
theorem Ae:cK prog 171 (Extern.Atomic.loadT (.int .u64)) true:=⟨(prog.funcs[171]?).getD default,by kernel_rfl,by kernel_rfl,by kernel_rfl,by kernel_rfl,by kernel_rfl,by kernel_rfl⟩
theorem JY:cK prog 172 Extern.Atomic.storeT true:=⟨(prog.funcs[172]?).getD default,by kernel_rfl,by kernel_rfl,by kernel_rfl,by kernel_rfl,by kernel_rfl,by kernel_rfl⟩
theorem afh:cK prog 133 Extern.Sync.semrelease true:=⟨(prog.funcs[133]?).getD default,by kernel_rfl,by kernel_rfl,by kernel_rfl,by kernel_rfl,by kernel_rfl,by kernel_rfl⟩
theorem GU:prog.underlying 187=some (.pointer 145):=by kernel_rfl
theorem Jh:(prog.info? 145).map (λi=>decide (i.size=0))=some false:=by kernel_rfl
def iu(P:Program)(g:Dm):Dm:=match stepG P false g default with|.go g' _ _=>g'|_=>g
noncomputable def Za(q:Kd)(x z y k u t:Int):Dm:=aM prog 40 (fin (mF q x z y k u t) (.bool true))
noncomputable def Zb(q:Kd)(x z y k u t:Int):Dm:=aM prog 40 (fin (mD q x z y k u t) (.bool true))
noncomputable def Zc(q:Kd)(x z y k u t:Int):Dm:=aM prog 40 (fin (ov q x z y k u t) (.bool true))
noncomputable def Zd(q:Kd)(x z y k u t e r:Int):Dm:=aM prog 40 (fin (oF q x z y k u t e r) (.bool false))
theorem YC(q:Kd)(x z y k u t:Int):(Za q x z y k u t).status=.running:=by kernel_rfl
theorem Rh(q:Kd)(x z y k u t:Int):(Zb q x z y k u t).status=.running:=by kernel_rfl
theorem S6(q:Kd)(x z y k u t:Int):(Zc q x z y k u t).status=.running:=by kernel_rfl
theorem Yf(q:Kd)(x z y k u t e r:Int):(Zd q x z y k u t e r).status=.running:=by kernel_rfl
theorem Kq(q:Kd)(x z y k u t:Int)(w:DS):stepG prog false (Za q x z y k u t) w=.go (iu prog (Za q x z y k u t)) w #[mk .enable]:=by kernel_rfl
theorem Xo(q:Kd)(x z y k u t:Int)(w:DS):stepG prog false (Zb q x z y k u t) w=.go (iu prog (Zb q x z y k u t)) w #[mk .enable]:=by kernel_rfl
theorem ZY(q:Kd)(x z y k u t:Int)(w:DS):stepG prog false (Zc q x z y k u t) w=.go (iu prog (Zc q x z y k u t)) w #[mk .enable]:=by kernel_rfl
theorem MQ(q:Kd)(x z y k u t e r:Int)(w:DS):stepG prog false (Zd q x z y k u t e r) w=.go (iu prog (Zd q x z y k u t e r)) w #[mk .enable]:=by kernel_rfl
theorem abO(q:Kd)(x z y k u t:Int):aM prog 4 (iu prog (Za q x z y k u t))=R {q.c with mode:=.returning} q.cs:=by kernel_rfl
theorem agJ(q:Kd)(x z y k u t:Int):aM prog 4 (iu prog (Zb q x z y k u t))=R {q.c with mode:=.returning} q.cs:=by kernel_rfl
theorem N4(q:Kd)(x z y k u t:Int):aM prog 4 (iu prog (Zc q x z y k u t))=R {q.c with mode:=.returning} q.cs:=by kernel_rfl
theorem Qn(q:Kd)(x z y k u t e r:Int):aM prog 4 (iu prog (Zd q x z y k u t e r))=R {q.c with mode:=.returning} q.cs:=by kernel_rfl
end Kd
end
end Go.Proofs.YtjebhbopmfcopaaGreatDoor
