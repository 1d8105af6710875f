/- Runs, a part. -/
import Derived.Test.YtjebhbopmfcopaaGreatDoorZe
set_option maxRecDepth 100000
namespace Go.Proofs.YtjebhbopmfcopaaGreatDoor
open Go.Proofs Tryz
noncomputable section
variable{v:Fi}
namespace Kd
open Conc Kw Kl
set_option maxRecDepth 100000
def lE(q:Kd)(x z y k u t:Int):Dm:=ta 77 20 (fin (nZ q x z y k u t) (.bool false))
theorem XE(q:Kd)(x z y k u t:Int):semAt (lE q x z y k u t)=some (do pure (.value (<-Go.binOp .neq 132 (.int .u32 t) (.int .u32 0)))):=by kernel_rfl
theorem Aj(q:Kd)(x z y k u t:Int)(a:calm? (α:=Next) prog (do pure (.value (<-Go.binOp .neq 132 (.int .u32 t) (.int .u32 0))))=some (.value v)):aa prog (fin (nZ q x z y k u t) (.bool false)) (fin (lE q x z y k u t) v):=ah (fn:=68) (d:=77) (n:=20) (XE q x z y k u t) a
def mF(q:Kd)(x z y k u t:Int):Dm:=ta 90 60 (fin (lE q x z y k u t) (.bool true))
theorem N7(q:Kd)(x z y k u t:Int):semAt (mF q x z y k u t)=some (do pure (.value (<-Go.binOp .gtr 21 (.int .i32 k) (.int .i32 0)))):=by kernel_rfl
theorem Bx(q:Kd)(x z y k u t:Int)(a:calm? (α:=Next) prog (do pure (.value (<-Go.binOp .gtr 21 (.int .i32 k) (.int .i32 0))))=some (.value v)):aa prog (fin (lE q x z y k u t) (.bool true)) (fin (mF q x z y k u t) v):=ah (fn:=68) (d:=90) (n:=60) (N7 q x z y k u t) a
def pR(q:Kd)(x z y k u t:Int):Dm:=ta 93 20 (fin (mF q x z y k u t) (.bool false))
theorem Yl(q:Kd)(x z y k u t:Int):semAt (pR q x z y k u t)=some (do pure (.value (<-Go.binOp .eql 132 (.int .u32 t) (.int .u32 0)))):=by kernel_rfl
theorem aeo(q:Kd)(x z y k u t:Int)(a:calm? (α:=Next) prog (do pure (.value (<-Go.binOp .eql 132 (.int .u32 t) (.int .u32 0))))=some (.value v)):aa prog (fin (mF q x z y k u t) (.bool false)) (fin (pR q x z y k u t) v):=ah (fn:=68) (d:=93) (n:=20) (Yl q x z y k u t) a
def mD(q:Kd)(x z y k u t:Int):Dm:=ta 90 60 (fin (lE q x z y k u t) (.bool false))
theorem Oa(q:Kd)(x z y k u t:Int):semAt (mD q x z y k u t)=some (do pure (.value (<-Go.binOp .gtr 21 (.int .i32 k) (.int .i32 0)))):=by kernel_rfl
theorem CF(q:Kd)(x z y k u t:Int)(a:calm? (α:=Next) prog (do pure (.value (<-Go.binOp .gtr 21 (.int .i32 k) (.int .i32 0))))=some (.value v)):aa prog (fin (lE q x z y k u t) (.bool false)) (fin (mD q x z y k u t) v):=ah (fn:=68) (d:=90) (n:=60) (Oa q x z y k u t) a
def ov(q:Kd)(x z y k u t:Int):Dm:=ta 93 20 (fin (mD q x z y k u t) (.bool false))
theorem Sw(q:Kd)(x z y k u t:Int):semAt (ov q x z y k u t)=some (do pure (.value (<-Go.binOp .eql 132 (.int .u32 t) (.int .u32 0)))):=by kernel_rfl
theorem Sb(q:Kd)(x z y k u t:Int)(a:calm? (α:=Next) prog (do pure (.value (<-Go.binOp .eql 132 (.int .u32 t) (.int .u32 0))))=some (.value v)):aa prog (fin (mD q x z y k u t) (.bool false)) (fin (ov q x z y k u t) v):=ah (fn:=68) (d:=93) (n:=20) (Sw q x z y k u t) a
noncomputable def D2(q:Kd)(x z y k u t:Int):Dm:=aK prog 130 6 60 (fin (pR q x z y k u t) (.bool false))
theorem Dz(q:Kd)(x z y k u t:Int):semAt (D2 q x z y k u t)=some (callFunc 171 #[q.m]):=by kernel_rfl
theorem adi(q:Kd)(x z y k u t:Int):aa prog (fin (pR q x z y k u t) (.bool false)) (D2 q x z y k u t):=ay prog 130 6 60 _
def oZ(q:Kd)(x z y k u t e:Int):Dm:=ta 100 40 (fin (D2 q x z y k u t) (.int .u64 e))
theorem ahd(q:Kd)(x z y k u t e:Int):semAt (oZ q x z y k u t e)=some (do pure (.value (<-Go.binOp .neq 141 (.int .u64 e) (.int .u64 x)))):=by kernel_rfl
theorem S8(q:Kd)(x z y k u t e:Int)(a:calm? (α:=Next) prog (do pure (.value (<-Go.binOp .neq 141 (.int .u64 e) (.int .u64 x))))=some (.value v)):aa prog (fin (D2 q x z y k u t) (.int .u64 e)) (fin (oZ q x z y k u t e) v):=ah (fn:=68) (d:=100) (n:=40) (ahd q x z y k u t e) a
noncomputable def D3(q:Kd)(x z y k u t e:Int):Dm:=aK prog 131 8 60 (fin (oZ q x z y k u t e) (.bool false))
theorem GY(q:Kd)(x z y k u t e:Int):semAt (D3 q x z y k u t e)=some (callFunc 172 #[q.m,.int .u64 0]):=by kernel_rfl
theorem SH(q:Kd)(x z y k u t e:Int):aa prog (fin (oZ q x z y k u t e) (.bool false)) (D3 q x z y k u t e):=ay prog 131 8 60 _
def oX(q:Kd)(x z y k u t e:Int):Dm:=ta 110 60 (fin (D3 q x z y k u t e) (.tuple #[]))
theorem SP(q:Kd)(x z y k u t e:Int):semAt (oX q x z y k u t e)=some (do pure (.value (<-Go.binOp .neq 132 (.int .u32 t) (.int .u32 0)))):=by kernel_rfl
theorem aeC(q:Kd)(x z y k u t e:Int)(a:calm? (α:=Next) prog (do pure (.value (<-Go.binOp .neq 132 (.int .u32 t) (.int .u32 0))))=some (.value v)):aa prog (fin (D3 q x z y k u t e) (.tuple #[])) (fin (oX q x z y k u t e) v):=ah (fn:=68) (d:=110) (n:=60) (SP q x z y k u t e) a
def D4(q:Kd)(x z y k u t e:Int):Dm:=ta 116 40 (fin (oX q x z y k u t e) (.bool true))
theorem Hk(q:Kd)(x z y k u t e:Int):semAt (D4 q x z y k u t e)=some (callFunc 133 #[.pointer (some ⟨q.b,1,none⟩),.bool false,.int .i64 0]):=by kernel_rfl
theorem Xj(q:Kd)(x z y k u t e:Int):aa prog (fin (oX q x z y k u t e) (.bool true)) (D4 q x z y k u t e):=ay prog 68 116 40 _
def oY(q:Kd)(x z y k u t e:Int):Dm:=ta 112 40 (fin (D4 q x z y k u t e) (.tuple #[]))
theorem ae4(q:Kd)(x z y k u t e:Int):semAt (oY q x z y k u t e)=some (do pure (.value (<-Go.binOp .sub 132 (.int .u32 t) (.int .u32 1)))):=by kernel_rfl
theorem NN(q:Kd)(x z y k u t e:Int)(a:calm? (α:=Next) prog (do pure (.value (<-Go.binOp .sub 132 (.int .u32 t) (.int .u32 1))))=some (.value v)):aa prog (fin (D4 q x z y k u t e) (.tuple #[])) (fin (oY q x z y k u t e) v):=ah (fn:=68) (d:=112) (n:=40) (ae4 q x z y k u t e) a
def oF(q:Kd)(x z y k u t e r:Int):Dm:=ta 110 40 (fin (oY q x z y k u t e) (.int .u32 r))
theorem YN(q:Kd)(x z y k u t e r:Int):semAt (oF q x z y k u t e r)=some (do pure (.value (<-Go.binOp .neq 132 (.int .u32 r) (.int .u32 0)))):=by kernel_rfl
theorem VF(q:Kd)(x z y k u t e r:Int)(a:calm? (α:=Next) prog (do pure (.value (<-Go.binOp .neq 132 (.int .u32 r) (.int .u32 0))))=some (.value v)):aa prog (fin (oY q x z y k u t e) (.int .u32 r)) (fin (oF q x z y k u t e r) v):=ah (fn:=68) (d:=110) (n:=40) (YN q x z y k u t e r) a
end Kd
end
end Go.Proofs.YtjebhbopmfcopaaGreatDoor
