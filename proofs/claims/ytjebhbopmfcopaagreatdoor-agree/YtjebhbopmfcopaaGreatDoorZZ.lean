/- Agree, a part. -/
import Derived.Test.YtjebhbopmfcopaaGreatDoorZS
set_option maxRecDepth 100000
namespace Go.Proofs.YtjebhbopmfcopaaGreatDoor
open Go.Proofs Tryz
noncomputable section
variable{v:HH}
namespace Kd
open Conc Kw Kl
def mh(q:Kd)(x z y k u t:Int):Gq:=ta 77 20 (fin (mX q x z y k u t) (.bool false))
theorem ag9(q:Kd)(x z y k u t:Int):semAt (mh q x z y k u t)=some (do pure (.value (<-Go.binOp .neq 132 (.int .u32 t) (.int .u32 0)))):=HW
theorem xy(q:Kd)(x z y k u t:Int)(a:calm? (α:=Next) prog (do pure (.value (<-Go.binOp .neq 132 (.int .u32 t) (.int .u32 0))))=some (.value v)):aa prog (fin (mX q x z y k u t) (.bool false)) (fin (mh q x z y k u t) v):=ah (fn:=68) (d:=77) (n:=20) (ag9 q x z y k u t) a
def my(q:Kd)(x z y k u t:Int):Gq:=ta 90 60 (fin (mh q x z y k u t) (.bool true))
theorem agT(q:Kd)(x z y k u t:Int):semAt (my q x z y k u t)=some (do pure (.value (<-Go.binOp .gtr 21 (.int .i32 k) (.int .i32 0)))):=HW
theorem K9(q:Kd)(x z y k u t:Int)(a:calm? (α:=Next) prog (do pure (.value (<-Go.binOp .gtr 21 (.int .i32 k) (.int .i32 0))))=some (.value v)):aa prog (fin (mh q x z y k u t) (.bool true)) (fin (my q x z y k u t) v):=ah (fn:=68) (d:=90) (n:=60) (agT q x z y k u t) a
def oZ(q:Kd)(x z y k u t:Int):Gq:=ta 93 20 (fin (my q x z y k u t) (.bool false))
theorem U2(q:Kd)(x z y k u t:Int):semAt (oZ q x z y k u t)=some (do pure (.value (<-Go.binOp .eql 132 (.int .u32 t) (.int .u32 0)))):=HW
theorem ahD(q:Kd)(x z y k u t:Int)(a:calm? (α:=Next) prog (do pure (.value (<-Go.binOp .eql 132 (.int .u32 t) (.int .u32 0))))=some (.value v)):aa prog (fin (my q x z y k u t) (.bool false)) (fin (oZ q x z y k u t) v):=ah (fn:=68) (d:=93) (n:=20) (U2 q x z y k u t) a
def mG(q:Kd)(x z y k u t:Int):Gq:=ta 90 60 (fin (mh q x z y k u t) (.bool false))
theorem Y7(q:Kd)(x z y k u t:Int):semAt (mG q x z y k u t)=some (do pure (.value (<-Go.binOp .gtr 21 (.int .i32 k) (.int .i32 0)))):=HW
theorem Ed(q:Kd)(x z y k u t:Int)(a:calm? (α:=Next) prog (do pure (.value (<-Go.binOp .gtr 21 (.int .i32 k) (.int .i32 0))))=some (.value v)):aa prog (fin (mh q x z y k u t) (.bool false)) (fin (mG q x z y k u t) v):=ah (fn:=68) (d:=90) (n:=60) (Y7 q x z y k u t) a
def pM(q:Kd)(x z y k u t:Int):Gq:=ta 93 20 (fin (mG q x z y k u t) (.bool false))
theorem NU(q:Kd)(x z y k u t:Int):semAt (pM q x z y k u t)=some (do pure (.value (<-Go.binOp .eql 132 (.int .u32 t) (.int .u32 0)))):=HW
theorem afB(q:Kd)(x z y k u t:Int)(a:calm? (α:=Next) prog (do pure (.value (<-Go.binOp .eql 132 (.int .u32 t) (.int .u32 0))))=some (.value v)):aa prog (fin (mG q x z y k u t) (.bool false)) (fin (pM q x z y k u t) v):=ah (fn:=68) (d:=93) (n:=20) (NU q x z y k u t) a
noncomputable def D2(q:Kd)(x z y k u t:Int):Gq:=aL prog 130 6 60 (fin (oZ q x z y k u t) (.bool false))
theorem Hx(q:Kd)(x z y k u t:Int):semAt (D2 q x z y k u t)=some (callFunc 171 #[q.m]):=HW
theorem Mq(q:Kd)(x z y k u t:Int):aa prog (fin (oZ q x z y k u t) (.bool false)) (D2 q x z y k u t):=ap prog 130 6 60 _
def ou(q:Kd)(x z y k u t e:Int):Gq:=ta 100 40 (fin (D2 q x z y k u t) (.int .u64 e))
theorem TL(q:Kd)(x z y k u t e:Int):semAt (ou q x z y k u t e)=some (do pure (.value (<-Go.binOp .neq 141 (.int .u64 e) (.int .u64 x)))):=HW
theorem Zq(q:Kd)(x z y k u t e:Int)(a:calm? (α:=Next) prog (do pure (.value (<-Go.binOp .neq 141 (.int .u64 e) (.int .u64 x))))=some (.value v)):aa prog (fin (D2 q x z y k u t) (.int .u64 e)) (fin (ou q x z y k u t e) v):=ah (fn:=68) (d:=100) (n:=40) (TL q x z y k u t e) a
noncomputable def D3(q:Kd)(x z y k u t e:Int):Gq:=aL prog 131 8 60 (fin (ou q x z y k u t e) (.bool false))
theorem FD(q:Kd)(x z y k u t e:Int):semAt (D3 q x z y k u t e)=some (callFunc 172 #[q.m,.int .u64 0]):=HW
theorem abg(q:Kd)(x z y k u t e:Int):aa prog (fin (ou q x z y k u t e) (.bool false)) (D3 q x z y k u t e):=ap prog 131 8 60 _
def pY(q:Kd)(x z y k u t e:Int):Gq:=ta 110 60 (fin (D3 q x z y k u t e) (.tuple #[]))
theorem Xb(q:Kd)(x z y k u t e:Int):semAt (pY q x z y k u t e)=some (do pure (.value (<-Go.binOp .neq 132 (.int .u32 t) (.int .u32 0)))):=HW
theorem RX(q:Kd)(x z y k u t e:Int)(a:calm? (α:=Next) prog (do pure (.value (<-Go.binOp .neq 132 (.int .u32 t) (.int .u32 0))))=some (.value v)):aa prog (fin (D3 q x z y k u t e) (.tuple #[])) (fin (pY q x z y k u t e) v):=ah (fn:=68) (d:=110) (n:=60) (Xb q x z y k u t e) a
def D4(q:Kd)(x z y k u t e:Int):Gq:=ta 116 40 (fin (pY q x z y k u t e) (.bool true))
theorem Jq(q:Kd)(x z y k u t e:Int):semAt (D4 q x z y k u t e)=some (callFunc 133 #[.pointer (some ⟨q.b,1,none⟩),.bool false,.int .i64 0]):=HW
theorem YW(q:Kd)(x z y k u t e:Int):aa prog (fin (pY q x z y k u t e) (.bool true)) (D4 q x z y k u t e):=ap prog 68 116 40 _
def oK(q:Kd)(x z y k u t e:Int):Gq:=ta 112 40 (fin (D4 q x z y k u t e) (.tuple #[]))
theorem QV(q:Kd)(x z y k u t e:Int):semAt (oK q x z y k u t e)=some (do pure (.value (<-Go.binOp .sub 132 (.int .u32 t) (.int .u32 1)))):=HW
theorem aj7(q:Kd)(x z y k u t e:Int)(a:calm? (α:=Next) prog (do pure (.value (<-Go.binOp .sub 132 (.int .u32 t) (.int .u32 1))))=some (.value v)):aa prog (fin (D4 q x z y k u t e) (.tuple #[])) (fin (oK q x z y k u t e) v):=ah (fn:=68) (d:=112) (n:=40) (QV q x z y k u t e) a
def pC(q:Kd)(x z y k u t e r:Int):Gq:=ta 110 40 (fin (oK q x z y k u t e) (.int .u32 r))
theorem aae(q:Kd)(x z y k u t e r:Int):semAt (pC q x z y k u t e r)=some (do pure (.value (<-Go.binOp .neq 132 (.int .u32 r) (.int .u32 0)))):=HW
theorem Lj(q:Kd)(x z y k u t e r:Int)(a:calm? (α:=Next) prog (do pure (.value (<-Go.binOp .neq 132 (.int .u32 r) (.int .u32 0))))=some (.value v)):aa prog (fin (oK q x z y k u t e) (.int .u32 r)) (fin (pC q x z y k u t e r) v):=ah (fn:=68) (d:=110) (n:=40) (aae q x z y k u t e r) a
end Kd
