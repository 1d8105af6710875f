/- Agree, a part. -/
import Derived.Test.YtjebhbopmfcopaaGreatDoorZT
import Derived.Test.YtjebhbopmfcopaaGreatDoorZZ
set_option maxRecDepth 100000
namespace Go.Proofs.YtjebhbopmfcopaaGreatDoor
open Go.Proofs Tryz
noncomputable section
namespace Kd
open Conc Kw Kl
theorem xk(y:Int):calm? (α:=Next) prog (do pure (.value (<-convert 141 21 (.int .u64 y))))=some (.value (.int .i32 (IntKind.i32.wrap y))):=HW
theorem ajl(y:Int):calm? (α:=Next) prog (do pure (.value (<-convert 141 132 (.int .u64 y))))=some (.value (.int .u32 (IntKind.u32.wrap y))):=HW
section
attribute[local irreducible]D1 pj oD oW oU pR oq mX mh my mG oZ pM D2 ou D3 pY D4 oK pC fin aL ta
theorem Fy(q:Kd){a b:Nat}(d:a<=63)(c:b<=1):aa prog (fin (D1 q) (.int .u64 (gw a b))) (fin (mX q (gw a b) 0 a a b b) (.bool false)):=by have e1:=WE q (gw a b) (ov (yD d c));have e2:=ae1 q (gw a b) 0 (dN .u64 (r:=false) rfl);have g:=ahr q (gw a b) 0 (zg (yH d c));have e:=ahQ q (gw a b) 0 a (xk a);rw[Bj d c]at e;have h:=ai5 q (gw a b) 0 a a (ov (zC d c));have f:=aki q (gw a b) 0 a a b (ajl b);rw[ako d c]at f;have i:=Ts q (gw a b) 0 a a b b (Fp .i32 (r:=false) HY);exact e1.trans (e2.trans (g.trans (e.trans (h.trans (f.trans i)))))
theorem adW(q:Kd):aa prog (fin (D1 q) (.int .u64 (gw 0 1))) (D2 q (gw 0 1) 0 0 0 1 1):=by have e:=Fy q (a:=0) (b:=1) J1 J1;have e1:=xy q (gw 0 1) 0 0 0 1 1 (dN .u32 (r:=true) rfl);have e2:=K9 q (gw 0 1) 0 0 0 1 1 (oM .i32 (r:=false) rfl);have c:=ahD q (gw 0 1) 0 0 0 1 1 (cS .u32 (r:=false) rfl);exact e.trans (e1.trans (e2.trans (c.trans (Mq q _ _ _ _ _ _))))
theorem adT(q:Kd):aa prog (fin (D2 q (gw 0 1) 0 0 0 1 1) (.int .u64 (gw 0 1))) (D3 q (gw 0 1) 0 0 0 1 1 (gw 0 1)):=(Zq q (gw 0 1) 0 0 0 1 1 (gw 0 1) (dN .u64 (r:=false) rfl)).trans (abg q _ _ _ _ _ _ _)
theorem aku(q:Kd):aa prog (fin (D3 q (gw 0 1) 0 0 0 1 1 (gw 0 1)) (.tuple #[])) (D4 q (gw 0 1) 0 0 0 1 1 (gw 0 1)):=(RX q (gw 0 1) 0 0 0 1 1 (gw 0 1) (dN .u32 (r:=true) rfl)).trans (YW q _ _ _ _ _ _ _)
end
end Kd
