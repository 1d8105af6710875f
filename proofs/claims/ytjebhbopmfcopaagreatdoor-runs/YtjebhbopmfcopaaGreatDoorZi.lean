/- Runs, a part. -/
import Derived.Test.YtjebhbopmfcopaaGreatDoorZb
import Derived.Test.YtjebhbopmfcopaaGreatDoorZc
import Derived.Test.YtjebhbopmfcopaaGreatDoorZd
import Derived.Test.YtjebhbopmfcopaaGreatDoorZh
set_option maxRecDepth 100000
namespace Go.Proofs.YtjebhbopmfcopaaGreatDoor
open Go.Proofs Tryz
noncomputable section
namespace Kl
open Conc Kw Ph
section
variable(b o:Nat)(c:Frame)(cs:B8)
abbrev q0:Lk:={b:=b,o:=o,c:=c,cs:=cs}
structure Bs(q:Lk):Prop where
 b:q.b=b
 o:q.o=o
 c:q.c=c
 cs:q.cs=cs
structure Is(T:Th)(q:Lk):Prop where
 bs:Bs b o c cs q
 sv:q.sv=T.sv
 aw:q.aw=T.aw
 it:q.it=T.it
 old:q.old=T.old.val
def bO(T:Th)(g:Dm):Prop:=match T.pc with|.ld=>g=Ld (q0 b o c cs)|.l0=>g=L0 (q0 b o c cs)|.r0=>g=R0 (q0 b o c cs)|.sq=>∃q z,Is b o c cs T q/\g=Sq q z|.c1=>∃q z e d,Is b o c cs T q/\g=C1 q z e d ({T.old with k:=1}:Wd).val|.r1=>∃q,Is b o c cs T q/\g=R1 q (T.it+1)|.c2=>∃q,Is b o c cs T q/\g=C2 q (fZ T).val|.t1=>∃q z a,Is b o c cs T q/\g=T1 q z a|.s1=>∃q,Is b o c cs T q/\g=S1 q|.t2=>∃q,Is b o c cs T q/\((T.sv=true/\g=io q)\/(T.sv=false/\g=T2 q))|.r2=>∃q,Is b o c cs T q/\g=R2 q|.a1=>∃q,Bs b o c cs q/\g=A1 q (if T.ex then-11 else-7)|.r3=>∃q,Is b o c cs T q/\g=R3 q|.le=>g=j7 (q0 b o c cs)\/∃q,Bs b o c cs q/\g=iP q|.la=>g=kV (q0 b o c cs)\/∃q,Bs b o c cs q/\g=j4 q|_=>False
end
section
variable{b o:Nat}{c:Frame}{cs:B8}{T:Th}{q:Lk}
attribute[local irreducible]A iw fL Sq B C2 sK kq rQ lb rN C1 gJ sX R1 fin tl qU qB kL so kp T1 np S1 oi io T2 sO ou nG R2 sV lr sw qz rH kC rU ja kP A1 sf R3 iP R0 Ld L0 j7 kV j4
def dF(b o:Nat)(c:Frame)(cs:B8)(g:Dm)(T:Th):Prop:=∃g',aa prog g g'/\bO b o c cs T g'
theorem dF.pre{g a:Dm}(h:aa prog g a)(k:dF b o c cs a T):dF b o c cs g T:=let⟨g',k1,d⟩:=k;⟨g',h.trans k1,d⟩
theorem FK(d:T.old.ok)(e:T.aw=true->T.old.k=1)(a:Is b o c cs T q):dF b o c cs (B q) {T with pc:=.c2}:=by obtain⟨v7,J,h⟩:=Y' (q:=q) d a.old a.sv a.aw e;exact⟨_,h,{q with v7:=v7,J:=J},⟨⟨a.bs.b,a.bs.o,a.bs.c,a.bs.cs⟩,a.sv,a.aw,a.it,a.old⟩,rfl⟩
theorem tH(d:T.old.ok)(e:T.aw=true->T.old.k=1)(a:Is b o c cs T q):dF b o c cs (A q) (head T):=by have h:=fG d;have h1:=h.1;have g:=h.2.2.1;have e1:=af4 q (gu (r:=T.old.l+4*T.old.s) (by rw[a.old];exact uO h));unfold head;by_cases hc:T.old.l=1/\T.old.s=0;(·rw[if_pos hc];have e2:=Cq q (T.old.l+4*T.old.s) (cJ .i32 (r:=true) (by rw[hc.1,hc.2];rfl));exact⟨_,e1.trans (e2.trans (NM q _)),q,_,⟨a.bs,a.sv,a.aw,a.it,a.old⟩,rfl⟩);·rw[if_neg hc];have e2:=Cq q (T.old.l+4*T.old.s) (cJ .i32 (r:=false) (by simp;omega));have f:=acg q (T.old.l+4*T.old.s);exact .pre (e1.trans (e2.trans f)) (FK d e ⟨⟨a.bs.b,a.bs.o,a.bs.c,a.bs.cs⟩,a.sv,a.aw,a.it,a.old⟩)
theorem rG(d:T.it<4)(a:Is b o c cs T q):dF b o c cs (gJ q) {T with pc:=.r1}:=by have e1:=Qo q (xg .i64 (r:=T.it+1) (by rw[a.it];rcases(show T.it=0\/T.it=1\/T.it=2\/T.it=3 by omega)with e|e|e|e<;>rw[e]<;>rfl));exact⟨_,e1.trans (XM q _),q,⟨a.bs,a.sv,a.aw,a.it,a.old⟩,rfl⟩
theorem ZU(m:T.old.ok)(l:T.it<4)(a:Is b o c cs T q)(z:Int):dF b o c cs (fin (Sq q z) (.bool true)) (if T.aw=false/\T.old.k=0/\T.old.w≠0 then{T with pc:=.c1}else{T with pc:=.r1}):=by have h:=fG m;have p:=h.2.1;by_cases d:T.aw=true;(·rw[if_neg (by simp[d])];have e:=KD q z;rw[D7 (a.aw.trans d)]at e;exact .pre e (rG (T:=T) l ⟨⟨a.bs.b,a.bs.o,a.bs.c,a.bs.cs⟩,a.sv,d.symm,a.it,a.old⟩));·(have d:T.aw=false:=by simpa using d);have n:=a.aw.trans d;have e1:=abv q z (gu (r:=2*T.old.k) (by rw[a.old];exact Dc h));rw[D7 n]at e1;rcases(show T.old.k=0\/T.old.k=1 by omega)with f|f;(·have e2:=Hb q z (2*T.old.k) (cJ .i32 (r:=true) (by rw[f];rfl));have g:=TK q z (2*T.old.k) (tJ (r:=T.old.w) (by rw[a.old];exact vg h));by_cases hw:T.old.w=0;(·rw[if_neg (by simp[hw])];have j:=IU q z (2*T.old.k) T.old.w (dO .i32 (r:=false) (by rw[hw];rfl));have i:=aci q z (2*T.old.k) T.old.w;exact .pre (e1.trans (e2.trans (g.trans (j.trans i)))) (rG (T:=T) l ⟨⟨a.bs.b,a.bs.o,a.bs.c,a.bs.cs⟩,a.sv,d.symm,a.it,a.old⟩));·rw[if_pos ⟨d,f,hw⟩];have j:=IU q z (2*T.old.k) T.old.w (dO .i32 (r:=true) (by simp;omega));have i:=Zg q z (2*T.old.k) T.old.w (tX (r:=({T.old with k:=1}:Wd).val) (by rw[a.old];exact JJ h));exact⟨_,e1.trans (e2.trans (g.trans (j.trans (i.trans (Nk q _ _ _ _))))),q,_,_,_,⟨a.bs,a.sv,a.aw,a.it,a.old⟩,rfl⟩);·rw[if_neg (by simp[f])];have e2:=Hb q z (2*T.old.k) (cJ .i32 (r:=false) (by rw[f];rfl));have g:=afO q z (2*T.old.k);exact .pre (e1.trans (e2.trans g)) (rG (T:=T) l ⟨⟨a.bs.b,a.bs.o,a.bs.c,a.bs.cs⟩,a.sv,d.symm,a.it,a.old⟩)
theorem PN(d:T.old.ok)(e:T.aw=true->T.old.k=1)(a:Is b o c cs T q)(z:Int):dF b o c cs (fin (Sq q z) (.bool false)) {T with pc:=.c2}:=.pre (Xw q z) (FK d e ⟨⟨a.bs.b,a.bs.o,a.bs.c,a.bs.cs⟩,a.sv,a.aw,a.it,a.old⟩)
theorem acn(g:T.it<4)(a:Is b o c cs T q)(z e f d:Int):dF b o c cs (fin (C1 q z e f d) (.bool true)) {T with pc:=.r1,aw:=true}:=.pre (Qz q z e f d) (rG (T:={T with aw:=true}) g ⟨⟨a.bs.b,a.bs.o,a.bs.c,a.bs.cs⟩,a.sv,rfl,a.it,a.old⟩)
theorem Z9(h:T.it<4)(g:T.aw=false)(a:Is b o c cs T q)(z f e d:Int):dF b o c cs (fin (C1 q z f e d) (.bool false)) {T with pc:=.r1}:=.pre (UO q z f e d) (rG (T:=T) h ⟨⟨a.bs.b,a.bs.o,a.bs.c,a.bs.cs⟩,a.sv,g.symm,a.it,a.old⟩)
theorem Ri{x:Wd}(a:x.ok):dF b o c cs (fin (R0 (q0 b o c cs)) (.int .i32 x.val)) (head {T with old:=x,aw:=false,sv:=false,it:=0}):=.pre (UB (q0 b o c cs) x.val) (tH (T:={T with old:=x,aw:=false,sv:=false,it:=0}) a (by simp) ⟨⟨rfl,rfl,rfl,rfl⟩,rfl,rfl,rfl,rfl⟩)
theorem Sc{x:Wd}(d:x.ok)(e:T.aw=true->x.k=1)(a:Is b o c cs T q):dF b o c cs (fin (R1 q (T.it+1)) (.int .i32 x.val)) (head {T with old:=x,it:=T.it+1}):=.pre (adp q (T.it+1) x.val) (tH (T:={T with old:=x,it:=T.it+1}) d e ⟨⟨a.bs.b,a.bs.o,a.bs.c,a.bs.cs⟩,a.sv,a.aw,by simp,rfl⟩)
theorem N5{x:Wd}(d:x.ok)(e:T.aw=true->x.k=1)(a:Is b o c cs T q):dF b o c cs (fin (R3 q) (.int .i32 x.val)) (head {T with old:=x}):=.pre (XA q x.val) (tH (T:={T with old:=x}) d e ⟨⟨a.bs.b,a.bs.o,a.bs.c,a.bs.cs⟩,a.sv,a.aw,a.it,rfl⟩)
theorem UF(a:Is b o c cs T q)(y:Int):dF b o c cs (fin (C2 q y) (.bool false)) {T with pc:=.r3}:=by refine⟨_,(Nv q y).trans (ah7 _),_,?_,rfl⟩;exact⟨⟨a.bs.b,a.bs.o,a.bs.c,a.bs.cs⟩,a.sv,a.aw,a.it,a.old⟩
theorem Mn(f:T.old.ok)(h0:T.old.l=0/\T.old.s=0)(a:Is b o c cs T q)(y:Int):dF b o c cs (fin (C2 q y) (.bool true)) {T with pc:=.le}:=by have e1:=Ho q y;generalize ak _=d at e1;have e2:=EK {q with v7:=.int .i32 y,J:=d} (gu (r:=T.old.l+4*T.old.s) (by show land q.old 5=_;rw[a.old];exact uO (fG f)));have g:=Ia {q with v7:=.int .i32 y,J:=d} (T.old.l+4*T.old.s) (cJ .i32 (r:=true) (by rw[h0.1,h0.2];rfl));have e:=ads {q with v7:=.int .i32 y,J:=d} (T.old.l+4*T.old.s);refine⟨_,e1.trans (e2.trans (g.trans e)),.inr ⟨_,?_,rfl⟩⟩;exact⟨a.bs.b,a.bs.o,a.bs.c,a.bs.cs⟩
theorem acH(i:T.old.ok)(h0:T.old.l=1\/T.old.s=1)(a:Is b o c cs T q)(y:Int):∃p,(p=Pc.t1\/p=.s1)/\dF b o c cs (fin (C2 q y) (.bool true)) {T with pc:=p}:=by have e1:=Ho q y;generalize ak _=d at e1;have e2:=EK {q with v7:=.int .i32 y,J:=d} (gu (r:=T.old.l+4*T.old.s) (by show land q.old 5=_;rw[a.old];exact uO (fG i)));have f:=Ia {q with v7:=.int .i32 y,J:=d} (T.old.l+4*T.old.s) (cJ .i32 (r:=false) (by simp;omega));have g:=PS {q with v7:=.int .i32 y,J:=d} (T.old.l+4*T.old.s) (dO .i64 rfl);by_cases hz:q.ws=0;(·have e:=Ik {q with v7:=.int .i32 y,J:=d} (T.old.l+4*T.old.s) (q.ws !=0) (cJ .i64 (r:=true) (by simpa using hz));refine⟨.t1,.inl rfl,_,e1.trans (e2.trans (f.trans (g.trans (e.trans (Ug _ _ _))))),_,_,_,?_,rfl⟩;exact⟨⟨a.bs.b,a.bs.o,a.bs.c,a.bs.cs⟩,a.sv,a.aw,a.it,a.old⟩);·have e:=Ik {q with v7:=.int .i32 y,J:=d} (T.old.l+4*T.old.s) (q.ws !=0) (cJ .i64 (r:=false) (by simpa using hz));have h:=Nl {q with v7:=.int .i32 y,J:=d} (T.old.l+4*T.old.s) (q.ws !=0);refine⟨.s1,.inr rfl,_,e1.trans (e2.trans (f.trans (g.trans (e.trans (h.trans (Ha _)))))),_,?_,rfl⟩;exact⟨⟨a.bs.b,a.bs.o,a.bs.c,a.bs.cs⟩,a.sv,a.aw,a.it,a.old⟩
theorem acJ(d:Is b o c cs T q)(z:Int)(a:Bool)(n:Int):dF b o c cs (fin (T1 q z a) (.int .i64 n)) {T with pc:=.s1}:=by refine⟨_,(aca q z a n).trans (Ha _),_,?_,rfl⟩;exact⟨⟨d.bs.b,d.bs.o,d.bs.c,d.bs.cs⟩,d.sv,d.aw,d.it,d.old⟩
theorem adu(a:Is b o c cs T q)(bt:Bool):dF b o c cs (fin (S1 q) (.tuple #[])) {T with pc:=.t2,bt:=bt}:=by have e1:=OB q;generalize ak _=d at e1;by_cases e:T.sv=true;(·have e2:=Xa {q with J:=d};have:({q with J:=d,sv:=true}:Lk)={q with J:=d}:=qg (q:={q with J:=d}) (a.sv.trans e);rw[this]at e2;refine⟨_,e1.trans e2,_,?_,.inl ⟨e,rfl⟩⟩;exact⟨⟨a.bs.b,a.bs.o,a.bs.c,a.bs.cs⟩,a.sv,a.aw,a.it,a.old⟩);·(have e:T.sv=false:=by simpa using e);have e2:=NO {q with J:=d};have:({q with J:=d,sv:=false}:Lk)={q with J:=d}:=qg (q:={q with J:=d}) (a.sv.trans e);rw[this]at e2;refine⟨_,e1.trans e2,_,?_,.inr ⟨e,rfl⟩⟩;exact⟨⟨a.bs.b,a.bs.o,a.bs.c,a.bs.cs⟩,a.sv,a.aw,a.it,a.old⟩
theorem adE(a:Is b o c cs T q):dF b o c cs (fin (io q) (.bool true)) {T with pc:=.r2,sv:=true}:=by refine⟨_,(ac6 q).trans (BG _),_,?_,rfl⟩;exact⟨⟨a.bs.b,a.bs.o,a.bs.c,a.bs.cs⟩,rfl,a.aw,a.it,a.old⟩
theorem NS(a:Is b o c cs T q)(n:Int):∃r,dF b o c cs (fin (T2 q) (.int .i64 n)) {T with pc:=.r2,sv:=r}:=by have e1:=agW q n (yC .i64 rfl);have e2:=af2 q n (IntKind.i64.wrap (n-q.ws)) (pE .i64 rfl);have d:=VQ q n (IntKind.i64.wrap (n-q.ws)) (decide (IntKind.i64.wrap (n-q.ws)>1000000));refine⟨decide (IntKind.i64.wrap (n-q.ws)>1000000),_,e1.trans (e2.trans (d.trans (BG _))),_,?_,rfl⟩;exact⟨⟨a.bs.b,a.bs.o,a.bs.c,a.bs.cs⟩,rfl,a.aw,a.it,a.old⟩
theorem Vk{x:Wd}(d:x.ok)(g:x.s=0)(f:x.k=1)(a:Is b o c cs T q):dF b o c cs (fin (R2 q) (.int .i32 x.val)) (head {T with old:=x,aw:=true,it:=0}):=by have h:=fG d;have e1:=Fh q x.val (gu (wu h));have e2:=D5 q x.val (4*x.s) (dO .i32 (r:=false) (by rw[g];rfl));have e:=aga q x.val (4*x.s);exact .pre (e1.trans (e2.trans e)) (tH (T:={T with old:=x,aw:=true,it:=0}) d (λ_=>f) ⟨⟨a.bs.b,a.bs.o,a.bs.c,a.bs.cs⟩,a.sv,rfl,rfl,rfl⟩)
theorem abL{x:Wd}(k:x.ok)(n:x.s=1)(j:x.l=0/\x.k=0/\1<=x.w)(a:Is b o c cs T q):dF b o c cs (fin (R2 q) (.int .i32 x.val)) {T with pc:=.a1,ex:=!T.sv||decide (x.w=1)}:=by have h:=fG k;have e1:=Fh q x.val (gu (wu h));have e2:=D5 q x.val (4*x.s) (dO .i32 (r:=true) (by rw[n];rfl));have p:=Zq q x.val (4*x.s) (gu (Vb h));have s:=aaZ q x.val (4*x.s) (x.l+2*x.k) (dO .i32 (r:=false) (by rw[j.1,j.2.1];rfl));have l:=aaR q x.val (4*x.s) (x.l+2*x.k) (tJ (vg h));have m:=agU q x.val (4*x.s) (x.l+2*x.k) x.w (cJ .i32 (r:=false) (by simp;omega));have e:=e1.trans (e2.trans (p.trans (s.trans (l.trans m))));by_cases g:T.sv=true;(·have f1:=acA q x.val (4*x.s) (x.l+2*x.k) x.w (tJ (vg h));rw[qg (a.sv.trans g)]at f1;by_cases hw:x.w=1;(·have f2:=Gl q x.val (4*x.s) (x.l+2*x.k) x.w x.w (cJ .i32 (r:=true) (by rw[hw];rfl));have d:=Vt q x.val (4*x.s) (x.l+2*x.k) x.w x.w;generalize ak _=f at d;have i:=Aq {q with sv:=true,old:=x.val,J:=f} (-11);refine⟨_,e.trans (f1.trans (f2.trans (d.trans i))),{q with sv:=true,old:=x.val,J:=f},⟨a.bs.b,a.bs.o,a.bs.c,a.bs.cs⟩,?_⟩;simp[hw]);·have f2:=Gl q x.val (4*x.s) (x.l+2*x.k) x.w x.w (cJ .i32 (r:=false) (by simp;omega));have d:=acG q x.val (4*x.s) (x.l+2*x.k) x.w x.w;generalize ak _=f at d;have i:=Aq {q with sv:=true,old:=x.val,J:=f} (-7);refine⟨_,e.trans (f1.trans (f2.trans (d.trans i))),{q with sv:=true,old:=x.val,J:=f},⟨a.bs.b,a.bs.o,a.bs.c,a.bs.cs⟩,?_⟩;simp[hw,g]);·(have g:T.sv=false:=by simpa using g);have d:=JX q x.val (4*x.s) (x.l+2*x.k) x.w;rw[qg (a.sv.trans g)]at d;generalize ak _=f at d;have i:=Aq {q with sv:=false,old:=x.val,J:=f} (-11);refine⟨_,e.trans (d.trans i),{q with sv:=false,old:=x.val,J:=f},⟨a.bs.b,a.bs.o,a.bs.c,a.bs.cs⟩,?_⟩;simp[g]
theorem Vh(a:Bs b o c cs q)(d:Int)(v:Fi):dF b o c cs (fin (A1 q d) v) {T with pc:=.le}:=by refine⟨_,acK q d v,.inr ⟨_,?_,rfl⟩⟩;exact⟨a.b,a.o,a.c,a.cs⟩
end
end Kl
namespace Ph
open Conc Kw Kl
set_option maxRecDepth 100000
theorem qW:cK prog 122 (λ_=>do mark .disable;pure Extern.Race.none_) false:=⟨(prog.funcs[122]?).getD default,by kernel_rfl,by kernel_rfl,by kernel_rfl,by kernel_rfl,by kernel_rfl,by kernel_rfl⟩
theorem qV:cK prog 123 (λ_=>do mark .enable;pure Extern.Race.none_) false:=⟨(prog.funcs[123]?).getD default,by kernel_rfl,by kernel_rfl,by kernel_rfl,by kernel_rfl,by kernel_rfl,by kernel_rfl⟩
theorem uZ:cK prog 136 (Extern.Race.marked .acquire) false:=⟨(prog.funcs[136]?).getD default,by kernel_rfl,by kernel_rfl,by kernel_rfl,by kernel_rfl,by kernel_rfl,by kernel_rfl⟩
theorem mN:cK prog 223 (Extern.Atomic.casT (.int .i32)) true:=⟨(prog.funcs[223]?).getD default,by kernel_rfl,by kernel_rfl,by kernel_rfl,by kernel_rfl,by kernel_rfl,by kernel_rfl⟩
theorem H6:cK prog 225 (Extern.Atomic.update (Op.intArith .add) .i32 true) true:=⟨(prog.funcs[225]?).getD default,by kernel_rfl,by kernel_rfl,by kernel_rfl,by kernel_rfl,by kernel_rfl,by kernel_rfl⟩
theorem Dy:cK prog 235 Extern.Sync.canSpin true:=⟨(prog.funcs[235]?).getD default,by kernel_rfl,by kernel_rfl,by kernel_rfl,by kernel_rfl,by kernel_rfl,by kernel_rfl⟩
theorem GL:cK prog 238 Extern.OsHooks.nano true:=⟨(prog.funcs[238]?).getD default,by kernel_rfl,by kernel_rfl,by kernel_rfl,by kernel_rfl,by kernel_rfl,by kernel_rfl⟩
theorem CY:cK prog 239 Extern.Sync.semacquire true:=⟨(prog.funcs[239]?).getD default,by kernel_rfl,by kernel_rfl,by kernel_rfl,by kernel_rfl,by kernel_rfl,by kernel_rfl⟩
theorem pH:prog.underlying 21=some (.int .i32):=by kernel_rfl
theorem uP:(prog.funcs[224]?).any (·.norace)=true:=by kernel_rfl
theorem VS(q:Lk):(R0 q).frame.fn=224:=by kernel_rfl
theorem Td(q:Lk)(t:Int):(R1 q t).frame.fn=224:=by kernel_rfl
theorem Zt(q:Lk):(R2 q).frame.fn=224:=by kernel_rfl
theorem PY(q:Lk):(R3 q).frame.fn=224:=by kernel_rfl
theorem YA(q:Lk):aa prog (fin (Ld q) (.tuple #[])) (L0 q):=ay prog 203 6 50 _
theorem Xy(q:Lk):aa prog (fin (L0 q) (.bool true)) (j7 q):=ay prog 203 7 50 _
theorem ahH(q:Lk):aa prog (fin (L0 q) (.bool false)) (R0 q):=ay prog 224 13 50 _
end Ph
namespace Kt
open Conc Kw Kl
set_option maxRecDepth 100000
structure Tk where
 b:Nat
 c:Frame
 cs:B8
 ra:Option Addr
 N:Nat
 rc:Nat
 n:Int
abbrev Tk.p(q:Tk)(o:Nat):Fi:=.pointer (some ⟨q.b,o,none⟩)
abbrev Tk.ks(q:Tk):B8:=q.c::q.cs
noncomputable def ju(q:Tk):Dm:=R (Frame.enter prog 134 #[q.p 0] .normal) q.ks
noncomputable def Tl(q:Tk):Dm:=aK prog 134 7 40 (ju q)
theorem Nd(q:Tk):bQ prog (Tl q)=some (ko (q0 q.b 5 (Tl q).frame q.ks)):=by kernel_rfl
noncomputable def Tg(q:Tk):Dm:=aM prog 60 (R ((Tl q).frame.finish (.tuple #[])) q.ks)
def jK:Array Oper:=(da (Tg ⟨0,default,[],none,0,0,0⟩)).getD #[]
theorem xL(q:Tk):da (Tg q)=some jK:=by kernel_rfl
theorem vE:sound jK=true:=by kernel_rfl
def V3(q:Tk)(b:Bool)(i:Nat):Fi:=match i with|2=>q.p 7|3=>.int .i64 q.n|6=>q.p 2|7=>.slice q.ra q.N q.rc|8=>.int .i64 q.N|9=>.bool b|_=>q.p 0
def E3(q:Tk)(b:Bool):Dm:=bG (Tg q) jK (V3 q b)
def x3(q:Tk)(b:Bool)(i:Nat):Option (Sem Next):=(jK[i]?).map λo=>execOp (E3 q b).frame.eval o
theorem K'(q:Tk)(b:Bool):(x3 q b 0).map (calm? prog)=some (some (.value (V3 q b 0))):=by kernel_rfl
theorem NP(q:Tk)(b:Bool):(x3 q b 1).map (calm? prog)=some (some (.value (V3 q b 1))):=by kernel_rfl
theorem acO(q:Tk)(b:Bool):(x3 q b 2).map (calm? prog)=some (some (.value (V3 q b 2))):=by kernel_rfl
theorem SY(q:Tk)(b:Bool):x3 q b 3=some (do pure (.value (<-Instr.loadAt 3 (q.p 7)))):=by kernel_rfl
theorem Y0(q:Tk)(b:Bool):(x3 q b 4).map (calm? prog)=some (some (.value (V3 q b 4))):=by kernel_rfl
theorem QM(q:Tk)(b:Bool):(x3 q b 5).map (calm? prog)=some (some (.value (V3 q b 5))):=by kernel_rfl
theorem Kz(q:Tk)(b:Bool):(x3 q b 6).map (calm? prog)=some (some (.value (V3 q b 6))):=by kernel_rfl
theorem acz(q:Tk)(b:Bool):x3 q b 7=some (do pure (.value (<-Instr.loadAt 88 (q.p 2)))):=by kernel_rfl
theorem Lv(q:Tk)(b:Bool):(x3 q b 8).map (calm? prog)=some (some (.value (V3 q b 8))):=by kernel_rfl
theorem Oi(q:Tk)(b:Bool):x3 q b 9=some (do pure (.value (<-Go.binOp .eql 3 (.int .i64 q.n) (.int .i64 q.N)))):=by kernel_rfl
theorem LW:jK.size=10:=by kernel_rfl
theorem agt(q:Tk):(Tg q).frame.kind=.normal:=by kernel_rfl
noncomputable def Z0(q:Tk):Dm:=aK prog 204 6 80 (E3 q true)
def kt(q:Tk):Frame:=(Z0 q).callers.getD 1 default
theorem aav(q:Tk):Z0 q=Um {b:=q.b,o:=5,c:=kt q,cs:=q.ks}:=by kernel_rfl
theorem PF(q:Tk):aM prog 1 (R {kt q with mode:=.returning} q.ks)=R (q.c.finish (.tuple #[.int .i64 0,.bool false])) q.cs:=by kernel_rfl
noncomputable def T5(q:Tk):Dm:=aK prog 134 24 60 (E3 q false)
theorem SO(q:Tk):semAt (T5 q)=some (do pure (.value (<-Instr.loadAt 3 (q.p 7)))):=by kernel_rfl
noncomputable def T6(q:Tk):Dm:=aM prog 20 (fin (T5 q) (.int .i64 q.n))
theorem Oc(q:Tk):semAt (T6 q)=some (do Instr.storeAt 3 (q.p 7) (.int .i64 (IntKind.i64.wrap (q.n+1)));pure .skip):=by kernel_rfl
noncomputable def T7(q:Tk):Dm:=aK prog 134 31 60 (fin (T6 q) undef)
theorem L4(q:Tk):semAt (T7 q)=some (do pure (.value (<-Instr.loadAt 3 (q.p 7)))):=by kernel_rfl
noncomputable def Z1(q:Tk)(m:Int):Dm:=aK prog 204 6 80 (fin (T7 q) (.int .i64 m))
def kG(q:Tk)(m:Int):Frame:=(Z1 q m).callers.getD 1 default
theorem QA(q:Tk)(m:Int):Z1 q m=Um {b:=q.b,o:=5,c:=kG q m,cs:=q.ks}:=by kernel_rfl
theorem Ot(q:Tk)(m:Int):aM prog 1 (R {kG q m with mode:=.returning} q.ks)=R (q.c.finish (.tuple #[.int .i64 (IntKind.i64.wrap (m-1)),.bool true])) q.cs:=by kernel_rfl
end Kt
namespace Kc
open Conc Kw Kl
set_option maxRecDepth 100000
structure Cn where
 b:Nat
 c:Frame
 cs:B8
 r:B6
 v:Int
 s:Fo
 rb:Nat
abbrev Cn.p(q:Cn)(o:Nat):Fi:=.pointer (some ⟨q.b,o,none⟩)
abbrev Cn.pr(q:Cn)(o:Nat):Fi:=.pointer (some ⟨q.rb,o,none⟩)
abbrev Cn.ks(q:Cn):B8:=q.c::q.cs
noncomputable def od(q:Cn):Dm:=R (Frame.enter prog 135 #[q.p 0,.agg q.r] .normal) q.ks
noncomputable def Cb(q:Cn):Dm:=aK prog 135 3 20 (od q)
theorem Xd(q:Cn):semAt (Cb q)=some (do pure (.value (<-Instr.box 52 (.agg q.r)))):=by kernel_rfl
noncomputable def Cl(q:Cn):Dm:=aK prog 135 7 40 (fin (Cb q) (q.pr 0))
theorem Oj(q:Cn):bQ prog (Cl q)=some (ko (q0 q.b 5 (Cl q).frame q.ks)):=by kernel_rfl
noncomputable def Cg(q:Cn):Dm:=aM prog 60 (R ((Cl q).frame.finish (.tuple #[])) q.ks)
def opsV:Array Oper:=(da (Cg ⟨0,default,[],#[],0,default,0⟩)).getD #[]
theorem WN(q:Cn):da (Cg q)=some opsV:=by kernel_rfl
theorem O0:sound opsV=true:=by kernel_rfl
theorem MD:opsV.size=6:=by kernel_rfl
theorem afQ(q:Cn):(Cg q).frame.kind=.normal:=by kernel_rfl
def V4(q:Cn)(i:Nat):Fi:=match i with|2=>q.p 8|3=>q.pr 1|4=>.int .i64 q.v|5=>.tuple #[]|_=>q.p 0
def E4(q:Cn):Dm:=bG (Cg q) opsV (V4 q)
def x4(q:Cn)(i:Nat):Option (Sem Next):=(opsV[i]?).map λo=>execOp (E4 q).frame.eval o
theorem acP(q:Cn):(x4 q 0).map (calm? prog)=some (some (.value (V4 q 0))):=by kernel_rfl
theorem ahn(q:Cn):(x4 q 1).map (calm? prog)=some (some (.value (V4 q 1))):=by kernel_rfl
theorem aff(q:Cn):(x4 q 2).map (calm? prog)=some (some (.value (V4 q 2))):=by kernel_rfl
theorem On(q:Cn):(x4 q 3).map (calm? prog)=some (some (.value (V4 q 3))):=by kernel_rfl
theorem Mp(q:Cn):x4 q 4=some (do pure (.value (<-Instr.loadAt 3 (q.pr 1)))):=by kernel_rfl
theorem Y2(q:Cn):(x4 q 5).map (calm? prog)=some (some (.enter 175 #[q.p 8,.int .i64 q.v])):=by kernel_rfl
noncomputable def Ch(q:Cn):Dm:=aM prog 60 (E4 q)
def pv:Array Oper:=(da (Ch ⟨0,default,[],#[],0,default,0⟩)).getD #[]
theorem afC(q:Cn):da (Ch q)=some pv:=by kernel_rfl
theorem Y9:sound pv=true:=by kernel_rfl
theorem ZQ:pv.size=6:=by kernel_rfl
theorem Pz(q:Cn):(Ch q).frame.kind=.normal:=by kernel_rfl
def V5(q:Cn)(i:Nat):Fi:=match i with|2=>q.p 8|3=>q.pr 7|4=>.string q.s|5=>.tuple #[]|_=>q.p 0
def E5(q:Cn):Dm:=bG (Ch q) pv (V5 q)
def x5(q:Cn)(i:Nat):Option (Sem Next):=(pv[i]?).map λo=>execOp (E5 q).frame.eval o
theorem xw(q:Cn):(x5 q 0).map (calm? prog)=some (some (.value (V5 q 0))):=by kernel_rfl
theorem yj(q:Cn):(x5 q 1).map (calm? prog)=some (some (.value (V5 q 1))):=by kernel_rfl
theorem xr(q:Cn):(x5 q 2).map (calm? prog)=some (some (.value (V5 q 2))):=by kernel_rfl
theorem yE(q:Cn):(x5 q 3).map (calm? prog)=some (some (.value (V5 q 3))):=by kernel_rfl
theorem zP(q:Cn):x5 q 4=some (do pure (.value (<-Instr.loadAt 9 (q.pr 7)))):=by kernel_rfl
theorem xR(q:Cn):(x5 q 5).map (calm? prog)=some (some (.enter 176 #[q.p 8,.string q.s])):=by kernel_rfl
noncomputable def Z2(q:Cn):Dm:=aK prog 204 6 80 (E5 q)
def kU(q:Cn):Frame:=(Z2 q).callers.getD 1 default
theorem KY(q:Cn):Z2 q=Um {b:=q.b,o:=5,c:=kU q,cs:=q.ks}:=by kernel_rfl
theorem Sj(q:Cn):aM prog 1 (R {kU q with mode:=.returning} q.ks)=R (q.c.finish (.tuple #[])) q.cs:=by kernel_rfl
structure Av where
 b:Nat
 c:Frame
 cs:B8
 v:Int
abbrev Av.p(q:Av)(o:Nat):Fi:=.pointer (some ⟨q.b,o,none⟩)
noncomputable def wS(q:Av):Dm:=R (Frame.enter prog 175 #[q.p 8,.int .i64 q.v] .normal) (q.c::q.cs)
noncomputable def A0(q:Av):Dm:=aK prog 175 6 20 (wS q)
theorem vD(q:Av):semAt (A0 q)=some (do pure (.value (<-Go.binOp .eql 3 (.int .i64 q.v) (.int .i64 0)))):=by kernel_rfl
noncomputable def A1(q:Av):Dm:=aK prog 175 15 20 (fin (A0 q) (.bool false))
theorem nR(q:Av):semAt (A1 q)=some (do pure (.value (<-Go.binOp .eql 3 (.int .i64 q.v) (.int .i64 1)))):=by kernel_rfl
noncomputable def A2(q:Av):Dm:=aK prog 175 24 20 (fin (A1 q) (.bool false))
theorem wm(q:Av):semAt (A2 q)=some (do pure (.value (<-Go.binOp .eql 3 (.int .i64 q.v) (.int .i64 2)))):=by kernel_rfl
noncomputable def L0(q:Av):Dm:=aK prog 175 10 20 (fin (A0 q) (.bool true))
theorem qA(q:Av):semAt (L0 q)=some (do pure (.value (<-Instr.loadAt 3 (q.p 8)))):=by kernel_rfl
noncomputable def L1(q:Av):Dm:=aK prog 175 19 20 (fin (A1 q) (.bool true))
theorem aeK(q:Av):semAt (L1 q)=some (do pure (.value (<-Instr.loadAt 3 (q.p 9)))):=by kernel_rfl
noncomputable def L2(q:Av):Dm:=aK prog 175 28 20 (fin (A2 q) (.bool true))
theorem aco(q:Av):semAt (L2 q)=some (do pure (.value (<-Instr.loadAt 3 (q.p 10)))):=by kernel_rfl
noncomputable def S0(q:Av)(n:Int):Dm:=aM prog 20 (fin (L0 q) (.int .i64 n))
theorem AQ(q:Av)(n:Int):semAt (S0 q n)=some (do Instr.storeAt 3 (q.p 8) (.int .i64 (IntKind.i64.wrap (n+1)));pure .skip):=by kernel_rfl
noncomputable def S1(q:Av)(n:Int):Dm:=aM prog 20 (fin (L1 q) (.int .i64 n))
theorem nY(q:Av)(n:Int):semAt (S1 q n)=some (do Instr.storeAt 3 (q.p 9) (.int .i64 (IntKind.i64.wrap (n+1)));pure .skip):=by kernel_rfl
noncomputable def S2(q:Av)(n:Int):Dm:=aM prog 20 (fin (L2 q) (.int .i64 n))
theorem zZ(q:Av)(n:Int):semAt (S2 q n)=some (do Instr.storeAt 3 (q.p 10) (.int .i64 (IntKind.i64.wrap (n+1)));pure .skip):=by kernel_rfl
theorem aa0(q:Av):aM prog 7 (fin (A2 q) (.bool false))=R (q.c.finish (.tuple #[])) q.cs:=by kernel_rfl
theorem ade(q:Av)(n:Int):aM prog 4 (fin (S0 q n) undef)=R (q.c.finish (.tuple #[])) q.cs:=by kernel_rfl
theorem Yi(q:Av)(n:Int):aM prog 4 (fin (S1 q n) undef)=R (q.c.finish (.tuple #[])) q.cs:=by kernel_rfl
theorem ah6(q:Av)(n:Int):aM prog 4 (fin (S2 q n) undef)=R (q.c.finish (.tuple #[])) q.cs:=by kernel_rfl
end Kc
end
end Go.Proofs.YtjebhbopmfcopaaGreatDoor
