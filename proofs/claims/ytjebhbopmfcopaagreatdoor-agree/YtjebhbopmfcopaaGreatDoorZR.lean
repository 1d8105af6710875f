/- Agree, a part. -/
import Derived.Test.YtjebhbopmfcopaaGreatDoorZO
import Derived.Test.YtjebhbopmfcopaaGreatDoorZP
import Derived.Test.YtjebhbopmfcopaaGreatDoorZQ
set_option maxRecDepth 100000
namespace Go.Proofs.YtjebhbopmfcopaaGreatDoor
open Go.Proofs Tryz
noncomputable section
variable{g g1:Gq}{v:HH}
namespace Kl
open Conc Kw Ph
section
variable(b o:Nat)(c:Frame)(cs:Fi)
abbrev q0:Lk:={b:=b,o:=o,c:=c,cs:=cs}
structure Bs(q:Lk):Prop where
 b:q.b=b
 o:q.o=o
 c:q.c=c
 cs:q.cs=cs
structure Is(T:Th)(q:Lk):Prop where
 bs:Bs b o c cs q
 sv:q.sv=T.sv
 aw:q.aw=T.aw
 it:q.it=T.it
 old:q.old=T.old.val
def bO(T:Th)(g:Gq):Prop:=match T.pc with|.ld=>g=Ld (q0 b o c cs)|.l0=>g=L0 (q0 b o c cs)|.r0=>g=R0 (q0 b o c cs)|.sq=>∃q z,Is b o c cs T q/\g=Sq q z|.c1=>∃q z e d,Is b o c cs T q/\g=C1 q z e d ({T.old with k:=1}:Wd).val|.r1=>∃q,Is b o c cs T q/\g=R1 q (T.it+1)|.c2=>∃q,Is b o c cs T q/\g=C2 q (gq T).val|.t1=>∃q z a,Is b o c cs T q/\g=T1 q z a|.s1=>∃q,Is b o c cs T q/\g=S1 q|.t2=>∃q,Is b o c cs T q/\((T.sv=true/\g=iz q)\/(T.sv=false/\g=T2 q))|.r2=>∃q,Is b o c cs T q/\g=R2 q|.a1=>∃q,Bs b o c cs q/\g=A1 q (if T.ex then-11 else-7)|.r3=>∃q,Is b o c cs T q/\g=R3 q|.le=>g=lr (q0 b o c cs)\/∃q,Bs b o c cs q/\g=iK q|.la=>g=lj (q0 b o c cs)\/∃q,Bs b o c cs q/\g=kC q|_=>False
end
section
variable{b o:Nat}{c:Frame}{cs:Fi}{T:Th}{q:Lk}
attribute[local irreducible]A qF kY Sq B C2 sF ki qQ kz rK C1 gD qn R1 fin tl qY q8 kA rO kD T1 nZ S1 np iz T2 qM nS nu R2 rP kv rW rp sL lu qP ju kl A1 qA R3 iK R0 Ld L0 lr lj kC
def dJ(b o:Nat)(c:Frame)(cs:Fi)(g:Gq)(T:Th):Prop:=∃g',aa prog g g'/\bO b o c cs T g'
theorem dJ.pre(h:aa prog g g1)(k:dJ b o c cs g1 T):dJ b o c cs g T:=let⟨g',k1,a⟩:=k;⟨g',h.trans k1,a⟩
theorem CZ(d:T.old.ok)(e:T.aw=true->T.old.k=1)(a:Is b o c cs T q):dJ b o c cs (B q) {T with pc:=.c2}:=by obtain⟨v7,J,h⟩:=Yn (q:=q) d a.old a.sv a.aw e;exact⟨_,h,{q with v7:=v7,J:=J},⟨⟨a.bs.b,a.bs.o,a.bs.c,a.bs.cs⟩,a.sv,a.aw,a.it,a.old⟩,rfl⟩
theorem tI(d:T.old.ok)(e:T.aw=true->T.old.k=1)(a:Is b o c cs T q):dJ b o c cs (A q) (head T):=by have h:=fG d;have h1:=h.1;have g:=h.2.2.1;have e1:=ai6 q (gU (r:=T.old.l+4*T.old.s) (by rw[a.old];exact wM h));unfold head;by_cases hc:T.old.l=1/\T.old.s=0;(·rw[if_pos hc];have e2:=Dw q (T.old.l+4*T.old.s) (cS .i32 (r:=true) (by rw[hc.1,hc.2];rfl));exact⟨_,e1.trans (e2.trans (VH q _)),q,_,⟨a.bs,a.sv,a.aw,a.it,a.old⟩,rfl⟩);·rw[if_neg hc];have e2:=Dw q (T.old.l+4*T.old.s) (cS .i32 (r:=false) (by simp;omega));have f:=U6 q (T.old.l+4*T.old.s);exact .pre (e1.trans (e2.trans f)) (CZ d e ⟨⟨a.bs.b,a.bs.o,a.bs.c,a.bs.cs⟩,a.sv,a.aw,a.it,a.old⟩)
theorem sQ(d:T.it<4)(a:Is b o c cs T q):dJ b o c cs (gD q) {T with pc:=.r1}:=by have e1:=Y8 q (xE .i64 (r:=T.it+1) (by rw[a.it];rcases(show T.it=0\/T.it=1\/T.it=2\/T.it=3 by omega)with e|e|e|e<;>rw[e]<;>rfl));exact⟨_,e1.trans (aiY q _),q,⟨a.bs,a.sv,a.aw,a.it,a.old⟩,rfl⟩
theorem NQ(m:T.old.ok)(l:T.it<4)(a:Is b o c cs T q)(z:Int):dJ b o c cs (fin (Sq q z) (.bool true)) (if T.aw=false/\T.old.k=0/\T.old.w≠0 then{T with pc:=.c1}else{T with pc:=.r1}):=by have h:=fG m;have p:=h.2.1;by_cases d:T.aw=true;(·rw[if_neg (by simp[d])];have e:=aic q z;rw[Hg (a.aw.trans d)]at e;exact .pre e (sQ (T:=T) l ⟨⟨a.bs.b,a.bs.o,a.bs.c,a.bs.cs⟩,a.sv,d.symm,a.it,a.old⟩));·(have d:T.aw=false:=by simpa using d);have n:=a.aw.trans d;have e1:=ahg q z (gU (r:=2*T.old.k) (by rw[a.old];exact Jb h));rw[Hg n]at e1;rcases(show T.old.k=0\/T.old.k=1 by omega)with f|f;(·have e2:=F3 q z (2*T.old.k) (cS .i32 (r:=true) (by rw[f];rfl));have g:=ajA q z (2*T.old.k) (uz (r:=T.old.w) (by rw[a.old];exact ui h));by_cases hw:T.old.w=0;(·rw[if_neg (by simp[hw])];have j:=CE q z (2*T.old.k) T.old.w (dN .i32 (r:=false) (by rw[hw];rfl));have i:=YZ q z (2*T.old.k) T.old.w;exact .pre (e1.trans (e2.trans (g.trans (j.trans i)))) (sQ (T:=T) l ⟨⟨a.bs.b,a.bs.o,a.bs.c,a.bs.cs⟩,a.sv,d.symm,a.it,a.old⟩));·rw[if_pos ⟨d,f,hw⟩];have j:=CE q z (2*T.old.k) T.old.w (dN .i32 (r:=true) (by simp;omega));have i:=acI q z (2*T.old.k) T.old.w (vh (r:=({T.old with k:=1}:Wd).val) (by rw[a.old];exact DU h));exact⟨_,e1.trans (e2.trans (g.trans (j.trans (i.trans (LP q _ _ _ _))))),q,_,_,_,⟨a.bs,a.sv,a.aw,a.it,a.old⟩,rfl⟩);·rw[if_neg (by simp[f])];have e2:=F3 q z (2*T.old.k) (cS .i32 (r:=false) (by rw[f];rfl));have g:=aev q z (2*T.old.k);exact .pre (e1.trans (e2.trans g)) (sQ (T:=T) l ⟨⟨a.bs.b,a.bs.o,a.bs.c,a.bs.cs⟩,a.sv,d.symm,a.it,a.old⟩)
theorem afx(d:T.old.ok)(e:T.aw=true->T.old.k=1)(a:Is b o c cs T q)(z:Int):dJ b o c cs (fin (Sq q z) (.bool false)) {T with pc:=.c2}:=.pre (XQ q z) (CZ d e ⟨⟨a.bs.b,a.bs.o,a.bs.c,a.bs.cs⟩,a.sv,a.aw,a.it,a.old⟩)
theorem aip(g:T.it<4)(a:Is b o c cs T q)(z e f d:Int):dJ b o c cs (fin (C1 q z e f d) (.bool true)) {T with pc:=.r1,aw:=true}:=.pre (aee q z e f d) (sQ (T:={T with aw:=true}) g ⟨⟨a.bs.b,a.bs.o,a.bs.c,a.bs.cs⟩,a.sv,rfl,a.it,a.old⟩)
theorem OE(h:T.it<4)(g:T.aw=false)(a:Is b o c cs T q)(z f e d:Int):dJ b o c cs (fin (C1 q z f e d) (.bool false)) {T with pc:=.r1}:=.pre (Yt q z f e d) (sQ (T:=T) h ⟨⟨a.bs.b,a.bs.o,a.bs.c,a.bs.cs⟩,a.sv,g.symm,a.it,a.old⟩)
theorem OJ{x:Wd}(a:x.ok):dJ b o c cs (fin (R0 (q0 b o c cs)) (.int .i32 x.val)) (head {T with old:=x,aw:=false,sv:=false,it:=0}):=.pre (Mw (q0 b o c cs) x.val) (tI (T:={T with old:=x,aw:=false,sv:=false,it:=0}) a HY ⟨⟨rfl,rfl,rfl,rfl⟩,rfl,rfl,rfl,rfl⟩)
theorem Nj{x:Wd}(d:x.ok)(e:T.aw=true->x.k=1)(a:Is b o c cs T q):dJ b o c cs (fin (R1 q (T.it+1)) (.int .i32 x.val)) (head {T with old:=x,it:=T.it+1}):=.pre (Sx q (T.it+1) x.val) (tI (T:={T with old:=x,it:=T.it+1}) d e ⟨⟨a.bs.b,a.bs.o,a.bs.c,a.bs.cs⟩,a.sv,a.aw,by simp,rfl⟩)
theorem aje{x:Wd}(d:x.ok)(e:T.aw=true->x.k=1)(a:Is b o c cs T q):dJ b o c cs (fin (R3 q) (.int .i32 x.val)) (head {T with old:=x}):=.pre (Tz q x.val) (tI (T:={T with old:=x}) d e ⟨⟨a.bs.b,a.bs.o,a.bs.c,a.bs.cs⟩,a.sv,a.aw,a.it,rfl⟩)
theorem acP(a:Is b o c cs T q)(y:Int):dJ b o c cs (fin (C2 q y) (.bool false)) {T with pc:=.r3}:=by refine⟨_,(T9 q y).trans (PF _),_,?_,rfl⟩;exact⟨⟨a.bs.b,a.bs.o,a.bs.c,a.bs.cs⟩,a.sv,a.aw,a.it,a.old⟩
theorem aeE(f:T.old.ok)(h0:T.old.l=0/\T.old.s=0)(a:Is b o c cs T q)(y:Int):dJ b o c cs (fin (C2 q y) (.bool true)) {T with pc:=.le}:=by have e1:=Di q y;generalize au _=d at e1;have e2:=Jn {q with v7:=.int .i32 y,J:=d} (gU (r:=T.old.l+4*T.old.s) (by show land q.old 5=_;rw[a.old];exact wM (fG f)));have g:=BF {q with v7:=.int .i32 y,J:=d} (T.old.l+4*T.old.s) (cS .i32 (r:=true) (by rw[h0.1,h0.2];rfl));have e:=agu {q with v7:=.int .i32 y,J:=d} (T.old.l+4*T.old.s);refine⟨_,e1.trans (e2.trans (g.trans e)),.inr ⟨_,?_,rfl⟩⟩;exact⟨a.bs.b,a.bs.o,a.bs.c,a.bs.cs⟩
theorem ah6(i:T.old.ok)(h0:T.old.l=1\/T.old.s=1)(a:Is b o c cs T q)(y:Int):∃p,(p=Pc.t1\/p=.s1)/\dJ b o c cs (fin (C2 q y) (.bool true)) {T with pc:=p}:=by have e1:=Di q y;generalize au _=d at e1;have e2:=Jn {q with v7:=.int .i32 y,J:=d} (gU (r:=T.old.l+4*T.old.s) (by show land q.old 5=_;rw[a.old];exact wM (fG i)));have f:=BF {q with v7:=.int .i32 y,J:=d} (T.old.l+4*T.old.s) (cS .i32 (r:=false) (by simp;omega));have g:=PV {q with v7:=.int .i32 y,J:=d} (T.old.l+4*T.old.s) (dN .i64 rfl);by_cases hz:q.ws=0;(·have e:=C9 {q with v7:=.int .i32 y,J:=d} (T.old.l+4*T.old.s) (q.ws !=0) (cS .i64 (r:=true) (by simpa using hz));refine⟨.t1,.inl rfl,_,e1.trans (e2.trans (f.trans (g.trans (e.trans (LM _ _ _))))),_,_,_,?_,rfl⟩;exact⟨⟨a.bs.b,a.bs.o,a.bs.c,a.bs.cs⟩,a.sv,a.aw,a.it,a.old⟩);·have e:=C9 {q with v7:=.int .i32 y,J:=d} (T.old.l+4*T.old.s) (q.ws !=0) (cS .i64 (r:=false) (by simpa using hz));have h:=LW {q with v7:=.int .i32 y,J:=d} (T.old.l+4*T.old.s) (q.ws !=0);refine⟨.s1,.inr rfl,_,e1.trans (e2.trans (f.trans (g.trans (e.trans (h.trans (KT _)))))),_,?_,rfl⟩;exact⟨⟨a.bs.b,a.bs.o,a.bs.c,a.bs.cs⟩,a.sv,a.aw,a.it,a.old⟩
theorem XC(d:Is b o c cs T q)(z:Int)(a:Bool)(n:Int):dJ b o c cs (fin (T1 q z a) (.int .i64 n)) {T with pc:=.s1}:=by refine⟨_,(aiy q z a n).trans (KT _),_,?_,rfl⟩;exact⟨⟨d.bs.b,d.bs.o,d.bs.c,d.bs.cs⟩,d.sv,d.aw,d.it,d.old⟩
theorem N2(a:Is b o c cs T q)(bt:Bool):dJ b o c cs (fin (S1 q) (.tuple #[])) {T with pc:=.t2,bt:=bt}:=by have e1:=Nz q;generalize au _=d at e1;by_cases e:T.sv=true;(·have e2:=Tm {q with J:=d};have:({q with J:=d,sv:=true}:Lk)={q with J:=d}:=oG (q:={q with J:=d}) (a.sv.trans e);rw[this]at e2;refine⟨_,e1.trans e2,_,?_,.inl ⟨e,rfl⟩⟩;exact⟨⟨a.bs.b,a.bs.o,a.bs.c,a.bs.cs⟩,a.sv,a.aw,a.it,a.old⟩);·(have e:T.sv=false:=by simpa using e);have e2:=Ps {q with J:=d};have:({q with J:=d,sv:=false}:Lk)={q with J:=d}:=oG (q:={q with J:=d}) (a.sv.trans e);rw[this]at e2;refine⟨_,e1.trans e2,_,?_,.inr ⟨e,rfl⟩⟩;exact⟨⟨a.bs.b,a.bs.o,a.bs.c,a.bs.cs⟩,a.sv,a.aw,a.it,a.old⟩
theorem Wi(a:Is b o c cs T q):dJ b o c cs (fin (iz q) (.bool true)) {T with pc:=.r2,sv:=true}:=by refine⟨_,(M7 q).trans (Ef _),_,?_,rfl⟩;exact⟨⟨a.bs.b,a.bs.o,a.bs.c,a.bs.cs⟩,rfl,a.aw,a.it,a.old⟩
theorem Z3(a:Is b o c cs T q)(n:Int):∃r,dJ b o c cs (fin (T2 q) (.int .i64 n)) {T with pc:=.r2,sv:=r}:=by have e1:=UG q n (Br .i64 rfl);have e2:=adA q n (IntKind.i64.wrap (n-q.ws)) (oM .i64 rfl);have d:=abn q n (IntKind.i64.wrap (n-q.ws)) (decide (IntKind.i64.wrap (n-q.ws)>1000000));refine⟨decide (IntKind.i64.wrap (n-q.ws)>1000000),_,e1.trans (e2.trans (d.trans (Ef _))),_,?_,rfl⟩;exact⟨⟨a.bs.b,a.bs.o,a.bs.c,a.bs.cs⟩,rfl,a.aw,a.it,a.old⟩
theorem Xg{x:Wd}(d:x.ok)(g:x.s=0)(f:x.k=1)(a:Is b o c cs T q):dJ b o c cs (fin (R2 q) (.int .i32 x.val)) (head {T with old:=x,aw:=true,it:=0}):=by have h:=fG d;have e1:=JL q x.val (gU (uF h));have e2:=GG q x.val (4*x.s) (dN .i32 (r:=false) (by rw[g];rfl));have e:=Oy q x.val (4*x.s);exact .pre (e1.trans (e2.trans e)) (tI (T:={T with old:=x,aw:=true,it:=0}) d (λ_=>f) ⟨⟨a.bs.b,a.bs.o,a.bs.c,a.bs.cs⟩,a.sv,rfl,rfl,rfl⟩)
theorem agh{x:Wd}(k:x.ok)(n:x.s=1)(j:x.l=0/\x.k=0/\1<=x.w)(a:Is b o c cs T q):dJ b o c cs (fin (R2 q) (.int .i32 x.val)) {T with pc:=.a1,ex:=!T.sv||decide (x.w=1)}:=by have h:=fG k;have e1:=JL q x.val (gU (uF h));have e2:=GG q x.val (4*x.s) (dN .i32 (r:=true) (by rw[n];rfl));have p:=Tu q x.val (4*x.s) (gU (aiJ h));have s:=TQ q x.val (4*x.s) (x.l+2*x.k) (dN .i32 (r:=false) (by rw[j.1,j.2.1];rfl));have l:=agX q x.val (4*x.s) (x.l+2*x.k) (uz (ui h));have m:=adp q x.val (4*x.s) (x.l+2*x.k) x.w (cS .i32 (r:=false) (by simp;omega));have e:=e1.trans (e2.trans (p.trans (s.trans (l.trans m))));by_cases g:T.sv=true;(·have f1:=ad9 q x.val (4*x.s) (x.l+2*x.k) x.w (uz (ui h));rw[oG (a.sv.trans g)]at f1;by_cases hw:x.w=1;(·have f2:=Jo q x.val (4*x.s) (x.l+2*x.k) x.w x.w (cS .i32 (r:=true) (by rw[hw];rfl));have d:=agZ q x.val (4*x.s) (x.l+2*x.k) x.w x.w;generalize au _=f at d;have i:=yV {q with sv:=true,old:=x.val,J:=f} (-11);refine⟨_,e.trans (f1.trans (f2.trans (d.trans i))),{q with sv:=true,old:=x.val,J:=f},⟨a.bs.b,a.bs.o,a.bs.c,a.bs.cs⟩,?_⟩;simp[hw]);·have f2:=Jo q x.val (4*x.s) (x.l+2*x.k) x.w x.w (cS .i32 (r:=false) (by simp;omega));have d:=Vb q x.val (4*x.s) (x.l+2*x.k) x.w x.w;generalize au _=f at d;have i:=yV {q with sv:=true,old:=x.val,J:=f} (-7);refine⟨_,e.trans (f1.trans (f2.trans (d.trans i))),{q with sv:=true,old:=x.val,J:=f},⟨a.bs.b,a.bs.o,a.bs.c,a.bs.cs⟩,?_⟩;simp[hw,g]);·(have g:T.sv=false:=by simpa using g);have d:=ahf q x.val (4*x.s) (x.l+2*x.k) x.w;rw[oG (a.sv.trans g)]at d;generalize au _=f at d;have i:=yV {q with sv:=false,old:=x.val,J:=f} (-11);refine⟨_,e.trans (d.trans i),{q with sv:=false,old:=x.val,J:=f},⟨a.bs.b,a.bs.o,a.bs.c,a.bs.cs⟩,?_⟩;simp[g]
theorem Ob(a:Bs b o c cs q)(d:Int)(v:HH):dJ b o c cs (fin (A1 q d) v) {T with pc:=.le}:=by refine⟨_,NZ q d v,.inr ⟨_,?_,rfl⟩⟩;exact⟨a.b,a.o,a.c,a.cs⟩
end
end Kl
namespace Ph
open Conc Kw Kl
theorem rZ:cN prog 122 (λ_=>do mark .disable;pure Extern.Race.none_) false:=⟨(prog.funcs[122]?).getD default,HW,HW,HW,HW,HW,HW⟩
theorem qZ:cN prog 123 (λ_=>do mark .enable;pure Extern.Race.none_) false:=⟨(prog.funcs[123]?).getD default,HW,HW,HW,HW,HW,HW⟩
theorem uS:cN prog 136 (Extern.Race.marked .acquire) false:=⟨(prog.funcs[136]?).getD default,HW,HW,HW,HW,HW,HW⟩
theorem lW:cN prog 223 (Extern.Atomic.casT (.int .i32)) true:=⟨(prog.funcs[223]?).getD default,HW,HW,HW,HW,HW,HW⟩
theorem FG:cN prog 225 (Extern.Atomic.update (Op.intArith .add) .i32 true) true:=⟨(prog.funcs[225]?).getD default,HW,HW,HW,HW,HW,HW⟩
theorem BN:cN prog 235 Extern.Sync.canSpin true:=⟨(prog.funcs[235]?).getD default,HW,HW,HW,HW,HW,HW⟩
theorem FB:cN prog 238 Extern.OsHooks.nano true:=⟨(prog.funcs[238]?).getD default,HW,HW,HW,HW,HW,HW⟩
theorem IT:cN prog 239 Extern.Sync.semacquire true:=⟨(prog.funcs[239]?).getD default,HW,HW,HW,HW,HW,HW⟩
theorem oY:prog.underlying 21=some (.int .i32):=HW
theorem vf:(prog.funcs[224]?).any (·.norace)=true:=HW
theorem L'(q:Lk):(R0 q).frame.fn=224:=HW
theorem XM(q:Lk)(t:Int):(R1 q t).frame.fn=224:=HW
theorem YX(q:Lk):(R2 q).frame.fn=224:=HW
theorem fR3(q:Lk):(R3 q).frame.fn=224:=HW
theorem aca(q:Lk):aa prog (fin (Ld q) (.tuple #[])) (L0 q):=ap prog 203 6 50 _
theorem VT(q:Lk):aa prog (fin (L0 q) (.bool true)) (lr q):=ap prog 203 7 50 _
theorem acg(q:Lk):aa prog (fin (L0 q) (.bool false)) (R0 q):=ap prog 224 13 50 _
end Ph
namespace Kl
open Conc Kw
structure Ul where
 b:Nat
 o:Nat
 c:Frame
 cs:Fi
 x:Int:=0
 n:Int:=0
 old:Int:=0
 v1:HH:=undef
 J:Nat->HH:=λ_=>undef
abbrev Ul.m(q:Ul):HH:=.pointer (some ⟨q.b,q.o,none⟩)
def OT(q:Ul):DS:=#[q.m,q.v1,q.J 2,q.J 3,.int .i32 q.old,q.J 5,q.J 6,q.J 7,q.J 8,q.J 9,q.J 10,q.J 11,q.J 12,q.J 13,q.J 14,q.J 15,q.J 16,q.J 17,q.J 18,q.J 19,q.J 20,q.J 21,q.J 22,q.J 23,q.J 24,q.J 25,q.J 26,q.J 27,q.J 28,q.J 29,q.J 30,q.J 31,q.J 32,q.J 33,q.J 34,q.J 35,q.J 36,q.J 37,q.J 38,q.J 39,q.J 40,q.J 41,q.J 42]
noncomputable def Uk(q:Ul):Gq:=R (Frame.enter prog 174 #[q.m] .deferred) ({q.c with mode:=.returning}::q.cs)
noncomputable def dt(d n:Nat)(g:Gq):Gq:=aL prog 204 d n g
noncomputable def tu(d n:Nat)(g:Gq):Gq:=aL prog 226 d n g
def Um(q:Ul):Gq:=dt 6 50 (Uk q)
theorem aeg(q:Ul):semAt (Um q)=some (do pure (.value (<-Instr.loadAt 21 q.m))):=HW
def Uv(q:Ul):Gq:=dt 8 20 (fin (Um q) (.int .i32 q.x))
theorem aik(q:Ul):semAt (Uv q)=some (do pure (.value (<-convert 263 189 q.m))):=HW
theorem ZA(q:Ul):aa prog (fin (Um q) (.int .i32 q.x)) (Uv q):=ap prog 204 8 20 _
def Ur(q:Ul):Gq:=dt 9 10 (fin (Uv q) q.m)
theorem Cu(q:Ul):semAt (Ur q)=some (callFunc 121 #[q.m]):=HW
theorem ajG(q:Ul):aa prog (fin (Uv q) q.m) (Ur q):=ap prog 204 9 10 _
def Ud(q:Ul):Gq:=dt 10 10 (fin (Ur q) (.tuple #[]))
theorem KX(q:Ul):semAt (Ud q)=some (callFunc 122 #[]):=HW
theorem abo(q:Ul):aa prog (fin (Ur q) (.tuple #[])) (Ud q):=ap prog 204 10 10 _
def U0(q:Ul):Gq:=dt 14 20 (fin (Ud q) (.tuple #[]))
theorem IY(q:Ul):semAt (U0 q)=some (callFunc 225 #[q.m,.int .i32 (-1)]):=HW
theorem aeB(q:Ul):aa prog (fin (Ud q) (.tuple #[])) (U0 q):=ap prog 204 14 20 _
def iB(q:Ul):Gq:=dt 16 20 (fin (U0 q) (.int .i32 q.n))
theorem abt(q:Ul):semAt (iB q)=some (do pure (.value (<-Go.binOp .neq 21 (.int .i32 q.n) (.int .i32 0)))):=HW
theorem Js(q:Ul)(a:calm? (α:=Next) prog (do pure (.value (<-Go.binOp .neq 21 (.int .i32 q.n) (.int .i32 0))))=some (.value v)):aa prog (fin (U0 q) (.int .i32 q.n)) (fin (iB q) v):=ah (fn:=204) (d:=16) (n:=20) (abt q) a
def u0(q:Ul):Gq:=dt 20 20 (fin (iB q) (.bool false))
def Ue(q:Ul)(a:DS):Gq:=eM (u0 q) a
theorem Gm(q:Ul)(a:DS):semAt (Ue q a)=some (callFunc 123 #[]):=HW
theorem RS(q:Ul):dt 20 20 (fin (iB q) (.bool false))=Ue q (dt 20 20 (fin (iB q) (.bool false))).frame.tmps:=HW
theorem X0(q:Ul):aa prog (fin (iB q) (.bool false)) (Ue q (dt 20 20 (fin (iB q) (.bool false))).frame.tmps):=RS q▸ap prog 204 20 20 _
def V6(q:Ul):Gq:=tu 6 30 (fin (iB q) (.bool true))
theorem ab9(q:Ul):semAt (V6 q)=some (do pure (.value (<-Go.binOp .add 21 (.int .i32 q.n) (.int .i32 1)))):=HW
theorem UZ(q:Ul)(a:calm? (α:=Next) prog (do pure (.value (<-Go.binOp .add 21 (.int .i32 q.n) (.int .i32 1))))=some (.value v)):aa prog (fin (iB q) (.bool true)) (fin (V6 q) v):=ah (fn:=226) (d:=6) (n:=30) (ab9 q) a
def V7(q:Ul)(z:Int):Gq:=tu 7 10 (fin (V6 q) (.int .i32 z))
theorem N4(q:Ul)(z:Int):semAt (V7 q z)=some (do pure (.value (<-Go.binOp .and 21 (.int .i32 z) (.int .i32 1)))):=HW
theorem agm(q:Ul)(z:Int)(a:calm? (α:=Next) prog (do pure (.value (<-Go.binOp .and 21 (.int .i32 z) (.int .i32 1))))=some (.value v)):aa prog (fin (V6 q) (.int .i32 z)) (fin (V7 q z) v):=ah (fn:=226) (d:=7) (n:=10) (N4 q z) a
def V8(q:Ul)(z a:Int):Gq:=tu 8 10 (fin (V7 q z) (.int .i32 a))
theorem ahP(q:Ul)(z a:Int):semAt (V8 q z a)=some (do pure (.value (<-Go.binOp .eql 21 (.int .i32 a) (.int .i32 0)))):=HW
theorem adl(q:Ul)(z a:Int)(b:calm? (α:=Next) prog (do pure (.value (<-Go.binOp .eql 21 (.int .i32 a) (.int .i32 0))))=some (.value v)):aa prog (fin (V7 q z) (.int .i32 a)) (fin (V8 q z a) v):=ah (fn:=226) (d:=8) (n:=10) (ahP q z a) b
def mY(q:Ul)(z a:Int):Gq:=tu 11 20 (fin (V8 q z a) (.bool false))
theorem PU(q:Ul)(z a:Int):semAt (mY q z a)=some (do pure (.value (<-Go.binOp .and 21 (.int .i32 q.n) (.int .i32 4)))):=HW
theorem adi(q:Ul)(z a:Int)(b:calm? (α:=Next) prog (do pure (.value (<-Go.binOp .and 21 (.int .i32 q.n) (.int .i32 4))))=some (.value v)):aa prog (fin (V8 q z a) (.bool false)) (fin (mY q z a) v):=ah (fn:=226) (d:=11) (n:=20) (PU q z a) b
def iG(q:Ul)(z b a:Int):Gq:=tu 12 10 (fin (mY q z b) (.int .i32 a))
theorem XY(q:Ul)(z b a:Int):semAt (iG q z b a)=some (do pure (.value (<-Go.binOp .eql 21 (.int .i32 a) (.int .i32 0)))):=HW
theorem CY(q:Ul)(z b a:Int)(c:calm? (α:=Next) prog (do pure (.value (<-Go.binOp .eql 21 (.int .i32 a) (.int .i32 0))))=some (.value v)):aa prog (fin (mY q z b) (.int .i32 a)) (fin (iG q z b a) v):=ah (fn:=226) (d:=12) (n:=10) (XY q z b a) c
def jh(q:Ul)(z b a:Int):Gq:=tu 42 20 (fin (iG q z b a) (.bool false))
theorem Dl(q:Ul)(z b a:Int):semAt (jh q z b a)=some (callFunc 241 #[.pointer (some ⟨q.b,q.o+1,none⟩),.bool true,.int .i64 2]):=HW
theorem ZS(q:Ul)(z b a:Int):aa prog (fin (iG q z b a) (.bool false)) (jh q z b a):=ap prog 226 42 20 _
theorem XR(q:Ul)(z b a:Int):dt 20 40 (fin (jh q z b a) (.tuple #[]))=Ue q (dt 20 40 (fin (jh q z b a) (.tuple #[]))).frame.tmps:=HW
theorem Wl(q:Ul)(z b a:Int):aa prog (fin (jh q z b a) (.tuple #[])) (Ue q (dt 20 40 (fin (jh q z b a) (.tuple #[]))).frame.tmps):=XR q z b a▸ap prog 204 20 40 _
def g0(q:Ul):Gq:=tu 14 30 (fin (iG q 0 0 0) (.bool true))
def G(q:Ul):Gq:=eM (g0 q) (OT q)
theorem XN(q:Ul)(z b a:Int):tu 14 30 (fin (iG q z b a) (.bool true))=G {q with old:=q.n,v1:=.int .i32 q.n,J:=au (tu 14 30 (fin (iG q z b a) (.bool true)))}:=HW
theorem Pt(q:Ul)(z b a:Int):aa prog (fin (iG q z b a) (.bool true)) (G {q with old:=q.n,v1:=.int .i32 q.n,J:=au (tu 14 30 (fin (iG q z b a) (.bool true)))}):=XN q z b a▸ap prog 226 14 30 _
def nY(q:Ul):Gq:=tu 15 10 (G q)
theorem M8(q:Ul):semAt (nY q)=some (do pure (.value (<-Go.binOp .shr 21 (.int .i32 q.old) (.int .i64 3)))):=HW
theorem agp(q:Ul)(a:calm? (α:=Next) prog (do pure (.value (<-Go.binOp .shr 21 (.int .i32 q.old) (.int .i64 3))))=some (.value v)):aa prog (G q) (fin (nY q) v):=ah (fn:=226) (d:=15) (n:=10) (M8 q) a
def jB(q:Ul)(z:Int):Gq:=tu 16 10 (fin (nY q) (.int .i32 z))
theorem agF(q:Ul)(z:Int):semAt (jB q z)=some (do pure (.value (<-Go.binOp .eql 21 (.int .i32 z) (.int .i32 0)))):=HW
theorem FN(q:Ul)(z:Int)(a:calm? (α:=Next) prog (do pure (.value (<-Go.binOp .eql 21 (.int .i32 z) (.int .i32 0))))=some (.value v)):aa prog (fin (nY q) (.int .i32 z)) (fin (jB q z) v):=ah (fn:=226) (d:=16) (n:=10) (agF q z) a
theorem RJ(q:Ul)(z:Int):dt 20 60 (fin (jB q z) (.bool true))=Ue q (dt 20 60 (fin (jB q z) (.bool true))).frame.tmps:=HW
theorem Y4(q:Ul)(z:Int):aa prog (fin (jB q z) (.bool true)) (Ue q (dt 20 60 (fin (jB q z) (.bool true))).frame.tmps):=RJ q z▸ap prog 204 20 60 _
def mV(q:Ul)(z:Int):Gq:=tu 19 10 (fin (jB q z) (.bool false))
theorem Qz(q:Ul)(z:Int):semAt (mV q z)=some (do pure (.value (<-Go.binOp .and 21 (.int .i32 q.old) (.int .i32 7)))):=HW
theorem U9(q:Ul)(z:Int)(a:calm? (α:=Next) prog (do pure (.value (<-Go.binOp .and 21 (.int .i32 q.old) (.int .i32 7))))=some (.value v)):aa prog (fin (jB q z) (.bool false)) (fin (mV q z) v):=ah (fn:=226) (d:=19) (n:=10) (Qz q z) a
def ja(q:Ul)(z a:Int):Gq:=tu 20 10 (fin (mV q z) (.int .i32 a))
theorem QO(q:Ul)(z a:Int):semAt (ja q z a)=some (do pure (.value (<-Go.binOp .neq 21 (.int .i32 a) (.int .i32 0)))):=HW
theorem Kb(q:Ul)(z a:Int)(b:calm? (α:=Next) prog (do pure (.value (<-Go.binOp .neq 21 (.int .i32 a) (.int .i32 0))))=some (.value v)):aa prog (fin (mV q z) (.int .i32 a)) (fin (ja q z a) v):=ah (fn:=226) (d:=20) (n:=10) (QO q z a) b
theorem Nv(q:Ul)(z a:Int):dt 20 60 (fin (ja q z a) (.bool true))=Ue q (dt 20 60 (fin (ja q z a) (.bool true))).frame.tmps:=HW
theorem Vk(q:Ul)(z a:Int):aa prog (fin (ja q z a) (.bool true)) (Ue q (dt 20 60 (fin (ja q z a) (.bool true))).frame.tmps):=Nv q z a▸ap prog 204 20 60 _
def nB(q:Ul)(z a:Int):Gq:=tu 23 20 (fin (ja q z a) (.bool false))
theorem afz(q:Ul)(z a:Int):semAt (nB q z a)=some (do pure (.value (<-Go.binOp .sub 21 (.int .i32 q.old) (.int .i32 8)))):=HW
theorem Qi(q:Ul)(z a:Int)(b:calm? (α:=Next) prog (do pure (.value (<-Go.binOp .sub 21 (.int .i32 q.old) (.int .i32 8))))=some (.value v)):aa prog (fin (ja q z a) (.bool false)) (fin (nB q z a) v):=ah (fn:=226) (d:=23) (n:=20) (afz q z a) b
def nI(q:Ul)(z b a:Int):Gq:=tu 24 10 (fin (nB q z b) (.int .i32 a))
theorem Vj(q:Ul)(z b a:Int):semAt (nI q z b a)=some (do pure (.value (<-Go.binOp .or 21 (.int .i32 a) (.int .i32 2)))):=HW
theorem aab(q:Ul)(z b a:Int)(c:calm? (α:=Next) prog (do pure (.value (<-Go.binOp .or 21 (.int .i32 a) (.int .i32 2))))=some (.value v)):aa prog (fin (nB q z b) (.int .i32 a)) (fin (nI q z b a) v):=ah (fn:=226) (d:=24) (n:=10) (Vj q z b a) c
def Uc(q:Ul)(z b c a:Int):Gq:=tu 30 20 (fin (nI q z b c) (.int .i32 a))
theorem EJ(q:Ul)(z b c a:Int):semAt (Uc q z b c a)=some (callFunc 223 #[q.m,.int .i32 q.old,.int .i32 a]):=HW
theorem abA(q:Ul)(z b c a:Int):aa prog (fin (nI q z b c) (.int .i32 a)) (Uc q z b c a):=ap prog 226 30 20 _
def jr(q:Ul)(z b c a:Int):Gq:=tu 34 20 (fin (Uc q z b c a) (.bool true))
theorem Ii(q:Ul)(z b c a:Int):semAt (jr q z b c a)=some (callFunc 241 #[.pointer (some ⟨q.b,q.o+1,none⟩),.bool false,.int .i64 2]):=HW
theorem YF(q:Ul)(z b c a:Int):aa prog (fin (Uc q z b c a) (.bool true)) (jr q z b c a):=ap prog 226 34 20 _
theorem SE(q:Ul)(z b c a:Int):dt 20 60 (fin (jr q z b c a) (.tuple #[]))=Ue q (dt 20 60 (fin (jr q z b c a) (.tuple #[]))).frame.tmps:=HW
theorem ajH(q:Ul)(z b c a:Int):aa prog (fin (jr q z b c a) (.tuple #[])) (Ue q (dt 20 60 (fin (jr q z b c a) (.tuple #[]))).frame.tmps):=SE q z b c a▸ap prog 204 20 60 _
def Ux(q:Ul)(z b c a:Int):Gq:=tu 38 20 (fin (Uc q z b c a) (.bool false))
theorem Fc(q:Ul)(z b c a:Int):semAt (Ux q z b c a)=some (do pure (.value (<-Instr.loadAt 21 q.m))):=HW
theorem Qe(q:Ul)(z b c a:Int):aa prog (fin (Uc q z b c a) (.bool false)) (Ux q z b c a):=ap prog 226 38 20 _
theorem Xd(q:Ul)(z b c a y:Int):tu 14 40 (fin (Ux q z b c a) (.int .i32 y))=G {q with old:=y,v1:=.int .i32 a,J:=au (tu 14 40 (fin (Ux q z b c a) (.int .i32 y)))}:=HW
theorem agz(q:Ul)(z b c a y:Int):aa prog (fin (Ux q z b c a) (.int .i32 y)) (G {q with old:=y,v1:=.int .i32 a,J:=au (tu 14 40 (fin (Ux q z b c a) (.int .i32 y)))}):=Xd q z b c a y▸ap prog 226 14 40 _
theorem Rr(q:Ul)(a:DS):aN prog 6 (fin (Ue q a) (.tuple #[]))=R {q.c with mode:=.returning} q.cs:=HW
end Kl
namespace Kl
open Conc Kw Ph
theorem Sy(q:Ul)(y:Int):U0 {q with n:=y}=U0 q:=HW
theorem Qg(q:Ul)(a:DS):aa prog (fin (Ue q a) (.tuple #[])) (R {q.c with mode:=.returning} q.cs):=Rr q a▸bc prog 6 _
section
variable(b o:Nat)(c:Frame)(cs:Fi)
structure Ub(q:Ul):Prop where
 b:q.b=b
 o:q.o=o
 c:q.c=c
 cs:q.cs=cs
def dZ(T:Th)(g:Gq):Prop:=match T.pc with|.ur=>∃q,Ub b o c cs q/\g=Ur q|.ud=>∃q,Ub b o c cs q/\g=Ud q|.u0=>∃q,Ub b o c cs q/\g=U0 q|.uc=>∃q z d a,Ub b o c cs q/\q.old=T.old.val/\g=Uc q z d a ({T.old with k:=1,w:=T.old.w-1}:Wd).val|.ux=>∃q z d a e,Ub b o c cs q/\g=Ux q z d a e|.us=>∃q,Ub b o c cs q/\((∃z d a e,g=jr q z d a e)\/∃z d a,g=jh q z d a)|.ue=>∃q f,Ub b o c cs q/\g=Ue q f|_=>False
def nl(g:Gq)(T:Th):Prop:=∃g',aa prog g g'/\dZ b o c cs T g'
end
section
variable{b o:Nat}{c:Frame}{cs:Fi}{T:Th}{q:Ul}
attribute[local irreducible]Um Uv Ur Ud U0 iB Ue V6 V7 V8 mY iG jh G nY jB mV ja nB nI Uc jr Ux fin tu dt aL
theorem nl.pre(h:aa prog g g1)(k:nl b o c cs g1 T):nl b o c cs g T:=let⟨g',k1,a⟩:=k;⟨g',h.trans k1,a⟩
theorem BV(f:T.old.ok)(d:Ub b o c cs q)(a:q.old=T.old.val):nl b o c cs (G q) (cM T):=by have h:=fG f;obtain⟨l,k,j,n⟩:=f;have e1:=agp q (uz (r:=T.old.w) (by rw[a];exact ui h));unfold cM;by_cases hw:T.old.w=0;(·rw[if_pos (.inl hw)];have e2:=FN q T.old.w (cS .i32 (r:=true) (by rw[hw];rfl));exact⟨_,e1.trans (e2.trans (Y4 q _)),q,_,d,rfl⟩);·have e2:=FN q T.old.w (cS .i32 (r:=false) (by simp;omega));have g:=U9 q T.old.w (gU (r:=T.old.l+2*T.old.k+4*T.old.s) (by rw[a];exact Nq h));by_cases hc:T.old.l=1\/T.old.k=1\/T.old.s=1;(·rw[if_pos (.inr hc)];have e:=Kb q T.old.w (T.old.l+2*T.old.k+4*T.old.s) (dN .i32 (r:=true) (by simp;omega));exact⟨_,e1.trans (e2.trans (g.trans (e.trans (Vk q _ _)))),q,_,d,rfl⟩);·rw[if_neg HU];have e:=Kb q T.old.w (T.old.l+2*T.old.k+4*T.old.s) (dN .i32 (r:=false) (by simp;omega));have m:=Qi q T.old.w (T.old.l+2*T.old.k+4*T.old.s) (Br .i32 (r:=({T.old with w:=T.old.w-1}:Wd).val) (by rw[a];exact UP h HU));have i:=aab q T.old.w (T.old.l+2*T.old.k+4*T.old.s) ({T.old with w:=T.old.w-1}:Wd).val (vh (DU (x:={T.old with w:=T.old.w-1}) ⟨l,k,j,by dsimp only;omega⟩));exact⟨_,e1.trans (e2.trans (g.trans (e.trans (m.trans (i.trans (abA q _ _ _ _)))))),q,_,_,_,d,a,rfl⟩
theorem SD{x:Wd}(i:x.ok)(m:x.l=0)(a:Ub b o c cs q):nl b o c cs (fin (U0 q) (.int .i32 x.val)) (du T x):=by have h:=fG i;have g:Ub b o c cs {q with n:=x.val}:=⟨a.b,a.o,a.c,a.cs⟩;rw[<-Sy q x.val];unfold du;by_cases h0:x=⟨0,0,0,0⟩;(·rw[if_pos h0];have e1:=Js {q with n:=x.val} (dN .i32 (r:=false) (by rw[h0];rfl));exact⟨_,e1.trans (X0 {q with n:=x.val}),_,_,g,rfl⟩);·rw[if_neg h0];have e1:=Js {q with n:=x.val} (dN .i32 (r:=true) (by have:¬x.val=0:=λe=>h0 (val_inj h ⟨by decide,by decide,by decide,by decide⟩ e);simpa using this));have e2:=UZ {q with n:=x.val} (xE .i32 rfl);have p:=agm {q with n:=x.val} (IntKind.i32.wrap (x.val+1)) (gU (PR h m));have k:=adl {q with n:=x.val} (IntKind.i32.wrap (x.val+1)) 1 (cS .i32 (r:=false) rfl);have l:=adi {q with n:=x.val} (IntKind.i32.wrap (x.val+1)) 1 (gU (uF h));have e:=e1.trans (e2.trans (p.trans (k.trans l)));have s:=h.2.2.1;rcases(show x.s=0\/x.s=1 by omega)with d|d;(·rw[if_pos d];have f:=CY {q with n:=x.val} (IntKind.i32.wrap (x.val+1)) 1 (4*x.s) (cS .i32 (r:=true) (by rw[d];rfl));have j:=Pt {q with n:=x.val} (IntKind.i32.wrap (x.val+1)) 1 (4*x.s);exact .pre (e.trans (f.trans j)) (BV (T:={T with old:=x}) i ⟨a.b,a.o,a.c,a.cs⟩ rfl));·rw[if_neg HU];have f:=CY {q with n:=x.val} (IntKind.i32.wrap (x.val+1)) 1 (4*x.s) (cS .i32 (r:=false) (by rw[d];rfl));exact⟨_,e.trans (f.trans (ZS _ _ _ _)),_,g,.inr ⟨_,_,_,rfl⟩⟩
end
end Kl
namespace Kt
open Conc Kw Kl
structure Tk where
 b:Nat
 c:Frame
 cs:Fi
 ra:Option Addr
 N:Nat
 rc:Nat
 n:Int
abbrev Tk.p(q:Tk)(o:Nat):HH:=.pointer (some ⟨q.b,o,none⟩)
abbrev Tk.ks(q:Tk):Fi:=q.c::q.cs
noncomputable def ji(q:Tk):Gq:=R (Frame.enter prog 134 #[q.p 0] .normal) q.ks
noncomputable def Tl(q:Tk):Gq:=aL prog 134 7 40 (ji q)
theorem abY(q:Tk):bY prog (Tl q)=some (kB (q0 q.b 5 (Tl q).frame q.ks)):=HW
noncomputable def Tg(q:Tk):Gq:=aN prog 60 (R ((Tl q).frame.finish (.tuple #[])) q.ks)
def jR:Array Oper:=(da (Tg ⟨0,default,[],none,0,0,0⟩)).getD #[]
theorem xV(q:Tk):da (Tg q)=some jR:=HW
theorem vN:sound jR=true:=HW
def V3(q:Tk)(b:Bool)(i:Nat):HH:=match i with|2=>q.p 7|3=>.int .i64 q.n|6=>q.p 2|7=>.slice q.ra q.N q.rc|8=>.int .i64 q.N|9=>.bool b|_=>q.p 0
def E3(q:Tk)(b:Bool):Gq:=bz (Tg q) jR (V3 q b)
def x3(q:Tk)(b:Bool)(i:Nat):Option (Sem Next):=(jR[i]?).map λo=>execOp (E3 q b).frame.eval o
theorem Rx(q:Tk)(b:Bool):(x3 q b 0).map (calm? prog)=some (some (.value (V3 q b 0))):=HW
theorem aaf(q:Tk)(b:Bool):(x3 q b 1).map (calm? prog)=some (some (.value (V3 q b 1))):=HW
theorem NG(q:Tk)(b:Bool):(x3 q b 2).map (calm? prog)=some (some (.value (V3 q b 2))):=HW
theorem WU(q:Tk)(b:Bool):x3 q b 3=some (do pure (.value (<-Instr.loadAt 3 (q.p 7)))):=HW
theorem ael(q:Tk)(b:Bool):(x3 q b 4).map (calm? prog)=some (some (.value (V3 q b 4))):=HW
theorem ag1(q:Tk)(b:Bool):(x3 q b 5).map (calm? prog)=some (some (.value (V3 q b 5))):=HW
theorem ait(q:Tk)(b:Bool):(x3 q b 6).map (calm? prog)=some (some (.value (V3 q b 6))):=HW
theorem Wu(q:Tk)(b:Bool):x3 q b 7=some (do pure (.value (<-Instr.loadAt 88 (q.p 2)))):=HW
theorem OP(q:Tk)(b:Bool):(x3 q b 8).map (calm? prog)=some (some (.value (V3 q b 8))):=HW
theorem aiw(q:Tk)(b:Bool):x3 q b 9=some (do pure (.value (<-Go.binOp .eql 3 (.int .i64 q.n) (.int .i64 q.N)))):=HW
theorem afm:jR.size=10:=HW
theorem Ra(q:Tk):(Tg q).frame.kind=.normal:=HW
noncomputable def Z0(q:Tk):Gq:=aL prog 204 6 80 (E3 q true)
def ly(q:Tk):Frame:=(Z0 q).callers.getD 1 default
theorem aii(q:Tk):Z0 q=Um {b:=q.b,o:=5,c:=ly q,cs:=q.ks}:=HW
theorem N6(q:Tk):aN prog 1 (R {ly q with mode:=.returning} q.ks)=R (q.c.finish (.tuple #[.int .i64 0,.bool false])) q.cs:=HW
noncomputable def T5(q:Tk):Gq:=aL prog 134 24 60 (E3 q false)
theorem U5(q:Tk):semAt (T5 q)=some (do pure (.value (<-Instr.loadAt 3 (q.p 7)))):=HW
noncomputable def T6(q:Tk):Gq:=aN prog 20 (fin (T5 q) (.int .i64 q.n))
theorem P6(q:Tk):semAt (T6 q)=some (do Instr.storeAt 3 (q.p 7) (.int .i64 (IntKind.i64.wrap (q.n+1)));pure .skip):=HW
noncomputable def T7(q:Tk):Gq:=aL prog 134 31 60 (fin (T6 q) undef)
theorem ajR(q:Tk):semAt (T7 q)=some (do pure (.value (<-Instr.loadAt 3 (q.p 7)))):=HW
noncomputable def Z1(q:Tk)(m:Int):Gq:=aL prog 204 6 80 (fin (T7 q) (.int .i64 m))
def lh(q:Tk)(m:Int):Frame:=(Z1 q m).callers.getD 1 default
theorem RI(q:Tk)(m:Int):Z1 q m=Um {b:=q.b,o:=5,c:=lh q m,cs:=q.ks}:=HW
theorem ahO(q:Tk)(m:Int):aN prog 1 (R {lh q m with mode:=.returning} q.ks)=R (q.c.finish (.tuple #[.int .i64 (IntKind.i64.wrap (m-1)),.bool true])) q.cs:=HW
end Kt
namespace Kc
open Conc Kw Kl
structure Cn where
 b:Nat
 c:Frame
 cs:Fi
 r:DS
 v:Int
 s:HM
 rb:Nat
abbrev Cn.p(q:Cn)(o:Nat):HH:=.pointer (some ⟨q.b,o,none⟩)
abbrev Cn.pr(q:Cn)(o:Nat):HH:=.pointer (some ⟨q.rb,o,none⟩)
abbrev Cn.ks(q:Cn):Fi:=q.c::q.cs
noncomputable def og(q:Cn):Gq:=R (Frame.enter prog 135 #[q.p 0,.agg q.r] .normal) q.ks
noncomputable def Cb(q:Cn):Gq:=aL prog 135 3 20 (og q)
theorem aaK(q:Cn):semAt (Cb q)=some (do pure (.value (<-Instr.box 52 (.agg q.r)))):=HW
noncomputable def Cl(q:Cn):Gq:=aL prog 135 7 40 (fin (Cb q) (q.pr 0))
theorem akn(q:Cn):bY prog (Cl q)=some (kB (q0 q.b 5 (Cl q).frame q.ks)):=HW
noncomputable def Cg(q:Cn):Gq:=aN prog 60 (R ((Cl q).frame.finish (.tuple #[])) q.ks)
def opsV:Array Oper:=(da (Cg ⟨0,default,[],#[],0,default,0⟩)).getD #[]
theorem Rm(q:Cn):da (Cg q)=some opsV:=HW
theorem ZQ:sound opsV=true:=HW
theorem abf:opsV.size=6:=HW
theorem agA(q:Cn):(Cg q).frame.kind=.normal:=HW
def V4(q:Cn)(i:Nat):HH:=match i with|2=>q.p 8|3=>q.pr 1|4=>.int .i64 q.v|5=>.tuple #[]|_=>q.p 0
def E4(q:Cn):Gq:=bz (Cg q) opsV (V4 q)
def x4(q:Cn)(i:Nat):Option (Sem Next):=(opsV[i]?).map λo=>execOp (E4 q).frame.eval o
theorem abG(q:Cn):(x4 q 0).map (calm? prog)=some (some (.value (V4 q 0))):=HW
theorem Lm(q:Cn):(x4 q 1).map (calm? prog)=some (some (.value (V4 q 1))):=HW
theorem Y'(q:Cn):(x4 q 2).map (calm? prog)=some (some (.value (V4 q 2))):=HW
theorem Xe(q:Cn):(x4 q 3).map (calm? prog)=some (some (.value (V4 q 3))):=HW
theorem Vu(q:Cn):x4 q 4=some (do pure (.value (<-Instr.loadAt 3 (q.pr 1)))):=HW
theorem afc(q:Cn):(x4 q 5).map (calm? prog)=some (some (.enter 175 #[q.p 8,.int .i64 q.v])):=HW
noncomputable def Ch(q:Cn):Gq:=aN prog 60 (E4 q)
def pO:Array Oper:=(da (Ch ⟨0,default,[],#[],0,default,0⟩)).getD #[]
theorem Yc(q:Cn):da (Ch q)=some pO:=HW
theorem Qw:sound pO=true:=HW
theorem Nr:pO.size=6:=HW
theorem LZ(q:Cn):(Ch q).frame.kind=.normal:=HW
def V5(q:Cn)(i:Nat):HH:=match i with|2=>q.p 8|3=>q.pr 7|4=>.string q.s|5=>.tuple #[]|_=>q.p 0
def E5(q:Cn):Gq:=bz (Ch q) pO (V5 q)
def x5(q:Cn)(i:Nat):Option (Sem Next):=(pO[i]?).map λo=>execOp (E5 q).frame.eval o
theorem yy(q:Cn):(x5 q 0).map (calm? prog)=some (some (.value (V5 q 0))):=HW
theorem AZ(q:Cn):(x5 q 1).map (calm? prog)=some (some (.value (V5 q 1))):=HW
theorem AU(q:Cn):(x5 q 2).map (calm? prog)=some (some (.value (V5 q 2))):=HW
theorem xL(q:Cn):(x5 q 3).map (calm? prog)=some (some (.value (V5 q 3))):=HW
theorem yE(q:Cn):x5 q 4=some (do pure (.value (<-Instr.loadAt 9 (q.pr 7)))):=HW
theorem AK(q:Cn):(x5 q 5).map (calm? prog)=some (some (.enter 176 #[q.p 8,.string q.s])):=HW
noncomputable def Z2(q:Cn):Gq:=aL prog 204 6 80 (E5 q)
def kR(q:Cn):Frame:=(Z2 q).callers.getD 1 default
theorem YL(q:Cn):Z2 q=Um {b:=q.b,o:=5,c:=kR q,cs:=q.ks}:=HW
theorem Xt(q:Cn):aN prog 1 (R {kR q with mode:=.returning} q.ks)=R (q.c.finish (.tuple #[])) q.cs:=HW
structure Av where
 b:Nat
 c:Frame
 cs:Fi
 v:Int
abbrev Av.p(q:Av)(o:Nat):HH:=.pointer (some ⟨q.b,o,none⟩)
noncomputable def xI(q:Av):Gq:=R (Frame.enter prog 175 #[q.p 8,.int .i64 q.v] .normal) (q.c::q.cs)
noncomputable def A0(q:Av):Gq:=aL prog 175 6 20 (xI q)
theorem Fg(q:Av):semAt (A0 q)=some (do pure (.value (<-Go.binOp .eql 3 (.int .i64 q.v) (.int .i64 0)))):=HW
noncomputable def A1(q:Av):Gq:=aL prog 175 15 20 (fin (A0 q) (.bool false))
theorem qy(q:Av):semAt (A1 q)=some (do pure (.value (<-Go.binOp .eql 3 (.int .i64 q.v) (.int .i64 1)))):=HW
noncomputable def A2(q:Av):Gq:=aL prog 175 24 20 (fin (A1 q) (.bool false))
theorem Dt(q:Av):semAt (A2 q)=some (do pure (.value (<-Go.binOp .eql 3 (.int .i64 q.v) (.int .i64 2)))):=HW
noncomputable def L0(q:Av):Gq:=aL prog 175 10 20 (fin (A0 q) (.bool true))
theorem tG(q:Av):semAt (L0 q)=some (do pure (.value (<-Instr.loadAt 3 (q.p 8)))):=HW
noncomputable def L1(q:Av):Gq:=aL prog 175 19 20 (fin (A1 q) (.bool true))
theorem PA(q:Av):semAt (L1 q)=some (do pure (.value (<-Instr.loadAt 3 (q.p 9)))):=HW
noncomputable def L2(q:Av):Gq:=aL prog 175 28 20 (fin (A2 q) (.bool true))
theorem ajM(q:Av):semAt (L2 q)=some (do pure (.value (<-Instr.loadAt 3 (q.p 10)))):=HW
noncomputable def S0(q:Av)(n:Int):Gq:=aN prog 20 (fin (L0 q) (.int .i64 n))
theorem af9(q:Av)(n:Int):semAt (S0 q n)=some (do Instr.storeAt 3 (q.p 8) (.int .i64 (IntKind.i64.wrap (n+1)));pure .skip):=HW
noncomputable def S1(q:Av)(n:Int):Gq:=aN prog 20 (fin (L1 q) (.int .i64 n))
theorem sM(q:Av)(n:Int):semAt (S1 q n)=some (do Instr.storeAt 3 (q.p 9) (.int .i64 (IntKind.i64.wrap (n+1)));pure .skip):=HW
noncomputable def S2(q:Av)(n:Int):Gq:=aN prog 20 (fin (L2 q) (.int .i64 n))
theorem LA(q:Av)(n:Int):semAt (S2 q n)=some (do Instr.storeAt 3 (q.p 10) (.int .i64 (IntKind.i64.wrap (n+1)));pure .skip):=HW
theorem ag3(q:Av):aN prog 7 (fin (A2 q) (.bool false))=R (q.c.finish (.tuple #[])) q.cs:=HW
theorem Y2(q:Av)(n:Int):aN prog 4 (fin (S0 q n) undef)=R (q.c.finish (.tuple #[])) q.cs:=HW
theorem XB(q:Av)(n:Int):aN prog 4 (fin (S1 q n) undef)=R (q.c.finish (.tuple #[])) q.cs:=HW
theorem adf(q:Av)(n:Int):aN prog 4 (fin (S2 q n) undef)=R (q.c.finish (.tuple #[])) q.cs:=HW
end Kc
