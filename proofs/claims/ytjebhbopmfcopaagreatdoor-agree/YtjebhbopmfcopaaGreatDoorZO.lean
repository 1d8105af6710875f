/- Agree, a part. -/
import Derived.Test.YtjebhbopmfcopaaGreatDoorZN
namespace Go.Proofs.YtjebhbopmfcopaaGreatDoor
open Go.Proofs Tryz
noncomputable section
variable{b:Bool}
namespace Kl
open Conc Kw Ph
section
variable{q:Lk}{x n:Wd}
theorem oG(h:q.sv=b):{q with sv:=b}=q:=by cases q;dsimp only at h;subst h;rfl
theorem Hg(h:q.aw=b):{q with aw:=b}=q:=by cases q;dsimp only at h;subst h;rfl
theorem DD{v:HH}(h:q.v7=v):{q with v7:=v}=q:=by cases q;dsimp only at h;subst h;rfl
attribute[local irreducible]B ri kt fR C rB kr nk D sf kT nJ E sw ry nV F C2 fin tl
theorem p_B(h:Sm x)(c:q.old=x.val):∃d,aa prog (B q) (C {q with v7:=.int .i32 ({x with l:=if x.s=0 then 1 else x.l}:Wd).val,J:=d}):=by have f:=h.2.2.1;have e1:=Pf q (gU (r:=4*x.s) (by rw[c];exact uF h));rcases(show x.s=0\/x.s=1 by omega)with a|a;(·rw[if_pos a];have e2:=Jr q (4*x.s) (cS .i32 (r:=true) (by rw[a];rfl));have e:=ab7 q (4*x.s) (vh (r:=({x with l:=1}:Wd).val) (by rw[c];exact Hy h));have b:=ZD q (4*x.s) ({x with l:=1}:Wd).val;exact⟨_,e1.trans (e2.trans (e.trans b))⟩);·rw[if_neg HU,<-c];have e2:=Jr q (4*x.s) (cS .i32 (r:=false) (by rw[a];rfl));have b:=acY q (4*x.s);exact⟨_,e1.trans (e2.trans b)⟩
theorem p_C(h:Sm x)(f:q.old=x.val)(e:Sm n)(c:q.v7=.int .i32 n.val):∃b,aa prog (C q) (D {q with v7:=.int .i32 ({n with w:=if x.l=1\/x.s=1 then n.w+1 else n.w}:Wd).val,J:=b}):=by have h1:=h.1;have g:=h.2.2.1;have e1:=aaU q (gU (r:=x.l+4*x.s) (by rw[f];exact wM h));by_cases hl:x.l=1\/x.s=1;(·rw[if_pos hl];have e2:=GW q (x.l+4*x.s) (dN .i32 (r:=true) (by simp;omega));have d:=Tp q n.val (x.l+4*x.s) (xE .i32 (TB e));rw[DD c]at d;have a:=Xw q n.val (x.l+4*x.s) ({n with w:=n.w+1}:Wd).val;exact⟨_,e1.trans (e2.trans (d.trans a))⟩);·rw[if_neg hl];have e2:=GW q (x.l+4*x.s) (dN .i32 (r:=false) (by simp;omega));have a:=Uo q (x.l+4*x.s);show∃b,aa prog (C q) (D {q with v7:=.int .i32 n.val,J:=b});rw[<-c];exact⟨_,e1.trans (e2.trans a)⟩
theorem IE(h:Sm x)(f:q.old=x.val)(g:Sm n)(c:q.v7=.int .i32 n.val):∃a,aa prog (D q) (E {q with v7:=.int .i32 ({n with s:=if q.sv=true/\x.l=1 then 1 else n.s}:Wd).val,J:=a}):=by have h1:=h.1;cases d:q.sv with|false=>rw[if_neg HY];show∃a,aa prog (D q) (E {q with sv:=false,v7:=.int .i32 n.val,J:=a});have:=VF q;rw[oG d]at this;rw[<-c];exact⟨_,this⟩|true=>have e1:=Sj q (gU (r:=x.l) (by rw[f];exact aen h));rw[oG d]at e1;by_cases hl:x.l=1;(·rw[if_pos ⟨rfl,hl⟩];have e2:=CV q x.l (dN .i32 (r:=true) (by simp;omega));have e:=XW q n.val x.l (vh (Uf g));rw[DD c]at e;have b:=ac2 q n.val x.l ({n with s:=1}:Wd).val;exact⟨_,e1.trans (e2.trans (e.trans b))⟩);·rw[if_neg (by simp[hl])];show∃a,aa prog (D q) (E {q with sv:=true,v7:=.int .i32 n.val,J:=a});have e2:=CV q x.l (dN .i32 (r:=false) (by simp;omega));have b:=MF q x.l;rw[<-c];exact⟨_,e1.trans (e2.trans b)⟩
theorem tM(f:Sm n)(e:q.v7=.int .i32 n.val)(d:q.aw=true->n.k=1):∃j,aa prog (E q) (C2 {q with J:=j} ({n with k:=if q.aw then 0 else n.k}:Wd).val):=by obtain⟨b,o,c,cs,ws,sv,aw,it,old,v7,v9,J⟩:=q;dsimp only at e d⊢;subst e;cases aw with|false=>rw[if_neg HY];have e1:=aaj ⟨b,o,c,cs,ws,sv,false,it,old,.int .i32 n.val,v9,J⟩;generalize au _=a at e1;have e2:=Gi ⟨b,o,c,cs,ws,sv,false,it,old,.int .i32 n.val,v9,a⟩ n.val;exact⟨a,e1.trans e2⟩|true=>rw[if_pos rfl];have e1:=PP ⟨b,o,c,cs,ws,sv,true,it,old,.int .i32 n.val,v9,J⟩ n.val (gU (Jb f));have e2:=VL ⟨b,o,c,cs,ws,sv,true,it,old,.int .i32 n.val,v9,J⟩ n.val (2*n.k) (cS .i32 (r:=false) (by rw[d rfl];rfl));have i:=aij ⟨b,o,c,cs,ws,sv,true,it,old,.int .i32 n.val,v9,J⟩ n.val (2*n.k) (afW (ahU f));have g:=Vw ⟨b,o,c,cs,ws,sv,true,it,old,.int .i32 n.val,v9,J⟩ n.val (2*n.k) ({n with k:=0}:Wd).val;generalize au _=a at g;have h:=Gi ⟨b,o,c,cs,ws,sv,true,it,old,.int .i32 n.val,v9,a⟩ ({n with k:=0}:Wd).val;exact⟨a,e1.trans (e2.trans (i.trans (g.trans h)))⟩
theorem Yn{T:Th}(z:T.old.ok)(d:q.old=T.old.val)(C:q.sv=T.sv)(i:q.aw=T.aw)(D:T.aw=true->T.old.k=1):∃v7 J,aa prog (B q) (C2 {q with v7:=v7,J:=J} (gq T).val):=by
 obtain⟨y,r,p,E⟩:=z;have h:Sm T.old:=⟨y,r,p,HU⟩;obtain⟨x,k1⟩:=p_B h d;generalize b:({T.old with l:=if T.old.s=0 then 1 else T.old.l}:Wd)=n1 at k1;have m1:Sm n1:=by subst b;refine⟨?_,r,p,by dsimp only;omega⟩;dsimp only;split<;>omega
 obtain⟨g,j⟩:=p_C (q:={q with v7:=.int .i32 n1.val,J:=x}) h d m1 rfl;generalize c:({n1 with w:=if T.old.l=1\/T.old.s=1 then n1.w+1 else n1.w}:Wd)=n2 at j;have n:Sm n2:=by obtain⟨a1,a2,a3,a4⟩:=m1;(have:n1.w=T.old.w:=by subst b;rfl);subst c;refine⟨a1,a2,a3,?_⟩;dsimp only;split<;>omega
 obtain⟨o,m⟩:=IE (q:={q with v7:=.int .i32 n2.val,J:=g}) h d n rfl;generalize f:({n2 with s:=if({q with v7:=.int .i32 n2.val,J:=g}:Lk).sv=true/\T.old.l=1 then 1 else n2.s}:Wd)=a at m;have v:Sm a:=by obtain⟨a1,a2,a3,a4⟩:=n;subst f;refine⟨a1,a2,?_,a4⟩;dsimp only;split<;>omega
 have A:a.k=T.old.k:=by subst f c b;rfl
 obtain⟨F,t⟩:=tM (q:={q with v7:=.int .i32 a.val,J:=o}) v rfl (λe=>by rw[A];exact D (i▸e));have u:({a with k:=if({q with v7:=.int .i32 a.val,J:=o}:Lk).aw then 0 else a.k}:Wd)=gq T:=by subst f c b;simp only[gq,C,i]
 rw[u]at t;exact⟨_,_,k1.trans (j.trans (m.trans t))⟩
end
end Kl
