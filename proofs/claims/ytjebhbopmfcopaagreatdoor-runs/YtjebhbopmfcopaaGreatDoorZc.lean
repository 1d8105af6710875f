/- Runs, a part. -/
import Derived.Test.YtjebhbopmfcopaaGreatDoorZa
set_option maxRecDepth 100000
namespace Go.Proofs.YtjebhbopmfcopaaGreatDoor
open Go.Proofs Tryz
noncomputable section
variable{b:Bool}{v:Fi}
namespace Kl
open Conc Kw
set_option maxRecDepth 100000
def qY(q:Lk):Dm:=tl 51 20 (B q)
theorem aeO(q:Lk):semAt (qY q)=some (do pure (.value (<-Go.binOp .and 21 (.int .i32 q.old) (.int .i32 4)))):=by kernel_rfl
theorem QT(q:Lk)(a:calm? (α:=Next) prog (do pure (.value (<-Go.binOp .and 21 (.int .i32 q.old) (.int .i32 4))))=some (.value v)):aa prog (B q) (fin (qY q) v):=ah (fn:=224) (d:=51) (n:=20) (aeO q) a
def kx(q:Lk)(z:Int):Dm:=tl 52 10 (fin (qY q) (.int .i32 z))
theorem Rz(q:Lk)(z:Int):semAt (kx q z)=some (do pure (.value (<-Go.binOp .eql 21 (.int .i32 z) (.int .i32 0)))):=by kernel_rfl
theorem D'(q:Lk)(z:Int)(a:calm? (α:=Next) prog (do pure (.value (<-Go.binOp .eql 21 (.int .i32 z) (.int .i32 0))))=some (.value v)):aa prog (fin (qY q) (.int .i32 z)) (fin (kx q z) v):=ah (fn:=224) (d:=52) (n:=10) (Rz q z) a
theorem Ti(q:Lk)(z:Int):tl 55 30 (fin (kx q z) (.bool false))=C {q with v7:=.int .i32 q.old,J:=ak (tl 55 30 (fin (kx q z) (.bool false)))}:=by kernel_rfl
theorem QR(q:Lk)(z:Int):aa prog (fin (kx q z) (.bool false)) (C {q with v7:=.int .i32 q.old,J:=ak (tl 55 30 (fin (kx q z) (.bool false)))}):=Ti q z▸ay prog 224 55 30 _
def fK(q:Lk)(z:Int):Dm:=tl 54 20 (fin (kx q z) (.bool true))
theorem yZ(q:Lk)(z:Int):semAt (fK q z)=some (do pure (.value (<-Go.binOp .or 21 (.int .i32 q.old) (.int .i32 1)))):=by kernel_rfl
theorem XD(q:Lk)(z:Int)(a:calm? (α:=Next) prog (do pure (.value (<-Go.binOp .or 21 (.int .i32 q.old) (.int .i32 1))))=some (.value v)):aa prog (fin (kx q z) (.bool true)) (fin (fK q z) v):=ah (fn:=224) (d:=54) (n:=20) (yZ q z) a
theorem B_t(q:Lk)(z y:Int):tl 55 30 (fin (fK q z) (.int .i32 y))=C {q with v7:=.int .i32 y,J:=ak (tl 55 30 (fin (fK q z) (.int .i32 y)))}:=by kernel_rfl
theorem agP(q:Lk)(z y:Int):aa prog (fin (fK q z) (.int .i32 y)) (C {q with v7:=.int .i32 y,J:=ak (tl 55 30 (fin (fK q z) (.int .i32 y)))}):=B_t q z y▸ay prog 224 55 30 _
def qx(q:Lk):Dm:=tl 56 10 (C q)
theorem afM(q:Lk):semAt (qx q)=some (do pure (.value (<-Go.binOp .and 21 (.int .i32 q.old) (.int .i32 5)))):=by kernel_rfl
theorem OU(q:Lk)(a:calm? (α:=Next) prog (do pure (.value (<-Go.binOp .and 21 (.int .i32 q.old) (.int .i32 5))))=some (.value v)):aa prog (C q) (fin (qx q) v):=ah (fn:=224) (d:=56) (n:=10) (afM q) a
def kH(q:Lk)(z:Int):Dm:=tl 57 10 (fin (qx q) (.int .i32 z))
theorem abQ(q:Lk)(z:Int):semAt (kH q z)=some (do pure (.value (<-Go.binOp .neq 21 (.int .i32 z) (.int .i32 0)))):=by kernel_rfl
theorem H7(q:Lk)(z:Int)(a:calm? (α:=Next) prog (do pure (.value (<-Go.binOp .neq 21 (.int .i32 z) (.int .i32 0))))=some (.value v)):aa prog (fin (qx q) (.int .i32 z)) (fin (kH q z) v):=ah (fn:=224) (d:=57) (n:=10) (abQ q z) a
theorem Ns(q:Lk)(z:Int):tl 60 30 (fin (kH q z) (.bool false))=D {q with J:=ak (tl 60 30 (fin (kH q z) (.bool false)))}:=by kernel_rfl
theorem ado(q:Lk)(z:Int):aa prog (fin (kH q z) (.bool false)) (D {q with J:=ak (tl 60 30 (fin (kH q z) (.bool false)))}):=Ns q z▸ay prog 224 60 30 _
def nO(q:Lk)(a z:Int):Dm:=tl 59 20 (fin (kH {q with v7:=.int .i32 a} z) (.bool true))
theorem abx(q:Lk)(a z:Int):semAt (nO q a z)=some (do pure (.value (<-Go.binOp .add 21 (.int .i32 a) (.int .i32 8)))):=by kernel_rfl
theorem aaA(q:Lk)(a z:Int)(b:calm? (α:=Next) prog (do pure (.value (<-Go.binOp .add 21 (.int .i32 a) (.int .i32 8))))=some (.value v)):aa prog (fin (kH {q with v7:=.int .i32 a} z) (.bool true)) (fin (nO q a z) v):=ah (fn:=224) (d:=59) (n:=20) (abx q a z) b
theorem C_t(q:Lk)(a z y:Int):tl 60 30 (fin (nO q a z) (.int .i32 y))=D {q with v7:=.int .i32 y,J:=ak (tl 60 30 (fin (nO q a z) (.int .i32 y)))}:=by kernel_rfl
theorem ace(q:Lk)(a z y:Int):aa prog (fin (nO q a z) (.int .i32 y)) (D {q with v7:=.int .i32 y,J:=ak (tl 60 30 (fin (nO q a z) (.int .i32 y)))}):=C_t q a z y▸ay prog 224 60 30 _
def rP(q:Lk):Dm:=tl 63 20 (D {q with sv:=true})
theorem abo(q:Lk):semAt (rP q)=some (do pure (.value (<-Go.binOp .and 21 (.int .i32 q.old) (.int .i32 1)))):=by kernel_rfl
theorem TZ(q:Lk)(a:calm? (α:=Next) prog (do pure (.value (<-Go.binOp .and 21 (.int .i32 q.old) (.int .i32 1))))=some (.value v)):aa prog (D {q with sv:=true}) (fin (rP q) v):=ah (fn:=224) (d:=63) (n:=20) (abo q) a
def kJ(q:Lk)(z:Int):Dm:=tl 64 10 (fin (rP q) (.int .i32 z))
theorem NZ(q:Lk)(z:Int):semAt (kJ q z)=some (do pure (.value (<-Go.binOp .neq 21 (.int .i32 z) (.int .i32 0)))):=by kernel_rfl
theorem Hj(q:Lk)(z:Int)(a:calm? (α:=Next) prog (do pure (.value (<-Go.binOp .neq 21 (.int .i32 z) (.int .i32 0))))=some (.value v)):aa prog (fin (rP q) (.int .i32 z)) (fin (kJ q z) v):=ah (fn:=224) (d:=64) (n:=10) (NZ q z) a
theorem Rt(q:Lk)(z:Int):tl 68 30 (fin (kJ q z) (.bool false))=E {q with sv:=true,J:=ak (tl 68 30 (fin (kJ q z) (.bool false)))}:=by kernel_rfl
theorem aaU(q:Lk)(z:Int):aa prog (fin (kJ q z) (.bool false)) (E {q with sv:=true,J:=ak (tl 68 30 (fin (kJ q z) (.bool false)))}):=Rt q z▸ay prog 224 68 30 _
def nE(q:Lk)(a z:Int):Dm:=tl 67 20 (fin (kJ {q with v7:=.int .i32 a} z) (.bool true))
theorem X9(q:Lk)(a z:Int):semAt (nE q a z)=some (do pure (.value (<-Go.binOp .or 21 (.int .i32 a) (.int .i32 4)))):=by kernel_rfl
theorem WX(q:Lk)(a z:Int)(b:calm? (α:=Next) prog (do pure (.value (<-Go.binOp .or 21 (.int .i32 a) (.int .i32 4))))=some (.value v)):aa prog (fin (kJ {q with v7:=.int .i32 a} z) (.bool true)) (fin (nE q a z) v):=ah (fn:=224) (d:=67) (n:=20) (X9 q a z) b
theorem Qw(q:Lk)(a z y:Int):tl 68 30 (fin (nE q a z) (.int .i32 y))=E {q with sv:=true,v7:=.int .i32 y,J:=ak (tl 68 30 (fin (nE q a z) (.int .i32 y)))}:=by kernel_rfl
theorem abX(q:Lk)(a z y:Int):aa prog (fin (nE q a z) (.int .i32 y)) (E {q with sv:=true,v7:=.int .i32 y,J:=ak (tl 68 30 (fin (nE q a z) (.int .i32 y)))}):=Qw q a z y▸ay prog 224 68 30 _
theorem MX(q:Lk):tl 68 50 (D {q with sv:=false})=E {q with sv:=false,J:=ak (tl 68 50 (D {q with sv:=false}))}:=by kernel_rfl
theorem MF(q:Lk):aa prog (D {q with sv:=false}) (E {q with sv:=false,J:=ak (tl 68 50 (D {q with sv:=false}))}):=MX q▸ay prog 224 68 50 _
def qR(q:Lk)(a:Int):Dm:=tl 70 20 (E {q with v7:=.int .i32 a,aw:=true})
theorem Vj(q:Lk)(a:Int):semAt (qR q a)=some (do pure (.value (<-Go.binOp .and 21 (.int .i32 a) (.int .i32 2)))):=by kernel_rfl
theorem VW(q:Lk)(a:Int)(b:calm? (α:=Next) prog (do pure (.value (<-Go.binOp .and 21 (.int .i32 a) (.int .i32 2))))=some (.value v)):aa prog (E {q with v7:=.int .i32 a,aw:=true}) (fin (qR q a) v):=ah (fn:=224) (d:=70) (n:=20) (Vj q a) b
def qF(q:Lk)(a z:Int):Dm:=tl 71 10 (fin (qR q a) (.int .i32 z))
theorem Vu(q:Lk)(a z:Int):semAt (qF q a z)=some (do pure (.value (<-Go.binOp .eql 21 (.int .i32 z) (.int .i32 0)))):=by kernel_rfl
theorem Wu(q:Lk)(a z:Int)(b:calm? (α:=Next) prog (do pure (.value (<-Go.binOp .eql 21 (.int .i32 z) (.int .i32 0))))=some (.value v)):aa prog (fin (qR q a) (.int .i32 z)) (fin (qF q a z) v):=ah (fn:=224) (d:=71) (n:=10) (Vu q a z) b
def nW(q:Lk)(a z:Int):Dm:=tl 74 20 (fin (qF q a z) (.bool false))
theorem VO(q:Lk)(a z:Int):semAt (nW q a z)=some (do pure (.value (<-Go.binOp .andNot 21 (.int .i32 a) (.int .i32 2)))):=by kernel_rfl
theorem M7(q:Lk)(a z:Int)(b:calm? (α:=Next) prog (do pure (.value (<-Go.binOp .andNot 21 (.int .i32 a) (.int .i32 2))))=some (.value v)):aa prog (fin (qF q a z) (.bool false)) (fin (nW q a z) v):=ah (fn:=224) (d:=74) (n:=20) (VO q a z) b
theorem Yb(q:Lk)(a z y:Int):tl 75 30 (fin (nW q a z) (.int .i32 y))=F {q with aw:=true,v7:=.int .i32 y,J:=ak (tl 75 30 (fin (nW q a z) (.int .i32 y)))}:=by kernel_rfl
theorem agm(q:Lk)(a z y:Int):aa prog (fin (nW q a z) (.int .i32 y)) (F {q with aw:=true,v7:=.int .i32 y,J:=ak (tl 75 30 (fin (nW q a z) (.int .i32 y)))}):=Yb q a z y▸ay prog 224 75 30 _
theorem E_f(q:Lk):tl 75 30 (E {q with aw:=false})=F {q with aw:=false,J:=ak (tl 75 30 (E {q with aw:=false}))}:=by kernel_rfl
theorem VJ(q:Lk):aa prog (E {q with aw:=false}) (F {q with aw:=false,J:=ak (tl 75 30 (E {q with aw:=false}))}):=E_f q▸ay prog 224 75 30 _
def C2(q:Lk)(a:Int):Dm:=tl 80 20 (F {q with v7:=.int .i32 a})
theorem Hy(q:Lk)(a:Int):semAt (C2 q a)=some (callFunc 223 #[q.m,.int .i32 q.old,.int .i32 a]):=by kernel_rfl
theorem Ie(q:Lk)(a:Int):aa prog (F {q with v7:=.int .i32 a}) (C2 q a):=ay prog 224 80 20 _
theorem OA(q:Lk)(a:Int):tl 81 20 (fin (C2 q a) (.bool true))=qU {q with v7:=.int .i32 a,J:=ak (tl 81 20 (fin (C2 q a) (.bool true)))}:=by kernel_rfl
theorem Ho(q:Lk)(a:Int):aa prog (fin (C2 q a) (.bool true)) (qU {q with v7:=.int .i32 a,J:=ak (tl 81 20 (fin (C2 q a) (.bool true)))}):=OA q a▸ay prog 224 81 20 _
theorem MC(q:Lk)(a:Int):tl 131 20 (fin (C2 q a) (.bool false))=sf {q with v7:=.int .i32 a,J:=ak (tl 131 20 (fin (C2 q a) (.bool false)))}:=by kernel_rfl
theorem Nv(q:Lk)(a:Int):aa prog (fin (C2 q a) (.bool false)) (sf {q with v7:=.int .i32 a,J:=ak (tl 131 20 (fin (C2 q a) (.bool false)))}):=MC q a▸ay prog 224 131 20 _
end Kl
namespace Kl
open Conc Kw Ph
section
variable{q:Lk}{x n:Wd}
theorem qg(h:q.sv=b):{q with sv:=b}=q:=by cases q;dsimp only at h;subst h;rfl
theorem D7(h:q.aw=b):{q with aw:=b}=q:=by cases q;dsimp only at h;subst h;rfl
theorem Eh(h:q.v7=v):{q with v7:=v}=q:=by cases q;dsimp only at h;subst h;rfl
attribute[local irreducible]B qY kx fK C qx kH nO D rP kJ nE E qR qF nW F C2 fin tl
theorem Vx(h:Sm x)(c:q.old=x.val):∃d,aa prog (B q) (C {q with v7:=.int .i32 ({x with l:=if x.s=0 then 1 else x.l}:Wd).val,J:=d}):=by have f:=h.2.2.1;have e1:=QT q (gu (r:=4*x.s) (by rw[c];exact wu h));rcases(show x.s=0\/x.s=1 by omega)with a|a;(·rw[if_pos a];have e2:=D' q (4*x.s) (cJ .i32 (r:=true) (by rw[a];rfl));have e:=XD q (4*x.s) (tX (r:=({x with l:=1}:Wd).val) (by rw[c];exact SV h));have b:=agP q (4*x.s) ({x with l:=1}:Wd).val;exact⟨_,e1.trans (e2.trans (e.trans b))⟩);·rw[if_neg (by omega),<-c];have e2:=D' q (4*x.s) (cJ .i32 (r:=false) (by rw[a];rfl));have b:=QR q (4*x.s);exact⟨_,e1.trans (e2.trans b)⟩
theorem N8(h:Sm x)(f:q.old=x.val)(e:Sm n)(c:q.v7=.int .i32 n.val):∃b,aa prog (C q) (D {q with v7:=.int .i32 ({n with w:=if x.l=1\/x.s=1 then n.w+1 else n.w}:Wd).val,J:=b}):=by have h1:=h.1;have g:=h.2.2.1;have e1:=OU q (gu (r:=x.l+4*x.s) (by rw[f];exact uO h));by_cases hl:x.l=1\/x.s=1;(·rw[if_pos hl];have e2:=H7 q (x.l+4*x.s) (dO .i32 (r:=true) (by simp;omega));have d:=aaA q n.val (x.l+4*x.s) (xg .i32 (NH e));rw[Eh c]at d;have a:=ace q n.val (x.l+4*x.s) ({n with w:=n.w+1}:Wd).val;exact⟨_,e1.trans (e2.trans (d.trans a))⟩);·rw[if_neg hl];have e2:=H7 q (x.l+4*x.s) (dO .i32 (r:=false) (by simp;omega));have a:=ado q (x.l+4*x.s);show∃b,aa prog (C q) (D {q with v7:=.int .i32 n.val,J:=b});rw[<-c];exact⟨_,e1.trans (e2.trans a)⟩
theorem SW(h:Sm x)(f:q.old=x.val)(g:Sm n)(c:q.v7=.int .i32 n.val):∃a,aa prog (D q) (E {q with v7:=.int .i32 ({n with s:=if q.sv=true/\x.l=1 then 1 else n.s}:Wd).val,J:=a}):=by have h1:=h.1;cases d:q.sv with|false=>rw[if_neg (by simp)];show∃a,aa prog (D q) (E {q with sv:=false,v7:=.int .i32 n.val,J:=a});have:=MF q;rw[qg d]at this;rw[<-c];exact⟨_,this⟩|true=>have e1:=TZ q (gu (r:=x.l) (by rw[f];exact X3 h));rw[qg d]at e1;by_cases hl:x.l=1;(·rw[if_pos ⟨rfl,hl⟩];have e2:=Hj q x.l (dO .i32 (r:=true) (by simp;omega));have e:=WX q n.val x.l (tX (or4 g));rw[Eh c]at e;have b:=abX q n.val x.l ({n with s:=1}:Wd).val;exact⟨_,e1.trans (e2.trans (e.trans b))⟩);·rw[if_neg (by simp[hl])];show∃a,aa prog (D q) (E {q with sv:=true,v7:=.int .i32 n.val,J:=a});have e2:=Hj q x.l (dO .i32 (r:=false) (by simp;omega));have b:=aaU q x.l;rw[<-c];exact⟨_,e1.trans (e2.trans b)⟩
theorem p_E(f:Sm n)(e:q.v7=.int .i32 n.val)(d:q.aw=true->n.k=1):∃j,aa prog (E q) (C2 {q with J:=j} ({n with k:=if q.aw then 0 else n.k}:Wd).val):=by obtain⟨b,o,c,cs,ws,sv,aw,it,old,v7,v9,J⟩:=q;dsimp only at e d⊢;subst e;cases aw with|false=>rw[if_neg (by simp)];have e1:=VJ ⟨b,o,c,cs,ws,sv,false,it,old,.int .i32 n.val,v9,J⟩;generalize ak _=a at e1;have e2:=Ie ⟨b,o,c,cs,ws,sv,false,it,old,.int .i32 n.val,v9,a⟩ n.val;exact⟨a,e1.trans e2⟩|true=>rw[if_pos rfl];have e1:=VW ⟨b,o,c,cs,ws,sv,true,it,old,.int .i32 n.val,v9,J⟩ n.val (gu (Dc f));have e2:=Wu ⟨b,o,c,cs,ws,sv,true,it,old,.int .i32 n.val,v9,J⟩ n.val (2*n.k) (cJ .i32 (r:=false) (by rw[d rfl];rfl));have i:=M7 ⟨b,o,c,cs,ws,sv,true,it,old,.int .i32 n.val,v9,J⟩ n.val (2*n.k) (KV (RJ f));have g:=agm ⟨b,o,c,cs,ws,sv,true,it,old,.int .i32 n.val,v9,J⟩ n.val (2*n.k) ({n with k:=0}:Wd).val;generalize ak _=a at g;have h:=Ie ⟨b,o,c,cs,ws,sv,true,it,old,.int .i32 n.val,v9,a⟩ ({n with k:=0}:Wd).val;exact⟨a,e1.trans (e2.trans (i.trans (g.trans h)))⟩
theorem Y'{T:Th}(z:T.old.ok)(d:q.old=T.old.val)(C:q.sv=T.sv)(i:q.aw=T.aw)(D:T.aw=true->T.old.k=1):∃v7 J,aa prog (B q) (C2 {q with v7:=v7,J:=J} (fZ T).val):=by
 obtain⟨y,r,p,E⟩:=z;have h:Sm T.old:=⟨y,r,p,by omega⟩;obtain⟨x,k1⟩:=Vx h d;generalize b:({T.old with l:=if T.old.s=0 then 1 else T.old.l}:Wd)=n1 at k1;have m1:Sm n1:=by subst b;refine⟨?_,r,p,by dsimp only;omega⟩;dsimp only;split<;>omega
 obtain⟨g,j⟩:=N8 (q:={q with v7:=.int .i32 n1.val,J:=x}) h d m1 rfl;generalize c:({n1 with w:=if T.old.l=1\/T.old.s=1 then n1.w+1 else n1.w}:Wd)=n2 at j;have n:Sm n2:=by obtain⟨a1,a2,a3,a4⟩:=m1;(have:n1.w=T.old.w:=by subst b;rfl);subst c;refine⟨a1,a2,a3,?_⟩;dsimp only;split<;>omega
 obtain⟨o,m⟩:=SW (q:={q with v7:=.int .i32 n2.val,J:=g}) h d n rfl;generalize f:({n2 with s:=if({q with v7:=.int .i32 n2.val,J:=g}:Lk).sv=true/\T.old.l=1 then 1 else n2.s}:Wd)=a at m;have v:Sm a:=by obtain⟨a1,a2,a3,a4⟩:=n;subst f;refine⟨a1,a2,?_,a4⟩;dsimp only;split<;>omega
 have A:a.k=T.old.k:=by subst f c b;rfl
 obtain⟨F,t⟩:=p_E (q:={q with v7:=.int .i32 a.val,J:=o}) v rfl (λe=>by rw[A];exact D (i▸e));have u:({a with k:=if({q with v7:=.int .i32 a.val,J:=o}:Lk).aw then 0 else a.k}:Wd)=fZ T:=by subst f c b;simp only[fZ,C,i]
 rw[u]at t;exact⟨_,_,k1.trans (j.trans (m.trans t))⟩
end
end Kl
end
end Go.Proofs.YtjebhbopmfcopaaGreatDoor
