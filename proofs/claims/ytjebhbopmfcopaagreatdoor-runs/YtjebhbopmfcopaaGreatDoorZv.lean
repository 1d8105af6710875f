/- Runs, a part. -/
import Derived.Conc.SmallLaws
import Derived.Test.YtjebhbopmfcopaaGreatDoorZi
import Derived.Test.YtjebhbopmfcopaaGreatDoorZu
set_option maxRecDepth 100000
namespace Go.Proofs.YtjebhbopmfcopaaGreatDoor
open Go.Proofs Tryz
noncomputable section
variable{a:Addr}{a':B6}{g:CL}{O:Nat->Prop}{P:Program}{t:TypeId}{x:Fi}{v v1 v1' v2 v2' w w':DS}
namespace Co
set_option maxRecDepth 100000
def qX(f:Nat):Bool:=f==188||f==189
section
variable{K:Cm}{S:FuncId->Bool}{r:Rn}
theorem H5:∀(n t:Nat)(a:B6),cL a->cL (Extern.BytealgMakeNoZero.digits n t a)|0,_,_,h=>h|n+1,t,a,h=>H5 n (t/256) _ (by intro i b;rw[Array.getElem_push];split;(·exact h i _);·exact .int _ _)
theorem CG{f:FuncId}{fn:Func}{e:B6->Sem Fi}(h1:P.funcs[f]?=some fn)(c:K.F[f]?=some fn)(d:(fn.name== "runtime.NumGoroutine")=false)(g:fn.body.isNone=true)(h:(Extern.findNext fn).isNone=true)(i:Extern.find fn=some e){a:B6}(j:SR P K (VR P.globals.size) r (e a) (e a')):SR P K (NR K P.globals.size S) r (callFunc f a) (callFunc f a'):=by unfold callFunc;refine SR.program ?_;show SR P K _ r (Sem.bind (Sem.pure P) _) (Sem.bind (Sem.pure (aJ P K.F)) _);simp only[Sem.bind];have k:(aJ P K.F).funcs[f]?=some fn:=c;rw[h1,k];(have b:Extern.findNext fn=none:=by simpa using h);simp only[d,g,b,i,Bool.false_eq_true,if_false,if_true];refine SR.extern f ?_;exact dT j
theorem aeU{a:B6}(h:AR P.globals.size r a a'):SR P K (VR P.globals.size) r (Extern.AbiNoEscape.same a) (Extern.AbiNoEscape.same a'):=by have c:=h.toList;obtain⟨l⟩:=a;obtain⟨l'⟩:=a';cases c with|nil=>exact ax _ _|cons b k=>cases k with|nil=>exact ag b|cons _ _=>exact ax _ _
theorem adU(ps rs:Array TypeId){a:B6}(h:AR P.globals.size r a a'):SR P K (VR P.globals.size) r (Extern.BytealgMakeNoZero.makeNoZero ps rs a) (Extern.BytealgMakeNoZero.makeNoZero ps rs a'):=by have f:=h.toList;obtain⟨l⟩:=a;obtain⟨l'⟩:=a';cases f with|nil=>exact ax _ _|cons b k=>cases k with|cons _ _=>(cases b<;>first|exact ax _ _|(rename_i k _;cases k<;>exact ax _ _))|nil=>cases b with|int k n=>(cases k with|i64=>(unfold Extern.BytealgMakeNoZero.makeNoZero;cases rs[0]? with|none=>exact ax _ _|some t=>refine ae (cg t) ?_;rintro r1 d _ m⟨rfl,_⟩;cases d with|slice elem=>by_cases hn:(decide (n<0)||decide (n>2^48))=true;(·simp only[hn,if_true];exact dm (iD _) _);·simp only[hn];refine ae (pV _) ?_;rintro r2 cap _ s rfl;refine ae (Au _) ?_;rintro r3 _ _ o _;refine ae (pV _) ?_;rintro g e _ q rfl;refine ae (og elem ((H5 cap e #[] (λi j=>absurd j (by simp))).ar _ g)) ?_;intro u p v w c;exact ag (c.sl _ _)|_=>exact ax _ _)|_=>exact ax _ _)|_=>exact ax _ _
end
set_option maxRecDepth 100000
noncomputable def okF(K:Cm)(S:FuncId->Bool)(f:Nat):Bool:=match(prog.funcs[f]?).bind (·.body)with|some c=>gF prog K S c|none=>true
theorem tT{K:Cm}{l:List Nat}(i:K.F=prog.funcs)(d:K.E=λ_=>false)(g:∀f,K.X f=true->∀(r:Rn)(a a':B6),AR prog.globals.size r a a'->SR prog K (NR K prog.globals.size λf=>l.contains f) r (callFunc f a) (callFunc f a'))(h:(l.all λf=>okF K (λf=>l.contains f) f)=true):Closed prog K λf=>l.contains f:=by refine⟨⟨⟨λf b=>by rw[i],λf b=>(by rw[d]at b;cases b),g⟩,λf fn c b j e=>?_⟩,λf=>by rw[d]⟩;have:=List.all_eq_true.1 h f (by simpa using b);unfold okF at this;rw[j]at this;simp only[Option.bind_some,e]at this;exact this
def zU:List Nat:=[191,220,192,151,91,43,90,42,88,89,87,190,149,102,48,117,157,150,77,86,99,120,98,46,85,41,20]
def SA(f:FuncId):Bool:=zU.contains f
noncomputable def KA:Cm:=⟨prog.funcs,false,λ_=>false,λ_=>false,λ_=>false⟩
theorem PJ:(zU.all λf=>okF KA (λf=>zU.contains f) f)=true:=by kernel_rfl
theorem vW:Closed prog KA SA:=tT rfl rfl (λf a=>by cases a) PJ
def yN:List Nat:=[157,77,102,48,117,60,59,120,98,58,26]
def SN(f:FuncId):Bool:=yN.contains f
noncomputable def KN:Cm:=⟨prog.funcs,true,λ_=>false,λ_=>false,λ_=>false⟩
theorem YB:(yN.all λf=>okF KN (λf=>yN.contains f) f)=true:=by kernel_rfl
theorem UD:Closed prog KN SN:=tT rfl rfl (λf a=>by cases a) YB
def zY:List Nat:=[21,22,32,33,34,62,63,64,65,66,67,77,92,119,120]
def SF(f:FuncId):Bool:=zY.contains f
theorem SZ:(zY.all λf=>okF KN (λf=>zY.contains f) f)=true:=by kernel_rfl
theorem rV:Closed prog KN SF:=tT rfl rfl (λf a=>by cases a) SZ
def qG(g:Nat):Bool:=[0,1,5,8,9].contains g
noncomputable def KC:Cm:=⟨prog.funcs,true,λ_=>false,qX,qG⟩
def zB:List Nat:=[19,38,39,40,62,76,77,78,79,80,81,82,83,84,93,94,96,98,100,101,103,104,106,110,116,119,120,146,147,148,152,153,154,155,156,158,159,160,163,164,165,166,167,168,187,193,194,195,196,197,198,200,201,202,216,217,218,219,221,222,230,231,232,233,234,244,245]
def SC(f:FuncId):Bool:=zB.contains f
theorem Ll:(zB.all λf=>okF KC (λf=>zB.contains f) f)=true:=by kernel_rfl
theorem n188:(f188.name== "runtime.NumGoroutine")=false:=by kernel_rfl
theorem agz:f188.body.isNone=true:=by kernel_rfl
theorem LO:(Extern.findNext f188).isNone=true:=by kernel_rfl
theorem agV:Extern.find f188=some Extern.AbiNoEscape.same:=by kernel_rfl
theorem n189:(f189.name== "runtime.NumGoroutine")=false:=by kernel_rfl
theorem MJ:f189.body.isNone=true:=by kernel_rfl
theorem Yv:(Extern.findNext f189).isNone=true:=by kernel_rfl
theorem ZH:Extern.find f189=some (Extern.BytealgMakeNoZero.makeNoZero f189.params f189.resultTypes):=by kernel_rfl
theorem abg{S:FuncId->Bool}:∀f,KC.X f=true->∀(r:Rn)(a a':B6),AR prog.globals.size r a a'->SR prog KC (NR KC prog.globals.size S) r (callFunc f a) (callFunc f a'):=by intro f c r a a' b;simp only[KC,qX,Bool.or_eq_true,beq_iff_eq]at c;rcases c with rfl|rfl;(·exact CG func188 func188 n188 agz LO agV (aeU b));·exact CG func189 func189 n189 MJ Yv ZH (adU _ _ b)
theorem xh:Closed prog KC SC:=tT rfl rfl abg Ll
theorem To(P:Program):aJ P P.funcs=P:=rfl
theorem Hn:aJ prog KA.F=prog:=To _
end Co
namespace Co
open Ph Kw
section
variable{C:Cx}{RO:Nat->Prop}
structure uk(C:Cx)(RO:Nat->Prop):Prop where
 low:∀b,RO b->b<C.low/\b≠C.Cw/\b≠C.Wg/\b≠C.Rc
 sh:∀b,RO b->∀a:Addr,a.block=b->¬C.iq (.cell a)
 cw:C.Cw<C.low
 rc:C.Rc<C.low
def kv(RO:Nat->Prop)(v:DS):Prop:=∀a:Addr,RO a.block->v.frozen? a=false
def nK(RO:Nat->Prop)(v:DS):Prop:=∀b,RO b->∃(c:B6)(t:TypeId)(fz:Nat×Nat),v.heap[b]?=some (.cells c t fz)/\yd c.size fz/\0<c.size
structure jF(RO O:Nat->Prop)(r:Rn):Prop where
 own:∀a b,r a b->RO b\/O b
 ro:∀b,RO b->r b b
theorem nK.grow{v':DS}(h:nK RO v)(g:bh v v'):nK RO v':=by intro b d;obtain⟨c,t,fz,h1,e,f⟩:=h b d;obtain⟨l,k,i,m,_,j⟩:=g.row b c t fz h1;obtain⟨rfl,a⟩:=j e;exact⟨_,t,k,i,a,f⟩
theorem Qj{K:Cm}{r1 h r2 i:Rn}(R:WR K P r1 v1 w)(u:WR K P h v1' w')(W:WR K P r2 v2 w)(F:WR K P i v2' w')(k:r1.le h)(x:r2.le i)(Q:bh v1 v1')(U:bh v2 v2')(B:nK RO v1)(C:kv RO v2)(O:kv RO v2'){b:Nat}(l:RO b)(s1:r1 b b)(s2:r2 b b):w'.heap[b]?=w.heap[b]?:=by obtain⟨c,t,fz,h1,S,m⟩:=B b l;obtain⟨c',a5,k1,k2,_,A⟩:=Q.row b c t fz h1;obtain⟨rfl,k5⟩:=A S;obtain⟨o,o',a1,a2,a3⟩:=R.cy b b s1;obtain⟨p,p',q,j,D⟩:=u.cy b b (k _ _ s1);obtain⟨o2,a4,d1,d2,d3⟩:=W.cy b b s2;obtain⟨p2,a8,e1,e2,E⟩:=F.cy b b (x _ _ s2);rw[h1]at a1;cases a1;rw[k1]at q;cases q;rw[a2]at d2;cases d2;rw[j]at e2;cases e2;cases a3 with|@cells _ cw _ _ fw e _=>cases D with|@cells _ G _ _ a0 H _=>have I:G=cw:=Fu u.one H (e.mono k);subst I;cases d3 with|@cells c2 _ _ f2 _ J z=>cases E with|@cells L _ _ a7 _ u1 M=>(have n2:0<c2.size:=by rw[J.1,<-e.1];exact m);(have y:0<L.size:=by rw[u1.1,<-e.1];exact m);(have s:∀{n:Nat}{r:B6}{tt:TypeId}{a f0:Nat×Nat}{f:DS},f.heap[b]?=some (.cells r tt a)->0<n->kv RO f->ku K n a f0->a=f0/\¬a.1<a.2:=by intro n r tt a f0 f T N V g;(have v:∀off,(decide (a.1<=off)&&decide (off<a.2))=false:=λoff=>by have:=V ⟨b,off,none⟩ l;simp only[World.frozen?,T]at this;exact this);refine⟨g.elim id λg=>?_,λa6=>?_⟩;(·have h0:=g.2 0 N;have:=v 0;simp at this;omega);·have:=v a.1;simp at this;omega);obtain⟨Y,q2⟩:=s d1 n2 C z;obtain⟨X,Z⟩:=s e1 y O M;obtain⟨c3,f3,m1,_,d,_⟩:=U.row b _ _ _ d1;rw[e1]at m1;cases m1;rw[a2,j,<-Y,<-X];rcases d with d|d;(·rw[d]);·exact absurd d Z
theorem WR.rl{K:Cm}{r:Rn}{g:DS}{own:Bool}{af:Option Nat}(R:uk C RO)(h:WR K P r v w)(d:jF RO O r)(k:Rl C O own af w g):WR K P r v g:=by refine⟨λa b f=>?_,h.inj,h.one,h.low,h.eu⟩;obtain⟨o,l,h1,e,j⟩:=h.cy a b f;refine⟨o,l,h1,?_,j⟩;rcases d.own a b f with c|c;(·obtain⟨l1,m,n,i⟩:=R.low b c;rw[k.low b l1 m n i];exact e);·rw[k.mine b c];exact e
theorem EJ{r1 q r2 A:Rn}{K:Cm}{wr:Option Nat}{H:Array Event}(R:uk C RO)(W:WR K P r1 v1 w)(s:WR K P q v1' w')(Y:WR K P r2 v2 w)(I:WR K P A v2' w')(f1:Eff r1 q v1 w w')(f2:Eff r2 A v2 w w')(L:bh v1 v1')(Q:bh v2 v2')(D:nK RO v1)(N:kv RO v2)(S:kv RO v2')(d1:jF RO O r1)(d2:jF RO O r2)(Z:∀b,O b->C.low<=b)(hl:C.low<=w.heap.size)(M:∀e∈H,jR q v1 e):(∀b,b<C.low->w'.heap[b]?=w.heap[b]?)/\Dn C O (λb=>O b\/(w.heap.size<=b/\b<w'.heap.size)) false false wr w w' H/\jF RO (λb=>O b\/(w.heap.size<=b/\b<w'.heap.size)) q/\jF RO (λb=>O b\/(w.heap.size<=b/\b<w'.heap.size)) A:=by
 have J:∀{r u:Rn}{v v':DS},WR K P u v' w'->Eff r u v w w'->jF RO O r->jF RO (λb=>O b\/(w.heap.size<=b/\b<w'.heap.size)) u:=by intro r u v v' X f d;refine⟨λa b j=>?_,λb i=>f.le _ _ (d.ro b i)⟩;rcases f.new a b j with h|h;(·exact(d.own a b h).elim .inl λh=>.inr (.inl h));·exact .inr (.inr ⟨h.2,(X.lt j).2⟩)
 have D1:=J s f1 d1;have D2:=J I f2 d2;have keep:∀b,b<w.heap.size->¬O b->w'.heap[b]?=w.heap[b]?:=by intro b i B;by_cases y:∃a,r1 a b;(·obtain⟨a,F⟩:=y;rcases d1.own a b F with h|h;(·exact Qj W s Y I f1.le f2.le L Q D N S h (d1.ro b h) (d2.ro b h));·exact absurd h B);·exact f1.keep b i λa F=>y ⟨a,F⟩
 have z:∀b,b<C.low->w'.heap[b]?=w.heap[b]?:=λb i=>keep b (by omega) λh=>by have:=Z b h;omega
 refine⟨z,⟨f1.tape,f1.output,f1.os,f1.size,λb=>Iff.rfl,λb i B _ _=>keep b i B,λx m g p=>⟨g,?_,λ_=>rfl⟩,λcs p=>⟨cs,?_,λ_ _=>rfl⟩,λe E=>?_,λh=>by cases h⟩,D1,D2⟩;·exact⟨(z _ R.cw).trans p.1,p.2⟩
 ·exact⟨(z _ R.rc).trans p.1,p.2⟩
 ·obtain⟨E,T⟩:=M e E;obtain⟨a0,wt,sy⟩:=e;rcases E with⟨a,b,j,l,o,n⟩|⟨f,y⟩|h|⟨a,b,j,l,o,n,U⟩;(·dsimp only at l o n;subst l o;refine .inr (.inl ⟨_,wt,rfl,?_⟩);rcases D1.own a.block b j with i|i;(·right;left;have G:a.block=b:=s.inj _ _ _ j (D1.ro b i);obtain⟨l1,l2,l3,l4⟩:=R.low b i;refine⟨?_,l1,l3,l4,λh=>absurd h l2,R.sh b i _ rfl⟩;cases wt with|false=>rfl|true=>exfalso;obtain⟨k1,k2⟩:=n rfl;obtain⟨c,t,fz,k,V,_⟩:=D b i;rw[<-G]at k;have:=V _ (k2 _ _ _ k);simp only[World.frozen?,k]at k1;simp at k1;omega);·exact .inl i);(·exact absurd y (T f));(·exact .inl h);·dsimp only at l o n;subst l o n;refine .inr (.inr ⟨b,rfl,?_⟩);rcases D1.own a b j with i|i;(·have G:a=b:=s.inj _ _ _ j (D1.ro b i);obtain⟨c,t,fz,k,_⟩:=D b i;rw[<-G]at k;exact absurd k (U _ _ _));·exact i
end
theorem uF{G:Nat}{r:Rn}{y:Fi}(h:cV x)(k:VR G r x y):y=x:=by induction h generalizing y with|bool b|int k' n|string s|cQ|cW l c|fn f|nilFunc|nilIface=>cases k;rfl|iface t h e=>(cases k with|iface _ d=>rw[e d])|agg h e=>(cases k with|agg g d=>congr 1;exact Array.ext g.symm λi a b=>e i b (d i b a))|tuple h e=>cases k with|tuple g d=>congr 1;exact Array.ext g.symm λi a b=>e i b (d i b a)
section
variable{C:Cx}{P:Program}{K:Cm}{RO:Nat->Prop}{S:FuncId->Bool}{Q1 Q2:Fi->DS->Prop}{I:DS->Prop}{X:Fi}{c:Frame}{cs:B8}{af wr:Option Nat}{Stop:(Nat->Prop)->Dm->DS->Prop}
structure Kept(C:Cx)(af:Option Nat)(I:DS->Prop):Prop where
 low:∀w,I w->C.low<=w.heap.size
 rl:∀O w w₁,I w->Rl C O false af w w₁->I w₁
 dn:∀w w',I w->w.heap.size<=w'.heap.size->(∀b,b<C.low->w'.heap[b]?=w.heap[b]?)->I w'
theorem zi(u:oq P K S){r:Rn}{fr fr':Frame}(d:FR P K S r fr fr')(f:WR K P r v w)(s:fr.leaving P v (.returned x))(m':Bool)(c:Frame)(cs:B8):∃x' w1 r1 i,stepG (aJ P K.F) m' (VG fr' (c::cs)) w=.go (VG (c.finish x') cs) w1 i/\VR P.globals.size r1 x x'/\WR K P r1 v w1/\Eff r r1 v w w1/\∀e∈i,jR r1 v e:=by obtain⟨h1,F,J,fn,A,C⟩:=s;have o:WR K P r (aG v w.tape w.drawn) w:=⟨f.cy,f.inj,f.one,f.low,f.eu⟩;have p:TW (aG v w.tape w.drawn) w:=λ_ _=>rfl;have h:=Sem.runT_fst P (results fn fr.tmps) v #[];rw[C]at h;cases j:(results fn fr.tmps).runT P v #[]with|mk cB i=>rw[j]at h;dsimp only at h;subst h;obtain⟨E,I,y⟩:=(nf (P:=P) (K:=K) fn d.tmps).tape v w #[] x v i f j;have m:=y w.tape w.drawn (λk q G=>by omega);rw[Nat.sub_self,Nat.add_zero]at m;obtain⟨⟨b,w1,new,r1,k1,z,g,L,a,t⟩,H⟩:=(nf (P:=P) (K:=K) fn d.tmps).pW (aG v w.tape w.drawn) w #[] #[] x _ _ o p m;rw[Array.empty_append]at k1;refine⟨b,w1,r1,seen (aJ P K.F) fr'.fn new,?_,z,⟨g.cy,g.inj,g.one,g.low,g.eu⟩,⟨a.tape,a.output,a.os,a.size,a.keep,a.new,a.le⟩,λe l=>⟨t e (fQ l),zq l⟩⟩;have m1:fr'.mode=.returning:=d.mode.trans h1;have B:=d.defers.2;have D:=d.kind.2;(have n:(aJ P K.F).funcs[fr'.fn]?=some fn:=by rw[d.fn.1];exact(u.same _ d.fn.2).trans A);simp only[stepG,m1,unwind,B,n,k1,doReturn,D,GStep.after,Array.append_empty]
theorem Ends.TL(Z:C.P=aJ P K.F)(q:Closed P K S)(R:uk C RO)(Kp:Kept C af I)(a9:∀x v',Q1 x v'->x=X)(hX:cV X)(T:∀x v',Q2 x v'->kv RO v')(k:∀O' d,(∀b,O' b->C.low<=b)->I d->av C false false false af wr Stop O' (VG (c.finish X) cs) d){H:Frame}{l1:B8}(a7:Ends P (Bs P) Q1 H l1 v1):∀{n fr':Frame}{A l':B8}{v2 w:DS}{r1 r2:Rn}{O:Nat->Prop},Ends P (Bs P) Q2 n A v2->FR P K S r1 H fr'->KR P K S r1 (Bs P) (c::cs) l1 l'->WR K P r1 v1 w->aW v1->(H.mode=.run\/H.mode=.returning)->FR P K S r2 n fr'->KR P K S r2 (Bs P) (c::cs) A l'->WR K P r2 v2 w->aW v2->nK RO v1->jF RO O r1->jF RO O r2->(∀b,O b->C.low<=b)->I w->av C false false false af wr Stop O (VG fr' l') w:=by have a3:∀{O:Nat->Prop}{w w':DS},(∀b,O b->C.low<=b)->I w->∀b,(O b\/(w.heap.size<=b/\b<w'.heap.size))->C.low<=b:=λj z b s=>s.elim (j b) λh=>Nat.le_trans (Kp.low _ z) h.1;induction a7 with|@gq fr v x h E=>(intro n fr' A l' v2 w r1 r2 O W t D i a0 N m r g U L d1 d2 j z;(have a8:l'=c::cs:=by generalize M:Bs P=B at D;cases D with|base=>rfl|cons hf _ k=>exfalso;obtain⟨bq,t1,_⟩:=k.bq;have:=congrArg List.length M;rw[t1]at this;simp[Bs]at this);subst a8;have ad:A=Bs P:=r.CZ rfl;subst ad;(have G:n.mode=.returning:=by rw[<-m.mode,t.mode];exact h.1);cases W with|step s _ _ _ _ _=>exact absurd ⟨G,rfl⟩ s|@gq _ _ x2 y a1=>have hx:=a9 _ _ E;subst hx;refine .step rfl λd o=>?_;have p:=Kp.rl _ _ _ z o;have i:=i.rl R d1 o;have g:=g.rl R d2 o;obtain⟨x',w',ac,es,s1,s2,s3,s4,s5⟩:=zi q.tooq t i h false c cs;obtain⟨ap,ag,a5,a6,p1,V,p3,F,p5⟩:=zi q.tooq m g y false c cs;rw[s1]at p1;simp only[GStep.go.injEq]at p1;obtain⟨_,rfl,rfl⟩:=p1;have J:=T _ _ a1;obtain⟨t1,t2,t3,t4⟩:=EJ (wr:=wr) R i s3 g p3 s4 F (bh.refl _) (bh.refl _) L J J d1 d2 j (Kp.low _ p) s5;have aa:=uF hX s2;subst aa;exact⟨_,w',es,_,by rw[Z];exact s1,t2,rfl,k _ w' (a3 j p) (Kp.dn _ _ p s4.size t1)⟩)|@step fr l v s f kk u h e ih=>intro n fr' A l' v2 w r1 r2 O W t D i a0 N m r g U L d1 d2 j z;(have G:n.mode=.run\/n.mode=.returning:=by rw[<-m.mode,t.mode];exact N);cases W with|@gq _ _ x2 y a1=>(exfalso;apply s;refine⟨by rw[<-t.mode,m.mode];exact y.1,D.CZ ?_⟩;generalize M:Bs P=B at r;cases r with|base=>rfl|cons hf _ k=>exfalso;obtain⟨bq,t1,_⟩:=k.bq;have:=congrArg List.length M;rw[t1]at this;simp[Bs]at this)|step a2 f2 ab u2 y e2=>refine .step rfl λd o=>?_;have p:=Kp.rl _ _ _ z o;have i:=i.rl R d1 o;have g:=g.rl R d2 o;have J:kv RO v2:=GF q (RO:=RO) (Q:=Q2) (λx v' E a Y=>T x v' E a Y) (.step a2 f2 ab u2 y e2) m r g U G;obtain⟨al,ae⟩:=h d.tape d.drawn;obtain⟨a6,ah⟩:=y d.tape d.drawn;obtain⟨n1,m1,ac,aj,ak,w',ai,q1,q2,q3,q4,q5,q6,q7⟩:=tD (m':=false) q s ae (uq (e d.tape d.drawn)) t D i a0 N;obtain⟨n2,m2,a5,am,an,ag,ao,p1,V,p3,F,p5,p6,p7⟩:=tD (m':=false) q a2 ah (uq (e2 d.tape d.drawn)) m r g U G;rw[q1]at p1;simp only[GStep.go.injEq,Goroutine.mk.injEq,and_true]at p1;obtain⟨⟨rfl,rfl⟩,rfl,rfl⟩:=p1;have a4:kv RO (u2 d.tape d.drawn):=GF q (RO:=RO) (Q:=Q2) (λx v' E a Y=>T x v' E a Y) (e2 d.tape d.drawn) V p3 F n2 m2;obtain⟨t1,t2,t3,t4⟩:=EJ (wr:=wr) R i q4 g F q5 p5 q6 p6 L J a4 d1 d2 j (Kp.low _ p) q7;exact⟨_,w',ai,_,by rw[Z];exact q1,t2,rfl,ih d.tape d.drawn (e2 d.tape d.drawn) q2 q3 q4 n1 m1 V p3 F n2 (L.grow q6) t3 t4 (a3 j p) (Kp.dn _ _ p q5.size t1)⟩
end
end Co
namespace Ph
open Conc ConcN ConcM Kw Kl
section
variable{C:Cx}{w:DS}{s:Sh}{g:CL}(h:ShAt C w s g)
include h
theorem iE:w.cell? (muA C)=some (.int .i32 s.word.val):=by simp[World.cell?,muA,h.1.1]
theorem ul:w.cell? (msA C)=some (.int .u32 s.ms):=by simp[World.cell?,msA,h.1.1]
theorem kR:w.cell? (dC C)=some (.int .u64 ((s.cnt:Int)*4294967296+s.wt)):=by have:=h.2;unfold WgAt at this;simp[World.cell?,dC,this]
theorem wF:w.cell? (eI C)=some (.int .u32 s.ws):=by have:=h.2;unfold WgAt at this;simp[World.cell?,eI,this]
theorem jY:w.frozen? (muA C)=false:=by simp[World.frozen?,muA,h.1.1]
theorem zI:w.frozen? (msA C)=false:=by simp[World.frozen?,msA,h.1.1]
theorem sH:w.frozen? (dC C)=false:=by have:=h.2;unfold WgAt at this;simp[World.frozen?,dC,this]
theorem Bi:w.frozen? (eI C)=false:=by have:=h.2;unfold WgAt at this;simp[World.frozen?,eI,this]
theorem nC(b:C.Cw≠C.Wg)(x:Wd):ShAt C (w.setCell (muA C) (.int .i32 x.val)) {s with word:=x} g:=by obtain⟨⟨h1,c⟩,a⟩:=h;refine⟨⟨?_,c⟩,?_⟩;(·simp[World.setCell,muA,Array.getElem?_modify,h1]);·unfold WgAt at a⊢;simp[World.setCell,muA,Array.getElem?_modify,b,a]
theorem Bf(b:C.Cw≠C.Wg)(n:Nat):ShAt C (w.setCell (msA C) (.int .u32 n)) {s with ms:=n} g:=by obtain⟨⟨h1,c⟩,a⟩:=h;refine⟨⟨?_,c⟩,?_⟩;(·simp[World.setCell,msA,Array.getElem?_modify,h1]);·unfold WgAt at a⊢;simp[World.setCell,msA,Array.getElem?_modify,b,a]
theorem vL(d:C.Cw≠C.Wg)(a b:Nat):ShAt C (w.setCell (dC C) (.int .u64 ((a:Int)*4294967296+b))) {s with cnt:=a,wt:=b} g:=by obtain⟨⟨h1,e⟩,c⟩:=h;refine⟨⟨?_,e⟩,?_⟩;(·simp[World.setCell,dC,Array.getElem?_modify,Ne.symm d,h1]);·unfold WgAt at c⊢;simp[World.setCell,dC,Array.getElem?_modify,c]
theorem El(b:C.Cw≠C.Wg)(n:Nat):ShAt C (w.setCell (eI C) (.int .u32 n)) {s with ws:=n} g:=by obtain⟨⟨h1,c⟩,a⟩:=h;refine⟨⟨?_,c⟩,?_⟩;(·simp[World.setCell,eI,Array.getElem?_modify,Ne.symm b,h1]);·unfold WgAt at a⊢;simp[World.setCell,eI,Array.getElem?_modify,a]
end
section
variable{C:Cx}
theorem Eff.set(w:DS)(v:Fi)(c:a.block=C.Cw\/a.block=C.Wg):Eff C w (w.setCell a v):=by refine⟨rfl,rfl,.refl _,by simp[World.setCell],λb h1 d=>?_⟩;(have:a.block≠b:=by rintro rfl;rcases c with e|e<;>contradiction);simp[World.setCell,Array.getElem?_modify,this]
theorem Eff.asked(w:DS):Eff C w w.asked:=⟨rfl,rfl,.refl _,rfl,λ_ _ _=>rfl⟩
theorem Ht{s:Sh}(h:ShAt C w s g):ShAt C w.asked s g:=h
theorem Dq{s:Sh}(h:ShAt C w s g):ShAt C w.later s g:=h
theorem jx(d:Nat):gQ C d d #[]:=⟨by simp,rfl,by simp⟩
theorem rh:gQ C 0 1 #[mk .disable]:=by refine⟨λx a=>?_,rfl,λj x a=>?_⟩;(·simp at a;exact .inl a);·cases j with|zero=>simp at a;subst a;exact .inl rfl|succ j=>simp at a
theorem pN:gQ C 1 0 #[mk .enable]:=by refine⟨λx a=>?_,rfl,λj x a=>?_⟩;(·simp at a;exact .inr (.inl a));·cases j with|zero=>simp at a;subst a;exact .inl rfl|succ j=>simp at a
theorem kX(c:fE C a):gQ C 1 1 #[⟨.cell a,false,true⟩]:=by refine⟨λx b=>?_,rfl,λj x b=>?_⟩;(·simp at b;exact .inr (.inr ⟨a,false,b,c⟩));·cases j with|zero=>exact .inr (by simp[deafBehind])|succ j=>simp at b
theorem iJ(c:fE C a):gQ C 1 1 #[⟨.cell a,false,true⟩,⟨.cell a,true,true⟩]:=by refine⟨λx b=>?_,rfl,λj x b=>?_⟩;(·simp at b;rcases b with rfl|rfl;(·exact .inr (.inr ⟨a,false,rfl,c⟩));·exact .inr (.inr ⟨a,true,rfl,c⟩));·match j with|0=>exact .inr (by simp[deafBehind])|1=>exact .inr (by simp[deafBehind])|j+2=>simp at b
theorem qv(c:fE C a):gQ C 1 1 (semEvents a):=by refine⟨λx b=>?_,rfl,λj x b=>?_⟩;(·simp[semEvents]at b;rcases b with rfl|rfl|rfl|rfl;(·exact .inl rfl);(·exact .inr (.inr ⟨a,false,rfl,c⟩));(·exact .inr (.inr ⟨a,true,rfl,c⟩));·exact .inr (.inl rfl));·match j with|0=>exact .inr (by simp[deafBehind])|1=>exact .inr (by simp[semEvents,deafBehind])|2=>exact .inr (by simp[semEvents,deafBehind])|3=>simp[semEvents]at b;subst b;exact .inl rfl|j+4=>simp[semEvents]at b
theorem iY:fE C (muA C):=.inr ⟨rfl,.inl rfl⟩
theorem AC:fE C (msA C):=.inr ⟨rfl,.inr rfl⟩
theorem jo:fE C (dC C):=.inl rfl
theorem Bo:fE C (eI C):=.inl rfl
end
end Ph
namespace Ph
open Conc Kw Kl
set_option maxRecDepth 100000
section
attribute[local irreducible]A Sq B C2 C1 R1 fin tl aK T1 S1 io T2 R2 A1 R3 iP R0 Ld L0 j7 kV j4 fO nM
variable{C:Cx}{c:Frame}{cs:B8}{N n:Nat}{T:Th}{s:Sh}{g:Dm}{g0:CL}{w:DS}
def Stp(C:Cx)(c:Frame)(cs:B8)(N n:Nat)(T:Th)(s:Sh)(g:Dm)(g0:CL)(w:DS):Prop:=∃T' s' g' w' a,Mv N n T s T' s'/\stepG prog false g w=.go g' w' a/\ShAt C w' s' g0/\Eff C w w'/\EvStop C T T' a/\T'.pc≠.quit/\dF C.Cw C.aN.length c cs g' T'
theorem cu{T':Th}{a:Array Event}(h1:T.pc≠.la)(c:T.pc≠.ur)(b:T.pc≠.wr)(h:gQ C (aL T) (aL T') a):EvStop C T T' a:=by unfold EvStop;split<;>first|contradiction|exact h
theorem we:aL (head T)=1:=by unfold head;split<;>rfl
theorem wq:(head T).pc≠.quit:=by unfold head;split<;>simp
theorem ag0(d:ShAt C w s g0)(a:T.pc=.ld)(b:bO C.Cw C.aN.length c cs T g):Stp C c cs N n T s g g0 w:=by simp only[bO,a]at b;subst b;refine⟨_,s,_,w,_,.ld a,jZ (by simp) (Ce _) qW false w,d,Eff.refl w,cu (by simp[a]) (by simp[a]) (by simp[a]) ?_,by simp,_,YA _,rfl⟩;(have:aL T=0:=by simp[aL,a]);rw[this];exact rh
theorem agk(j:C.Cw≠C.Wg)(b:ShAt C w s g0)(i:s.ok)(a:T.pc=.l0)(h:bO C.Cw C.aN.length c cs T g):Stp C c cs N n T s g g0 w:=by
 simp only[bO,a]at h;subst h;have f:aL T=1:=by simp[aL,a]
 have d:=iE b;by_cases h0:s.word=⟨0,0,0,0⟩;·rw[h0]at d;refine⟨_,_,_,_,_,.rI a h0,sM (qA _) mN d (jY b) false,nC b j ⟨1,0,0,0⟩,Eff.set w _ (.inl rfl),cu (by simp[a]) (by simp[a]) (by simp[a]) ?_,by simp,_,Xy _,.inl rfl⟩;rw[f];exact iJ iY
 ·refine⟨_,s,_,_,_,.xp a h0,qE (qA _) mN d (jY b) (λe=>h0 (val_inj (fG i.1) ⟨by decide,by decide,by decide,by decide⟩ e)) false,b,Eff.refl w,cu (by simp[a]) (by simp[a]) (by simp[a]) ?_,by simp,_,ahH _,rfl⟩;rw[f];exact kX iY
theorem ahi(b:ShAt C w s g0)(e:s.ok)(a:T.pc=.r0)(d:bO C.Cw C.aN.length c cs T g):Stp C c cs N n T s g g0 w:=by simp only[bO,a]at d;subst d;(have f:aL T=1:=by simp[aL,a]);refine⟨_,s,_,_,_,.r0 a,oP (uD _) pH rfl (iE b) (by rw[VS];exact uP) false,b,Eff.refl w,cu (by simp[a]) (by simp[a]) (by simp[a]) ?_,wq,Ri e.1⟩;rw[f,we];exact jx 1
theorem Bs.mu{q:Lk}(h:Bs C.Cw C.aN.length c cs q):q.m=.pointer (some (muA C)):=by show Value.pointer (some ⟨q.b,q.o,none⟩)=_;rw[h.b,h.o];rfl
theorem afb(e:ShAt C w s g0)(f:fv T s)(a:T.pc=.sq)(l:bO C.Cw C.aN.length c cs T g):Stp C c cs N n T s g g0 w:=by
 simp only[bO,a]at l;obtain⟨q,z,b,rfl⟩:=l;have j:aL T=1:=by simp[aL,a]
 have m:=f.tw.mC (.inl a);have k:=f.tw.mK;obtain⟨h1,o,p⟩:=f.tw.sq a;have i:∀w',ShAt C w' s g0->Eff C w w'->stepG prog false (Sq q z) w=.go (fin (Sq q z) (.bool false)) w' #[]->Stp C c cs N n T s (Sq q z) g0 w:=λw' a1 a2 a3=>by refine⟨_,s,_,w',_,.sP a,a3,a1,a2,cu (by simp[a]) (by simp[a]) (by simp[a]) ?_,by simp,PN k m b z⟩;rw[j];exact jx 1
 by_cases hi:T.it<4;·have d:=UY (yH q z) Dy (by rw[b.it];omega) false w;cases h:w.spins with|false=>rw[h]at d;exact i _ (Ht e) (Eff.asked w) d|true=>rw[h]at d;refine⟨_,s,_,_,_,.kS a hi,d,Ht e,Eff.asked w,cu (by simp[a]) (by simp[a]) (by simp[a]) ?_,?_,ZU k hi b z⟩;(·rw[j];split<;>exact jx 1);·split<;>simp
 ·exact i w e (Eff.refl w) (KM (yH q z) Dy (by rw[b.it];omega) false w)
theorem N'(p:C.Cw≠C.Wg)(b:ShAt C w s g0)(i:fv T s)(a:T.pc=.c1)(j:bO C.Cw C.aN.length c cs T g):Stp C c cs N n T s g g0 w:=by
 simp only[bO,a]at j;obtain⟨q,z,t,o,d,rfl⟩:=j;have m:aL T=1:=by simp[aL,a]
 obtain⟨h1,u,x,v,r,l⟩:=i.tw.c1 a;have h:=DZ q z t o ({T.old with k:=1}:Wd).val;rw[Bs.mu d.bs,d.old]at h;have f:=iE b;by_cases h0:s.word=T.old;·rw[h0]at f;refine⟨_,_,_,_,_,.nl a h0,sM h mN f (jY b) false,nC b p {T.old with k:=1},Eff.set w _ (.inl rfl),cu (by simp[a]) (by simp[a]) (by simp[a]) ?_,by simp,acn l d _ _ _ _⟩;rw[m];exact iJ iY
 ·refine⟨_,s,_,_,_,.rF a h0,qE h mN f (jY b) (λe=>h0 (val_inj (fG i.ok.1) (fG i.tw.mK) e)) false,b,Eff.refl w,cu (by simp[a]) (by simp[a]) (by simp[a]) ?_,by simp,Z9 l r d _ _ _ _⟩;rw[m];exact kX iY
theorem Py(h:ShAt C w s g0)(d:fv T s)(a:T.pc=.r1)(b:bO C.Cw C.aN.length c cs T g):Stp C c cs N n T s g g0 w:=by simp only[bO,a]at b;obtain⟨q,f,rfl⟩:=b;(have k:aL T=1:=by simp[aL,a]);have i:=uS q (T.it+1);rw[Bs.mu f.bs]at i;have j:T.aw=true->s.word.k=1:=λe=>d.wk (by simp[aU,a,e]);refine⟨_,s,_,_,_,.r1 a,oP i pH rfl (iE h) (by rw[Td];exact uP) false,h,Eff.refl w,cu (by simp[a]) (by simp[a]) (by simp[a]) ?_,wq,Sc d.ok.1 j f⟩;rw[k,we];exact jx 1
theorem aes(h:ShAt C w s g0)(d:fv T s)(a:T.pc=.r3)(b:bO C.Cw C.aN.length c cs T g):Stp C c cs N n T s g g0 w:=by simp only[bO,a]at b;obtain⟨q,f,rfl⟩:=b;(have k:aL T=1:=by simp[aL,a]);have i:=DX q;rw[Bs.mu f.bs]at i;have j:T.aw=true->s.word.k=1:=λe=>d.wk (by simp[aU,a,e]);refine⟨_,s,_,_,_,.r3 a,oP i pH rfl (iE h) (by rw[PY];exact uP) false,h,Eff.refl w,cu (by simp[a]) (by simp[a]) (by simp[a]) ?_,wq,N5 d.ok.1 j f⟩;rw[k,we];exact jx 1
theorem Kx(l:C.Cw≠C.Wg)(b:ShAt C w s g0)(d:fv T s)(a:T.pc=.c2)(m:bO C.Cw C.aN.length c cs T g):Stp C c cs N n T s g g0 w:=by
 simp only[bO,a]at m;obtain⟨q,f,rfl⟩:=m;have h:aL T=1:=by simp[aL,a]
 have t:=d.tw.mK;obtain⟨v,x,y,u⟩:=t;have j:=Hy q (fZ T).val;rw[Bs.mu f.bs,f.old]at j;have i:=iE b;by_cases h0:s.word=T.old;·rw[h0]at i;have o:=sM j mN i (jY b) false;by_cases hl:T.old.l=0/\T.old.s=0;(·refine⟨_,_,_,_,_,.mT a h0 hl,o,nC b l (fZ T),Eff.set w _ (.inl rfl),cu (by simp[a]) (by simp[a]) (by simp[a]) ?_,by simp,Mn d.tw.mK hl f _⟩;rw[h];exact iJ iY);·obtain⟨p,k,r⟩:=acH d.tw.mK (show T.old.l=1\/T.old.s=1 by omega) f (fZ T).val;refine⟨_,_,_,_,_,.jm p a k h0 (by omega),o,nC b l (fZ T),Eff.set w _ (.inl rfl),cu (by simp[a]) (by simp[a]) (by simp[a]) ?_,by rcases k with rfl|rfl<;>simp,r⟩;rw[h];rcases k with rfl|rfl<;>exact iJ iY
 ·refine⟨_,s,_,_,_,.qJ a h0,qE j mN i (jY b) (λe=>h0 (val_inj (fG d.ok.1) (fG d.tw.mK) e)) false,b,Eff.refl w,cu (by simp[a]) (by simp[a]) (by simp[a]) ?_,by simp,UF f _⟩;rw[h];exact kX iY
theorem Eff.later(w:DS):Eff C w w.later:=⟨rfl,rfl,⟨w.tick,rfl⟩,rfl,λ_ _ _=>rfl⟩
theorem acV(f:ShAt C w s g0)(b:T.pc=.t1)(d:bO C.Cw C.aN.length c cs T g):Stp C c cs N n T s g g0 w:=by simp only[bO,b]at d;obtain⟨q,z,a,h,rfl⟩:=d;(have e:aL T=1:=by simp[aL,b]);refine⟨_,s,_,_,_,.t1 b,Dk (GJ q z a) GL false w,Dq f,Eff.later w,cu (by simp[b]) (by simp[b]) (by simp[b]) ?_,by simp,acJ h z a _⟩;rw[e];exact jx 1
theorem Nu(i:C.Cw≠C.Wg)(b:ShAt C w s g0)(a:T.pc=.s1)(h:s.ms≠0)(f:bO C.Cw C.aN.length c cs T g):Stp C c cs N n T s g g0 w:=by
 simp only[bO,a]at f;obtain⟨q,d,rfl⟩:=f;have j:aL T=1:=by simp[aL,a]
 have k:(#[.pointer (some ⟨q.b,q.o+1,none⟩),q.J 8,.int .i64 2]:B6)[0]?=some (.pointer (some (msA C))):=by rw[d.bs.b,d.bs.o];rfl
 have e:=Ek (nY q) CY k (ul b) (by omega) (zI b) false;have e1:(s.ms:Int)-1=((s.ms-1:Nat):Int):=by omega
 rw[e1]at e;refine⟨_,_,_,_,_,.s1 a h,e,Bf b i (s.ms-1),Eff.set w _ (.inl rfl),cu (by simp[a]) (by simp[a]) (by simp[a]) ?_,by simp,adu d _⟩;rw[j];exact qv AC
theorem adO(f:ShAt C w s g0)(e:T.pc=.s1)(h:s.ms=0)(d:bO C.Cw C.aN.length c cs T g):stepG prog false g w=.go {g with status:=.blocked} w #[]:=by simp only[bO,e]at d;obtain⟨q,b,rfl⟩:=d;(have i:(#[.pointer (some ⟨q.b,q.o+1,none⟩),q.J 8,.int .i64 2]:B6)[0]?=some (.pointer (some (msA C))):=by rw[b.bs.b,b.bs.o];rfl);have a:=ul f;rw[h]at a;exact EV (nY q) CY i a false
theorem Pm(d:ShAt C w s g0)(a:T.pc=.t2)(e:bO C.Cw C.aN.length c cs T g):Stp C c cs N n T s g g0 w:=by
 simp only[bO,a]at e;have b:aL T=1:=by simp[aL,a]
 obtain⟨q,f,⟨i,rfl⟩|⟨i,rfl⟩⟩:=e;·refine⟨_,s,_,w,_,.t2 true a,(sB (P:=prog) (FH q) rfl).2.2 false w,d,Eff.refl w,cu (by simp[a]) (by simp[a]) (by simp[a]) ?_,by simp,adE f⟩;rw[b];exact jx 1
 ·obtain⟨r,h⟩:=NS f ((w.os.mono+w.tick:Nat):Int);refine⟨_,s,_,_,_,.t2 r a,Dk (Hl q) GL false w,Dq d,Eff.later w,cu (by simp[a]) (by simp[a]) (by simp[a]) ?_,by simp,h⟩;rw[b];exact jx 1
theorem Uz(d:ShAt C w s g0)(b:fv T s)(a:T.pc=.r2)(i:bO C.Cw C.aN.length c cs T g):Stp C c cs N n T s g g0 w:=by
 simp only[bO,a]at i;obtain⟨q,e,rfl⟩:=i;have f:aL T=1:=by simp[aL,a]
 have j:=wD q;rw[Bs.mu e.bs]at j;have h:=oP j pH rfl (iE d) (by rw[Zt];exact uP) false;have o:=b.ok.1.2.2.1;rcases(show s.word.s=0\/s.word.s=1 by omega)with h0|h1;·have k:=b.tn h0;have m:s.word.k=1:=b.wk (by simp only[aQ,a]at k;simp only[aU,a];split at k;(·omega);·rename_i l;rw[if_neg l]);refine⟨_,s,_,_,_,.kg a h0,h,d,Eff.refl w,cu (by simp[a]) (by simp[a]) (by simp[a]) ?_,wq,Vk b.ok.1 h0 m e⟩;rw[f,we];exact jx 1
 ·refine⟨_,s,_,_,_,.vn a h1,h,d,Eff.refl w,cu (by simp[a]) (by simp[a]) (by simp[a]) ?_,by simp,abL b.ok.1 h1 (b.r2 a h1) e⟩;rw[f];exact jx 1
theorem Mw(r:C.Cw≠C.Wg)(b:ShAt C w s g0)(e:fv T s)(a:T.pc=.a1)(f:bO C.Cw C.aN.length c cs T g):Stp C c cs N n T s g g0 w:=by
 simp only[bO,a]at f;obtain⟨q,d,rfl⟩:=f;have p:aL T=1:=by simp[aL,a]
 have i:=nR q (if T.ex then-11 else-7);rw[Bs.mu d]at i;have h:=uU i H6 (iE b) (jY b) false;obtain⟨f1,f2,t,j⟩:=e.a1 a;have m:=fG e.ok.1;have o:IntKind.i32.wrap (s.word.val+if T.ex then-11 else-7)=({l:=1,k:=s.word.k,s:=if T.ex then 0 else s.word.s,w:=s.word.w-1}:Wd).val:=by cases T.ex with|true=>exact adJ m f1 f2 j|false=>exact ZN m f1 j
 rw[o]at h;refine⟨_,_,_,_,_,.a1 a,h,nC b r _,Eff.set w _ (.inl rfl),cu (by simp[a]) (by simp[a]) (by simp[a]) ?_,by simp,Vh d _ _⟩;rw[p];exact iJ iY
end
set_option maxRecDepth 100000
theorem IJ:prog.underlying 263=some (.pointer 134):=by kernel_rfl
theorem oB:prog.underlying 189=some .unsafePointer:=by kernel_rfl
theorem DJ:(prog.info? 134).map (λi=>decide (i.size=0))=some false:=by kernel_rfl
theorem wY{g:Dm}{ad:Addr}{v:Fi}(h:semAt g=some (do pure (.value (<-convert 263 189 (.pointer (some ad))))))(a:w.cell? ad=some v)(m:Bool):stepG prog m g w=.go (fin g (.pointer (some ad))) w #[]:=by have c:=run_convert_to_unsafe (P:=prog) IJ oB DJ a;have b:=events_convert_to_unsafe (P:=prog) IJ oB DJ a #[];rw[jN (v:=.pointer (some ad)) (w':=w) h (by simp[c])];simp[b,seen_none]
theorem Ni(q:Lk):aa prog (fin (j7 q) (.tuple #[])) (fO q):=ay prog 203 9 50 _
theorem aaT(q:Lk):aa prog (fin (fO q) q.m) (kV q):=ay prog 203 10 50 _
theorem aeg(q:Lk):aa prog (fin (iP q) (.tuple #[])) (nM q):=ay prog 224 137 10 _
theorem L'(q:Lk):aa prog (fin (nM q) q.m) (j4 q):=ay prog 224 138 10 _
theorem YY(q:Lk):aa prog (fin (kV q) (.tuple #[])) (R (q.c.finish (.tuple #[])) q.cs):=ZV q▸aV prog 6 _
theorem WV(q:Lk):aa prog (fin (j4 q) (.tuple #[])) (R (q.c.finish (.tuple #[])) q.cs):=Zz q▸aV prog 9 _
theorem aY{g:Dm}{s:Sem Next}(h:semAt g=some s):g.status=.running/\g.offers=none:=by have:=(iC (P:=prog) h true default).1;rw[this];exact⟨rfl,rfl⟩
section
attribute[local irreducible]A Sq B C2 C1 R1 fin tl aK T1 S1 io T2 R2 A1 R3 iP R0 Ld L0 j7 kV j4 fO nM
variable{C:Cx}{c:Frame}{cs:B8}{T:Th}{g:Dm}
theorem af3(j:T.pc=.le)(i:bO C.Cw C.aN.length c cs T g):∃d f,(∀w,stepG prog false g w=.go (fin g (.tuple #[])) w #[mk .enable])/\aa prog (fin g (.tuple #[])) d/\d.status=.running/\(∀(w:DS)v,w.cell? (muA C)=some v->∀m,stepG prog m d w=.go f w #[])/\f.status=.running/\dF C.Cw C.aN.length c cs f {T with pc:=.la}:=by simp only[bO,j]at i;rcases i with rfl|⟨q,b,rfl⟩;(·refine⟨_,_,λw=>jZ (by simp) (DK _) qV false w,Ni _,(aY (qC _)).1,λw v e m=>wY (qC _) e m,?_,_,aaT _,.inl rfl⟩;have:=(aY (qC (q0 C.Cw C.aN.length c cs))).1;unfold fin;exact this);·have a:=Vp q;rw[Bs.mu b]at a;have h:=L' q;rw[Bs.mu b]at h;refine⟨_,_,λw=>jZ (by simp) (CH _) qV false w,aeg _,(aY a).1,λw v e m=>wY a e m,?_,_,h,.inr ⟨q,b,rfl⟩⟩;have:=(aY a).1;unfold fin;exact this
theorem Lj(f:T.pc=.la)(d:bO C.Cw C.aN.length c cs T g):(∀w,stepG prog false g w=.go (fin g (.tuple #[])) w #[mk (.acquire (muA C))])/\aa prog (fin g (.tuple #[])) (R (c.finish (.tuple #[])) cs):=by simp only[bO,f]at d;rcases d with rfl|⟨q,a,rfl⟩;(·exact⟨λw=>lD (mk:=.acquire) (by simp) (Dx _) uZ rfl false w,YY _⟩);·have e:=F4 q;rw[Bs.mu a]at e;have b:=WV q;rw[a.c,a.cs]at b;exact⟨λw=>lD (mk:=.acquire) (by simp) e uZ rfl false w,b⟩
end
set_option maxRecDepth 100000
theorem EI:cK prog 121 (Extern.Race.marked .releaseMerge) false:=⟨(prog.funcs[121]?).getD default,by kernel_rfl,by kernel_rfl,by kernel_rfl,by kernel_rfl,by kernel_rfl,by kernel_rfl⟩
theorem CO:cK prog 241 Extern.Sync.semrelease true:=⟨(prog.funcs[241]?).getD default,by kernel_rfl,by kernel_rfl,by kernel_rfl,by kernel_rfl,by kernel_rfl,by kernel_rfl⟩
theorem Nr:(prog.funcs[226]?).any (·.norace)=true:=by kernel_rfl
theorem agC:(prog.funcs[204]?).any (·.norace)=true:=by kernel_rfl
theorem LA(q:Ul)(z b c a:Int):(Ux q z b c a).frame.fn=226:=by kernel_rfl
theorem Xt(q:Ul):(Um q).frame.fn=204:=by kernel_rfl
section
attribute[local irreducible]Um Uv Ur Ud U0 im Ue V6 V7 V8 oh iM jr Kl.G ng iZ nv jl nh nj Uc jb Ux fin tu wz aK
variable{C:Cx}{c:Frame}{cs:B8}{N n:Nat}{T:Th}{s:Sh}{g:Dm}{g0:CL}{w:DS}
theorem Ub.mu{q:Ul}(h:Ub C.Cw C.aN.length c cs q):q.m=.pointer (some (muA C)):=by show Value.pointer (some ⟨q.b,q.o,none⟩)=_;rw[h.b,h.o];rfl
def nL(C:Cx)(c:Frame)(cs:B8)(N n:Nat)(T:Th)(s:Sh)(g:Dm)(g0:CL)(w:DS):Prop:=∃T' s' g' w' a,Mv N n T s T' s'/\stepG prog false g w=.go g' w' a/\ShAt C w' s' g0/\Eff C w w'/\EvStop C T T' a/\T'.pc≠.quit/\nQ C.Cw C.aN.length c cs g' T'
theorem xI:aL (cG T)=1/\(cG T).pc≠.quit:=by unfold cG;split<;>exact⟨rfl,by simp⟩
theorem Bt(x:Wd):aL (dv T x)=1/\(dv T x).pc≠.quit:=by unfold dv;split;(·exact⟨rfl,by simp⟩);·split;(·exact xI);·exact⟨rfl,by simp⟩
theorem aaK(f:ShAt C w s g0)(a:T.pc=.ur)(d:ew C.Cw C.aN.length c cs T g):nL C c cs N n T s g g0 w:=by simp only[ew,a]at d;obtain⟨q,e,rfl⟩:=d;have b:=Gs q;rw[Ub.mu e]at b;refine⟨_,s,_,w,_,.ur a,lD (mk:=.releaseMerge) (by simp) b EI rfl false w,f,Eff.refl w,?_,by simp,_,OY q,q,e,rfl⟩;unfold EvStop;rw[a];rfl
theorem RX(e:ShAt C w s g0)(a:T.pc=.ud)(b:ew C.Cw C.aN.length c cs T g):nL C c cs N n T s g g0 w:=by simp only[ew,a]at b;obtain⟨q,d,rfl⟩:=b;refine⟨_,s,_,w,_,.ud a,jZ (by simp) (Gj q) qW false w,e,Eff.refl w,cu (by simp[a]) (by simp[a]) (by simp[a]) ?_,by simp,_,aeX q,q,d,rfl⟩;(have:aL T=0:=by simp[aL,a]);rw[this];exact rh
theorem KE(k:C.Cw≠C.Wg)(d:ShAt C w s g0)(b:fv T s)(a:T.pc=.u0)(e:ew C.Cw C.aN.length c cs T g):nL C c cs N n T s g g0 w:=by simp only[ew,a]at e;obtain⟨q,h,rfl⟩:=e;(have l:aL T=1:=by simp[aL,a]);have f:=GK q;rw[Ub.mu h]at f;have i:=uU f H6 (iE d) (jY d) false;rw[ahc (fG b.ok.1) (b.u0 a)]at i;obtain⟨p,m,o,j⟩:=b.ok.1;refine⟨_,_,_,_,_,.u0 a,i,nC d k _,Eff.set w _ (.inl rfl),cu (by simp[a]) (by simp[a]) (by simp[a]) ?_,(Bt _).2,JV ⟨Nat.zero_le _,m,o,j⟩ rfl h⟩;rw[l,(Bt _).1];exact iJ iY
theorem afr(m:C.Cw≠C.Wg)(b:ShAt C w s g0)(j:fv T s)(a:T.pc=.uc)(i:ew C.Cw C.aN.length c cs T g):nL C c cs N n T s g g0 w:=by
 simp only[ew,a]at i;obtain⟨q,z,r,p,h,o,rfl⟩:=i;have l:aL T=1:=by simp[aL,a]
 have f:=Ca q z r p ({T.old with k:=1,w:=T.old.w-1}:Wd).val;rw[Ub.mu h,o]at f;have d:=iE b;by_cases h0:s.word=T.old;·rw[h0]at d;refine⟨_,_,_,_,_,.rE a h0,sM f mN d (jY b) false,nC b m {T.old with k:=1,w:=T.old.w-1},Eff.set w _ (.inl rfl),cu (by simp[a]) (by simp[a]) (by simp[a]) ?_,by simp,_,Pd q _ _ _ _,q,h,.inl ⟨_,_,_,_,rfl⟩⟩;rw[l];exact iJ iY
 ·refine⟨_,s,_,_,_,.qK a h0,qE f mN d (jY b) (λe=>h0 (val_inj (fG j.ok.1) (fG j.tw.mK) e)) false,b,Eff.refl w,cu (by simp[a]) (by simp[a]) (by simp[a]) ?_,by simp,_,aid q _ _ _ _,q,_,_,_,_,h,rfl⟩;rw[l];exact kX iY
theorem Ov(e:ShAt C w s g0)(k:s.ok)(a:T.pc=.ux)(f:ew C.Cw C.aN.length c cs T g):nL C c cs N n T s g g0 w:=by simp only[ew,a]at f;obtain⟨q,z,h,i,j,b,rfl⟩:=f;(have l:aL T=1:=by simp[aL,a]);have d:=JH q z h i j;rw[Ub.mu b]at d;refine⟨_,s,_,_,_,.ux a,oP d pH rfl (iE e) (by rw[LA];exact Nr) false,e,Eff.refl w,cu (by simp[a]) (by simp[a]) (by simp[a]) ?_,xI.2,.pre (aie q z h i j s.word.val) (BJ (T:={T with old:=s.word}) k.1 ⟨b.b,b.o,b.c,b.cs⟩ rfl)⟩;rw[l,xI.1];exact jx 1
theorem wrap_u32{k:Nat}(h:k<=60):IntKind.u32.wrap ((k:Int)+1)=((k+1:Nat):Int):=by unfold IntKind.wrap;simp[IntKind.signed,IntKind.bits];omega
theorem aad(k:C.Cw≠C.Wg)(b:ShAt C w s g0)(l:s.ok)(a:T.pc=.us)(i:ew C.Cw C.aN.length c cs T g):nL C c cs N n T s g g0 w:=by
 simp only[ew,a]at i;have o:aL T=1:=by simp[aL,a]
 obtain⟨q,d,i⟩:=i;rcases i with⟨z,f,h,m,rfl⟩|⟨z,f,h,rfl⟩;·(have j:(#[.pointer (some ⟨q.b,q.o+1,none⟩),.bool false,.int .i64 2]:B6)[0]?=some (.pointer (some (msA C))):=by rw[d.b,d.o];rfl);have e:=wM (JG q z f h m) CO j (ul b) (zI b) false;rw[wrap_u32 l.2.1]at e;refine⟨_,_,_,_,_,.us a,e,Bf b k (s.ms+1),Eff.set w _ (.inl rfl),cu (by simp[a]) (by simp[a]) (by simp[a]) ?_,by simp,_,NJ q z f h m,q,_,d,rfl⟩;rw[o];exact qv AC
 ·(have j:(#[.pointer (some ⟨q.b,q.o+1,none⟩),.bool true,.int .i64 2]:B6)[0]?=some (.pointer (some (msA C))):=by rw[d.b,d.o];rfl);have e:=wM (Du q z f h) CO j (ul b) (zI b) false;rw[wrap_u32 l.2.1]at e;refine⟨_,_,_,_,_,.us a,e,Bf b k (s.ms+1),Eff.set w _ (.inl rfl),cu (by simp[a]) (by simp[a]) (by simp[a]) ?_,by simp,_,LJ q z f h,q,_,d,rfl⟩;rw[o];exact qv AC
theorem Px(e:T.pc=.ue)(b:ew C.Cw C.aN.length c cs T g):(∀w,stepG prog false g w=.go (fin g (.tuple #[])) w #[mk .enable])/\aa prog (fin g (.tuple #[])) (R {c with mode:=.returning} cs):=by simp only[ew,e]at b;obtain⟨q,ts,d,rfl⟩:=b;have a:=afP q ts;rw[d.c,d.cs]at a;exact⟨λw=>jZ (by simp) (Jk q ts) qV false w,a⟩
end
set_option maxRecDepth 100000
theorem wk1(q:Ul)(z b c a:Int):mayWake prog (jb q z b c a)=true:=by kernel_rfl
theorem QD(q:Ul)(z b a:Int):mayWake prog (jr q z b a)=true:=by kernel_rfl
section
attribute[local irreducible]A Sq B C2 C1 R1 fin tl aK T1 S1 io T2 R2 A1 R3 iP R0 Ld L0 j7 kV j4 fO nM Um Uv Ur Ud U0 im Ue V6 V7 V8 oh iM jr Kl.G ng iZ nv jl nh nj Uc jb Ux tu wz
variable{b o:Nat}{c:Frame}{cs:B8}{T:Th}{g:Dm}
theorem Ft(d:bO b o c cs T g):g.status=.running/\g.offers=none:=by
 unfold bO at d;split at d;·subst d;exact aY (Ce _)
 ·subst d;exact aY (qA _)
 ·subst d;exact aY (uD _)
 ·obtain⟨q,z,_,rfl⟩:=d;exact aY (yH _ _)
 ·obtain⟨q,z,f,e,_,rfl⟩:=d;exact aY (DZ _ _ _ _ _)
 ·obtain⟨q,_,rfl⟩:=d;exact aY (uS _ _)
 ·obtain⟨q,_,rfl⟩:=d;exact aY (Hy _ _)
 ·obtain⟨q,z,a,_,rfl⟩:=d;exact aY (GJ _ _ _)
 ·obtain⟨q,_,rfl⟩:=d;exact aY (nY _)
 ·obtain⟨q,_,⟨_,rfl⟩|⟨_,rfl⟩⟩:=d;(·exact aY (FH _));·exact aY (Hl _)
 ·obtain⟨q,_,rfl⟩:=d;exact aY (wD _)
 ·obtain⟨q,_,rfl⟩:=d;exact aY (nR _ _)
 ·obtain⟨q,_,rfl⟩:=d;exact aY (DX _)
 ·obtain rfl|⟨q,_,rfl⟩:=d;(·exact aY (DK _));·exact aY (CH _)
 ·obtain rfl|⟨q,_,rfl⟩:=d;(·exact aY (Dx _));·exact aY (F4 _)
 ·exact d.elim
theorem Cc(a:ew b o c cs T g):g.status=.running/\g.offers=none:=by
 unfold ew at a;split at a;·obtain⟨q,_,rfl⟩:=a;exact aY (Gs _)
 ·obtain⟨q,_,rfl⟩:=a;exact aY (Gj _)
 ·obtain⟨q,_,rfl⟩:=a;exact aY (GK _)
 ·obtain⟨q,z,d,e,_,_,rfl⟩:=a;exact aY (Ca _ _ _ _ _)
 ·obtain⟨q,z,d,e,f,_,rfl⟩:=a;exact aY (JH _ _ _ _ _)
 ·obtain⟨q,_,⟨z,d,e,f,rfl⟩|⟨z,d,e,rfl⟩⟩:=a;(·exact aY (JG _ _ _ _ _));·exact aY (Du _ _ _ _)
 ·obtain⟨q,ts,_,rfl⟩:=a;exact aY (Jk _ _)
 ·exact a.elim
theorem OQ(a:ew b o c cs T g)(e:T.pc=.us):mayWake prog g=true:=by simp only[ew,e]at a;obtain⟨q,_,⟨z,d,f,h,rfl⟩|⟨z,d,f,rfl⟩⟩:=a;(·exact wk1 _ _ _ _ _);·exact QD _ _ _ _
end
end Ph
namespace Ph
open Conc ConcN ConcM Kw
section
variable{C:Cx}{O:Nat->Prop}{own main mu:Bool}{af wr:Option Nat}{w w₁ w₂:DS}{Stop:(Nat->Prop)->Dm->DS->Prop}{g:Dm}
theorem Dn.draw(O:Nat->Prop)(own mu:Bool)(wr:Option Nat)(w:DS):Dn C O O own mu wr w {w with drawn:=w.drawn+1} #[]:=⟨rfl,rfl,rfl,Nat.le_refl _,λb=>⟨.inl,λh=>h.elim id λh=>absurd h.2 (Nat.not_lt.2 h.1)⟩,λ_ _ _ _ _=>rfl,λx m g h=>⟨g,h,λ_=>rfl⟩,λcs h=>⟨cs,h,λ_ _=>rfl⟩,by simp,λ_=>rfl⟩
theorem Dn.look(O:Nat->Prop)(own:Bool)(wr:Option Nat)(w:DS){a:Array Event}(h:∀e∈a,eR C O own wr e):Dn C O O own false wr w w a:=⟨rfl,rfl,rfl,Nat.le_refl _,λb=>⟨.inl,λh=>h.elim id λh=>absurd h.2 (Nat.not_lt.2 h.1)⟩,λ_ _ _ _ _=>rfl,λx m g h=>⟨g,h,λ_=>rfl⟩,λcs h=>⟨cs,h,λ_ _=>rfl⟩,h,λh=>by cases h⟩
theorem av.mU{ops:Array Oper}{V:Nat->Fi}(a:da g=some ops)(v:sound ops=true)(z:C.P.follows .mixedOrders=true)(I:Array Bool->(Nat->Prop)->DS->Prop)(p:∀D O w w₁,I D O w->Rl C O own af w w₁->I D O w₁)(ah:∀i o D O w rest,ops[i]?=some o->D.size=ops.size->D.getD i true=false->(∀e∈o.after,Region.binds .any e=true->D.getD e.on false=true)->I D O w->(∀d w',I (D.setIfInBounds i true) d w'->av C main own mu af wr Stop d (stA g ops V (D.setIfInBounds i true) rest) w')->av C main own mu af wr Stop O (stA g ops V D (i::rest)) w)(F:∀O w,I (Array.replicate ops.size true) O w->av C main own mu af wr Stop O (bG g ops V) w)(h0:I (Array.replicate ops.size false) O w):av C main own mu af wr Stop O g w:=by
 have u:∀(n t:Nat)(D:Array Bool)(O:Nat->Prop)(w:DS),D.size=ops.size->D.count false<=n->I D O w->av C main own mu af wr Stop O (stA g ops V D (Region.linearise.go .any ops n t D [])) w:=by(have done:∀(D:Array Bool)(O:Nat->Prop)(w:DS),D=Array.replicate ops.size true->I D O w->av C main own mu af wr Stop O (stA g ops V D []) w:=by rintro D O w rfl b;exact .aT (BU a) λw₁ j=>F O w₁ (p _ _ _ _ b j));intro n;induction n with|zero=>intro t D O w c E b;(have h0:D.count false=0:=by omega);(have:D=Array.replicate ops.size true:=by refine Array.ext (by simpa using c) λi h1 m=>?_;have:=Array.count_eq_zero.1 h0;have h:=Array.getElem_mem h1;cases x:D[i]with|true=>simp|false=>rw[x]at h;exact absurd h this);exact done D O w this b|succ n s=>intro t D O w c E b;have e:Region.linearise.go .any ops (n+1) t D []=match(Region.ready .any ops D)[t%(Region.ready .any ops D).length]? with|some i=>Region.linearise.go .any ops n (t/(Region.ready .any ops D).length) (D.setIfInBounds i true) [i]|none=>[]:=rfl;rw[e];cases q:(Region.ready .any ops D)[t%(Region.ready .any ops D).length]? with|none=>(have A:Region.ready .any ops D=[]:=by rw[List.getElem?_eq_none_iff]at q;refine Classical.byContradiction λB=>?_;have:0<(Region.ready .any ops D).length:=List.length_pos_iff.2 B;have:=Nat.mod_lt t this;omega);exact done D O w (BB v c A) b|some i=>have h:i∈Region.ready .any ops D:=List.mem_of_getElem? q;obtain⟨o,r,h1,m⟩:=Kw.mem_ready h;have K:i<ops.size:=(Array.getElem?_eq_some_iff.1 r).1;dsimp only;rw[linearise_go_acc];refine ah i o D O w _ r c h1 m b λd w' G=>s _ _ d w' (by simpa using c) ?_ G;have:=count_set (by omega) h1;omega
 refine .step (vZ (P:=C.P) a main w).1 λw₁ j=>?_;obtain⟨_,l,_,y,f⟩:=vZ (P:=C.P) a main w₁;have H:∃t,l=Region.linearise.go .any ops ops.size t (Array.replicate ops.size false) []:=by obtain⟨fr,cs,st,L,off⟩:=g;unfold da at a;split at a;rotate_left;(·cases a);rename_i fr' M J;cases J;obtain⟨fn,tmps,todo,defers,mode,kind,Q⟩:=fr;dsimp only at a;split at a;rotate_left;(·cases a);rename_i R N k;simp only[Option.some.injEq]at a;subst a;simp only[stepG,stepG.exec,choose,Sem.run,Question.forced,Question.cut,drawn,Bool.not_true,Bool.false_eq_true,if_false,GStep.go.injEq,Goroutine.mk.injEq,Frame.mk.injEq,List.tail_cons,List.cons.injEq,Item.inRegion.injEq,true_and,and_true]at f;rw[z]at f;exact⟨_,f.symm⟩
 obtain⟨t,rfl⟩:=H;refine⟨_,_,_,O,f,Dn.draw _ _ _ _ _,y,?_⟩;rw[Fj (V:=V)];refine u ops.size t _ O _ (by simp) (by simp) (p _ _ _ _ h0 (j.trans ?_));exact Rl.at _ _ _ _ _
theorem av.op{s:Sem Next}(h:semAt g=some s)(k:∀w₁,Rl C O own af w w₁->∃v w' b,(s.run C.P w₁=.ok (.value v) w'\/(s.run C.P w₁=.ok .skip w'/\v=undef))/\Dn C O b own mu wr w₁ w' (seen C.P g.frame.fn (s.events C.P w₁ #[]))/\av C main own mu af wr Stop b (fin g v) w'):av C main own mu af wr Stop O g w:=by
 have i:=(iC (P:=C.P) h main w).1;have c:g.status=.running:=by rw[i]
 refine .step c λw₁ f=>?_;obtain⟨v,w',b,a,e,d⟩:=k w₁ f;rcases a with a|⟨a,rfl⟩;·exact⟨_,w',_,b,jN h a main,e,c,d⟩
 ·exact⟨_,w',_,b,Kw.step_skip h a main,e,c,d⟩
theorem av.look{s:Sem Next}{v:Fi}(h:semAt g=some s)(b:∀w₁,Rl C O own af w w₁->s.run C.P w₁=.ok (.value v) w₁/\∀e∈s.events C.P w₁ #[],eR C O own wr e)(k:∀w₁,Rl C O own af w w₁->av C main own false af wr Stop O (fin g v) w₁):av C main own false af wr Stop O g w:=.op h λw₁ a=>⟨v,w₁,O,.inl (b w₁ a).1,Dn.look _ _ _ _ λe c=>(b w₁ a).2 e (Co.fQ c),k w₁ a⟩
theorem adt{d:TypeDesc}{ad:Addr}(b:C.P.underlying t=some d)(c:Ks d=false)(f:w.cell? ad=some x)(g:eR C O own wr ⟨.cell ad,false,false⟩):(do pure (.value (<-Instr.loadAt t (.pointer (some ad)))):Sem Next).run C.P w=.ok (.value x) w/\∀e∈(do pure (.value (<-Instr.loadAt t (.pointer (some ad)))):Sem Next).events C.P w #[],eR C O own wr e:=by refine⟨by simp[tv b c f],λe a=>?_⟩;simp[qI b c f]at a;rw[a];exact g
theorem av.load{d:TypeDesc}{ad:Addr}(h:semAt g=some (do pure (.value (<-Instr.loadAt t (.pointer (some ad))))))(b:C.P.underlying t=some d)(c:Ks d=false)(e:∀w₁,Rl C O own af w w₁->w₁.cell? ad=some x)(f:eR C O own wr ⟨.cell ad,false,false⟩)(k:∀w₁,Rl C O own af w w₁->av C main own false af wr Stop O (fin g x) w₁):av C main own false af wr Stop O g w:=.look h (λw₁ a=>adt b c (e w₁ a) f) k
end
end Ph
end
end Go.Proofs.YtjebhbopmfcopaaGreatDoor
