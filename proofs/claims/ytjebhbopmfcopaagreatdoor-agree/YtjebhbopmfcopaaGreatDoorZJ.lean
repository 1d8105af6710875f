/- Agree, a part. -/
import Derived.Test.YtjebhbopmfcopaaGreatDoorZI
namespace Go.Proofs.YtjebhbopmfcopaaGreatDoor
open Go.Proofs
noncomputable section
variable{a:Addr}{gs:Fo}{own:Bool}{g g' o:Gq}{Fin:Gq->Prop}{B' N i j k k' m n nx':Nat}{f:Nat->Nat}{tk':Nat->Nat->Prop}{O' O1:Nat->Prop}{o':Option Nat}{P:Program}{α:Type}{w':HA}
namespace Ph
open Conc ConcN ConcM Kw
def dH(j k:Nat)(f:Nat->Nat):Nat:=sumTo j λa=>if a=k then 0 else f a
theorem dL(c:k<j)(f:Nat->Nat):sumTo j f=f k+dH j k f:=by obtain⟨r,h1,d⟩:=Eb f c;have:=d (λa=>if a=k then 0 else f a) (λa b=>if_neg b);simp only[if_true]at this;unfold dH;omega
theorem j9(j k:Nat)(T:Nat->α)(T':α)(b:α->Nat):dH j k (λa=>b (ConcN.upd T k T' a))=dH j k (λa=>b (T a)):=by unfold dH;refine sumTo_congr λa _=>?_;by_cases h:a=k;(·rw[if_pos h,if_pos h]);·rw[if_neg h,if_neg h];show b (ConcN.upd T k T' a)=b (T a);rw[upd_ne T T' h]
theorem AX{f g:Nat->Nat}:∀{j:Nat},(∀a,a<j->f a<=g a)->sumTo j f<=sumTo j g|0,_=>Nat.le_refl _|j+1,h=>by have h1:=AX (f:=f) (g:=g) (j:=j) λa c=>h a HU;have b:=h j HU;simp only[sumTo];omega
theorem EC{g:Nat->Nat}(h:∀a,f a<=g a):dH j k f<=dH j k g:=AX λa _=>by split;exact Nat.le_refl _;exact h a
theorem Re(h:∀a,a<j->f a=0):sumTo j f=0:=by
 have:=AX (f:=f) (g:=λ_=>0) (j:=j) λa c=>by rw[h a c];exact Nat.le_refl _
 have e:∀j,sumTo j (λ_=>0)=0:=λj=>by induction j with|zero=>rfl|succ j b=>rw[sumTo,b]
 rw[e]at this;omega
theorem uH(h:∀a,f a<=1):sumTo j f<=j:=by have:=sumTo_le (f:=f) (c:=1) (j:=j) λa _=>h a;omega
theorem Ie(b:k<j)(h:∀a,f a<=1):dH j k f+1<=j:=by
 have e:=dL b (λa=>if a=k then 1 else f a);have h1:sumTo j (λa=>if a=k then 1 else f a)<=j:=uH λa=>by split;exact Nat.le_refl _;exact h a
 have c:dH j k (λa=>if a=k then 1 else f a)=dH j k f:=by unfold dH;refine sumTo_congr λa _=>?_;by_cases h:a=k;(·rw[if_pos h,if_pos h]);·rw[if_neg h,if_neg h];show(if a=k then 1 else f a)=f a;rw[if_neg h]
 simp only[if_true]at e;omega
theorem XG(T:Th):cU T<=bF T:=by unfold cU bF;cases T.pc<;>simp
theorem S8(T:Th):bj T<=1:=by unfold bj;split<;>first|(split<;>simp)|simp
theorem FZ(T:Th):cj T<=bj T:=by unfold cj bj;cases T.pc<;>simp
theorem Rv(T:Th):cE T<=1:=by unfold cE;split<;>simp
theorem zE(T:Th):aC T<=1:=by unfold aC;split<;>simp
def eV(j:Nat)(T:Nat->Th)(s:Sh):Prop:=MI s.word s.ms (sumTo j λk=>bq (T k)) (sumTo j λk=>bF (T k)) (sumTo j λk=>cU (T k)) (sumTo j λk=>bj (T k)) (sumTo j λk=>cE (T k)) (sumTo j λk=>cj (T k))
def gT(n j:Nat)(M:Mt)(T:Nat->Th)(s:Sh):Prop:=WI n j M s (sumTo j λk=>aC (T k)) (sumTo j λk=>aG (T k)) (sumTo j λk=>aH (T k))
theorem eV.split{T:Nat->Th}{s:Sh}(h:eV j T s)(b:k<j):MI s.word s.ms (bq (T k)+dH j k λa=>bq (T a)) (bF (T k)+dH j k λa=>bF (T a)) (cU (T k)+dH j k λa=>cU (T a)) (bj (T k)+dH j k λa=>bj (T a)) (cE (T k)+dH j k λa=>cE (T a)) (cj (T k)+dH j k λa=>cj (T a)):=by unfold eV at h;rw[dL b (λa=>bq (T a)),dL b (λa=>bF (T a)),dL b (λa=>cU (T a)),dL b (λa=>bj (T a)),dL b (λa=>cE (T a)),dL b (λa=>cj (T a))]at h;exact h
theorem eV.step{T:Nat->Th}{T':Th}{s s':Sh}(h:eV j T s)(b:k<j)(d:Mv N m (T k) s T' s')(e:TW (T k))(c:(T k).pc=.a1->(T k).ex=false->2<=s.word.w):eV j (ConcN.upd T k T') s':=by have:=ahC d e c (h.split b) (EC λa=>XG (T a)) (EC λa=>FZ (T a));unfold eV;rw[dL b (λa=>bq (ConcN.upd T k T' a)),dL b (λa=>bF (ConcN.upd T k T' a)),dL b (λa=>cU (ConcN.upd T k T' a)),dL b (λa=>bj (ConcN.upd T k T' a)),dL b (λa=>cE (ConcN.upd T k T' a)),dL b (λa=>cj (ConcN.upd T k T' a)),j9 j k T T' bq,j9 j k T T' bF,j9 j k T T' cU,j9 j k T T' bj,j9 j k T T' cE,j9 j k T T' cj];simp only[upd_same];exact this
theorem gT.step{M:Mt}{T:Nat->Th}{T':Th}{s s':Sh}(h:gT n j M T s)(b:k<j)(c:Mv N m (T k) s T' s'):gT n j M (ConcN.upd T k T') s':=by unfold gT at h;rw[dL b (λa=>aC (T a)),dL b (λa=>aG (T a)),dL b (λa=>aH (T a))]at h;have d:=Ie b (f:=λa=>aC (T a)) λa=>zE (T a);have:=SX c h HU;unfold gT;rw[dL b (λa=>aC (ConcN.upd T k T' a)),dL b (λa=>aG (ConcN.upd T k T' a)),dL b (λa=>aH (ConcN.upd T k T' a)),j9 j k T T' aC,j9 j k T T' aG,j9 j k T T' aH];simp only[upd_same];exact this
theorem ajr(M:Mt):ca M<=1:=by unfold ca;split<;>simp
theorem aeM(M:Mt):bR M<=1:=by unfold bR;split<;>simp
theorem vk{M:Mt}{T:Nat->Th}{s:Sh}(b:eV j T s)(e:gT n j M T s)(i:j<=n)(l:n<=16):s.ok:=by
 have h1:=uH (j:=j) (f:=λk=>cE (T k)) λa=>Rv (T a);have m:=uH (j:=j) (f:=λk=>cj (T k)) λa=>Nat.le_trans (FZ (T a)) (S8 (T a));have o:=ajr M;have p:=aeM M;have w1:=e.sZ;have w2:=e.uf;have c:=b.calm;have d:=b.Bu;have g:=b.s1;refine⟨⟨b.l1,b.k1,b.s1,?_⟩,?_,?_,?_,?_⟩;·rcases Nat.lt_or_ge s.word.s 1 with h|h;(·have:=c HU;omega);·have:=d HU;omega
 ·rcases Nat.lt_or_ge s.word.s 1 with h|h;(·have:=c HU;have:=b.k1;omega);·have:=d HU;omega
 ·omega
 ·omega
 ·omega
theorem IP{T:Nat->Th}{s:Sh}(b:eV j T s)(d:k<j)(h:bF (T k)=1):s.word.k=1:=by obtain⟨m1,f,l,m,g,i,c,e⟩:=b.split d;rcases Nat.lt_or_ge s.word.s 1 with a|a;(·have:=c HU;omega);·have:=e HU;omega
theorem aey{M:Mt}{T:Nat->Th}{s:Sh}(i:eV j T s)(d:gT n j M T s)(q:j<=n)(r:n<=16)(c:k<j)(p:TW (T k)):dS (T k) s:=by
 have t:=vk i d q r;have h:=i.split c;obtain⟨m1,z,u,v,y,x,m,l⟩:=h;unfold gT at d;rw[dL c (λa=>aC (T a)),dL c (λa=>aG (T a)),dL c (λa=>aH (T a))]at d;have w:=Ie c (f:=λa=>aC (T a)) λa=>zE (T a);have w1:=d.sZ;have w3:=d.fc;refine⟨p,t,λb e=>?_,λb=>?_,λb=>?_,λb=>?_,λb=>?_,IP i c,λe=>?_⟩;·have:=l e;(have g:bF (T k)+bj (T k)=1:=by simp only[bF,bj,b];split<;>rfl);(have o:cj (T k)=bj (T k):=by simp only[cj,bj,b]);omega
 ·(have g:bj (T k)=1:=by simp only[bj,b]);(have o:cj (T k)=1:=by simp only[cj,b]);(have e:s.word.s=1:=by rcases Nat.lt_or_ge s.word.s 1 with h|h;(·have:=m HU;omega);·omega);have:=l e;omega
 ·(have g:bq (T k)=1:=by simp only[bq,b]);omega
 ·(have g:aC (T k)=0:=by simp only[aC,b]);omega
 ·(have g:aG (T k)=1:=by simp only[aG,b]);have:=w3 HU;exact⟨this.2,this.1⟩
 ·have:=m e;omega
theorem TH{T:Nat->Th}{s:Sh}(b:eV j T s)(a:k<j)(h:s.word.s=0):bj (T k)=0:=by have:=(b.split a).calm h;omega
theorem yF{T:Nat->Th}{s:Sh}(c:eV j T s)(d:k<j)(b:k'<j)(h:bq (T k)=1)(l:bq (T k')=1):k=k':=by by_cases e:k=k';(·exact e);·exfalso;have h1:=(c.split d);(have g:bq (T k')<=dH j k (λa=>bq (T a)):=by have:=le_sumTo (f:=λa=>if a=k then 0 else bq (T a)) (i:=k') b;simp only[if_neg (Ne.symm e)]at this;exact this);have:=h1.ai;have:=h1.l1;omega
theorem VX{M:Mt}{T:Nat->Th}{s:Sh}(F:eV j T s)(i:gT n j M T s)(B:s.word.lone->∃k,k<j/\(T k).pc=.uc/\(T k).old=s.word)(d:∀k,k<j->(T k).pc=.quit\/((T k).pc=.s1/\s.ms=0))(G:M.pc=.w3)(A:s.ws=0):False:=by have z:∀(f:Th->Nat),(∀T,T.pc=.quit\/T.pc=.s1->f T=0)->sumTo j (λk=>f (T k))=0:=λf q=>Re λa c=>q _ ((d a c).imp id (·.1));have r:=z bq (by rintro T(h|h)<;>simp[bq,h]);have t:=z bF (by rintro T(h|h)<;>simp[bF,h]);have u:=z bj (by rintro T(h|h)<;>simp[bj,h]);have v:=z aH (by rintro T(h|h)<;>simp[aH,h]);have w:=z aG (by rintro T(h|h)<;>simp[aG,h]);have x:=z cU (by rintro T(h|h)<;>simp[cU,h]);have y:=z cj (by rintro T(h|h)<;>simp[cj,h]);obtain⟨m1,P,L,C,D,E,l,m⟩:=F;simp only[r,t,u,x,y]at C D E l m;have w1:=i.sZ;have w2:=i.uf;have w3:=i.Wf;simp only[v,w,A,bR,ca,G]at w1 w2 w3;by_cases hs1:∃k,k<j/\(T k).pc=.s1;(·obtain⟨k,b,o⟩:=hs1;(have N:s.ms=0:=by rcases d k b with h|⟨_,h⟩;(·rw[o]at h;cases h);·exact h);(have O:1<=sumTo j (λk=>cE (T k)):=by have:=le_sumTo (f:=λk=>cE (T k)) b;(have e:cE (T k)=1:=by simp[cE,o]);simp only[e]at this;exact this);rcases Nat.lt_or_ge s.word.s 1 with I|I;(·have:=l HU;obtain⟨a,c,J,_⟩:=B ⟨HU,HU,HU,HU⟩;rcases d a c with h|⟨h,_⟩<;>rw[J]at h<;>cases h);·have:=m HU;omega);·have H:∀k,k<j->(T k).pc=.quit:=λk b=>(d k b).elim id λh=>absurd ⟨k,b,h.1⟩ hs1;(have K:sumTo j (λk=>aC (T k))=j:=by rw[sumTo_congr (g:=λ_=>1) λa c=>by simp[aC,H a c]];(have:∀j,sumTo j (λ_=>1)=j:=λj=>by induction j with|zero=>rfl|succ j p=>rw[sumTo,p]);exact this j);rw[K]at w1;have:=w3 HU HU;omega
theorem fT{fn:FuncId}{pos:String}{es:Array Event}:∀a∈MemOp.ofEvents i fn pos es,a.g=i:=λa ah=>by obtain⟨e,_,rfl⟩:=dK ah;rfl
structure TI(C:Cx)(j nx B:Nat)(T:Nat->Th)(O tk:Nat->Nat->Prop)(o:Option Nat)(t:Trace):Prop where
 lt:LT (fe C) (j0 C) (jH C O tk) (jJ C) (muA C) t (C.c0+j-1) o
 low:iY B t
 nP:ig t
 elem:∀i x a,touchAt t i=some x->x.loc=.cell a->a.block=C.Rc->a.off/8<nx
 old:∀i x g,touchAt t i=some x->t.g? i=some g->g<C.c0->Knows t 0 i\/j3 (fe C) t i x
 rel:∀k,k<j->(T k).gone=true->∃r,RelB (fe C) (dC C) t (C.c0+k) r
section
variable{C:Cx}{j nx B:Nat}{T:Nat->Th}{O tk:Nat->Nat->Prop}{o:Option Nat}{t:Trace}
theorem TI.app(h:TI C j nx B T O tk o t){j':Nat}{T':Nat->Th}{O':Nat->Nat->Prop}{u:Trace}(G:LT (fe C) (j0 C) (jH C O' tk') (jJ C) (muA C) (t++u) (C.c0+j'-1) o')(E:B<=B')(F:nx<=nx')(y:∀b∈u,∀x,b.act.touch?=some x->x.loc.low B')(z:ig u)(A:∀b∈u,∀x a,b.act.touch?=some x->x.loc=.cell a->a.block=C.Rc->a.off/8<nx')(hold:∀b∈u,b.g<C.c0->b.g=0\/b.act.touch?=none)(D:∀k,k<j'->(T' k).gone=true->∃r,RelB (fe C) (dC C) (t++u) (C.c0+k) r):TI C j' nx' B' T' O' tk' o' (t++u):=by refine⟨G,(h.low.mono E).app y,h.nP.app z,λi x a l q n=>?_,λi x g l w p=>?_,D⟩;(·obtain⟨b,e,c⟩:=touch_of l;rcases getElem?_append_cases e with⟨_,f⟩|⟨_,m⟩;(·exact Nat.lt_of_lt_of_le (h.elem i x a (by rw[touchAt_of f];exact c) q n) F);·exact A b m x a c q n);·obtain⟨b,e,c⟩:=touch_of l;(have s:b.g=g:=by simpa[Trace.g?,e]using w);rcases getElem?_append_cases e with⟨v,f⟩|⟨_,m⟩;(·exact(h.old i x g (by rw[touchAt_of f];exact c) (by simp[Trace.g?,f,s]) p).imp (·.app u) (λd=>d.app v u));·rcases hold b m (by rw[s];exact p)with h0|h0;(·have:=knows_own e;rw[h0]at this;exact .inl this);·rw[h0]at c;cases c
theorem zI{wr:Option Nat}{e:Event}(h:eT C O1 own wr e){x:Touch}(c:(MemAct.ofEvent e).touch?=some x):(∃a,x.loc=.cell a/\x.kind=.plain/\(O1 a.block\/(x.write=false/\Ro C a)\/(own=true/\Gd C a)\/(a.block=C.Rc/\wr=some (a.off/8))))\/∃b,x.loc=.obj b/\x.kind=.plain/\x.write=false/\O1 b:=by
 rcases h with h|⟨a,y,rfl,h⟩|⟨b,rfl,h⟩;·obtain⟨l,p,q⟩:=e;simp only at h;subst h;simp[MemAct.ofEvent,MemAct.touch?]at c
 ·simp[MemAct.ofEvent,MemAct.touch?]at c;subst c;exact .inl ⟨a,rfl,rfl,h⟩
 ·simp[MemAct.ofEvent,MemAct.touch?]at c;subst c;exact .inr ⟨b,rfl,rfl,rfl,h⟩
theorem tL{wr:Option Nat}{e:Event}(h:eT C O1 own wr e):e.loc≠.mark .disable/\e.loc≠.mark .enable/\∀a,e.loc≠.mark (.release a):=by
 rcases h with h|⟨a,y,rfl,_⟩|⟨b,rfl,_⟩;·rw[h];simp
 ·simp
 ·simp
theorem aci{wr:Option Nat}{es:Array Event}(h:∀e∈es,eT C O1 own wr e)(i:Nat)(fn:FuncId)(pos:String):ig (MemOp.ofEvents i fn pos es):=λc ah a e=>by obtain⟨x,b,rfl⟩:=dK ah;exact(tL (h x b)).2.2 a (rD e)
theorem yv{wr:Option Nat}{es:Array Event}(h:∀e∈es,eT C O1 own wr e)(i:Nat)(fn:FuncId)(pos:String)(t:Trace)(k:Nat):Deaf (t++MemOp.ofEvents i fn pos es) k=Deaf t k:=by by_cases hk:i=k;(·subst hk;rw[Deaf_own,deafBehind_still λe a=>⟨(tL (h e a)).1,(tL (h e a)).2.1⟩]);·exact Deaf_other t hk _ fT
theorem TI.work(s:Geo C)(h:TI C j nx B T O tk o t)(hk:k<j){wr:Option Nat}{es:Array Event}(v:∀e∈es,eT C O1 own wr e)(W:B<=B')(a1:C.low<=B)(Z:∀b,O k b->O1 b)(F:∀b,O1 b->O k b\/(B<=b/\b<B'))(H:∀k b,O k b->C.low<=b/\b<B)(K:∀k k' b,O k b->O k' b->k=k')(X:∀k k' m,tk k m->tk k' m->k=k')(V:own=true->o=some (C.c0+k))(Q:∀m,wr=some m->tk k m/\m<nx)(Y:(T k).gone=true->es=#[])(fn:FuncId)(pos:String):TI C j nx B' T (ConcN.upd O k O1) tk o (t++MemOp.ofEvents (C.c0+k) fn pos es):=by
 have g1:=s.cw;have g2:=s.rc;have g3:=s.c0;have E:∀b,O1 b->C.low<=b/\b<B':=λb n=>by rcases F b n with x|x;(·have:=H k b x;omega);·omega
 have w:∀a,(a=k/\ConcN.upd O k O1 a=O1)\/(a≠k/\ConcN.upd O k O1 a=O a):=dw O O1 k;have A:ApartL (fe C) (j0 C) (jH C (ConcN.upd O k O1) tk) (jJ C):=Jw s (λa b n=>by rcases w a with⟨_,e⟩|⟨_,e⟩<;>rw[e]at n;exact(E b n).1;exact(H a b n).1) (λa a' b h1 c=>by rcases w a with⟨p,e⟩|⟨na,e⟩<;>rcases w a' with⟨N,G⟩|⟨a2,G⟩<;>rw[e]at h1<;>rw[G]at c;(·rw[p,N]);(·rcases F b h1 with x|x;(·rw[p];exact K k a' b x c);·have:=H a' b c;omega);(·rcases F b c with x|x;(·rw[N];exact K a k b h1 x);·have:=H a b h1;omega);·exact K a a' b h1 c) X;have a0:LT (fe C) (j0 C) (jH C (ConcN.upd O k O1) tk) (jJ C) (muA C) t (C.c0+j-1) o:=by refine Ju h.lt ?_ ?_;(·rintro _ l⟨a,rfl,d⟩;refine⟨a,rfl,?_⟩;(have P:∀b,O a b->ConcN.upd O k O1 a b:=λb n=>by rcases w a with⟨p,e⟩|⟨_,e⟩<;>rw[e];(·exact Z b (p▸n));·exact n);rcases d with⟨x,e,d⟩|⟨b,e,d⟩;(·exact .inl ⟨x,e,d.imp (P _) id⟩);·exact .inr ⟨b,e,P _ d⟩);·rintro _ l _ _⟨a,rfl,d⟩;(have R:∀b,ConcN.upd O k O1 a b->O a b\/B<=b:=λb n=>by rcases w a with⟨p,e⟩|⟨_,e⟩<;>rw[e]at n;(·exact(F b n).imp (λx=>p▸x) (·.1));·exact .inl n);rcases d with⟨x,rfl,d⟩|⟨b,rfl,d⟩;(·rcases d with d|d;(·rcases R _ d with y|y;(·exact .inl ⟨a,rfl,.inl ⟨x,rfl,.inl y⟩⟩);·exact .inr (Un.perm (λi z L e=>by have h1:=h.low i z L;rw[e]at h1;exact absurd h1 (Nat.not_lt.2 y)) _));·exact .inl ⟨a,rfl,.inl ⟨x,rfl,.inr d⟩⟩);·rcases R _ d with y|y;(·exact .inl ⟨a,rfl,.inr ⟨b,rfl,y⟩⟩);·exact .inr (Un.perm (λi z L e=>by have h1:=h.low i z L;rw[e]at h1;exact absurd h1 (Nat.not_lt.2 y)) _)
 have M:ConcN.upd O k O1 k=O1:=upd_same _ _ _;have U:LT (fe C) (j0 C) (jH C (ConcN.upd O k O1) tk) (jJ C) (muA C) (t++MemOp.ofEvents (C.c0+k) fn pos es) (C.c0+j-1) o:=by refine a0.appW A (k:=C.c0+k) HU HU λJ ah=>?_;obtain⟨e,q,rfl⟩:=dK ah;refine⟨rfl,λx=>(tL (v e q)).2.2 _ (rD x),λx u=>?_⟩;rcases zI (v e q) u with⟨a,e1,e2,f⟩|⟨b,e1,e2,e3,f⟩;(·rw[e1];rcases f with f|⟨h1,c⟩|⟨h1,c⟩|⟨h1,c⟩;(·exact .inr (.inl ⟨k,rfl,.inl ⟨a,rfl,.inl (by rw[M];exact f)⟩⟩));(·exact .inr (.inr (.inl ⟨⟨Nat.le_add_right _ _,a,rfl,c⟩,h1⟩)));(·exact .inr (.inr (.inr ⟨⟨a,rfl,c⟩,V h1⟩)));·exact .inr (.inl ⟨k,rfl,.inl ⟨a,rfl,.inr ⟨h1,(Q _ c).1⟩⟩⟩));·rw[e1];exact .inr (.inl ⟨k,rfl,.inr ⟨b,rfl,by rw[M];exact f⟩⟩)
 refine h.app U W (Nat.le_refl _) (λJ ah x u=>?_) (aci v _ _ _) (λJ ah x a u e D=>?_) (λJ ah I=>?_) (λa S I=>?_);·obtain⟨e,q,rfl⟩:=dK ah;rcases zI (v e q) u with⟨a,e1,_,f⟩|⟨b,e1,_,_,f⟩;(·rw[e1];rcases f with f|⟨_,c⟩|⟨_,c⟩|⟨h1,_⟩;(·exact(E _ f).2);(·have:=c.1;show a.block<B';omega);(·have:=c.1;show a.block<B';omega);·show a.block<B';omega);·rw[e1];exact(E _ f).2
 ·obtain⟨G,q,rfl⟩:=dK ah;rcases zI (v G q) u with⟨a',e1,_,f⟩|⟨b,e1,_⟩;(·rw[e1]at e;cases e;rcases f with f|⟨_,c⟩|⟨_,c⟩|⟨_,c⟩;(·have:=E _ f;omega);(·exact absurd D c.2.2.1);(·exact absurd (c.1.symm.trans D) s.kJ);·exact(Q _ c).2);·rw[e1]at e;cases e
 ·obtain⟨e,_,rfl⟩:=dK ah;simp only at I;omega
 ·obtain⟨r,D⟩:=h.rel a S I;by_cases hak:a=k;(·subst hak;rw[Y I];refine⟨r,?_⟩;have:MemOp.ofEvents (C.c0+a) fn pos #[]=#[]:=rfl;rw[this,Array.append_empty];exact D);·exact⟨r,D.other (g:=C.c0+k) fT HU⟩
theorem vL{e:Event}(h:Bk C e){x:Touch}(b:(MemAct.ofEvent e).touch?=some x):∃a,x.loc=.cell a/\fD C a/\x.kind=.atomic:=by
 rcases h with rfl|rfl|⟨a,y,rfl,h⟩;·cases b
 ·cases b
 ·simp[MemAct.ofEvent,MemAct.touch?]at b;subst b;exact⟨a,rfl,h,rfl⟩
theorem yp{e:Event}(h:Bk C e)(a:Addr):MemAct.ofEvent e≠.mark (.release a):=by intro x;have b:=rD x;rcases h with rfl|rfl|⟨a,y,rfl,h⟩<;>simp[mk]at b
theorem Il(b:Geo C)(h:fD C a):a.block<C.low:=by rcases h with h|⟨h,_⟩;(·rw[h];exact b.wg);·rw[h];exact b.cw
theorem Hv(b:Geo C)(h:fD C a):a.block≠C.Rc:=by rcases h with h|⟨h,_⟩;(·rw[h];exact b.kx);·rw[h];exact b.kJ
structure kS(C:Cx)(B:Nat)(O tk:Nat->Nat->Prop):Prop where
 o:∀k b,O k b->C.low<=b/\b<B
 d:∀k k' b,O k b->O k' b->k=k'
 t:∀k k' m,tk k m->tk k' m->k=k'
theorem kS.apart(h:kS C B O tk)(a:Geo C):ApartL (fe C) (j0 C) (jH C O tk) (jJ C):=Jw a (λk b x=>(h.o k b x).1) h.d h.t
theorem TI.book(m:Geo C)(h:TI C j nx B T O tk o t)(v:kS C B O tk)(I:C.low<=B)(D:k<j){d e:Nat}{es:Array Event}(c:gY C d e es)(s:Deaf t (C.c0+k)=d){T':Th}(z:T'.gone=true->(T k).gone=true)(fn:FuncId)(pos:String):TI C j nx B (ConcN.upd T k T') O tk o (t++MemOp.ofEvents (C.c0+k) fn pos es)/\Deaf (t++MemOp.ofEvents (C.c0+k) fn pos es) (C.c0+k)=e:=by
 have g3:=m.c0;refine⟨?_,by rw[Deaf_own,s];exact c.2.1⟩;have A:=h.lt.appW (v.apart m) (k:=C.c0+k) (u:=MemOp.ofEvents (C.c0+k) fn pos es) HU HU λp ah=>by obtain⟨x,b,rfl⟩:=dK ah;refine⟨rfl,yp (c.1 x b) _,λy f=>?_⟩;obtain⟨a,e1,e2,n⟩:=vL (c.1 x b) f;exact .inl ⟨.inr ⟨a,e1,e2⟩,by rw[n];simp,by rw[n];simp⟩
 refine h.app A (Nat.le_refl _) (Nat.le_refl _) (λp ah x b=>?_) (λp ah a=>?_) (λp ah x a b e1 l=>?_) (λp ah E=>?_) (λa G q=>?_);·obtain⟨y,f,rfl⟩:=dK ah;obtain⟨a,e1,e2,_⟩:=vL (c.1 y f) b;rw[e1];have:=Il m e2;show a.block<B;omega
 ·obtain⟨y,f,rfl⟩:=dK ah;exact yp (c.1 y f) a
 ·obtain⟨y,f,rfl⟩:=dK ah;obtain⟨a',e2,n,_⟩:=vL (c.1 y f) b;rw[e2]at e1;cases e1;exact absurd l (Hv m n)
 ·obtain⟨y,_,rfl⟩:=dK ah;simp only at E;omega
 ·rcases dw T T' k a with⟨F,e1⟩|⟨J,e1⟩;(·rw[e1]at q;obtain⟨r,l⟩:=h.rel k D (z q);refine⟨r,?_⟩;rw[F];refine l.Vh fn pos es λi x b=>?_;have H:=Array.mem_of_getElem? b;rcases c.2.2 i x b with h0|h0;(·exact .inl h0);·rcases c.1 x H with rfl|rfl|⟨a',y,rfl,w⟩;(·exact .inl rfl);(·exact .inl rfl);·exact .inr ⟨⟨a',y,rfl,.inr ⟨a',rfl,w⟩⟩,by rw[s];exact h0⟩);·rw[e1]at q;obtain⟨r,l⟩:=h.rel a G q;exact⟨r,l.other (g:=C.c0+k) fT HU⟩
theorem KH(i:Nat)(fn:FuncId)(pos:String)(m:Mark):MemOp.ofEvents i fn pos #[mk m]=#[{g:=i,fn,pos,act:=.mark m}]:=by rw[ofEvents_eq];simp[mk,MemAct.ofEvent]
theorem TI.mark(h:TI C j nx B T O tk o t){m:Mark}(c:(MemAct.mark m).touch?=none)(f:∀a,m≠.release a){T':Nat->Th}(fn:FuncId)(pos:String)(p:LT (fe C) (j0 C) (jH C O tk') (jJ C) (muA C) (t++#[({g:=i,fn,pos,act:=.mark m}:MemOp)]) (C.c0+j-1) o')(l:nx<=nx')(n:∀k,k<j->(T' k).gone=true->∃r,RelB (fe C) (dC C) (t++#[({g:=i,fn,pos,act:=.mark m}:MemOp)]) (C.c0+k) r):TI C j nx' B T' O tk' o' (t++MemOp.ofEvents i fn pos #[Ph.mk m]):=by
 rw[KH];refine h.app p (Nat.le_refl _) l (λd ah x b=>?_) (λd ah a e=>?_) (λd ah x a b=>?_) (λd ah _=>.inr ?_) n;all_goals simp only[List.mem_toArray,List.mem_singleton]at ah;subst ah
 ·rw[c]at b;cases b
 ·simp at e;exact f a e
 ·rw[c]at b;cases b
 ·exact c
theorem CF(h:TI C j nx B T O tk o t){T':Nat->Th}(y:MemOp)(e:y.act.touch?=none)(d:∀k,k<j->(T' k).gone=true->(T k).gone=true):∀k,k<j->(T' k).gone=true->∃r,RelB (fe C) (dC C) (t++#[y]) (C.c0+k) r:=by intro k b f;obtain⟨r,g⟩:=h.rel k b (d k b f);refine⟨r,g.app λa x i _ l=>?_⟩;have c:=lt_of_touch (old_touch e l);exact absurd c (Nat.not_lt.2 i)
end
section
variable{C:Cx}{j nx B:Nat}{T:Nat->Th}{O tk:Nat->Nat->Prop}{o:Option Nat}{t:Trace}
theorem Ga{T':Th}(c:T'.gone=true->(T k).gone=true):∀a,a<j->(ConcN.upd T k T' a).gone=true->(T a).gone=true:=λa _ h=>by rcases dw T T' k a with⟨b,e⟩|⟨_,e⟩<;>rw[e]at h;(·rw[b];exact c h);·exact h
theorem TI.la(c:Geo C)(h:TI C j nx B T O tk none t)(r:kS C B O tk)(v:k<j)(n:Deaf t (C.c0+k)=0){T':Th}(o:T'.gone=false)(fn:FuncId)(pos:String)(p:nx<=nx')(q:∀a m,tk a m->tk' a m)(f:∀a m,tk' a m->tk a m\/nx<=m):TI C j nx' B (ConcN.upd T k T') O tk' (some (C.c0+k)) (t++MemOp.ofEvents (C.c0+k) fn pos #[Ph.mk (.acquire (muA C))]):=by have g3:=c.c0;have l1:=h.lt.acquire (r.apart c) (z:={g:=C.c0+k,fn,pos,act:=.mark (.acquire (muA C))}) (by simp only;omega) rfl n;(have s:LT (fe C) (j0 C) (jH C O tk') (jJ C) (muA C) (t++#[({g:=C.c0+k,fn,pos,act:=.mark (.acquire (muA C))}:MemOp)]) (C.c0+j-1) (some (C.c0+k)):=by refine Ju l1 ?_ ?_;(·rintro _ l⟨a,rfl,b⟩;refine⟨a,rfl,b.imp (λ⟨x,e,b⟩=>⟨x,e,b.imp id λb=>⟨b.1,q _ _ b.2⟩⟩) id⟩);·rintro _ l _ _⟨a,rfl,b⟩;rcases b with⟨x,rfl,b⟩|b;(·rcases b with b|⟨h1,u⟩;(·exact .inl ⟨a,rfl,.inl ⟨x,rfl,.inl b⟩⟩);·rcases f _ _ u with y|y;(·exact .inl ⟨a,rfl,.inl ⟨x,rfl,.inr ⟨h1,y⟩⟩⟩);·exact .inr (Un.perm (λi z d e=>by have:=h.elem i z x (old_touch rfl d) e h1;omega) _));·exact .inl ⟨a,rfl,.inr b⟩);exact h.mark (by rfl) HY fn pos s p (CF h _ rfl (Ga (by rw[o];simp)))
theorem TI.ur(b:Geo C)(h:TI C j nx B T O tk (some (C.c0+k)) t)(c:kS C B O tk)(d:Deaf t (C.c0+k)=0){T':Th}(a:T'.gone=false)(fn:FuncId)(pos:String):TI C j nx B (ConcN.upd T k T') O tk none (t++MemOp.ofEvents (C.c0+k) fn pos #[Ph.mk (.releaseMerge (muA C))]):=h.mark (by rfl) HY fn pos (h.lt.release (c.apart b) (y:={g:=C.c0+k,fn,pos,act:=.mark (.releaseMerge (muA C))}) rfl rfl d) (Nat.le_refl _) (CF h _ rfl (Ga (by rw[a];simp)))
theorem TI.wr(f:Geo C)(h:TI C j nx B T O tk o t)(d:kS C B O tk)(n:k<j)(i:Deaf t (C.c0+k)=0){T':Th}(fn:FuncId)(pos:String):TI C j nx B (ConcN.upd T k T') O tk o (t++MemOp.ofEvents (C.c0+k) fn pos #[Ph.mk (.releaseMerge (dC C))]):=by refine h.mark (by rfl) HY fn pos (h.lt.still (d.apart f) (z:={g:=C.c0+k,fn,pos,act:=.mark (.releaseMerge (dC C))}) (by simp only;omega) rfl HY) (Nat.le_refl _) λa c b=>?_;rcases dw T T' k a with⟨m,e⟩|⟨p,e⟩;(·rw[m];exact⟨_,RelB.new i rfl rfl⟩);·rw[e]at b;obtain⟨r,l⟩:=h.rel a c b;refine⟨r,l.other (g:=C.c0+k) (λq ah=>?_) HU⟩;simp only[List.mem_toArray,List.mem_singleton]at ah;subst ah;rfl
theorem TI.YB(i:Geo C)(h:TI C j nx B T O tk o t)(q:kS C B O tk)(v:C.low<=B){es:Array Event}(d:∀e∈es,(∀a,MemAct.ofEvent e≠.mark (.release a))/\∀x,(MemAct.ofEvent e).touch?=some x->∃a,x.loc=.cell a/\fD C a/\x.kind≠.plain)(fn:FuncId)(pos:String):TI C j nx B T O tk o (t++MemOp.ofEvents 0 fn pos es):=by
 have g3:=i.c0;have l:=h.lt.app0 (q.apart i) (u:=MemOp.ofEvents 0 fn pos es) λf ah=>by obtain⟨e,b,rfl⟩:=dK ah;refine⟨rfl,(d e b).1 _,λx c=>?_⟩;obtain⟨a,e1,e2,n⟩:=(d e b).2 x c;exact .inl ⟨.inr ⟨a,e1,e2⟩,n⟩
 refine h.app l (Nat.le_refl _) (Nat.le_refl _) (λf ah x c=>?_) (λf ah a=>?_) (λf ah x a c e k=>?_) (λf ah _=>.inl (fT f ah)) (λa p s=>?_);·obtain⟨e,b,rfl⟩:=dK ah;obtain⟨a,e1,e2,_⟩:=(d e b).2 x c;rw[e1];have:=Il i e2;show a.block<B;omega
 ·obtain⟨e,b,rfl⟩:=dK ah;exact(d e b).1 a
 ·obtain⟨m,b,rfl⟩:=dK ah;obtain⟨a',e1,e2,_⟩:=(d m b).2 x c;rw[e1]at e;cases e;exact absurd k (Hv i e2)
 ·obtain⟨r,k⟩:=h.rel a p s;exact⟨r,k.other (g:=0) fT HU⟩
theorem agS{M i:Mt}{es:Array Event}(h:lH C M i es):(∀e∈es,(∀a,MemAct.ofEvent e≠.mark (.release a))/\∀x,(MemAct.ofEvent e).touch?=some x->∃a,x.loc=.cell a/\fD C a/\x.kind≠.plain)/\deafBehind (cV M) es=(if M.pc=.mr\/M.pc=.ww then cV M else cV i):=by
 have f:∀m,(m=Mark.read (eG C)\/m=Mark.write (eG C))->(∀e∈#[Ph.mk m],(∀a,MemAct.ofEvent e≠.mark (.release a))/\∀x,(MemAct.ofEvent e).touch?=some x->∃a,x.loc=.cell a/\fD C a/\x.kind≠.plain)/\∀d,deafBehind d #[Ph.mk m]=d:=by rintro m(rfl|rfl);(·refine⟨λe b=>?_,λd=>rfl⟩;simp only[List.mem_toArray,List.mem_singleton]at b;subst b;refine⟨λa=>by simp[mk,MemAct.ofEvent],λx c=>?_⟩;simp[mk,MemAct.ofEvent,MemAct.touch?]at c;subst c;exact⟨eG C,rfl,.inl rfl,by simp⟩);·refine⟨λe b=>?_,λd=>rfl⟩;simp only[List.mem_toArray,List.mem_singleton]at b;subst b;refine⟨λa=>by simp[mk,MemAct.ofEvent],λx c=>?_⟩;simp[mk,MemAct.ofEvent,MemAct.touch?]at c;subst c;exact⟨eG C,rfl,.inl rfl,by simp⟩
 unfold lH at h;split at h;·rename_i g;subst h;exact⟨(f _ (.inl rfl)).1,by rw[if_pos (.inl g)];exact(f _ (.inl rfl)).2 _⟩
 ·rename_i g;subst h;exact⟨(f _ (.inr rfl)).1,by rw[if_pos (.inr g)];exact(f _ (.inr rfl)).2 _⟩
 ·rename_i h1 k;refine⟨λe b=>⟨yp (h.1 e b),λx c=>?_⟩,?_⟩;(·obtain⟨a,e1,e2,j⟩:=vL (h.1 e b) c;exact⟨a,e1,e2,by rw[j];simp⟩);·rw[if_neg (λx=>x.elim h1 k)];exact h.2.1
theorem TI.hH(h:TI C j nx B T O tk o t)(A:ApartL (fe C) (j0 C) (jH C O tk) (jJ C))(q:1<=i)(y:i<=C.c0+j-1){es:Array Event}(l:∀e∈es,e.mute=true)(fn:FuncId)(pos:String):TI C j nx B T O tk o (t++MemOp.ofEvents i fn pos es):=by
 have d:∀b∈MemOp.ofEvents i fn pos es,b.act.touch?=none:=λb ah=>by obtain⟨e,f,rfl⟩:=dK ah;exact touch_mute (l e f)
 have g:ig (MemOp.ofEvents i fn pos es):=λb ah a=>by obtain⟨e,f,rfl⟩:=dK ah;exact EL (l e f) a
 have p:=h.lt.appW A (k:=i) (u:=MemOp.ofEvents i fn pos es) q y λb ah=>⟨fT b ah,g b ah _,λx c=>by rw[d b ah]at c;cases c⟩;refine h.app p (Nat.le_refl _) (Nat.le_refl _) (λb ah x c=>(by rw[d b ah]at c;cases c)) g (λb ah x a c=>(by rw[d b ah]at c;cases c)) (λb ah _=>.inr (d b ah)) (λa s v=>?_);obtain⟨r,w⟩:=h.rel a s v;refine⟨r,w.app λk x D _ c=>?_⟩;obtain⟨b,z,m⟩:=touch_of c;rcases getElem?_append_cases z with⟨E,_⟩|⟨_,n⟩;·omega
 ·rw[d b n]at m;cases m
theorem TI.fork(l:Geo C)(h:TI C j nx B T O tk o t)(v:kS C B O tk)(h0:Deaf t 0=0){T':Th}(s:T'.gone=false)(fn i:FuncId)(pos:String):TI C (j+1) nx B (ConcN.upd T j T') O tk o (t++#[({g:=0,fn,pos,act:=.go (C.c0+j)}:MemOp),{g:=C.c0+j,fn:=i,pos,act:=.start}]):=by
 have g3:=l.c0;have e:C.c0+j-1+1=C.c0+j:=by omega
 have m:=h.lt.fork (v.apart l) (x:={g:=0,fn,pos,act:=.go (C.c0+j)}) (y:={g:=C.c0+j,fn:=i,pos,act:=.start}) ⟨rfl,by rw[e]⟩ ⟨by rw[e],rfl⟩ h0;rw[e]at m;have d:∀b∈#[({g:=0,fn,pos,act:=.go (C.c0+j)}:MemOp),{g:=C.c0+j,fn:=i,pos,act:=.start}],b.act.touch?=none/\(∀a,b.act≠.mark (.release a)):=λb ah=>by simp only[List.mem_toArray,List.mem_cons,List.not_mem_nil,or_false]at ah;rcases ah with rfl|rfl;(·exact⟨rfl,λa=>by simp⟩);·exact⟨rfl,λa=>by simp⟩
 refine h.app (j':=j+1) m (Nat.le_refl _) (Nat.le_refl _) (λb ah x c=>(by rw[(d b ah).1]at c;cases c)) (λb ah a=>(d b ah).2 a) (λb ah x a c=>(by rw[(d b ah).1]at c;cases c)) (λb ah _=>.inr (d b ah).1) (λa w f=>?_);rcases dw T T' j a with⟨D,e1⟩|⟨A,e1⟩<;>rw[e1]at f;·rw[s]at f;cases f
 ·obtain⟨r,u⟩:=h.rel a HU f;refine⟨r,u.app λk x z _ c=>?_⟩;obtain⟨b,q,n⟩:=touch_of c;rcases getElem?_append_cases q with⟨E,_⟩|⟨_,p⟩;(·omega);·rw[(d b p).1]at n;cases n
theorem ya{t:Trace}(fn a:FuncId)(pos:String):Deaf (t++#[({g:=0,fn,pos,act:=.go m}:MemOp),{g:=m,fn:=a,pos,act:=.start}]) i=Deaf t i:=by have:=Deaf_append t i [({g:=0,fn,pos,act:=.go m}:MemOp),{g:=m,fn:=a,pos,act:=.start}];simpa[deafStep]using this
end
def jp:Nat->Tr|0=>.leaf|n+1=>.node λ_=>jp n
section
variable(C:Cx)(At:Th->GC->(Nat->Prop)->Gq->HA->Prop)(MAt:Mt->Gq->HA->Prop)
abbrev wA(T:Th)(y:GC)(tr:Tr)(O:Nat->Prop)(g:Gq)(w:HA):Prop:=kH C false T.own T.gone T.ag T.wr (At T y) tr O g w
def GoM(M:Mt)(tr:Tr)(g:Gq)(w:HA):Prop:=∃n,tr=jp n/\ia C MAt M n g w
def eU(bl:Bool)(T:Th)(y:GC)(tr:Tr)(O:Nat->Prop)(g:Gq)(w:HA)(s:Sh)(q d:Nat):Prop:=(T.pc=.quit/\QuitsD C.P q d g)\/(T.pc≠.quit/\d=aK T/\bl=false/\wA C At T y tr O g w)\/(T.pc=.s1/\d=aK T/\bl=true/\s.ms=0/\∃b,g={b with status:=.blocked}/\∀a,Rl C O T.own T.ag w a->At T y O b a)
def wI(bl:Bool)(M:Mt)(tr:Tr)(g:Gq)(w:HA)(s:Sh):Prop:=(bl=false/\GoM C MAt M tr g w)\/(M.pc=.w3/\bl=true/\s.ws=0/\tr=.leaf/\∃b,g={b with status:=.blocked}/\∀a,Rl C iq false none w a->MAt M b a)
structure St where
 j:Nat
 gs:Fo
 w:HA
 M:Mt
 T:Nat->Th
 ys:Nat->GC
 D:GC
 s:Sh
 g0:FV
 O:Nat->Nat->Prop
 tk:Nat->Nat->Prop
 tr:Nat->Tr
 ie:Tr
 bl:Nat->Bool
 fJ:Bool
 q:Nat->Nat
 o:Option Nat
structure PI(S:St)(t:Trace):Prop where
 size:S.gs.size=C.c0+S.j
 jn:S.j<=C.n
 iX:S.M.i=S.j
 sh:ShAt C S.w S.s S.g0
 rc:∃cs,kU C S.w cs
 low:C.low<=S.w.heap.size
 bu:S.o=none->S.g0=fV S.D
 tok:∀i,S.o=some i->∃k,i=C.c0+k/\k<S.j/\(S.T k).pc=.ur
 ur:∀k,k<S.j->(S.T k).pc=.ur->S.o=some (C.c0+k)/\S.ys k=S.D
 mi:eV S.j S.T S.s
 tw:∀k,k<S.j->TW (S.T k)
 a1:∀k,k<S.j->(S.T k).pc=.a1->(S.T k).ex=false->2<=S.s.word.w
 lone:S.s.word.lone->∃k,k<S.j/\(S.T k).pc=.uc/\(S.T k).old=S.s.word
 wi:gT C.n S.j S.M S.T S.s
 di:DI C S.D S.j S.T
 aU:∀m,m<S.D.n->(∃k,k<S.j/\(S.T k).ag=some m/\hold (S.T k))\/io C m S.w
 br:kS C S.w.heap.size S.O S.tk
 iE:∀k m,S.tk k m->m<S.D.n
 gR:∀k,k<S.j->∀m,(S.T k).ag=some m->S.tk k m
 oj:∀k b,S.O k b->k<S.j
 gS:∀k,k<S.j->∃g,S.gs[C.c0+k]?=some g/\eU C At (S.bl k) (S.T k) (S.ys k) (S.tr k) (S.O k) g S.w S.s (S.q (C.c0+k)) (Deaf t (C.c0+k))
 lv:∀i,0<i->i<C.c0->∃g,S.gs[i]?=some g/\QuitsD C.P (S.q i) (Deaf t i) g
 ms:∃g,S.gs[0]?=some g/\wI C MAt S.fJ S.M S.ie g S.w S.s
 d0:Deaf t 0=cV S.M
 ti:TI C S.j S.D.n S.w.heap.size S.T S.O S.tk S.o t
 base:Rl C iq false none C.w0 S.w
def St.A(S:St):Nat:=sumTo S.j (λk=>phi (S.T k)+if(S.T k).pc=.quit then S.q (C.c0+k)else C.qb)+10*S.s.ms+S.s.ws+100*(C.N-S.D.n)+(70+C.qb)*(C.n-S.j)+eA S.M.pc+sumTo C.c0 S.q
def St.X(S:St):List Xm:=(nf S.M S.s,S.ie)::(List.range S.j).map λk=>(dV (S.T k) S.s.word,S.tr k)
def St.B(S:St):Nat:=sumTo S.j (λk=>if S.bl k then 0 else 1)+if S.fJ then 0 else 1
def St.meas(S:St):Ms:=(S.A C,S.X,S.B)
end
section
variable{C:Cx}{At:Th->GC->(Nat->Prop)->Gq->HA->Prop}{MAt:Mt->Gq->HA->Prop}
variable{bl:Bool}{T:Th}{y:GC}{tr:Tr}{O:Nat->Prop}{g x x':Gq}{w w':HA}{s s':Sh}{q d:Nat}{M:Mt}
theorem J5(b:g.status=.running)(a:g.offers=none)(w:HA):({g with status:=.blocked}:Gq).again w=g:=by obtain⟨fr,cs,st,c,off⟩:=g;simp only at b a;subst b a;rfl
theorem eU.other(m:∀T y O g w,At T y O g w->jl C At T y O g w)(h:eU C At bl T y tr O g w s q d)(r:Rl C O T.own T.ag w w')(z:s.ms=0->s'.ms=0\/(mayWake C.P x=true/\x'.status=.running)):∃v,eU C At v T y tr O (woken C.P x x' w' g) w' s' q d:=by
 rcases h with⟨h1,a⟩|⟨h1,a,u,k⟩|⟨h1,a,u,k,c,rfl,j⟩;·exact⟨bl,.inl ⟨h1,by rw[woken_quitsD a];exact a⟩⟩
 ·have t:=k.running (λ_ _ _ p=>(m _ _ _ _ _ p).run);refine⟨false,.inr (.inl ⟨h1,a,rfl,?_⟩)⟩;rw[woken_run t];exact k.rely r
 ·have n:=m _ _ _ _ _ (j w (Rl.refl _ _ _ _));by_cases hc:(mayWake C.P x&&x'.status !=.blocked&&x'.status !=.waiting)=true;(·refine⟨false,.inr (.inl ⟨by rw[h1];simp,a,rfl,?_⟩)⟩;(have e:woken C.P x x' w' {c with status:=.blocked}=c:=by unfold woken;rw[if_pos hc];exact J5 n.run n.off _);rw[e];cases tr with|leaf=>exactλb i=>j b (r.trans i)|node f=>exact .inl λb i=>j b (r.trans i));·(have e:woken C.P x x' w' {c with status:=.blocked}={c with status:=.blocked}:=by unfold woken;rw[if_neg hc]);rw[e];rcases z k with l|⟨l,o⟩;(·exact⟨true,.inr (.inr ⟨h1,a,rfl,l,c,rfl,λb i=>j b (r.trans i)⟩)⟩);·exact absurd (by simp[l,o]) hc
theorem I0{x x':Gq}{w:HA}(h:x'.status=.blocked):woken C.P x x' w o=o:=by unfold woken;simp[h]
theorem ia.rely(h:ia C MAt M n g w)(r:Rl C iq false none w w'):ia C MAt M n g w':=let⟨b,h1,c⟩:=h;⟨b,h1,λd a=>c d (r.trans a)⟩
theorem ia.running(b:∀M g w,MAt M g w->je C At MAt Fin M g w)(h:ia C MAt M n g w):g.status=.running:=by obtain⟨d,h1,c⟩:=h;cases n with|zero=>cases h1;exact(b _ _ _ (c w (Rl.refl _ _ _ _))).run|succ n=>obtain⟨_,a,_⟩:=h1;exact a.1
theorem wI.other(j:∀M g w,MAt M g w->je C At MAt Fin M g w)(h:wI C MAt bl M tr g w s)(r:Rl C iq false none w w')(o:s.ws=0->s'.ws=0\/(mayWake C.P x=true/\x'.status=.running)):∃l,wI C MAt l M tr (woken C.P x x' w' g) w' s':=by rcases h with⟨m,n,e,b⟩|⟨h1,m,b,e,a,rfl,d⟩;(·refine⟨false,.inl ⟨rfl,n,e,?_⟩⟩;rw[woken_run (b.running j)];exact b.rely r);·have k:=j _ _ _ (d w (Rl.refl _ _ _ _));by_cases hc:(mayWake C.P x&&x'.status !=.blocked&&x'.status !=.waiting)=true;(·refine⟨false,.inl ⟨rfl,0,e,?_⟩⟩;(have e:woken C.P x x' w' {a with status:=.blocked}=a:=by unfold woken;rw[if_pos hc];exact J5 k.run k.off _);rw[e];exact⟨a,rfl,λc f=>d c (r.trans f)⟩);·(have e2:woken C.P x x' w' {a with status:=.blocked}={a with status:=.blocked}:=by unfold woken;rw[if_neg hc]);rw[e2];rcases o b with i|⟨i,p⟩;(·exact⟨true,.inr ⟨h1,rfl,i,e,a,rfl,λc f=>d c (r.trans f)⟩⟩);·exact absurd (by simp[i,p]) hc
def put(P:Program)(gs:Fo)(i:Nat)(g g':Gq)(w':HA):Fo:=(gs.map (woken P g g' w')).setIfInBounds i g'
theorem kW:(put P gs i g g' w').size=gs.size:=by simp[put]
theorem gQ(h:gs[i]?=some g):(put P gs i g g' w')[i]?=some g':=by have a:=(J2.1 h).1;unfold put;rw[Array.getElem?_setIfInBounds_self_of_lt (by simpa using a)]
theorem dv{a:Nat}(h:a≠i)(b:gs[a]?=some o):(put P gs i g g' w')[a]?=some (woken P g g' w' o):=by unfold put;rw[Array.getElem?_setIfInBounds_ne (Ne.symm h),Array.getElem?_map,b];rfl
theorem Jy{S:St}(a:k<S.j):S.X[k+1]?=some (dV (S.T k) S.s.word,S.tr k):=by simp[St.X,a]
end
section
variable{C:Cx}{At:Th->GC->(Nat->Prop)->Gq->HA->Prop}{MAt:Mt->Gq->HA->Prop}{Fin:Gq->Prop}{S:St}{t:Trace}{sl:CL}
def li(C:Cx)(At:Th->GC->(Nat->Prop)->Gq->HA->Prop)(MAt:Mt->Gq->HA->Prop)(S:St)(t:Trace)(sl:CL)(i:Nat):Prop:=∃a ops,runT C.P (crowd S.gs S.w sl) i=(.next (crowd a.gs a.w sl),ops)/\zM (a.meas C) (S.meas C)/\PI C At MAt a (t++ops)
theorem PI.at(h:PI C At MAt S t)(d:Nat):PI C At MAt {S with w:=S.w.at d} t:=by refine⟨h.size,h.jn,h.iX,h.sh,h.rc,h.low,h.bu,h.tok,h.ur,h.mi,h.tw,h.a1,h.lone,h.wi,h.di,h.aU,h.br,h.iE,h.gR,h.oj,λk q=>?_,h.lv,?_,h.d0,h.ti,h.base.trans (Rl.at _ _ _ _ d)⟩;(·obtain⟨g,j,c⟩:=h.gS k q;refine⟨g,j,?_⟩;rcases c with c|⟨h1,i,a,b⟩|⟨h1,i,a,b,m,l,o⟩;(·exact .inl c);(·exact .inr (.inl ⟨h1,i,a,b.rely (Rl.at _ _ _ _ d)⟩));·exact .inr (.inr ⟨h1,i,a,b,m,l,λp f=>o p ((Rl.at _ _ _ _ d).trans f)⟩));·obtain⟨g,j,c⟩:=h.ms;refine⟨g,j,?_⟩;rcases c with⟨a,n,e,b⟩|⟨h1,a,b,e,m,l,o⟩;(·exact .inl ⟨a,n,e,b.rely (Rl.at _ _ _ _ d)⟩);·exact .inr ⟨h1,a,b,e,m,l,λp f=>o p ((Rl.at _ _ _ _ d).trans f)⟩
theorem PI.ok(a:Geo C)(h:PI C At MAt S t):S.s.ok:=vk h.mi h.wi h.jn a.pS
theorem PI.zL(h:PI C At MAt S t)(d:k<S.j)(f:k'<S.j)(i:k'≠k)(g:(S.T k).own=true):(S.T k').own=false:=by cases e:(S.T k').own;(·rfl);·have h1:(S.T k).pc=.ur:=of_decide_eq_true g;have c:(S.T k').pc=.ur:=of_decide_eq_true e;have a:=(h.ur k d h1).1;have b:=(h.ur k' f c).1;rw[a]at b;have:=Option.some.inj b;omega
theorem A9{T:Th}(h:T.wr=some m):T.ag=some m/\T.pc=.ld/\T.ct=true:=by unfold Th.wr at h;split at h;(·rename_i a;exact⟨h,a⟩);·cases h
theorem P'(E:Geo C)(q:∀T y O g w,At T y O g w->jl C At T y O g w)(h:PI C At MAt S t)(B:k<S.j){es:Array Event}(N:Dn C (S.O k) O' (S.T k).own (S.T k).gone (S.T k).wr S.w w' es):∃M:Nat->Bool,∀a,a<S.j->a≠k->∀o,S.gs[C.c0+a]?=some o->∀d,eU C At (S.bl a) (S.T a) (S.ys a) (S.tr a) (S.O a) o S.w S.s (S.q (C.c0+a)) d->eU C At (M a) (S.T a) (S.ys a) (S.tr a) (S.O a) (woken C.P g g' w' o) w' S.s (S.q (C.c0+a)) d:=by obtain⟨cs,R⟩:=h.rc;(have H:∀a,∃b:Bool,a<S.j->a≠k->∀o,S.gs[C.c0+a]?=some o->∀d,eU C At (S.bl a) (S.T a) (S.ys a) (S.tr a) (S.O a) o S.w S.s (S.q (C.c0+a)) d->eU C At b (S.T a) (S.ys a) (S.tr a) (S.O a) (woken C.P g g' w' o) w' S.s (S.q (C.c0+a)) d:=by intro a;by_cases hc:∃o d,a<S.j/\a≠k/\S.gs[C.c0+a]?=some o/\eU C At (S.bl a) (S.T a) (S.ys a) (S.tr a) (S.O a) o S.w S.s (S.q (C.c0+a)) d;(·obtain⟨o,d,f,l,j,z⟩:=hc;have r:Rl C (S.O a) (S.T a).own (S.T a).ag S.w w':=KB E h.sh (h.ok E) R N h.low (λb c=>(h.br.o k b c).1) (λb c=>⟨(h.br.o a b c).2,λx=>l (h.br.d a k b c x),(h.br.o a b c).1⟩) (λj=>h.zL B f l j) (λm G K=>l (h.di.br a k f B m G (A9 K).1));obtain⟨b,c⟩:=z.other q (x:=g) (x':=g') r (s':=S.s) (λe=>.inl e);refine⟨b,λ_ _ o' A U Q=>?_⟩;rw[j]at A;cases A;obtain⟨b',n⟩:=Q.other q (x:=g) (x':=g') r (s':=S.s) (λe=>.inl e);rcases c with c|⟨h1,I,u,D⟩|⟨h1,I,u,D,L⟩<;>rcases n with n|⟨i,v,P,s⟩|⟨i,v,P,s,F⟩;(·exact .inl n);(·exact absurd c.1 i);(·rw[c.1]at i;cases i);(·exact absurd n.1 h1);(·exact .inr (.inl ⟨i,v,u,s⟩));(·have p:=D.running (λ_ _ _ f=>(q _ _ _ _ _ f).run);obtain⟨J,e,_⟩:=F;rw[e]at p;cases p);(·rw[n.1]at h1;cases h1);(·have p:=s.running (λ_ _ _ f=>(q _ _ _ _ _ f).run);obtain⟨J,e,_⟩:=L;rw[e]at p;cases p);·exact .inr (.inr ⟨i,v,u,s,F⟩));·exact⟨false,λf l o j d z=>absurd ⟨o,d,f,l,j,z⟩ hc⟩);exact Classical.skolem.1 H
theorem EH{b:Type}(j k:Nat)(f:Nat->b->α)(tr:Nat->b)(x:b):(List.range j).map (λa=>f a (ConcN.upd tr k x a))=((List.range j).map λa=>f a (tr a)).set k (f k x):=by apply List.ext_getElem?;intro a;rw[List.getElem?_set];by_cases hj:a<j;(·by_cases ha:k=a;(·subst ha;simp[hj,ConcN.upd]);·simp[hj,ha,ConcN.upd,Ne.symm ha]);·(have e1:(List.range j)[a]?=none:=by simp;omega);by_cases ha:k=a;(·subst ha;simp[hj]);·simp[e1,ha]
theorem PI.work(j:Geo C)(a0:∀T y O g w,At T y O g w->jl C At T y O g w)(hM:∀M g w,MAt M g w->je C At MAt Fin M g w)(h:PI C At MAt S t)(l:k<S.j)(B:S.gs[C.c0+k]?=some g){f:HA->Tr}(L:S.tr k=.node f)(hq:(S.T k).pc≠.quit)(a2:Deaf t (C.c0+k)=aK (S.T k)){es:Array Event}(hs:stepG C.P false g S.w=.go g' w' es)(d:Dn C (S.O k) O' (S.T k).own (S.T k).gone (S.T k).wr S.w w' es)(a3:wA C At (S.T k) (S.ys k) (f S.w) O' g' w'):li C At MAt S t sl (C.c0+k):=by
 have g1:=j.cw;have g2:=j.wg;have g3:=j.rc;have g4:=j.c0;have h1:=h.low;obtain⟨cs,v⟩:=h.rc;obtain⟨D,Q,X⟩:=d.nz _ _ _ h.sh.1;obtain⟨Y,E,U⟩:=d.aJ _ v;have a5:(C.c0+k==0)=false:=by simp;omega
 have a4:=runT_crowd_go (P:=C.P) (sl:=sl) B (show stepG C.P (C.c0+k==0) g S.w=_ by rw[a5];exact hs);have N:WgAt C w' S.s.cnt S.s.wt S.s.ws:=(d.keep C.Wg HU (λx=>by have:=(h.br.o k _ x).1;omega) (Ne.symm j.zf) j.kx).trans h.sh.2;obtain⟨F,R⟩:=P' j a0 h l (g:=g) (g':=g') d;obtain⟨gm,V,W⟩:=h.ms;have G:Rl C iq false none S.w w':=KB j h.sh (h.ok j) v d h.low (λb c=>(h.br.o k b c).1) (λb c=>c.elim) (λ_=>rfl) (λm p=>(by cases p));obtain⟨I,a1⟩:=W.other hM (x:=g) (x':=g') G (s':=S.s) (λe=>.inl e);have r:∀b,O' b->S.O k b\/(S.w.heap.size<=b/\b<w'.heap.size):=λb c=>(d.grow b).1 c;refine⟨{S with gs:=put C.P S.gs (C.c0+k) g g' w',w:=w',g0:=D,O:=ConcN.upd S.O k O',tr:=ConcN.upd S.tr k (f S.w),bl:=ConcN.upd F k false,fJ:=I},_,a4,?_,?_⟩;·refine .right _ (.left _ _ ?_);(have e:(St.X {S with gs:=put C.P S.gs (C.c0+k) g g' w',w:=w',g0:=D,O:=ConcN.upd S.O k O',tr:=ConcN.upd S.tr k (f S.w),bl:=ConcN.upd F k false,fJ:=I})=S.X.set (k+1) (dV (S.T k) S.s.word,f S.w):=by simp only[St.X,List.set_cons_succ];rw[EH S.j k (λa x=>(dV (S.T a) S.s.word,x)) S.tr (f S.w)]);rw[e];refine zG (Jy l) (.right _ ?_);rw[L];exact .mk f S.w
 ·have u:∀a,(a=k/\ConcN.upd S.O k O' a=O')\/(a≠k/\ConcN.upd S.O k O' a=S.O a):=dw S.O O' k;refine⟨by rw[<-h.size];exact kW,h.jn,h.iX,⟨Q,N⟩,⟨Y,E⟩,Nat.le_trans h.low d.size,λn=>?_,h.tok,h.ur,h.mi,h.tw,h.a1,h.lone,h.wi,h.di,λm p=>?_,?_,h.iE,h.gR,λa b c=>?_,λa H=>?_,λi z hc=>?_,⟨_,dv HU V,a1⟩,?_,?_,h.base.trans G⟩;(·(have:(S.T k).own=false:=by cases e:(S.T k).own;(·rfl);·have:=(h.ur k l (of_decide_eq_true e)).1;rw[show S.o=none from n]at this;cases this);rw[X this];exact h.bu n);(·by_cases hh:∃a,a<S.j/\(S.T a).ag=some m/\hold (S.T a);(·exact .inl hh);·right;have Z:=(h.aU m p).resolve_left hh;intro i z;rw[<-Z i z];(have e:(S.T k).wr≠some ((8*m+i)/8):=by have:(8*m+i)/8=m:=HU;rw[this];intro hw;obtain⟨w1,w2,w3⟩:=A9 hw;exact hh ⟨k,l,w1,.inr w2⟩);simp only[World.cell?,E.1,v.1];exact U _ e);(·refine⟨λa b c=>?_,λa a' b c q=>?_,h.br.t⟩;(·rcases u a with⟨_,e⟩|⟨_,e⟩<;>simp only[e]at c;(·rcases r b c with x|x;(·have:=h.br.o k b x;exact⟨this.1,Nat.lt_of_lt_of_le this.2 d.size⟩);·exact⟨Nat.le_trans h.low x.1,x.2⟩);·have:=h.br.o a b c;exact⟨this.1,Nat.lt_of_lt_of_le this.2 d.size⟩);·rcases u a with⟨s,e⟩|⟨na,e⟩<;>rcases u a' with⟨J,K⟩|⟨a7,K⟩<;>simp only[e]at c<;>simp only[K]at q;(·rw[s,J]);(·rcases r b c with x|x;(·rw[s];exact h.br.d k a' b x q);·have:=h.br.o a' b q;omega);(·rcases r b q with x|x;(·rw[J];exact h.br.d a k b c x);·have:=h.br.o a b c;omega);·exact h.br.d a a' b c q);(·rcases u a with⟨s,e⟩|⟨_,e⟩<;>simp only[e]at c;(·rw[s];exact l);·exact h.oj a b c);(·rw[yv d.j4];by_cases hak:a=k;(·subst hak;refine⟨g',gQ B,.inr (.inl ⟨hq,a2,upd_same _ _ _,?_⟩)⟩;simp only[upd_same];exact a3);·obtain⟨o,n,a6⟩:=h.gS a H;refine⟨_,dv HU n,?_⟩;simp only[upd_ne _ _ hak];exact R a H hak o n _ a6);(·rw[yv d.j4];obtain⟨o,n,A⟩:=h.lv i z hc;exact⟨o,by rw[dv HU n,woken_quitsD A],A⟩);(·rw[yv d.j4];exact h.d0);·refine h.ti.work j l d.j4 d.size h.low (λb c=>(d.grow b).2 (.inl c)) r h.br.o h.br.d h.br.t (λn=>(h.ur k l (of_decide_eq_true n)).1) (λm p=>?_) d.mute _ _;have:=(A9 p).1;exact⟨h.gR k l m this,h.di.lt k l m this⟩
theorem PI.block(x:Geo C)(h:PI C At MAt S t)(p:k<S.j)(e:S.gs[C.c0+k]?=some g)(B:(S.T k).pc=.s1)(l:S.s.ms=0)(m:S.bl k=false)(n:Deaf t (C.c0+k)=aK (S.T k))(q:∀f,Rl C (S.O k) (S.T k).own (S.T k).ag S.w f->At (S.T k) (S.ys k) (S.O k) g f)(r:stepG C.P false g S.w=.go {g with status:=.blocked} S.w #[]):li C At MAt S t sl (C.c0+k):=by
 have G:=x.c0;have u:(C.c0+k==0)=false:=by simp;omega
 have v:=runT_crowd_go (P:=C.P) (sl:=sl) e (show stepG C.P (C.c0+k==0) g S.w=_ by rw[u];exact r);have w:MemOp.ofEvents (C.c0+k) g.frame.fn g.frame.place #[]=#[]:=rfl;refine⟨{S with gs:=put C.P S.gs (C.c0+k) g {g with status:=.blocked} S.w,bl:=ConcN.upd S.bl k true},_,v,?_,?_⟩;·refine .right _ (.right _ ?_);have:=sumTo_upd S.bl true (λb=>if b then 0 else 1) p;simp only[m,Bool.false_eq_true,if_false,if_true]at this;show sumTo S.j (λa=>if ConcN.upd S.bl k true a then 0 else 1)+(if S.fJ then 0 else 1)<sumTo S.j (λa=>if S.bl a then 0 else 1)+(if S.fJ then 0 else 1);omega
 ·rw[w,Array.append_empty];have d:∀o,woken C.P g {g with status:=.blocked} S.w o=o:=λo=>I0 rfl;refine⟨by rw[<-h.size];exact kW,h.jn,h.iX,h.sh,h.rc,h.low,h.bu,h.tok,h.ur,h.mi,h.tw,h.a1,h.lone,h.wi,h.di,h.aU,h.br,h.iE,h.gR,h.oj,λa y=>?_,λi s A=>?_,?_,h.d0,h.ti,h.base⟩;(·by_cases hak:a=k;(·subst hak;exact⟨_,gQ e,.inr (.inr ⟨B,n,upd_same _ _ _,l,g,rfl,q⟩)⟩);·obtain⟨o,c,z⟩:=h.gS a y;refine⟨o,by rw[dv HU c,d],?_⟩;simp only[upd_ne _ _ hak];exact z);(·obtain⟨o,c,E⟩:=h.lv i s A;exact⟨o,by rw[dv HU c,d],E⟩);·obtain⟨D,F,j⟩:=h.ms;exact⟨D,by rw[dv HU F,d],j⟩
end
end Ph
