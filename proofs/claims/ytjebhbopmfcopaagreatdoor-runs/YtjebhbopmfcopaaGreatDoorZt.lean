/- Runs, a part. -/
import Derived.Test.YtjebhbopmfcopaaGreatDoorZs
namespace Go.Proofs.YtjebhbopmfcopaaGreatDoor
open Go.Proofs
noncomputable section
variable{a:Addr}{gs:B9}{own:Bool}{g g' o:Dm}{Fin:Dm->Prop}{B' i k m n nx':Nat}{tk':Nat->Nat->Prop}{O' O1:Nat->Prop}{o':Option Nat}{P:Program}{w w':DS}
namespace Ph
open Conc ConcN ConcM Kw
theorem fj{fn:FuncId}{pos:String}{a:Array Event}:∀op∈MemOp.ofEvents i fn pos a,op.g=i:=λop ah=>by obtain⟨e,_,rfl⟩:=de ah;rfl
structure TI(C:Cx)(j nx B:Nat)(T:Nat->Th)(O tk:Nat->Nat->Prop)(o:Option Nat)(t:Trace):Prop where
 lt:LT (eX C) (jL C) (jP C O tk) (iW C) (muA C) t (C.c0+j-1) o
 low:jg B t
 nt:gR t
 elem:∀i x a,touchAt t i=some x->x.loc=.cell a->a.block=C.Rc->a.off/8<nx
 old:∀i x g,touchAt t i=some x->t.g? i=some g->g<C.c0->Knows t 0 i\/jJ (eX C) t i x
 rel:∀k,k<j->(T k).gone=true->∃r,RelB (eX C) (dC C) t (C.c0+k) r
section
variable{C:Cx}{j nx B:Nat}{T:Nat->Th}{O tk:Nat->Nat->Prop}{o:Option Nat}{t:Trace}
theorem TI.app(h:TI C j nx B T O tk o t){j':Nat}{T':Nat->Th}{O':Nat->Nat->Prop}{u:Trace}(F:LT (eX C) (jL C) (jP C O' tk') (iW C) (muA C) (t++u) (C.c0+j'-1) o')(E:B<=B')(v:nx<=nx')(y:∀op∈u,∀x,op.act.touch?=some x->x.loc.low B')(z:gR u)(A:∀op∈u,∀x a,op.act.touch?=some x->x.loc=.cell a->a.block=C.Rc->a.off/8<nx')(hold:∀op∈u,op.g<C.c0->op.g=0\/op.act.touch?=none)(D:∀k,k<j'->(T' k).gone=true->∃r,RelB (eX C) (dC C) (t++u) (C.c0+k) r):TI C j' nx' B' T' O' tk' o' (t++u):=by refine⟨F,(h.low.mono E).app y,h.nt.app z,λi x a f m n=>?_,λi x g f w p=>?_,D⟩;(·obtain⟨op,c,b⟩:=touch_of f;rcases getElem?_append_cases c with⟨_,e⟩|⟨_,l⟩;(·exact Nat.lt_of_lt_of_le (h.elem i x a (by rw[touchAt_of e];exact b) m n) v);·exact A op l x a b m n);·obtain⟨op,c,b⟩:=touch_of f;(have q:op.g=g:=by simpa[Trace.g?,c]using w);rcases getElem?_append_cases c with⟨s,e⟩|⟨_,l⟩;(·exact(h.old i x g (by rw[touchAt_of e];exact b) (by simp[Trace.g?,e,q]) p).imp (·.app u) (λd=>d.app s u));·rcases hold op l (by rw[q];exact p)with h0|h0;(·have:=knows_own c;rw[h0]at this;exact .inl this);·rw[h0]at b;cases b
theorem uI{wr:Option Nat}{e:Event}(h:eR C O1 own wr e){x:Touch}(c:(MemAct.ofEvent e).touch?=some x):(∃a,x.loc=.cell a/\x.kind=.plain/\(O1 a.block\/(x.write=false/\Ro C a)\/(own=true/\Gd C a)\/(a.block=C.Rc/\wr=some (a.off/8))))\/∃b,x.loc=.obj b/\x.kind=.plain/\x.write=false/\O1 b:=by
 rcases h with h|⟨a,y,rfl,h⟩|⟨b,rfl,h⟩;·obtain⟨l,p,q⟩:=e;simp only at h;subst h;simp[MemAct.ofEvent,MemAct.touch?]at c
 ·simp[MemAct.ofEvent,MemAct.touch?]at c;subst c;exact .inl ⟨a,rfl,rfl,h⟩
 ·simp[MemAct.ofEvent,MemAct.touch?]at c;subst c;exact .inr ⟨b,rfl,rfl,rfl,h⟩
theorem rW{wr:Option Nat}{e:Event}(h:eR C O1 own wr e):e.loc≠.mark .disable/\e.loc≠.mark .enable/\∀a,e.loc≠.mark (.release a):=by
 rcases h with h|⟨a,y,rfl,_⟩|⟨b,rfl,_⟩;·rw[h];simp
 ·simp
 ·simp
theorem GA{wr:Option Nat}{b:Array Event}(h:∀e∈b,eR C O1 own wr e)(i:Nat)(fn:FuncId)(pos:String):gR (MemOp.ofEvents i fn pos b):=λop ah a e=>by obtain⟨x,c,rfl⟩:=de ah;exact(rW (h x c)).2.2 a (pj e)
theorem xZ{wr:Option Nat}{b:Array Event}(h:∀e∈b,eR C O1 own wr e)(i:Nat)(fn:FuncId)(pos:String)(t:Trace)(k:Nat):Deaf (t++MemOp.ofEvents i fn pos b) k=Deaf t k:=by by_cases hk:i=k;(·subst hk;rw[Deaf_own,deafBehind_still λe a=>⟨(rW (h e a)).1,(rW (h e a)).2.1⟩]);·exact Deaf_other t hk _ fj
theorem TI.work(v:Geo C)(h:TI C j nx B T O tk o t)(hk:k<j){wr:Option Nat}{G:Array Event}(w:∀e∈G,eR C O1 own wr e)(Y:B<=B')(a1:C.low<=B)(Z:∀b,O k b->O1 b)(J:∀b,O1 b->O k b\/(B<=b/\b<B'))(F:∀k b,O k b->C.low<=b/\b<B)(K:∀k k' b,O k b->O k' b->k=k')(hT:∀k k' m,tk k m->tk k' m->k=k')(V:own=true->o=some (C.c0+k))(M:∀m,wr=some m->tk k m/\m<nx)(X:(T k).gone=true->G=#[])(fn:FuncId)(pos:String):TI C j nx B' T (ConcN.upd O k O1) tk o (t++MemOp.ofEvents (C.c0+k) fn pos G):=by
 have g1:=v.cw;have g2:=v.rc;have g3:=v.c0;have H:∀b,O1 b->C.low<=b/\b<B':=λb n=>by rcases J b n with x|x;(·have:=F k b x;omega);·omega
 have s:∀a,(a=k/\ConcN.upd O k O1 a=O1)\/(a≠k/\ConcN.upd O k O1 a=O a):=dx O O1 k;have A:ApartL (eX C) (jL C) (jP C (ConcN.upd O k O1) tk) (iW C):=Fv v (λa b n=>by rcases s a with⟨_,e⟩|⟨_,e⟩<;>rw[e]at n;exact(H b n).1;exact(F a b n).1) (λa a' b h1 c=>by rcases s a with⟨p,e⟩|⟨na,e⟩<;>rcases s a' with⟨Q,E⟩|⟨a0,E⟩<;>rw[e]at h1<;>rw[E]at c;(·rw[p,Q]);(·rcases J b h1 with x|x;(·rw[p];exact K k a' b x c);·have:=F a' b c;omega);(·rcases J b c with x|x;(·rw[Q];exact K a k b h1 x);·have:=F a b h1;omega);·exact K a a' b h1 c) hT;have W:LT (eX C) (jL C) (jP C (ConcN.upd O k O1) tk) (iW C) (muA C) t (C.c0+j-1) o:=by refine C' h.lt ?_ ?_;(·rintro _ l⟨a,rfl,d⟩;refine⟨a,rfl,?_⟩;(have N:∀b,O a b->ConcN.upd O k O1 a b:=λb n=>by rcases s a with⟨p,e⟩|⟨_,e⟩<;>rw[e];(·exact Z b (p▸n));·exact n);rcases d with⟨x,e,d⟩|⟨b,e,d⟩;(·exact .inl ⟨x,e,d.imp (N _) id⟩);·exact .inr ⟨b,e,N _ d⟩);·rintro _ l _ _⟨a,rfl,d⟩;(have P:∀b,ConcN.upd O k O1 a b->O a b\/B<=b:=λb n=>by rcases s a with⟨p,e⟩|⟨_,e⟩<;>rw[e]at n;(·exact(J b n).imp (λx=>p▸x) (·.1));·exact .inl n);rcases d with⟨x,rfl,d⟩|⟨b,rfl,d⟩;(·rcases d with d|d;(·rcases P _ d with y|y;(·exact .inl ⟨a,rfl,.inl ⟨x,rfl,.inl y⟩⟩);·exact .inr (Un.perm (λi z L e=>by have h1:=h.low i z L;rw[e]at h1;exact absurd h1 (Nat.not_lt.2 y)) _));·exact .inl ⟨a,rfl,.inl ⟨x,rfl,.inr d⟩⟩);·rcases P _ d with y|y;(·exact .inl ⟨a,rfl,.inr ⟨b,rfl,y⟩⟩);·exact .inr (Un.perm (λi z L e=>by have h1:=h.low i z L;rw[e]at h1;exact absurd h1 (Nat.not_lt.2 y)) _)
 have R:ConcN.upd O k O1 k=O1:=upd_same _ _ _;have U:LT (eX C) (jL C) (jP C (ConcN.upd O k O1) tk) (iW C) (muA C) (t++MemOp.ofEvents (C.c0+k) fn pos G) (C.c0+j-1) o:=by refine W.appW A (k:=C.c0+k) (by omega) (by omega) λop ah=>?_;obtain⟨e,q,rfl⟩:=de ah;refine⟨rfl,λx=>(rW (w e q)).2.2 _ (pj x),λx u=>?_⟩;rcases uI (w e q) u with⟨a,e1,e2,f⟩|⟨b,e1,e2,e3,f⟩;(·rw[e1];rcases f with f|⟨h1,c⟩|⟨h1,c⟩|⟨h1,c⟩;(·exact .inr (.inl ⟨k,rfl,.inl ⟨a,rfl,.inl (by rw[R];exact f)⟩⟩));(·exact .inr (.inr (.inl ⟨⟨Nat.le_add_right _ _,a,rfl,c⟩,h1⟩)));(·exact .inr (.inr (.inr ⟨⟨a,rfl,c⟩,V h1⟩)));·exact .inr (.inl ⟨k,rfl,.inl ⟨a,rfl,.inr ⟨h1,(M _ c).1⟩⟩⟩));·rw[e1];exact .inr (.inl ⟨k,rfl,.inr ⟨b,rfl,by rw[R];exact f⟩⟩)
 refine h.app U Y (Nat.le_refl _) (λop ah x u=>?_) (GA w _ _ _) (λop ah x a u e D=>?_) (λop ah I=>?_) (λa S I=>?_);·obtain⟨e,q,rfl⟩:=de ah;rcases uI (w e q) u with⟨a,e1,_,f⟩|⟨b,e1,_,_,f⟩;(·rw[e1];rcases f with f|⟨_,c⟩|⟨_,c⟩|⟨h1,_⟩;(·exact(H _ f).2);(·have:=c.1;show a.block<B';omega);(·have:=c.1;show a.block<B';omega);·show a.block<B';omega);·rw[e1];exact(H _ f).2
 ·obtain⟨E,q,rfl⟩:=de ah;rcases uI (w E q) u with⟨a',e1,_,f⟩|⟨b,e1,_⟩;(·rw[e1]at e;cases e;rcases f with f|⟨_,c⟩|⟨_,c⟩|⟨_,c⟩;(·have:=H _ f;omega);(·exact absurd D c.2.2.1);(·exact absurd (c.1.symm.trans D) v.kO);·exact(M _ c).2);·rw[e1]at e;cases e
 ·obtain⟨e,_,rfl⟩:=de ah;simp only at I;omega
 ·obtain⟨r,D⟩:=h.rel a S I;by_cases hak:a=k;(·subst hak;rw[X I];refine⟨r,?_⟩;have:MemOp.ofEvents (C.c0+a) fn pos #[]=#[]:=rfl;rw[this,Array.append_empty];exact D);·exact⟨r,D.other (g:=C.c0+k) fj (by omega)⟩
theorem vB{e:Event}(h:Bk C e){x:Touch}(b:(MemAct.ofEvent e).touch?=some x):∃a,x.loc=.cell a/\fE C a/\x.kind=.atomic:=by
 rcases h with rfl|rfl|⟨a,y,rfl,h⟩;·cases b
 ·cases b
 ·simp[MemAct.ofEvent,MemAct.touch?]at b;subst b;exact⟨a,rfl,h,rfl⟩
theorem AD{e:Event}(h:Bk C e)(a:Addr):MemAct.ofEvent e≠.mark (.release a):=by intro x;have b:=pj x;rcases h with rfl|rfl|⟨a,y,rfl,h⟩<;>simp[mk]at b
theorem Hg(b:Geo C)(h:fE C a):a.block<C.low:=by rcases h with h|⟨h,_⟩;(·rw[h];exact b.wg);·rw[h];exact b.cw
theorem BK(b:Geo C)(h:fE C a):a.block≠C.Rc:=by rcases h with h|⟨h,_⟩;(·rw[h];exact b.j2);·rw[h];exact b.kO
structure jV(C:Cx)(B:Nat)(O tk:Nat->Nat->Prop):Prop where
 o:∀k b,O k b->C.low<=b/\b<B
 d:∀k k' b,O k b->O k' b->k=k'
 t:∀k k' m,tk k m->tk k' m->k=k'
theorem jV.apart(h:jV C B O tk)(a:Geo C):ApartL (eX C) (jL C) (jP C O tk) (iW C):=Fv a (λk b x=>(h.o k b x).1) h.d h.t
theorem TI.book(n:Geo C)(h:TI C j nx B T O tk o t)(v:jV C B O tk)(I:C.low<=B)(A:k<j){d e:Nat}{l:Array Event}(c:gQ C d e l)(s:Deaf t (C.c0+k)=d){T':Th}(E:T'.gone=true->(T k).gone=true)(fn:FuncId)(pos:String):TI C j nx B (ConcN.upd T k T') O tk o (t++MemOp.ofEvents (C.c0+k) fn pos l)/\Deaf (t++MemOp.ofEvents (C.c0+k) fn pos l) (C.c0+k)=e:=by
 have K:=n.c0;refine⟨?_,by rw[Deaf_own,s];exact c.2.1⟩;have w:=h.lt.appW (v.apart n) (k:=C.c0+k) (u:=MemOp.ofEvents (C.c0+k) fn pos l) (by omega) (by omega) λop ah=>by obtain⟨x,b,rfl⟩:=de ah;refine⟨rfl,AD (c.1 x b) _,λy f=>?_⟩;obtain⟨a,e1,e2,q⟩:=vB (c.1 x b) f;exact .inl ⟨.inr ⟨a,e1,e2⟩,by rw[q];simp,by rw[q];simp⟩
 refine h.app w (Nat.le_refl _) (Nat.le_refl _) (λop ah x b=>?_) (λop ah a=>?_) (λop ah x a b e1 m=>?_) (λop ah F=>?_) (λa D p=>?_);·obtain⟨y,f,rfl⟩:=de ah;obtain⟨a,e1,e2,_⟩:=vB (c.1 y f) b;rw[e1];have:=Hg n e2;show a.block<B;omega
 ·obtain⟨y,f,rfl⟩:=de ah;exact AD (c.1 y f) a
 ·obtain⟨y,f,rfl⟩:=de ah;obtain⟨a',e2,q,_⟩:=vB (c.1 y f) b;rw[e2]at e1;cases e1;exact absurd m (BK n q)
 ·obtain⟨y,_,rfl⟩:=de ah;simp only at F;omega
 ·rcases dx T T' k a with⟨G,e1⟩|⟨J,e1⟩;(·rw[e1]at p;obtain⟨r,m⟩:=h.rel k A (E p);refine⟨r,?_⟩;rw[G];refine m.Yj fn pos l λi x b=>?_;have H:=Array.mem_of_getElem? b;rcases c.2.2 i x b with h0|h0;(·exact .inl h0);·rcases c.1 x H with rfl|rfl|⟨a',y,rfl,z⟩;(·exact .inl rfl);(·exact .inl rfl);·exact .inr ⟨⟨a',y,rfl,.inr ⟨a',rfl,z⟩⟩,by rw[s];exact h0⟩);·rw[e1]at p;obtain⟨r,m⟩:=h.rel a D p;exact⟨r,m.other (g:=C.c0+k) fj (by omega)⟩
theorem G4(i:Nat)(fn:FuncId)(pos:String)(m:Mark):MemOp.ofEvents i fn pos #[mk m]=#[{g:=i,fn,pos,act:=.mark m}]:=by rw[ofEvents_eq];simp[mk,MemAct.ofEvent]
theorem TI.mark(h:TI C j nx B T O tk o t){m:Mark}(c:(MemAct.mark m).touch?=none)(d:∀a,m≠.release a){T':Nat->Th}(fn:FuncId)(pos:String)(f:LT (eX C) (jL C) (jP C O tk') (iW C) (muA C) (t++#[({g:=i,fn,pos,act:=.mark m}:MemOp)]) (C.c0+j-1) o')(l:nx<=nx')(n:∀k,k<j->(T' k).gone=true->∃r,RelB (eX C) (dC C) (t++#[({g:=i,fn,pos,act:=.mark m}:MemOp)]) (C.c0+k) r):TI C j nx' B T' O tk' o' (t++MemOp.ofEvents i fn pos #[Ph.mk m]):=by
 rw[G4];refine h.app f (Nat.le_refl _) l (λop ah x b=>?_) (λop ah a e=>?_) (λop ah x a b=>?_) (λop ah _=>.inr ?_) n;all_goals simp only[List.mem_toArray,List.mem_singleton]at ah;subst ah
 ·rw[c]at b;cases b
 ·simp at e;exact d a e
 ·rw[c]at b;cases b
 ·exact c
theorem BS(h:TI C j nx B T O tk o t){T':Nat->Th}(y:MemOp)(e:y.act.touch?=none)(d:∀k,k<j->(T' k).gone=true->(T k).gone=true):∀k,k<j->(T' k).gone=true->∃r,RelB (eX C) (dC C) (t++#[y]) (C.c0+k) r:=by intro k b f;obtain⟨r,g⟩:=h.rel k b (d k b f);refine⟨r,g.app λa x i _ l=>?_⟩;have c:=lt_of_touch (old_touch e l);exact absurd c (Nat.not_lt.2 i)
end
section
variable{C:Cx}{j nx B:Nat}{T:Nat->Th}{O tk:Nat->Nat->Prop}{o:Option Nat}{t:Trace}
theorem Hm{T':Th}(c:T'.gone=true->(T k).gone=true):∀a,a<j->(ConcN.upd T k T' a).gone=true->(T a).gone=true:=λa _ h=>by rcases dx T T' k a with⟨b,e⟩|⟨_,e⟩<;>rw[e]at h;(·rw[b];exact c h);·exact h
theorem TI.la(c:Geo C)(h:TI C j nx B T O tk none t)(u:jV C B O tk)(v:k<j)(n:Deaf t (C.c0+k)=0){T':Th}(o:T'.gone=false)(fn:FuncId)(pos:String)(p:nx<=nx')(q:∀a m,tk a m->tk' a m)(f:∀a m,tk' a m->tk a m\/nx<=m):TI C j nx' B (ConcN.upd T k T') O tk' (some (C.c0+k)) (t++MemOp.ofEvents (C.c0+k) fn pos #[Ph.mk (.acquire (muA C))]):=by have w:=c.c0;have l1:=h.lt.acquire (u.apart c) (z:={g:=C.c0+k,fn,pos,act:=.mark (.acquire (muA C))}) (by simp only;omega) rfl n;(have r:LT (eX C) (jL C) (jP C O tk') (iW C) (muA C) (t++#[({g:=C.c0+k,fn,pos,act:=.mark (.acquire (muA C))}:MemOp)]) (C.c0+j-1) (some (C.c0+k)):=by refine C' l1 ?_ ?_;(·rintro _ l⟨a,rfl,b⟩;refine⟨a,rfl,b.imp (λ⟨x,e,b⟩=>⟨x,e,b.imp id λb=>⟨b.1,q _ _ b.2⟩⟩) id⟩);·rintro _ l _ _⟨a,rfl,b⟩;rcases b with⟨x,rfl,b⟩|b;(·rcases b with b|⟨h1,s⟩;(·exact .inl ⟨a,rfl,.inl ⟨x,rfl,.inl b⟩⟩);·rcases f _ _ s with y|y;(·exact .inl ⟨a,rfl,.inl ⟨x,rfl,.inr ⟨h1,y⟩⟩⟩);·exact .inr (Un.perm (λi z d e=>by have:=h.elem i z x (old_touch rfl d) e h1;omega) _));·exact .inl ⟨a,rfl,.inr b⟩);exact h.mark (by rfl) (by simp) fn pos r p (BS h _ rfl (Hm (by rw[o];simp)))
theorem TI.ur(b:Geo C)(h:TI C j nx B T O tk (some (C.c0+k)) t)(c:jV C B O tk)(d:Deaf t (C.c0+k)=0){T':Th}(a:T'.gone=false)(fn:FuncId)(pos:String):TI C j nx B (ConcN.upd T k T') O tk none (t++MemOp.ofEvents (C.c0+k) fn pos #[Ph.mk (.releaseMerge (muA C))]):=h.mark (by rfl) (by simp) fn pos (h.lt.release (c.apart b) (y:={g:=C.c0+k,fn,pos,act:=.mark (.releaseMerge (muA C))}) rfl rfl d) (Nat.le_refl _) (BS h _ rfl (Hm (by rw[a];simp)))
theorem TI.wr(f:Geo C)(h:TI C j nx B T O tk o t)(d:jV C B O tk)(n:k<j)(i:Deaf t (C.c0+k)=0){T':Th}(fn:FuncId)(pos:String):TI C j nx B (ConcN.upd T k T') O tk o (t++MemOp.ofEvents (C.c0+k) fn pos #[Ph.mk (.releaseMerge (dC C))]):=by refine h.mark (by rfl) (by simp) fn pos (h.lt.still (d.apart f) (z:={g:=C.c0+k,fn,pos,act:=.mark (.releaseMerge (dC C))}) (by simp only;omega) rfl (by simp)) (Nat.le_refl _) λa l b=>?_;rcases dx T T' k a with⟨m,e⟩|⟨p,e⟩;(·rw[m];exact⟨_,RelB.new i rfl rfl⟩);·rw[e]at b;obtain⟨r,c⟩:=h.rel a l b;refine⟨r,c.other (g:=C.c0+k) (λop ah=>?_) (by omega)⟩;simp only[List.mem_toArray,List.mem_singleton]at ah;subst ah;rfl
theorem TI.main(q:Geo C)(h:TI C j nx B T O tk o t)(y:jV C B O tk)(G:C.low<=B){l:Array Event}(n:∀e∈l,eR C gS false none e)(fn:FuncId)(pos:String):TI C j nx B T O tk o (t++MemOp.ofEvents 0 fn pos l):=by
 have F:=q.c0;have A:=y.apart q;have ro:∀e∈l,∀x,(MemAct.ofEvent e).touch?=some x->∃a,x.loc=.cell a/\x.write=false/\Ro C a:=λe d x f=>by rcases uI (n e d) f with⟨a,e1,_,c⟩|⟨b,_,_,_,c⟩;(·rcases c with c|c|⟨c,_⟩|⟨_,c⟩;(·exact c.elim);(·exact⟨a,e1,c.1,c.2⟩);(·cases c);·cases c);·exact c.elim
 have w:=h.lt.app0 A (u:=MemOp.ofEvents 0 fn pos l) λop ah=>by obtain⟨e,d,rfl⟩:=de ah;refine⟨rfl,λx=>(rW (n e d)).2.2 _ (pj x),λx f=>?_⟩;obtain⟨a,e1,e2,i⟩:=ro e d x f;have m:iW C C.c0 x.loc:=⟨Nat.le_refl _,a,e1,i⟩;exact .inr (.inl ⟨A.base.rdSh _ _ m,A.prRd _ _ m,λk _ _ z=>A.base.ownRd _ _ _ z m,λs=>by rw[e2]at s;cases s⟩)
 refine h.app w (Nat.le_refl _) (Nat.le_refl _) (λop ah x f=>?_) (GA n _ _ _) (λop ah x a f e p=>?_) (λop ah _=>.inl (fj op ah)) (λa D E=>?_);·obtain⟨e,d,rfl⟩:=de ah;obtain⟨a,e1,_,i⟩:=ro e d x f;rw[e1];have:=i.1;show a.block<B;omega
 ·obtain⟨v,d,rfl⟩:=de ah;obtain⟨a',e1,_,i⟩:=ro v d x f;rw[e1]at e;cases e;exact absurd p i.2.2.1
 ·obtain⟨r,p⟩:=h.rel a D E;exact⟨r,p.other (g:=0) fj (by omega)⟩
theorem TI.Tv(f:Geo C)(h:TI C j nx B T O tk o t)(p:jV C B O tk)(v:C.low<=B){k:Array Event}(c:∀e∈k,(∀a,MemAct.ofEvent e≠.mark (.release a))/\∀x,(MemAct.ofEvent e).touch?=some x->∃a,x.loc=.cell a/\fE C a/\x.kind≠.plain)(fn:FuncId)(pos:String):TI C j nx B T O tk o (t++MemOp.ofEvents 0 fn pos k):=by
 have w:=f.c0;have m:=h.lt.app0 (p.apart f) (u:=MemOp.ofEvents 0 fn pos k) λop ah=>by obtain⟨e,b,rfl⟩:=de ah;refine⟨rfl,(c e b).1 _,λx d=>?_⟩;obtain⟨a,e1,e2,q⟩:=(c e b).2 x d;exact .inl ⟨.inr ⟨a,e1,e2⟩,q⟩
 refine h.app m (Nat.le_refl _) (Nat.le_refl _) (λop ah x d=>?_) (λop ah a=>?_) (λop ah x a d e i=>?_) (λop ah _=>.inl (fj op ah)) (λa n s=>?_);·obtain⟨e,b,rfl⟩:=de ah;obtain⟨a,e1,e2,_⟩:=(c e b).2 x d;rw[e1];have:=Hg f e2;show a.block<B;omega
 ·obtain⟨e,b,rfl⟩:=de ah;exact(c e b).1 a
 ·obtain⟨l,b,rfl⟩:=de ah;obtain⟨a',e1,e2,_⟩:=(c l b).2 x d;rw[e1]at e;cases e;exact absurd i (BK f e2)
 ·obtain⟨r,i⟩:=h.rel a n s;exact⟨r,i.other (g:=0) fj (by omega)⟩
theorem SK{M j:Mt}{i:Array Event}(h:mR C M j i):(∀e∈i,(∀a,MemAct.ofEvent e≠.mark (.release a))/\∀x,(MemAct.ofEvent e).touch?=some x->∃a,x.loc=.cell a/\fE C a/\x.kind≠.plain)/\deafBehind (cM M) i=(if M.pc=.mr\/M.pc=.ww then cM M else cM j):=by
 have f:∀m,(m=Mark.read (eI C)\/m=Mark.write (eI C))->(∀e∈#[Ph.mk m],(∀a,MemAct.ofEvent e≠.mark (.release a))/\∀x,(MemAct.ofEvent e).touch?=some x->∃a,x.loc=.cell a/\fE C a/\x.kind≠.plain)/\∀d,deafBehind d #[Ph.mk m]=d:=by rintro m(rfl|rfl);(·refine⟨λe b=>?_,λd=>rfl⟩;simp only[List.mem_toArray,List.mem_singleton]at b;subst b;refine⟨λa=>by simp[mk,MemAct.ofEvent],λx c=>?_⟩;simp[mk,MemAct.ofEvent,MemAct.touch?]at c;subst c;exact⟨eI C,rfl,.inl rfl,by simp⟩);·refine⟨λe b=>?_,λd=>rfl⟩;simp only[List.mem_toArray,List.mem_singleton]at b;subst b;refine⟨λa=>by simp[mk,MemAct.ofEvent],λx c=>?_⟩;simp[mk,MemAct.ofEvent,MemAct.touch?]at c;subst c;exact⟨eI C,rfl,.inl rfl,by simp⟩
 unfold mR at h;split at h;·rename_i g;subst h;exact⟨(f _ (.inl rfl)).1,by rw[if_pos (.inl g)];exact(f _ (.inl rfl)).2 _⟩
 ·rename_i g;subst h;exact⟨(f _ (.inr rfl)).1,by rw[if_pos (.inr g)];exact(f _ (.inr rfl)).2 _⟩
 ·rename_i h1 l;refine⟨λe b=>⟨AD (h.1 e b),λx c=>?_⟩,?_⟩;(·obtain⟨a,e1,e2,k⟩:=vB (h.1 e b) c;exact⟨a,e1,e2,by rw[k];simp⟩);·rw[if_neg (λx=>x.elim h1 l)];exact h.2.1
theorem TI.gq(h:TI C j nx B T O tk o t)(A:ApartL (eX C) (jL C) (jP C O tk) (iW C))(q:1<=i)(y:i<=C.c0+j-1){d:Array Event}(l:∀e∈d,e.mute=true)(fn:FuncId)(pos:String):TI C j nx B T O tk o (t++MemOp.ofEvents i fn pos d):=by
 have c:∀op∈MemOp.ofEvents i fn pos d,op.act.touch?=none:=λop ah=>by obtain⟨e,f,rfl⟩:=de ah;exact touch_mute (l e f)
 have g:gR (MemOp.ofEvents i fn pos d):=λop ah a=>by obtain⟨e,f,rfl⟩:=de ah;exact Hf (l e f) a
 have p:=h.lt.appW A (k:=i) (u:=MemOp.ofEvents i fn pos d) q y λop ah=>⟨fj op ah,g op ah _,λx b=>by rw[c op ah]at b;cases b⟩;refine h.app p (Nat.le_refl _) (Nat.le_refl _) (λop ah x b=>(by rw[c op ah]at b;cases b)) g (λop ah x a b=>(by rw[c op ah]at b;cases b)) (λop ah _=>.inr (c op ah)) (λa s v=>?_);obtain⟨r,w⟩:=h.rel a s v;refine⟨r,w.app λk x D _ b=>?_⟩;obtain⟨op,z,m⟩:=touch_of b;rcases getElem?_append_cases z with⟨E,_⟩|⟨_,n⟩;·omega
 ·rw[c op n]at m;cases m
theorem TI.fork(i:Geo C)(h:TI C j nx B T O tk o t)(u:jV C B O tk)(h0:Deaf t 0=0){T':Th}(s:T'.gone=false)(fn f:FuncId)(pos:String):TI C (j+1) nx B (ConcN.upd T j T') O tk o (t++#[({g:=0,fn,pos,act:=.go (C.c0+j)}:MemOp),{g:=C.c0+j,fn:=f,pos,act:=.start}]):=by
 have v:=i.c0;have e:C.c0+j-1+1=C.c0+j:=by omega
 have l:=h.lt.fork (u.apart i) (x:={g:=0,fn,pos,act:=.go (C.c0+j)}) (y:={g:=C.c0+j,fn:=f,pos,act:=.start}) ⟨rfl,by rw[e]⟩ ⟨by rw[e],rfl⟩ h0;rw[e]at l;have c:∀op∈#[({g:=0,fn,pos,act:=.go (C.c0+j)}:MemOp),{g:=C.c0+j,fn:=f,pos,act:=.start}],op.act.touch?=none/\(∀a,op.act≠.mark (.release a)):=λop ah=>by simp only[List.mem_toArray,List.mem_cons,List.not_mem_nil,or_false]at ah;rcases ah with rfl|rfl;(·exact⟨rfl,λa=>by simp⟩);·exact⟨rfl,λa=>by simp⟩
 refine h.app (j':=j+1) l (Nat.le_refl _) (Nat.le_refl _) (λop ah x b=>(by rw[(c op ah).1]at b;cases b)) (λop ah a=>(c op ah).2 a) (λop ah x a b=>(by rw[(c op ah).1]at b;cases b)) (λop ah _=>.inr (c op ah).1) (λa w d=>?_);rcases dx T T' j a with⟨A,e1⟩|⟨D,e1⟩<;>rw[e1]at d;·rw[s]at d;cases d
 ·obtain⟨r,q⟩:=h.rel a (by omega) d;refine⟨r,q.app λk x z _ b=>?_⟩;obtain⟨op,p,m⟩:=touch_of b;rcases getElem?_append_cases p with⟨E,_⟩|⟨_,n⟩;(·omega);·rw[(c op n).1]at m;cases m
theorem xq{t:Trace}(fn a:FuncId)(pos:String):Deaf (t++#[({g:=0,fn,pos,act:=.go m}:MemOp),{g:=m,fn:=a,pos,act:=.start}]) i=Deaf t i:=by have:=Deaf_append t i [({g:=0,fn,pos,act:=.go m}:MemOp),{g:=m,fn:=a,pos,act:=.start}];simpa[deafStep]using this
end
def jh:Nat->Tr|0=>.leaf|n+1=>.node λ_=>jh n
section
variable(C:Cx)(At:Th->GC->(Nat->Prop)->Dm->DS->Prop)(MAt:Mt->Dm->DS->Prop)
abbrev uN(T:Th)(y:GC)(tr:Tr)(O:Nat->Prop)(g:Dm)(w:DS):Prop:=j9 C false T.own T.gone T.af T.wr (At T y) tr O g w
def GoM(M:Mt)(tr:Tr)(g:Dm)(w:DS):Prop:=∃n,tr=jh n/\ib C MAt M n g w
def eT(bl:Bool)(T:Th)(y:GC)(tr:Tr)(O:Nat->Prop)(g:Dm)(w:DS)(s:Sh)(q d:Nat):Prop:=(T.pc=.quit/\QuitsD C.P q d g)\/(T.pc≠.quit/\d=aL T/\bl=false/\uN C At T y tr O g w)\/(T.pc=.s1/\d=aL T/\bl=true/\s.ms=0/\∃b,g={b with status:=.blocked}/\∀a,Rl C O T.own T.af w a->At T y O b a)
def tS(bl:Bool)(M:Mt)(tr:Tr)(g:Dm)(w:DS)(s:Sh):Prop:=(bl=false/\GoM C MAt M tr g w)\/(M.pc=.w3/\bl=true/\s.ws=0/\tr=.leaf/\∃b,g={b with status:=.blocked}/\∀a,Rl C gS false none w a->MAt M b a)
structure St where
 j:Nat
 gs:B9
 w:DS
 M:Mt
 T:Nat->Th
 ys:Nat->GC
 D:GC
 s:Sh
 g0:CL
 O:Nat->Nat->Prop
 tk:Nat->Nat->Prop
 tr:Nat->Tr
 gV:Tr
 bl:Nat->Bool
 fI:Bool
 q:Nat->Nat
 o:Option Nat
structure PI(S:St)(t:Trace):Prop where
 size:S.gs.size=C.c0+S.j
 jn:S.j<=C.n
 iS:S.M.i=S.j
 sh:ShAt C S.w S.s S.g0
 rc:∃cs,kZ C S.w cs
 low:C.low<=S.w.heap.size
 bD:S.o=none->S.g0=fR S.D
 tok:∀i,S.o=some i->∃k,i=C.c0+k/\k<S.j/\(S.T k).pc=.ur
 ur:∀k,k<S.j->(S.T k).pc=.ur->S.o=some (C.c0+k)/\S.ys k=S.D
 mi:eV S.j S.T S.s
 tw:∀k,k<S.j->TW (S.T k)
 a1:∀k,k<S.j->(S.T k).pc=.a1->(S.T k).ex=false->2<=S.s.word.w
 lone:S.s.word.lone->∃k,k<S.j/\(S.T k).pc=.uc/\(S.T k).old=S.s.word
 wi:gH C.n S.j S.M S.T S.s
 di:DI C S.D S.j S.T
 cm:∀m,m<S.D.n->(∃k,k<S.j/\(S.T k).af=some m/\hold (S.T k))\/hH C m S.w
 bB:jV C S.w.heap.size S.O S.tk
 iF:∀k m,S.tk k m->m<S.D.n
 gI:∀k,k<S.j->∀m,(S.T k).af=some m->S.tk k m
 oj:∀k b,S.O k b->k<S.j
 gE:∀k,k<S.j->∃g,S.gs[C.c0+k]?=some g/\eT C At (S.bl k) (S.T k) (S.ys k) (S.tr k) (S.O k) g S.w S.s (S.q (C.c0+k)) (Deaf t (C.c0+k))
 lv:∀i,0<i->i<C.c0->∃g,S.gs[i]?=some g/\QuitsD C.P (S.q i) (Deaf t i) g
 ms:∃g,S.gs[0]?=some g/\tS C MAt S.fI S.M S.gV g S.w S.s
 d0:Deaf t 0=cM S.M
 ti:TI C S.j S.D.n S.w.heap.size S.T S.O S.tk S.o t
 base:Rl C gS false none C.w0 S.w
def St.A(S:St):Nat:=sumTo S.j (λk=>phi (S.T k)+if(S.T k).pc=.quit then S.q (C.c0+k)else C.qb)+10*S.s.ms+S.s.ws+100*(C.N-S.D.n)+(70+C.qb)*(C.n-S.j)+eC S.M.pc+sumTo C.c0 S.q
def St.X(S:St):List Xm:=(nz S.M S.s,S.gV)::(List.range S.j).map λk=>(dW (S.T k) S.s.word,S.tr k)
def St.B(S:St):Nat:=sumTo S.j (λk=>if S.bl k then 0 else 1)+if S.fI then 0 else 1
def St.meas(S:St):Ms:=(S.A C,S.X,S.B)
end
section
variable{C:Cx}{At:Th->GC->(Nat->Prop)->Dm->DS->Prop}{MAt:Mt->Dm->DS->Prop}
variable{bl:Bool}{T:Th}{y:GC}{tr:Tr}{O:Nat->Prop}{g x x':Dm}{w w':DS}{s s':Sh}{q d:Nat}{M:Mt}
theorem JM(b:g.status=.running)(a:g.offers=none)(w:DS):({g with status:=.blocked}:Dm).again w=g:=by obtain⟨fr,cs,st,c,off⟩:=g;simp only at b a;subst b a;rfl
theorem eT.other(m:∀T y O g w,At T y O g w->jv C At T y O g w)(h:eT C At bl T y tr O g w s q d)(r:Rl C O T.own T.af w w')(z:s.ms=0->s'.ms=0\/(mayWake C.P x=true/\x'.status=.running)):∃v,eT C At v T y tr O (woken C.P x x' w' g) w' s' q d:=by
 rcases h with⟨h1,a⟩|⟨h1,a,u,k⟩|⟨h1,a,u,k,c,rfl,j⟩;·exact⟨bl,.inl ⟨h1,by rw[woken_quitsD a];exact a⟩⟩
 ·have t:=k.running (λ_ _ _ p=>(m _ _ _ _ _ p).run);refine⟨false,.inr (.inl ⟨h1,a,rfl,?_⟩)⟩;rw[woken_run t];exact k.rely r
 ·have n:=m _ _ _ _ _ (j w (Rl.refl _ _ _ _));by_cases hc:(mayWake C.P x&&x'.status !=.blocked&&x'.status !=.waiting)=true;(·refine⟨false,.inr (.inl ⟨by rw[h1];simp,a,rfl,?_⟩)⟩;(have e:woken C.P x x' w' {c with status:=.blocked}=c:=by unfold woken;rw[if_pos hc];exact JM n.run n.off _);rw[e];cases tr with|leaf=>exactλb i=>j b (r.trans i)|node f=>exact .inl λb i=>j b (r.trans i));·(have e:woken C.P x x' w' {c with status:=.blocked}={c with status:=.blocked}:=by unfold woken;rw[if_neg hc]);rw[e];rcases z k with l|⟨l,o⟩;(·exact⟨true,.inr (.inr ⟨h1,a,rfl,l,c,rfl,λb i=>j b (r.trans i)⟩)⟩);·exact absurd (by simp[l,o]) hc
theorem Db{x x':Dm}(h:x'.status=.blocked):woken C.P x x' w o=o:=by unfold woken;simp[h]
theorem ib.rely(h:ib C MAt M n g w)(r:Rl C gS false none w w'):ib C MAt M n g w':=let⟨b,h1,c⟩:=h;⟨b,h1,λd a=>c d (r.trans a)⟩
theorem ib.running(b:∀M g w,MAt M g w->jk C At MAt Fin M g w)(h:ib C MAt M n g w):g.status=.running:=by obtain⟨d,h1,c⟩:=h;cases n with|zero=>cases h1;exact(b _ _ _ (c w (Rl.refl _ _ _ _))).run|succ n=>obtain⟨_,a,_⟩:=h1;exact a.1
theorem tS.other(j:∀M g w,MAt M g w->jk C At MAt Fin M g w)(h:tS C MAt bl M tr g w s)(r:Rl C gS false none w w')(o:s.ws=0->s'.ws=0\/(mayWake C.P x=true/\x'.status=.running)):∃l,tS C MAt l M tr (woken C.P x x' w' g) w' s':=by rcases h with⟨m,n,e,b⟩|⟨h1,m,b,e,a,rfl,d⟩;(·refine⟨false,.inl ⟨rfl,n,e,?_⟩⟩;rw[woken_run (b.running j)];exact b.rely r);·have k:=j _ _ _ (d w (Rl.refl _ _ _ _));by_cases hc:(mayWake C.P x&&x'.status !=.blocked&&x'.status !=.waiting)=true;(·refine⟨false,.inl ⟨rfl,0,e,?_⟩⟩;(have e:woken C.P x x' w' {a with status:=.blocked}=a:=by unfold woken;rw[if_pos hc];exact JM k.run k.off _);rw[e];exact⟨a,rfl,λc f=>d c (r.trans f)⟩);·(have e2:woken C.P x x' w' {a with status:=.blocked}={a with status:=.blocked}:=by unfold woken;rw[if_neg hc]);rw[e2];rcases o b with i|⟨i,p⟩;(·exact⟨true,.inr ⟨h1,rfl,i,e,a,rfl,λc f=>d c (r.trans f)⟩⟩);·exact absurd (by simp[i,p]) hc
def put(P:Program)(gs:B9)(i:Nat)(g g':Dm)(w':DS):B9:=(gs.map (woken P g g' w')).setIfInBounds i g'
theorem lh:(put P gs i g g' w').size=gs.size:=by simp[put]
theorem gD(h:gs[i]?=some g):(put P gs i g g' w')[i]?=some g':=by have a:=(Array.getElem?_eq_some_iff.1 h).1;unfold put;rw[Array.getElem?_setIfInBounds_self_of_lt (by simpa using a)]
theorem du{a:Nat}(h:a≠i)(b:gs[a]?=some o):(put P gs i g g' w')[a]?=some (woken P g g' w' o):=by unfold put;rw[Array.getElem?_setIfInBounds_ne (Ne.symm h),Array.getElem?_map,b];rfl
theorem Ej{S:St}(a:k<S.j):S.X[k+1]?=some (dW (S.T k) S.s.word,S.tr k):=by simp[St.X,a]
end
section
variable{C:Cx}{At:Th->GC->(Nat->Prop)->Dm->DS->Prop}{MAt:Mt->Dm->DS->Prop}{Fin:Dm->Prop}{S:St}{t:Trace}{sl:B3}
def ki(C:Cx)(At:Th->GC->(Nat->Prop)->Dm->DS->Prop)(MAt:Mt->Dm->DS->Prop)(S:St)(t:Trace)(sl:B3)(i:Nat):Prop:=∃a ops,runT C.P (crowd S.gs S.w sl) i=(.next (crowd a.gs a.w sl),ops)/\yB (a.meas C) (S.meas C)/\PI C At MAt a (t++ops)
theorem PI.at(h:PI C At MAt S t)(d:Nat):PI C At MAt {S with w:=S.w.at d} t:=by refine⟨h.size,h.jn,h.iS,h.sh,h.rc,h.low,h.bD,h.tok,h.ur,h.mi,h.tw,h.a1,h.lone,h.wi,h.di,h.cm,h.bB,h.iF,h.gI,h.oj,λk q=>?_,h.lv,?_,h.d0,h.ti,h.base.trans (Rl.at _ _ _ _ d)⟩;(·obtain⟨g,j,c⟩:=h.gE k q;refine⟨g,j,?_⟩;rcases c with c|⟨h1,i,a,b⟩|⟨h1,i,a,b,m,l,o⟩;(·exact .inl c);(·exact .inr (.inl ⟨h1,i,a,b.rely (Rl.at _ _ _ _ d)⟩));·exact .inr (.inr ⟨h1,i,a,b,m,l,λp f=>o p ((Rl.at _ _ _ _ d).trans f)⟩));·obtain⟨g,j,c⟩:=h.ms;refine⟨g,j,?_⟩;rcases c with⟨a,n,e,b⟩|⟨h1,a,b,e,m,l,o⟩;(·exact .inl ⟨a,n,e,b.rely (Rl.at _ _ _ _ d)⟩);·exact .inr ⟨h1,a,b,e,m,l,λp f=>o p ((Rl.at _ _ _ _ d).trans f)⟩
theorem PI.ok(a:Geo C)(h:PI C At MAt S t):S.s.ok:=uK h.mi h.wi h.jn a.oQ
theorem PI.ag9(h:PI C At MAt S t){k':Nat}(d:k<S.j)(f:k'<S.j)(i:k'≠k)(g:(S.T k).own=true):(S.T k').own=false:=by cases e:(S.T k').own;(·rfl);·have h1:(S.T k).pc=.ur:=of_decide_eq_true g;have c:(S.T k').pc=.ur:=of_decide_eq_true e;have a:=(h.ur k d h1).1;have b:=(h.ur k' f c).1;rw[a]at b;have:=Option.some.inj b;omega
theorem zL{T:Th}(h:T.wr=some m):T.af=some m/\T.pc=.ld/\T.ct=true:=by unfold Th.wr at h;split at h;(·rename_i a;exact⟨h,a⟩);·cases h
theorem P6(E:Geo C)(q:∀T y O g w,At T y O g w->jv C At T y O g w)(h:PI C At MAt S t)(D:k<S.j){U:Array Event}(I:Dn C (S.O k) O' (S.T k).own (S.T k).gone (S.T k).wr S.w w' U):∃K:Nat->Bool,∀a,a<S.j->a≠k->∀o,S.gs[C.c0+a]?=some o->∀d,eT C At (S.bl a) (S.T a) (S.ys a) (S.tr a) (S.O a) o S.w S.s (S.q (C.c0+a)) d->eT C At (K a) (S.T a) (S.ys a) (S.tr a) (S.O a) (woken C.P g g' w' o) w' S.s (S.q (C.c0+a)) d:=by obtain⟨cs,L⟩:=h.rc;(have N:∀a,∃b:Bool,a<S.j->a≠k->∀o,S.gs[C.c0+a]?=some o->∀d,eT C At (S.bl a) (S.T a) (S.ys a) (S.tr a) (S.O a) o S.w S.s (S.q (C.c0+a)) d->eT C At b (S.T a) (S.ys a) (S.tr a) (S.O a) (woken C.P g g' w' o) w' S.s (S.q (C.c0+a)) d:=by intro a;by_cases hc:∃o d,a<S.j/\a≠k/\S.gs[C.c0+a]?=some o/\eT C At (S.bl a) (S.T a) (S.ys a) (S.tr a) (S.O a) o S.w S.s (S.q (C.c0+a)) d;(·obtain⟨o,d,f,l,j,z⟩:=hc;have r:Rl C (S.O a) (S.T a).own (S.T a).af S.w w':=DU E h.sh (h.ok E) L I h.low (λb c=>(h.bB.o k b c).1) (λb c=>⟨(h.bB.o a b c).2,λx=>l (h.bB.d a k b c x),(h.bB.o a b c).1⟩) (λj=>h.ag9 D f l j) (λm P R=>l (h.di.bB a k f D m P (zL R).1));obtain⟨b,c⟩:=z.other q (x:=g) (x':=g') r (s':=S.s) (λe=>.inl e);refine⟨b,λ_ _ o' A V H=>?_⟩;rw[j]at A;cases A;obtain⟨b',n⟩:=H.other q (x:=g) (x':=g') r (s':=S.s) (λe=>.inl e);rcases c with c|⟨h1,J,u,F⟩|⟨h1,J,u,F,M⟩<;>rcases n with n|⟨i,v,Q,s⟩|⟨i,v,Q,s,B⟩;(·exact .inl n);(·exact absurd c.1 i);(·rw[c.1]at i;cases i);(·exact absurd n.1 h1);(·exact .inr (.inl ⟨i,v,u,s⟩));(·have p:=F.running (λ_ _ _ f=>(q _ _ _ _ _ f).run);obtain⟨G,e,_⟩:=B;rw[e]at p;cases p);(·rw[n.1]at h1;cases h1);(·have p:=s.running (λ_ _ _ f=>(q _ _ _ _ _ f).run);obtain⟨G,e,_⟩:=M;rw[e]at p;cases p);·exact .inr (.inr ⟨i,v,u,s,B⟩));·exact⟨false,λf l o j d z=>absurd ⟨o,d,f,l,j,z⟩ hc⟩);exact Classical.skolem.1 N
theorem Cv{α b:Type}(j k:Nat)(f:Nat->b->α)(tr:Nat->b)(x:b):(List.range j).map (λa=>f a (ConcN.upd tr k x a))=((List.range j).map λa=>f a (tr a)).set k (f k x):=by apply List.ext_getElem?;intro a;rw[List.getElem?_set];by_cases hj:a<j;(·by_cases ha:k=a;(·subst ha;simp[hj,ConcN.upd]);·simp[hj,ha,ConcN.upd,Ne.symm ha]);·(have e1:(List.range j)[a]?=none:=by simp;omega);by_cases ha:k=a;(·subst ha;simp[hj]);·simp[e1,ha]
theorem PI.work(j:Geo C)(a2:∀T y O g w,At T y O g w->jv C At T y O g w)(hM:∀M g w,MAt M g w->jk C At MAt Fin M g w)(h:PI C At MAt S t)(l:k<S.j)(D:S.gs[C.c0+k]?=some g){f:DS->Tr}(N:S.tr k=.node f)(hq:(S.T k).pc≠.quit)(a1:Deaf t (C.c0+k)=aL (S.T k)){J:Array Event}(hs:stepG C.P false g S.w=.go g' w' J)(d:Dn C (S.O k) O' (S.T k).own (S.T k).gone (S.T k).wr S.w w' J)(a4:uN C At (S.T k) (S.ys k) (f S.w) O' g' w'):ki C At MAt S t sl (C.c0+k):=by
 have g1:=j.cw;have g2:=j.wg;have g3:=j.rc;have g4:=j.c0;have h1:=h.low;obtain⟨cs,v⟩:=h.rc;obtain⟨E,R,X⟩:=d.ot _ _ _ h.sh.1;obtain⟨Z,F,a3⟩:=d.aI _ v;have a6:(C.c0+k==0)=false:=by simp;omega
 have a5:=runT_crowd_go (P:=C.P) (sl:=sl) D (show stepG C.P (C.c0+k==0) g S.w=_ by rw[a6];exact hs);have Q:WgAt C w' S.s.cnt S.s.wt S.s.ws:=(d.keep C.Wg (by omega) (λx=>by have:=(h.bB.o k _ x).1;omega) (Ne.symm j.Ay) j.j2).trans h.sh.2;obtain⟨G,U⟩:=P6 j a2 h l (g:=g) (g':=g') d;obtain⟨gm,V,W⟩:=h.ms;have H:Rl C gS false none S.w w':=DU j h.sh (h.ok j) v d h.low (λb c=>(h.bB.o k b c).1) (λb c=>c.elim) (λ_=>rfl) (λm p=>(by cases p));obtain⟨B,a0⟩:=W.other hM (x:=g) (x':=g') H (s':=S.s) (λe=>.inl e);have r:∀b,O' b->S.O k b\/(S.w.heap.size<=b/\b<w'.heap.size):=λb c=>(d.grow b).1 c;refine⟨{S with gs:=put C.P S.gs (C.c0+k) g g' w',w:=w',g0:=E,O:=ConcN.upd S.O k O',tr:=ConcN.upd S.tr k (f S.w),bl:=ConcN.upd G k false,fI:=B},_,a5,?_,?_⟩;·refine .right _ (.left _ _ ?_);(have e:(St.X {S with gs:=put C.P S.gs (C.c0+k) g g' w',w:=w',g0:=E,O:=ConcN.upd S.O k O',tr:=ConcN.upd S.tr k (f S.w),bl:=ConcN.upd G k false,fI:=B})=S.X.set (k+1) (dW (S.T k) S.s.word,f S.w):=by simp only[St.X,List.set_cons_succ];rw[Cv S.j k (λa x=>(dW (S.T a) S.s.word,x)) S.tr (f S.w)]);rw[e];refine ye (Ej l) (.right _ ?_);rw[N];exact .mk f S.w
 ·have u:∀a,(a=k/\ConcN.upd S.O k O' a=O')\/(a≠k/\ConcN.upd S.O k O' a=S.O a):=dx S.O O' k;refine⟨by rw[<-h.size];exact lh,h.jn,h.iS,⟨R,Q⟩,⟨Z,F⟩,Nat.le_trans h.low d.size,λn=>?_,h.tok,h.ur,h.mi,h.tw,h.a1,h.lone,h.wi,h.di,λm p=>?_,?_,h.iF,h.gI,λa b c=>?_,λa I=>?_,λi z Y=>?_,⟨_,du (by omega) V,a0⟩,?_,?_,h.base.trans H⟩;(·(have:(S.T k).own=false:=by cases e:(S.T k).own;(·rfl);·have:=(h.ur k l (of_decide_eq_true e)).1;rw[show S.o=none from n]at this;cases this);rw[X this];exact h.bD n);(·by_cases hh:∃a,a<S.j/\(S.T a).af=some m/\hold (S.T a);(·exact .inl hh);·right;have hr:=(h.cm m p).resolve_left hh;intro i z;rw[<-hr i z];(have e:(S.T k).wr≠some ((8*m+i)/8):=by(have:(8*m+i)/8=m:=by omega);rw[this];intro hw;obtain⟨w1,w2,w3⟩:=zL hw;exact hh ⟨k,l,w1,.inr w2⟩);simp only[World.cell?,F.1,v.1];exact a3 _ e);(·refine⟨λa b c=>?_,λa a' b c q=>?_,h.bB.t⟩;(·rcases u a with⟨_,e⟩|⟨_,e⟩<;>simp only[e]at c;(·rcases r b c with x|x;(·have:=h.bB.o k b x;exact⟨this.1,Nat.lt_of_lt_of_le this.2 d.size⟩);·exact⟨Nat.le_trans h.low x.1,x.2⟩);·have:=h.bB.o a b c;exact⟨this.1,Nat.lt_of_lt_of_le this.2 d.size⟩);·rcases u a with⟨s,e⟩|⟨na,e⟩<;>rcases u a' with⟨K,L⟩|⟨a8,L⟩<;>simp only[e]at c<;>simp only[L]at q;(·rw[s,K]);(·rcases r b c with x|x;(·rw[s];exact h.bB.d k a' b x q);·have:=h.bB.o a' b q;omega);(·rcases r b q with x|x;(·rw[K];exact h.bB.d a k b c x);·have:=h.bB.o a b c;omega);·exact h.bB.d a a' b c q);(·rcases u a with⟨s,e⟩|⟨_,e⟩<;>simp only[e]at c;(·rw[s];exact l);·exact h.oj a b c);(·rw[xZ d.jU];by_cases hak:a=k;(·subst hak;refine⟨g',gD D,.inr (.inl ⟨hq,a1,upd_same _ _ _,?_⟩)⟩;simp only[upd_same];exact a4);·obtain⟨o,n,a7⟩:=h.gE a I;refine⟨_,du (by omega) n,?_⟩;simp only[upd_ne _ _ hak];exact U a I hak o n _ a7);(·rw[xZ d.jU];obtain⟨o,n,A⟩:=h.lv i z Y;exact⟨o,by rw[du (by omega) n,woken_quitsD A],A⟩);(·rw[xZ d.jU];exact h.d0);·refine h.ti.work j l d.jU d.size h.low (λb c=>(d.grow b).2 (.inl c)) r h.bB.o h.bB.d h.bB.t (λn=>(h.ur k l (of_decide_eq_true n)).1) (λm p=>?_) d.mute _ _;have:=(zL p).1;exact⟨h.gI k l m this,h.di.lt k l m this⟩
theorem PI.block(x:Geo C)(h:PI C At MAt S t)(p:k<S.j)(e:S.gs[C.c0+k]?=some g)(B:(S.T k).pc=.s1)(l:S.s.ms=0)(m:S.bl k=false)(n:Deaf t (C.c0+k)=aL (S.T k))(q:∀f,Rl C (S.O k) (S.T k).own (S.T k).af S.w f->At (S.T k) (S.ys k) (S.O k) g f)(r:stepG C.P false g S.w=.go {g with status:=.blocked} S.w #[]):ki C At MAt S t sl (C.c0+k):=by
 have G:=x.c0;have u:(C.c0+k==0)=false:=by simp;omega
 have v:=runT_crowd_go (P:=C.P) (sl:=sl) e (show stepG C.P (C.c0+k==0) g S.w=_ by rw[u];exact r);have w:MemOp.ofEvents (C.c0+k) g.frame.fn g.frame.place #[]=#[]:=rfl;refine⟨{S with gs:=put C.P S.gs (C.c0+k) g {g with status:=.blocked} S.w,bl:=ConcN.upd S.bl k true},_,v,?_,?_⟩;·refine .right _ (.right _ ?_);have:=sumTo_upd S.bl true (λb=>if b then 0 else 1) p;simp only[m,Bool.false_eq_true,if_false,if_true]at this;show sumTo S.j (λa=>if ConcN.upd S.bl k true a then 0 else 1)+(if S.fI then 0 else 1)<sumTo S.j (λa=>if S.bl a then 0 else 1)+(if S.fI then 0 else 1);omega
 ·rw[w,Array.append_empty];have d:∀o,woken C.P g {g with status:=.blocked} S.w o=o:=λo=>Db rfl;refine⟨by rw[<-h.size];exact lh,h.jn,h.iS,h.sh,h.rc,h.low,h.bD,h.tok,h.ur,h.mi,h.tw,h.a1,h.lone,h.wi,h.di,h.cm,h.bB,h.iF,h.gI,h.oj,λa y=>?_,λi s A=>?_,?_,h.d0,h.ti,h.base⟩;(·by_cases hak:a=k;(·subst hak;exact⟨_,gD e,.inr (.inr ⟨B,n,upd_same _ _ _,l,g,rfl,q⟩)⟩);·obtain⟨o,c,z⟩:=h.gE a y;refine⟨o,by rw[du (by omega) c,d],?_⟩;simp only[upd_ne _ _ hak];exact z);(·obtain⟨o,c,E⟩:=h.lv i s A;exact⟨o,by rw[du (by omega) c,d],E⟩);·obtain⟨D,F,j⟩:=h.ms;exact⟨D,by rw[du (by omega) F,d],j⟩
end
theorem head_ne(T:Th){p:Pc}(h:pre p=false):(head T).pc≠p:=λe=>by have:=(sx T).1;rw[e,h]at this;cases this
theorem CD(T:Th):(cG T).pc=.ue\/(cG T).pc=.uc:=by unfold cG;split<;>simp
theorem af6(T:Th)(x:Wd):(dv T x).pc=.ue\/(dv T x).pc=.uc\/(dv T x).pc=.us:=by unfold dv;split;(·simp);·split;(·rcases CD {T with old:=x}with h|h<;>simp[h]);·simp
theorem agb(T:Th):(next T).pc=.ld\/(next T).pc=.wr:=by unfold next;split;(·simp);·split<;>simp
section
variable{N n:Nat}{T T':Th}{s s':Sh}
theorem H0(h:Mv N n T s T' s'):(T'.pc=.ur↔T.pc=.la)/\(T'.gone=true->T.gone=true\/T.pc=.wr)/\(s.ms=0->s'.ms=0\/T.pc=.us)/\(s.ws=0->s'.ws=0\/T.pc=.d4)/\(T.pc=.wr->T'.pc=.wd)/\(T.pc=.la->T'.gone=false)/\(T.pc=.ur->T'.pc=.ud)/\T.pc≠.quit:=by have b:∀(a:Th),((head a).pc=.ur)=False:=λa=>eq_false (head_ne a rfl);(have fu:∀(a:Th),(head a).gone=false:=λa=>by unfold head;split<;>rfl);cases h with|r0 h|r1 h|r3 h|kg h g=>simp[h,b,fu]|kS h i=>split<;>simp[h,Th.gone]|ux h=>have e:=CD {T with old:=s.word};generalize cG {T with old:=s.word}=U at e⊢;rcases e with e|e<;>simp[h,e,Th.gone]|u0 h=>have e:=af6 T {s.word with l:=0};generalize dv T {s.word with l:=0}=U at e⊢;rcases e with e|e|e<;>simp[h,e,Th.gone]|ue h=>have e:=agb T;generalize next T=U at e⊢;rcases e with e|e<;>simp[h,e,Th.gone]|jm p h d f h0=>rcases d with rfl|rfl<;>simp[h,Th.gone]|mT h f h0=>simp[h,Th.gone]|s1 h j=>simp[h,Th.gone];omega|_=>rename_i h;first|(simp[h,Th.gone];done)|(rename_i c;simp[c,Th.gone];done)|(simp only[h,Th.gone];simp;omega)
theorem qT(C:Cx)(T:Th)(D:GC):(bD C T D).n=gB C.N D.n T:=by unfold bD upd gB;by_cases h:T.pc=.la;(·cases a:T.ct;(·by_cases hn:D.n<C.N<;>simp[h,hn]);·simp[h]);·simp[h]
end
section
variable{C:Cx}{At:Th->GC->(Nat->Prop)->Dm->DS->Prop}{MAt:Mt->Dm->DS->Prop}{Fin:Dm->Prop}{S:St}{t:Trace}{sl:B3}
theorem ahp{x x':Wd}{m':Nat}{g g':CL}(h:iR C w x m g)(a:iR C w x' m' g'):g=g':=by have:=h.1.symm.trans a.1;simp only[Option.some.injEq,Obj.cells.injEq,and_true]at this;have:=List.append_cancel_left (congrArg Array.toList this);simpa using(List.cons.inj (List.cons.inj this).2).2
theorem vN(Q:Geo C)(n:∀T y O g w,At T y O g w->jv C At T y O g w)(h:PI C At MAt S t){s':Sh}(L:ShAt C w' s' S.g0)(I:s'.ok)(J:Eff C S.w w')(z:S.s.ms=0->s'.ms=0\/(mayWake C.P g=true/\g'.status=.running)):∃M:Nat->Bool,∀a,a<S.j->a≠k->∀o,S.gs[C.c0+a]?=some o->∀d,eT C At (S.bl a) (S.T a) (S.ys a) (S.tr a) (S.O a) o S.w S.s (S.q (C.c0+a)) d->eT C At (M a) (S.T a) (S.ys a) (S.tr a) (S.O a) (woken C.P g g' w' o) w' s' (S.q (C.c0+a)) d:=by obtain⟨cs,P⟩:=h.rc;(have G:∀a,∃b:Bool,a<S.j->a≠k->∀o,S.gs[C.c0+a]?=some o->∀d,eT C At (S.bl a) (S.T a) (S.ys a) (S.tr a) (S.O a) o S.w S.s (S.q (C.c0+a)) d->eT C At b (S.T a) (S.ys a) (S.tr a) (S.O a) (woken C.P g g' w' o) w' s' (S.q (C.c0+a)) d:=by intro a;by_cases hc:∃o d,a<S.j/\a≠k/\S.gs[C.c0+a]?=some o/\eT C At (S.bl a) (S.T a) (S.ys a) (S.tr a) (S.O a) o S.w S.s (S.q (C.c0+a)) d;(·obtain⟨o,d,c,B,p,q⟩:=hc;have r:Rl C (S.O a) (S.T a).own (S.T a).af S.w w':=vK Q h.sh L I P J (λb f=>(h.bB.o a b f).1);obtain⟨b,f⟩:=q.other n (x:=g) (x':=g') r (s':=s') z;refine⟨b,λ_ _ o' v R F=>?_⟩;rw[p]at v;cases v;obtain⟨b',j⟩:=F.other n (x:=g) (x':=g') r (s':=s') z;rcases f with f|⟨h1,H,u,D⟩|⟨h1,H,u,D,K⟩<;>rcases j with j|⟨i,s,N,m⟩|⟨i,s,N,m,A⟩;(·exact .inl j);(·exact absurd f.1 i);(·rw[f.1]at i;cases i);(·exact absurd j.1 h1);(·exact .inr (.inl ⟨i,s,u,m⟩));(·have l:=D.running (λ_ _ _ c=>(n _ _ _ _ _ c).run);obtain⟨E,e,_⟩:=A;rw[e]at l;cases l);(·rw[j.1]at h1;cases h1);(·have l:=m.running (λ_ _ _ c=>(n _ _ _ _ _ c).run);obtain⟨E,e,_⟩:=K;rw[e]at l;cases l);·exact .inr (.inr ⟨i,s,u,m,A⟩));·exact⟨false,λc B o p d q=>absurd ⟨o,d,c,B,p,q⟩ hc⟩);exact Classical.skolem.1 G
theorem Ah(a:Geo C)(c:Eff C w w')(h:hH C m w):hH C m w':=λi b=>by rw[<-h i b];simp only[World.cell?,c.block C.Rc (Ne.symm a.kO) (Ne.symm a.j2)]
theorem Q'(l:k<S.j){T':Th}{s':Sh}(t:Mv C.N S.D.n (S.T k) S.s T' s')(w:TW (S.T k))(r:(S.T k).pc=.la->(S.T k).ct=false->(S.T k).af=none){b:St}(e1:b.j=S.j)(e2:b.M=S.M)(f:b.T=ConcN.upd S.T k T')(g:b.s=s')(v:b.D=bD C (S.T k) S.D){q:Nat}(d:b.q=if T'.pc=.quit then ConcN.upd S.q (C.c0+k) q else S.q)(A:q<=C.qb){i:Tr}(u:b.tr=ConcN.upd S.tr k i)(z:b.gV=S.gV)(s:(S.T k).pc≠.quit):yB (b.meas C) (S.meas C):=by
 have o:sumTo C.c0 b.q=sumTo C.c0 S.q:=by rw[d];split;(·exact sumTo_congr λa B=>upd_ne _ _ (by omega));·rfl
 have D:sumTo S.j (λa=>phi (b.T a)+if(b.T a).pc=.quit then b.q (C.c0+a)else C.qb)+(phi (S.T k)+C.qb)<=sumTo S.j (λa=>phi (S.T a)+if(S.T a).pc=.quit then S.q (C.c0+a)else C.qb)+(phi T'+C.qb):=by have a1:=dG l (λa=>phi (b.T a)+if(b.T a).pc=.quit then b.q (C.c0+a)else C.qb);have a2:=dG l (λa=>phi (S.T a)+if(S.T a).pc=.quit then S.q (C.c0+a)else C.qb);(have a3:dI S.j k (λa=>phi (b.T a)+if(b.T a).pc=.quit then b.q (C.c0+a)else C.qb)=dI S.j k (λa=>phi (S.T a)+if(S.T a).pc=.quit then S.q (C.c0+a)else C.qb):=by unfold dI;refine sumTo_congr λa _=>?_;by_cases hak:a=k;(·rw[if_pos hak,if_pos hak]);·rw[if_neg hak,if_neg hak];(have h:b.T a=S.T a:=by rw[f];exact upd_ne _ _ hak);(have x2:b.q (C.c0+a)=S.q (C.c0+a):=by rw[d];split;(·exact upd_ne _ _ (by omega));·rfl);show phi (b.T a)+(if(b.T a).pc=.quit then b.q (C.c0+a)else C.qb)=phi (S.T a)+(if(S.T a).pc=.quit then S.q (C.c0+a)else C.qb);rw[h,x2]);(have h:b.T k=T':=by rw[f];exact upd_same _ _ _);(have a4:(phi (b.T k)+if(b.T k).pc=.quit then b.q (C.c0+k)else C.qb)<=phi T'+C.qb:=by rw[h];split;(·rename_i j;rw[d,if_pos j,upd_same];omega);·exact Nat.le_refl _);(have a5:(phi (S.T k)+if(S.T k).pc=.quit then S.q (C.c0+k)else C.qb)=phi (S.T k)+C.qb:=by rw[if_neg s]);rw[a1,a2,a3];(try dsimp only);rw[a5];omega
 have p:b.D.n=gB C.N S.D.n (S.T k):=by rw[v];exact qT C _ _
 rcases af5 t w r with j|⟨p1,n,p3,y⟩;·refine .left _ _ ?_;show b.A C<S.A C;unfold St.A;rw[e1,e2,g,p,o];simp only[ey]at j;omega
 ·(have c:b.A C<=S.A C:=by unfold St.A;rw[e1,e2,g,p,o,n,p3];omega);rcases Nat.lt_or_eq_of_le c with c|c;(·exact .left _ _ c);·unfold St.meas;rw[c];refine .right _ (.left _ _ ?_);(have e:b.X=S.X.set (k+1) (dW T' S.s.word,i):=by simp only[St.X,e1,e2,f,g,u,z,n,List.set_cons_succ];have:=Cv S.j k (λ_(x:Nat×Tr)=>x) (λa=>(dW (S.T a) S.s.word,S.tr a)) (dW T' S.s.word,i);rw[<-this];congr 1;refine List.map_congr_left λa _=>?_;rcases dx S.T T' k a with⟨rfl,x⟩|⟨m,x⟩;(·rw[x,upd_same,upd_same]);·rw[x,upd_ne _ _ m,upd_ne _ _ m]);rw[e];exact ye (Ej l) (.left _ _ y)
end
end Ph
end
end Go.Proofs.YtjebhbopmfcopaaGreatDoor
