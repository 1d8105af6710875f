/- Agree, a part. -/
import Derived.LaidMore
import Derived.Lay
import Derived.ProofKit
import Derived.RunNT
import Derived.SevenTiedAt
import Derived.Stop.Joined
import Derived.Test.YtjebhbopmfcopaaGreatDoorCards
import Derived.Test.YtjebhbopmfcopaaGreatDoorRows
import Derived.Test.YtjebhbopmfcopaaGreatDoorTie
import Derived.WalkKit
import Derived.WalkLawsBesides
import Derived.WalkSpells
import Derived.Test.YtjebhbopmfcopaaGreatDoorZc
set_option maxRecDepth 100000
set_option maxHeartbeats 4000000
namespace Go.Proofs.YtjebhbopmfcopaaGreatDoor
open Go.Proofs Tryz
noncomputable section
variable{gs:Fo}{s:HM}{fr:Frame}{fn:Func}{f:FuncId}{l:Dm}{xs:FV}{base e g i j n:Nat}{sl:CL}{P:Program}{c:UInt8}{Post:HH->HA->Prop}{v w:HA}
namespace Co
open Conc ConcN ConcM Ph
def gk(P:Program)(Post:HH->HA->Prop)(gs:Fo)(w:HA)(sl:CL)(t:Trace):Prop:=∃n a o w' b,runNT P (n+1) (crowd gs w sl) t=(.ended o w',b)/\runN P n (crowd gs w sl)=.next a/\step P a=.ended o w'/\Conc.Good P Post a o w' b
theorem gk.step{gs1:Fo}{w1:HA}{sl1:CL}{t ops:Trace}(h:stepT P (crowd gs w sl)=(.next (crowd gs1 w1 sl1),ops))(k:gk P Post gs1 w1 sl1 (t++ops)):gk P Post gs w sl t:=by
 obtain⟨n,b,o,w',c,h1,d,e,f⟩:=k;have g:Go.step P (crowd gs w sl)=.next (crowd gs1 w1 sl1):=by have:=runNT_fst P 1 (crowd gs w sl) t;simp only[runNT,h,runN]at this;cases a:Go.step P (crowd gs w sl)with|next m=>rw[a]at this;exact this.symm|_=>rw[a]at this;cases this
 refine⟨n+1,b,o,w',c,?_,?_,e,f⟩;·rw[runNT];rw[h];exact h1
 ·rw[runN,g];exact d
section
variable{P:Program}{Post:HH->HA->Prop}
theorem agL{Sh:Loc->Prop}:∀(s:Nat){gs:Fo}{w:HA}{sl:CL}{t:Trace}{g:Gq}(q:Nat->Nat),gs[0]?=some g->(∀i o,0<i->gs[i]?=some o->QuitsD P (q i) (Deaf t i) o)->dx Sh gs.size w.heap.size t->g.status=.running->sumTo gs.size q=s->(∀d,∃v w' es,stepG P true g (w.at d)=.ended (.done v) w' es/\(∀e∈es,EvM Sh w'.heap.size e)/\w.heap.size<=w'.heap.size/\Post v w')->gk P Post gs w sl t:=by intro s;induction s using Nat.strongRecOn with|_ s ih=>intro gs w sl t g q h0 u J y a4 O;(have T:∀o∈gs,awake o:=λo r=>by obtain⟨i,k,rfl⟩:=Array.mem_iff_getElem.1 r;by_cases l:i=0;(·subst l;have:gs[0]?=some gs[0]:=Array.getElem?_eq_getElem k;rw[h0]at this;cases this;exact awake_of (.inl y));·exact awake_of ((u i _ HU (Array.getElem?_eq_getElem k)).status.elim .inl λx=>.inr (.inr x)));obtain⟨i,o,d,G,k,r,H⟩:=crowd_pick (P:=P) (w:=w) (sl:=sl) T ⟨0,g,h0,y⟩;have I:=(J2.1 k).1;by_cases l:i=0;(·subst l;rw[h0]at k;cases k;obtain⟨v,w',es,k1,k2,k3,k4⟩:=O d;have D:=runT_crowd_ended (P:=P) (sl:=G) h0 (show stepG P (0==0) g (w.at d)=_ from k1);have K:stepT P (crowd gs w sl)=(.ended (.done v) w',MemOp.ofEvents 0 g.frame.fn g.frame.place es):=H.trans D;(have W:Go.step P (crowd gs w sl)=.ended (.done v) w':=by have:=runNT_fst P 1 (crowd gs w sl) t;simp only[runNT,K,runN]at this;cases F:Go.step P (crowd gs w sl)with|next m=>rw[F]at this;cases this|_=>rw[F]at this;exact this.symm);have N:=J.own (fn:=g.frame.fn) (pos:=g.frame.place) HU k3 k2;refine⟨0,crowd gs w sl,_,_,_,by simp only[runNT,K],rfl,W,v,rfl,k4,N.nr,N.over,⟨λx A=>?_,rfl⟩,λi x A l=>?_⟩;(·obtain⟨j,hj,rfl⟩:=List.mem_iff_getElem.1 A;rw[List.getElem_drop];(have hl:1+j<gs.size:=by have:j<(gs.toList.drop 1).length:=hj;rw[List.length_drop,Array.length_toList]at this;omega);have R:gs[1+j]?=some gs[1+j]:=Array.getElem?_eq_getElem hl;exact⟨_,(u (1+j) _ HU R).leaves⟩);·have S:gs[i]?=some x:=A;have p:=u i x HU S;refine⟨q i,?_⟩;have:(t++MemOp.ofEvents 0 g.frame.fn g.frame.place es).deaf i (t++MemOp.ofEvents 0 g.frame.fn g.frame.place es).size=Deaf t i:=Deaf_other t (Ne.symm l) _ fT;rw[this];exact p.hears _);·have p:=u i o HU k;cases C:q i with|zero=>rw[C]at p;rw[p.1]at r;cases r|succ n=>rw[C]at p;rcases p with⟨V,_⟩|⟨_,f,es,X,Y,Z⟩;(·rw[V]at r;cases r);·(have a0:(i==0)=false:=by simpa using l);have D:=runT_crowd_go (P:=P) (sl:=G) k (show stepG P (i==0) o (w.at d)=_ by rw[a0];exact Y (w.at d));refine .step (H.trans D) ?_;have a1:∀a,a≠i->Deaf (t++MemOp.ofEvents i o.frame.fn o.frame.place es) a=Deaf t a:=λa B=>Deaf_other t (Ne.symm B) _ fT;have U:Deaf (t++MemOp.ofEvents i o.frame.fn o.frame.place es) i=deafBehind (Deaf t i) es:=Deaf_own .. ;(have L:((gs.map (woken P o f (w.at d))).setIfInBounds i f).size=gs.size:=by simp);(have a2:∀a b,0<a->((gs.map (woken P o f (w.at d))).setIfInBounds i f)[a]?=some b->QuitsD P (ConcN.upd q i n a) (Deaf (t++MemOp.ofEvents i o.frame.fn o.frame.place es) a) b:=λa b B E=>by by_cases hai:a=i;(·subst hai;have h:(put P gs a o f (w.at d))[a]?=some f:=gQ k;unfold put at h;rw[E]at h;cases h;rw[upd_same,U];exact Z);·rw[upd_ne _ _ hai,a1 a hai];cases z:gs[a]? with|none=>(have:a<gs.size:=by have:=(J2.1 E).1;simpa using this);rw[Array.getElem?_eq_getElem this]at z;cases z|some c=>have M:=u a c B z;have h:(put P gs i o f (w.at d))[a]?=some (woken P o f (w.at d) c):=dv hai z;unfold put at h;rw[E]at h;cases h;rw[woken_quitsD M];exact M);(have hz:sumTo gs.size (ConcN.upd q i n)<s:=by(have e1:sumTo gs.size (ConcN.upd q i n)+(n+1)=sumTo gs.size q+n:=by have:=sumTo_upd q n id I;simpa[C]using this);omega);(have a3:((gs.map (woken P o f (w.at d))).setIfInBounds i f)[0]?=some g:=by have h:(put P gs i o f (w.at d))[0]?=some (woken P o f (w.at d) g):=dv (Ne.symm l) h0;unfold put at h;rw[h];(have:woken P o f (w.at d) g=g:=by unfold woken;split;(·unfold Goroutine.again;rw[y]);·rfl);rw[this]);refine ih _ hz (ConcN.upd q i n) a3 a2 ?_ y (by rw[L]) ?_;(·rw[L];exact J.mute l I X);·intro Q;exact O Q
end
end Co
namespace Co
open Conc ConcN ConcM Ph Kw
theorem gk.of{t:Trace}(h:Comes P (gk P Post) gs w sl t):gk P Post gs w sl t:=by
 obtain⟨n,j,w',l,k,h1,m,e,o,w2,t2,k1,g,c,d⟩:=h;have a:∀(n:Nat)(x:Machine)(t:Trace)(y:Machine)(u:Trace)(m:Nat),runNT P n x t=(.next y,u)->runNT P (n+m) x t=runNT P m y u:=by intro n;induction n with|zero=>intro x t y u m h;simp only[runNT,Prod.mk.injEq,Stepped.next.injEq]at h;obtain⟨rfl,rfl⟩:=h;rw[Nat.zero_add]|succ n f=>intro x t y u m h;rw[show n+1+m=(n+m)+1 by omega];rw[runNT]at h⊢;cases i:stepT P x with|mk s ops=>rw[i]at h;cases s with|next z=>exact f z _ y u m h|_=>cases h
 refine⟨n+m,e,o,w2,t2,?_,?_,c,d⟩;·rw[show n+m+1=n+(m+1)by omega,a n _ _ _ _ (m+1) h1];exact k1
 ·have b:=runNT_fst P (n+m) (crowd gs w sl) t;rw[a n _ _ _ _ m h1,runNT_fst,g]at b;exact b.symm
section
variable{P:Program}{K:Cm}{S:FuncId->Bool}{Q:HH->HA->Prop}{Post:HH->HA->Prop}
theorem Xc(i:iA P K S){r:Rn}{fr':Frame}{x:HH}(a:FR P K S r fr fr')(d:WR K P r v w)(n:fr.leaving P v (.returned x))(p:(aF P K.F).inits.idxOf? fr'.fn=none):∃x' w1 r1 es,stepG (aF P K.F) true (VG fr' []) w=.ended (.done x') w1 es/\VR P.globals.size r1 x x'/\WR K P r1 v w1/\Eff r r1 v w w1/\∀e∈es,jx K r1 v e:=by obtain⟨h1,F,H,fn,h,u⟩:=n;have A:WR K P r (aD v w.tape w.drawn) w:=⟨d.bG,d.inj,d.one,d.low,d.bB⟩;have o:TW (aD v w.tape w.drawn) w:=λ_ _=>rfl;have g:=Sem.runT_fst P (results fn fr.tmps) v #[];rw[u]at g;cases j:(results fn fr.tmps).runT P v #[]with|mk bT es=>rw[j]at g;dsimp only at g;subst g;obtain⟨C,g2,g3⟩:=(kp (P:=P) (K:=K) fn (i.live a.fn.2 h) a.tmps).tape v w #[] x v es d j;have m:=g3 w.tape w.drawn (λk q D=>by omega);rw[Nat.sub_self,Nat.add_zero]at m;obtain⟨⟨b,w1,new,r1,k1,y,f,G,c,s⟩,E⟩:=(kp (P:=P) (K:=K) fn (i.live a.fn.2 h) a.tmps).mW (aD v w.tape w.drawn) w #[] #[] x _ _ A o m;rw[Array.empty_append]at k1;refine⟨b,w1,r1,seen (aF P K.F) fr'.fn new,?_,y,⟨f.bG,f.inj,f.one,f.low,f.bB⟩,⟨c.tape,c.output,c.os,c.size,c.keep,c.new,c.le⟩,λe l=>⟨s e (fv l),wY l⟩⟩;have m1:fr'.mode=.returning:=a.mode.trans h1;have z:=a.defers.2;have B:=a.kind.2;(have t:(aF P K.F).funcs[fr'.fn]?=some fn:=by rw[a.fn.1];exact(i.same _ a.fn.2).trans h);simp only[stepG,m1,unwind,z,t,k1,doReturn,B,p,GStep.after,Array.append_empty,Bool.not_true,Bool.false_eq_true,if_false]
theorem Ends.tail(H:Closed P K S)(L:∀f,In K S f->(aF P K.F).inits.idxOf? f=none){r0:Rn}{v0 w0:HA}{Sh:Loc->Prop}(k:∀{r1:Rn}{x x':HH}{v1 w1:HA},Eff r0 r1 v0 w0 w1->Q x v1->VR P.globals.size r1 x x'->WR K P r1 v1 w1->Post x' w1){l:Fi}(M:Ends P (Bs P) Q fr l v):∀{fr':Frame}{l':Fi}{r:Rn}{w:HA}{gs:Fo}{sl:CL}{t:Trace},FR P K S r fr fr'->KR P K S r (Bs P) [] l l'->WR K P r v w->aT v->(fr.mode=.run\/fr.mode=.returning)->Eff r0 r v0 w0 w->v0.heap.size<=v.heap.size->kP Sh r->cH Sh w->dB (aF P K.F) Sh gs w t (VG fr' l')->gk (aF P K.F) Post gs w sl t:=by induction M with|@hH fr v x h X=>intro fr' l' r w gs sl t c i E I G a m z p b;(have O:l'=[]:=by generalize o:Bs P=B at i;cases i with|base=>rfl|cons c _ k=>exfalso;obtain⟨aI,t1,_⟩:=k.aI;have:=congrArg List.length o;rw[t1]at this;simp[Bs]at this);subst O;obtain⟨q,s⟩:=b.lv;refine agL (Post:=Post) _ q b.h0 s b.ps rfl rfl λd=>?_;have y:WR K P r v (w.at d):=E.at d;have g:cH Sh (w.at d):=p;(have N:(aF P K.F).inits.idxOf? fr'.fn=none:=by rw[c.fn.1];exact L _ c.fn.2);obtain⟨x',w',r1,es,s1,R,F,A,s5⟩:=Xc H.toiA c y h N;have j:=z.dT g A;have D:Eff r0 r v0 w0 (w.at d):=⟨a.tape,a.output,a.os,a.size,a.keep,a.new,a.le⟩;exact⟨x',w',es,s1,λe C=>vV F j g (s5 e C),A.size,k (D.trans A m) X R F⟩|@step fr l v o f kk u h e T=>intro fr' l' r w gs sl t c i E I G a m z p b;obtain⟨q,s⟩:=b.lv;refine gk.of (dB.next (Fin:=gk (aF P K.F) Post) _ q b.h0 s b.ps rfl rfl λd=>?_);have y:WR K P r v (w.at d):=E.at d;have g:cH Sh (w.at d):=p;obtain⟨a1,V⟩:=h (w.at d).tape (w.at d).drawn;obtain⟨n1,m1,r1,a2,a0,w',Y,Z,W,q3,J,n,q6,q7⟩:=qN (m':=true) H o V (q9 (e (w.at d).tape (w.at d).drawn)) c i y I G;have j:=z.dT g n;have D:Eff r0 r v0 w0 (w.at d):=⟨a.tape,a.output,a.os,a.size,a.keep,a.new,a.le⟩;exact⟨_,w',Y,Z,λe C=>vV J j g (q7 e C),n.size,λa3 a4 t' a5 U=>.here (T _ _ W q3 J n1 m1 (D.trans n m) (Nat.le_trans m q6.size) j (g.mono n.size) U)⟩
end
end Co
namespace Co
open Conc ConcN Ph Kw
section
variable{P:Program}{K:Cm}{S:FuncId->Bool}{Q:HH->HA->Prop}
theorem aaS(m:Closed P K S)(z:j7 Q){c:Code}{tmps:DS}(q:P.funcs[f]?=some fn)(o:Fits P K S (Bs P) ⟨f,tmps,[.code c],[],.run,.normal,none⟩ (Bs P) v)(A:∀T d,c.wp P (bodyPost P fn λe v'=>∃x,e=.returned x/\Q x v') ⟨tmps,[]⟩ (aD v T d)):Ends P (Bs P) Q ⟨f,tmps,[.code c],[],.run,.normal,none⟩ (Bs P) v:=by refine FC m z o λT d=>?_;obtain⟨e,a',w',g,r⟩:=A T d ⟨f,#[],[],[],.run,.normal,none⟩ [] (Bs P);(have s:∀{b:Frame}{x:HH},Steps P (lone (Frame.at ⟨f,#[],[],[],.run,.normal,none⟩ ⟨tmps,[]⟩ [.code c]) (Bs P) (aD v T d)) (lone b (Bs P) w')->b.leaving P w' (.returned x)->Q x w'->∃n b k x,jD P (Bs P) n ⟨f,tmps,[.code c],[],.run,.normal,none⟩ (Bs P) (aD v T d) b k/\b.leaving P k (.returned x)/\Q x k:=by rintro b x⟨n,t⟩p h;obtain⟨u,w⟩:=H' m n _ _ _ _ _ (o.aD T d) p.1 t;exact⟨u,b,w',x,w,p,h⟩);cases e with|normal=>obtain⟨i,y,j,x,a,h⟩:=g;cases a;exact s (Steps.trans r (.one step_end)) ⟨rfl,i,rfl,fn,q,j⟩ h|ret=>obtain⟨i,y,j,x,a,h⟩:=g;cases a;obtain⟨todo,B⟩:=r;exact s B ⟨rfl,i,rfl,fn,q,j⟩ h|panic D=>obtain⟨i,x,a,_⟩:=g;cases a|exit C|goto l=>exact g.elim|outgrown=>obtain⟨x,a,_⟩:=g;cases a
end
end Co
namespace Co
open Conc ConcN ConcM Ph Kw
section
variable{P:Program}{K:Cm}{S:FuncId->Bool}{Q:HH->HA->Prop}{Post:HH->HA->Prop}
theorem ag8(r:Closed P K S)(U:K.x=true)(H:∀f,In K S f->(aF P K.F).inits.idxOf? f=none){c:Code}{j n:DS}(X:Nat->Prop){Sh:Loc->Prop}{t:Trace}(V:In K S f)(C:P.funcs[f]?=some fn)(G:fF P K S (K.L f) c=true)(p:mQ P.globals.size X w)(I:∀g,K.G g=true->X g)(L:P.globals.size<=w.heap.size)(h0:0<w.heap.size)(M:TR P.globals.size (fB X) (K.L f) j n)(hV:∀g,K.V g=true->¬X g/\g<P.globals.size)(O:∀T d,c.wp P (bodyPost P fn λe v'=>∃x,e=.returned x/\Q x v') ⟨j,[]⟩ (aD (only X w) T d))(hQ:j7 Q)(hold:∀x v',Q x v'->∀b:Nat,b<w.heap.size->v'.heap[b]?=(only X w).heap[b]?)(D:∀b,X b->∀ad:Addr,ad.block=b->¬Sh (.cell ad))(E:cH Sh w)(F:aE (aF P K.F) Sh (λ_=>False) gs w t (R ⟨f,n,[.code c],[],.run,.normal,none⟩ []))(k:∀r1 x x' v1 w1,Q x v1->VR P.globals.size r1 x x'->aP w w1->Post x' w1):gk (aF P K.F) Post gs w sl t:=by have s:=Dh (K:=K) (P:=P) p I L hV;have u:=zq p h0;have y:FR P K S (fB X) ⟨f,j,[.code c],[],.run,.normal,none⟩ ⟨f,n,[.code c],[],.run,.normal,none⟩:=⟨⟨rfl,V⟩,M,rfl,by simpa[eS]using G,⟨rfl,rfl⟩,rfl,⟨rfl,rfl⟩,⟨rfl,rfl⟩⟩;have J:=aaS r hQ C (tmps:=j) (v:=only X w) ⟨fB X,Bs P,_,Bs P,w,y,.base,s,u,.inl rfl⟩ O;refine Ends.tail r H (r0:=fB X) (v0:=only X w) (w0:=w) (Sh:=Sh) (λ{r1 x x' v1 w1}i A N z=>?_) J y .base s u (.inl rfl) (Eff.refl _ _ _) (Nat.le_refl _) (λa b m ad l=>?_) E F.b;(·refine k r1 x x' v1 w1 A N ⟨⟨i.tape,i.output,i.os,i.size⟩,λb l=>?_⟩;by_cases hXb:X b;(·obtain⟨cs,e,fz,h1,W⟩:=p b hXb;have Y:r1 b b:=i.le _ _ ⟨rfl,hXb⟩;obtain⟨o,o',B,g2,g3⟩:=z.bG b b Y;rw[hold x v1 A b l,mf hXb,h1]at B;cases B;rw[g2,h1];cases g3 with|cells _ Z hz=>rcases hz with rfl|⟨q,_⟩;(·rw[Bg z.one Z (W.mono i.le)]);·rw[U]at q;cases q);·exact i.keep b l λa m=>hXb (m.1▸m.2));·obtain⟨rfl,h⟩:=m;exact D a h ad l
end
end Co
section
open RowKit
def py:List (String×DataW Unit):=Rows.textsRow.laid
theorem aaG(os:Os):(World.laidAll prog os py).Shaped prog:=World.shaped_of_ZipB HW HW
theorem RG(os:Os)(args:DS):laidMetH prog py ((World.laidAll prog os py).forCall (λ_ _=>0) ⟨#[],args,[]⟩).memory:=by rw[MakeChecks.laidMetH_plain _ _ _ HW];exact laidMet_laidAll _ HW HW
end
namespace Lt
def dh(c:UInt8):Bool:=c==65||c==67||c==71||c==84||c==78
def comp(c:UInt8):UInt8:=if c=65 then 84 else if c=67 then 71 else if c=71 then 67 else if c=84 then 65 else c
def aB(l:Dm):Bool:=l.all dh
def rev(l:Dm):Dm:=(l.map comp).reverse
def sub(f t c:UInt8):UInt8:=if c=f then t else c
def conv(f t:UInt8)(l:Dm):Dm:=l.map (sub f t)
theorem toNat_inj(a:n<256):(c.toNat=n)↔c=UInt8.ofNat n:=by constructor;(·intro h;apply UInt8.toNat_inj.1;rw[h,UInt8.toNat_ofNat'];omega);·intro h;rw[h,UInt8.toNat_ofNat'];omega
theorem JA(h:dh c=true):dh (comp c)=true:=by simp only[dh,Bool.or_eq_true,beq_iff_eq]at h;rcases h with(((h|h)|h)|h)|h<;>subst h<;>decide
theorem uI(l:Dm):(rev l).length=l.length:=by simp[rev]
theorem El(h:aB l=true):aB (rev l)=true:=by simp only[aB,rev,List.all_reverse,List.all_map,List.all_eq_true]at*;intro c a;exact JA (h c a)
theorem lm(f t:UInt8)(l:Dm):(conv f t l).length=l.length:=by simp[conv]
theorem every{p:UInt8->Prop}[DecidablePred p](h:(List.range 256).all (λn=>decide (p (UInt8.ofNat n)))=true)(c:UInt8):p c:=by have h1:=List.all_eq_true.1 h c.toNat (by rw[List.mem_range];exact c.toNat_lt);rw[UInt8.ofNat_toNat]at h1;exact of_decide_eq_true h1
theorem ack(c:UInt8):dh c=((c.toNat:Int)==65||(c.toNat:Int)==67||(c.toNat:Int)==71||(c.toNat:Int)==84||(c.toNat:Int)==78):=every (p:=λc=>dh c=((c.toNat:Int)==65||(c.toNat:Int)==67||(c.toNat:Int)==71||(c.toNat:Int)==84||(c.toNat:Int)==78)) (by decide+kernel) c
theorem Fw(c:UInt8):((comp c).toNat:Int)=if((c.toNat:Int)==65)=true then 84 else if((c.toNat:Int)==67)=true then 71 else if((c.toNat:Int)==71)=true then 67 else if((c.toNat:Int)==84)=true then 65 else(c.toNat:Int):=every (p:=λc=>((comp c).toNat:Int)=if((c.toNat:Int)==65)=true then 84 else if((c.toNat:Int)==67)=true then 71 else if((c.toNat:Int)==71)=true then 67 else if((c.toNat:Int)==84)=true then 65 else(c.toNat:Int)) (by decide+kernel) c
def bV(n:Int):UInt8:=if(n==1)=true then 67 else if(n==3)=true then 67 else if(n==2)=true then 71 else if(n==4)=true then 71 else 0
def bX(n:Int):UInt8:=if(n==1)=true then 84 else if(n==3)=true then 84 else if(n==2)=true then 65 else if(n==4)=true then 65 else 0
theorem agb(s:HM)(k:Nat)(h:k<s.size):aB (s.data.toList.take (k+1))=(aB (s.data.toList.take k)&&dh s[k]):=by rw[show s.data.toList.take (k+1)=s.data.toList.take k++[s[k]]from by rw[List.take_succ_eq_append_getElem (by simpa using h)];rfl];simp[aB]
theorem Z9(s:HM)(k:Nat)(h:k<s.size)(a:dh s[k]=false):aB s.data.toList=false:=by unfold aB;rw[List.all_eq_false];exact⟨s[k],by have:s[k]=s.data.toList[k]'(by simpa using h):=rfl;rw[this];exact List.getElem_mem _,by simp[a]⟩
theorem MP(s:HM)(k:Nat)(h:¬k<s.size)(a:aB (s.data.toList.take k)=true):aB s.data.toList=true:=by rwa[List.take_of_length_le (by simp;omega)]at a
theorem agD(s:HM)(k:Nat)(h:k<s.size):s.data.toList.take (k+1)=s.data.toList.take k++[s[k]]:=by rw[List.take_succ_eq_append_getElem (by simpa using h)];rfl
def cf(n:Int):Bool:=n==1||n==3
def bh(n:Int):Bool:=decide (1<=n)&&decide (n<=4)
theorem sb(n:Int):bh n=((n==1)||(n==2)||(n==3)||(n==4)):=by rw[Bool.eq_iff_iff];simp only[bh,Bool.and_eq_true,decide_eq_true_eq,Bool.or_eq_true,beq_iff_eq];omega
theorem Gg{n:Int}(h:bh n=false):bV n=0/\bX n=0:=by rw[sb]at h;simp only[Bool.or_eq_false_iff]at h;simp[bV,bX,h]
theorem tB{n:Int}(h:cf n=true):bV n=67/\bX n=84:=by(have a:n=1\/n=3:=by simpa[cf]using h);rcases a with rfl|rfl<;>exact⟨rfl,rfl⟩
theorem qj{n:Int}(h:cf n=false)(a:bh n=true):bV n=71/\bX n=65:=by(have b:n=2\/n=4:=by rw[sb]at a;simp only[cf,Bool.or_eq_false_iff,beq_eq_false_iff_ne,Bool.or_eq_true,beq_iff_eq]at h a;omega);rcases b with rfl|rfl<;>exact⟨rfl,rfl⟩
end Lt
namespace Tx
def pW(a:Int):Bool:=decide ((97<=a/\a<=122)\/(65<=a/\a<=90)\/(48<=a/\a<=57)\/a=95\/a=46\/a=45)
def nb(c:UInt8):Bool:=pW (c.toNat:Int)
def ql(c:UInt8):Bool:=decide (33<=(c.toNat:Int)/\(c.toNat:Int)<=126)
def cap(c:UInt8):UInt8:=if Lt.dh c then c else if c==97||c==99||c==103||c==116||c==110 then c-32 else 0
def bt(s:HM)(i:Nat):UInt8:=if h:i<s.size then s[i]else 0
theorem wF(h:i<s.size):bt s i=s[i]:=by simp[bt,h]
theorem qW(h:¬i<s.size):bt s i=0:=by simp[bt,h]
theorem gI(h:bt s i≠0):i<s.size:=by by_cases hi:i<s.size;(·exact hi);·exact absurd (qW hi) h
theorem vB:cap 0=0:=by decide
theorem Me:nb 0=false:=by decide
theorem agj:ql 0=false:=by decide
def ey(s:HM):Nat->Nat->Nat|_,0=>0|p,f+1=>if nb (bt s p)then ey s (p+1) f+1 else 0
def ax(s:HM)(p:Nat):Nat:=p+ey s p 32
theorem L5(s:HM):∀(f p:Nat),ey s p f<=f:=by intro f;induction f with|zero=>intro p;simp[ey]|succ f a=>intro p;unfold ey;split;(·have:=a (p+1);omega);·omega
theorem En(s:HM):∀(f p:Nat),p<=s.size->p+ey s p f<=s.size:=by intro f;induction f with|zero=>intro p h;simp[ey];exact h|succ f a=>intro p h;unfold ey;split;(·next hn=>(have b:p<s.size:=by by_cases hi:p<s.size;(·exact hi);·rw[qW hi,Me]at hn;cases hn);have:=a (p+1) HU;omega);·omega
def bn(s:HM):Nat->Nat->Nat|_,0=>0|p,f+1=>if cap (bt s p)≠0 then bn s (p+1) f+1 else 0
def dE(s:HM)(p:Nat):Nat->Dm|0=>[]|n+1=>cap (bt s p)::dE s (p+1) n
theorem tV(s:HM):∀(n p:Nat),(dE s p n).length=n:=by intro n;induction n with|zero=>intro p;rfl|succ n a=>intro p;simp[dE,a]
theorem afZ(s:HM):∀(n p:Nat),dE s p (n+1)=dE s p n++[cap (bt s (p+n))]:=by intro n;induction n with|zero=>intro p;rfl|succ n a=>intro p;rw[dE,a (p+1),dE,show p+1+n=p+(n+1)by omega];rfl
theorem Cz(s:HM):∀(f p:Nat),bn s p f<=f:=by intro f;induction f with|zero=>intro p;simp[bn]|succ f a=>intro p;unfold bn;split;(·have:=a (p+1);omega);·omega
def wr(s:HM)(p:Nat)(a b:Int):Int:=if cap (bt s p)≠0 then b else a
structure bZ where
 out:List (Dm×Dm)
 err:Int
 pos:Int
def bad(e:Int)(p:Nat):bZ:=⟨[],e,p⟩
def piece(s:HM)(p q:Nat):Dm:=(s.data.toList.drop p).take (q-p)
def jb(s:HM)(p:Nat)(out:List (Dm×Dm))(k:Nat->Dm->bZ):bZ:=if bt s p≠62 then bad 2 p else if out.length=16 then bad 4 p else if ax s (p+1)=p+1\/bt s (ax s (p+1))≠10 then bad 2 (ax s (p+1))else if out.any (λx=>x.1==piece s (p+1) (ax s (p+1)))then bad 3 (p+1)else k (ax s (p+1)+1) (piece s (p+1) (ax s (p+1)))
def dW(s:HM):Nat->(p first:Nat)->(name a:Dm)->List (Dm×Dm)->(b:Nat)->bZ|0,_,_,_,_,_,_=>bad 0 0|f+1,p,first,name,a,out,b=>if cap (bt s p)≠0 then if b=4096 then bad 4 p else dW s f (p+1) first name (a++[cap (bt s p)]) out (b+1)else if bt s p=10/\first<p then dW s f (p+1) (p+1) name a out b else if first<p\/a=[]then bad 2 p else if p<s.size then jb s p (out++[(name,a)]) (λq nm=>dW s f q q nm [] (out++[(name,a)]) b)else⟨out++[(name,a)],0,0⟩
def eX(s:HM):bZ:=jb s 0 [] (λq nm=>dW s (s.size+1) q q nm [] [] 0)
theorem MW(s:HM)(first:Nat)(name:Dm)(out:List (Dm×Dm)):∀(c f p:Nat)(b:Dm)(a:Nat),(∀j,j<c->cap (bt s (p+j))≠0)->c+a<=4096->c<=f->dW s f p first name b out a=dW s (f-c) (p+c) first name (b++dE s p c) out (a+c):=by intro c;induction c with|zero=>intro f p b a _ _ _;simp[dE]|succ c e=>intro f p b a d i k;obtain⟨f,rfl⟩:∃g,f=g+1:=⟨f-1,HU⟩;have h0:=d 0 HU;rw[dW,if_pos (by simpa using h0),if_neg HU];rw[e f (p+1) (b++[cap (bt s p)]) (a+1) (λj h=>by have:=d (j+1) HU;rwa[show p+(j+1)=p+1+j by omega]at this) HU HU];rw[show f+1-(c+1)=f-c by omega,show p+1+c=p+(c+1)by omega,show a+1+c=a+(c+1)by omega];simp[dE]
theorem pe(s:HM):∀(f p j:Nat),j<bn s p f->cap (bt s (p+j))≠0:=by intro f;induction f with|zero=>intro p j h;simp[bn]at h|succ f a=>intro p j h;unfold bn at h;split at h;(·next hn=>cases j with|zero=>simpa using hn|succ j=>have:=a (p+1) j HU;rwa[show p+1+j=p+(j+1)by omega]at this);·omega
end Tx
section
open RowKit
theorem cQ{a b:Bool}(h:a=b):Ending.returned (.bool a)=.returned (.bool b):=by rw[h]
theorem dc{k:IntKind}{a b:Int}(h:a=b):Ending.returned (.int k a)=.returned (.int k b):=by rw[h]
theorem u4(c:UInt8)(w:HA):Calls prog 120 #[.int .u8 (c.toNat:Int)] w λe w'=>e=.returned (.bool (Lt.dh c))/\w'=w:=by go_enter func120,ntmps120;go_wp2;(all_goals go_ret);all_goals exact⟨cQ (by rw[Lt.ack];simp only[*,Bool.or_true,Bool.true_or,Bool.or_false]),rfl⟩
theorem zJ(c:UInt8)(w:HA):Calls prog 99 #[.int .u8 (c.toNat:Int)] w λe w'=>e=.returned (.int .u8 ((Lt.comp c).toNat:Int))/\w'=w:=by go_enter func99,ntmps99;go_wp2;(all_goals go_ret);all_goals exact⟨dc (by rw[Lt.Fw];simp only[*,if_true,if_false,Bool.false_eq_true]),rfl⟩
theorem jq(n:Int)(w:HA):Calls prog 77 #[.int .i64 n] w λe w'=>e=.returned (.bool (Lt.bh n))/\w'=w:=by go_enter func77,ntmps77;go_wp2;(all_goals go_ret);all_goals exact⟨cQ (by rw[Lt.sb];simp only[*,Bool.or_true,Bool.true_or,Bool.or_false]),rfl⟩
theorem rT(n:Int)(w:HA):Calls prog 157 #[.int .i64 n] w λe w'=>e=.returned (.bool (Lt.cf n))/\w'=w:=by go_enter func157,ntmps157;go_wp2;(all_goals go_ret);all_goals exact⟨cQ (by unfold Lt.cf;simp[*]),rfl⟩
theorem xR(n:Int)(w:HA):Calls prog 102 #[.int .i64 n] w λe w'=>e=.returned (.tuple #[.int .u8 ((Lt.bV n).toNat:Int),.int .u8 ((Lt.bX n).toNat:Int)])/\w'=w:=by cases a:Lt.bh n with|false=>have d:Hid _:=a;rw[(Lt.Gg a).1,(Lt.Gg a).2];clear a;go_enter func102,ntmps102;go_wp2_with(go_at_call 77;refine(jq _ _).mono ?_;rintro e w'⟨rfl,c⟩;subst w';rw[d.out]);go_ret2;exact⟨rfl,rfl⟩|true=>have d:Hid _:=a;cases b:Lt.cf n with|true=>have f:Hid _:=b;rw[(Lt.tB b).1,(Lt.tB b).2];clear a b;go_enter func102,ntmps102;go_wp2_with(first|(go_at_call 77;refine(jq _ _).mono ?_;rintro e w'⟨rfl,c⟩;subst w';rw[d.out])|(go_at_call 157;refine(rT _ _).mono ?_;rintro e w'⟨rfl,c⟩;subst w';rw[f.out]));go_ret2;exact⟨rfl,rfl⟩|false=>have f:Hid _:=b;rw[(Lt.qj b a).1,(Lt.qj b a).2];clear a b;go_enter func102,ntmps102;go_wp2_with(first|(go_at_call 77;refine(jq _ _).mono ?_;rintro e w'⟨rfl,c⟩;subst w';rw[d.out])|(go_at_call 157;refine(rT _ _).mono ?_;rintro e w'⟨rfl,c⟩;subst w';rw[f.out]));go_ret2;exact⟨rfl,rfl⟩
theorem lF(s:HM)(w:HA)(h:s.size<=maxLen):Calls prog 98 #[.string s] w λe w'=>e=.returned (.bool (Lt.aB s.data.toList))/\w'=w:=by unfold maxLen at h;go_enter func98,ntmps98;go_wp2;go_loop[6](λi=>∃k:Nat,k<=s.size/\i=.int .i64 k/\Hid (Lt.aB (s.data.toList.take k)=true))(λi=>s.size-(intOf i).toNat);(case atStart=>exact⟨0,Nat.zero_le _,rfl,rfl⟩);case round=>obtain⟨k,j,rfl,b⟩:=hrel;by_cases hlt:k<s.size;(·cases a:Lt.dh s[k]with|true=>have f:=Lt.agb s k hlt;rw[b.out,a,Bool.and_self]at f;have g:Hid (Lt.aB (s.data.toList.take (k+1))=true):=f;clear f b;have d:Hid (Lt.dh s[k]=true):=a;clear a;go_wp2_with(go_at_call 120;refine(u4 _ _).mono ?_;rintro e w'⟨rfl,rfl⟩;rw[d.out]);go_round;(case rel=>exact⟨k+1,HU,by go_num,g⟩);case measure=>simp[intOf];omega|false=>have c:Hid (Lt.aB s.data.toList=false):=Lt.Z9 s k hlt a;have d:Hid (Lt.dh s[k]=false):=a;clear a b;go_wp2_with(go_at_call 120;refine(u4 _ _).mono ?_;rintro e w'⟨rfl,rfl⟩;rw[d.out]);go_ret;exact⟨cQ c.out.symm,rfl⟩);·have c:Hid (Lt.aB s.data.toList=true):=Lt.MP s k hlt b.out;clear b;go_wp2;go_ret;exact⟨cQ c.out.symm,rfl⟩
def By(c:UInt8):HH:=.int .u8 (c.toNat:Int)
def bN(l:Dm):FV:=l.map By
theorem vn(l:Dm):(bN l).length=l.length:=by simp[bN]
theorem uv(l r:Dm):bN (l++r)=bN l++bN r:=by simp[bN]
theorem vp(l:Dm)(j:Nat)(h:j<l.length):(bN l)[j]?=some (.int .u8 (l[j].toNat:Int)):=by simp[bN,By,h]
theorem uO:(prog.info? 5).map (λi=>(i.zero,i.size,i.bytes))=some (some (.int .u8 0),1,1):=HW
theorem mU{v:HH}(ai:w.ownsRow base 5 1 v n (bN l)):(convert 43 9 v).run prog w=.ok (.string ⟨l.toArray⟩) w:=by
 have c:l.length=n:=by have:=ai.1;rw[vn]at this;omega
 rcases ai.2 with⟨rfl,d⟩|⟨g,cap,h,rfl,_,e,_,_,_,f⟩;·have b:l=[]:=List.eq_nil_of_length_eq_zero HU;subst b;rw[run_convert_bytes_string w 43 9 5 none 0 0 underlying43 underlying5 underlying9];simp[Conv.bytesToString];rfl
 ·subst c;refine run_convert_bytes_back (P:=prog) w 43 9 5 ⟨g,0,none⟩ cap l underlying43 underlying5 underlying9 (λj a=>?_);rw[Addr.add_lit,Nat.zero_add,ai.cellAt j HU,vp l j a]
theorem eN{size:Nat}{v:HH}(h:w.ownsRow base e size v n xs):∃a cap,v=.slice a n cap:=by rcases h.2 with⟨rfl,rfl⟩|⟨g,cap,b,rfl,_⟩;(·exact⟨none,0,rfl⟩);·exact⟨some ⟨g,0,none⟩,cap,rfl⟩
theorem rX{cap:Nat}(h:w.ownsRow base e 1 (.slice (some ⟨g,0,none⟩) n cap) n xs)(j:Nat)(b:j<n):∃u,w.cell? ⟨g,j,none⟩=some u/\xs[j]?=some u:=by(have a:j<xs.length:=by rw[h.1];omega);exact⟨xs[j],by rw[h.cellAt j HU];exact List.getElem?_eq_getElem a,List.getElem?_eq_getElem a⟩
theorem pn{W:HA}{ops:Array Oper}{rest:List Oper}{o:Oper}{a:Act}{Q:Exit->Act->HA->Prop}(y:o.guard=none)(s x:Operand)(t:o.op=.call {callee:=.builtin .append,args:=#[s,x],argTypes:=#[43,43]})(base:Nat)(v:HH)(l:Dm)(c:UInt8)(z:a.eval s=v)(g:a.eval x=.slice (some ⟨w.heap.size,0,none⟩) 1 1)(ai:w.ownsRow base 5 1 v l.length (bN l))(i:Below base W w)(m:base<=w.heap.size)(A:l.length+1<=140737488355328)(h:∀v' w',w'.ownsRow base 5 1 v' (l++[c]).length (bN (l++[c]))->Below base W w'->w.heap.size<=w'.heap.size->wpList prog ops Q rest (a.put o.dst v') w'):wpList prog ops Q (o::rest) a (w.alloc (.cells #[.int .u8 (c.toNat:Int)] 5)):=by
 obtain⟨i0,p,q,r,n⟩:=info_parts uO;refine wpList_append_own _ y s x 43 t base 5 i0 (.int .u8 0) 1 1 underlying43 p q r n rfl J1 v l.length (bN l) z (ai.alloc _) ⟨w.heap.size,0,none⟩ 1 1 [By c] g rfl ?_ ?_ ?_ ?_ ?_ ?_;·intro j u b;match j,b with|0,b=>simp at b;subst b;simp[Addr.add,By]
 ·intro u d;simp at d;subst d;rfl
 ·unfold maxLen;omega
 ·omega
 ·simp;omega
 ·intro v' w' h1 e _;refine h v' w' ?_ ?_ ?_;(·rw[uv,List.length_append];exact h1);(·exact(i.alloc m _).grown e (by simp;omega) (λk f=>(ai.lt k f).1));·have:=e.size;simp at this;omega
def Mk(w:HA)(g n:Nat)(xs:FV):Prop:=∃a:DS,w.heap[g]?=some (.cells a 5 (a.size,a.size+1))/\n<=a.size/\a.toList.take n=xs
theorem Mk.len(h:Mk w g n xs):xs.length=n:=by obtain⟨b,_,a,rfl⟩:=h;simp;omega
theorem Mk.cell(h:Mk w g n xs)(b:j<n):w.cell? ⟨g,j,none⟩=xs[j]?:=by obtain⟨a,c,d,rfl⟩:=h;rw[cell_of_row w g j a _ _ c,List.getElem?_take,if_pos b];simp
theorem Mk.frozen(h:Mk w g n xs)(d:j<n):w.frozen? ⟨g,j,none⟩=false:=by obtain⟨c,a,b,rfl⟩:=h;simp[World.frozen?,a];omega
theorem Mk.stored(h:Mk w g n xs)(j:Nat)(u:HH):Mk (w.setCell ⟨g,j,none⟩ u) g n (xs.set j u):=by obtain⟨b,c,a,rfl⟩:=h;refine⟨b.setIfInBounds j u,?_,by simpa using a,by rw[Array.toList_setIfInBounds,List.take_set]⟩;simp[World.setCell,Array.getElem?_modify,c]
theorem zm(s:HM)(w:HA)(a:s.size<=maxLen):∃cap w1,(convert 9 43 (.string s)).run prog w=.ok (.slice (some ⟨w.heap.size,0,none⟩) s.size cap) w1/\s.size<=cap/\cap<=maxLen/\Mk w1 w.heap.size s.size (bN s.data.toList)/\Below w.heap.size w w1:=by
 refine⟨_,_,run_bytes_of_string (P:=prog) w 9 43 5 s underlying9 underlying43 underlying5,grownCap_ge _ _ _ _,grownCap_le_maxLen _ _ _ _ a,⟨_,heap_alloc_new w.drew _,?_,?_⟩,?_⟩;·simp[bytesRow]
 ·rw[bytesRow,Array.toList_append,List.take_append_of_le_length HY,List.take_of_length_le HY];simp[bN,By]
 ·exact(Below.refl _ _).drew.alloc (Nat.le_refl _) _
theorem Mk.back{cap:Nat}(h:Mk w g l.length (bN l)):(convert 43 9 (.slice (some ⟨g,0,none⟩) l.length cap)).run prog w=.ok (.string ⟨l.toArray⟩) w:=by refine run_convert_bytes_back (P:=prog) w 43 9 5 ⟨g,0,none⟩ cap l underlying43 underlying5 underlying9 (λj a=>?_);rw[Addr.add_lit,Nat.zero_add,h.cell a,vp l j a]
def Lt.part(f t:UInt8)(l:Dm)(k:Nat):Dm:=Lt.conv f t (l.take k)++l.drop k
theorem oT(f t:UInt8)(l:Dm):Lt.part f t l 0=l:=by simp[Lt.part,Lt.conv]
theorem pZ(f t:UInt8)(l:Dm)(k:Nat)(h:l.length<=k):Lt.part f t l k=Lt.conv f t l:=by rw[Lt.part,List.take_of_length_le h,List.drop_of_length_le h,List.append_nil]
theorem acj(f t:UInt8)(s:HM)(k:Nat)(h:k<s.size):(bN (Lt.part f t s.data.toList k))[k]?=some (.int .u8 (s[k].toNat:Int)):=by rw[Lt.part,uv,List.getElem?_append_right (by rw[vn,Lt.lm,List.length_take];omega),vn,Lt.lm,List.length_take,show k-min k s.data.toList.length=0 by simp;have:k<s.data.size:=h;omega];rw[List.drop_eq_getElem_cons (by simpa using h)];rfl
theorem KS(f t:UInt8)(l:Dm)(k:Nat)(h:k<l.length):Lt.part f t l (k+1)=(Lt.part f t l k).set k (Lt.sub f t l[k]):=by rw[Lt.part,Lt.part,List.set_append,if_neg (by rw[Lt.lm,List.length_take];omega),Lt.lm,List.length_take,show k-min k l.length=0 by omega,List.drop_eq_getElem_cons h,List.set_cons_zero,List.take_succ_eq_append_getElem h];simp only[Lt.conv,List.map_append,List.map_cons,List.map_nil,List.append_assoc,List.singleton_append]
theorem vg(l:Dm)(k:Nat)(c:UInt8):bN (l.set k c)=(bN l).set k (.int .u8 (c.toNat:Int)):=by simp[bN,List.map_set,By]
theorem ajb(f t:UInt8)(s:HM)(k:Nat)(h:k<s.size)(a:s[k]=f):(bN (Lt.part f t s.data.toList k)).set k (.int .u8 (t.toNat:Int))=bN (Lt.part f t s.data.toList (k+1)):=by rw[<-vg,KS _ _ _ _ (by simpa using h)];have:s.data.toList[k]'(by simpa using h)=f:=a;simp[Lt.sub,this]
theorem aew(f t:UInt8)(s:HM)(k:Nat)(h:k<s.size)(b:¬s[k]=f):Lt.part f t s.data.toList (k+1)=Lt.part f t s.data.toList k:=by rw[KS _ _ _ _ (by simpa using h)];have a:¬s.data.toList[k]'(by simpa using h)=f:=b;(have e:Lt.sub f t (s.data.toList[k]'(by simpa using h))=s.data.toList[k]'(by simpa using h):=by simp only[Lt.sub,if_neg a]);rw[e,Lt.part];rw[List.set_append,if_neg (by rw[Lt.lm,List.length_take];omega),Lt.lm,List.length_take,show k-min k s.data.toList.length=0 by simp;have:k<s.data.size:=h;omega];rw[List.drop_eq_getElem_cons (by simpa using h),List.set_cons_zero]
theorem afp(s:HM)(n:Int)(f t:UInt8)(w:HA)(d:s.size<=maxLen)(q:Lt.aB s.data.toList=true)(o:Lt.bV n=f)(u:Lt.bX n=t)(h0:f≠0):Calls prog 48 #[.string s,.int .i64 n] w λe w'=>e=.returned (.tuple #[.string ⟨(Lt.conv f t s.data.toList).toArray⟩,.int .i64 0])/\Below w.heap.size w w':=by
 have z:Hid (Lt.aB s.data.toList=true):=q;have E:Hid (Lt.bV n=f):=o;have F:Hid (Lt.bX n=t):=u;have J:((f.toNat:Int)==0)=false:=by rw[beq_eq_false_iff_ne];intro h;exact h0 (UInt8.toNat_inj.1 (by simpa using h))
 clear q o u h0;obtain⟨cap,w1,v,I,B,r,m⟩:=zm s w d;unfold maxLen at d B;have y:s.size<=maxLen:=d;go_enter func48,ntmps48;go_wp2_with(first|(go_at_call 98;refine(lF _ _ y).mono ?_;rintro e w'⟨rfl,A⟩;subst w';rw[z.out])|(go_at_call 102;refine(xR _ _).mono ?_;rintro e w'⟨rfl,A⟩;subst w';rw[E.out,F.out]));clear v;go_loopw[25](λi wr=>∃k:Nat,k<=s.size/\i=.int .i64 k/\Mk wr w.heap.size s.size (bN (Lt.part f t s.data.toList k))/\Below w.heap.size w wr)(λi _=>s.size-(intOf i).toNat);case atStart=>exact⟨0,Nat.zero_le _,rfl,by rw[oT];exact r,m⟩
 case round=>clear r m;obtain⟨k,G,rfl,a,b⟩:=hrel;by_cases hlt:k<s.size;(·have C:=a.cell hlt;rw[acj _ _ _ _ hlt]at C;by_cases hsf:s[k]=f;(·have H:=a.frozen hlt;have c:=a.stored k (.int .u8 (t.toNat:Int));rw[ajb _ _ _ _ hlt hsf]at c;have j:Hid _:=c;have g:Hid _:=b.setCell (p:=⟨w.heap.size,k,none⟩) (Nat.le_refl _) (.int .u8 (t.toNat:Int));(have D:((s[k].toNat:Int)==(f.toNat:Int))=true:=by rw[hsf];simp);clear c hsf a b;go_wp2;go_roundw;(case rel=>exact⟨k+1,HU,by go_num,j.out,g.out⟩);case measure=>simp[intOf];omega);·(have D:((s[k].toNat:Int)==(f.toNat:Int))=false:=by rw[beq_eq_false_iff_ne];intro h;exact hsf (UInt8.toNat_inj.1 HU));rw[<-aew _ _ _ _ hlt hsf]at a;have j:Hid _:=a;have g:Hid _:=b;clear a b hsf;go_wp2;go_roundw;(case rel=>exact⟨k+1,HU,by go_num,j.out,g.out⟩);case measure=>simp[intOf];omega);·rw[pZ _ _ _ _ (by simp;have:¬k<s.data.size:=hlt;omega)]at a;(have l:(Lt.conv f t s.data.toList).length=s.size:=by rw[Lt.lm];rfl);rw[<-l]at a;have x:=a.back (cap:=cap);rw[l]at x;clear l a;go_wp2;go_ret2;exact⟨rfl,b⟩
def filled(l:Dm)(n k:Nat):FV:=bN (l.take k)++List.replicate (n-k) (.int .u8 0)
theorem EN(l:Dm)(n:Nat):filled l n 0=List.replicate n (.int .u8 0):=by simp[filled,bN]
theorem BW(l:Dm)(n:Nat)(h:l.length=n):filled l n n=bN l:=by simp[filled,<-h]
theorem ES(l:Dm)(n k:Nat)(h:l.length=n)(b:k<n):(filled l n k).set k (.int .u8 ((l[k]'(by omega)).toNat:Int))=filled l n (k+1):=by unfold filled;(have h1:(bN (l.take k)).length=k:=by rw[vn,List.length_take];omega);rw[List.set_append,if_neg HU,h1,Nat.sub_self];rw[List.take_succ_eq_append_getElem HU,uv];obtain⟨m,a⟩:∃m,n-k=m+1:=⟨n-k-1,HU⟩;rw[a,show n-(k+1)=m by omega,List.replicate_succ,List.set_cons_zero];simp[bN,By]
theorem GM(s:HM)(k:Nat)(h:k<s.size)(a:k<(Lt.rev s.data.toList).length):(Lt.rev s.data.toList)[k]=Lt.comp (s[s.size-1-k]'(by omega)):=by simp only[Lt.rev,List.getElem_reverse,List.getElem_map,List.length_map,Array.length_toList];rfl
theorem VV(s:HM)(w:HA)(C:s.size<=140737488355328)(o:Lt.aB s.data.toList=true):Calls prog 46 #[.string s] w λe w'=>e=.returned (.tuple #[.string ⟨(Lt.rev s.data.toList).toArray⟩,.int .i64 0])/\Below w.heap.size w w':=by
 have u:Hid (Lt.aB s.data.toList=true):=o;clear o;have m:s.size<=maxLen:=by unfold maxLen;omega
 obtain⟨i0,v,y,r,t⟩:=info_parts uO;have j:(Lt.rev s.data.toList).length=s.size:=by rw[Lt.uI];rfl
 have a:Hid ((Lt.rev s.data.toList).length=s.size):=j;clear j;go_enter func46,ntmps46;go_wp2_with(first|(go_at_call 98;refine(lF _ _ m).mono ?_;rintro e w'⟨rfl,q⟩;subst w';rw[u.out])|(at_make;refine wpList_make_full _ rfl _ _ 43 rfl w.heap.size 5 i0 (.int .u8 0) 1 underlying43 v y r _ _ _ _ s.size rfl rfl rfl rfl ?h1 ?h2 ?h3 ?_));case h1=>rw[t];omega
 case h2=>exact m
 case h3=>exact Nat.le_refl _
 ·intro w1 c h;have g:Below w.heap.size w w1:=(Below.refl _ _).grown h (Nat.le_refl _) (λk l=>by cases l);rw[toList_madeCells_one,<-EN (Lt.rev s.data.toList) s.size]at c;clear h;go_wp2;go_loopw[14](λi wr=>∃k:Nat,k<=s.size/\i=.int .i64 k/\wr.ownsRow w.heap.size 5 1 (.slice (some ⟨w.heap.size,0,none⟩) s.size s.size) s.size (filled (Lt.rev s.data.toList) s.size k)/\Below w.heap.size w wr)(λi _=>s.size-(intOf i).toNat);(case atStart=>exact⟨0,Nat.zero_le _,rfl,c,g⟩);case round=>clear c g;obtain⟨k,l,rfl,ai,b⟩:=hrel;by_cases hlt:k<s.size;(·obtain⟨v0,D,_⟩:=rX ai k hlt;have B:=ai.frozenAt k;have d:=ai.stored k (.int .u8 ((Lt.comp (s[s.size-1-k]'(by omega))).toNat:Int));rw[<-GM s k hlt (by rw[a.out];exact hlt),ES _ _ _ a.out hlt,GM s k hlt (by rw[a.out];exact hlt)]at d;have n:=b.setCell (p:=⟨w.heap.size,k,none⟩) (Nat.le_refl _) (.int .u8 ((Lt.comp (s[s.size-1-k]'(by omega))).toNat:Int));have f:=d.1;clear d;have f:Hid _:=f;have x:Hid _:=n;clear n ai b;go_wp2_with(go_at_call 99;refine(zJ _ _).mono ?_;rintro e w'⟨rfl,q⟩;subst w');go_roundw;(case rel=>exact⟨k+1,HU,by go_num,f.out,x.out⟩);case measure=>simp[intOf];omega);·have z:k=s.size:=HU;subst z;rw[BW _ _ a.out]at ai;have A:=mU ai;go_wp2;go_ret2;exact⟨rfl,b⟩
def Lt.vw(c:UInt8)(n:Int):UInt8:=if Lt.cf n then(if c==67 then 84 else c)else(if c==71 then 65 else c)
theorem adk(s:HM)(k:Nat)(h:k<s.size):Lt.rev (s.data.toList.drop k)=Lt.rev (s.data.toList.drop (k+1))++[Lt.comp s[k]]:=by rw[List.drop_eq_getElem_cons (by simpa using h)];simp only[Lt.rev,List.map_cons,List.reverse_cons];rfl
theorem MV(a:Int):a<45\/a=45\/a=46\/a=47\/(48<=a/\a<=57)\/(58<=a/\a<=64)\/(65<=a/\a<=90)\/(91<=a/\a<=94)\/a=95\/a=96\/(97<=a/\a<=122)\/123<=a:=by omega
theorem TM(a:Int)(w:HA):Calls prog 119 #[.int .u8 a] w λe w'=>e=.returned (.bool (Tx.pW a))/\w'=w:=by
 obtain⟨r,d⟩:∃r,r=Tx.pW a:=⟨_,rfl⟩;have f:Hid (r=Tx.pW a):=d;rw[<-d];clear d;rcases MV a with h|h|h|h|h|h|h|h|h|h|h|h;all_goals(obtain c|c:r=true\/r=false:=by cases r<;>simp);all_goals have b:=f.out;simp only[Tx.pW]at b;rw[c]at b;first|(exfalso;have g:=of_decide_eq_true b.symm;omega)|(exfalso;have g:=of_decide_eq_false b.symm;omega)|skip
 all_goals clear b f;subst c
 all_goals first|(obtain⟨h1,i⟩:=h)|skip
 all_goals go_enter func119,ntmps119;go_wp2;go_ret;refine⟨cQ ?_,rfl⟩;first|rfl|(simp;omega)
theorem vP(c:UInt8)(w:HA):Calls prog 119 #[.int .u8 (c.toNat:Int)] w λe w'=>e=.returned (.bool (Tx.nb c))/\w'=w:=TM _ w
theorem Z7(h1:97<=(c.toNat:Int))(a:(c.toNat:Int)<=122):Tx.cap c=(if Lt.dh (c-32)then c-32 else 0)/\((c-32).toNat:Int)=(c.toNat:Int)-32:=by have h:=Lt.every (p:=λc=>97<=(c.toNat:Int)->(c.toNat:Int)<=122->Tx.cap c=(if Lt.dh (c-32)then c-32 else 0)/\((c-32).toNat:Int)=(c.toNat:Int)-32) (by decide+kernel) c;exact h h1 a
theorem Nu(h:(c.toNat:Int)<97\/122<(c.toNat:Int)):Tx.cap c=(if Lt.dh c then c else 0):=by have a:=Lt.every (p:=λc=>((c.toNat:Int)<97\/122<(c.toNat:Int))->Tx.cap c=(if Lt.dh c then c else 0)) (by decide+kernel) c;exact a h
theorem jQ(c:UInt8)(w:HA):Calls prog 66 #[.int .u8 (c.toNat:Int)] w λe w'=>e=.returned (.int .u8 ((Tx.cap c).toNat:Int))/\w'=w:=by by_cases hr:97<=(c.toNat:Int)/\(c.toNat:Int)<=122;(·obtain⟨h1,h⟩:=hr;obtain⟨e1,e2⟩:=Z7 h1 h;have g:(c.toNat:Int)-97+65=((c-32).toNat:Int):=HU;cases a:Lt.dh (c-32);all_goals rw[a]at e1;have d:Hid _:=a;have f:Hid _:=e1;have i:Hid _:=g;clear a e1 e2 g;go_enter func66,ntmps66;go_wp2_with fail;rw[i.out];refine(u4 _ _).mono ?_;rintro e w'⟨rfl,j⟩;subst w';rw[d.out];go_wp2;go_ret;exact⟨dc (by rw[f.out];rfl),rfl⟩);·have b:(c.toNat:Int)<97\/122<(c.toNat:Int):=HU;have e1:=Nu b;clear hr;cases a:Lt.dh c;all_goals rw[a]at e1;have d:Hid _:=a;have f:Hid _:=e1;clear a e1;rcases b with b|b;all_goals go_enter func66,ntmps66;go_wp2_with(go_at_call 120;refine(u4 _ _).mono ?_;rintro e w'⟨rfl,j⟩;subst w';rw[d.out]);go_ret;exact⟨dc (by rw[f.out];rfl),rfl⟩
theorem H6(c:UInt8)(w:HA):Calls prog 67 #[.int .u8 (c.toNat:Int)] w λe w'=>e=.returned (.bool (Tx.ql c))/\w'=w:=by by_cases h1:33<=(c.toNat:Int)<;>by_cases h2:(c.toNat:Int)<=126;all_goals have a:Hid (Tx.ql c=decide (33<=(c.toNat:Int)/\(c.toNat:Int)<=126)):=rfl;go_enter func67,ntmps67;go_wp2;go_ret;refine⟨cQ ?_,rfl⟩;rw[a.out];simp[h1,h2]
def Bs(w:HA)(g:Nat)(s:HM):Prop:=∀j(h:j<s.size),w.cell? ⟨g,j,none⟩=some (.int .u8 (s[j].toNat:Int))
theorem cI(s:HM)(g d p:Nat)(w:HA)(b:Bs w g s):Calls prog 63 #[.slice (some ⟨g,0,none⟩) s.size d,.int .i64 (p:Int)] w λe w'=>e=.returned (.int .u8 ((Tx.bt s p).toNat:Int))/\w'=w:=by by_cases hp:p<s.size;(·have f:=b p hp;have a:Hid _:=Tx.wF hp;clear b;have c:(p:Int)<(s.size:Int):=HU;go_enter func63,ntmps63;go_wp2;go_ret;exact⟨dc (by rw[a.out]),rfl⟩);·have a:Hid _:=Tx.qW hp;clear b;have c:¬(p:Int)<(s.size:Int):=HU;go_enter func63,ntmps63;go_wp2;go_ret;exact⟨dc (by rw[a.out];rfl),rfl⟩
theorem Mz(s:HM)(p j:Nat)(b:j<32):Tx.ey s (p+j) (32-j)=if Tx.nb (Tx.bt s (p+j))then Tx.ey s (p+(j+1)) (32-(j+1))+1 else 0:=by obtain⟨f,a⟩:∃f,32-j=f+1:=⟨32-j-1,HU⟩;rw[a,Tx.ey,show 32-(j+1)=f by omega,show p+(j+1)=p+j+1 by omega]
theorem wG(s:HM)(g d p:Nat)(w:HA)(m:Bs w g s)(t:s.size<=140737488351232)(q:p<=s.size):Calls prog 64 #[.slice (some ⟨g,0,none⟩) s.size d,.int .i64 (p:Int)] w λe w'=>e=.returned (.int .i64 (Tx.ax s p:Int))/\w'=w:=by have l:Hid _:=m;clear m;go_enter func64,ntmps64;go_wp2;go_loop[5](λi=>∃j:Nat,j<=32/\i=.int .i64 ((p+j:Nat):Int)/\Hid (Tx.ey s p 32=j+Tx.ey s (p+j) (32-j)))(λi=>p+32-(intOf i).toNat);(case atStart=>exact⟨0,HU,rfl,by show _=_;simp⟩);case round=>obtain⟨j,r,rfl,b⟩:=hrel;by_cases h32:j<32;(·have a:=Mz s p j h32;cases c:Tx.nb (Tx.bt s (p+j))with|true=>rw[c,if_pos rfl]at a;(have n:Hid (Tx.ey s p 32=(j+1)+Tx.ey s (p+(j+1)) (32-(j+1))):=by show _=_;rw[b.out,a];omega);have h:Hid _:=c;clear a c b;go_wp2_with(first|(go_at_call 63;refine(cI s g d (p+j) _ l.out).mono ?_;rintro e w'⟨rfl,f⟩;subst w')|(go_at_call 119;refine(vP _ _).mono ?_;rintro e w'⟨rfl,f⟩;subst w';rw[h.out]));go_round;(case rel=>exact⟨j+1,HU,by go_num,n⟩);case measure=>simp[intOf];omega|false=>rw[c,if_neg HY]at a;(have k:Hid (Tx.ax s p=p+j):=by show _=_;rw[Tx.ax,b.out,a];omega);have h:Hid _:=c;clear a c b;go_wp2_with(first|(go_at_call 63;refine(cI s g d (p+j) _ l.out).mono ?_;rintro e w'⟨rfl,f⟩;subst w')|(go_at_call 119;refine(vP _ _).mono ?_;rintro e w'⟨rfl,f⟩;subst w';rw[h.out]));go_ret;exact⟨dc (by rw[k.out];omega),rfl⟩);·have o:j=32:=HU;subst o;(have k:Hid (Tx.ax s p=p+32):=by show _=_;rw[Tx.ax,b.out];simp[Tx.ey]);clear b;go_wp2;go_ret;exact⟨dc (by rw[k.out];omega),rfl⟩
theorem oS(s:HM)(p q:Nat):s.extract p q=⟨(Tx.piece s p q).toArray⟩:=by apply ByteArray.ext;rw[ByteArray.data_extract];apply Array.toList_inj.1;simp[Tx.piece,Array.toList_extract,List.take_drop]
theorem DF(s:HM)(p m j:Nat)(b:j<m):Tx.bn s (p+j) (m-j)=if Tx.cap (Tx.bt s (p+j))≠0 then Tx.bn s (p+(j+1)) (m-(j+1))+1 else 0:=by obtain⟨f,a⟩:∃f,m-j=f+1:=⟨m-j-1,HU⟩;rw[a,Tx.bn,show m-(j+1)=f by omega,show p+(j+1)=p+j+1 by omega]
theorem GI(h:c≠0):((c.toNat:Int)!=0)=true:=by rw[bne_iff_ne];intro a;exact h ((Lt.toNat_inj (n:=0) HU).1 HU)
theorem Ep(h:c=0):((c.toNat:Int)!=0)=false:=by rw[h];rfl
theorem qI(h:c=10):((c.toNat:Int)!=10)=false:=by rw[h];rfl
theorem tf(h:c≠10):((c.toNat:Int)!=10)=true:=by rw[bne_iff_ne];intro a;exact h ((Lt.toNat_inj (n:=10) HU).1 HU)
end
