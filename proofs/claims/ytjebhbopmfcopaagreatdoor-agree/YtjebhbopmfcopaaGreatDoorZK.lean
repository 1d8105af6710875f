/- Agree, a part. -/
import Derived.Test.YtjebhbopmfcopaaGreatDoorZJ
namespace Go.Proofs.YtjebhbopmfcopaaGreatDoor
open Go.Proofs
noncomputable section
variable{g:Gq}{k m:Nat}{α:Type}{w w':HA}
namespace Ph
open Conc ConcN ConcM Kw
theorem head_ne(T:Th){p:Pc}(h:pre p=false):(head T).pc≠p:=λe=>by have:=(sW T).1;rw[e,h]at this;cases this
theorem DZ(T:Th):(cM T).pc=.ue\/(cM T).pc=.uc:=by unfold cM;split<;>simp
theorem UJ(T:Th)(x:Wd):(du T x).pc=.ue\/(du T x).pc=.uc\/(du T x).pc=.us:=by unfold du;split;(·simp);·split;(·rcases DZ {T with old:=x}with h|h<;>simp[h]);·simp
theorem LG(T:Th):(next T).pc=.ld\/(next T).pc=.wr:=by unfold next;split;(·simp);·split<;>simp
section
variable{N n:Nat}{T T':Th}{s s':Sh}
theorem Hh(h:Mv N n T s T' s'):(T'.pc=.ur↔T.pc=.la)/\(T'.gone=true->T.gone=true\/T.pc=.wr)/\(s.ms=0->s'.ms=0\/T.pc=.us)/\(s.ws=0->s'.ws=0\/T.pc=.d4)/\(T.pc=.wr->T'.pc=.wd)/\(T.pc=.la->T'.gone=false)/\(T.pc=.ur->T'.pc=.ud)/\T.pc≠.quit:=by have b:∀(a:Th),((head a).pc=.ur)=False:=λa=>eq_false (head_ne a rfl);(have fc:∀(a:Th),(head a).gone=false:=λa=>by unfold head;split<;>rfl);cases h with|r0 h|r1 h|r3 h|ls h g=>simp[h,b,fc]|kg h i=>split<;>simp[h,Th.gone]|ux h=>have e:=DZ {T with old:=s.word};generalize cM {T with old:=s.word}=U at e⊢;rcases e with e|e<;>simp[h,e,Th.gone]|u0 h=>have e:=UJ T {s.word with l:=0};generalize du T {s.word with l:=0}=U at e⊢;rcases e with e|e|e<;>simp[h,e,Th.gone]|ue h=>have e:=LG T;generalize next T=U at e⊢;rcases e with e|e<;>simp[h,e,Th.gone]|jA p h d f h0=>rcases d with rfl|rfl<;>simp[h,Th.gone]|mj h f h0=>simp[h,Th.gone]|s1 h j=>simp[h,Th.gone];omega|_=>rename_i h;first|(simp[h,Th.gone];done)|(rename_i c;simp[c,Th.gone];done)|(simp only[h,Th.gone];simp;omega)
theorem rY(C:Cx)(T:Th)(D:GC):(bu C T D).n=gK C.N D.n T:=by unfold bu upd gK;by_cases h:T.pc=.la;(·cases a:T.ct;(·by_cases hn:D.n<C.N<;>simp[h,hn]);·simp[h]);·simp[h]
end
section
variable{C:Cx}{At:Th->GC->(Nat->Prop)->Gq->HA->Prop}{MAt:Mt->Gq->HA->Prop}{Fin:Gq->Prop}{S:St}{t:Trace}{sl:CL}
theorem Us{x x':Wd}{m':Nat}{g g':FV}(h:iJ C w x m g)(a:iJ C w x' m' g'):g=g':=by have:=h.1.symm.trans a.1;simp only[Option.some.injEq,Obj.cells.injEq,and_true]at this;have:=List.append_cancel_left (congrArg Array.toList this);simpa using(List.cons.inj (List.cons.inj this).2).2
theorem vU(N:Geo C)(m:∀T y O g w,At T y O g w->jl C At T y O g w)(h:PI C At MAt S t){g':Gq}{s':Sh}(J:ShAt C w' s' S.g0)(K:s'.ok)(F:Eff C S.w w')(v:S.s.ms=0->s'.ms=0\/(mayWake C.P g=true/\g'.status=.running)):∃M:Nat->Bool,∀a,a<S.j->a≠k->∀o,S.gs[C.c0+a]?=some o->∀d,eU C At (S.bl a) (S.T a) (S.ys a) (S.tr a) (S.O a) o S.w S.s (S.q (C.c0+a)) d->eU C At (M a) (S.T a) (S.ys a) (S.tr a) (S.O a) (woken C.P g g' w' o) w' s' (S.q (C.c0+a)) d:=by obtain⟨cs,P⟩:=h.rc;(have H:∀a,∃b:Bool,a<S.j->a≠k->∀o,S.gs[C.c0+a]?=some o->∀d,eU C At (S.bl a) (S.T a) (S.ys a) (S.tr a) (S.O a) o S.w S.s (S.q (C.c0+a)) d->eU C At b (S.T a) (S.ys a) (S.tr a) (S.O a) (woken C.P g g' w' o) w' s' (S.q (C.c0+a)) d:=by intro a;by_cases hc:∃o d,a<S.j/\a≠k/\S.gs[C.c0+a]?=some o/\eU C At (S.bl a) (S.T a) (S.ys a) (S.tr a) (S.O a) o S.w S.s (S.q (C.c0+a)) d;(·obtain⟨o,d,c,z,u,s⟩:=hc;have r:Rl C (S.O a) (S.T a).own (S.T a).ag S.w w':=vm N h.sh J K P F (λb f=>(h.br.o a b f).1);obtain⟨b,f⟩:=s.other m (x:=g) (x':=g') r (s':=s') v;refine⟨b,λ_ _ U B R G=>?_⟩;rw[u]at B;cases B;obtain⟨b',j⟩:=G.other m (x:=g) (x':=g') r (s':=s') v;rcases f with f|⟨h1,I,q,D⟩|⟨h1,I,q,D,L⟩<;>rcases j with j|⟨i,p,Q,n⟩|⟨i,p,Q,n,A⟩;(·exact .inl j);(·exact absurd f.1 i);(·rw[f.1]at i;cases i);(·exact absurd j.1 h1);(·exact .inr (.inl ⟨i,p,q,n⟩));(·have l:=D.running (λ_ _ _ c=>(m _ _ _ _ _ c).run);obtain⟨E,e,_⟩:=A;rw[e]at l;cases l);(·rw[j.1]at h1;cases h1);(·have l:=n.running (λ_ _ _ c=>(m _ _ _ _ _ c).run);obtain⟨E,e,_⟩:=L;rw[e]at l;cases l);·exact .inr (.inr ⟨i,p,q,n,A⟩));·exact⟨false,λc z o u d s=>absurd ⟨o,d,c,z,u,s⟩ hc⟩);exact Classical.skolem.1 H
theorem Am(a:Geo C)(c:Eff C w w')(h:io C m w):io C m w':=λi b=>by rw[<-h i b];simp only[World.cell?,c.block C.Rc (Ne.symm a.kJ) (Ne.symm a.kx)]
theorem LB(l:k<S.j){T':Th}{s':Sh}(t:Mv C.N S.D.n (S.T k) S.s T' s')(w:TW (S.T k))(r:(S.T k).pc=.la->(S.T k).ct=false->(S.T k).ag=none){b:St}(e1:b.j=S.j)(e2:b.M=S.M)(f:b.T=ConcN.upd S.T k T')(g:b.s=s')(v:b.D=bu C (S.T k) S.D){q:Nat}(d:b.q=if T'.pc=.quit then ConcN.upd S.q (C.c0+k) q else S.q)(B:q<=C.qb){i:Tr}(u:b.tr=ConcN.upd S.tr k i)(A:b.ie=S.ie)(s:(S.T k).pc≠.quit):zM (b.meas C) (S.meas C):=by
 have o:sumTo C.c0 b.q=sumTo C.c0 S.q:=by rw[d];split;(·exact sumTo_congr λa E=>upd_ne _ _ HU);·rfl
 have D:sumTo S.j (λa=>phi (b.T a)+if(b.T a).pc=.quit then b.q (C.c0+a)else C.qb)+(phi (S.T k)+C.qb)<=sumTo S.j (λa=>phi (S.T a)+if(S.T a).pc=.quit then S.q (C.c0+a)else C.qb)+(phi T'+C.qb):=by have a1:=dL l (λa=>phi (b.T a)+if(b.T a).pc=.quit then b.q (C.c0+a)else C.qb);have a2:=dL l (λa=>phi (S.T a)+if(S.T a).pc=.quit then S.q (C.c0+a)else C.qb);(have a3:dH S.j k (λa=>phi (b.T a)+if(b.T a).pc=.quit then b.q (C.c0+a)else C.qb)=dH S.j k (λa=>phi (S.T a)+if(S.T a).pc=.quit then S.q (C.c0+a)else C.qb):=by unfold dH;refine sumTo_congr λa _=>?_;by_cases hak:a=k;(·rw[if_pos hak,if_pos hak]);·rw[if_neg hak,if_neg hak];(have h:b.T a=S.T a:=by rw[f];exact upd_ne _ _ hak);(have x2:b.q (C.c0+a)=S.q (C.c0+a):=by rw[d];split;(·exact upd_ne _ _ HU);·rfl);show phi (b.T a)+(if(b.T a).pc=.quit then b.q (C.c0+a)else C.qb)=phi (S.T a)+(if(S.T a).pc=.quit then S.q (C.c0+a)else C.qb);rw[h,x2]);(have h:b.T k=T':=by rw[f];exact upd_same _ _ _);(have a4:(phi (b.T k)+if(b.T k).pc=.quit then b.q (C.c0+k)else C.qb)<=phi T'+C.qb:=by rw[h];split;(·rename_i j;rw[d,if_pos j,upd_same];omega);·exact Nat.le_refl _);(have a5:(phi (S.T k)+if(S.T k).pc=.quit then S.q (C.c0+k)else C.qb)=phi (S.T k)+C.qb:=by rw[if_neg s]);rw[a1,a2,a3];(try dsimp only);rw[a5];omega
 have p:b.D.n=gK C.N S.D.n (S.T k):=by rw[v];exact rY C _ _
 rcases N3 t w r with j|⟨p1,n,z,y⟩;·refine .left _ _ ?_;show b.A C<S.A C;unfold St.A;rw[e1,e2,g,p,o];simp only[eh]at j;omega
 ·(have c:b.A C<=S.A C:=by unfold St.A;rw[e1,e2,g,p,o,n,z];omega);rcases Nat.lt_or_eq_of_le c with c|c;(·exact .left _ _ c);·unfold St.meas;rw[c];refine .right _ (.left _ _ ?_);(have e:b.X=S.X.set (k+1) (dV T' S.s.word,i):=by simp only[St.X,e1,e2,f,g,u,A,n,List.set_cons_succ];have:=EH S.j k (λ_(x:Nat×Tr)=>x) (λa=>(dV (S.T a) S.s.word,S.tr a)) (dV T' S.s.word,i);rw[<-this];congr 1;refine List.map_congr_left λa _=>?_;rcases dw S.T T' k a with⟨rfl,x⟩|⟨m,x⟩;(·rw[x,upd_same,upd_same]);·rw[x,upd_ne _ _ m,upd_ne _ _ m]);rw[e];exact zG (Jy l) (.left _ _ y)
end
section
variable{C:Cx}{At:Th->GC->(Nat->Prop)->Gq->HA->Prop}{MAt:Mt->Gq->HA->Prop}{Fin:Gq->Prop}{S:St}{t:Trace}{sl:CL}
theorem VD{P:Program}{q:Nat}(h:QuitsD P q 1 g):g.status=.running:=by cases q with|zero=>exact absurd h.2 (by simp)|succ q=>rcases h with⟨_,h0⟩|⟨h1,_⟩;exact absurd h0 HY;exact h1
def fW(C:Cx)(T:Th)(k:Nat)(o:Option Nat):Option Nat:=if T.pc=.la then some (C.c0+k)else if T.pc=.ur then none else o
def uw(C:Cx)(T:Th)(k n:Nat)(tk:Nat->Nat->Prop):Nat->Nat->Prop:=λa m=>tk a m\/(a=k/\m=n/\T.pc=.la/\T.ct=false/\n<C.N)
theorem PI.free(h:PI C At MAt S t)(d:k<S.j)(c:(S.T k).pc=.la):S.o=none:=by cases e:S.o with|none=>rfl|some i=>obtain⟨a,rfl,f,b⟩:=h.tok i e;have:=yF h.mi d f (by simp[bq,c]) (by simp[bq,b]);subst this;rw[c]at b;cases b
theorem PI.Nd(h:PI C At MAt S t){a:Nat}(c:k<S.j)(d:a<S.j)(e:a≠k)(f:(S.T a).pc=.ur):(S.T k).pc≠.la/\(S.T k).pc≠.ur:=by constructor;(·intro b;exact e (yF h.mi d c (by simp[bq,f]) (by simp[bq,b])));·intro b;exact e (yF h.mi d c (by simp[bq,f]) (by simp[bq,b]))
theorem af5{T:Th}{D y:GC}(h:T.pc=.la):(if T.pc=.la then upd C T D else y)=bu C T D:=by unfold bu;rw[if_pos h,if_pos h]
theorem abK(l:Geo C)(h:PI C At MAt S t)(f:k<S.j)(d:Deaf t (C.c0+k)=aK (S.T k)){T':Th}{s':Sh}(s:Mv C.N S.D.n (S.T k) S.s T' s'){es:Array Event}(e:EvStop C (S.T k) T' es)(fn:FuncId)(pos:String):TI C S.j (bu C (S.T k) S.D).n S.w.heap.size (ConcN.upd S.T k T') S.O (uw C (S.T k) k S.D.n S.tk) (fW C (S.T k) k S.o) (t++MemOp.ofEvents (C.c0+k) fn pos es)/\Deaf (t++MemOp.ofEvents (C.c0+k) fn pos es) (C.c0+k)=aK T'/\(∀i,i≠C.c0+k->Deaf (t++MemOp.ofEvents (C.c0+k) fn pos es) i=Deaf t i):=by obtain⟨f1,f2,_,_,p,u,y,_⟩:=Hh s;have j:∀i,i≠C.c0+k->Deaf (t++MemOp.ofEvents (C.c0+k) fn pos es) i=Deaf t i:=λi r=>Deaf_other t (Ne.symm r) _ fT;by_cases hla:(S.T k).pc=.la;(·(have g:es=#[mk (.acquire (muA C))]:=by simpa[EvStop,hla]using e);subst g;have c:=f1.2 hla;(have e1:fW C (S.T k) k S.o=some (C.c0+k):=by unfold fW;rw[if_pos hla]);rw[e1];have ti:=h.ti;rw[h.free f hla]at ti;refine⟨ti.la l h.br f (by rw[d];simp[aK,hla]) (u hla) fn pos (Jx C _ _) (λa m x=>.inl x) (λa m x=>?_),?_,j⟩;(·rcases x with x|⟨_,rfl,_⟩;(·exact .inl x);·exact .inr (Nat.le_refl _));·rw[Deaf_own,d];simp[deafBehind,mk,aK,hla,c]);·(have v:bu C (S.T k) S.D=S.D:=by unfold bu;rw[if_neg hla]);(have w:uw C (S.T k) k S.D.n S.tk=S.tk:=by funext a m;simp only[uw,hla,false_and,and_false,or_false]);rw[v,w];by_cases c:(S.T k).pc=.ur;(·(have g:es=#[mk (.releaseMerge (muA C))]:=by simpa[EvStop,c]using e);subst g;have o:=y c;(have e1:fW C (S.T k) k S.o=none:=by unfold fW;rw[if_neg hla,if_pos c]);rw[e1];have ti:=h.ti;rw[(h.ur k f c).1]at ti;refine⟨ti.ur l h.br (by rw[d];simp[aK,c]) (by simp[Th.gone,o]) fn pos,?_,j⟩;rw[Deaf_own,d];simp[deafBehind,mk,aK,c,o]);·(have e1:fW C (S.T k) k S.o=S.o:=by unfold fW;rw[if_neg hla,if_neg c]);rw[e1];by_cases hwr:(S.T k).pc=.wr;(·(have g:es=#[mk (.releaseMerge (dC C))]:=by simpa[EvStop,hwr]using e);subst g;have z:=p hwr;refine⟨h.ti.wr l h.br f (by rw[d];simp[aK,hwr]) fn pos,?_,j⟩;rw[Deaf_own,d];simp[deafBehind,mk,aK,hwr,z]);·(have q:gY C (aK (S.T k)) (aK T') es:=by unfold EvStop at e;split at e<;>first|contradiction|exact e);obtain⟨a,b⟩:=h.ti.book l h.br h.low f q d (T':=T') (λx=>(f2 x).resolve_right hwr) fn pos;exact⟨a,b,j⟩
theorem PI.stop(l:Geo C)(a7:∀T y O g w,At T y O g w->jl C At T y O g w)(hM:∀M g w,MAt M g w->je C At MAt Fin M g w)(h:PI C At MAt S t)(d:k<S.j)(hg:S.gs[C.c0+k]?=some g)(b1:Deaf t (C.c0+k)=aK (S.T k))(a9:At (S.T k) (S.ys k) (S.O k) g S.w)(hq:(S.T k).pc≠.quit)(b6:¬((S.T k).pc=.s1/\S.s.ms=0)):li C At MAt S t sl (C.c0+k):=by
 have g4:=l.c0;have L:=a7 _ _ _ _ _ a9;have au:=h.ok l;have aq:=aey h.mi h.wi h.jn l.pS d (h.tw k d);obtain⟨T',s',g',w',es,u,hs,U,z,ax,az⟩:=L.step S.s S.g0 h.sh aq b6 S.D (λF=>⟨h.bu (h.free d F),h.di.le,h.di.bound l.dl l.nN (by have:=h.jn;have:=l.pS;omega)⟩);obtain⟨f1,f2,f3,f4,f5,f6,f7,f8⟩:=Hh u;have Y:=(h.di.tj k d);have ae:=h.mi.step d u (h.tw k d) (h.a1 k d);have af:=h.wi.step d u;have Z:s'.ok:=vk ae af h.jn l.pS;have W:=az (by obtain⟨ak,ad⟩:=h.rc;exact⟨⟨s',S.g0,Z,U⟩,ak,(z.block _ (Ne.symm l.kJ) (Ne.symm l.kx)).trans ad.1,ad.2⟩);have b3:=ahy u d h.di;have aw:=agV u (h.tw k d) au.1 (IP h.mi d) (TH h.mi d);obtain⟨al,b2,a6⟩:=abK (fn:=g.frame.fn) (pos:=g.frame.place) l h d b1 u ax;obtain⟨R,B,av,a8,ay⟩:∃R B,B<=C.qb/\g'.status=.running/\eU C At false T' (if(S.T k).pc=.la then upd C (S.T k) S.D else S.ys k) R (S.O k) g' w' s' B (aK T'):=by unfold iI at W;split at W;(·rename_i F;obtain⟨q,b0,hQ⟩:=W;(have e:aK T'=1:=by simp[aK,F]);exact⟨.leaf,q,b0,VD hQ,.inl ⟨F,by rw[e];exact hQ⟩⟩);·rename_i F;obtain⟨tr,aa⟩:=W;exact⟨tr,0,Nat.zero_le _,aa.running (λ_ _ _ j=>(a7 _ _ _ _ _ j).run),.inr (.inl ⟨F,rfl,rfl,aa⟩)⟩
 obtain⟨cs,a3⟩:=h.rc;have b4:w'.heap[C.Rc]?=S.w.heap[C.Rc]?:=z.block _ (Ne.symm l.kJ) (Ne.symm l.kx);have b5:(C.c0+k==0)=false:=by simp;omega
 have b7:=runT_crowd_go (P:=C.P) (sl:=sl) hg (show stepG C.P (C.c0+k==0) g S.w=_ by rw[b5];exact hs);obtain⟨a4,b9⟩:=vU (k:=k) l a7 h (g:=g) (g':=g') U Z z (λe=>(f3 e).imp id λx=>⟨L.E6 (.inl x),a8⟩);obtain⟨gm,am,an⟩:=h.ms;obtain⟨ao,ap⟩:=an.other hM (x:=g) (x':=g') (vm l h.sh U Z a3 z (λb J=>J.elim)) (s':=s') (λe=>(f4 e).imp id λx=>⟨L.E6 (.inr x),a8⟩);have V:∀a,(a=k/\ConcN.upd S.T k T' a=T')\/(a≠k/\ConcN.upd S.T k T' a=S.T a):=dw S.T T' k;refine⟨{S with gs:=put C.P S.gs (C.c0+k) g g' w',w:=w',T:=ConcN.upd S.T k T',ys:=ConcN.upd S.ys k (if(S.T k).pc=.la then upd C (S.T k) S.D else S.ys k),D:=Ph.bu C (S.T k) S.D,s:=s',tk:=uw C (S.T k) k S.D.n S.tk,tr:=ConcN.upd S.tr k R,bl:=ConcN.upd a4 k false,fJ:=ao,q:=if T'.pc=.quit then ConcN.upd S.q (C.c0+k) B else S.q,o:=fW C (S.T k) k S.o},_,b7,LB d u (h.tw k d) (λe1 e2=>Y.ve e2 (by rw[e1];rfl)) rfl rfl rfl rfl rfl rfl av rfl rfl hq,?_⟩;have ar:(if T'.pc=.quit then ConcN.upd S.q (C.c0+k) B else S.q) (C.c0+k)=(if T'.pc=.quit then B else S.q (C.c0+k)):=by split;(·exact upd_same _ _ _);·rfl
 have aj:∀i,i≠C.c0+k->(if T'.pc=.quit then ConcN.upd S.q (C.c0+k) B else S.q) i=S.q i:=λi hi=>by split;(·exact upd_ne _ _ hi);·rfl
 refine⟨by rw[<-h.size];exact kW,h.jn,h.iX,U,⟨cs,b4.trans a3.1,a3.2⟩,by show C.low<=w'.heap.size;rw[z.size];exact h.low,λE=>?_,λi E=>?_,λa j Q=>?_,ae,λa j=>?_,λa j F hx=>?_,λhl=>?_,af,b3,λm v=>?_,?_,λa m v=>?_,λa j m v=>?_,h.oj,λa j=>?_,λi hi hc=>?_,⟨_,dv HU am,ap⟩,?_,?_,h.base.trans (vm l h.sh U Z a3 z (λb J=>J.elim))⟩;·have r:fW C (S.T k) k S.o=none:=E;unfold fW at r;by_cases A:(S.T k).pc=.la;(·rw[if_pos A]at r;cases r);·rw[if_neg A]at r;(have ed:Ph.bu C (S.T k) S.D=S.D:=by unfold Ph.bu;rw[if_neg A]);show S.g0=fV (Ph.bu C (S.T k) S.D);rw[ed];by_cases hur:(S.T k).pc=.ur;(·obtain⟨x,ms,hc⟩:=L.left hur;rw[Us h.sh.1 hc,(h.ur k d hur).2]);·rw[if_neg hur]at r;exact h.bu r
 ·have r:fW C (S.T k) k S.o=some i:=E;unfold fW at r;by_cases A:(S.T k).pc=.la;(·rw[if_pos A]at r;cases r;exact⟨k,rfl,d,by show(ConcN.upd S.T k T' k).pc=.ur;rw[upd_same];exact f1.2 A⟩);·rw[if_neg A]at r;by_cases hur:(S.T k).pc=.ur;(·rw[if_pos hur]at r;cases r);·rw[if_neg hur]at r;obtain⟨a,e,j,Q⟩:=h.tok i r;refine⟨a,e,j,?_⟩;show(ConcN.upd S.T k T' a).pc=.ur;rw[upd_ne _ _ (λe=>by rw[e]at Q;exact hur Q)];exact Q
 ·have a2:(ConcN.upd S.T k T' a).pc=.ur:=Q;show fW C (S.T k) k S.o=some (C.c0+a)/\ConcN.upd S.ys k _ a=Ph.bu C (S.T k) S.D;rcases V a with⟨K,e⟩|⟨G,e⟩<;>rw[e]at a2;(·have A:=f1.1 a2;rw[K,upd_same,af5 A];exact⟨by unfold fW;rw[if_pos A],rfl⟩);·obtain⟨n1,n2⟩:=h.Nd d j G a2;obtain⟨o1,o2⟩:=h.ur a j a2;rw[upd_ne _ _ G];refine⟨by unfold fW;rw[if_neg n1,if_neg n2];exact o1,?_⟩;rw[o2];unfold Ph.bu;rw[if_neg n1]
 ·show TW (ConcN.upd S.T k T' a);rcases V a with⟨_,e⟩|⟨_,e⟩<;>rw[e];(·exact aw);·exact h.tw a j
 ·have X:(ConcN.upd S.T k T' a).pc=.a1:=F;have a5:(ConcN.upd S.T k T' a).ex=false:=hx;rcases V a with⟨_,e⟩|⟨G,e⟩<;>rw[e]at X a5;(·obtain⟨_,r2,r3⟩:=WS u (λe=>(h.mi.Bu e).2.2.2.2) X a5;show 2<=s'.word.w;rw[r2];exact r3);·have w2:=h.a1 a j X a5;have ma:=h.mi.split j;(have J:bj (S.T a)=1:=by simp[bj,X]);(have ab:S.s.word.s=1:=by rcases Nat.lt_or_ge S.s.word.s 1 with H|bc;(·have:=ma.calm HU;omega);·have:=ma.s1;omega);have a9:=ma.Bu ab;(have bd:bj (S.T k)<=dH S.j a (λx=>bj (S.T x)):=by have:=le_sumTo (f:=λx=>if x=a then 0 else bj (S.T x)) (i:=k) d;simp only[if_neg (Ne.symm G)]at this;exact this);(have be:bq (S.T k)<=dH S.j a (λx=>bq (S.T x)):=by have:=le_sumTo (f:=λx=>if x=a then 0 else bq (S.T x)) (i:=k) d;simp only[if_neg (Ne.symm G)]at this;exact this);have ai:=ma.ai;exact VJ u (h.tw k d) ab HU HU w2
 ·rcases agv u hl with⟨l1,l2⟩|l2;(·obtain⟨a,j,p1,I⟩:=h.lone (by rw[<-l1];exact hl);have G:a≠k:=λe=>l2 (by rw[<-e];exact⟨p1,I⟩);refine⟨a,j,?_⟩;show(ConcN.upd S.T k T' a).pc=.uc/\(ConcN.upd S.T k T' a).old=s'.word;rw[upd_ne _ _ G,l1];exact⟨p1,I⟩);·refine⟨k,d,?_⟩;show(ConcN.upd S.T k T' k).pc=.uc/\(ConcN.upd S.T k T' k).old=s'.word;rw[upd_same];exact l2
 ·obtain⟨_,a0⟩:=xr u Y;show(∃a,a<S.j/\(ConcN.upd S.T k T' a).ag=some m/\hold (ConcN.upd S.T k T' a))\/io C m w';have c:m<(Ph.bu C (S.T k) S.D).n:=v;by_cases H:m<S.D.n;(·rcases h.aU m H with⟨a,j,N,p⟩|hr;(·by_cases hak:a=k;(·subst hak;have put:T'.ag=some m->hold T'->(∃b,b<S.j/\(ConcN.upd S.T a T' b).ag=some m/\hold (ConcN.upd S.T a T' b))\/io C m w':=λx y=>.inl ⟨a,j,by rw[upd_same];exact⟨x,y⟩⟩;rcases a0 with⟨c1,c2,c3,c4,c5,c6⟩|⟨c1,c2,c3,_⟩|⟨c1,c2,_⟩|⟨c1,c2,_⟩|⟨c1,c2,c3,c4,c5,_⟩;(·rcases c5 p with x|x;(·exact put (c1.trans N) x);·cases ah:(S.T a).ct with|true=>exact .inr (Am l z (L.written x ah m N))|false=>have:=Y.ve ah (by rw[x];rfl);rw[N]at this;cases this);(·rw[N]at c3;cases c3);(·rcases p with p|p;(·rw[c2]at p;cases p);·rw[c1]at p;cases p);(·rcases p with p|p;(·rw[c2]at p;cases p);·rw[c1]at p;cases p);·exact put (c3.trans N) c5);·exact .inl ⟨a,j,by rw[upd_ne _ _ hak];exact⟨N,p⟩⟩);·exact .inr (Am l z hr));·rcases a0 with⟨_,_,c3,_⟩|⟨c1,c2,c3,c4,c5,c6,c7,c8⟩|⟨c1,c2,_⟩|⟨c1,_⟩|⟨c1,_⟩;(·unfold Ph.bu at c;rw[if_neg c3]at c;exact absurd c H);(·rcases c8 with⟨n1,n2⟩|⟨n1,n2⟩;(·(have:m=S.D.n:=by rw[rY]at c;unfold gK at c;split at c<;>omega);exact .inl ⟨k,d,by rw[upd_same,this];exact⟨n2,.inl c6⟩⟩);·rw[rY]at c;unfold gK at c;rw[if_neg (λx=>n1 x.2.2)]at c;exact absurd c H);(·rw[rY]at c;unfold gK at c;rw[if_neg (λx=>by rw[c2]at x;exact absurd x.2.1 HY)]at c;exact absurd c H);(·unfold Ph.bu at c;rw[if_neg (by rw[c1];simp)]at c;exact absurd c H);·unfold Ph.bu at c;rw[if_neg (by rw[c1];simp)]at c;exact absurd c H
 ·refine⟨λa b J=>?_,h.br.d,λa a' m v c=>?_⟩;(·show C.low<=b/\b<w'.heap.size;rw[z.size];exact h.br.o a b J);·rcases v with v|⟨e1,e2,_⟩<;>rcases c with c|⟨b8,bb,_⟩;(·exact h.br.t a a' m v c);(·have:=h.iE a m v;omega);(·have:=h.iE a' m c;omega);·rw[e1,b8]
 ·rcases v with v|⟨_,e2,e3,e4,e5⟩;(·exact Nat.lt_of_lt_of_le (h.iE a m v) (Jx C _ _));·show m<(Ph.bu C (S.T k) S.D).n;rw[rY];unfold gK;rw[if_pos ⟨e3,e4,e5⟩];omega
 ·have c:(ConcN.upd S.T k T' a).ag=some m:=v;rcases V a with⟨K,e⟩|⟨_,e⟩<;>rw[e]at c;(·obtain⟨_,a0⟩:=xr u Y;rcases a0 with⟨c1,_⟩|⟨c1,c2,c3,c4,c5,c6,c7,c8⟩|⟨c1,c2,c3,c4,c5,_⟩|⟨_,_,_,c4,_⟩|⟨_,_,c3,_⟩;(·exact .inl (by rw[K];exact h.gR k d m (c1.symm.trans c)));(·rcases c8 with⟨n1,n2⟩|⟨n1,n2⟩;(·rw[n2]at c;cases c;exact .inr ⟨K,rfl,c1,c2,n1⟩);·rw[n2]at c;cases c);(·exact .inl (by rw[K];exact h.gR k d m (c5.symm.trans c)));(·rw[c4]at c;cases c);·exact .inl (by rw[K];exact h.gR k d m (c3.symm.trans c)));·exact .inl (h.gR a j m c)
 ·by_cases hak:a=k;(·subst hak;refine⟨g',gQ hg,?_⟩;show eU C At (ConcN.upd a4 a false a) (ConcN.upd S.T a T' a) (ConcN.upd S.ys a _ a) (ConcN.upd S.tr a R a) (S.O a) g' w' s' ((if T'.pc=.quit then ConcN.upd S.q (C.c0+a) B else S.q) (C.c0+a)) _;rw[upd_same,upd_same,upd_same,upd_same,ar,b2];rcases ay with⟨p1,I⟩|⟨p1,I,p3,p4⟩|⟨_,_,p3,_⟩;(·exact .inl ⟨p1,by rw[if_pos p1];exact I⟩);(·exact .inr (.inl ⟨p1,I,p3,p4⟩));·cases p3);·obtain⟨o,E,ba⟩:=h.gS a j;refine⟨_,dv HU E,?_⟩;show eU C At (ConcN.upd a4 k false a) (ConcN.upd S.T k T' a) (ConcN.upd S.ys k _ a) (ConcN.upd S.tr k R a) (S.O a) _ w' s' ((if T'.pc=.quit then ConcN.upd S.q (C.c0+k) B else S.q) (C.c0+a)) _;rw[upd_ne _ _ hak,upd_ne _ _ hak,upd_ne _ _ hak,upd_ne _ _ hak,aj _ HU,a6 _ HU];exact b9 a j hak o E _ ba
 ·obtain⟨o,E,ac⟩:=h.lv i hi hc;refine⟨o,by rw[dv HU E,woken_quitsD ac],?_⟩;show QuitsD C.P ((if T'.pc=.quit then ConcN.upd S.q (C.c0+k) B else S.q) i) _ o;rw[aj _ HU,a6 _ HU];exact ac
 ·rw[a6 0 HU];exact h.d0
 ·show TI C S.j _ w'.heap.size _ _ _ _ _;rw[z.size];exact al
end
section
variable{C:Cx}{At:Th->GC->(Nat->Prop)->Gq->HA->Prop}{MAt:Mt->Gq->HA->Prop}{Fin:Gq->Prop}{S:St}{t:Trace}{sl:CL}
theorem PI.hH(j:Geo C)(U:∀T y O g w,At T y O g w->jl C At T y O g w)(X:∀M g w,MAt M g w->je C At MAt Fin M g w)(h:PI C At MAt S t){i:Nat}(hi:0<i)(v:i<C.c0\/∃k,k<S.j/\i=C.c0+k/\(S.T k).pc=.quit)(z:S.gs[i]?=some g)(p:g.status=.running)(r:QuitsD C.P (S.q i) (Deaf t i) g):li C At MAt S t sl i:=by have Z:=j.c0;cases l:S.q i with|zero=>rw[l]at r;rw[r.1]at p;cases p|succ n=>rw[l]at r;rcases r with⟨R,_⟩|⟨_,g',es,V,F,D⟩;(·rw[R]at p;cases p);(have G:(i==0)=false:=by simp;omega);have I:=runT_crowd_go (P:=C.P) (sl:=sl) z (show stepG C.P (i==0) g S.w=_ by rw[G];exact F S.w);obtain⟨B,H⟩:=vU (k:=if i<C.c0 then S.j else i-C.c0) j U h (g:=g) (g':=g') h.sh (h.ok j) (Eff.refl _) (λe=>.inl e);obtain⟨gm,J,K⟩:=h.ms;obtain⟨L,N⟩:=K.other X (x:=g) (x':=g') (Rl.refl _ _ _ _) (s':=S.s) (λe=>.inl e);have Q:=h.br.apart j;have u:∀a,a≠i->Deaf (t++MemOp.ofEvents i g.frame.fn g.frame.place es) a=Deaf t a:=λa c=>Deaf_other t (Ne.symm c) _ fT;have E:Deaf (t++MemOp.ofEvents i g.frame.fn g.frame.place es) i=deafBehind (Deaf t i) es:=Deaf_own .. ;refine⟨{S with gs:=put C.P S.gs i g g' S.w,bl:=B,fJ:=L,q:=ConcN.upd S.q i n},_,I,.left _ _ ?_,?_⟩;(·show St.A C _<St.A C S;unfold St.A;rcases v with d|⟨k,m,rfl,f⟩;(·(have e1:sumTo C.c0 (ConcN.upd S.q i n)+(n+1)=sumTo C.c0 S.q+n:=by have:=sumTo_upd S.q n id d;simpa[l]using this);(have e2:sumTo S.j (λa=>phi (S.T a)+if(S.T a).pc=.quit then ConcN.upd S.q i n (C.c0+a)else C.qb)=sumTo S.j (λa=>phi (S.T a)+if(S.T a).pc=.quit then S.q (C.c0+a)else C.qb):=sumTo_congr λa _=>by rw[upd_ne _ _ (show C.c0+a≠i by omega)]);simp only[e2];omega);·have e1:sumTo C.c0 (ConcN.upd S.q (C.c0+k) n)=sumTo C.c0 S.q:=sumTo_congr λa c=>upd_ne _ _ HU;have a1:=dL m (λa=>phi (S.T a)+if(S.T a).pc=.quit then ConcN.upd S.q (C.c0+k) n (C.c0+a)else C.qb);have a2:=dL m (λa=>phi (S.T a)+if(S.T a).pc=.quit then S.q (C.c0+a)else C.qb);(have a3:dH S.j k (λa=>phi (S.T a)+if(S.T a).pc=.quit then ConcN.upd S.q (C.c0+k) n (C.c0+a)else C.qb)=dH S.j k (λa=>phi (S.T a)+if(S.T a).pc=.quit then S.q (C.c0+a)else C.qb):=by unfold dH;refine sumTo_congr λa _=>?_;by_cases hak:a=k;(·rw[if_pos hak,if_pos hak]);·rw[if_neg hak,if_neg hak];show phi (S.T a)+(if(S.T a).pc=.quit then ConcN.upd S.q (C.c0+k) n (C.c0+a)else C.qb)=phi (S.T a)+(if(S.T a).pc=.quit then S.q (C.c0+a)else C.qb);rw[upd_ne _ _ (show C.c0+a≠C.c0+k by omega)]);simp only[f,if_true,upd_same,l]at a1 a2;simp only[e1,a1,a2,a3];omega);·refine⟨by rw[<-h.size];exact kW,h.jn,h.iX,h.sh,h.rc,h.low,h.bu,h.tok,h.ur,h.mi,h.tw,h.a1,h.lone,h.wi,h.di,h.aU,h.br,h.iE,h.gR,h.oj,λa c=>?_,λb W d=>?_,⟨_,dv HU J,N⟩,by rw[u 0 HU];exact h.d0,h.ti.hH Q HU ?_ V _ _,h.base⟩;(·by_cases hai:C.c0+a=i;(·(have f:(S.T a).pc=.quit:=by rcases v with d|⟨k,m,e,f⟩;(·omega);·have:a=k:=HU;rw[this];exact f);refine⟨g',by rw[hai];exact gQ z,.inl ⟨f,?_⟩⟩;show QuitsD C.P (ConcN.upd S.q i n (C.c0+a)) _ g';rw[hai,upd_same,E];exact D);·obtain⟨o,s,Y⟩:=h.gS a c;refine⟨_,dv hai s,?_⟩;show eU C At (B a) (S.T a) (S.ys a) (S.tr a) (S.O a) _ S.w S.s (ConcN.upd S.q i n (C.c0+a)) _;rw[upd_ne _ _ hai,u _ hai];have a0:a<S.j:=c;exact H a c (by split<;>omega) o s _ Y);(·by_cases hbi:b=i;(·subst hbi;refine⟨g',gQ z,?_⟩;show QuitsD C.P (ConcN.upd S.q b n b) _ g';rw[upd_same,E];exact D);·obtain⟨o,s,A⟩:=h.lv b W d;refine⟨o,by rw[dv hbi s,woken_quitsD A],?_⟩;show QuitsD C.P (ConcN.upd S.q i n b) _ o;rw[upd_ne _ _ hbi,u _ hbi];exact A);·rcases v with d|⟨k,m,e,_⟩<;>omega
theorem PI.agO(d:Geo C)(q:∀T y O g w,At T y O g w->jl C At T y O g w)(h:PI C At MAt S t){c:Gq}(l:S.gs[0]?=some g){n:Nat}(m:S.ie=jp (n+1))(x:Ck C g c)(p:ia C MAt S.M n c S.w):li C At MAt S t sl 0:=by have D:=d.c0;have r:=runT_crowd_go (P:=C.P) (sl:=sl) l (show stepG C.P (0==0) g S.w=_ from x.2.2 true S.w ⟨⟨S.s,S.g0,h.ok d,h.sh⟩,h.rc⟩);have s:MemOp.ofEvents 0 g.frame.fn g.frame.place #[]=#[]:=rfl;obtain⟨u,v⟩:=vU (k:=S.j) d q h (g:=g) (g':=c) h.sh (h.ok d) (Eff.refl _) (λe=>.inl e);refine⟨{S with gs:=put C.P S.gs 0 g c S.w,bl:=u,fJ:=false,ie:=jp n},_,r,.right _ (.left _ _ (.head (.right _ ?_))),?_⟩;(·show rf (jp n) S.ie;rw[m];exact .mk (λ_=>jp n) S.w);·rw[s,Array.append_empty];refine⟨by rw[<-h.size];exact kW,h.jn,h.iX,h.sh,h.rc,h.low,h.bu,h.tok,h.ur,h.mi,h.tw,h.a1,h.lone,h.wi,h.di,h.aU,h.br,h.iE,h.gR,h.oj,λa i=>?_,λb z A=>?_,⟨_,gQ l,.inl ⟨rfl,n,rfl,p⟩⟩,h.d0,h.ti,h.base⟩;(·obtain⟨o,f,B⟩:=h.gS a i;have E:a<S.j:=i;exact⟨_,dv HU f,v a i HU o f _ B⟩);·obtain⟨o,f,j⟩:=h.lv b z A;exact⟨o,by rw[dv HU f,woken_quitsD j],j⟩
theorem PI.afh(u:Geo C)(h:PI C At MAt S t)(f:S.gs[0]?=some g)(l:S.M.pc=.w3)(s:S.s.ws=0)(d:S.fJ=false)(k:S.ie=.leaf)(m:∀e,Rl C iq false none S.w e->MAt S.M g e)(n:stepG C.P true g S.w=.go {g with status:=.blocked} S.w #[]):li C At MAt S t sl 0:=by have x:=u.c0;have q:=runT_crowd_go (P:=C.P) (sl:=sl) f (show stepG C.P (0==0) g S.w=_ from n);have r:MemOp.ofEvents 0 g.frame.fn g.frame.place #[]=#[]:=rfl;have i:∀o,woken C.P g {g with status:=.blocked} S.w o=o:=λo=>I0 rfl;refine⟨{S with gs:=put C.P S.gs 0 g {g with status:=.blocked} S.w,fJ:=true},_,q,.right _ (.right _ ?_),?_⟩;(·show sumTo S.j (λa=>if S.bl a then 0 else 1)+0<sumTo S.j (λa=>if S.bl a then 0 else 1)+(if S.fJ then 0 else 1);simp[d]);·rw[r,Array.append_empty];refine⟨by rw[<-h.size];exact kW,h.jn,h.iX,h.sh,h.rc,h.low,h.bu,h.tok,h.ur,h.mi,h.tw,h.a1,h.lone,h.wi,h.di,h.aU,h.br,h.iE,h.gR,h.oj,λa p=>?_,λb d v=>?_,⟨_,gQ f,.inr ⟨l,rfl,s,k,g,rfl,m⟩⟩,h.d0,h.ti,h.base⟩;(·obtain⟨o,c,w⟩:=h.gS a p;exact⟨o,by rw[dv HU c,i],w⟩);·obtain⟨o,c,j⟩:=h.lv b d v;exact⟨o,by rw[dv HU c,i],j⟩
theorem VI(e:Geo C)(h:PI C At MAt S t):oR S.M S.s:=by
 have w2:=h.wi.uf;have f:=h.wi.w2;have g:=h.wi.fin;have i:=e.pS;refine⟨h.ok e,λd=>?_,λd=>?_,λd=>?_,λd=>?_⟩;·simp only[bR,d]at w2;omega
 ·simp only[bR,d]at w2;omega
 ·obtain⟨a,b,c⟩:=f d;exact⟨a,b,HU⟩
 ·simp only[bR,d]at w2;exact⟨g (by simp[cD,d]),HU⟩
theorem PI.afY(c:Geo C)(a2:∀T y O g w,At T y O g w->jl C At T y O g w)(J:∀M g w,MAt M g w->je C At MAt Fin M g w)(h:PI C At MAt S t)(A:S.gs[0]?=some g)(N:MAt S.M g S.w)(a1:S.M.pc≠.mg)(W:S.M.pc≠.aq)(Y:¬(S.M.pc=.w3/\S.s.ws=0)):li C At MAt S t sl 0:=by
 have g4:=c.c0;have L:=J _ _ _ N;obtain⟨j,s',g',w',es,p,V,u,f,Z,n,a0⟩:=L.step S.s S.g0 h.sh (VI c h) a1 W Y;obtain⟨i1,i2,i3⟩:=Ut p;have B:gT C.n S.j j S.T s':=agt p h.wi;have D:eV S.j S.T s':=by unfold eV;rw[i2,i3];exact h.mi
 have E:s'.ok:=vk D B h.jn c.pS;obtain⟨cs,r⟩:=h.rc;have a3:w'.heap[C.Rc]?=S.w.heap[C.Rc]?:=f.block _ (Ne.symm c.kJ) (Ne.symm c.kx);have K:=runT_crowd_go (P:=C.P) (sl:=sl) A (show stepG C.P (0==0) g S.w=_ from V);obtain⟨x,Q⟩:=vU (k:=S.j) c a2 h (g:=g) (g':=g') u E f (λe=>.inl (by rw[i3];exact e));obtain⟨R,U⟩:=agS Z;have z:∀a,a≠0->Deaf (t++MemOp.ofEvents 0 g.frame.fn g.frame.place es) a=Deaf t a:=λa d=>Deaf_other t (Ne.symm d) _ fT;have X:Deaf (t++MemOp.ofEvents 0 g.frame.fn g.frame.place es) 0=cV j:=by rw[Deaf_own,h.d0,U];split;(·rename_i i;cases p<;>rename_i G<;>rcases i with i|i<;>first|(rw[i]at G;cases G;done)|(rename_i F;rw[i]at F;cases F;done)|simp[cV,i]);·rfl
 refine⟨{S with gs:=put C.P S.gs 0 g g' w',w:=w',M:=j,s:=s',bl:=x,fJ:=false,ie:=jp n},_,K,?_,?_⟩;·rcases abe p with i|⟨p1,H,p3⟩;(·refine .left _ _ ?_;show St.A C _<St.A C S;unfold St.A;simp only[i3];omega);·(have e:(St.A C {S with gs:=put C.P S.gs 0 g g' w',w:=w',M:=j,s:=s',bl:=x,fJ:=false,ie:=jp n})=St.A C S:=by unfold St.A;simp only[p1,H]);unfold St.meas;rw[e];refine .right _ (.left _ _ ?_);show One ((nf j s',jp n)::(List.range S.j).map λk=>(dV (S.T k) s'.word,S.tr k)) ((nf S.M S.s,S.ie)::(List.range S.j).map λk=>(dV (S.T k) S.s.word,S.tr k));rw[H];exact .head (.left _ _ p3)
 ·refine⟨by rw[<-h.size];exact kW,h.jn,i1.trans h.iX,u,⟨cs,a3.trans r.1,r.2⟩,by show C.low<=w'.heap.size;rw[f.size];exact h.low,h.bu,h.tok,h.ur,D,h.tw,λa d=>by show _->_->2<=s'.word.w;rw[i2];exact h.a1 a d,λhl=>?_,B,h.di,λm hm=>(h.aU m hm).imp id (Am c f),⟨λa b l=>?_,h.br.d,h.br.t⟩,h.iE,h.gR,h.oj,λa d=>?_,λb l hc=>?_,⟨_,gQ A,.inl ⟨rfl,n,rfl,a0⟩⟩,X,?_,h.base.trans (vm c h.sh u E r f (λb l=>l.elim))⟩;(·have I:s'.word.lone:=hl;rw[i2]at I;show∃k,k<S.j/\(S.T k).pc=.uc/\(S.T k).old=s'.word;rw[i2];exact h.lone I);(·show C.low<=b/\b<w'.heap.size;rw[f.size];exact h.br.o a b l);(·obtain⟨o,q,a4⟩:=h.gS a d;refine⟨_,dv HU q,?_⟩;have a5:a<S.j:=d;rw[z _ HU];exact Q a d HU o q _ a4);(·obtain⟨o,q,v⟩:=h.lv b l hc;refine⟨o,by rw[dv HU q,woken_quitsD v],?_⟩;rw[z _ HU];exact v);·show TI C S.j _ w'.heap.size _ _ _ _ _;rw[f.size];exact h.ti.YB c h.br h.low R _ _
end
theorem kM(T:Nat->α)(T':α)(b:α->Nat)(j:Nat):sumTo (j+1) (λa=>b (ConcN.upd T j T' a))=sumTo j (λa=>b (T a))+b T':=by simp only[sumTo,upd_same];rw[sumTo_upd_out T T' b (Nat.le_refl _)]
theorem agY(T:Nat->α)(T':α)(b:α->Int)(j:Nat):cG (j+1) (λa=>b (ConcN.upd T j T' a))=cG j (λa=>b (T a))+b T':=by simp only[cG,upd_same];rw[xX (g:=λa=>b (T a)) λa c=>by rw[upd_ne _ _ HU]]
theorem Ki{f:Nat->Nat}(b:∀a,f a<=1):∀{j:Nat},sumTo j f=j->∀a,a<j->f a=1|0,_,a,c=>by omega|j+1,h,a,c=>by have h1:=uH (j:=j) b;have g:=b j;simp only[sumTo]at h;rcases Nat.lt_or_ge a j with d|e;(·exact Ki b HU a d);·have:a=j:=HU;rw[this];omega
section
variable{C:Cx}{At:Th->GC->(Nat->Prop)->Gq->HA->Prop}{MAt:Mt->Gq->HA->Prop}{Fin:Gq->Prop}{S:St}{t:Trace}{sl:CL}
/-- THE go STATEMENT -/
theorem PI.fork (J : Geo C) (hM : ∀ M g w, MAt M g w → je C At MAt Fin M g w) (h : PI C At MAt S t) (Y : S.gs[0]? = some g) (a0 : MAt S.M g S.w) (u : S.M.pc = .mg) : li C At MAt S t sl 0 := by
  have g4 := J.c0
  have L := hM _ _ _ a0
  have Q : S.j < C.n := h.wi.fork (by simp [cA, u])
  obtain ⟨g', f, hs, a5, a6, ⟨n, Z⟩, B⟩ := L.fork u (by rw [h.iX]; exact Q)
  obtain ⟨A, B⟩ := B S.D
  have O := runT_crowd_spawn (P := C.P) (sl := sl) Y (show stepG C.P (0 == 0) g S.w = _ from hs)
  have a2 : ((MemOp.ofEvents 0 g.frame.fn g.frame.place #[]).push { g := 0, fn := g.frame.fn, pos := g.frame.place, act := .go S.gs.size } |>.push { g := S.gs.size, fn := f.frame.fn, pos := g.frame.place, act := .start }) =
      #[({ g := 0, fn := g.frame.fn, pos := g.frame.place, act := .go (C.c0 + S.j) } : MemOp), { g := C.c0 + S.j, fn := f.frame.fn, pos := g.frame.place, act := .start }] := by rw [h.size]; rfl
  rw [a2] at O
  have h0 : Deaf t 0 = 0 := by rw [h.d0]; simp [cV, u]
  have l : ∀ a, (a = S.j ∧ ConcN.upd S.T S.j ({ pc := .ld } : Th) a = { pc := .ld }) ∨ (a ≠ S.j ∧ ConcN.upd S.T S.j ({ pc := .ld } : Th) a = S.T a) := dw S.T _ S.j
  have E : 0 < S.gs.size := by rw [h.size]; omega
  have U : ∀ a o, a ≠ 0 → S.gs[a]? = some o → ((S.gs.setIfInBounds 0 g').push f)[a]? = some o := fun a o c d => by
    have X := (J2.1 d).1
    rw [Array.getElem?_push_lt (by simpa using X), ← Array.getElem?_eq_getElem (by simpa using X), Array.getElem?_setIfInBounds_ne (Ne.symm c)]
    exact d
  have hO : S.O S.j = iq := by
    funext b
    exact eq_false fun r => Nat.lt_irrefl _ (h.oj _ b r)
  refine ⟨{ S with j := S.j + 1, gs := (S.gs.setIfInBounds 0 g').push f, M := { pc := if S.M.i + 1 < C.n then .md else .kd, i := S.M.i + 1 }, T := ConcN.upd S.T S.j { pc := .ld }, ys := ConcN.upd S.ys S.j S.D, tr := ConcN.upd S.tr S.j A, ie := jp n, bl := ConcN.upd S.bl S.j false, fJ := false }, _, O, .left _ _ ?_, ?_⟩
  · show St.A C _ < St.A C S
    unfold St.A
    have e1 : sumTo (S.j + 1) (fun a => phi (ConcN.upd S.T S.j { pc := .ld } a) + if (ConcN.upd S.T S.j { pc := .ld } a).pc = .quit then S.q (C.c0 + a) else C.qb) = sumTo S.j (fun a => phi (S.T a) + if (S.T a).pc = .quit then S.q (C.c0 + a) else C.qb) + (60 + C.qb) := by
      simp only [sumTo, upd_same]
      rw [sumTo_congr (g := fun a => phi (S.T a) + if (S.T a).pc = .quit then S.q (C.c0 + a) else C.qb) fun a c => by rw [upd_ne _ _ HU]]
      rfl
    have e2 : eA (if S.M.i + 1 < C.n then Mc.md else .kd) ≤ 10 := by split <;> simp [eA]
    have e3 : eA S.M.pc = 2 := by rw [u]; rfl
    have e4 : (70 + C.qb) * (C.n - S.j) = (70 + C.qb) * (C.n - (S.j + 1)) + (70 + C.qb) := by
      have : C.n - S.j = C.n - (S.j + 1) + 1 := by omega
      rw [this, Nat.mul_add, Nat.mul_one]
    simp only [e1, e3, e4]
    omega
  · refine ⟨by show ((S.gs.setIfInBounds 0 g').push f).size = C.c0 + (S.j + 1); simp [h.size]; omega, Q, by show S.M.i + 1 = S.j + 1; rw [h.iX], h.sh, h.rc, h.low, h.bu, fun i d => ?_, fun a c z => ?_, ?_, fun a c => ?_, fun a c hx => ?_, fun hl => ?_, ?_, ?_, fun m q => ?_, h.br, h.iE, fun a c m q => ?_, fun k b r => Nat.lt_succ_of_lt (h.oj k b r), fun a c => ?_, fun b r v => ?_, ⟨g', ?_, .inl ⟨rfl, n, rfl, Z⟩⟩, ?_, ?_, h.base⟩
    · obtain ⟨k, e, s, z⟩ := h.tok i d
      refine ⟨k, e, Nat.lt_succ_of_lt s, ?_⟩
      show (ConcN.upd S.T S.j _ k).pc = .ur
      rw [upd_ne _ _ HU]
      exact z
    · have D : (ConcN.upd S.T S.j ({ pc := .ld } : Th) a).pc = .ur := z
      rcases l a with ⟨_, e⟩ | ⟨p, e⟩ <;> rw [e] at D
      · cases D
      · have y : a < S.j + 1 := c
        obtain ⟨o1, o2⟩ := h.ur a HU D
        refine ⟨o1, ?_⟩
        show ConcN.upd S.ys S.j S.D a = S.D
        rw [upd_ne _ _ p]
        exact o2
    · show eV (S.j + 1) (ConcN.upd S.T S.j { pc := .ld }) S.s
      unfold eV
      rw [kM S.T _ bq, kM S.T _ bF, kM S.T _ cU, kM S.T _ bj, kM S.T _ cE, kM S.T _ cj]
      exact h.mi
    · show TW (ConcN.upd S.T S.j _ a)
      rcases l a with ⟨_, e⟩ | ⟨p, e⟩ <;> rw [e]
      · exact mK rfl zx
      · have y : a < S.j + 1 := c
        exact h.tw a HU
    · have G : (ConcN.upd S.T S.j ({ pc := .ld } : Th) a).pc = .a1 := hx
      show (ConcN.upd S.T S.j ({ pc := .ld } : Th) a).ex = false → _
      rcases l a with ⟨_, e⟩ | ⟨p, e⟩ <;> rw [e] at G ⊢
      · cases G
      · have y : a < S.j + 1 := c
        exact h.a1 a HU G
    · obtain ⟨k, s, p1, F⟩ := h.lone hl
      refine ⟨k, Nat.lt_succ_of_lt s, ?_⟩
      show (ConcN.upd S.T S.j _ k).pc = .uc ∧ (ConcN.upd S.T S.j _ k).old = _
      rw [upd_ne _ _ HU]
      exact ⟨p1, F⟩
    · show gT C.n (S.j + 1) { pc := if S.M.i + 1 < C.n then .md else .kd, i := S.M.i + 1 } (ConcN.upd S.T S.j { pc := .ld }) S.s
      unfold gT
      rw [kM S.T _ aC, kM S.T _ aG, kM S.T _ aH]
      obtain ⟨h1, h2, N, R, h5, h6, h7, h8, K, V⟩ := h.wi
      have a7 := h.iX
      simp only [ca, bR, u] at h1 h2
      have z1 : aC ({ pc := .ld } : Th) = 0 := rfl
      have z2 : aG ({ pc := .ld } : Th) = 0 := rfl
      have z3 : aH ({ pc := .ld } : Th) = 0 := rfl
      rw [z1, z2, z3, Nat.add_zero, Nat.add_zero, Nat.add_zero]
      by_cases v : S.M.i + 1 < C.n
      · rw [if_pos v]
        exact ⟨by simp only [ca]; omega, by simp only [bR]; omega, N, R, fun _ => by omega, fun x => (by simp [cA] at x), fun x => (by simp [cD] at x), fun x => (by cases x), K, V⟩
      · rw [if_neg v]
        exact ⟨by simp only [ca]; omega, by simp only [bR]; omega, N, R, fun x => (by simp [cA] at x), fun _ => by omega, fun x => (by simp [cD] at x), fun x => (by cases x), K, V⟩
    · show DI C S.D (S.j + 1) (ConcN.upd S.T S.j { pc := .ld })
      refine ⟨fun a c => ?_, h.di.le, fun a c m q => ?_, fun a b c r m H g2 => ?_, fun a c d => ?_, fun i => ?_⟩
      · rcases l a with ⟨_, e⟩ | ⟨p, e⟩ <;> rw [e]
        · exact ⟨fun _ _ => rfl, fun x => (by cases x), rfl, fun x => (by cases x)⟩
        · exact h.di.tj a HU
      · rcases l a with ⟨_, e⟩ | ⟨p, e⟩ <;> rw [e] at q
        · cases q
        · exact h.di.lt a HU m q
      · rcases l a with ⟨_, e⟩ | ⟨p, e⟩ <;> rw [e] at H
        · cases H
        · rcases l b with ⟨_, W⟩ | ⟨nb, W⟩ <;> rw [W] at g2
          · cases g2
          · exact h.di.br a b HU HU m H g2
      · rcases l a with ⟨_, e⟩ | ⟨p, e⟩ <;> rw [e] at d
        · rcases d with d | ⟨_, d, _⟩ <;> cases d
        · exact h.di.nn a HU d
      · rw [agY S.T _ (pend C i)]
        have := h.di.sum i
        have e : pend C i ({ pc := .ld } : Th) = 0 := rfl
        rw [e]
        omega
    · rcases h.aU m q with ⟨k, s, p1, F⟩ | hr
      · refine .inl ⟨k, Nat.lt_succ_of_lt s, ?_⟩
        show (ConcN.upd S.T S.j _ k).ag = some m ∧ hold (ConcN.upd S.T S.j _ k)
        rw [upd_ne _ _ HU]
        exact ⟨p1, F⟩
      · exact .inr hr
    · have I : (ConcN.upd S.T S.j ({ pc := .ld } : Th) a).ag = some m := q
      rcases l a with ⟨_, e⟩ | ⟨p, e⟩ <;> rw [e] at I
      · cases I
      · have y : a < S.j + 1 := c
        exact h.gR a HU m I
    · rw [ya]
      have y : a < S.j + 1 := c
      by_cases haj : a = S.j
      · subst haj
        refine ⟨f, ?_, .inr (.inl ⟨?_, ?_, ?_, ?_⟩)⟩
        · show ((S.gs.setIfInBounds 0 g').push f)[C.c0 + S.j]? = some f
          rw [← h.size]
          have : S.gs.size = (S.gs.setIfInBounds 0 g').size := by simp
          rw [this, Array.getElem?_push_size]
        · show (ConcN.upd S.T S.j ({ pc := .ld } : Th) S.j).pc ≠ .quit
          rw [upd_same]; simp
        · show Deaf t (C.c0 + S.j) = aK (ConcN.upd S.T S.j ({ pc := .ld } : Th) S.j)
          rw [upd_same]
          exact Deaf_absent fun i op hi e => by have := h.ti.lt.gs i op hi; omega
        · exact upd_same _ _ _
        · show wA C At (ConcN.upd S.T S.j ({ pc := .ld } : Th) S.j) (ConcN.upd S.ys S.j S.D S.j) (ConcN.upd S.tr S.j A S.j) (S.O S.j) f S.w
          rw [upd_same, upd_same, upd_same, hO]
          exact B
      · obtain ⟨o, d, a4⟩ := h.gS a HU
        refine ⟨o, U _ _ HU d, ?_⟩
        show eU C At (ConcN.upd S.bl S.j false a) (ConcN.upd S.T S.j _ a) (ConcN.upd S.ys S.j S.D a) (ConcN.upd S.tr S.j A a) (S.O a) o S.w S.s _ _
        rw [upd_ne _ _ haj, upd_ne _ _ haj, upd_ne _ _ haj, upd_ne _ _ haj]
        exact a4
    · rw [ya]
      obtain ⟨o, d, a3⟩ := h.lv b r v
      exact ⟨o, U _ _ HU d, a3⟩
    · show ((S.gs.setIfInBounds 0 g').push f)[0]? = some g'
      rw [Array.getElem?_push_lt (by simpa using E), ← Array.getElem?_eq_getElem (by simpa using E), Array.getElem?_setIfInBounds_self_of_lt E]
    · rw [ya, h0]
      show 0 = cV { pc := if S.M.i + 1 < C.n then .md else .kd, i := S.M.i + 1 }
      split <;> rfl
    · exact h.ti.fork J h.br h0 rfl _ _ _
structure pJ(C:Cx)(g':Gq)(gs:Fo)(w:HA)(t:Trace):Prop where
 h0:gs[0]?=some g'
 lv:∃q:Nat->Nat,∀i g,0<i->gs[i]?=some g->QuitsD C.P (q i) (Deaf t i) g
 ps:dx (fe C) gs.size w.heap.size t
 nz:∃x ms D,iJ C w x ms (fV D)/\D.n=C.N/\∀i,D.c i=cG C.N (λm=>C.bf m i)
 rc:∃cs,kU C w cs
 aU:∀m,m<C.N->io C m w
 base:Rl C iq false none C.w0 w
theorem PI.fin(u:Geo C)(R:∀M g w,MAt M g w->je C At MAt Fin M g w)(h:PI C At MAt S t)(D:S.gs[0]?=some g)(O:MAt S.M g S.w)(n:S.M.pc=.aq):∃g' E ops,runT C.P (crowd S.gs S.w sl) 0=(.next (crowd E S.w sl),ops)/\g'.status=.running/\Fin g'/\pJ C g' E S.w (t++ops):=by
 have g4:=u.c0;have g5:=u.n1;have L:=R _ _ _ O;obtain⟨g',hs,N,a1⟩:=L.acq n;have U:=runT_crowd_go (P:=C.P) (sl:=sl) D (show stepG C.P (0==0) g S.w=_ from hs);have a5:S.j=C.n:=h.wi.join (by simp[cA,n]);have sZ:=h.wi.fin (by simp[cD,n]);have w1:=h.wi.sZ;have w2:=h.wi.uf;have w3:=h.wi.fc;simp only[ca,bR,n]at w1 w2;have Y:∀a,a<S.j->aC (S.T a)=1:=Ki (λa=>zE (S.T a)) HU;have fc:sumTo S.j (λk=>aG (S.T k))=0:=by rcases Nat.eq_zero_or_pos (sumTo S.j (λk=>aG (S.T k)))with x|x;(·exact x);·have:=w3 x;omega
 have l:∀a,a<S.j->(S.T a).pc=.quit:=λa d=>by have V:=Y a d;have x2:=le_sumTo (f:=λk=>aG (S.T k)) d;have x3:=le_sumTo (f:=λk=>aH (S.T k)) d;have Z:aG (S.T a)=0:=HU;have y3:aH (S.T a)=0:=HU;cases a3:(S.T a).pc<;>simp[aC,aG,aH,a3]at V Z y3⊢
 have y:∀a,a<S.j->(S.T a).ag=none:=λa d=>((h.di.tj a d).Hj (by rw[l a d];rfl)).1;have q:S.D.n=C.N:=h.di.nn 0 HU (.inl (by rw[l 0 HU];rfl));have T:S.o=none:=by cases e:S.o with|none=>rfl|some i=>obtain⟨k,_,s,F⟩:=h.tok i e;rw[l k s]at F;cases F
 have W:Deaf t 0=0:=by rw[h.d0];simp[cV,n]
 have X:=KH 0 g.frame.fn g.frame.place (.acquire (dC C));refine⟨g',put C.P S.gs 0 g g' S.w,_,U,N,a1,⟨gQ D,⟨S.q,λi o G p=>?_⟩,?_,⟨S.s.word,S.s.ms,S.D,?_,q,λi=>?_⟩,h.rc,λm hm=>?_,h.base⟩⟩;·(have a4:i<C.c0+S.j:=by have:=(J2.1 p).1;rw[kW,h.size]at this;exact this);rw[Deaf_other t (g':=0) HU _ fT];rcases Nat.lt_or_ge i C.c0 with A|A;(·obtain⟨I,r,H⟩:=h.lv i G A;rw[dv HU r,woken_quitsD H]at p;cases p;exact H);·obtain⟨k,rfl⟩:∃k,i=C.c0+k:=⟨i-C.c0,HU⟩;obtain⟨I,r,a0⟩:=h.gS k HU;(have J:QuitsD C.P (S.q (C.c0+k)) (Deaf t (C.c0+k)) I:=by rcases a0 with⟨_,x⟩|⟨x,_⟩|⟨x,_⟩;(·exact x);(·exact absurd (l k HU) x);·rw[l k HU]at x;cases x);rw[dv HU r,woken_quitsD J]at p;cases p;exact J
 ·rw[kW,h.size,X];have:=NE (c:=C.c0) (B:=S.w.heap.size) (h.br.apart u) h.ti.lt h.ti.low h.ti.nP W h.ti.old (λi G v=>?_) (b:=dC C) (z:={g:=0,fn:=g.frame.fn,pos:=g.frame.place,act:=.mark (.acquire (dC C))}) rfl rfl;(·rw[show C.c0+S.j-1+1=C.c0+S.j by omega]at this;exact this);·obtain⟨k,rfl⟩:∃k,i=C.c0+k:=⟨i-C.c0,HU⟩;exact h.ti.rel k HU (by simp[Th.gone,l k HU])
 ·have:=h.bu T;rw[<-this];exact h.sh.1
 ·have a2:=h.di.sum i;(have e:cG S.j (λk=>pend C i (S.T k))=0:=by(have:∀j,(∀a,a<j->pend C i (S.T a)=0)->cG j (λk=>pend C i (S.T k))=0:=by intro j;induction j with|zero=>intro _;rfl|succ j ih=>intro K;rw[cG,ih λa d=>K a HU,K j HU];rfl);exact this _ λa d=>by unfold pend;rw[y a d];split<;>rfl);rw[e,q]at a2;omega
 ·rcases h.aU m (by rw[q];exact hm)with⟨k,s,v,_⟩|Q;(·rw[y k s]at v;cases v);·exact Q
theorem Y1(p:Geo C)(u:∀T y O g w,At T y O g w->jl C At T y O g w)(m:∀M g w,MAt M g w->je C At MAt Fin M g w):∀(I:Ms)(S:St)(t:Trace)(sl:CL),S.meas C=I->PI C At MAt S t->∃n g' j w' r q,runNT C.P n (crowd S.gs S.w sl) t=(.next (crowd j w' r),q)/\g'.status=.running/\Fin g'/\pJ C g' j w' q:=by intro I;induction I using XS.induction with|_ I ih=>intro S t sl am h;have g4:=p.c0;obtain⟨gm,X,R⟩:=h.ms;(have an:S.fJ=false->gm.status=.running:=λG=>by rcases R with⟨_,n,_,l⟩|⟨_,a5,_⟩;(·exact l.running m);·rw[G]at a5;cases a5);(have aa:∀(i:Nat)(o:Gq),S.gs[i]?=some o->o.status=.running\/o.status=.blocked\/o.status=.finished:=by intro i o a;by_cases h0:i=0;(·subst h0;rw[X]at a;cases a;rcases R with⟨_,n,_,l⟩|⟨_,_,_,_,U,rfl,_⟩;(·exact .inl (l.running m));·exact .inr (.inl rfl));·rcases Nat.lt_or_ge i C.c0 with v|v;(·obtain⟨o',J,s⟩:=h.lv i HU v;rw[a]at J;cases J;exact s.status.elim .inl λx=>.inr (.inr x));·(have K:i<C.c0+S.j:=by have:=(J2.1 a).1;rw[h.size]at this;exact this);obtain⟨k,rfl⟩:∃k,i=C.c0+k:=⟨i-C.c0,HU⟩;obtain⟨o',J,H⟩:=h.gS k HU;rw[a]at J;cases J;rcases H with⟨_,s⟩|⟨_,_,_,l⟩|⟨_,_,_,_,U,rfl,_⟩;(·exact s.status.elim .inl λx=>.inr (.inr x));(·exact .inl (l.running λ_ _ _ N=>(u _ _ _ _ _ N).run));·exact .inr (.inl rfl));(have ai:∀o∈S.gs,awake o:=λo a=>by obtain⟨i,L,rfl⟩:=Array.mem_iff_getElem.1 a;exact awake_of (aa i _ (Array.getElem?_eq_getElem L)));(have rL:∃(i:Nat)(o:Gq),S.gs[i]?=some o/\o.status=.running:=by by_cases v:∃(i:Nat)(o:Gq),S.gs[i]?=some o/\o.status=.running;(·exact v);·exfalso;have a1:∀(i:Nat)(o:Gq),S.gs[i]?=some o->o.status≠.running:=λi o a z=>v ⟨i,o,a,z⟩;rcases R with⟨_,n,_,l⟩|⟨hp,_,ad,_⟩;(·exact a1 0 gm X (l.running m));·refine VX h.mi h.wi h.lone (λk A=>?_) hp ad;obtain⟨o,a,H⟩:=h.gS k A;rcases H with⟨s,_⟩|⟨_,_,_,l⟩|⟨af,_,_,ak,_⟩;(·exact .inl s);(·exact absurd (l.running λ_ _ _ N=>(u _ _ _ _ _ N).run) (a1 _ o a));·exact .inr ⟨af,ak⟩);obtain⟨i,g,d,r,L,z,a3⟩:=crowd_pick (P:=C.P) (w:=S.w) (sl:=sl) ai rL;have b:=h.at d;have c:({S with w:=S.w.at d}:St).gs[i]?=some g:=L;(have go:li C At MAt {S with w:=S.w.at d} t r i->∃n g' j w' r q,runNT C.P n (crowd S.gs S.w sl) t=(.next (crowd j w' r),q)/\g'.status=.running/\Fin g'/\pJ C g' j w' q:=by rintro⟨S',ops,Q,K,a7⟩;have V:({S with w:=S.w.at d}:St).meas C=I:=am;rw[V]at K;obtain⟨n,g',j,w',a9,q,h1,h2⟩:=ih _ K S' (t++ops) r rfl a7;exact⟨n+1,g',j,w',a9,q,by simp only[runNT,a3,Q];exact h1,h2⟩);by_cases h0:i=0;(·subst h0;obtain⟨Y,ab,ac⟩:=b.ms;(have:Y=g:=by have x:some Y=some g:=ab.symm.trans c;exact Option.some.inj x);subst this;rcases ac with⟨G,n,D,g1,a0,E⟩|⟨_,_,_,_,U,e,_⟩;(·cases n with|succ n=>obtain⟨g2,V,ae⟩:=a0;exact go (b.agO p u c D V ⟨g1,ae,E⟩)|zero=>cases a0;have B:=E _ (Rl.refl _ _ _ _);by_cases hp1:S.M.pc=.mg;(·exact go (b.fork p m c B hp1));·by_cases hp2:S.M.pc=.aq;(·obtain⟨g',j,ops,Q,ah,a8,aj⟩:=b.fin (sl:=r) p m c B hp2;exact⟨1,g',j,_,r,t++ops,by simp only[runNT,a3,Q],ah,a8,aj⟩);·by_cases hp3:S.M.pc=.w3/\S.s.ws=0;(·exact go (b.afh p c hp3.1 hp3.2 G D E ((m _ _ _ B).wait _ _ b.sh hp3.1 hp3.2)));·exact go (b.afY p u m c B hp1 hp2 hp3));·rw[e]at z;cases z);·rcases Nat.lt_or_ge i C.c0 with v|v;(·obtain⟨o,a,s⟩:=b.lv i HU v;have:o=g:=Option.some.inj (a.symm.trans c);subst this;exact go (b.hH p u m HU (.inl v) c z s));·(have K:i<C.c0+S.j:=by have:=(J2.1 L).1;rw[h.size]at this;exact this);obtain⟨k,rfl⟩:∃k,i=C.c0+k:=⟨i-C.c0,HU⟩;have A:k<S.j:=HU;obtain⟨o,a,H⟩:=b.gS k A;have:o=g:=Option.some.inj (a.symm.trans c);subst this;rcases H with⟨s,hQ⟩|⟨Z,W,G,l⟩|⟨_,_,_,_,U,e,_⟩;(·exact go (b.hH p u m HU (.inr ⟨k,A,rfl,s⟩) c z hQ));(·(have a2:(∀a4,Rl C (S.O k) (S.T k).own (S.T k).ag (S.w.at d) a4->At (S.T k) (S.ys k) (S.O k) o a4)->∃n g' j w' r q,runNT C.P n (crowd S.gs S.w sl) t=(.next (crowd j w' r),q)/\g'.status=.running/\Fin g'/\pJ C g' j w' q:=by intro E;have B:=E _ (Rl.refl _ _ _ _);by_cases hw:(S.T k).pc=.s1/\S.s.ms=0;(·exact go (b.block p A c hw.1 hw.2 G W E ((u _ _ _ _ _ B).wait _ _ b.sh hw.1 hw.2)));·exact go (b.stop p u m A c W B Z hw));have F:wA C At (S.T k) (S.ys k) (S.tr k) (S.O k) o (S.w.at d):=l;cases D:S.tr k with|leaf=>rw[D]at F;exact a2 F|node f=>rw[D]at F;rcases F with F|⟨_,al⟩;(·exact a2 F);·obtain⟨g',w',es,O',hs,hD,ao,a6⟩:=al _ (Rl.refl _ _ _ _);exact go (b.work p u m A c D Z W hs hD a6));·rw[e]at z;cases z
end
end Ph
