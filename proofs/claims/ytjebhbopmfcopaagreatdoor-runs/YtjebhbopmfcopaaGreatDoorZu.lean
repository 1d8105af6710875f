/- Runs, a part. -/
import Derived.Test.YtjebhbopmfcopaaGreatDoorZt
namespace Go.Proofs.YtjebhbopmfcopaaGreatDoor
open Go.Proofs
noncomputable section
variable{gs:B9}{g:Dm}{k:Nat}{sl:B3}{α:Type}{v w w1:DS}
namespace Ph
open Conc ConcN ConcM Kw
section
variable{C:Cx}{At:Th->GC->(Nat->Prop)->Dm->DS->Prop}{MAt:Mt->Dm->DS->Prop}{Fin:Dm->Prop}{S:St}{t:Trace}{sl:B3}
theorem NF{P:Program}{q:Nat}(h:QuitsD P q 1 g):g.status=.running:=by cases q with|zero=>exact absurd h.2 (by simp)|succ q=>rcases h with⟨_,h0⟩|⟨h1,_⟩;exact absurd h0 (by simp);exact h1
def gj(C:Cx)(T:Th)(k:Nat)(o:Option Nat):Option Nat:=if T.pc=.la then some (C.c0+k)else if T.pc=.ur then none else o
def uz(C:Cx)(T:Th)(k n:Nat)(tk:Nat->Nat->Prop):Nat->Nat->Prop:=λa m=>tk a m\/(a=k/\m=n/\T.pc=.la/\T.ct=false/\n<C.N)
theorem PI.free(h:PI C At MAt S t)(d:k<S.j)(c:(S.T k).pc=.la):S.o=none:=by cases e:S.o with|none=>rfl|some i=>obtain⟨a,rfl,f,b⟩:=h.tok i e;have:=zW h.mi d f (by simp[aS,c]) (by simp[aS,b]);subst this;rw[c]at b;cases b
theorem PI.adX(h:PI C At MAt S t){a:Nat}(c:k<S.j)(d:a<S.j)(e:a≠k)(f:(S.T a).pc=.ur):(S.T k).pc≠.la/\(S.T k).pc≠.ur:=by constructor;(·intro b;exact e (zW h.mi d c (by simp[aS,f]) (by simp[aS,b])));·intro b;exact e (zW h.mi d c (by simp[aS,f]) (by simp[aS,b]))
theorem LC{T:Th}{D y:GC}(h:T.pc=.la):(if T.pc=.la then upd C T D else y)=bD C T D:=by unfold bD;rw[if_pos h,if_pos h]
theorem K8(l:Geo C)(h:PI C At MAt S t)(g:k<S.j)(e:Deaf t (C.c0+k)=aL (S.T k)){T':Th}{s':Sh}(r:Mv C.N S.D.n (S.T k) S.s T' s'){d:Array Event}(f:EvStop C (S.T k) T' d)(fn:FuncId)(pos:String):TI C S.j (bD C (S.T k) S.D).n S.w.heap.size (ConcN.upd S.T k T') S.O (uz C (S.T k) k S.D.n S.tk) (gj C (S.T k) k S.o) (t++MemOp.ofEvents (C.c0+k) fn pos d)/\Deaf (t++MemOp.ofEvents (C.c0+k) fn pos d) (C.c0+k)=aL T'/\(∀i,i≠C.c0+k->Deaf (t++MemOp.ofEvents (C.c0+k) fn pos d) i=Deaf t i):=by obtain⟨f1,f2,_,_,u,v,z,_⟩:=H0 r;have o:∀i,i≠C.c0+k->Deaf (t++MemOp.ofEvents (C.c0+k) fn pos d) i=Deaf t i:=λi s=>Deaf_other t (Ne.symm s) _ fj;by_cases hla:(S.T k).pc=.la;(·(have j:d=#[mk (.acquire (muA C))]:=by simpa[EvStop,hla]using f);subst j;have c:=f1.2 hla;(have e1:gj C (S.T k) k S.o=some (C.c0+k):=by unfold gj;rw[if_pos hla]);rw[e1];have ti:=h.ti;rw[h.free g hla]at ti;refine⟨ti.la l h.bB g (by rw[e];simp[aL,hla]) (v hla) fn pos (Hz C _ _) (λa m x=>.inl x) (λa m x=>?_),?_,o⟩;(·rcases x with x|⟨_,rfl,_⟩;(·exact .inl x);·exact .inr (Nat.le_refl _));·rw[Deaf_own,e];simp[deafBehind,mk,aL,hla,c]);·(have w:bD C (S.T k) S.D=S.D:=by unfold bD;rw[if_neg hla]);(have y:uz C (S.T k) k S.D.n S.tk=S.tk:=by funext a m;simp only[uz,hla,false_and,and_false,or_false]);rw[w,y];by_cases c:(S.T k).pc=.ur;(·(have j:d=#[mk (.releaseMerge (muA C))]:=by simpa[EvStop,c]using f);subst j;have p:=z c;(have e1:gj C (S.T k) k S.o=none:=by unfold gj;rw[if_neg hla,if_pos c]);rw[e1];have ti:=h.ti;rw[(h.ur k g c).1]at ti;refine⟨ti.ur l h.bB (by rw[e];simp[aL,c]) (by simp[Th.gone,p]) fn pos,?_,o⟩;rw[Deaf_own,e];simp[deafBehind,mk,aL,c,p]);·(have e1:gj C (S.T k) k S.o=S.o:=by unfold gj;rw[if_neg hla,if_neg c]);rw[e1];by_cases hwr:(S.T k).pc=.wr;(·(have j:d=#[mk (.releaseMerge (dC C))]:=by simpa[EvStop,hwr]using f);subst j;have A:=u hwr;refine⟨h.ti.wr l h.bB g (by rw[e];simp[aL,hwr]) fn pos,?_,o⟩;rw[Deaf_own,e];simp[deafBehind,mk,aL,hwr,A]);·(have q:gQ C (aL (S.T k)) (aL T') d:=by unfold EvStop at f;split at f<;>first|contradiction|exact f);obtain⟨a,b⟩:=h.ti.book l h.bB h.low g q e (T':=T') (λx=>(f2 x).resolve_right hwr) fn pos;exact⟨a,b,o⟩
theorem PI.stop(l:Geo C)(a6:∀T y O g w,At T y O g w->jv C At T y O g w)(hM:∀M g w,MAt M g w->jk C At MAt Fin M g w)(h:PI C At MAt S t)(d:k<S.j)(hg:S.gs[C.c0+k]?=some g)(ar:Deaf t (C.c0+k)=aL (S.T k))(ae:At (S.T k) (S.ys k) (S.O k) g S.w)(hq:(S.T k).pc≠.quit)(b2:¬((S.T k).pc=.s1/\S.s.ms=0)):ki C At MAt S t sl (C.c0+k):=by
 have g4:=l.c0;have L:=a6 _ _ _ _ _ ae;have b8:=h.ok l;have b9:=afB h.mi h.wi h.jn l.oQ d (h.tw k d);obtain⟨T',s',g',w',es,z,hs,W,B,au,aw⟩:=L.step S.s S.g0 h.sh b9 b2 S.D (λG=>⟨h.bD (h.free d G),h.di.le,h.di.bound l.dl l.nN (by have:=h.jn;have:=l.oQ;omega)⟩);obtain⟨f1,f2,f3,f4,f5,f6,f7,f8⟩:=H0 z;have a3:=(h.di.tj k d);have ah:=h.mi.step d z (h.tw k d) (h.a1 k d);have aj:=h.wi.step d z;have a4:s'.ok:=uK ah aj h.jn l.oQ;have a5:=aw (by obtain⟨b4,ak⟩:=h.rc;exact⟨⟨s',S.g0,a4,W⟩,b4,(B.block _ (Ne.symm l.kO) (Ne.symm l.j2)).trans ak.1,ak.2⟩);have az:=XN z d h.di;have b6:=NK z (h.tw k d) b8.1 (E1 h.mi d) (aeh h.mi d);obtain⟨ay,b7,a8⟩:=K8 (fn:=g.frame.fn) (pos:=g.frame.place) l h d ar z au;obtain⟨X,E,ba,ab,am⟩:∃X E,E<=C.qb/\g'.status=.running/\eT C At false T' (if(S.T k).pc=.la then upd C (S.T k) S.D else S.ys k) X (S.O k) g' w' s' E (aL T'):=by unfold il at a5;split at a5;(·rename_i G;obtain⟨q,b3,hQ⟩:=a5;(have e:aL T'=1:=by simp[aL,G]);exact⟨.leaf,q,b3,NF hQ,.inl ⟨G,by rw[e];exact hQ⟩⟩);·rename_i G;obtain⟨tr,ac⟩:=a5;exact⟨tr,0,Nat.zero_le _,ac.running (λ_ _ _ j=>(a6 _ _ _ _ _ j).run),.inr (.inl ⟨G,rfl,rfl,ac⟩)⟩
 obtain⟨cs,a2⟩:=h.rc;have ax:w'.heap[C.Rc]?=S.w.heap[C.Rc]?:=B.block _ (Ne.symm l.kO) (Ne.symm l.j2);have b0:(C.c0+k==0)=false:=by simp;omega
 have b1:=runT_crowd_go (P:=C.P) (sl:=sl) hg (show stepG C.P (C.c0+k==0) g S.w=_ by rw[b0];exact hs);obtain⟨a9,b5⟩:=vN (k:=k) l a6 h (g:=g) (g':=g') W a4 B (λe=>(f3 e).imp id λx=>⟨L.Eg (.inl x),ab⟩);obtain⟨gm,an,ao⟩:=h.ms;obtain⟨ap,aq⟩:=ao.other hM (x:=g) (x':=g') (vK l h.sh W a4 a2 B (λb Q=>Q.elim)) (s':=s') (λe=>(f4 e).imp id λx=>⟨L.Eg (.inr x),ab⟩);have hT:∀a,(a=k/\ConcN.upd S.T k T' a=T')\/(a≠k/\ConcN.upd S.T k T' a=S.T a):=dx S.T T' k;refine⟨{S with gs:=put C.P S.gs (C.c0+k) g g' w',w:=w',T:=ConcN.upd S.T k T',ys:=ConcN.upd S.ys k (if(S.T k).pc=.la then upd C (S.T k) S.D else S.ys k),D:=Ph.bD C (S.T k) S.D,s:=s',tk:=uz C (S.T k) k S.D.n S.tk,tr:=ConcN.upd S.tr k X,bl:=ConcN.upd a9 k false,fI:=ap,q:=if T'.pc=.quit then ConcN.upd S.q (C.c0+k) E else S.q,o:=gj C (S.T k) k S.o},_,b1,Q' d z (h.tw k d) (λe1 e2=>a3.uH e2 (by rw[e1];rfl)) rfl rfl rfl rfl rfl rfl ba rfl rfl hq,?_⟩;have av:(if T'.pc=.quit then ConcN.upd S.q (C.c0+k) E else S.q) (C.c0+k)=(if T'.pc=.quit then E else S.q (C.c0+k)):=by split;(·exact upd_same _ _ _);·rfl
 have ad:∀i,i≠C.c0+k->(if T'.pc=.quit then ConcN.upd S.q (C.c0+k) E else S.q) i=S.q i:=λi hi=>by split;(·exact upd_ne _ _ hi);·rfl
 refine⟨by rw[<-h.size];exact lh,h.jn,h.iS,W,⟨cs,ax.trans a2.1,a2.2⟩,by show C.low<=w'.heap.size;rw[B.size];exact h.low,λF=>?_,λi F=>?_,λa j V=>?_,ah,λa j=>?_,λa j G hx=>?_,λhl=>?_,aj,az,λm u=>?_,?_,λa m u=>?_,λa j m u=>?_,h.oj,λa j=>?_,λi hi hc=>?_,⟨_,du (by omega) an,aq⟩,?_,?_,h.base.trans (vK l h.sh W a4 a2 B (λb Q=>Q.elim))⟩;·have r:gj C (S.T k) k S.o=none:=F;unfold gj at r;by_cases A:(S.T k).pc=.la;(·rw[if_pos A]at r;cases r);·rw[if_neg A]at r;(have ed:Ph.bD C (S.T k) S.D=S.D:=by unfold Ph.bD;rw[if_neg A]);show S.g0=fR (Ph.bD C (S.T k) S.D);rw[ed];by_cases hur:(S.T k).pc=.ur;(·obtain⟨x,ms,hc⟩:=L.left hur;rw[ahp h.sh.1 hc,(h.ur k d hur).2]);·rw[if_neg hur]at r;exact h.bD r
 ·have r:gj C (S.T k) k S.o=some i:=F;unfold gj at r;by_cases A:(S.T k).pc=.la;(·rw[if_pos A]at r;cases r;exact⟨k,rfl,d,by show(ConcN.upd S.T k T' k).pc=.ur;rw[upd_same];exact f1.2 A⟩);·rw[if_neg A]at r;by_cases hur:(S.T k).pc=.ur;(·rw[if_pos hur]at r;cases r);·rw[if_neg hur]at r;obtain⟨a,e,j,V⟩:=h.tok i r;refine⟨a,e,j,?_⟩;show(ConcN.upd S.T k T' a).pc=.ur;rw[upd_ne _ _ (λe=>by rw[e]at V;exact hur V)];exact V
 ·have Z:(ConcN.upd S.T k T' a).pc=.ur:=V;show gj C (S.T k) k S.o=some (C.c0+a)/\ConcN.upd S.ys k _ a=Ph.bD C (S.T k) S.D;rcases hT a with⟨K,e⟩|⟨I,e⟩<;>rw[e]at Z;(·have A:=f1.1 Z;rw[K,upd_same,LC A];exact⟨by unfold gj;rw[if_pos A],rfl⟩);·obtain⟨n1,n2⟩:=h.adX d j I Z;obtain⟨o1,o2⟩:=h.ur a j Z;rw[upd_ne _ _ I];refine⟨by unfold gj;rw[if_neg n1,if_neg n2];exact o1,?_⟩;rw[o2];unfold Ph.bD;rw[if_neg n1]
 ·show TW (ConcN.upd S.T k T' a);rcases hT a with⟨_,e⟩|⟨_,e⟩<;>rw[e];(·exact b6);·exact h.tw a j
 ·have a0:(ConcN.upd S.T k T' a).pc=.a1:=G;have a7:(ConcN.upd S.T k T' a).ex=false:=hx;rcases hT a with⟨_,e⟩|⟨I,e⟩<;>rw[e]at a0 a7;(·obtain⟨_,r2,r3⟩:=QC z (λe=>(h.mi.AO e).2.2.2.2) a0 a7;show 2<=s'.word.w;rw[r2];exact r3);·have w2:=h.a1 a j a0 a7;have ma:=h.mi.split j;(have Q:aQ (S.T a)=1:=by simp[aQ,a0]);(have ag:S.s.word.s=1:=by rcases Nat.lt_or_ge S.s.word.s 1 with H|bd;(·have:=ma.calm (by omega);omega);·have:=ma.s1;omega);have ae:=ma.AO ag;(have bf:aQ (S.T k)<=dI S.j a (λx=>aQ (S.T x)):=by have:=le_sumTo (f:=λx=>if x=a then 0 else aQ (S.T x)) (i:=k) d;simp only[if_neg (Ne.symm I)]at this;exact this);(have bg:aS (S.T k)<=dI S.j a (λx=>aS (S.T x)):=by have:=le_sumTo (f:=λx=>if x=a then 0 else aS (S.T x)) (i:=k) d;simp only[if_neg (Ne.symm I)]at this;exact this);have ai:=ma.ai;exact Xu z (h.tw k d) ag (by omega) (by omega) w2
 ·rcases JU z hl with⟨l1,l2⟩|l2;(·obtain⟨a,j,p1,R⟩:=h.lone (by rw[<-l1];exact hl);have I:a≠k:=λe=>l2 (by rw[<-e];exact⟨p1,R⟩);refine⟨a,j,?_⟩;show(ConcN.upd S.T k T' a).pc=.uc/\(ConcN.upd S.T k T' a).old=s'.word;rw[upd_ne _ _ I,l1];exact⟨p1,R⟩);·refine⟨k,d,?_⟩;show(ConcN.upd S.T k T' k).pc=.uc/\(ConcN.upd S.T k T' k).old=s'.word;rw[upd_same];exact l2
 ·obtain⟨_,Y⟩:=zV z a3;show(∃a,a<S.j/\(ConcN.upd S.T k T' a).af=some m/\hold (ConcN.upd S.T k T' a))\/hH C m w';have c:m<(Ph.bD C (S.T k) S.D).n:=u;by_cases H:m<S.D.n;(·rcases h.cm m H with⟨a,j,N,p⟩|hr;(·by_cases hak:a=k;(·subst hak;have put:T'.af=some m->hold T'->(∃b,b<S.j/\(ConcN.upd S.T a T' b).af=some m/\hold (ConcN.upd S.T a T' b))\/hH C m w':=λx y=>.inl ⟨a,j,by rw[upd_same];exact⟨x,y⟩⟩;rcases Y with⟨c1,c2,v,U,J,c6⟩|⟨c1,c2,v,_⟩|⟨c1,c2,_⟩|⟨c1,c2,_⟩|⟨c1,c2,v,U,J,_⟩;(·rcases J p with x|x;(·exact put (c1.trans N) x);·cases al:(S.T a).ct with|true=>exact .inr (Ah l B (L.written x al m N))|false=>have:=a3.uH al (by rw[x];rfl);rw[N]at this;cases this);(·rw[N]at v;cases v);(·rcases p with p|p;(·rw[c2]at p;cases p);·rw[c1]at p;cases p);(·rcases p with p|p;(·rw[c2]at p;cases p);·rw[c1]at p;cases p);·exact put (v.trans N) J);·exact .inl ⟨a,j,by rw[upd_ne _ _ hak];exact⟨N,p⟩⟩);·exact .inr (Ah l B hr));·rcases Y with⟨_,_,v,_⟩|⟨c1,c2,v,U,J,c6,c7,c8⟩|⟨c1,c2,_⟩|⟨c1,_⟩|⟨c1,_⟩;(·unfold Ph.bD at c;rw[if_neg v]at c;exact absurd c H);(·rcases c8 with⟨n1,n2⟩|⟨n1,n2⟩;(·(have:m=S.D.n:=by rw[qT]at c;unfold gB at c;split at c<;>omega);exact .inl ⟨k,d,by rw[upd_same,this];exact⟨n2,.inl c6⟩⟩);·rw[qT]at c;unfold gB at c;rw[if_neg (λx=>n1 x.2.2)]at c;exact absurd c H);(·rw[qT]at c;unfold gB at c;rw[if_neg (λx=>by rw[c2]at x;exact absurd x.2.1 (by simp))]at c;exact absurd c H);(·unfold Ph.bD at c;rw[if_neg (by rw[c1];simp)]at c;exact absurd c H);·unfold Ph.bD at c;rw[if_neg (by rw[c1];simp)]at c;exact absurd c H
 ·refine⟨λa b Q=>?_,h.bB.d,λa a' m u c=>?_⟩;(·show C.low<=b/\b<w'.heap.size;rw[B.size];exact h.bB.o a b Q);·rcases u with u|⟨e1,e2,_⟩<;>rcases c with c|⟨bb,be,_⟩;(·exact h.bB.t a a' m u c);(·have:=h.iF a m u;omega);(·have:=h.iF a' m c;omega);·rw[e1,bb]
 ·rcases u with u|⟨_,e2,e3,e4,e5⟩;(·exact Nat.lt_of_lt_of_le (h.iF a m u) (Hz C _ _));·show m<(Ph.bD C (S.T k) S.D).n;rw[qT];unfold gB;rw[if_pos ⟨e3,e4,e5⟩];omega
 ·have c:(ConcN.upd S.T k T' a).af=some m:=u;rcases hT a with⟨K,e⟩|⟨_,e⟩<;>rw[e]at c;(·obtain⟨_,Y⟩:=zV z a3;rcases Y with⟨c1,_⟩|⟨c1,c2,v,U,J,c6,c7,c8⟩|⟨c1,c2,v,U,J,_⟩|⟨_,_,_,U,_⟩|⟨_,_,v,_⟩;(·exact .inl (by rw[K];exact h.gI k d m (c1.symm.trans c)));(·rcases c8 with⟨n1,n2⟩|⟨n1,n2⟩;(·rw[n2]at c;cases c;exact .inr ⟨K,rfl,c1,c2,n1⟩);·rw[n2]at c;cases c);(·exact .inl (by rw[K];exact h.gI k d m (J.symm.trans c)));(·rw[U]at c;cases c);·exact .inl (by rw[K];exact h.gI k d m (v.symm.trans c)));·exact .inl (h.gI a j m c)
 ·by_cases hak:a=k;(·subst hak;refine⟨g',gD hg,?_⟩;show eT C At (ConcN.upd a9 a false a) (ConcN.upd S.T a T' a) (ConcN.upd S.ys a _ a) (ConcN.upd S.tr a X a) (S.O a) g' w' s' ((if T'.pc=.quit then ConcN.upd S.q (C.c0+a) E else S.q) (C.c0+a)) _;rw[upd_same,upd_same,upd_same,upd_same,av,b7];rcases am with⟨p1,R⟩|⟨p1,R,p3,p4⟩|⟨_,_,p3,_⟩;(·exact .inl ⟨p1,by rw[if_pos p1];exact R⟩);(·exact .inr (.inl ⟨p1,R,p3,p4⟩));·cases p3);·obtain⟨o,F,bc⟩:=h.gE a j;refine⟨_,du (by omega) F,?_⟩;show eT C At (ConcN.upd a9 k false a) (ConcN.upd S.T k T' a) (ConcN.upd S.ys k _ a) (ConcN.upd S.tr k X a) (S.O a) _ w' s' ((if T'.pc=.quit then ConcN.upd S.q (C.c0+k) E else S.q) (C.c0+a)) _;rw[upd_ne _ _ hak,upd_ne _ _ hak,upd_ne _ _ hak,upd_ne _ _ hak,ad _ (by omega),a8 _ (by omega)];exact b5 a j hak o F _ bc
 ·obtain⟨o,F,aa⟩:=h.lv i hi hc;refine⟨o,by rw[du (by omega) F,woken_quitsD aa],?_⟩;show QuitsD C.P ((if T'.pc=.quit then ConcN.upd S.q (C.c0+k) E else S.q) i) _ o;rw[ad _ (by omega),a8 _ (by omega)];exact aa
 ·rw[a8 0 (by omega)];exact h.d0
 ·show TI C S.j _ w'.heap.size _ _ _ _ _;rw[B.size];exact ay
end
section
variable{C:Cx}{At:Th->GC->(Nat->Prop)->Dm->DS->Prop}{MAt:Mt->Dm->DS->Prop}{Fin:Dm->Prop}{S:St}{t:Trace}{sl:B3}
theorem PI.gq(j:Geo C)(V:∀T y O g w,At T y O g w->jv C At T y O g w)(W:∀M g w,MAt M g w->jk C At MAt Fin M g w)(h:PI C At MAt S t){i:Nat}(hi:0<i)(v:i<C.c0\/∃k,k<S.j/\i=C.c0+k/\(S.T k).pc=.quit)(A:S.gs[i]?=some g)(p:g.status=.running)(r:QuitsD C.P (S.q i) (Deaf t i) g):ki C At MAt S t sl i:=by have g4:=j.c0;cases l:S.q i with|zero=>rw[l]at r;rw[r.1]at p;cases p|succ n=>rw[l]at r;rcases r with⟨X,_⟩|⟨_,g',u,Y,G,E⟩;(·rw[X]at p;cases p);(have H:(i==0)=false:=by simp;omega);have J:=runT_crowd_go (P:=C.P) (sl:=sl) A (show stepG C.P (i==0) g S.w=_ by rw[H];exact G S.w);obtain⟨D,I⟩:=vN (k:=if i<C.c0 then S.j else i-C.c0) j V h (g:=g) (g':=g') h.sh (h.ok j) (Eff.refl _) (λe=>.inl e);obtain⟨gm,K,L⟩:=h.ms;obtain⟨N,Q⟩:=L.other W (x:=g) (x':=g') (Rl.refl _ _ _ _) (s':=S.s) (λe=>.inl e);have R:=h.bB.apart j;have z:∀a,a≠i->Deaf (t++MemOp.ofEvents i g.frame.fn g.frame.place u) a=Deaf t a:=λa c=>Deaf_other t (Ne.symm c) _ fj;have F:Deaf (t++MemOp.ofEvents i g.frame.fn g.frame.place u) i=deafBehind (Deaf t i) u:=Deaf_own .. ;refine⟨{S with gs:=put C.P S.gs i g g' S.w,bl:=D,fI:=N,q:=ConcN.upd S.q i n},_,J,.left _ _ ?_,?_⟩;(·show St.A C _<St.A C S;unfold St.A;rcases v with d|⟨k,m,rfl,f⟩;(·(have e1:sumTo C.c0 (ConcN.upd S.q i n)+(n+1)=sumTo C.c0 S.q+n:=by have:=sumTo_upd S.q n id d;simpa[l]using this);(have e2:sumTo S.j (λa=>phi (S.T a)+if(S.T a).pc=.quit then ConcN.upd S.q i n (C.c0+a)else C.qb)=sumTo S.j (λa=>phi (S.T a)+if(S.T a).pc=.quit then S.q (C.c0+a)else C.qb):=sumTo_congr λa _=>by rw[upd_ne _ _ (show C.c0+a≠i by omega)]);simp only[e2];omega);·have e1:sumTo C.c0 (ConcN.upd S.q (C.c0+k) n)=sumTo C.c0 S.q:=sumTo_congr λa c=>upd_ne _ _ (by omega);have a1:=dG m (λa=>phi (S.T a)+if(S.T a).pc=.quit then ConcN.upd S.q (C.c0+k) n (C.c0+a)else C.qb);have a2:=dG m (λa=>phi (S.T a)+if(S.T a).pc=.quit then S.q (C.c0+a)else C.qb);(have a3:dI S.j k (λa=>phi (S.T a)+if(S.T a).pc=.quit then ConcN.upd S.q (C.c0+k) n (C.c0+a)else C.qb)=dI S.j k (λa=>phi (S.T a)+if(S.T a).pc=.quit then S.q (C.c0+a)else C.qb):=by unfold dI;refine sumTo_congr λa _=>?_;by_cases hak:a=k;(·rw[if_pos hak,if_pos hak]);·rw[if_neg hak,if_neg hak];show phi (S.T a)+(if(S.T a).pc=.quit then ConcN.upd S.q (C.c0+k) n (C.c0+a)else C.qb)=phi (S.T a)+(if(S.T a).pc=.quit then S.q (C.c0+a)else C.qb);rw[upd_ne _ _ (show C.c0+a≠C.c0+k by omega)]);simp only[f,if_true,upd_same,l]at a1 a2;simp only[e1,a1,a2,a3];omega);·refine⟨by rw[<-h.size];exact lh,h.jn,h.iS,h.sh,h.rc,h.low,h.bD,h.tok,h.ur,h.mi,h.tw,h.a1,h.lone,h.wi,h.di,h.cm,h.bB,h.iF,h.gI,h.oj,λa c=>?_,λb U d=>?_,⟨_,du (by omega) K,Q⟩,by rw[z 0 (by omega)];exact h.d0,h.ti.gq R (by omega) ?_ Y _ _,h.base⟩;(·by_cases hai:C.c0+a=i;(·(have f:(S.T a).pc=.quit:=by rcases v with d|⟨k,m,e,f⟩;(·omega);·(have:a=k:=by omega);rw[this];exact f);refine⟨g',by rw[hai];exact gD A,.inl ⟨f,?_⟩⟩;show QuitsD C.P (ConcN.upd S.q i n (C.c0+a)) _ g';rw[hai,upd_same,F];exact E);·obtain⟨o,s,Z⟩:=h.gE a c;refine⟨_,du hai s,?_⟩;show eT C At (D a) (S.T a) (S.ys a) (S.tr a) (S.O a) _ S.w S.s (ConcN.upd S.q i n (C.c0+a)) _;rw[upd_ne _ _ hai,z _ hai];have a0:a<S.j:=c;exact I a c (by split<;>omega) o s _ Z);(·by_cases hbi:b=i;(·subst hbi;refine⟨g',gD A,?_⟩;show QuitsD C.P (ConcN.upd S.q b n b) _ g';rw[upd_same,F];exact E);·obtain⟨o,s,B⟩:=h.lv b U d;refine⟨o,by rw[du hbi s,woken_quitsD B],?_⟩;show QuitsD C.P (ConcN.upd S.q i n b) _ o;rw[upd_ne _ _ hbi,z _ hbi];exact B);·rcases v with d|⟨k,m,e,_⟩<;>omega
theorem PI.adH(d:Geo C)(q:∀T y O g w,At T y O g w->jv C At T y O g w)(h:PI C At MAt S t){c:Dm}(l:S.gs[0]?=some g){n:Nat}(m:S.gV=jh (n+1))(x:C5 C g c)(p:ib C MAt S.M n c S.w):ki C At MAt S t sl 0:=by have D:=d.c0;have r:=runT_crowd_go (P:=C.P) (sl:=sl) l (show stepG C.P (0==0) g S.w=_ from x.2.2 true S.w ⟨⟨S.s,S.g0,h.ok d,h.sh⟩,h.rc⟩);have s:MemOp.ofEvents 0 g.frame.fn g.frame.place #[]=#[]:=rfl;obtain⟨u,v⟩:=vN (k:=S.j) d q h (g:=g) (g':=c) h.sh (h.ok d) (Eff.refl _) (λe=>.inl e);refine⟨{S with gs:=put C.P S.gs 0 g c S.w,bl:=u,fI:=false,gV:=jh n},_,r,.right _ (.left _ _ (.head (.right _ ?_))),?_⟩;(·show qL (jh n) S.gV;rw[m];exact .mk (λ_=>jh n) S.w);·rw[s,Array.append_empty];refine⟨by rw[<-h.size];exact lh,h.jn,h.iS,h.sh,h.rc,h.low,h.bD,h.tok,h.ur,h.mi,h.tw,h.a1,h.lone,h.wi,h.di,h.cm,h.bB,h.iF,h.gI,h.oj,λa i=>?_,λb z A=>?_,⟨_,gD l,.inl ⟨rfl,n,rfl,p⟩⟩,h.d0,h.ti,h.base⟩;(·obtain⟨o,f,B⟩:=h.gE a i;have E:a<S.j:=i;exact⟨_,du (by omega) f,v a i (by omega) o f _ B⟩);·obtain⟨o,f,j⟩:=h.lv b z A;exact⟨o,by rw[du (by omega) f,woken_quitsD j],j⟩
theorem PI.af1(u:Geo C)(h:PI C At MAt S t)(f:S.gs[0]?=some g)(l:S.M.pc=.w3)(s:S.s.ws=0)(d:S.fI=false)(k:S.gV=.leaf)(m:∀e,Rl C gS false none S.w e->MAt S.M g e)(n:stepG C.P true g S.w=.go {g with status:=.blocked} S.w #[]):ki C At MAt S t sl 0:=by have x:=u.c0;have q:=runT_crowd_go (P:=C.P) (sl:=sl) f (show stepG C.P (0==0) g S.w=_ from n);have r:MemOp.ofEvents 0 g.frame.fn g.frame.place #[]=#[]:=rfl;have i:∀o,woken C.P g {g with status:=.blocked} S.w o=o:=λo=>Db rfl;refine⟨{S with gs:=put C.P S.gs 0 g {g with status:=.blocked} S.w,fI:=true},_,q,.right _ (.right _ ?_),?_⟩;(·show sumTo S.j (λa=>if S.bl a then 0 else 1)+0<sumTo S.j (λa=>if S.bl a then 0 else 1)+(if S.fI then 0 else 1);simp[d]);·rw[r,Array.append_empty];refine⟨by rw[<-h.size];exact lh,h.jn,h.iS,h.sh,h.rc,h.low,h.bD,h.tok,h.ur,h.mi,h.tw,h.a1,h.lone,h.wi,h.di,h.cm,h.bB,h.iF,h.gI,h.oj,λa p=>?_,λb d v=>?_,⟨_,gD f,.inr ⟨l,rfl,s,k,g,rfl,m⟩⟩,h.d0,h.ti,h.base⟩;(·obtain⟨o,c,w⟩:=h.gE a p;exact⟨o,by rw[du (by omega) c,i],w⟩);·obtain⟨o,c,j⟩:=h.lv b d v;exact⟨o,by rw[du (by omega) c,i],j⟩
theorem RI(e:Geo C)(h:PI C At MAt S t):pP S.M S.s:=by
 have w2:=h.wi.wJ;have f:=h.wi.w2;have g:=h.wi.fin;have i:=e.oQ;refine⟨h.ok e,λd=>?_,λd=>?_,λd=>?_,λd=>?_⟩;·simp only[bV,d]at w2;omega
 ·simp only[bV,d]at w2;omega
 ·obtain⟨a,b,c⟩:=f d;exact⟨a,b,by omega⟩
 ·simp only[bV,d]at w2;exact⟨g (by simp[cC,d]),by omega⟩
theorem PI.Pj(c:Geo C)(N:∀T y O g w,At T y O g w->jv C At T y O g w)(hM:∀M g w,MAt M g w->jk C At MAt Fin M g w)(h:PI C At MAt S t)(A:S.gs[0]?=some g)(Y:MAt S.M g S.w)(Z:S.M.pc≠.mg)(a1:S.M.pc≠.aq)(a3:¬(S.M.pc=.w3/\S.s.ws=0)):ki C At MAt S t sl 0:=by
 have g4:=c.c0;have L:=hM _ _ _ Y;obtain⟨j,s',g',w',z,r,hs,v,i,a2,n,a4⟩:=L.step S.s S.g0 h.sh (RI c h) Z a1 a3;obtain⟨U,p,i3⟩:=PP r;have B:gH C.n S.j j S.T s':=aee r h.wi;have D:eV S.j S.T s':=by unfold eV;rw[p,i3];exact h.mi
 have E:s'.ok:=uK D B h.jn c.oQ;obtain⟨cs,u⟩:=h.rc;have Q:w'.heap[C.Rc]?=S.w.heap[C.Rc]?:=i.block _ (Ne.symm c.kO) (Ne.symm c.j2);have R:=runT_crowd_go (P:=C.P) (sl:=sl) A (show stepG C.P (0==0) g S.w=_ from hs);obtain⟨G,V⟩:=vN (k:=S.j) c N h (g:=g) (g':=g') v E i (λe=>.inl (by rw[i3];exact e));obtain⟨W,X⟩:=SK a2;have H:∀a,a≠0->Deaf (t++MemOp.ofEvents 0 g.frame.fn g.frame.place z) a=Deaf t a:=λa d=>Deaf_other t (Ne.symm d) _ fj;have a0:Deaf (t++MemOp.ofEvents 0 g.frame.fn g.frame.place z) 0=cM j:=by rw[Deaf_own,h.d0,X];split;(·rename_i f;cases r<;>rename_i F<;>rcases f with f|f<;>first|(rw[f]at F;cases F;done)|(rename_i J;rw[f]at J;cases J;done)|simp[cM,f]);·rfl
 refine⟨{S with gs:=put C.P S.gs 0 g g' w',w:=w',M:=j,s:=s',bl:=G,fI:=false,gV:=jh n},_,R,?_,?_⟩;·rcases afR r with f|⟨p1,I,p3⟩;(·refine .left _ _ ?_;show St.A C _<St.A C S;unfold St.A;simp only[i3];omega);·(have e:(St.A C {S with gs:=put C.P S.gs 0 g g' w',w:=w',M:=j,s:=s',bl:=G,fI:=false,gV:=jh n})=St.A C S:=by unfold St.A;simp only[p1,I]);unfold St.meas;rw[e];refine .right _ (.left _ _ ?_);show One ((nz j s',jh n)::(List.range S.j).map λk=>(dW (S.T k) s'.word,S.tr k)) ((nz S.M S.s,S.gV)::(List.range S.j).map λk=>(dW (S.T k) S.s.word,S.tr k));rw[I];exact .head (.left _ _ p3)
 ·refine⟨by rw[<-h.size];exact lh,h.jn,U.trans h.iS,v,⟨cs,Q.trans u.1,u.2⟩,by show C.low<=w'.heap.size;rw[i.size];exact h.low,h.bD,h.tok,h.ur,D,h.tw,λa d=>by show _->_->2<=s'.word.w;rw[p];exact h.a1 a d,λhl=>?_,B,h.di,λm hm=>(h.cm m hm).imp id (Ah c i),⟨λa b l=>?_,h.bB.d,h.bB.t⟩,h.iF,h.gI,h.oj,λa d=>?_,λb l hc=>?_,⟨_,gD A,.inl ⟨rfl,n,rfl,a4⟩⟩,a0,?_,h.base.trans (vK c h.sh v E u i (λb l=>l.elim))⟩;(·have K:s'.word.lone:=hl;rw[p]at K;show∃k,k<S.j/\(S.T k).pc=.uc/\(S.T k).old=s'.word;rw[p];exact h.lone K);(·show C.low<=b/\b<w'.heap.size;rw[i.size];exact h.bB.o a b l);(·obtain⟨o,q,a5⟩:=h.gE a d;refine⟨_,du (by omega) q,?_⟩;have a6:a<S.j:=d;rw[H _ (by omega)];exact V a d (by omega) o q _ a5);(·obtain⟨o,q,x⟩:=h.lv b l hc;refine⟨o,by rw[du (by omega) q,woken_quitsD x],?_⟩;rw[H _ (by omega)];exact x);·show TI C S.j _ w'.heap.size _ _ _ _ _;rw[i.size];exact h.ti.Tv c h.bB h.low W _ _
end
theorem kN(T:Nat->α)(T':α)(b:α->Nat)(j:Nat):sumTo (j+1) (λa=>b (ConcN.upd T j T' a))=sumTo j (λa=>b (T a))+b T':=by simp only[sumTo,upd_same];rw[sumTo_upd_out T T' b (Nat.le_refl _)]
theorem U9(T:Nat->α)(T':α)(b:α->Int)(j:Nat):cF (j+1) (λa=>b (ConcN.upd T j T' a))=cF j (λa=>b (T a))+b T':=by simp only[cF,upd_same];rw[xF (g:=λa=>b (T a)) λa c=>by rw[upd_ne _ _ (by omega)]]
theorem Dt{f:Nat->Nat}(b:∀a,f a<=1):∀{j:Nat},sumTo j f=j->∀a,a<j->f a=1|0,_,a,c=>by omega|j+1,h,a,c=>by have h1:=vP (j:=j) b;have g:=b j;simp only[sumTo]at h;rcases Nat.lt_or_ge a j with d|e;(·exact Dt b (by omega) a d);·(have:a=j:=by omega);rw[this];omega
section
variable{C:Cx}{At:Th->GC->(Nat->Prop)->Dm->DS->Prop}{MAt:Mt->Dm->DS->Prop}{Fin:Dm->Prop}{S:St}{t:Trace}{sl:B3}
/-- THE go STATEMENT -/
theorem PI.fork (K : Geo C) (hM : ∀ M g w, MAt M g w → jk C At MAt Fin M g w) (h : PI C At MAt S t) (hg : S.gs[0]? = some g) (a0 : MAt S.M g S.w) (u : S.M.pc = .mg) : ki C At MAt S t sl 0 := by
  have g4 := K.c0
  have L := hM _ _ _ a0
  have R : S.j < C.n := h.wi.fork (by simp [ck, u])
  obtain ⟨g', f, Z, a6, a7, ⟨n, a3⟩, B⟩ := L.fork u (by rw [h.iS]; exact R)
  obtain ⟨A, B⟩ := B S.D
  have Q := runT_crowd_spawn (P := C.P) (sl := sl) hg (show stepG C.P (0 == 0) g S.w = _ from Z)
  have a2 : ((MemOp.ofEvents 0 g.frame.fn g.frame.place #[]).push { g := 0, fn := g.frame.fn, pos := g.frame.place, act := .go S.gs.size } |>.push { g := S.gs.size, fn := f.frame.fn, pos := g.frame.place, act := .start }) =
      #[({ g := 0, fn := g.frame.fn, pos := g.frame.place, act := .go (C.c0 + S.j) } : MemOp), { g := C.c0 + S.j, fn := f.frame.fn, pos := g.frame.place, act := .start }] := by rw [h.size]; rfl
  rw [a2] at Q
  have h0 : Deaf t 0 = 0 := by rw [h.d0]; simp [cM, u]
  have l : ∀ a, (a = S.j ∧ ConcN.upd S.T S.j ({ pc := .ld } : Th) a = { pc := .ld }) ∨ (a ≠ S.j ∧ ConcN.upd S.T S.j ({ pc := .ld } : Th) a = S.T a) := dx S.T _ S.j
  have E : 0 < S.gs.size := by rw [h.size]; omega
  have V : ∀ a o, a ≠ 0 → S.gs[a]? = some o → ((S.gs.setIfInBounds 0 g').push f)[a]? = some o := fun a o c d => by
    have X := (Array.getElem?_eq_some_iff.1 d).1
    rw [Array.getElem?_push_lt (by simpa using X), ← Array.getElem?_eq_getElem (by simpa using X), Array.getElem?_setIfInBounds_ne (Ne.symm c)]
    exact d
  have hO : S.O S.j = gS := by
    funext b
    exact eq_false fun r => Nat.lt_irrefl _ (h.oj _ b r)
  refine ⟨{ S with j := S.j + 1, gs := (S.gs.setIfInBounds 0 g').push f, M := { pc := if S.M.i + 1 < C.n then .md else .kd, i := S.M.i + 1 }, T := ConcN.upd S.T S.j { pc := .ld }, ys := ConcN.upd S.ys S.j S.D, tr := ConcN.upd S.tr S.j A, gV := jh n, bl := ConcN.upd S.bl S.j false, fI := false }, _, Q, .left _ _ ?_, ?_⟩
  · show St.A C _ < St.A C S
    unfold St.A
    have e1 : sumTo (S.j + 1) (fun a => phi (ConcN.upd S.T S.j { pc := .ld } a) + if (ConcN.upd S.T S.j { pc := .ld } a).pc = .quit then S.q (C.c0 + a) else C.qb) = sumTo S.j (fun a => phi (S.T a) + if (S.T a).pc = .quit then S.q (C.c0 + a) else C.qb) + (60 + C.qb) := by
      simp only [sumTo, upd_same]
      rw [sumTo_congr (g := fun a => phi (S.T a) + if (S.T a).pc = .quit then S.q (C.c0 + a) else C.qb) fun a c => by rw [upd_ne _ _ (by omega)]]
      rfl
    have e2 : eC (if S.M.i + 1 < C.n then Mc.md else .kd) ≤ 10 := by split <;> simp [eC]
    have e3 : eC S.M.pc = 2 := by rw [u]; rfl
    have e4 : (70 + C.qb) * (C.n - S.j) = (70 + C.qb) * (C.n - (S.j + 1)) + (70 + C.qb) := by
      have : C.n - S.j = C.n - (S.j + 1) + 1 := by omega
      rw [this, Nat.mul_add, Nat.mul_one]
    simp only [e1, e3, e4]
    omega
  · refine ⟨by show ((S.gs.setIfInBounds 0 g').push f).size = C.c0 + (S.j + 1); simp [h.size]; omega, R, by show S.M.i + 1 = S.j + 1; rw [h.iS], h.sh, h.rc, h.low, h.bD, fun i d => ?_, fun a c z => ?_, ?_, fun a c => ?_, fun a c hx => ?_, fun hl => ?_, ?_, ?_, fun m q => ?_, h.bB, h.iF, fun a c m q => ?_, fun k b r => Nat.lt_succ_of_lt (h.oj k b r), fun a c => ?_, fun b r v => ?_, ⟨g', ?_, .inl ⟨rfl, n, rfl, a3⟩⟩, ?_, ?_, h.base⟩
    · obtain ⟨k, e, s, z⟩ := h.tok i d
      refine ⟨k, e, Nat.lt_succ_of_lt s, ?_⟩
      show (ConcN.upd S.T S.j _ k).pc = .ur
      rw [upd_ne _ _ (by omega)]
      exact z
    · have D : (ConcN.upd S.T S.j ({ pc := .ld } : Th) a).pc = .ur := z
      rcases l a with ⟨_, e⟩ | ⟨p, e⟩ <;> rw [e] at D
      · cases D
      · have y : a < S.j + 1 := c
        obtain ⟨o1, o2⟩ := h.ur a (by omega) D
        refine ⟨o1, ?_⟩
        show ConcN.upd S.ys S.j S.D a = S.D
        rw [upd_ne _ _ p]
        exact o2
    · show eV (S.j + 1) (ConcN.upd S.T S.j { pc := .ld }) S.s
      unfold eV
      rw [kN S.T _ aS, kN S.T _ aU, kN S.T _ bz, kN S.T _ aQ, kN S.T _ bm, kN S.T _ bg]
      exact h.mi
    · show TW (ConcN.upd S.T S.j _ a)
      rcases l a with ⟨_, e⟩ | ⟨p, e⟩ <;> rw [e]
      · exact mh rfl yR
      · have y : a < S.j + 1 := c
        exact h.tw a (by omega)
    · have G : (ConcN.upd S.T S.j ({ pc := .ld } : Th) a).pc = .a1 := hx
      show (ConcN.upd S.T S.j ({ pc := .ld } : Th) a).ex = false → _
      rcases l a with ⟨_, e⟩ | ⟨p, e⟩ <;> rw [e] at G ⊢
      · cases G
      · have y : a < S.j + 1 := c
        exact h.a1 a (by omega) G
    · obtain ⟨k, s, p1, H⟩ := h.lone hl
      refine ⟨k, Nat.lt_succ_of_lt s, ?_⟩
      show (ConcN.upd S.T S.j _ k).pc = .uc ∧ (ConcN.upd S.T S.j _ k).old = _
      rw [upd_ne _ _ (by omega)]
      exact ⟨p1, H⟩
    · show gH C.n (S.j + 1) { pc := if S.M.i + 1 < C.n then .md else .kd, i := S.M.i + 1 } (ConcN.upd S.T S.j { pc := .ld }) S.s
      unfold gH
      rw [kN S.T _ aB, kN S.T _ aE, kN S.T _ aF]
      obtain ⟨h1, h2, O, U, h5, h6, h7, h8, N, W⟩ := h.wi
      have a8 := h.iS
      simp only [cf, bV, u] at h1 h2
      have z1 : aB ({ pc := .ld } : Th) = 0 := rfl
      have z2 : aE ({ pc := .ld } : Th) = 0 := rfl
      have z3 : aF ({ pc := .ld } : Th) = 0 := rfl
      rw [z1, z2, z3, Nat.add_zero, Nat.add_zero, Nat.add_zero]
      by_cases v : S.M.i + 1 < C.n
      · rw [if_pos v]
        exact ⟨by simp only [cf]; omega, by simp only [bV]; omega, O, U, fun _ => by omega, fun x => (by simp [ck] at x), fun x => (by simp [cC] at x), fun x => (by cases x), N, W⟩
      · rw [if_neg v]
        exact ⟨by simp only [cf]; omega, by simp only [bV]; omega, O, U, fun x => (by simp [ck] at x), fun _ => by omega, fun x => (by simp [cC] at x), fun x => (by cases x), N, W⟩
    · show DI C S.D (S.j + 1) (ConcN.upd S.T S.j { pc := .ld })
      refine ⟨fun a c => ?_, h.di.le, fun a c m q => ?_, fun a b c r m F I => ?_, fun a c d => ?_, fun i => ?_⟩
      · rcases l a with ⟨_, e⟩ | ⟨p, e⟩ <;> rw [e]
        · exact ⟨fun _ _ => rfl, fun x => (by cases x), rfl, fun x => (by cases x)⟩
        · exact h.di.tj a (by omega)
      · rcases l a with ⟨_, e⟩ | ⟨p, e⟩ <;> rw [e] at q
        · cases q
        · exact h.di.lt a (by omega) m q
      · rcases l a with ⟨_, e⟩ | ⟨p, e⟩ <;> rw [e] at F
        · cases F
        · rcases l b with ⟨_, Y⟩ | ⟨nb, Y⟩ <;> rw [Y] at I
          · cases I
          · exact h.di.bB a b (by omega) (by omega) m F I
      · rcases l a with ⟨_, e⟩ | ⟨p, e⟩ <;> rw [e] at d
        · rcases d with d | ⟨_, d, _⟩ <;> cases d
        · exact h.di.nV a (by omega) d
      · rw [U9 S.T _ (pend C i)]
        have := h.di.sum i
        have e : pend C i ({ pc := .ld } : Th) = 0 := rfl
        rw [e]
        omega
    · rcases h.cm m q with ⟨k, s, p1, H⟩ | hr
      · refine .inl ⟨k, Nat.lt_succ_of_lt s, ?_⟩
        show (ConcN.upd S.T S.j _ k).af = some m ∧ hold (ConcN.upd S.T S.j _ k)
        rw [upd_ne _ _ (by omega)]
        exact ⟨p1, H⟩
      · exact .inr hr
    · have J : (ConcN.upd S.T S.j ({ pc := .ld } : Th) a).af = some m := q
      rcases l a with ⟨_, e⟩ | ⟨p, e⟩ <;> rw [e] at J
      · cases J
      · have y : a < S.j + 1 := c
        exact h.gI a (by omega) m J
    · rw [xq]
      have y : a < S.j + 1 := c
      by_cases haj : a = S.j
      · subst haj
        refine ⟨f, ?_, .inr (.inl ⟨?_, ?_, ?_, ?_⟩)⟩
        · show ((S.gs.setIfInBounds 0 g').push f)[C.c0 + S.j]? = some f
          rw [← h.size]
          have : S.gs.size = (S.gs.setIfInBounds 0 g').size := by simp
          rw [this, Array.getElem?_push_size]
        · show (ConcN.upd S.T S.j ({ pc := .ld } : Th) S.j).pc ≠ .quit
          rw [upd_same]; simp
        · show Deaf t (C.c0 + S.j) = aL (ConcN.upd S.T S.j ({ pc := .ld } : Th) S.j)
          rw [upd_same]
          exact Deaf_absent fun i op hi e => by have := h.ti.lt.gs i op hi; omega
        · exact upd_same _ _ _
        · show uN C At (ConcN.upd S.T S.j ({ pc := .ld } : Th) S.j) (ConcN.upd S.ys S.j S.D S.j) (ConcN.upd S.tr S.j A S.j) (S.O S.j) f S.w
          rw [upd_same, upd_same, upd_same, hO]
          exact B
      · obtain ⟨o, d, a5⟩ := h.gE a (by omega)
        refine ⟨o, V _ _ (by omega) d, ?_⟩
        show eT C At (ConcN.upd S.bl S.j false a) (ConcN.upd S.T S.j _ a) (ConcN.upd S.ys S.j S.D a) (ConcN.upd S.tr S.j A a) (S.O a) o S.w S.s _ _
        rw [upd_ne _ _ haj, upd_ne _ _ haj, upd_ne _ _ haj, upd_ne _ _ haj]
        exact a5
    · rw [xq]
      obtain ⟨o, d, a4⟩ := h.lv b r v
      exact ⟨o, V _ _ (by omega) d, a4⟩
    · show ((S.gs.setIfInBounds 0 g').push f)[0]? = some g'
      rw [Array.getElem?_push_lt (by simpa using E), ← Array.getElem?_eq_getElem (by simpa using E), Array.getElem?_setIfInBounds_self_of_lt E]
    · rw [xq, h0]
      show 0 = cM { pc := if S.M.i + 1 < C.n then .md else .kd, i := S.M.i + 1 }
      split <;> rfl
    · exact h.ti.fork K h.bB h0 rfl _ _ _
structure oG(C:Cx)(g':Dm)(gs:B9)(w:DS)(t:Trace):Prop where
 h0:gs[0]?=some g'
 lv:∃q:Nat->Nat,∀i g,0<i->gs[i]?=some g->QuitsD C.P (q i) (Deaf t i) g
 ps:fp (eX C) gs.size w.heap.size t
 ot:∃x ms D,iR C w x ms (fR D)/\D.n=C.N/\∀i,D.c i=cF C.N (λm=>C.bj m i)
 rc:∃cs,kZ C w cs
 cm:∀m,m<C.N->hH C m w
 base:Rl C gS false none C.w0 w
theorem PI.fin(u:Geo C)(R:∀M g w,MAt M g w->jk C At MAt Fin M g w)(h:PI C At MAt S t)(D:S.gs[0]?=some g)(O:MAt S.M g S.w)(n:S.M.pc=.aq):∃g' E ops,runT C.P (crowd S.gs S.w sl) 0=(.next (crowd E S.w sl),ops)/\g'.status=.running/\Fin g'/\oG C g' E S.w (t++ops):=by
 have g4:=u.c0;have g5:=u.n1;have L:=R _ _ _ O;obtain⟨g',hs,N,a1⟩:=L.acq n;have U:=runT_crowd_go (P:=C.P) (sl:=sl) D (show stepG C.P (0==0) g S.w=_ from hs);have a5:S.j=C.n:=h.wi.join (by simp[ck,n]);have su:=h.wi.fin (by simp[cC,n]);have w1:=h.wi.su;have w2:=h.wi.wJ;have w3:=h.wi.fu;simp only[cf,bV,n]at w1 w2;have Y:∀a,a<S.j->aB (S.T a)=1:=Dt (λa=>xM (S.T a)) (by omega);have fu:sumTo S.j (λk=>aE (S.T k))=0:=by rcases Nat.eq_zero_or_pos (sumTo S.j (λk=>aE (S.T k)))with x|x;(·exact x);·have:=w3 x;omega
 have l:∀a,a<S.j->(S.T a).pc=.quit:=λa d=>by have V:=Y a d;have x2:=le_sumTo (f:=λk=>aE (S.T k)) d;have x3:=le_sumTo (f:=λk=>aF (S.T k)) d;(have Z:aE (S.T a)=0:=by omega);(have y3:aF (S.T a)=0:=by omega);cases a3:(S.T a).pc<;>simp[aB,aE,aF,a3]at V Z y3⊢
 have y:∀a,a<S.j->(S.T a).af=none:=λa d=>((h.di.tj a d).Ez (by rw[l a d];rfl)).1;have q:S.D.n=C.N:=h.di.nV 0 (by omega) (.inl (by rw[l 0 (by omega)];rfl));have T:S.o=none:=by cases e:S.o with|none=>rfl|some i=>obtain⟨k,_,s,F⟩:=h.tok i e;rw[l k s]at F;cases F
 have W:Deaf t 0=0:=by rw[h.d0];simp[cM,n]
 have X:=G4 0 g.frame.fn g.frame.place (.acquire (dC C));refine⟨g',put C.P S.gs 0 g g' S.w,_,U,N,a1,⟨gD D,⟨S.q,λi o G p=>?_⟩,?_,⟨S.s.word,S.s.ms,S.D,?_,q,λi=>?_⟩,h.rc,λm hm=>?_,h.base⟩⟩;·(have a4:i<C.c0+S.j:=by have:=(Array.getElem?_eq_some_iff.1 p).1;rw[lh,h.size]at this;exact this);rw[Deaf_other t (g':=0) (by omega) _ fj];rcases Nat.lt_or_ge i C.c0 with A|A;(·obtain⟨I,r,H⟩:=h.lv i G A;rw[du (by omega) r,woken_quitsD H]at p;cases p;exact H);·obtain⟨k,rfl⟩:∃k,i=C.c0+k:=⟨i-C.c0,by omega⟩;obtain⟨I,r,a0⟩:=h.gE k (by omega);(have J:QuitsD C.P (S.q (C.c0+k)) (Deaf t (C.c0+k)) I:=by rcases a0 with⟨_,x⟩|⟨x,_⟩|⟨x,_⟩;(·exact x);(·exact absurd (l k (by omega)) x);·rw[l k (by omega)]at x;cases x);rw[du (by omega) r,woken_quitsD J]at p;cases p;exact J
 ·rw[lh,h.size,X];have:=ME (c:=C.c0) (B:=S.w.heap.size) (h.bB.apart u) h.ti.lt h.ti.low h.ti.nt W h.ti.old (λi G v=>?_) (b:=dC C) (z:={g:=0,fn:=g.frame.fn,pos:=g.frame.place,act:=.mark (.acquire (dC C))}) rfl rfl;(·rw[show C.c0+S.j-1+1=C.c0+S.j by omega]at this;exact this);·obtain⟨k,rfl⟩:∃k,i=C.c0+k:=⟨i-C.c0,by omega⟩;exact h.ti.rel k (by omega) (by simp[Th.gone,l k (by omega)])
 ·have:=h.bD T;rw[<-this];exact h.sh.1
 ·have a2:=h.di.sum i;(have e:cF S.j (λk=>pend C i (S.T k))=0:=by(have:∀j,(∀a,a<j->pend C i (S.T a)=0)->cF j (λk=>pend C i (S.T k))=0:=by intro j;induction j with|zero=>intro _;rfl|succ j ih=>intro K;rw[cF,ih λa d=>K a (by omega),K j (by omega)];rfl);exact this _ λa d=>by unfold pend;rw[y a d];split<;>rfl);rw[e,q]at a2;omega
 ·rcases h.cm m (by rw[q];exact hm)with⟨k,s,v,_⟩|Q;(·rw[y k s]at v;cases v);·exact Q
theorem ahy(p:Geo C)(u:∀T y O g w,At T y O g w->jv C At T y O g w)(m:∀M g w,MAt M g w->jk C At MAt Fin M g w):∀(J:Ms)(S:St)(t:Trace)(sl:B3),S.meas C=J->PI C At MAt S t->∃n g' j w' r q,runNT C.P n (crowd S.gs S.w sl) t=(.next (crowd j w' r),q)/\g'.status=.running/\Fin g'/\oG C g' j w' q:=by intro J;induction J using Vs.induction with|_ J ih=>intro S t sl ag h;have g4:=p.c0;obtain⟨gm,a6,U⟩:=h.ms;(have ao:S.fI=false->gm.status=.running:=λI=>by rcases U with⟨_,n,_,l⟩|⟨_,a2,_⟩;(·exact l.running m);·rw[I]at a2;cases a2);(have aa:∀(i:Nat)(o:Dm),S.gs[i]?=some o->o.status=.running\/o.status=.blocked\/o.status=.finished:=by intro i o a;by_cases h0:i=0;(·subst h0;rw[a6]at a;cases a;rcases U with⟨_,n,_,l⟩|⟨_,_,_,_,V,rfl,_⟩;(·exact .inl (l.running m));·exact .inr (.inl rfl));·rcases Nat.lt_or_ge i C.c0 with z|z;(·obtain⟨o',H,s⟩:=h.lv i (by omega) z;rw[a]at H;cases H;exact s.status.elim .inl λx=>.inr (.inr x));·(have N:i<C.c0+S.j:=by have:=(Array.getElem?_eq_some_iff.1 a).1;rw[h.size]at this;exact this);obtain⟨k,rfl⟩:∃k,i=C.c0+k:=⟨i-C.c0,by omega⟩;obtain⟨o',H,K⟩:=h.gE k (by omega);rw[a]at H;cases H;rcases K with⟨_,s⟩|⟨_,_,_,l⟩|⟨_,_,_,_,V,rfl,_⟩;(·exact s.status.elim .inl λx=>.inr (.inr x));(·exact .inl (l.running λ_ _ _ Q=>(u _ _ _ _ _ Q).run));·exact .inr (.inl rfl));(have ai:∀o∈S.gs,awake o:=λo a=>by obtain⟨i,L,rfl⟩:=Array.mem_iff_getElem.1 a;exact awake_of (aa i _ (Array.getElem?_eq_getElem L)));(have qD:∃(i:Nat)(o:Dm),S.gs[i]?=some o/\o.status=.running:=by by_cases z:∃(i:Nat)(o:Dm),S.gs[i]?=some o/\o.status=.running;(·exact z);·exfalso;have a1:∀(i:Nat)(o:Dm),S.gs[i]?=some o->o.status≠.running:=λi o a A=>z ⟨i,o,a,A⟩;rcases U with⟨_,n,_,l⟩|⟨hp,_,ae,_⟩;(·exact a1 0 gm a6 (l.running m));·refine agM h.mi h.wi h.lone (λk B=>?_) hp ae;obtain⟨o,a,K⟩:=h.gE k B;rcases K with⟨s,_⟩|⟨_,_,_,l⟩|⟨ah,_,_,ak,_⟩;(·exact .inl s);(·exact absurd (l.running λ_ _ _ Q=>(u _ _ _ _ _ Q).run) (a1 _ o a));·exact .inr ⟨ah,ak⟩);obtain⟨i,g,d,r,L,A,Y⟩:=crowd_pick (P:=C.P) (w:=S.w) (sl:=sl) ai qD;have b:=h.at d;have c:({S with w:=S.w.at d}:St).gs[i]?=some g:=L;(have v:ki C At MAt {S with w:=S.w.at d} t r i->∃n g' j w' r q,runNT C.P n (crowd S.gs S.w sl) t=(.next (crowd j w' r),q)/\g'.status=.running/\Fin g'/\oG C g' j w' q:=by rintro⟨S',ops,R,N,a9⟩;have W:({S with w:=S.w.at d}:St).meas C=J:=ag;rw[W]at N;obtain⟨n,g',j,w',ab,q,h1,h2⟩:=ih _ N S' (t++ops) r rfl a9;exact⟨n+1,g',j,w',ab,q,by simp only[runNT,Y,R];exact h1,h2⟩);by_cases h0:i=0;(·subst h0;obtain⟨Z,ac,ad⟩:=b.ms;(have:Z=g:=by have x:some Z=some g:=ac.symm.trans c;exact Option.some.inj x);subst this;rcases ad with⟨I,n,E,g1,a0,F⟩|⟨_,_,_,_,V,e,_⟩;(·cases n with|succ n=>obtain⟨g2,W,aj⟩:=a0;exact v (b.adH p u c E W ⟨g1,aj,F⟩)|zero=>cases a0;have D:=F _ (Rl.refl _ _ _ _);by_cases hp1:S.M.pc=.mg;(·exact v (b.fork p m c D hp1));·by_cases hp2:S.M.pc=.aq;(·obtain⟨g',j,ops,R,a8,al,am⟩:=b.fin (sl:=r) p m c D hp2;exact⟨1,g',j,_,r,t++ops,by simp only[runNT,Y,R],a8,al,am⟩);·by_cases hp3:S.M.pc=.w3/\S.s.ws=0;(·exact v (b.af1 p c hp3.1 hp3.2 I E F ((m _ _ _ D).wait _ _ b.sh hp3.1 hp3.2)));·exact v (b.Pj p u m c D hp1 hp2 hp3));·rw[e]at A;cases A);·rcases Nat.lt_or_ge i C.c0 with z|z;(·obtain⟨o,a,s⟩:=b.lv i (by omega) z;have:o=g:=Option.some.inj (a.symm.trans c);subst this;exact v (b.gq p u m (by omega) (.inl z) c A s));·(have N:i<C.c0+S.j:=by have:=(Array.getElem?_eq_some_iff.1 L).1;rw[h.size]at this;exact this);obtain⟨k,rfl⟩:∃k,i=C.c0+k:=⟨i-C.c0,by omega⟩;(have B:k<S.j:=by omega);obtain⟨o,a,K⟩:=b.gE k B;have:o=g:=Option.some.inj (a.symm.trans c);subst this;rcases K with⟨s,hQ⟩|⟨a3,X,I,l⟩|⟨_,_,_,_,V,e,_⟩;(·exact v (b.gq p u m (by omega) (.inr ⟨k,B,rfl,s⟩) c A hQ));(·(have a5:(∀a4,Rl C (S.O k) (S.T k).own (S.T k).af (S.w.at d) a4->At (S.T k) (S.ys k) (S.O k) o a4)->∃n g' j w' r q,runNT C.P n (crowd S.gs S.w sl) t=(.next (crowd j w' r),q)/\g'.status=.running/\Fin g'/\oG C g' j w' q:=by intro F;have D:=F _ (Rl.refl _ _ _ _);by_cases hw:(S.T k).pc=.s1/\S.s.ms=0;(·exact v (b.block p B c hw.1 hw.2 I X F ((u _ _ _ _ _ D).wait _ _ b.sh hw.1 hw.2)));·exact v (b.stop p u m B c X D a3 hw));have G:uN C At (S.T k) (S.ys k) (S.tr k) (S.O k) o (S.w.at d):=l;cases E:S.tr k with|leaf=>rw[E]at G;exact a5 G|node f=>rw[E]at G;rcases G with G|⟨_,an⟩;(·exact a5 G);·obtain⟨g',w',es,O',hs,hD,ap,a7⟩:=an _ (Rl.refl _ _ _ _);exact v (b.work p u m B c E a3 X hs hD a7));·rw[e]at A;cases A
end
end Ph
namespace Co
open Conc ConcN Ph Kw
structure dN(P:Program)(Sh:Loc->Prop)(gs:B9)(w:DS)(t:Trace)(g:Dm):Prop where
 h0:gs[0]?=some g
 lv:∃q:Nat->Nat,∀i o,0<i->gs[i]?=some o->QuitsD P (q i) (Deaf t i) o
 ps:fp Sh gs.size w.heap.size t
def Comes(P:Program)(Fin:B9->DS->B3->Trace->Prop)(gs:B9)(w:DS)(sl:B3)(t:Trace):Prop:=∃n b w' c a,runNT P n (crowd gs w sl) t=(.next (crowd b w' c),a)/\Fin b w' c a
section
variable{P:Program}{Fin:B9->DS->B3->Trace->Prop}
theorem Comes.here{t:Trace}(h:Fin gs w sl t):Comes P Fin gs w sl t:=⟨0,gs,w,sl,t,rfl,h⟩
theorem Comes.step{b:B9}{a:B3}{t ops:Trace}(h:stepT P (crowd gs w sl)=(.next (crowd b w1 a),ops))(k:Comes P Fin b w1 a (t++ops)):Comes P Fin gs w sl t:=by obtain⟨n,d,w',e,f,h1,c⟩:=k;exact⟨n+1,d,w',e,f,by simp only[runNT,h];exact h1,c⟩
theorem Comes.trans{Fin':B9->DS->B3->Trace->Prop}{t:Trace}(h:Comes P Fin' gs w sl t)(k:∀gs w sl t,Fin' gs w sl t->Comes P Fin gs w sl t):Comes P Fin gs w sl t:=by obtain⟨n,p,w',j,l,h1,d⟩:=h;obtain⟨m,e,w2,c,t2,k1,b⟩:=k _ _ _ _ d;refine⟨n+m,e,w2,c,t2,?_,b⟩;(have g:∀(n:Nat)(x:Machine)(t:Trace)(y:Machine)(u:Trace),runNT P n x t=(.next y,u)->runNT P (n+m) x t=runNT P m y u:=by intro n;induction n with|zero=>intro x t y u h;simp only[runNT,Prod.mk.injEq,Stepped.next.injEq]at h;obtain⟨rfl,rfl⟩:=h;rw[Nat.zero_add]|succ n f=>intro x t y u h;rw[Nat.succ_add];simp only[runNT]at h⊢;cases i:stepT P x with|mk r ops=>rw[i]at h;cases r with|next a=>exact f a _ y u h|ended o w'=>simp at h);rw[g n _ _ _ _ h1];exact k1
theorem dN.next{Sh:Loc->Prop}:∀(s:Nat){gs:B9}{w:DS}{sl:B3}{t:Trace}{g:Dm}(q:Nat->Nat),gs[0]?=some g->(∀i o,0<i->gs[i]?=some o->QuitsD P (q i) (Deaf t i) o)->fp Sh gs.size w.heap.size t->g.status=.running->sumTo gs.size q=s->(∀d,∃g' w' l,stepG P true g (w.at d)=.go g' w' l/\(∀e∈l,EvM Sh w'.heap.size e)/\w.heap.size<=w'.heap.size/\∀D v G,D.size=gs.size->dN P Sh D w' G g'->Comes P Fin D w' v G)->Comes P Fin gs w sl t:=by intro s;induction s using Nat.strongRecOn with|_ s N=>intro gs w sl t g q h0 z H y a2 F;(have K:∀o∈gs,awake o:=λo p=>by obtain⟨i,k,rfl⟩:=Array.mem_iff_getElem.1 p;by_cases hi0:i=0;(·subst hi0;have:gs[0]?=some gs[0]:=Array.getElem?_eq_getElem k;rw[h0]at this;cases this;exact awake_of (.inl y));·exact awake_of ((z i _ (by omega) (Array.getElem?_eq_getElem k)).status.elim .inl λx=>.inr (.inr x)));obtain⟨i,o,d,v,k,p,J⟩:=crowd_pick (P:=P) (w:=w) (sl:=sl) K ⟨0,g,h0,y⟩;have I:=(Array.getElem?_eq_some_iff.1 k).1;by_cases hi0:i=0;(·subst hi0;rw[h0]at k;cases k;obtain⟨g',w',l,k1,M,S,L⟩:=F d;have C:=runT_crowd_go (P:=P) (sl:=v) h0 (show stepG P (0==0) g (w.at d)=_ from k1);refine .step (J.trans C) (L _ v _ (by simp) ⟨gD (P:=P) (w':=w') h0,⟨q,λa b r m=>?_⟩,?_⟩);(·have W:Deaf (t++MemOp.ofEvents 0 g.frame.fn g.frame.place l) a=Deaf t a:=Deaf_other t (by omega) _ fj;rw[W];cases j:gs[a]? with|none=>(have:a<gs.size:=by have:=(Array.getElem?_eq_some_iff.1 m).1;simpa using this);rw[Array.getElem?_eq_getElem this]at j;cases j|some c=>have u:=z a c r j;have f:(put P gs 0 g g' w')[a]?=some (woken P g g' w' c):=du (by omega) j;unfold put at f;rw[m]at f;cases f;rw[woken_quitsD u];exact u);·rw[show((gs.map (woken P g g' w')).setIfInBounds 0 g').size=gs.size by simp];exact H.own (by omega) S M);·have A:=z i o (by omega) k;cases B:q i with|zero=>rw[B]at A;rw[A.1]at p;cases p|succ n=>rw[B]at A;rcases A with⟨R,_⟩|⟨_,h,l,T,U,V⟩;(·rw[R]at p;cases p);·(have O:(i==0)=false:=by simpa using hi0);have C:=runT_crowd_go (P:=P) (sl:=v) k (show stepG P (i==0) o (w.at d)=_ by rw[O];exact U (w.at d));refine .step (J.trans C) ?_;have X:∀a,a≠i->Deaf (t++MemOp.ofEvents i o.frame.fn o.frame.place l) a=Deaf t a:=λa r=>Deaf_other t (Ne.symm r) _ fj;have Y:Deaf (t++MemOp.ofEvents i o.frame.fn o.frame.place l) i=deafBehind (Deaf t i) l:=Deaf_own .. ;(have E:((gs.map (woken P o h (w.at d))).setIfInBounds i h).size=gs.size:=by simp);(have a0:∀a b,0<a->((gs.map (woken P o h (w.at d))).setIfInBounds i h)[a]?=some b->QuitsD P (ConcN.upd q i n a) (Deaf (t++MemOp.ofEvents i o.frame.fn o.frame.place l) a) b:=λa b r m=>by by_cases hai:a=i;(·subst hai;have f:(put P gs a o h (w.at d))[a]?=some h:=gD k;unfold put at f;rw[m]at f;cases f;rw[upd_same,Y];exact V);·rw[upd_ne _ _ hai,X a hai];cases j:gs[a]? with|none=>(have:a<gs.size:=by have:=(Array.getElem?_eq_some_iff.1 m).1;simpa using this);rw[Array.getElem?_eq_getElem this]at j;cases j|some c=>have u:=z a c r j;have f:(put P gs i o h (w.at d))[a]?=some (woken P o h (w.at d) c):=du hai j;unfold put at f;rw[m]at f;cases f;rw[woken_quitsD u];exact u);(have Z:sumTo gs.size (ConcN.upd q i n)<s:=by(have e1:sumTo gs.size (ConcN.upd q i n)+(n+1)=sumTo gs.size q+n:=by have:=sumTo_upd q n id I;simpa[B]using this);omega);(have a1:((gs.map (woken P o h (w.at d))).setIfInBounds i h)[0]?=some g:=by have f:(put P gs i o h (w.at d))[0]?=some (woken P o h (w.at d) g):=du (Ne.symm hi0) h0;unfold put at f;rw[f];(have:woken P o h (w.at d) g=g:=by unfold woken;split;(·unfold Goroutine.again;rw[y]);·rfl);rw[this]);refine N _ Z (ConcN.upd q i n) a1 a0 ?_ y (by rw[E]) ?_;(·rw[E];exact H.mute hi0 I T);·intro Q;rw[E];exact F Q
end
abbrev Ls:=Frame×B8×DS
section
variable{P:Program}{Q:Fi->DS->Prop}
def Nx(P:Program)(x y:Ls):Prop:=¬(x.1.mode=.returning/\x.2.1=Bs P)/\∃T d a,stepG P true (VG x.1 x.2.1) (aG x.2.2 T d)=.go (VG y.1 y.2.1) y.2.2 a
inductive Path(P:Program):Ls->Ls->Prop|one{x y:Ls}(h:Nx P x y):Path P x y|cons{x y z:Ls}(h:Nx P x y)(k:Path P y z):Path P x z
theorem Path.trans{x y z:Ls}(h:Path P x y)(k:Path P y z):Path P x z:=by induction h with|one h=>exact .cons h k|cons h _ a=>exact .cons h (a k)
theorem WR.at{K:Cm}{r:Rn}(h:WR K P r v w)(d:Nat):WR K P r v (w.at d):=⟨h.cy,h.inj,h.one,h.low,h.eu⟩
theorem Ends.nx{fr:Frame}{l:B8}(h:Ends P (Bs P) Q fr l v){y:Ls}(k:Nx P (fr,l,v) y):Ends P (Bs P) Q y.1 y.2.1 y.2.2:=by cases h with|gq h _=>exact absurd ⟨h.1,rfl⟩ k.1|step n f i u h e=>obtain⟨_,T,d,m,a⟩:=k;obtain⟨j,g⟩:=h T d;dsimp only at a;rw[g]at a;simp only[GStep.go.injEq,Goroutine.mk.injEq,and_true]at a;obtain⟨⟨h1,c⟩,b,_⟩:=a;rw[<-h1,<-c,<-b];exact e T d
theorem Ends.along{x y:Ls}(k:Path P x y):Ends P (Bs P) Q x.1 x.2.1 x.2.2->Ends P (Bs P) Q y.1 y.2.1 y.2.2:=by induction k with|one h=>exactλe=>e.nx h|cons h _ a=>exactλe=>a (e.nx h)
theorem Ends.ind{a:Ls->Prop}(h:∀x:Ls,Ends P (Bs P) Q x.1 x.2.1 x.2.2->(∀y,Path P x y->a y)->a x):∀{fr:Frame}{l:B8}{v:DS},Ends P (Bs P) Q fr l v->a (fr,l,v):=by(have s:∀{fr:Frame}{l:B8}{v:DS},Ends P (Bs P) Q fr l v->a (fr,l,v)/\∀y,Path P (fr,l,v) y->a y:=by intro fr l v g;induction g with|@gq fr v x c n=>(have m:∀y,¬Path P (fr,Bs P,v) y:=λy k=>by cases k with|one k|cons k _=>exact k.1 ⟨c.1,rfl⟩);exact⟨h _ (.gq c n) λy k=>absurd k (m y),λy k=>absurd k (m y)⟩|@step fr l v w f o u i e q=>(have first:∀y,Nx P (fr,l,v) y->a y/\∀z,Path P y z->a z:=by rintro⟨f1,l1,v1⟩⟨_,T,d,C,b⟩;obtain⟨B,r⟩:=i T d;dsimp only at b;rw[r]at b;simp only[GStep.go.injEq,Goroutine.mk.injEq,and_true]at b;obtain⟨⟨h1,t⟩,A,_⟩:=b;have:=q T d;rw[h1,t,A]at this;exact this);(have j:∀y,Path P (fr,l,v) y->a y:=λy k=>by cases k with|one k=>exact(first y k).1|cons k p=>exact(first _ k).2 y p);exact⟨h (fr,l,v) (.step w f o u i e) j,j⟩);intro fr l v g;exact(s g).1
def ci(Sh:Loc->Prop)(w:DS):Prop:=∀l,Sh l->∃ad:Addr,l=.cell ad/\ad.block<w.heap.size
def ml(Sh:Loc->Prop)(r:Rn):Prop:=∀a b,r a b->∀ad:Addr,ad.block=b->¬Sh (.cell ad)
theorem Fq{K:Cm}{Sh:Loc->Prop}{r1:Rn}{v1:DS}(k:WR K P r1 v1 w1)(o:ml Sh r1)(n:ci Sh w){e:Event}(j:jR r1 v e):EvM Sh w1.heap.size e:=by
 obtain⟨j,q⟩:=j;obtain⟨r,wt,s⟩:=e;rcases j with⟨a,b,i,g,d,_⟩|⟨f,h⟩|h|⟨a,b,i,g,d,l,_⟩;·dsimp only at g d;subst g d;refine⟨λy c=>?_,by simp,by simp,by simp⟩;cases wt<;>(simp[MemAct.ofEvent,MemAct.touch?]at c;subst c;exact⟨o _ _ i _ rfl,(k.lt i).2⟩)
 ·exact absurd h (q f)
 ·dsimp only at h;subst h;exact⟨λy c=>by simp[MemAct.ofEvent,MemAct.touch?]at c,by simp,by simp,by simp⟩
 ·dsimp only at g d l;subst g d l;refine⟨λy c=>?_,by simp,by simp,by simp⟩;simp[MemAct.ofEvent,MemAct.touch?]at c;subst c;refine⟨λp=>?_,(k.lt i).2⟩;obtain⟨ad,m,_⟩:=n _ p;cases m
theorem ml.dX{Sh:Loc->Prop}{r r1:Rn}(h:ml Sh r)(g:ci Sh w)(e:Eff r r1 v w w1):ml Sh r1:=by intro a b f ad d c;rcases e.new a b f with h1|⟨_,j⟩;(·exact h a b h1 ad d c);·obtain⟨i,e1,e2⟩:=g _ c;cases e1;omega
theorem ci.mono{Sh:Loc->Prop}(h:ci Sh w)(k:w.heap.size<=w1.heap.size):ci Sh w1:=λl a=>let⟨ad,e1,e2⟩:=h l a;⟨ad,e1,by omega⟩
end
end Co
end
end Go.Proofs.YtjebhbopmfcopaaGreatDoor
