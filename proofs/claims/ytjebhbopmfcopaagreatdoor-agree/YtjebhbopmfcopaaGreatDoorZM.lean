/- Agree, a part. -/
import Derived.Test.YtjebhbopmfcopaaGreatDoorProg
import Derived.Test.YtjebhbopmfcopaaGreatDoorZL
set_option maxRecDepth 100000
namespace Go.Proofs.YtjebhbopmfcopaaGreatDoor
open Go.Proofs Tryz
noncomputable section
variable{ops:Array Oper}{g:Gq}{i:Nat}{V:Nat->HH}{v:HH}{w:HA}
namespace Co
open Conc ConcN Ph Kw
section
variable{P:Program}{Fin:Fo->HA->CL->Trace->Prop}
theorem dB.ahF{Sh:Loc->Prop}{X:Trace->Prop}(S:∀(t:Trace)i fn pos(es:Array Event),i≠0->(∀e∈es,e.mute=true)->X t->X (t++MemOp.ofEvents i fn pos es)):∀(u:Nat){gs:Fo}{w:HA}{sl:CL}{t:Trace}{g:Gq}(q:Nat->Nat),gs[0]?=some g->(∀i o,0<i->gs[i]?=some o->QuitsD P (q i) (Deaf t i) o)->dx Sh gs.size w.heap.size t->X t->g.status=.running->sumTo gs.size q=u->(∀d,∃g' w' es,stepG P true g (w.at d)=.go g' w' es/\(∀e∈es,EvM Sh w'.heap.size e)/\w.heap.size<=w'.heap.size/\∀C s E B fn pos,C.size=gs.size->X B->iY w.heap.size B->E=B++MemOp.ofEvents 0 fn pos es->dB P Sh C w' E g'->Comes P Fin C w' s E)->Comes P Fin gs w sl t:=by intro u;induction u using Nat.strongRecOn with|_ u U=>intro gs w sl t g q h0 y D I v a4 L;(have V:∀o∈gs,awake o:=λo l=>by obtain⟨i,k,rfl⟩:=Array.mem_iff_getElem.1 l;by_cases hi0:i=0;(·subst hi0;have:gs[0]?=some gs[0]:=Array.getElem?_eq_getElem k;rw[h0]at this;cases this;exact awake_of (.inl v));·exact awake_of ((y i _ HU (Array.getElem?_eq_getElem k)).status.elim .inl λx=>.inr (.inr x)));obtain⟨i,o,d,s,k,l,H⟩:=crowd_pick (P:=P) (w:=w) (sl:=sl) V ⟨0,g,h0,v⟩;have J:=(J2.1 k).1;by_cases hi0:i=0;(·subst hi0;rw[h0]at k;cases k;obtain⟨g',w',es,k1,O,Q,R⟩:=L d;have A:=runT_crowd_go (P:=P) (sl:=s) h0 (show stepG P (0==0) g (w.at d)=_ from k1);refine .step (H.trans A) (R _ s _ t _ _ HY I D.low rfl ⟨gQ (P:=P) (w':=w') h0,⟨q,λa b p m=>?_⟩,?_⟩);(·have Y:Deaf (t++MemOp.ofEvents 0 g.frame.fn g.frame.place es) a=Deaf t a:=Deaf_other t HU _ fT;rw[Y];cases j:gs[a]? with|none=>(have:a<gs.size:=by have:=(J2.1 m).1;simpa using this);rw[Array.getElem?_eq_getElem this]at j;cases j|some c=>have r:=y a c p j;have f:(put P gs 0 g g' w')[a]?=some (woken P g g' w' c):=dv HU j;unfold put at f;rw[m]at f;cases f;rw[woken_quitsD r];exact r);·rw[show((gs.map (woken P g g' w')).setIfInBounds 0 g').size=gs.size by simp];exact D.own HU Q O);·have z:=y i o HU k;cases F:q i with|zero=>rw[F]at z;rw[z.1]at l;cases l|succ n=>rw[F]at z;rcases z with⟨T,_⟩|⟨_,h,es,K,W,N⟩;(·rw[T]at l;cases l);·(have Z:(i==0)=false:=by simpa using hi0);have A:=runT_crowd_go (P:=P) (sl:=s) k (show stepG P (i==0) o (w.at d)=_ by rw[Z];exact W (w.at d));refine .step (H.trans A) ?_;have a0:∀a,a≠i->Deaf (t++MemOp.ofEvents i o.frame.fn o.frame.place es) a=Deaf t a:=λa p=>Deaf_other t (Ne.symm p) _ fT;have a1:Deaf (t++MemOp.ofEvents i o.frame.fn o.frame.place es) i=deafBehind (Deaf t i) es:=Deaf_own .. ;(have G:((gs.map (woken P o h (w.at d))).setIfInBounds i h).size=gs.size:=by simp);(have a2:∀a b,0<a->((gs.map (woken P o h (w.at d))).setIfInBounds i h)[a]?=some b->QuitsD P (ConcN.upd q i n a) (Deaf (t++MemOp.ofEvents i o.frame.fn o.frame.place es) a) b:=λa b p m=>by by_cases hai:a=i;(·subst hai;have f:(put P gs a o h (w.at d))[a]?=some h:=gQ k;unfold put at f;rw[m]at f;cases f;rw[upd_same,a1];exact N);·rw[upd_ne _ _ hai,a0 a hai];cases j:gs[a]? with|none=>(have:a<gs.size:=by have:=(J2.1 m).1;simpa using this);rw[Array.getElem?_eq_getElem this]at j;cases j|some c=>have r:=y a c p j;have f:(put P gs i o h (w.at d))[a]?=some (woken P o h (w.at d) c):=dv hai j;unfold put at f;rw[m]at f;cases f;rw[woken_quitsD r];exact r);(have hz:sumTo gs.size (ConcN.upd q i n)<u:=by(have e1:sumTo gs.size (ConcN.upd q i n)+(n+1)=sumTo gs.size q+n:=by have:=sumTo_upd q n id J;simpa[F]using this);omega);(have a3:((gs.map (woken P o h (w.at d))).setIfInBounds i h)[0]?=some g:=by have f:(put P gs i o h (w.at d))[0]?=some (woken P o h (w.at d) g):=dv (Ne.symm hi0) h0;unfold put at f;rw[f];(have:woken P o h (w.at d) g=g:=by unfold woken;split;(·unfold Goroutine.again;rw[v]);·rfl);rw[this]);refine U _ hz (ConcN.upd q i n) a3 a2 ?_ (S _ _ _ _ _ hi0 K I) v (by rw[G]) ?_;(·rw[G];exact D.mute hi0 J K);·intro M;rw[G];exact L M
end
structure aE(P:Program)(Sh U:Loc->Prop)(gs:Fo)(w:HA)(t:Trace)(g:Gq):Prop where
 b:dB P Sh gs w t g
 u:∀l,U l->Un t l
theorem xh{t:Trace}{l:Loc}(h:Un t l){u:Trace}(d:∀a∈u,∀x,a.act.touch?=some x->x.loc≠l):Un (t++u) l:=by intro i x f;obtain⟨a,e,b⟩:=touch_of f;rcases getElem?_append_cases e with⟨_,g⟩|⟨_,c⟩;(·exact h i x (by rw[touchAt_of g];exact b));·exact d a c x b
theorem QD{t:Trace}{B:Nat}(h:iY B t){l:Loc}(b:¬l.low B):Un t l:=λi x a e=>b (e▸h i x a)
section
variable{P:Program}{Sh U:Loc->Prop}{Fin:Fo->HA->CL->Trace->Prop}{gs:Fo}{w:HA}{sl:CL}{t:Trace}{g g':Gq}
theorem aE.one(k:aE P Sh U gs w t g)(v:g.status=.running)(h:∀w',Same w w'->∃m w1 es,stepG P true g w'=.go m w1 es/\(∀e∈es,EvM Sh w1.heap.size e)/\(∀e∈es,∀x,(MemAct.ofEvent e).touch?=some x->¬U x.loc)/\w'.heap.size<=w1.heap.size/\∀j p c,j.size=gs.size->aE P Sh U j w1 c m->((∀e∈es,(MemAct.ofEvent e).touch?=none)->∀l:Loc,¬l.low w.heap.size->Un c l)->Comes P Fin j w1 p c):Comes P Fin gs w sl t:=by obtain⟨q,y⟩:=k.b.lv;refine dB.ahF (X:=λt=>∀l,U l->Un t l) (λt i fn pos es F o n l b=>xh (n l b) λr ah x a=>?_) _ q k.b.h0 y k.b.ps k.u v rfl λd=>?_;(·obtain⟨e,f,rfl⟩:=dK ah;simp only at a;rw[touch_mute (o e f)]at a;cases a);·obtain⟨m,w1,es,h1,z,A,u,C⟩:=h (w.at d) ⟨rfl,rfl,rfl,rfl⟩;refine⟨m,w1,es,h1,z,u,λj p c G fn pos B n E s D=>C j p c B ⟨D,λl b=>?_⟩ λo l b=>?_⟩;(·rw[s];refine xh (n l b) λr ah x a e=>?_;obtain⟨ev,f,rfl⟩:=dK ah;exact A ev f x a (e▸b));·rw[s];refine xh (QD E b) λr ah x a=>?_;obtain⟨ev,f,rfl⟩:=dK ah;simp only at a;rw[o ev f]at a;cases a
theorem aE.aV:∀{n:Nat}{g:Gq}{gs:Fo}{w:HA}{sl:CL}{t:Trace},jm P n g g'->aE P Sh U gs w t g->(∀a w' d b,a.size=gs.size->Same w w'->aE P Sh U a w' b g'->Comes P Fin a w' d b)->Comes P Fin gs w sl t:=by intro n;induction n with|zero=>intro g gs w sl t h c k;cases h;exact k gs w sl t rfl (Same.refl _) c|succ n f=>rintro g gs w sl t⟨i,⟨h1,v,l⟩,m⟩c k;refine c.one h1 λw' e=>⟨i,w',#[],l true w',by simp,by simp,Nat.le_refl _,λa d b s u _=>f m u λo w2 p t2 j r q=>k o w2 p t2 (j.trans s) (e.trans r) q⟩
theorem aE.aR(h:aa P g g')(c:aE P Sh U gs w t g)(k:∀a w' d b,a.size=gs.size->Same w w'->aE P Sh U a w' b g'->Comes P Fin a w' d b):Comes P Fin gs w sl t:=let⟨_,x⟩:=h;aE.aV x c k
theorem aE.more{b:Loc->Prop}(a:aE P Sh U gs w t g)(h:∀l,b l->U l\/Un t l):aE P Sh b gs w t g:=⟨a.b,λl c=>(h l c).elim (a.u l) id⟩
theorem aE.op{s:Sem Next}(y:aE P Sh U gs w t g)(h:semAt g=some s)(k:∀w',Same w w'->∃v w1,(s.run P w'=.ok (.value v) w1\/(s.run P w'=.ok .skip w1/\v=undef))/\(∀e∈s.events P w' #[],EvM Sh w1.heap.size e)/\(∀e∈s.events P w' #[],∀x,(MemAct.ofEvent e).touch?=some x->¬U x.loc)/\w'.heap.size<=w1.heap.size/\∀c d b,c.size=gs.size->aE P Sh U c w1 b (fin g v)->((∀e∈s.events P w' #[],(MemAct.ofEvent e).touch?=none)->∀l:Loc,¬l.low w.heap.size->Un b l)->Comes P Fin c w1 d b):Comes P Fin gs w sl t:=by
 have z:g.status=.running:=by rw[(iu (P:=P) h true w).1]
 refine y.one z λw' u=>?_;obtain⟨v,w1,f,o,q,p,r⟩:=k w' u;rcases f with f|⟨f,rfl⟩;·exact⟨_,w1,_,jZ h f true,λe a=>o e (fv a),λe a=>q e (fv a),p,λc d b j n i=>r c d b j n λm=>i λe a=>m e (fv a)⟩
 ·exact⟨_,w1,_,Kw.step_skip h f true,λe a=>o e (fv a),λe a=>q e (fv a),p,λc d b j n i=>r c d b j n λm=>i λe a=>m e (fv a)⟩
def aY(V:Nat->HH)(i:Nat)(v:HH):Nat->HH:=λj=>if j=i then v else V j
theorem Ov{D:Array Bool}(a:D.getD i false=false)(base:DS):gh base ops (aY V i v) D=gh base ops V D:=by unfold gh;refine Array.ext HY λt h1 b=>?_;simp only[Array.getElem_mapIdx];cases owner ops t with|none=>rfl|some j=>dsimp only;by_cases hj:j=i;(·subst hj;rw[a]);·unfold aY;rw[if_neg hj]
theorem Eg{D:Array Bool}{l:List Nat}(a:D.getD i false=false):stA g ops (aY V i v) D l=stA g ops V D l:=by unfold stA;rw[Ov a]
theorem Aj{D:Array Bool}{o:Oper}{rest:List Nat}(h:sound ops=true)(b:ops[i]?=some o)(a:D.size=ops.size)(h0:D.getD i false=false):fin (stA g ops V D (i::rest)) v=stA g ops (aY V i v) (D.setIfInBounds i true) rest:=by have:=jX (g:=g) (V:=aY V i v) (rest:=rest) h b a;rw[Eg h0]at this;rw[<-this];unfold aY;rw[if_pos rfl]
theorem aE.lM(c:da g=some ops)(L:sound ops=true)(E:P.follows .mixedOrders=true)(I:Array Bool->(Nat->HH)->(Loc->Prop)->HA->Prop)(B:∀D V U w s,I D V U w->Same w s->I D V U s)(ah:∀i o D V U gs w sl t rest,ops[i]?=some o->D.size=ops.size->D.getD i false=false->(∀e∈o.after,Region.binds .any e=true->D.getD e.on false=true)->I D V U w->aE P Sh U gs w t (stA g ops V D (i::rest))->(∀u v a w' m h,a.size=gs.size->I (D.setIfInBounds i true) u v w'->aE P Sh v a w' h (stA g ops u (D.setIfInBounds i true) rest)->Comes P Fin a w' m h)->Comes P Fin gs w sl t)(C:∀V U a w sl t,a.size=gs.size->I (Array.replicate ops.size true) V U w->aE P Sh U a w t (bz g ops V)->Comes P Fin a w sl t)(h0:I (Array.replicate ops.size false) V U w)(G:aE P Sh U gs w t g):Comes P Fin gs w sl t:=by
 have go:∀(n d:Nat)(D:Array Bool)(V:Nat->HH)(U:Loc->Prop)(a:Fo)(w:HA)(sl:CL)(t:Trace),a.size=gs.size->D.size=ops.size->D.count false<=n->I D V U w->aE P Sh U a w t (stA g ops V D (Region.linearise.go .any ops n d D []))->Comes P Fin a w sl t:=by(have done:∀(D:Array Bool)(V:Nat->HH)(U:Loc->Prop)(a:Fo)(w:HA)(sl:CL)(t:Trace),a.size=gs.size->D=Array.replicate ops.size true->I D V U w->aE P Sh U a w t (stA g ops V D [])->Comes P Fin a w sl t:=by rintro D V U a w sl t f rfl j b;exact b.aR (Ih c) λgs1 w1 sl1 t1 Q X W=>C V U gs1 w1 sl1 t1 (Q.trans f) (B _ _ _ _ _ j X) W);intro n;induction n with|zero=>intro d D V U a w sl t f p F j b;have h0:D.count false=0:=HU;(have:D=Array.replicate ops.size true:=by refine Array.ext (by simpa using p) λi h1 z=>?_;have:=Array.count_eq_zero.1 h0;have q:=Array.getElem_mem h1;cases J:D[i]with|true=>simp|false=>rw[J]at q;exact absurd q this);exact done D V U a w sl t f this j b|succ n K=>intro d D V U a w sl t f p F j b;have e:Region.linearise.go .any ops (n+1) d D []=match(Region.ready .any ops D)[d%(Region.ready .any ops D).length]? with|some i=>Region.linearise.go .any ops n (d/(Region.ready .any ops D).length) (D.setIfInBounds i true) [i]|none=>[]:=rfl;rw[e]at b;cases r:(Region.ready .any ops D)[d%(Region.ready .any ops D).length]? with|none=>rw[r]at b;(have M:Region.ready .any ops D=[]:=by rw[List.getElem?_eq_none_iff]at r;refine Classical.byContradiction λN=>?_;have:0<(Region.ready .any ops D).length:=List.length_pos_iff.2 N;have:=Nat.mod_lt d this;omega);exact done D V U a w sl t f (Kz L p M) j b|some i=>rw[r]at b;have q:i∈Region.ready .any ops D:=List.mem_of_getElem? r;obtain⟨o,A,h1,z⟩:=Kw.mem_ready q;have hi:i<ops.size:=(J2.1 A).1;dsimp only at b;rw[linearise_go_acc]at b;(have R:D.getD i false=false:=by rw[Array.getD_eq_getD_getElem?,Array.getElem?_eq_getElem HU]at h1⊢;simpa using h1);refine ah i o D V U a w sl t _ A p R z j b λu v S w' m h T H O=>K _ _ u v S w' m h (T.trans f) (by simpa using p) ?_ H O;have:=count_set HU h1;omega
 refine G.one (uE (P:=P) c true w).1 λs x=>?_;obtain⟨_,l,_,h3,y⟩:=uE (P:=P) c true s;have Y:∃t,l=Region.linearise.go .any ops ops.size t (Array.replicate ops.size false) []:=by obtain⟨fr,cs,st,dy,off⟩:=g;unfold da at c;split at c;rotate_left;(·cases c);rename_i fr' a0 Z;cases Z;obtain⟨fn,tmps,todo,defers,mode,kind,a2⟩:=fr;dsimp only at c;split at c;rotate_left;(·cases c);rename_i id a1 k;simp only[Option.some.injEq]at c;subst c;simp only[stepG,stepG.exec,choose,Sem.run,Question.forced,Question.cut,drawn,Bool.not_true,Bool.false_eq_true,if_false,GStep.go.injEq,Goroutine.mk.injEq,Frame.mk.injEq,List.tail_cons,List.cons.injEq,Item.inRegion.injEq,true_and,and_true]at y;rw[E]at y;exact⟨_,y.symm⟩
 obtain⟨d,rfl⟩:=Y;refine⟨_,_,_,y,by simp,by simp,Nat.le_refl _,λa m h f b _=>?_⟩;rw[EE (V:=V)]at b;refine go ops.size d _ V U a _ m h f HY HY (B _ _ _ _ _ h0 ⟨?_,?_,?_,?_⟩) b;·exact x.1
 ·exact x.2.1
 ·exact x.2.2.1
 ·exact x.2.2.2
end
end Co
namespace Un
open Conc ConcN Ph Co Kw
section
variable{P:Program}{S:FuncId->Bool}{Fin:Fo->HA->CL->Trace->Prop}
theorem KV{n:Nat}{gs gs1:Fo}{w1:HA}{sl sl1:CL}{t t1:Trace}(h:runNT P n (crowd gs w sl) t=(.next (crowd gs1 w1 sl1),t1))(k:Co.Comes P Fin gs1 w1 sl1 t1):Co.Comes P Fin gs w sl t:=by obtain⟨m,b,w',c,d,h1,e⟩:=k;(have f:∀(n:Nat)(y:Machine)(t:Trace)(z:Machine)(u:Trace),runNT P n y t=(.next z,u)->runNT P (n+m) y t=runNT P m z u:=by intro n;induction n with|zero=>intro y t z u h;simp only[runNT,Prod.mk.injEq,Stepped.next.injEq]at h;obtain⟨rfl,rfl⟩:=h;rw[Nat.zero_add]|succ n g=>intro y t z u h;rw[show n+1+m=(n+m)+1 by omega];rw[runNT]at h⊢;cases a:stepT P y with|mk s ops=>rw[a]at h;cases s with|next z=>exact g z _ _ u h|_=>cases h);exact⟨n+m,b,w',c,d,by rw[f n _ _ _ _ h];exact h1,e⟩
theorem kO{g':Gq}{t:Trace}(h:aa P g g')(k:Co.Comes P Fin #[g'] w none t):Co.Comes P Fin #[g] w none t:=by obtain⟨n,h⟩:=h;induction n generalizing g with|zero=>cases h;exact k|succ n b=>obtain⟨c,⟨h1,_,d⟩,e⟩:=h;have a:=yx (P:=P) (n:=0) (t:=t) h1 (d true w);refine KV (n:=1) (gs1:=#[c]) (w1:=w) (sl1:=none) (t1:=t) ?_ (b e);show runNT P 1 (solo g w) t=_;rw[a];simp[runNT,MemOp.ofEvents];rfl
theorem ni(l:Shut P S)(h0:0<P.globals.size){f:FuncId}(c:S f=true){args:DS}{t:Trace}{Q:HH->HA->Prop}(d:bY P g=some (R (Frame.enter P f args .normal) [g.frame]))(h:g=R g.frame [])(hV:fA P w)(i:dx (λ_=>False) 1 w.heap.size t)(j:Calls P f args w λe v'=>∃x,e=.returned x/\Q x v')(k:∀x w' a,Q x w'->fA P w'->dx (λ_=>False) 1 w'.heap.size a->Co.Comes P Fin #[fin g x] w' none a):Co.Comes P Fin #[g] w none t:=by refine kO (ef d) ?_;obtain⟨m,a,x,w',h1,o,p,b⟩:=OQ l h0 c hV i j g.frame [];(have e:fin g x=R (g.frame.finish x) []:=by rw[h];rfl);refine KV (n:=m) (gs1:=#[fin g x]) (w1:=w') (sl1:=none) (t1:=a) ?_ (k x w' a b p o);rw[e];exact h1
theorem SI{t:Trace}(b:dx (λ_=>False) 1 w.heap.size t):aE P (λ_=>False) (λ_=>False) #[g] w t g:=by refine⟨⟨rfl,⟨λ_=>0,λi o c a=>?_⟩,b⟩,λ_ h=>h.elim⟩;match i,c,a with|i+1,_,a=>simp at a
end
end Un
namespace Kl
open Conc Kw
structure Lk where
 b:Nat
 o:Nat
 c:Frame
 cs:Fi
 ws:Int:=0
 sv:Bool:=false
 aw:Bool:=false
 it:Int:=0
 old:Int:=0
 v7:HH:=undef
 v9:HH:=undef
 J:Nat->HH:=λ_=>undef
abbrev Lk.m(q:Lk):HH:=.pointer (some ⟨q.b,q.o,none⟩)
def gC(q:Lk):DS:=#[q.m,q.J 1,.int .i64 q.ws,.bool q.sv,.bool q.aw,.int .i64 q.it,.int .i32 q.old,q.v7,q.J 8,q.v9,q.J 10,q.J 11,q.J 12,q.J 13,q.J 14,q.J 15,q.J 16,q.J 17,q.J 18,q.J 19,q.J 20,q.J 21,q.J 22,q.J 23,q.J 24,q.J 25,q.J 26,q.J 27,q.J 28,q.J 29,q.J 30,q.J 31,q.J 32,q.J 33,q.J 34,q.J 35,q.J 36,q.J 37,q.J 38,q.J 39,q.J 40,q.J 41,q.J 42,q.J 43,q.J 44,q.J 45,q.J 46,q.J 47,q.J 48,q.J 49,q.J 50,q.J 51,q.J 52,q.J 53,q.J 54,q.J 55,q.J 56,q.J 57,q.J 58,q.J 59,q.J 60,q.J 61,q.J 62,q.J 63,q.J 64,q.J 65,q.J 66,q.J 67,q.J 68,q.J 69,q.J 70,q.J 71,q.J 72,q.J 73,q.J 74,q.J 75,q.J 76,q.J 77,q.J 78,q.J 79,q.J 80,q.J 81,q.J 82,q.J 83,q.J 84,q.J 85,q.J 86,q.J 87,q.J 88,q.J 89,q.J 90,q.J 91,q.J 92,q.J 93,q.J 94,q.J 95,q.J 96,q.J 97,q.J 98,q.J 99,q.J 100,q.J 101,q.J 102,q.J 103,q.J 104,q.J 105,q.J 106,q.J 107,q.J 108,q.J 109,q.J 110,q.J 111,q.J 112,q.J 113,q.J 114,q.J 115,q.J 116,q.J 117,q.J 118,q.J 119,q.J 120,q.J 121,q.J 122,q.J 123,q.J 124,q.J 125,q.J 126,q.J 127,q.J 128,q.J 129,q.J 130,q.J 131,q.J 132,q.J 133,q.J 134,q.J 135,q.J 136,q.J 137,q.J 138]
def eM(g:Gq)(a:DS):Gq:={g with frame:={g.frame with tmps:=a}}
def au(g:Gq)(i:Nat):HH:=g.frame.tmps.getD i undef
noncomputable def kB(q:Lk):Gq:=R (Frame.enter prog 173 #[q.m] .normal) (q.c::q.cs)
noncomputable def tl(d n:Nat)(g:Gq):Gq:=aL prog 224 d n g
noncomputable def Ld(q:Lk):Gq:=aL prog 203 2 50 (kB q)
theorem I1(q:Lk):semAt (Ld q)=some (callFunc 122 #[]):=HW
noncomputable def L0(q:Lk):Gq:=aL prog 203 6 50 (fin (Ld q) (.tuple #[]))
theorem tG(q:Lk):semAt (L0 q)=some (callFunc 223 #[q.m,.int .i32 0,.int .i32 1]):=HW
noncomputable def lr(q:Lk):Gq:=aL prog 203 7 50 (fin (L0 q) (.bool true))
theorem Jg(q:Lk):semAt (lr q)=some (callFunc 123 #[]):=HW
noncomputable def fU(q:Lk):Gq:=aL prog 203 9 50 (fin (lr q) (.tuple #[]))
theorem rE(q:Lk):semAt (fU q)=some (do pure (.value (<-convert 263 189 q.m))):=HW
noncomputable def lj(q:Lk):Gq:=aL prog 203 10 50 (fin (fU q) q.m)
theorem Bx(q:Lk):semAt (lj q)=some (callFunc 136 #[q.m]):=HW
noncomputable def R0(q:Lk):Gq:=aL prog 224 13 50 (fin (L0 q) (.bool false))
theorem wX(q:Lk):semAt (R0 q)=some (do pure (.value (<-Instr.loadAt 21 q.m))):=HW
theorem ah9(q:Lk):aN prog 6 (fin (lj q) (.tuple #[]))=R (q.c.finish (.tuple #[])) q.cs:=HW
def h0(q:Lk):Gq:=tl 14 60 (fin (R0 q) (.int .i32 0))
def h1(q:Lk):Gq:=tl 14 60 (fin (R0 q) (.int .i32 1))
def NI(q:Lk):Gq:=tl 43 60 (fin (tl 19 40 (h1 q)) (.bool true))
def AW(q:Lk):Gq:=tl 80 200 (fin (tl 19 40 (h1 q)) (.bool false))
def F7(q:Lk):Gq:=tl 89 20 (fin (tl 88 60 (fin (AW q) (.bool true))) (.int .i64 0))
def Jk(q:Lk):Gq:=tl 94 20 (fin (tl 93 20 (F7 q)) (.tuple #[]))
def GF(q:Lk):Gq:=tl 101 40 (fin (tl 96 20 (Jk q)) (.int .i64 0))
def afo(q:Lk):Gq:=tl 126 90 (fin (tl 104 20 (GF q)) (.int .i32 12))
def aiN(q:Lk):Gq:=tl 135 60 (fin (tl 80 200 (h0 q)) (.bool true))
def A(q:Lk):Gq:=eM (h0 q) (gC q)
def gD(q:Lk):Gq:=eM (NI q) (gC q)
def B(q:Lk):Gq:=eM (tl 49 60 (h0 q)) (gC q)
def C(q:Lk):Gq:=eM (tl 55 90 (h0 q)) (gC q)
def D(q:Lk):Gq:=eM (tl 60 120 (h0 q)) (gC q)
def E(q:Lk):Gq:=eM (tl 68 160 (h0 q)) (gC q)
def F(q:Lk):Gq:=eM (tl 75 200 (h0 q)) (gC q)
def qY(q:Lk):Gq:=eM (tl 81 20 (fin (AW q) (.bool true))) (gC q)
def nZ(q:Lk):Gq:=eM (F7 q) (gC q)
def np(q:Lk):Gq:=eM (Jk q) (gC q)
def nu(q:Lk):Gq:=eM (GF q) (gC q)
def kl(q:Lk):Gq:=eM (afo q) (gC q)
def qA(q:Lk):Gq:=eM (tl 131 20 (fin (AW q) (.bool false))) (gC q)
def iK(q:Lk):Gq:=eM (aiN q) (gC q)
end Kl
