/- Agree, a part. -/
import Derived.Conc.AtomicLaws2
import Derived.Conc.ClockLaws
import Derived.Conc.MarkLaws
import Derived.Orders
import Derived.Test.YtjebhbopmfcopaaGreatDoorZK
set_option maxRecDepth 100000
namespace Go.Proofs.YtjebhbopmfcopaaGreatDoor
open Go.Proofs
noncomputable section
variable{gs:Fo}{ops:Array Oper}{g:Gq}{n r y:Int}{i:Nat}{sl:CL}{P:Program}{t:TypeId}{v x:HH}{w w':HA}
namespace Co
open Conc ConcN Ph Kw
structure dB(P:Program)(Sh:Loc->Prop)(gs:Fo)(w:HA)(t:Trace)(g:Gq):Prop where
 h0:gs[0]?=some g
 lv:∃q:Nat->Nat,∀i o,0<i->gs[i]?=some o->QuitsD P (q i) (Deaf t i) o
 ps:dx Sh gs.size w.heap.size t
def Comes(P:Program)(Fin:Fo->HA->CL->Trace->Prop)(gs:Fo)(w:HA)(sl:CL)(t:Trace):Prop:=∃n b w' c a,runNT P n (crowd gs w sl) t=(.next (crowd b w' c),a)/\Fin b w' c a
section
variable{P:Program}{Fin:Fo->HA->CL->Trace->Prop}
theorem Comes.here{t:Trace}(h:Fin gs w sl t):Comes P Fin gs w sl t:=⟨0,gs,w,sl,t,rfl,h⟩
theorem Comes.step{gs1:Fo}{w1:HA}{sl1:CL}{t ops:Trace}(h:stepT P (crowd gs w sl)=(.next (crowd gs1 w1 sl1),ops))(k:Comes P Fin gs1 w1 sl1 (t++ops)):Comes P Fin gs w sl t:=by obtain⟨n,b,w',c,d,h1,a⟩:=k;exact⟨n+1,b,w',c,d,by simp only[runNT,h];exact h1,a⟩
theorem Comes.trans{Fin':Fo->HA->CL->Trace->Prop}{t:Trace}(h:Comes P Fin' gs w sl t)(k:∀gs w sl t,Fin' gs w sl t->Comes P Fin gs w sl t):Comes P Fin gs w sl t:=by obtain⟨n,p,w',j,l,h1,d⟩:=h;obtain⟨m,e,w2,c,t2,k1,b⟩:=k _ _ _ _ d;refine⟨n+m,e,w2,c,t2,?_,b⟩;(have g:∀(n:Nat)(x:Machine)(t:Trace)(y:Machine)(u:Trace),runNT P n x t=(.next y,u)->runNT P (n+m) x t=runNT P m y u:=by intro n;induction n with|zero=>intro x t y u h;simp only[runNT,Prod.mk.injEq,Stepped.next.injEq]at h;obtain⟨rfl,rfl⟩:=h;rw[Nat.zero_add]|succ n f=>intro x t y u h;rw[Nat.succ_add];simp only[runNT]at h⊢;cases i:stepT P x with|mk r ops=>rw[i]at h;cases r with|next a=>exact f a _ y u h|ended o w'=>simp at h);rw[g n _ _ _ _ h1];exact k1
theorem dB.next{Sh:Loc->Prop}:∀(r:Nat){gs:Fo}{w:HA}{sl:CL}{t:Trace}{g:Gq}(q:Nat->Nat),gs[0]?=some g->(∀i o,0<i->gs[i]?=some o->QuitsD P (q i) (Deaf t i) o)->dx Sh gs.size w.heap.size t->g.status=.running->sumTo gs.size q=r->(∀d,∃g' w' es,stepG P true g (w.at d)=.go g' w' es/\(∀e∈es,EvM Sh w'.heap.size e)/\w.heap.size<=w'.heap.size/\∀C u F,C.size=gs.size->dB P Sh C w' F g'->Comes P Fin C w' u F)->Comes P Fin gs w sl t:=by intro r;induction r using Nat.strongRecOn with|_ r M=>intro gs w sl t g q h0 y G v a1 E;(have J:∀o∈gs,awake o:=λo m=>by obtain⟨i,k,rfl⟩:=Array.mem_iff_getElem.1 m;by_cases hi0:i=0;(·subst hi0;have:gs[0]?=some gs[0]:=Array.getElem?_eq_getElem k;rw[h0]at this;cases this;exact awake_of (.inl v));·exact awake_of ((y i _ HU (Array.getElem?_eq_getElem k)).status.elim .inl λx=>.inr (.inr x)));obtain⟨i,o,d,u,k,m,I⟩:=crowd_pick (P:=P) (w:=w) (sl:=sl) J ⟨0,g,h0,v⟩;have H:=(J2.1 k).1;by_cases hi0:i=0;(·subst hi0;rw[h0]at k;cases k;obtain⟨g',w',es,k1,L,R,K⟩:=E d;have B:=runT_crowd_go (P:=P) (sl:=u) h0 (show stepG P (0==0) g (w.at d)=_ from k1);refine .step (I.trans B) (K _ u _ HY ⟨gQ (P:=P) (w':=w') h0,⟨q,λa b p l=>?_⟩,?_⟩);(·have V:Deaf (t++MemOp.ofEvents 0 g.frame.fn g.frame.place es) a=Deaf t a:=Deaf_other t HU _ fT;rw[V];cases j:gs[a]? with|none=>(have:a<gs.size:=by have:=(J2.1 l).1;simpa using this);rw[Array.getElem?_eq_getElem this]at j;cases j|some c=>have s:=y a c p j;have f:(put P gs 0 g g' w')[a]?=some (woken P g g' w' c):=dv HU j;unfold put at f;rw[l]at f;cases f;rw[woken_quitsD s];exact s);·rw[show((gs.map (woken P g g' w')).setIfInBounds 0 g').size=gs.size by simp];exact G.own HU R L);·have z:=y i o HU k;cases A:q i with|zero=>rw[A]at z;rw[z.1]at m;cases m|succ n=>rw[A]at z;rcases z with⟨Q,_⟩|⟨_,h,es,S,T,U⟩;(·rw[Q]at m;cases m);·(have N:(i==0)=false:=by simpa using hi0);have B:=runT_crowd_go (P:=P) (sl:=u) k (show stepG P (i==0) o (w.at d)=_ by rw[N];exact T (w.at d));refine .step (I.trans B) ?_;have W:∀a,a≠i->Deaf (t++MemOp.ofEvents i o.frame.fn o.frame.place es) a=Deaf t a:=λa p=>Deaf_other t (Ne.symm p) _ fT;have X:Deaf (t++MemOp.ofEvents i o.frame.fn o.frame.place es) i=deafBehind (Deaf t i) es:=Deaf_own .. ;(have D:((gs.map (woken P o h (w.at d))).setIfInBounds i h).size=gs.size:=by simp);(have Z:∀a b,0<a->((gs.map (woken P o h (w.at d))).setIfInBounds i h)[a]?=some b->QuitsD P (ConcN.upd q i n a) (Deaf (t++MemOp.ofEvents i o.frame.fn o.frame.place es) a) b:=λa b p l=>by by_cases hai:a=i;(·subst hai;have f:(put P gs a o h (w.at d))[a]?=some h:=gQ k;unfold put at f;rw[l]at f;cases f;rw[upd_same,X];exact U);·rw[upd_ne _ _ hai,W a hai];cases j:gs[a]? with|none=>(have:a<gs.size:=by have:=(J2.1 l).1;simpa using this);rw[Array.getElem?_eq_getElem this]at j;cases j|some c=>have s:=y a c p j;have f:(put P gs i o h (w.at d))[a]?=some (woken P o h (w.at d) c):=dv hai j;unfold put at f;rw[l]at f;cases f;rw[woken_quitsD s];exact s);(have Y:sumTo gs.size (ConcN.upd q i n)<r:=by(have e1:sumTo gs.size (ConcN.upd q i n)+(n+1)=sumTo gs.size q+n:=by have:=sumTo_upd q n id H;simpa[A]using this);omega);(have a0:((gs.map (woken P o h (w.at d))).setIfInBounds i h)[0]?=some g:=by have f:(put P gs i o h (w.at d))[0]?=some (woken P o h (w.at d) g):=dv (Ne.symm hi0) h0;unfold put at f;rw[f];(have:woken P o h (w.at d) g=g:=by unfold woken;split;(·unfold Goroutine.again;rw[v]);·rfl);rw[this]);refine M _ Y (ConcN.upd q i n) a0 Z ?_ v (by rw[D]) ?_;(·rw[D];exact G.mute hi0 H S);·intro O;rw[D];exact E O
end
def Same(w w':HA):Prop:=w'.heap=w.heap/\w'.tape=w.tape/\w'.output=w.output/\w'.os=w.os
theorem Same.refl(w:HA):Same w w:=⟨rfl,rfl,rfl,rfl⟩
theorem Same.trans{a b c:HA}(h:Same a b)(k:Same b c):Same a c:=⟨k.1.trans h.1,k.2.1.trans h.2.1,k.2.2.1.trans h.2.2.1,k.2.2.2.trans h.2.2.2⟩
section
variable{P:Program}{Sh:Loc->Prop}{Fin:Fo->HA->CL->Trace->Prop}{gs:Fo}{w:HA}{sl:CL}{t:Trace}{g g':Gq}
theorem dB.one(b:dB P Sh gs w t g)(i:g.status=.running)(h:∀w',Same w w'->∃c w1 es,stepG P true g w'=.go c w1 es/\(∀e∈es,EvM Sh w1.heap.size e)/\w'.heap.size<=w1.heap.size/\∀a j f,a.size=gs.size->dB P Sh a w1 f c->Comes P Fin a w1 j f):Comes P Fin gs w sl t:=by obtain⟨q,k⟩:=b.lv;exact dB.next _ q b.h0 k b.ps i rfl λd=>h (w.at d) ⟨rfl,rfl,rfl,rfl⟩
theorem dB.aV:∀{n:Nat}{g:Gq}{gs:Fo}{w:HA}{sl:CL}{t:Trace},jm P n g g'->dB P Sh gs w t g->(∀a w' d b,a.size=gs.size->Same w w'->dB P Sh a w' b g'->Comes P Fin a w' d b)->Comes P Fin gs w sl t:=by intro n;induction n with|zero=>intro g gs w sl t h c k;cases h;exact k gs w sl t rfl (Same.refl _) c|succ n f=>rintro g gs w sl t⟨i,⟨h1,v,l⟩,m⟩c k;refine c.one h1 λw' e=>⟨i,w',#[],l true w',by simp,Nat.le_refl _,λa d b s u=>f m u λo w2 p t2 j r q=>k o w2 p t2 (j.trans s) (e.trans r) q⟩
theorem dB.aR(h:aa P g g')(c:dB P Sh gs w t g)(k:∀a w' d b,a.size=gs.size->Same w w'->dB P Sh a w' b g'->Comes P Fin a w' d b):Comes P Fin gs w sl t:=let⟨_,x⟩:=h;dB.aV x c k
end
end Co
namespace Kw
open Conc
def mo(md:Region.Mode)(ops:Array Oper):Nat->Array Bool->List (List Nat)|0,_=>[[]]|n+1,listed=>match Region.ready md ops listed with|[]=>[[]]|i::is=>(i::is).flatMap λj=>(mo md ops n (listed.setIfInBounds j true)).map (j::·)
theorem Ai(md:Region.Mode)(ops:Array Oper):∀(n t:Nat)(a:Array Bool),Region.linearise.go md ops n t a []∈mo md ops n a:=by intro n;induction n with|zero=>intro t a;simp[Region.linearise.go,mo]|succ n f=>intro t a;(have g:∀rs,Region.ready md ops a=rs->Region.linearise.go md ops (n+1) t a []∈mo md ops (n+1) a:=by intro rs d;(have e:Region.linearise.go md ops (n+1) t a []=match rs[t%rs.length]? with|some i=>Region.linearise.go md ops n (t/rs.length) (a.setIfInBounds i true) [i]|none=>[]:=by subst d;rfl);rw[e];unfold mo;rw[d];cases rs with|nil=>simp|cons i c=>have b:t%(i::c).length<(i::c).length:=Nat.mod_lt _ HY;rw[List.getElem?_eq_getElem b];dsimp only;rw[linearise_go_acc];refine List.mem_flatMap.2 ⟨_,List.getElem_mem b,List.mem_map.2 ⟨_,f _ _,rfl⟩⟩);exact g _ rfl
def xj(mixed:Bool)(ops:Array Oper):List (List Nat):=if mixed||!Region.departs ops then mo .any ops ops.size (Array.replicate ops.size false)else mo .text ops ops.size (Array.replicate ops.size false)++mo .gc ops ops.size (Array.replicate ops.size false)
theorem MM(mixed:Bool)(ops:Array Oper)(t:Nat):Region.schedule mixed ops t∈xj mixed ops:=by unfold Region.schedule xj;split;(·exact Ai _ _ _ _ _);·split;(·exact List.mem_append.2 (.inl (Ai _ _ _ _ _)));·exact List.mem_append.2 (.inr (Ai _ _ _ _ _))
def da(g:Gq):Option (Array Oper):=match g with|⟨fr,_,.running,none,none⟩=>(match fr.mode,fr.roundOf,fr.todo with|.run,none,.code (.region _ ops true)::_=>some ops|_,_,_=>none)|_=>none
def drawn(g:Gq)(ops:Array Oper)(l:List Nat):Gq:={g with frame:={g.frame with todo:=.inRegion ops l::g.frame.todo.tail}}
theorem uE(h:da g=some ops)(m:Bool)(w:HA):g.status=.running/\∃l,l∈xj (P.follows .mixedOrders) ops/\(drawn g ops l).status=.running/\stepG P m g w=.go (drawn g ops l) {w with drawn:=w.drawn+1} #[]:=by
 obtain⟨fr,cs,st,d,off⟩:=g;unfold da at h;split at h;rotate_left;·cases h
 rename_i fr' c b;cases b;obtain⟨fn,tmps,todo,defers,mode,kind,e⟩:=fr;dsimp only at h;split at h;rotate_left;·cases h
 rename_i a ops k;simp only[Option.some.injEq]at h;subst h;refine⟨rfl,_,MM (P.follows .mixedOrders) _ (w.tape w.drawn (.order fn a)),rfl,?_⟩;simp[stepG,stepG.exec,choose,Sem.run,Question.forced,Question.cut,drawn]
def semAt(g:Gq):Option (Sem Next):=match g with|⟨fr,_,.running,none,none⟩=>(match fr.mode,fr.roundOf,fr.kind with|_,_,.early=>none|.run,none,_=>(match fr.todo with|.inRegion ops (i::_)::_=>(match ops[i]? with|some o=>(match Region.wanted o (yielded ops fr.tmps)with|true=>some (execOp fr.eval o)|false=>none)|none=>none)|_=>none)|_,_,_=>none)|_=>none
theorem iu{s:Sem Next}(h:semAt g=some s)(m:Bool)(w:HA):g=R g.frame g.callers/\g.frame.kind≠.early/\(∀d b r a k,g.frame.todo≠.call d b r a::k)/\stepG P m g w=stepG.apply P true g.frame g.callers none s w:=by
 obtain⟨fr,cs,st,n,off⟩:=g;unfold semAt at h;split at h;rotate_left;·cases h
 rename_i fr' q j;cases j;obtain⟨fn,tmps,todo,defers,mode,kind,p⟩:=fr;dsimp only at h;split at h;·cases h
 ·rename_i f;split at h;(·rename_i ops i rest k;cases e:ops[i]? with|none=>rw[e]at h;cases h|some o=>rw[e]at h;dsimp only at h;cases c:Region.wanted o (yielded ops tmps)with|false=>rw[c]at h;cases h|true=>rw[c]at h;simp only[Option.some.injEq]at h;subst h;refine⟨rfl,λl=>f l,by simp,?_⟩;simp[stepG,stepG.exec,stepG.oper,Frame.oper?,e,c]);·cases h
 ·cases h
theorem jZ{s:Sem Next}(h:semAt g=some s)(b:s.run P w=.ok (.value v) w')(m:Bool):stepG P m g w=.go (fin g v) w' (seen P g.frame.fn (s.events P w #[])):=by obtain⟨h1,c,_,d⟩:=iu (P:=P) h m w;(have a:(g.frame.kind==CallKind.early)=false:=by simpa using c);rw[d];simp only[stepG.apply,if_true,Sem.runT_eq,b,a,GStep.after,Bool.false_eq_true,if_false,Array.append_empty];rw[h1];rfl
theorem step_skip{s:Sem Next}(h:semAt g=some s)(b:s.run P w=.ok .skip w')(m:Bool):stepG P m g w=.go (fin g undef) w' (seen P g.frame.fn (s.events P w #[])):=by obtain⟨h1,c,_,d⟩:=iu (P:=P) h m w;(have a:(g.frame.kind==CallKind.early)=false:=by simpa using c);rw[d];simp only[stepG.apply,if_true,Sem.runT_eq,b,a,GStep.after,Bool.false_eq_true,if_false,Array.append_empty];rw[h1];rfl
theorem aeX{s:Sem Next}(h:semAt g=some s)(b:s.run P w=.halt .blocked w')(m:Bool):stepG P m g w=.go {g with status:=.blocked} w' #[]:=by obtain⟨h1,c,_,a⟩:=iu (P:=P) h m w;rw[a];simp only[stepG.apply,if_true,Sem.runT_eq,b,GStep.after];rw[h1];simp[seen_none]
def cN(P:Program)(f:FuncId)(e:DS->Sem HH)(q:Bool):Prop:=∃fn,P.funcs[f]?=some fn/\(fn.name== "runtime.NumGoroutine")=false/\fn.body.isNone=true/\Extern.findNext fn=none/\Extern.find fn=some e/\fn.norace=q
section
variable{P:Program}{g:Gq}{f:FuncId}{q:Bool}{e:DS->Sem HH}{args:DS}{w w':HA}{v:HH}
theorem jz(h:semAt g=some (callFunc f args))(E:cN P f e q)(k:(e args).run P w=.ok v w'){j4:Array Event}(l:(e args).events P w #[⟨.mark (.extern f),false,true⟩]=#[⟨.mark (.extern f),false,true⟩]++j4)(j:∀x∈j4,x.sync=true/\∀g,x.loc≠.mark (.extern g))(m:Bool):stepG P m g w=.go (fin g v) w' j4:=by obtain⟨fn,b,d,c,i,a,_⟩:=E;rw[jZ (v:=v) (w':=w') h (by rw[run_callFunc_extern b d c i a,k];rfl),events_callFunc_extern b d c i a];simp only[List.push_toArray,List.nil_append];rw[l,seen_entry _ _ _ j]
theorem jE{mk:Mark}(b:∀g,mk≠.extern g)(h:semAt g=some (callFunc f args))(E:cN P f (λ_=>do mark mk;pure Extern.Race.none_) q)(m:Bool)(w:HA):stepG P m g w=.go (fin g (.tuple #[])) w #[⟨.mark mk,false,true⟩]:=jz h E (by simp[Extern.Race.none_]) HY (by intro x a;simp at a;subst a;exact⟨rfl,λg h=>b g (by cases h;rfl)⟩) m
theorem mE{mk:Addr->Mark}(c:∀ad g,mk ad≠.extern g){ad:Addr}(h:semAt g=some (callFunc f args))(E:cN P f (Extern.Race.marked mk) q)(b:args[0]?=some (.pointer (some ad)))(m:Bool)(w:HA):stepG P m g w=.go (fin g (.tuple #[])) w #[⟨.mark (mk ad),false,true⟩]:=jz h E (by simp[Extern.Race.marked,Extern.Race.at_,b,Extern.Race.none_]) (by simp[Extern.Race.marked,Extern.Race.at_,b]) (by intro x a;simp at a;subst a;exact⟨rfl,λg h=>c ad g (Loc.mark.inj h)⟩) m
variable{ad:Addr}{k:IntKind}
theorem vi{x d:Int}(h:semAt g=some (callFunc f #[.pointer (some ad),.int k d]))(E:cN P f (Extern.Atomic.update (Op.intArith .add) k true) q)(b:w.cell? ad=some (.int k x))(a:w.frozen? ad=false)(m:Bool):stepG P m g w=.go (fin g (.int k (k.wrap (x+d)))) (w.setCell ad (.int k (k.wrap (x+d)))) #[⟨.cell ad,false,true⟩,⟨.cell ad,true,true⟩]:=jz h E (run_add_entry b a) (by rw[events_add_entry b a];rfl) (sync_rw ad) m
theorem qS{x:Int}(h:semAt g=some (callFunc f #[.pointer (some ad),.int k x,.int k n]))(E:cN P f (Extern.Atomic.casT (.int k)) q)(b:w.cell? ad=some (.int k x))(a:w.frozen? ad=false)(m:Bool):stepG P m g w=.go (fin g (.bool true)) (w.setCell ad (.int k n)) #[⟨.cell ad,false,true⟩,⟨.cell ad,true,true⟩]:=jz h E (by rw[casT_eq];exact run_cas_hit_entry b a) (by rw[casT_eq,events_cas_hit_entry b a];rfl) (sync_rw ad) m
theorem qK{x:Int}(h:semAt g=some (callFunc f #[.pointer (some ad),.int k y,.int k n]))(E:cN P f (Extern.Atomic.casT (.int k)) q)(b:w.cell? ad=some (.int k x))(c:w.frozen? ad=false)(a:¬x=y)(m:Bool):stepG P m g w=.go (fin g (.bool false)) w #[⟨.cell ad,false,true⟩]:=jz h E (by rw[casT_eq];exact run_cas_miss_entry b c a) (by rw[casT_eq,events_cas_miss_entry b c a];rfl) (sync_r ad) m
theorem yk{x:Int}(h:semAt g=some (callFunc f #[.pointer (some ad)]))(E:cN P f (Extern.Atomic.loadT (.int k)) q)(a:w.cell? ad=some (.int k x))(m:Bool):stepG P m g w=.go (fin g (.int k x)) w #[⟨.cell ad,false,true⟩]:=by refine jz h E ?_ ?_ (sync_r ad) m;(·change Sem.run P (do Extern.Atomic.read (.int k) (<-asAddr (.pointer (some ad)))) w=_;simp[Extern.Atomic.read,asAddr,a]);·change Sem.events P (do Extern.Atomic.read (.int k) (<-asAddr (.pointer (some ad)))) w _=_;simp[Extern.Atomic.read,asAddr,a,events_load]
theorem afl {u : HH} (h : semAt g = some (callFunc f #[.pointer (some ad), .int k y])) (E : cN P f Extern.Atomic.storeT q) (b : w.cell? ad = some u) (c : w.frozen? ad = false) (m : Bool) :
    stepG P m g w = .go (fin g (.tuple #[])) (w.setCell ad (.int k y)) #[⟨.cell ad, true, true⟩] := by
  refine jz h E ?_ ?_ (fun x a => by simp at a; subst a; exact ⟨rfl, fun g h => by cases h⟩) m
  · change Sem.run P (do
      store (← asAddr (.pointer (some ad))) (.int k y) .atomic
      pure Extern.Atomic.none_) w = _
    simp [asAddr, b, c, Extern.Atomic.none_, run_store P w ad (.int k y) .atomic rfl, Result.andThen]
  · change Sem.events P (do
      store (← asAddr (.pointer (some ad))) (.int k y) .atomic
      pure Extern.Atomic.none_) w _ = _
    simp [asAddr, b, c, events_store P w _ ad (.int k y) .atomic rfl]
theorem IA(h:semAt g=some (callFunc f args))(E:cN P f Extern.Sync.semacquire q)(b:args[0]?=some (.pointer (some ad)))(c:w.cell? ad=some (.int .u32 n))(d:n≠0)(a:w.frozen? ad=false)(m:Bool):stepG P m g w=.go (fin g (.tuple #[])) (w.setCell ad (.int .u32 (n-1))) (semEvents ad):=jz h E (by simp[Extern.Sync.semacquire,Extern.Sync.count,b,c,d,a,Extern.Sync.none_,run_store P w ad (.int .u32 (n-1)) .atomic rfl,Result.andThen]) (by simp[Extern.Sync.semacquire,Extern.Sync.count,b,c,d,a,semEvents,events_load,events_store P w _ ad (.int .u32 (n-1)) .atomic rfl,run_store P w ad (.int .u32 (n-1)) .atomic rfl,Result.evThen]) (semEvents_sync ad) m
theorem IH(h:semAt g=some (callFunc f args))(E:cN P f Extern.Sync.semacquire q)(b:args[0]?=some (.pointer (some ad)))(c:w.cell? ad=some (.int .u32 0))(m:Bool):stepG P m g w=.go {g with status:=.blocked} w #[]:=by obtain⟨fn,d,e,i,j,a,_⟩:=E;refine aeX h ?_ m;rw[run_callFunc_extern d e i j a];simp[Extern.Sync.semacquire,Extern.Sync.count,b,c]
theorem yi(h:semAt g=some (callFunc f args))(E:cN P f Extern.Sync.semrelease q)(b:args[0]?=some (.pointer (some ad)))(c:w.cell? ad=some (.int .u32 n))(a:w.frozen? ad=false)(m:Bool):stepG P m g w=.go (fin g (.tuple #[])) (w.setCell ad (.int .u32 (IntKind.u32.wrap (n+1)))) (semEvents ad):=jz h E (by simp[Extern.Sync.semrelease,Extern.Sync.count,b,c,a,Extern.Sync.none_,Op.intArith,run_store P w ad (.int .u32 (IntKind.u32.wrap (n+1))) .atomic rfl,Result.andThen]) (by simp[Extern.Sync.semrelease,Extern.Sync.count,b,c,a,semEvents,Op.intArith,events_load,events_store P w _ ad (.int .u32 (IntKind.u32.wrap (n+1))) .atomic rfl,run_store P w ad (.int .u32 (IntKind.u32.wrap (n+1))) .atomic rfl,Result.evThen]) (semEvents_sync ad) m
theorem FT(h:semAt g=some (callFunc f args))(E:cN P f Extern.OsHooks.nano true)(m:Bool)(w:HA):stepG P m g w=.go (fin g (.int .i64 ((w.os.mono+w.tick:Nat):Int))) w.later #[]:=by obtain⟨fn,a,c,e,b,d,j⟩:=E;have k:(Extern.OsHooks.nano args).run P w=.ok (.int .i64 ((w.os.mono+w.tick:Nat):Int)) w.later:=rfl;rw[jZ (v:=.int .i64 ((w.os.mono+w.tick:Nat):Int)) (w':=w.later) h (by rw[run_callFunc_extern a c e b d,k];rfl),events_callFunc_extern a c e b d];simp only[List.push_toArray,List.nil_append];have i:(Extern.OsHooks.nano args).events P w #[⟨.mark (.extern f),false,true⟩]=#[⟨.mark (.extern f),false,true⟩]++#[⟨.output,true,false⟩]:=rfl;rw[i,seen_entry_out _ _ (by rw[a];exact j)]
theorem af6(h:semAt g=some (callFunc f #[.int k n]))(E:cN P f Extern.Sync.canSpin q)(a:4<=n)(m:Bool)(w:HA):stepG P m g w=.go (fin g (.bool false)) w #[]:=jz h E (by rw[canSpin_eq,if_pos a];rfl) (j4:=#[]) (by rw[canSpin_eq,if_pos a];rfl) HY m
theorem afA(h:semAt g=some (callFunc f #[.int k n]))(E:cN P f Extern.Sync.canSpin q)(b:n<4)(m:Bool)(w:HA):stepG P m g w=.go (fin g (.bool w.spins)) w.asked #[]:=by
 have a:¬(n>=4):=by omega
 refine jz h E (v:=.bool w.spins) (w':=w.asked) (j4:=#[]) ?_ ?_ HY m;·rw[canSpin_eq,if_neg a];rfl
 ·rw[canSpin_eq,if_neg a];rfl
def fp:TypeDesc->Bool|.struct _|.array _ _=>true|_=>false
theorem rN{d:TypeDesc}(b:P.underlying t=some d)(c:fp d=false)(a:w.cell? ad=some x):(Instr.loadAt t (.pointer (some ad))).run P w=.ok x w:=by cases d<;>simp[fp]at c<;>simp[Instr.loadAt,Instr.sureAddr,loadVar,isAgg,underlying,b,a]
theorem se{d:TypeDesc}(b:P.underlying t=some d)(c:fp d=false)(a:w.cell? ad=some x)(es:Array Event):(Instr.loadAt t (.pointer (some ad))).events P w es=es.push ⟨.cell ad,false,false⟩:=by cases d<;>simp[fp]at c<;>simp[Instr.loadAt,Instr.sureAddr,loadVar,isAgg,underlying,b,a]<;>rfl
theorem akq{d:TypeDesc}(h:semAt g=some (do pure (.value (<-Instr.loadAt t (.pointer (some ad))))))(b:P.underlying t=some d)(c:fp d=false)(a:w.cell? ad=some x)(m:Bool):stepG P m g w=.go (fin g x) w (seen P g.frame.fn #[⟨.cell ad,false,false⟩]):=by rw[jZ (v:=x) (w':=w) h (by simp[rN b c a])];simp[se b c a]
theorem pd{d:TypeDesc}(h:semAt g=some (do pure (.value (<-Instr.loadAt t (.pointer (some ad))))))(b:P.underlying t=some d)(c:fp d=false)(e:w.cell? ad=some x)(a:(P.funcs[g.frame.fn]?).any (·.norace)=true)(m:Bool):stepG P m g w=.go (fin g x) w #[]:=by rw[akq h b c e,seen_def,a];rfl
end
end Kw
namespace Kl
open Conc Kw Ph
def land(a b:Int):Int:=IntKind.i32.wrap (BitVec.ofInt 32 a&&&BitVec.ofInt 32 b).toNat
def lor(a b:Int):Int:=IntKind.i32.wrap (BitVec.ofInt 32 a|||BitVec.ofInt 32 b).toNat
def zU(a b:Int):Int:=IntKind.i32.wrap (BitVec.ofInt 32 a&&&~~~BitVec.ofInt 32 b).toNat
def J9(p:Wd->Bool):Bool:=(List.range 2).all λl=>(List.range 2).all λk=>(List.range 2).all λs=>(List.range 64).all λw=>p ⟨l,k,s,w⟩
theorem fK{p:Wd->Bool}(h:J9 p=true){x:Wd}(b:x.l<=1/\x.k<=1/\x.s<=1/\x.w<=63):p x=true:=by obtain⟨l,k,s,w⟩:=x;obtain⟨h1,c,d,a⟩:=b;unfold J9 at h;simp only[List.all_eq_true,List.mem_range]at h;dsimp only at h1 c d a;exact h l HU k HU s HU w HU
def Sm(x:Wd):Prop:=x.l<=1/\x.k<=1/\x.s<=1/\x.w<=63
theorem fG{x:Wd}(h:x.ok):Sm x:=⟨h.1,h.2.1,h.2.2.1,Nat.le_trans h.2.2.2 J1⟩
section
variable{x:Wd}(h:Sm x)
include h
theorem wM:land x.val 5=x.l+4*x.s:=by simpa using fK (p:=λx=>land x.val 5==x.l+4*x.s) HW h
theorem uF:land x.val 4=4*x.s:=by simpa using fK (p:=λx=>land x.val 4==4*x.s) HW h
theorem aen:land x.val 1=x.l:=by simpa using fK (p:=λx=>land x.val 1==x.l) HW h
theorem Jb:land x.val 2=2*x.k:=by simpa using fK (p:=λx=>land x.val 2==2*x.k) HW h
theorem aiJ:land x.val 3=x.l+2*x.k:=by simpa using fK (p:=λx=>land x.val 3==x.l+2*x.k) HW h
theorem Nq:land x.val 7=x.l+2*x.k+4*x.s:=by simpa using fK (p:=λx=>land x.val 7==x.l+2*x.k+4*x.s) HW h
theorem ui:x.val.fdiv (2^3)=x.w:=eq_of_beq (fK (p:=λx=>x.val.fdiv (2^3)==x.w) HW h)
theorem Hy:lor x.val 1=({x with l:=1}:Wd).val:=by simpa using fK (p:=λx=>lor x.val 1==({x with l:=1}:Wd).val) HW h
theorem DU:lor x.val 2=({x with k:=1}:Wd).val:=by simpa using fK (p:=λx=>lor x.val 2==({x with k:=1}:Wd).val) HW h
theorem Uf:lor x.val 4=({x with s:=1}:Wd).val:=by simpa using fK (p:=λx=>lor x.val 4==({x with s:=1}:Wd).val) HW h
theorem ahU:zU x.val 2=({x with k:=0}:Wd).val:=by simpa using fK (p:=λx=>zU x.val 2==({x with k:=0}:Wd).val) HW h
theorem TB:IntKind.i32.wrap (x.val+8)=({x with w:=x.w+1}:Wd).val:=by simpa using fK (p:=λx=>IntKind.i32.wrap (x.val+8)==({x with w:=x.w+1}:Wd).val) HW h
theorem UP(a:1<=x.w):IntKind.i32.wrap (x.val-8)=({x with w:=x.w-1}:Wd).val:=by have:=fK (p:=λx=>x.w==0||IntKind.i32.wrap (x.val-8)==({x with w:=x.w-1}:Wd).val) HW h;have h0:¬x.w=0:=HU;simpa[h0]using this
theorem Xo(a:x.l=1):IntKind.i32.wrap (x.val+-1)=({x with l:=0}:Wd).val:=by have:=fK (p:=λx=>x.l==0||IntKind.i32.wrap (x.val+-1)==({x with l:=0}:Wd).val) HW h;have h0:¬x.l=0:=HU;simpa[h0]using this
theorem PR(a:x.l=0):land (IntKind.i32.wrap (x.val+1)) 1=1:=by have:=fK (p:=λx=>x.l==1||land (IntKind.i32.wrap (x.val+1)) 1==1) HW h;simpa[a]using this
theorem aaA(a:x.l=0)(b:1<=x.w):IntKind.i32.wrap (x.val+-7)=({x with l:=1,w:=x.w-1}:Wd).val:=by have:=fK (p:=λx=>x.l==1||x.w==0||IntKind.i32.wrap (x.val+-7)==({x with l:=1,w:=x.w-1}:Wd).val) HW h;have h0:¬x.w=0:=HU;simpa[a,h0]using this
theorem ZW(b:x.l=0)(a:x.s=1)(c:1<=x.w):IntKind.i32.wrap (x.val+-11)=({x with l:=1,s:=0,w:=x.w-1}:Wd).val:=by have:=fK (p:=λx=>x.l==1||x.s==0||x.w==0||IntKind.i32.wrap (x.val+-11)==({x with l:=1,s:=0,w:=x.w-1}:Wd).val) HW h;have h0:¬x.w=0:=HU;simpa[b,h0,a]using this
end
theorem val_inj{x y:Wd}(b:Sm x)(a:Sm y)(h:x.val=y.val):x=y:=by obtain⟨l,k,s,w⟩:=x;obtain⟨l',k',s',w'⟩:=y;simp only[Wd.val]at h;simp only[Sm]at b a;simp only[Wd.mk.injEq];omega
section
variable{P:Program}{g:Gq}
theorem sc{s:Sem Next}(h:semAt g=some s)(c:calm? P s=some (.value v)):uQ P g (fin g v):=by have h0:=iu (P:=P) h true default;(have a:g.status=.running:=by rw[h0.1]);refine⟨a,a,λm w=>?_⟩;obtain⟨h1,_,d,b⟩:=iu (P:=P) h m w;rw[b];refine AO d c ?_ w;show some (R (g.frame.finish v) g.callers)=some (fin g v);rw[h1];rfl
theorem ah{fn d n:Nat}{s:Sem Next}(h:semAt (aL P fn d n g)=some s)(a:calm? P s=some (.value v)):aa P g (fin (aL P fn d n g) v):=(ap P fn d n g).trans ⟨1,_,sc h a,rfl⟩
variable{t:TypeId}{a b:Int}
theorem gU(h:land a b=r):calm? (α:=Next) P (do pure (.value (<-Go.binOp .and t (.int .i32 a) (.int .i32 b))))=some (.value (.int .i32 r)):=by subst h;rfl
theorem vh(h:lor a b=r):calm? (α:=Next) P (do pure (.value (<-Go.binOp .or t (.int .i32 a) (.int .i32 b))))=some (.value (.int .i32 r)):=by subst h;rfl
theorem afW(h:zU a b=r):calm? (α:=Next) P (do pure (.value (<-Go.binOp .andNot t (.int .i32 a) (.int .i32 b))))=some (.value (.int .i32 r)):=by subst h;rfl
theorem xE(k:IntKind)(h:k.wrap (a+b)=r):calm? (α:=Next) P (do pure (.value (<-Go.binOp .add t (.int k a) (.int k b))))=some (.value (.int k r)):=by subst h;cases k<;>rfl
theorem Br(k:IntKind)(h:k.wrap (a-b)=r):calm? (α:=Next) P (do pure (.value (<-Go.binOp .sub t (.int k a) (.int k b))))=some (.value (.int k r)):=by subst h;cases k<;>rfl
theorem uz(h:a.fdiv (2^3)=r):calm? (α:=Next) P (do pure (.value (<-Go.binOp .shr t (.int .i32 a) (.int .i64 3))))=some (.value (.int .i32 r)):=by subst h;rfl
theorem cS(k:IntKind){r:Bool}(h:(a==b)=r):calm? (α:=Next) P (do pure (.value (<-Go.binOp .eql t (.int k a) (.int k b))))=some (.value (.bool r)):=by subst h;cases k<;>rfl
theorem dN(k:IntKind){r:Bool}(h:(a !=b)=r):calm? (α:=Next) P (do pure (.value (<-Go.binOp .neq t (.int k a) (.int k b))))=some (.value (.bool r)):=by subst h;cases k<;>rfl
theorem oM(k:IntKind){r:Bool}(h:decide (a>b)=r):calm? (α:=Next) P (do pure (.value (<-Go.binOp .gtr t (.int k a) (.int k b))))=some (.value (.bool r)):=by subst h;cases k<;>rfl
end
end Kl
namespace Kw
open Conc
def owner(ops:Array Oper)(t:Nat):Option Nat:=(List.range ops.size).find? λi=>match(ops[i]?).bind (·.dst)with|some d=>d==t|none=>false
def gh(base:DS)(ops:Array Oper)(V:Nat->HH)(D:Array Bool):DS:=base.mapIdx λt v=>match owner ops t with|some i=>(match D.getD i false with|true=>V i|false=>v)|none=>v
def O3:Op->Bool|.select _ _=>false|_=>true
def sound(ops:Array Oper):Bool:=(List.range ops.size).all λi=>match ops[i]? with|none=>false|some o=>o.guard.isNone&&O3 o.op&&(match o.dst with|some d=>owner ops d==some i|none=>true)&&(o.op.operands.all λx=>match x with|.tmp t=>(match owner ops t with|some j=>o.after.any λe=>Region.binds .any e&&e.on==j|none=>true)|_=>true)&&(o.after.all λe=>!Region.binds .any e||decide (e.on<i))
structure aaY(ops:Array Oper)(i:Nat)(o:Oper):Prop where
 guard:o.guard=none
 Hu:∀cs b,o.op≠.select cs b
 dst:∀d,o.dst=some d->owner ops d=some i
 P4:∀t,Operand.tmp t∈o.op.operands->∀j,owner ops t=some j->∃e∈o.after,Region.binds .any e=true/\e.on=j
 low:∀e∈o.after,Region.binds .any e=true->e.on<i
theorem sJ(h:sound ops=true){o:Oper}(f:ops[i]?=some o):aaY ops i o:=by
 have r:i<ops.size:=(J2.1 f).1;have:=List.all_eq_true.1 h i (List.mem_range.2 r);rw[f]at this;simp only[Bool.and_eq_true]at this;obtain⟨⟨⟨⟨h1,g⟩,k⟩,l⟩,m⟩:=this;refine⟨by simpa using h1,λcs b e=>(by rw[e]at g;cases g),λd n=>?_,λt p j q=>?_,λe a s=>?_⟩;·rw[n]at k;exact eq_of_beq k
 ·have:=Array.all_eq_true_iff_forall_mem.1 l _ p;dsimp only at this;rw[q]at this;obtain⟨e,a,c⟩:=Array.any_eq_true'.1 this;simp only[Bool.and_eq_true,beq_iff_eq]at c;exact⟨e,a,c.1,c.2⟩
 ·have:=Array.all_eq_true_iff_forall_mem.1 m _ a;rw[s]at this;simpa using this
theorem xA{t:Nat}(h:owner ops t=some i):∃o,ops[i]?=some o/\o.dst=some t:=by have:=List.find?_some h;cases b:ops[i]? with|none=>simp[b]at this|some o=>cases a:o.dst with|none=>simp[b,a]at this|some d=>simp[b,a]at this;subst this;exact⟨o,rfl,a⟩
def stA(g:Gq)(ops:Array Oper)(V:Nat->HH)(D:Array Bool)(l:List Nat):Gq:={g with frame:={g.frame with tmps:=gh g.frame.tmps ops V D,todo:=.inRegion ops l::g.frame.todo.tail}}
def bz(g:Gq)(ops:Array Oper)(V:Nat->HH):Gq:={g with frame:={g.frame with tmps:=gh g.frame.tmps ops V (Array.replicate ops.size true),todo:=g.frame.todo.tail}}
section
variable{ops:Array Oper}{V:Nat->HH}{D:Array Bool}{g:Gq}{i:Nat}{o:Oper}{rest:List Nat}
theorem NX(h:sound ops=true)(e:ops[i]?=some o)(r:D.size=ops.size)(base:DS):(match o.dst with|some d=>(gh base ops V D).setIfInBounds d (V i)|none=>gh base ops V D)=gh base ops V (D.setIfInBounds i true):=by
 have s:i<ops.size:=(J2.1 e).1;have m:=sJ h e;have k:∀j,j≠i->(D.setIfInBounds i true).getD j false=D.getD j false:=λj a=>by rw[Array.getD_eq_getD_getElem?,Array.getD_eq_getD_getElem?,Array.getElem?_setIfInBounds_ne (Ne.symm a)]
 have q:(D.setIfInBounds i true).getD i false=true:=by rw[Array.getD_eq_getD_getElem?,Array.getElem?_setIfInBounds_self_of_lt HU];rfl
 cases f:o.dst with|none=>(dsimp only;unfold gh;refine Array.ext HY λt h1 p=>?_;simp only[Array.getElem_mapIdx];cases g:owner ops t with|none=>rfl|some j=>(have a:j≠i:=by rintro rfl;obtain⟨n,b,c⟩:=xA g;rw[e]at b;cases b;rw[f]at c;cases c);dsimp only;rw[k j a])|some d=>have l:=m.dst d f;dsimp only;unfold gh;refine Array.ext HY λt h1 p=>?_;rw[Array.getElem_setIfInBounds (by simpa using h1)];simp only[Array.getElem_mapIdx];by_cases ht:d=t;(·subst ht;rw[if_pos rfl,l];dsimp only;rw[q]);·rw[if_neg ht];cases g:owner ops t with|none=>rfl|some j=>(have a:j≠i:=by rintro rfl;obtain⟨n,b,c⟩:=xA g;rw[e]at b;cases b;rw[f]at c;cases c;exact ht rfl);dsimp only;rw[k j a]
theorem jX(h:sound ops=true)(c:ops[i]?=some o)(e:D.size=ops.size):fin (stA g ops V D (i::rest)) (V i)=stA g ops V (D.setIfInBounds i true) rest:=by unfold fin stA Frame.finish;dsimp only;rw[c];have a:=NX (V:=V) h c e g.frame.tmps;cases b:o.dst with|none|some d=>rw[b]at a;simp only[Option.bind,b];rw[<-a]
theorem FE(h:sound ops=true)(a:ops[i]?=some o)(c:D.size=ops.size)(b:o.dst=none)(v:HH):fin (stA g ops V D (i::rest)) v=stA g ops V (D.setIfInBounds i true) rest:=by rw[<-jX (V:=V) h a c];unfold fin stA Frame.finish;dsimp only;rw[a];simp only[Option.bind,b]
theorem ain(h:sound ops=true)(d:ops[i]?=some o)(k:∀e∈o.after,Region.binds .any e=true->D.getD e.on false=true)(l:List Nat):execOp (stA g ops V D l).frame.eval o=execOp (bz g ops V).frame.eval o:=by have b:=sJ h d;refine execOp_congr o b.Hu λx f=>?_;cases x with|tmp t=>(show(gh g.frame.tmps ops V D).getD t undef=(gh g.frame.tmps ops V _).getD t undef;rw[Array.getD_eq_getD_getElem?,Array.getD_eq_getD_getElem?];unfold gh;rw[Array.getElem?_mapIdx,Array.getElem?_mapIdx];cases a:owner ops t with|none=>rfl|some j=>obtain⟨e,m,n,p⟩:=b.P4 t f j a;have h1:=k e m n;rw[p]at h1;(have q:j<ops.size:=by obtain⟨s,r,_⟩:=xA a;exact(J2.1 r).1);(have c:(Array.replicate ops.size true).getD j false=true:=by rw[Array.getD_eq_getD_getElem?,Array.getElem?_replicate,if_pos q];rfl);dsimp only;rw[h1,c])|_=>rfl
theorem jO(a:da g=some ops)(c:g.frame.kind≠.early)(h:sound ops=true)(b:ops[i]?=some o)(j:∀e∈o.after,Region.binds .any e=true->D.getD e.on false=true):semAt (stA g ops V D (i::rest))=some (execOp (bz g ops V).frame.eval o):=by
 rw[<-ain h b j (i::rest)];have d:=sJ h b;obtain⟨fr,cs,st,m,off⟩:=g;unfold da at a;split at a;rotate_left;·cases a
 rename_i fr' l f;cases f;obtain⟨fn,tmps,todo,defers,mode,kind,k⟩:=fr;dsimp only at a c;split at a;rotate_left;·cases a
 cases kind<;>first|exact absurd rfl c|(simp only[semAt,stA,b];unfold Region.wanted;rw[d.guard])
theorem sI(d:da g=some ops)(c:g.frame.kind≠.early)(h:sound ops=true)(a:ops[i]?=some o)(f:D.size=ops.size)(j:∀e∈o.after,Region.binds .any e=true->D.getD e.on false=true)(b:calm? P (execOp (bz g ops V).frame.eval o)=some (.value (V i))):aa P (stA g ops V D (i::rest)) (stA g ops V (D.setIfInBounds i true) rest):=by rw[<-jX h a f];exact⟨1,_,Kl.sc (jO d c h a j) b,rfl⟩
theorem Ih(a:da g=some ops):aa P (stA g ops V (Array.replicate ops.size true) []) (bz g ops V):=by
 obtain⟨fr,cs,st,e,off⟩:=g;unfold da at a;split at a;rotate_left;·cases a
 rename_i fr' d b;cases b;obtain⟨fn,tmps,todo,defers,mode,kind,c⟩:=fr;dsimp only at a;split at a;rotate_left;·cases a
 exact ef rfl
theorem EE(l:List Nat):drawn g ops l=stA g ops V (Array.replicate ops.size false) l:=by unfold drawn stA;(have:gh g.frame.tmps ops V (Array.replicate ops.size false)=g.frame.tmps:=by unfold gh;refine Array.ext HY λt h1 a=>?_;simp only[Array.getElem_mapIdx];cases owner ops t with|none=>rfl|some j=>(have:(Array.replicate ops.size false).getD j false=false:=by rw[Array.getD_eq_getD_getElem?,Array.getElem?_replicate];split<;>rfl);dsimp only;rw[this]);rw[this]
theorem Kz(h:sound ops=true)(g:D.size=ops.size)(k:Region.ready .any ops D=[]):D=Array.replicate ops.size true:=by(have l:∀i,i<ops.size->D.getD i true=true:=by intro i;induction i using Nat.strongRecOn with|ind i f=>intro b;refine Classical.byContradiction λd=>?_;(have a:i∈Region.ready .any ops D:=by unfold Region.ready;refine List.mem_filter.2 ⟨List.mem_range.2 b,?_⟩;have c:ops[i]?=some ops[i]:=Array.getElem?_eq_getElem b;rw[c];simp only[Option.map_some,Option.getD_some,Bool.and_eq_true,Bool.not_eq_true'];refine⟨by simpa using d,Array.all_eq_true_iff_forall_mem.2 λe j=>?_⟩;cases m:Region.binds .any e with|false=>rfl|true=>have n:=(sJ h c).low e j m;have:=f e.on n HU;rw[Array.getD_eq_getD_getElem?,Array.getElem?_eq_getElem HU]at this⊢;simpa using this);rw[k]at a;cases a);refine Array.ext (by simpa using g) λi h1 o=>?_;have:=l i HU;rw[Array.getD_eq_getD_getElem?,Array.getElem?_eq_getElem h1]at this;simpa using this
theorem mem_ready(c:i∈Region.ready .any ops D):∃o,ops[i]?=some o/\D.getD i true=false/\∀e∈o.after,Region.binds .any e=true->D.getD e.on false=true:=by unfold Region.ready at c;obtain⟨h1,a⟩:=List.mem_filter.1 c;cases b:ops[i]? with|none=>rw[b]at a;simp at a|some o=>rw[b]at a;simp only[Option.map_some,Option.getD_some,Bool.and_eq_true,Bool.not_eq_true']at a;refine⟨o,rfl,a.1,λe f d=>?_⟩;have:=Array.all_eq_true_iff_forall_mem.1 a.2 e f;rw[d]at this;simpa using this
theorem count_set(a:i<D.size)(h0:D.getD i true=false):(D.setIfInBounds i true).count false+1=D.count false:=by rw[Array.getD_eq_getD_getElem?,Array.getElem?_eq_getElem a]at h0;(have b:D[i]=false:=by simpa using h0);rw[Array.setIfInBounds_def,dif_pos a,Array.count_set];have:0<D.count false:=Array.count_pos_iff.2 (b▸Array.getElem_mem a);simp[b];omega
end
end Kw
namespace Ph
open Conc ConcN ConcM Kw
section
variable{C:Cx}{O:Nat->Prop}{own main mu:Bool}{ag wr:Option Nat}{w w₁ w₂:HA}{Stop:(Nat->Prop)->Gq->HA->Prop}{g:Gq}
theorem Dn.draw(O:Nat->Prop)(own mu:Bool)(wr:Option Nat)(w:HA):Dn C O O own mu wr w {w with drawn:=w.drawn+1} #[]:=⟨rfl,rfl,rfl,Nat.le_refl _,λb=>⟨.inl,λh=>h.elim id λh=>absurd h.2 (Nat.not_lt.2 h.1)⟩,λ_ _ _ _ _=>rfl,λx m g h=>⟨g,h,λ_=>rfl⟩,λcs h=>⟨cs,h,λ_ _=>rfl⟩,by simp,λ_=>rfl⟩
theorem Dn.look(O:Nat->Prop)(own:Bool)(wr:Option Nat)(w:HA){es:Array Event}(h:∀e∈es,eT C O own wr e):Dn C O O own false wr w w es:=⟨rfl,rfl,rfl,Nat.le_refl _,λb=>⟨.inl,λh=>h.elim id λh=>absurd h.2 (Nat.not_lt.2 h.1)⟩,λ_ _ _ _ _=>rfl,λx m g h=>⟨g,h,λ_=>rfl⟩,λcs h=>⟨cs,h,λ_ _=>rfl⟩,h,λh=>by cases h⟩
theorem av.lM{V:Nat->HH}(a:da g=some ops)(s:sound ops=true)(y:C.P.follows .mixedOrders=true)(I:Array Bool->(Nat->Prop)->HA->Prop)(q:∀D O w w₁,I D O w->Rl C O own ag w w₁->I D O w₁)(ah:∀i o D O w rest,ops[i]?=some o->D.size=ops.size->D.getD i true=false->(∀e∈o.after,Region.binds .any e=true->D.getD e.on false=true)->I D O w->(∀d w',I (D.setIfInBounds i true) d w'->av C main own mu ag wr Stop d (stA g ops V (D.setIfInBounds i true) rest) w')->av C main own mu ag wr Stop O (stA g ops V D (i::rest)) w)(u:∀O w,I (Array.replicate ops.size true) O w->av C main own mu ag wr Stop O (bz g ops V) w)(h0:I (Array.replicate ops.size false) O w):av C main own mu ag wr Stop O g w:=by
 have go:∀(n t:Nat)(D:Array Bool)(O:Nat->Prop)(w:HA),D.size=ops.size->D.count false<=n->I D O w->av C main own mu ag wr Stop O (stA g ops V D (Region.linearise.go .any ops n t D [])) w:=by(have done:∀(D:Array Bool)(O:Nat->Prop)(w:HA),D=Array.replicate ops.size true->I D O w->av C main own mu ag wr Stop O (stA g ops V D []) w:=by rintro D O w rfl b;exact .aR (Ih a) λw₁ j=>u O w₁ (q _ _ _ _ b j));intro n;induction n with|zero=>intro t D O w c E b;have h0:D.count false=0:=HU;(have:D=Array.replicate ops.size true:=by refine Array.ext (by simpa using c) λi h1 p=>?_;have:=Array.count_eq_zero.1 h0;have f:=Array.getElem_mem h1;cases v:D[i]with|true=>simp|false=>rw[v]at f;exact absurd f this);exact done D O w this b|succ n x=>intro t D O w c E b;have e:Region.linearise.go .any ops (n+1) t D []=match(Region.ready .any ops D)[t%(Region.ready .any ops D).length]? with|some i=>Region.linearise.go .any ops n (t/(Region.ready .any ops D).length) (D.setIfInBounds i true) [i]|none=>[]:=rfl;rw[e];cases m:(Region.ready .any ops D)[t%(Region.ready .any ops D).length]? with|none=>(have z:Region.ready .any ops D=[]:=by rw[List.getElem?_eq_none_iff]at m;refine Classical.byContradiction λA=>?_;have:0<(Region.ready .any ops D).length:=List.length_pos_iff.2 A;have:=Nat.mod_lt t this;omega);exact done D O w (Kz s c z) b|some i=>have f:i∈Region.ready .any ops D:=List.mem_of_getElem? m;obtain⟨o,r,h1,p⟩:=Kw.mem_ready f;have J:i<ops.size:=(J2.1 r).1;dsimp only;rw[linearise_go_acc];refine ah i o D O w _ r c h1 p b λd w' F=>x _ _ d w' (by simpa using c) ?_ F;have:=count_set HU h1;omega
 refine .step (uE (P:=C.P) a main w).1 λw₁ j=>?_;obtain⟨_,l,_,B,h⟩:=uE (P:=C.P) a main w₁;have G:∃t,l=Region.linearise.go .any ops ops.size t (Array.replicate ops.size false) []:=by obtain⟨fr,cs,st,K,off⟩:=g;unfold da at a;split at a;rotate_left;(·cases a);rename_i fr' L H;cases H;obtain⟨fn,tmps,todo,defers,mode,kind,N⟩:=fr;dsimp only at a;split at a;rotate_left;(·cases a);rename_i Q M k;simp only[Option.some.injEq]at a;subst a;simp only[stepG,stepG.exec,choose,Sem.run,Question.forced,Question.cut,drawn,Bool.not_true,Bool.false_eq_true,if_false,GStep.go.injEq,Goroutine.mk.injEq,Frame.mk.injEq,List.tail_cons,List.cons.injEq,Item.inRegion.injEq,true_and,and_true]at h;rw[y]at h;exact⟨_,h.symm⟩
 obtain⟨t,rfl⟩:=G;refine⟨_,_,_,O,h,Dn.draw _ _ _ _ _,B,?_⟩;rw[EE (V:=V)];refine go ops.size t _ O _ HY HY (q _ _ _ _ h0 (j.trans ?_));exact Rl.at _ _ _ _ _
theorem av.op{s:Sem Next}(h:semAt g=some s)(k:∀w₁,Rl C O own ag w w₁->∃v w' b,(s.run C.P w₁=.ok (.value v) w'\/(s.run C.P w₁=.ok .skip w'/\v=undef))/\Dn C O b own mu wr w₁ w' (seen C.P g.frame.fn (s.events C.P w₁ #[]))/\av C main own mu ag wr Stop b (fin g v) w'):av C main own mu ag wr Stop O g w:=by
 have i:=(iu (P:=C.P) h main w).1;have c:g.status=.running:=by rw[i]
 refine .step c λw₁ f=>?_;obtain⟨v,w',b,a,e,d⟩:=k w₁ f;rcases a with a|⟨a,rfl⟩;·exact⟨_,w',_,b,jZ h a main,e,c,d⟩
 ·exact⟨_,w',_,b,Kw.step_skip h a main,e,c,d⟩
theorem av.look{s:Sem Next}(h:semAt g=some s)(b:∀w₁,Rl C O own ag w w₁->s.run C.P w₁=.ok (.value v) w₁/\∀e∈s.events C.P w₁ #[],eT C O own wr e)(k:∀w₁,Rl C O own ag w w₁->av C main own false ag wr Stop O (fin g v) w₁):av C main own false ag wr Stop O g w:=.op h λw₁ a=>⟨v,w₁,O,.inl (b w₁ a).1,Dn.look _ _ _ _ λe c=>(b w₁ a).2 e (Co.fv c),k w₁ a⟩
theorem MN{d:TypeDesc}{ad:Addr}(b:C.P.underlying t=some d)(c:fp d=false)(f:w.cell? ad=some x)(g:eT C O own wr ⟨.cell ad,false,false⟩):(do pure (.value (<-Instr.loadAt t (.pointer (some ad)))):Sem Next).run C.P w=.ok (.value x) w/\∀e∈(do pure (.value (<-Instr.loadAt t (.pointer (some ad)))):Sem Next).events C.P w #[],eT C O own wr e:=by refine⟨by simp[rN b c f],λe a=>?_⟩;simp[se b c f]at a;rw[a];exact g
theorem av.load{d:TypeDesc}{ad:Addr}(h:semAt g=some (do pure (.value (<-Instr.loadAt t (.pointer (some ad))))))(b:C.P.underlying t=some d)(c:fp d=false)(e:∀w₁,Rl C O own ag w w₁->w₁.cell? ad=some x)(f:eT C O own wr ⟨.cell ad,false,false⟩)(k:∀w₁,Rl C O own ag w w₁->av C main own false ag wr Stop O (fin g x) w₁):av C main own false ag wr Stop O g w:=.look h (λw₁ a=>MN b c (e w₁ a) f) k
end
end Ph
