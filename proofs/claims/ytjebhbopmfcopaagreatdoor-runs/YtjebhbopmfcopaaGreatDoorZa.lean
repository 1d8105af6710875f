/- Runs, a part. -/
import Derived.Conc.AtomicLaws2
import Derived.Conc.ClockLaws
import Derived.Conc.MarkLaws
import Derived.Conc.Own5
import Derived.KernelRfl
import Derived.Orders
import Derived.Test.YtjebhbopmfcopaaGreatDoorProg
import Derived.Test.YtjebhbopmfcopaaGreatDoorZ0
set_option maxRecDepth 100000
namespace Go.Proofs.YtjebhbopmfcopaaGreatDoor
open Go.Proofs Tryz
noncomputable section
variable{ops:Array Oper}{fr:Frame}{g g':Dm}{n r x y:Int}{cs:B8}{i:Nat}{P:Program}{t:TypeId}{v:Fi}{w w':DS}
namespace Ph
structure Wd where
 l:Nat
 k:Nat
 s:Nat
 w:Nat deriving DecidableEq
def Wd.val(x:Wd):Int:=x.l+2*x.k+4*x.s+8*x.w
def Wd.ok(x:Wd):Prop:=x.l<=1/\x.k<=1/\x.s<=1/\x.w<=60
inductive Pc where|ld|l0|r0|sq|c1|r1|c2|t1|s1|t2|r2|a1|r3|le|la|ur|ud|u0|uc|ux|us|ue|wr|wd|d1|d2|d3|d4|quit deriving DecidableEq
structure Th where
 pc:Pc
 old:Wd:=⟨0,0,0,0⟩
 aw:Bool:=false
 sv:Bool:=false
 it:Nat:=0
 bt:Bool:=false
 ex:Bool:=false
 ct:Bool:=false
 af:Option Nat:=none
 cd:Bool:=false
structure Sh where
 word:Wd
 ms:Nat
 cnt:Nat
 wt:Nat
 ws:Nat
def fZ(T:Th):Wd:={l:=if T.old.s=0 then 1 else T.old.l,k:=if T.aw then 0 else T.old.k,s:=if T.sv=true/\T.old.l=1 then 1 else T.old.s,w:=if T.old.l=1\/T.old.s=1 then T.old.w+1 else T.old.w}
def head(T:Th):Th:=if T.old.l=1/\T.old.s=0 then{T with pc:=.sq}else{T with pc:=.c2}
def cG(T:Th):Th:=if T.old.w=0\/T.old.l=1\/T.old.k=1\/T.old.s=1 then{T with pc:=.ue}else{T with pc:=.uc}
def dv(T:Th)(x:Wd):Th:=if x=⟨0,0,0,0⟩then{T with pc:=.ue}else if x.s=0 then cG {T with old:=x}else{T with pc:=.us,bt:=true}
def next(T:Th):Th:=if T.ct then{pc:=.ld}else if T.af.isSome then{pc:=.ld,ct:=true,af:=T.af}else{pc:=.wr}
inductive Mv(N n:Nat):Th->Sh->Th->Sh->Prop|ld{T s}(h:T.pc=.ld):Mv N n T s {T with pc:=.l0} s|rI{T s}(h:T.pc=.l0)(hw:s.word=⟨0,0,0,0⟩):Mv N n T s {T with pc:=.le} {s with word:=⟨1,0,0,0⟩}|xp{T s}(h:T.pc=.l0)(hw:s.word≠⟨0,0,0,0⟩):Mv N n T s {T with pc:=.r0} s|r0{T s}(h:T.pc=.r0):Mv N n T s (head {T with old:=s.word,aw:=false,sv:=false,it:=0}) s|kS{T s}(h:T.pc=.sq)(hi:T.it<4):Mv N n T s (if T.aw=false/\T.old.k=0/\T.old.w≠0 then{T with pc:=.c1}else{T with pc:=.r1}) s|sP{T s}(h:T.pc=.sq):Mv N n T s {T with pc:=.c2} s|nl{T s}(h:T.pc=.c1)(hw:s.word=T.old):Mv N n T s {T with pc:=.r1,aw:=true} {s with word:={T.old with k:=1}}|rF{T s}(h:T.pc=.c1)(hw:s.word≠T.old):Mv N n T s {T with pc:=.r1} s|r1{T s}(h:T.pc=.r1):Mv N n T s (head {T with old:=s.word,it:=T.it+1}) s|mT{T s}(h:T.pc=.c2)(hw:s.word=T.old)(h0:T.old.l=0/\T.old.s=0):Mv N n T s {T with pc:=.le} {s with word:=fZ T}|jm{T s}(p:Pc)(h:T.pc=.c2)(hp:p=.t1\/p=.s1)(hw:s.word=T.old)(h0:T.old.l=1\/T.old.s=1):Mv N n T s {T with pc:=p} {s with word:=fZ T}|qJ{T s}(h:T.pc=.c2)(hw:s.word≠T.old):Mv N n T s {T with pc:=.r3} s|r3{T s}(h:T.pc=.r3):Mv N n T s (head {T with old:=s.word}) s|t1{T s}(h:T.pc=.t1):Mv N n T s {T with pc:=.s1} s|s1{T s}(h:T.pc=.s1)(hm:s.ms≠0):Mv N n T s {T with pc:=.t2,bt:=decide (s.word.s=1)} {s with ms:=s.ms-1}|t2{T s}(b:Bool)(h:T.pc=.t2):Mv N n T s {T with pc:=.r2,sv:=b} s|vn{T s}(h:T.pc=.r2)(hs:s.word.s=1):Mv N n T s {T with pc:=.a1,ex:=!T.sv||decide (s.word.w=1)} s|kg{T s}(h:T.pc=.r2)(hs:s.word.s=0):Mv N n T s (head {T with old:=s.word,aw:=true,it:=0}) s|a1{T s}(h:T.pc=.a1):Mv N n T s {T with pc:=.le} {s with word:={l:=1,k:=s.word.k,s:=if T.ex then 0 else s.word.s,w:=s.word.w-1}}|le{T s}(h:T.pc=.le):Mv N n T s {T with pc:=.la} s|sg{T s}(h:T.pc=.la)(hc:T.ct=false):Mv N n T s {T with pc:=.ur,af:=if n<N then some n else none,cd:=false} s|sW{T s}(h:T.pc=.la)(hc:T.ct=true):Mv N n T s {T with pc:=.ur,cd:=true} s|ur{T s}(h:T.pc=.ur):Mv N n T s {T with pc:=.ud} s|ud{T s}(h:T.pc=.ud):Mv N n T s {T with pc:=.u0} s|u0{T s}(h:T.pc=.u0):Mv N n T s (dv T {s.word with l:=0}) {s with word:={s.word with l:=0}}|rE{T s}(h:T.pc=.uc)(hw:s.word=T.old):Mv N n T s {T with pc:=.us,bt:=false} {s with word:={T.old with k:=1,w:=T.old.w-1}}|qK{T s}(h:T.pc=.uc)(hw:s.word≠T.old):Mv N n T s {T with pc:=.ux} s|ux{T s}(h:T.pc=.ux):Mv N n T s (cG {T with old:=s.word}) s|us{T s}(h:T.pc=.us):Mv N n T s {T with pc:=.ue} {s with ms:=s.ms+1}|ue{T s}(h:T.pc=.ue):Mv N n T s (next T) s|wr{T s}(h:T.pc=.wr):Mv N n T s {T with pc:=.wd} s|wd{T s}(h:T.pc=.wd):Mv N n T s {T with pc:=.d1} s|xi{T s}(h:T.pc=.d1)(hq:s.cnt-1≠0\/s.wt=0):Mv N n T s {T with pc:=.quit} {s with cnt:=s.cnt-1}|zy{T s}(h:T.pc=.d1)(hq:s.cnt=1/\s.wt=1):Mv N n T s {T with pc:=.d2} {s with cnt:=0}|d2{T s}(h:T.pc=.d2):Mv N n T s {T with pc:=.d3} s|d3{T s}(h:T.pc=.d3):Mv N n T s {T with pc:=.d4} {s with cnt:=0,wt:=0}|d4{T s}(h:T.pc=.d4):Mv N n T s {T with pc:=.quit} {s with ws:=s.ws+1}
def aS(T:Th):Nat:=match T.pc with|.le|.la|.ur|.ud|.u0=>1|_=>0
def aU(T:Th):Nat:=match T.pc with|.us|.t2|.r2=>if T.bt then 0 else 1|.sq|.c1|.r1|.c2|.r3=>if T.aw then 1 else 0|_=>0
def bz(T:Th):Nat:=match T.pc with|.us=>if T.bt then 0 else 1|_=>0
def aQ(T:Th):Nat:=match T.pc with|.us|.t2|.r2=>if T.bt then 1 else 0|.a1=>1|_=>0
def bm(T:Th):Nat:=match T.pc with|.t1|.s1=>1|_=>0
def bg(T:Th):Nat:=match T.pc with|.t2|.r2=>if T.bt then 1 else 0|.a1=>1|_=>0
structure MI(x:Wd)(ms own wk usn tn slp rcv:Nat):Prop where
 l1:x.l<=1
 k1:x.k<=1
 s1:x.s<=1
 ai:own=x.l
 aih:usn<=wk
 aii:rcv<=tn
 calm:x.s=0->wk+ms=x.k/\tn=0/\slp=x.w+ms+usn
 AO:x.s=1->x.k=0/\wk=0/\x.l+tn+ms=1/\slp+rcv=x.w/\1<=x.w
structure TW(T:Th):Prop where
 mK:T.old.ok
 sq:T.pc=.sq->T.old.l=1/\T.old.s=0/\T.it<=4
 c1:T.pc=.c1->T.old.l=1/\T.old.s=0/\T.old.k=0/\1<=T.old.w/\T.aw=false/\T.it<4
 r1:T.pc=.r1->T.it<4
 mC:(T.pc=.sq\/T.pc=.c2)->T.aw=true->T.old.k=1
 jX:(T.pc=.sq\/T.pc=.c1\/T.pc=.r1\/T.pc=.c2\/T.pc=.r3)->T.sv=true->T.aw=true
 uc:T.pc=.uc->T.old.l=0/\T.old.k=0/\T.old.s=0/\1<=T.old.w
 FW:(T.pc=.c2\/T.pc=.r3)->T.it<=4
set_option linter.unusedSimpArgs false in theorem Pb{N n:Nat}{T T':Th}{s s':Sh}{o a u b p r:Nat}(h:Mv N n T s T' s')(l:TW T)(q:T.pc=.a1->T.ex=false->2<=s.word.w)(C:MI s.word s.ms (aS T+o) (aU T+a) (bz T+u) (aQ T+b) (bm T+p) (bg T+r))(E:u<=a)(F:r<=b):MI s'.word s'.ms (aS T'+o) (aU T'+a) (bz T'+u) (aQ T'+b) (bm T'+p) (bg T'+r):=by
 obtain⟨m1,m,j,e,g,f,d,c⟩:=C;cases h;case' ld h|t1 h|le h|ur h|ud h|wr h|wd h|d2 h|d3 h|d4 h|xp h hw|sg h hc|sW h hc|xi h hq|zy h hq|qK h hw=>all_goals simp only[aS,aU,bz,aQ,bm,bg,h]at e g f d c⊢
 case' rI h hw=>rw[hw]at m1 m j e d c;dsimp only at m1 m j e d c;all_goals simp only[aS,aU,bz,aQ,bm,bg,h]at e g f d c⊢
 case' r0 h=>unfold head;split;all_goals simp only[aS,aU,bz,aQ,bm,bg,h]at e g f d c⊢
 case' kS h hi=>split;(all_goals cases i:T.aw);all_goals simp only[aS,aU,bz,aQ,bm,bg,h,i]at e g f d c⊢
 case' sP h|qJ h hw=>cases i:T.aw;all_goals simp only[aS,aU,bz,aQ,bm,bg,h,i]at e g f d c⊢
 case' nl h hw=>obtain⟨c1,c2,x,y,t,B⟩:=l.c1 h;rw[hw]at m1 m j e d c;all_goals simp only[aS,aU,bz,aQ,bm,bg,h,t]at e g f d c⊢
 case' rF h hw=>obtain⟨c1,c2,x,y,t,B⟩:=l.c1 h;all_goals simp only[aS,aU,bz,aQ,bm,bg,h,t]at e g f d c⊢
 case' r1 h|r3 h=>unfold head;split;(all_goals cases i:T.aw);all_goals simp only[aS,aU,bz,aQ,bm,bg,h,i]at e g f d c⊢
 case' mT h hw h0=>have mC:=l.mC (.inr h);rw[hw]at m1 m j e d c;cases i:T.aw;(all_goals simp only[i,true_implies]at mC);(all_goals simp only[fZ,h0.1,h0.2]);all_goals simp only[aS,aU,bz,aQ,bm,bg,h,i]at e g f d c⊢
 case' jm p h hp hw h0=>have mC:=l.mC (.inr h);have jX:=l.jX (.inr (.inr (.inr (.inl h))));rw[hw]at m1 m j e d c;(have D:(T.old.s=0/\T.old.l=1)\/T.old.s=1:=by omega);rcases hp with rfl|rfl;(all_goals cases i:T.aw);(all_goals cases v:T.sv);(all_goals simp only[i,v,true_implies,Bool.false_eq_true,false_implies,reduceCtorEq,Bool.true_eq_false]at mC jX);(all_goals rcases D with⟨k,A⟩|k);(all_goals simp only[fZ,k,i,v]);(all_goals try simp only[A]);(all_goals rw[k]at j d c);(all_goals try rw[A]at m1 e c);(all_goals simp only[Nat.reduceEqDiff,true_implies,false_implies,Nat.one_ne_zero,if_true,if_false,or_true,true_or,and_true,true_and,ite_self,Bool.false_eq_true,false_and,Nat.zero_ne_one]at d c⊢);all_goals simp only[aS,aU,bz,aQ,bm,bg,h,i,v]at e g f d c⊢
 case' s1 h hm=>by_cases k:s.word.s=1;all_goals simp only[aS,aU,bz,aQ,bm,bg,h,k,decide_true,decide_false,decide_eq_true_eq]at e g f d c⊢
 case' t2 b h|vn h k|us h=>cases w:T.bt;all_goals simp only[aS,aU,bz,aQ,bm,bg,h,w]at e g f d c⊢
 case' kg h k=>unfold head;split;(all_goals cases w:T.bt);all_goals simp only[aS,aU,bz,aQ,bm,bg,h,w]at e g f d c⊢
 case' a1 h=>have q:=q h;cases z:T.ex;(all_goals simp only[z,true_implies,Bool.true_eq_false,false_implies]at q);all_goals simp only[aS,aU,bz,aQ,bm,bg,h,z]at e g f d c⊢
 case' u0 h=>unfold dv;split;rotate_left;split;unfold cG;split;all_goals simp only[aS,aU,bz,aQ,bm,bg,h]at e g f d c⊢
 case' rE h hw=>obtain⟨c1,c2,x,y⟩:=l.uc h;rw[hw]at m1 m j e d c;all_goals simp only[aS,aU,bz,aQ,bm,bg,h]at e g f d c⊢
 case' ux h=>unfold cG;split;all_goals simp only[aS,aU,bz,aQ,bm,bg,h]at e g f d c⊢
 case' ue h=>unfold next;split;rotate_left;split;all_goals simp only[aS,aU,bz,aQ,bm,bg,h]at e g f d c⊢
 all_goals refine⟨?_,?_,?_,?_,?_,?_,?_,?_⟩<;>(try dsimp only)<;>(try simp only[reduceCtorEq,Wd.mk.injEq,if_true,if_false,Bool.false_eq_true,and_false,false_and,or_self,or_false,false_or,and_true,true_and,false_implies,true_implies,implies_true]at*)<;>omega
end Ph
namespace Kw
open Conc
def calm?{α:Type}(P:Program):Sem α->Option α|.pure a=>some a|.program k=>calm? P (k P)|.mark (.extern _) k=>calm? P k|_=>none
def Ap(e:Event):Prop:=∃f,e.loc=.mark (.extern f)
theorem uJ{α:Type}(s:Sem α):∀{a:α},calm? P s=some a->∀(w:DS)(c:Array Event),∃new,s.runT P w c=(.ok a w,c++new)/\∀e∈new,Ap e:=by induction s with|pure b=>intro a h w c;simp only[calm?,Option.some.injEq]at h;subst h;exact⟨#[],by simp[Sem.runT],by simp⟩|program k g=>intro a h w c;exact g P h w c|mark m k g=>(intro a h w c;cases m with|extern f=>obtain⟨new,h1,i⟩:=g h w (c.push ⟨.mark (.extern f),false,true⟩);refine⟨#[⟨.mark (.extern f),false,true⟩]++new,?_,?_⟩;(·show k.runT P w (c.push _)=_;rw[h1,Array.push_eq_append,Array.append_assoc]);·intro e d;rcases Array.mem_append.1 d with d|d;(·simp only[List.mem_toArray,List.mem_singleton]at d;subst d;exact⟨f,rfl⟩);·exact i e d|_=>simp[calm?]at h)|_=>intro a h;simp[calm?]at h
theorem vw{fn:FuncId}{a:Array Event}(h:∀e∈a,Ap e):seen P fn a=#[]:=by unfold seen;dsimp only;rw[<-Array.foldl_toList];(have c:∀(l:List Event)(q:Bool),(∀e∈l,Ap e)->(l.foldl (λ(x:Bool×Array Event)e=>match x with|(q,kept)=>match e.loc with|.mark (.extern f)=>((P.funcs[f]?).any (·.norace),kept)|_=>(q,if q&&!e.sync then kept else kept.push e)) (q,#[])).2=#[]:=by intro l;induction l with|nil=>intro q _;rfl|cons e l d=>intro q b;obtain⟨f,i⟩:=b e (by simp);rw[List.foldl_cons];simp only[i];exact d _ λx j=>b x (by simp[j]));exact c a.toList _ λe g=>h e (by simpa using g)
abbrev R(fr:Frame)(cs:B8):Dm:=⟨fr,cs,.running,none,none⟩
def did(P:Program)(fr:Frame)(cs:B8):Next->Option Dm|.value v=>some (R (fr.finish v) cs)|.skip=>some (R (fr.finish undef) cs)|.enter f args=>some (R (Frame.enter P f args .normal) (fr::cs))|.defer d=>some (R ({fr with defers:=d::fr.defers}.finish undef) cs)|_=>none
def bQ(P:Program)(g:Dm):Option Dm:=match g with|⟨fr,cs,.running,none,none⟩=>(match fr.mode with|.run=>(match fr.roundOf with|some _=>none|none=>match fr.todo with|[]|.code .ret::_=>some (R {fr with mode:=.returning} cs)|.code .skip::k|.code (.label _)::k|.inBlock _::k|.inScope _::k|.inRegion _ []::k=>some (R {fr with todo:=k} cs)|.code (.seq a b)::k=>some (R {fr with todo:=.code a::.code b::k} cs)|.code (.cond c a b)::k=>(match fr.eval c with|.bool true=>some (R {fr with todo:=.code a::k} cs)|.bool false=>some (R {fr with todo:=.code b::k} cs)|_=>none)|.code (.block id body)::k=>some (R {fr with todo:=.code body::.inBlock id::k} cs)|.code (.loop body)::k|.inLoop body::k=>some (R {fr with todo:=.code body::.inLoop body::k} cs)|.code (.scope body)::k=>some (R {fr with todo:=.code body::.inScope body::k} cs)|.code (.exit id)::k=>(match exitTo id k with|some k'=>some (R {fr with todo:=k'} cs)|none=>none)|.code (.goto l)::k=>(match gotoIn l k with|some k'=>some (R {fr with todo:=k'} cs)|none=>none)|.code (.region _ ops false)::k=>some (R {fr with todo:=.inRegion ops (List.range ops.size)::k} cs)|.inRegion ops (i::_)::_=>(match ops[i]? with|none=>none|some o=>match Region.wanted o (yielded ops fr.tmps)with|false=>some (R (fr.finish undef) cs)|true=>match calm? P (execOp fr.eval o)with|some n=>did P fr cs n|none=>none)|_=>none)|.returning=>(match fr.defers,cs,P.funcs[fr.fn]?,fr.kind with|[],c::rest,some fn,.normal=>(match calm? P (results fn fr.tmps)with|some v=>some (R (c.finish v) rest)|none=>none)|[],c::rest,some fn,.deferred=>(match c.mode,calm? P (results fn fr.tmps)with|.returning,some _=>some (R c rest)|_,_=>none)|⟨.fn f cap,args⟩::d,_,_,_=>(match calm? P (invoke (.fn f cap) args)with|some (.enter f args)=>some (R (Frame.enter P f args .deferred) ({fr with defers:=d}::cs))|_=>none)|_,_,_,_=>none)|.panicking _=>match fr.defers with|⟨.fn f cap,args⟩::d=>(match calm? P (invoke (.fn f cap) args)with|some (.enter f args)=>some (R (Frame.enter P f args .deferred) ({fr with defers:=d}::cs))|_=>none)|_=>none)|_=>none
theorem zg{s:Sem Next}{n:Next}(j:∀d b r a k,fr.todo≠.call d b r a::k)(h:calm? P s=some n)(c:did P fr cs n=some g')(w:DS):stepG.apply P true fr cs none s w=.go g' w #[]:=by obtain⟨new,h1,i⟩:=uJ s h w #[];rw[Array.empty_append]at h1;(have e:seen P fr.fn (if(fr.kind==.early)=true then#[]else new)=#[]:=by split;(·rfl);·exact vw i);unfold stepG.apply;simp only[if_true,h1];cases n with|value v|skip|«defer»d=>simp only[did,Option.some.injEq]at c;subst c;simp only[e,GStep.after];simp|enter f args=>simp only[did,Option.some.injEq]at c;subst c;simp only[e,GStep.after];split;(·rename_i g;exact absurd g (j _ _ _ _ _));·simp|_=>simp[did]at c
theorem Iy{m:Bool}{f:Fn}{cap args:B6}{b:List Deferred}{g:FuncId}{a:B6}(d:fr.defers=⟨.fn f cap,args⟩::b)(h:calm? P (invoke (.fn f cap) args)=some (.enter g a))(w:DS):unwind P m fr cs none w=.go (R (Frame.enter P g a .deferred) ({fr with defers:=b}::cs)) w #[]:=by obtain⟨new,h1,c⟩:=uJ _ h w #[];rw[Array.empty_append]at h1;unfold unwind;rw[d];simp only;unfold callDeferred;rw[if_neg (by simp)];simp only[h1,vw c,GStep.after,Array.append_empty]
theorem CA(h:bQ P g=some g')(m:Bool)(w:DS):stepG P m g w=.go g' w #[]:=by obtain⟨fr,cs,st,y,off⟩:=g;unfold bQ at h;split at h;rotate_left;(·cases h);rename_i fr' u r;cases r;obtain⟨fn,tmps,todo,defers,mode,kind,q⟩:=fr;cases mode with|run=>(dsimp only at h;cases q with|some x=>cases h|none=>dsimp only at h;split at h;(case h_17=>rename_i ops i rest k;cases d:ops[i]? with|none=>rw[d]at h;cases h|some o=>rw[d]at h;dsimp only at h;cases b:Region.wanted o (yielded ops tmps)with|false=>rw[b]at h;simp only[Option.some.injEq]at h;subst h;simp[stepG,stepG.exec,d,b]|true=>rw[b]at h;dsimp only at h;split at h;(·rename_i n l;have:=zg (fr:=⟨fn,tmps,.inRegion ops (i::rest)::k,defers,.run,kind,none⟩) (by simp) l h w;simp only[stepG,stepG.exec,d,Option.map_some,b,Option.getD_some,if_true,stepG.oper,Frame.oper?];exact this);·cases h);all_goals first|(cases h;done)|(simp only[Option.some.injEq]at h;subst h;simp[stepG,stepG.exec])|(split at h;all_goals first|(cases h;done)|(rename_i j;simp only[Option.some.injEq]at h;subst h;simp[stepG,stepG.exec,j])))|returning=>dsimp only at h;split at h;(·rename_i c rest p e;split at h;(·rename_i v a;simp only[Option.some.injEq]at h;subst h;obtain⟨new,h1,f⟩:=uJ _ a w #[];rw[Array.empty_append]at h1;simp only[stepG,unwind,doReturn,e,h1,vw f,GStep.after,Array.append_empty]);·cases h);(·rename_i c rest p e;split at h;(·rename_i v s a;simp only[Option.some.injEq]at h;subst h;obtain⟨new,h1,f⟩:=uJ _ a w #[];rw[Array.empty_append]at h1;simp only[stepG,unwind,doReturn,e,h1,vw f,GStep.after,s,Array.append_empty]);·cases h);(·split at h;(·rename_i a;simp only[Option.some.injEq]at h;subst h;simp only[stepG];exact Iy rfl a w);·cases h);·cases h|panicking t=>dsimp only at h;split at h;(·split at h;(·rename_i a;simp only[Option.some.injEq]at h;subst h;simp only[stepG];exact Iy rfl a w);·cases h);·cases h
def AP(fn d:Nat)(g:Dm):Bool:=g.frame.fn==fn&&match g.frame.mode,g.frame.todo with|.run,.inRegion ops (i::_)::_=>(match ops[i]? with|some o=>(match o.dst with|some e=>e==d|none=>false)|none=>false)|_,_=>false
def aK(P:Program)(fn d:Nat):Nat->Dm->Dm|0,g=>g|n+1,g=>match AP fn d g with|true=>g|false=>match bQ P g with|some g'=>aK P fn d n g'|none=>g
def aM(P:Program):Nat->Dm->Dm|0,g=>g|n+1,g=>match bQ P g with|some g'=>aM P n g'|none=>g
def fin(g:Dm)(v:Fi):Dm:={g with frame:=g.frame.finish v}
def ua(P:Program)(g g':Dm):Prop:=g.status=.running/\g'.status=.running/\∀m w,stepG P m g w=.go g' w #[]
def ji(P:Program):Nat->Dm->Dm->Prop|0,g,g'=>g=g'|n+1,g,g'=>∃a,ua P g a/\ji P n a g'
theorem Of{n:Next}(h:did P fr cs n=some g):g.status=.running:=by cases n<;>simp only[did]at h<;>first|(cases h;done)|(simp only[Option.some.injEq]at h;subst h;rfl)
theorem BE(h:bQ P g=some g'):g.status=.running/\g'.status=.running:=by
 have b:=CA h true default;obtain⟨fr,cs,st,c,off⟩:=g;unfold bQ at h;split at h;rotate_left;·cases h
 rename_i a;cases a;refine⟨rfl,?_⟩;revert h;repeat' split
 all_goals intro h
 all_goals first|(cases h;done)|exact Of h|(simp only[Option.some.injEq]at h;subst h;rfl)
theorem aer(h:bQ P g=some g'):ua P g g':=⟨(BE h).1,(BE h).2,CA h⟩
theorem ji.trans:∀{n m:Nat}{a b c:Dm},ji P n a b->ji P m b c->ji P (n+m) a c|0,m,a,b,c,h,k=>by rw[Nat.zero_add];cases h;exact k|n+1,m,a,b,c,⟨g1,h1,d⟩,k=>by rw[Nat.add_right_comm];exact⟨g1,h1,d.trans k⟩
def aa(P:Program)(g g':Dm):Prop:=∃n,ji P n g g'
theorem aa.refl:aa P g g:=⟨0,rfl⟩
theorem aa.trans{a b c:Dm}(h:aa P a b)(k:aa P b c):aa P a c:=let⟨_,x⟩:=h;let⟨_,y⟩:=k;⟨_,x.trans y⟩
theorem cU(h:bQ P g=some g'):aa P g g':=⟨1,g',aer h,rfl⟩
theorem ay(P:Program)(fn d:Nat):∀(n:Nat)(g:Dm),aa P g (aK P fn d n g)|0,g=>.refl|n+1,g=>by unfold aK;cases AP fn d g with|true=>exact .refl|false=>dsimp only;cases a:bQ P g with|none=>exact .refl|some g'=>exact(cU a).trans (ay P fn d n g')
theorem aV(P:Program):∀(n:Nat)(g:Dm),aa P g (aM P n g)|0,g=>.refl|n+1,g=>by unfold aM;cases a:bQ P g with|none=>exact .refl|some g'=>exact(cU a).trans (aV P n g')
def semAt(g:Dm):Option (Sem Next):=match g with|⟨fr,_,.running,none,none⟩=>(match fr.mode,fr.roundOf,fr.kind with|_,_,.early=>none|.run,none,_=>(match fr.todo with|.inRegion ops (i::_)::_=>(match ops[i]? with|some o=>(match Region.wanted o (yielded ops fr.tmps)with|true=>some (execOp fr.eval o)|false=>none)|none=>none)|_=>none)|_,_,_=>none)|_=>none
theorem iC{s:Sem Next}(h:semAt g=some s)(m:Bool)(w:DS):g=R g.frame g.callers/\g.frame.kind≠.early/\(∀d b r a k,g.frame.todo≠.call d b r a::k)/\stepG P m g w=stepG.apply P true g.frame g.callers none s w:=by
 obtain⟨fr,cs,st,n,off⟩:=g;unfold semAt at h;split at h;rotate_left;·cases h
 rename_i fr' q j;cases j;obtain⟨fn,tmps,todo,defers,mode,kind,p⟩:=fr;dsimp only at h;split at h;·cases h
 ·rename_i f;split at h;(·rename_i ops i rest k;cases e:ops[i]? with|none=>rw[e]at h;cases h|some o=>rw[e]at h;dsimp only at h;cases c:Region.wanted o (yielded ops tmps)with|false=>rw[c]at h;cases h|true=>rw[c]at h;simp only[Option.some.injEq]at h;subst h;refine⟨rfl,λl=>f l,by simp,?_⟩;simp[stepG,stepG.exec,stepG.oper,Frame.oper?,e,c]);·cases h
 ·cases h
theorem jN{s:Sem Next}(h:semAt g=some s)(b:s.run P w=.ok (.value v) w')(m:Bool):stepG P m g w=.go (fin g v) w' (seen P g.frame.fn (s.events P w #[])):=by obtain⟨h1,c,_,d⟩:=iC (P:=P) h m w;(have a:(g.frame.kind==CallKind.early)=false:=by simpa using c);rw[d];simp only[stepG.apply,if_true,Sem.runT_eq,b,a,GStep.after,Bool.false_eq_true,if_false,Array.append_empty];rw[h1];rfl
theorem step_skip{s:Sem Next}(h:semAt g=some s)(b:s.run P w=.ok .skip w')(m:Bool):stepG P m g w=.go (fin g undef) w' (seen P g.frame.fn (s.events P w #[])):=by obtain⟨h1,c,_,d⟩:=iC (P:=P) h m w;(have a:(g.frame.kind==CallKind.early)=false:=by simpa using c);rw[d];simp only[stepG.apply,if_true,Sem.runT_eq,b,a,GStep.after,Bool.false_eq_true,if_false,Array.append_empty];rw[h1];rfl
theorem abE{s:Sem Next}(h:semAt g=some s)(b:s.run P w=.halt .blocked w')(m:Bool):stepG P m g w=.go {g with status:=.blocked} w' #[]:=by obtain⟨h1,c,_,a⟩:=iC (P:=P) h m w;rw[a];simp only[stepG.apply,if_true,Sem.runT_eq,b,GStep.after];rw[h1];simp[seen_none]
def cK(P:Program)(f:FuncId)(e:B6->Sem Fi)(q:Bool):Prop:=∃fn,P.funcs[f]?=some fn/\(fn.name== "runtime.NumGoroutine")=false/\fn.body.isNone=true/\Extern.findNext fn=none/\Extern.find fn=some e/\fn.norace=q
section
variable{P:Program}{g:Dm}{f:FuncId}{q:Bool}{e:B6->Sem Fi}{args:B6}{w w':DS}{v:Fi}
theorem je(h:semAt g=some (callFunc f args))(E:cK P f e q)(k:(e args).run P w=.ok v w'){jU:Array Event}(l:(e args).events P w #[⟨.mark (.extern f),false,true⟩]=#[⟨.mark (.extern f),false,true⟩]++jU)(j:∀x∈jU,x.sync=true/\∀g,x.loc≠.mark (.extern g))(m:Bool):stepG P m g w=.go (fin g v) w' jU:=by obtain⟨fn,b,d,c,i,a,_⟩:=E;rw[jN (v:=v) (w':=w') h (by rw[run_callFunc_extern b d c i a,k];rfl),events_callFunc_extern b d c i a];simp only[List.push_toArray,List.nil_append];rw[l,seen_entry _ _ _ j]
theorem jZ{mk:Mark}(b:∀g,mk≠.extern g)(h:semAt g=some (callFunc f args))(E:cK P f (λ_=>do mark mk;pure Extern.Race.none_) q)(m:Bool)(w:DS):stepG P m g w=.go (fin g (.tuple #[])) w #[⟨.mark mk,false,true⟩]:=je h E (by simp[Extern.Race.none_]) (by simp) (by intro x a;simp at a;subst a;exact⟨rfl,λg h=>b g (by cases h;rfl)⟩) m
theorem lD{mk:Addr->Mark}(c:∀ad g,mk ad≠.extern g){ad:Addr}(h:semAt g=some (callFunc f args))(E:cK P f (Extern.Race.marked mk) q)(b:args[0]?=some (.pointer (some ad)))(m:Bool)(w:DS):stepG P m g w=.go (fin g (.tuple #[])) w #[⟨.mark (mk ad),false,true⟩]:=je h E (by simp[Extern.Race.marked,Extern.Race.at_,b,Extern.Race.none_]) (by simp[Extern.Race.marked,Extern.Race.at_,b]) (by intro x a;simp at a;subst a;exact⟨rfl,λg h=>c ad g (Loc.mark.inj h)⟩) m
variable{ad:Addr}{k:IntKind}
theorem uU{d:Int}(h:semAt g=some (callFunc f #[.pointer (some ad),.int k d]))(E:cK P f (Extern.Atomic.update (Op.intArith .add) k true) q)(b:w.cell? ad=some (.int k x))(a:w.frozen? ad=false)(m:Bool):stepG P m g w=.go (fin g (.int k (k.wrap (x+d)))) (w.setCell ad (.int k (k.wrap (x+d)))) #[⟨.cell ad,false,true⟩,⟨.cell ad,true,true⟩]:=je h E (run_add_entry b a) (by rw[events_add_entry b a];rfl) (sync_rw ad) m
theorem sM(h:semAt g=some (callFunc f #[.pointer (some ad),.int k x,.int k n]))(E:cK P f (Extern.Atomic.casT (.int k)) q)(b:w.cell? ad=some (.int k x))(a:w.frozen? ad=false)(m:Bool):stepG P m g w=.go (fin g (.bool true)) (w.setCell ad (.int k n)) #[⟨.cell ad,false,true⟩,⟨.cell ad,true,true⟩]:=je h E (by rw[casT_eq];exact run_cas_hit_entry b a) (by rw[casT_eq,events_cas_hit_entry b a];rfl) (sync_rw ad) m
theorem qE(h:semAt g=some (callFunc f #[.pointer (some ad),.int k y,.int k n]))(E:cK P f (Extern.Atomic.casT (.int k)) q)(b:w.cell? ad=some (.int k x))(c:w.frozen? ad=false)(a:¬x=y)(m:Bool):stepG P m g w=.go (fin g (.bool false)) w #[⟨.cell ad,false,true⟩]:=je h E (by rw[casT_eq];exact run_cas_miss_entry b c a) (by rw[casT_eq,events_cas_miss_entry b c a];rfl) (sync_r ad) m
theorem AB(h:semAt g=some (callFunc f #[.pointer (some ad)]))(E:cK P f (Extern.Atomic.loadT (.int k)) q)(a:w.cell? ad=some (.int k x))(m:Bool):stepG P m g w=.go (fin g (.int k x)) w #[⟨.cell ad,false,true⟩]:=by refine je h E ?_ ?_ (sync_r ad) m;(·change Sem.run P (do Extern.Atomic.read (.int k) (<-asAddr (.pointer (some ad)))) w=_;simp[Extern.Atomic.read,asAddr,a]);·change Sem.events P (do Extern.Atomic.read (.int k) (<-asAddr (.pointer (some ad)))) w _=_;simp[Extern.Atomic.read,asAddr,a,events_load]
theorem Vg {u : Fi} (h : semAt g = some (callFunc f #[.pointer (some ad), .int k y])) (E : cK P f Extern.Atomic.storeT q) (b : w.cell? ad = some u) (c : w.frozen? ad = false) (m : Bool) :
    stepG P m g w = .go (fin g (.tuple #[])) (w.setCell ad (.int k y)) #[⟨.cell ad, true, true⟩] := by
  refine je h E ?_ ?_ (fun x a => by simp at a; subst a; exact ⟨rfl, fun g h => by cases h⟩) m
  · change Sem.run P (do
      store (← asAddr (.pointer (some ad))) (.int k y) .atomic
      pure Extern.Atomic.none_) w = _
    simp [asAddr, b, c, Extern.Atomic.none_, run_store P w ad (.int k y) .atomic rfl, Result.andThen]
  · change Sem.events P (do
      store (← asAddr (.pointer (some ad))) (.int k y) .atomic
      pure Extern.Atomic.none_) w _ = _
    simp [asAddr, b, c, events_store P w _ ad (.int k y) .atomic rfl]
theorem Ek(h:semAt g=some (callFunc f args))(E:cK P f Extern.Sync.semacquire q)(b:args[0]?=some (.pointer (some ad)))(c:w.cell? ad=some (.int .u32 n))(d:n≠0)(a:w.frozen? ad=false)(m:Bool):stepG P m g w=.go (fin g (.tuple #[])) (w.setCell ad (.int .u32 (n-1))) (semEvents ad):=je h E (by simp[Extern.Sync.semacquire,Extern.Sync.count,b,c,d,a,Extern.Sync.none_,run_store P w ad (.int .u32 (n-1)) .atomic rfl,Result.andThen]) (by simp[Extern.Sync.semacquire,Extern.Sync.count,b,c,d,a,semEvents,events_load,events_store P w _ ad (.int .u32 (n-1)) .atomic rfl,run_store P w ad (.int .u32 (n-1)) .atomic rfl,Result.evThen]) (semEvents_sync ad) m
theorem EV(h:semAt g=some (callFunc f args))(E:cK P f Extern.Sync.semacquire q)(b:args[0]?=some (.pointer (some ad)))(c:w.cell? ad=some (.int .u32 0))(m:Bool):stepG P m g w=.go {g with status:=.blocked} w #[]:=by obtain⟨fn,d,e,i,j,a,_⟩:=E;refine abE h ?_ m;rw[run_callFunc_extern d e i j a];simp[Extern.Sync.semacquire,Extern.Sync.count,b,c]
theorem wM(h:semAt g=some (callFunc f args))(E:cK P f Extern.Sync.semrelease q)(b:args[0]?=some (.pointer (some ad)))(c:w.cell? ad=some (.int .u32 n))(a:w.frozen? ad=false)(m:Bool):stepG P m g w=.go (fin g (.tuple #[])) (w.setCell ad (.int .u32 (IntKind.u32.wrap (n+1)))) (semEvents ad):=je h E (by simp[Extern.Sync.semrelease,Extern.Sync.count,b,c,a,Extern.Sync.none_,Op.intArith,run_store P w ad (.int .u32 (IntKind.u32.wrap (n+1))) .atomic rfl,Result.andThen]) (by simp[Extern.Sync.semrelease,Extern.Sync.count,b,c,a,semEvents,Op.intArith,events_load,events_store P w _ ad (.int .u32 (IntKind.u32.wrap (n+1))) .atomic rfl,run_store P w ad (.int .u32 (IntKind.u32.wrap (n+1))) .atomic rfl,Result.evThen]) (semEvents_sync ad) m
theorem Dk(h:semAt g=some (callFunc f args))(E:cK P f Extern.OsHooks.nano true)(m:Bool)(w:DS):stepG P m g w=.go (fin g (.int .i64 ((w.os.mono+w.tick:Nat):Int))) w.later #[]:=by obtain⟨fn,a,c,e,b,d,j⟩:=E;have k:(Extern.OsHooks.nano args).run P w=.ok (.int .i64 ((w.os.mono+w.tick:Nat):Int)) w.later:=rfl;rw[jN (v:=.int .i64 ((w.os.mono+w.tick:Nat):Int)) (w':=w.later) h (by rw[run_callFunc_extern a c e b d,k];rfl),events_callFunc_extern a c e b d];simp only[List.push_toArray,List.nil_append];have i:(Extern.OsHooks.nano args).events P w #[⟨.mark (.extern f),false,true⟩]=#[⟨.mark (.extern f),false,true⟩]++#[⟨.output,true,false⟩]:=rfl;rw[i,seen_entry_out _ _ (by rw[a];exact j)]
theorem KM(h:semAt g=some (callFunc f #[.int k n]))(E:cK P f Extern.Sync.canSpin q)(a:4<=n)(m:Bool)(w:DS):stepG P m g w=.go (fin g (.bool false)) w #[]:=je h E (by rw[canSpin_eq,if_pos a];rfl) (jU:=#[]) (by rw[canSpin_eq,if_pos a];rfl) (by simp) m
theorem UY(h:semAt g=some (callFunc f #[.int k n]))(E:cK P f Extern.Sync.canSpin q)(b:n<4)(m:Bool)(w:DS):stepG P m g w=.go (fin g (.bool w.spins)) w.asked #[]:=by
 have a:¬(n>=4):=by omega
 refine je h E (v:=.bool w.spins) (w':=w.asked) (jU:=#[]) ?_ ?_ (by simp) m;·rw[canSpin_eq,if_neg a];rfl
 ·rw[canSpin_eq,if_neg a];rfl
def Ks:TypeDesc->Bool|.struct _|.array _ _=>true|_=>false
theorem tv{d:TypeDesc}{x:Fi}(b:P.underlying t=some d)(c:Ks d=false)(a:w.cell? ad=some x):(Instr.loadAt t (.pointer (some ad))).run P w=.ok x w:=by cases d<;>simp[Ks]at c<;>simp[Instr.loadAt,Instr.sureAddr,loadVar,isAgg,underlying,b,a]
theorem qI{d:TypeDesc}{x:Fi}(b:P.underlying t=some d)(c:Ks d=false)(e:w.cell? ad=some x)(a:Array Event):(Instr.loadAt t (.pointer (some ad))).events P w a=a.push ⟨.cell ad,false,false⟩:=by cases d<;>simp[Ks]at c<;>simp[Instr.loadAt,Instr.sureAddr,loadVar,isAgg,underlying,b,e]<;>rfl
theorem WK{d:TypeDesc}{x:Fi}(h:semAt g=some (do pure (.value (<-Instr.loadAt t (.pointer (some ad))))))(b:P.underlying t=some d)(c:Ks d=false)(a:w.cell? ad=some x)(m:Bool):stepG P m g w=.go (fin g x) w (seen P g.frame.fn #[⟨.cell ad,false,false⟩]):=by rw[jN (v:=x) (w':=w) h (by simp[tv b c a])];simp[qI b c a]
theorem oP{d:TypeDesc}{x:Fi}(h:semAt g=some (do pure (.value (<-Instr.loadAt t (.pointer (some ad))))))(b:P.underlying t=some d)(c:Ks d=false)(e:w.cell? ad=some x)(a:(P.funcs[g.frame.fn]?).any (·.norace)=true)(m:Bool):stepG P m g w=.go (fin g x) w #[]:=by rw[WK h b c e,seen_def,a];rfl
end
end Kw
namespace Kl
open Conc Kw Ph
set_option maxRecDepth 100000
def land(a b:Int):Int:=IntKind.i32.wrap (BitVec.ofInt 32 a&&&BitVec.ofInt 32 b).toNat
def lor(a b:Int):Int:=IntKind.i32.wrap (BitVec.ofInt 32 a|||BitVec.ofInt 32 b).toNat
def zs(a b:Int):Int:=IntKind.i32.wrap (BitVec.ofInt 32 a&&&~~~BitVec.ofInt 32 b).toNat
def C4(p:Wd->Bool):Bool:=(List.range 2).all λl=>(List.range 2).all λk=>(List.range 2).all λs=>(List.range 64).all λw=>p ⟨l,k,s,w⟩
theorem fH{p:Wd->Bool}(h:C4 p=true){x:Wd}(b:x.l<=1/\x.k<=1/\x.s<=1/\x.w<=63):p x=true:=by obtain⟨l,k,s,w⟩:=x;obtain⟨h1,c,d,a⟩:=b;unfold C4 at h;simp only[List.all_eq_true,List.mem_range]at h;dsimp only at h1 c d a;exact h l (by omega) k (by omega) s (by omega) w (by omega)
def Sm(x:Wd):Prop:=x.l<=1/\x.k<=1/\x.s<=1/\x.w<=63
theorem fG{x:Wd}(h:x.ok):Sm x:=⟨h.1,h.2.1,h.2.2.1,Nat.le_trans h.2.2.2 (by decide)⟩
section
variable{x:Wd}(h:Sm x)
include h
theorem uO:land x.val 5=x.l+4*x.s:=by simpa using fH (p:=λx=>land x.val 5==x.l+4*x.s) (by kernel_rfl) h
theorem wu:land x.val 4=4*x.s:=by simpa using fH (p:=λx=>land x.val 4==4*x.s) (by kernel_rfl) h
theorem X3:land x.val 1=x.l:=by simpa using fH (p:=λx=>land x.val 1==x.l) (by kernel_rfl) h
theorem Dc:land x.val 2=2*x.k:=by simpa using fH (p:=λx=>land x.val 2==2*x.k) (by kernel_rfl) h
theorem Vb:land x.val 3=x.l+2*x.k:=by simpa using fH (p:=λx=>land x.val 3==x.l+2*x.k) (by kernel_rfl) h
theorem XP:land x.val 7=x.l+2*x.k+4*x.s:=by simpa using fH (p:=λx=>land x.val 7==x.l+2*x.k+4*x.s) (by kernel_rfl) h
theorem vg:x.val.fdiv (2^3)=x.w:=eq_of_beq (fH (p:=λx=>x.val.fdiv (2^3)==x.w) (by kernel_rfl) h)
theorem SV:lor x.val 1=({x with l:=1}:Wd).val:=by simpa using fH (p:=λx=>lor x.val 1==({x with l:=1}:Wd).val) (by kernel_rfl) h
theorem JJ:lor x.val 2=({x with k:=1}:Wd).val:=by simpa using fH (p:=λx=>lor x.val 2==({x with k:=1}:Wd).val) (by kernel_rfl) h
theorem or4:lor x.val 4=({x with s:=1}:Wd).val:=by simpa using fH (p:=λx=>lor x.val 4==({x with s:=1}:Wd).val) (by kernel_rfl) h
theorem RJ:zs x.val 2=({x with k:=0}:Wd).val:=by simpa using fH (p:=λx=>zs x.val 2==({x with k:=0}:Wd).val) (by kernel_rfl) h
theorem NH:IntKind.i32.wrap (x.val+8)=({x with w:=x.w+1}:Wd).val:=by simpa using fH (p:=λx=>IntKind.i32.wrap (x.val+8)==({x with w:=x.w+1}:Wd).val) (by kernel_rfl) h
theorem Ny(a:1<=x.w):IntKind.i32.wrap (x.val-8)=({x with w:=x.w-1}:Wd).val:=by have:=fH (p:=λx=>x.w==0||IntKind.i32.wrap (x.val-8)==({x with w:=x.w-1}:Wd).val) (by kernel_rfl) h;(have h0:¬x.w=0:=by omega);simpa[h0]using this
theorem ahc(a:x.l=1):IntKind.i32.wrap (x.val+-1)=({x with l:=0}:Wd).val:=by have:=fH (p:=λx=>x.l==0||IntKind.i32.wrap (x.val+-1)==({x with l:=0}:Wd).val) (by kernel_rfl) h;(have h0:¬x.l=0:=by omega);simpa[h0]using this
theorem aei(a:x.l=0):land (IntKind.i32.wrap (x.val+1)) 1=1:=by have:=fH (p:=λx=>x.l==1||land (IntKind.i32.wrap (x.val+1)) 1==1) (by kernel_rfl) h;simpa[a]using this
theorem ZN(a:x.l=0)(b:1<=x.w):IntKind.i32.wrap (x.val+-7)=({x with l:=1,w:=x.w-1}:Wd).val:=by have:=fH (p:=λx=>x.l==1||x.w==0||IntKind.i32.wrap (x.val+-7)==({x with l:=1,w:=x.w-1}:Wd).val) (by kernel_rfl) h;(have h0:¬x.w=0:=by omega);simpa[a,h0]using this
theorem adJ(b:x.l=0)(a:x.s=1)(c:1<=x.w):IntKind.i32.wrap (x.val+-11)=({x with l:=1,s:=0,w:=x.w-1}:Wd).val:=by have:=fH (p:=λx=>x.l==1||x.s==0||x.w==0||IntKind.i32.wrap (x.val+-11)==({x with l:=1,s:=0,w:=x.w-1}:Wd).val) (by kernel_rfl) h;(have h0:¬x.w=0:=by omega);simpa[b,h0,a]using this
end
theorem val_inj{x y:Wd}(b:Sm x)(a:Sm y)(h:x.val=y.val):x=y:=by obtain⟨l,k,s,w⟩:=x;obtain⟨l',k',s',w'⟩:=y;simp only[Wd.val]at h;simp only[Sm]at b a;simp only[Wd.mk.injEq];omega
section
variable{P:Program}{g:Dm}
theorem sB{s:Sem Next}(h:semAt g=some s)(c:calm? P s=some (.value v)):ua P g (fin g v):=by have h0:=iC (P:=P) h true default;(have a:g.status=.running:=by rw[h0.1]);refine⟨a,a,λm w=>?_⟩;obtain⟨h1,_,d,b⟩:=iC (P:=P) h m w;rw[b];refine zg d c ?_ w;show some (R (g.frame.finish v) g.callers)=some (fin g v);rw[h1];rfl
theorem ah{fn d n:Nat}{s:Sem Next}(h:semAt (aK P fn d n g)=some s)(a:calm? P s=some (.value v)):aa P g (fin (aK P fn d n g) v):=(ay P fn d n g).trans ⟨1,_,sB h a,rfl⟩
variable{t:TypeId}{a b:Int}
theorem gu(h:land a b=r):calm? (α:=Next) P (do pure (.value (<-Go.binOp .and t (.int .i32 a) (.int .i32 b))))=some (.value (.int .i32 r)):=by subst h;rfl
theorem tX(h:lor a b=r):calm? (α:=Next) P (do pure (.value (<-Go.binOp .or t (.int .i32 a) (.int .i32 b))))=some (.value (.int .i32 r)):=by subst h;rfl
theorem KV(h:zs a b=r):calm? (α:=Next) P (do pure (.value (<-Go.binOp .andNot t (.int .i32 a) (.int .i32 b))))=some (.value (.int .i32 r)):=by subst h;rfl
theorem xg(k:IntKind)(h:k.wrap (a+b)=r):calm? (α:=Next) P (do pure (.value (<-Go.binOp .add t (.int k a) (.int k b))))=some (.value (.int k r)):=by subst h;cases k<;>rfl
theorem yC(k:IntKind)(h:k.wrap (a-b)=r):calm? (α:=Next) P (do pure (.value (<-Go.binOp .sub t (.int k a) (.int k b))))=some (.value (.int k r)):=by subst h;cases k<;>rfl
theorem tJ(h:a.fdiv (2^3)=r):calm? (α:=Next) P (do pure (.value (<-Go.binOp .shr t (.int .i32 a) (.int .i64 3))))=some (.value (.int .i32 r)):=by subst h;rfl
theorem cJ(k:IntKind){r:Bool}(h:(a==b)=r):calm? (α:=Next) P (do pure (.value (<-Go.binOp .eql t (.int k a) (.int k b))))=some (.value (.bool r)):=by subst h;cases k<;>rfl
theorem dO(k:IntKind){r:Bool}(h:(a !=b)=r):calm? (α:=Next) P (do pure (.value (<-Go.binOp .neq t (.int k a) (.int k b))))=some (.value (.bool r)):=by subst h;cases k<;>rfl
theorem pE(k:IntKind){r:Bool}(h:decide (a>b)=r):calm? (α:=Next) P (do pure (.value (<-Go.binOp .gtr t (.int k a) (.int k b))))=some (.value (.bool r)):=by subst h;cases k<;>rfl
end
end Kl
namespace Kl
open Conc Kw
set_option maxRecDepth 100000
structure Lk where
 b:Nat
 o:Nat
 c:Frame
 cs:B8
 ws:Int:=0
 sv:Bool:=false
 aw:Bool:=false
 it:Int:=0
 old:Int:=0
 v7:Fi:=undef
 v9:Fi:=undef
 J:Nat->Fi:=λ_=>undef
abbrev Lk.m(q:Lk):Fi:=.pointer (some ⟨q.b,q.o,none⟩)
def gy(q:Lk):B6:=#[q.m,q.J 1,.int .i64 q.ws,.bool q.sv,.bool q.aw,.int .i64 q.it,.int .i32 q.old,q.v7,q.J 8,q.v9,q.J 10,q.J 11,q.J 12,q.J 13,q.J 14,q.J 15,q.J 16,q.J 17,q.J 18,q.J 19,q.J 20,q.J 21,q.J 22,q.J 23,q.J 24,q.J 25,q.J 26,q.J 27,q.J 28,q.J 29,q.J 30,q.J 31,q.J 32,q.J 33,q.J 34,q.J 35,q.J 36,q.J 37,q.J 38,q.J 39,q.J 40,q.J 41,q.J 42,q.J 43,q.J 44,q.J 45,q.J 46,q.J 47,q.J 48,q.J 49,q.J 50,q.J 51,q.J 52,q.J 53,q.J 54,q.J 55,q.J 56,q.J 57,q.J 58,q.J 59,q.J 60,q.J 61,q.J 62,q.J 63,q.J 64,q.J 65,q.J 66,q.J 67,q.J 68,q.J 69,q.J 70,q.J 71,q.J 72,q.J 73,q.J 74,q.J 75,q.J 76,q.J 77,q.J 78,q.J 79,q.J 80,q.J 81,q.J 82,q.J 83,q.J 84,q.J 85,q.J 86,q.J 87,q.J 88,q.J 89,q.J 90,q.J 91,q.J 92,q.J 93,q.J 94,q.J 95,q.J 96,q.J 97,q.J 98,q.J 99,q.J 100,q.J 101,q.J 102,q.J 103,q.J 104,q.J 105,q.J 106,q.J 107,q.J 108,q.J 109,q.J 110,q.J 111,q.J 112,q.J 113,q.J 114,q.J 115,q.J 116,q.J 117,q.J 118,q.J 119,q.J 120,q.J 121,q.J 122,q.J 123,q.J 124,q.J 125,q.J 126,q.J 127,q.J 128,q.J 129,q.J 130,q.J 131,q.J 132,q.J 133,q.J 134,q.J 135,q.J 136,q.J 137,q.J 138]
def eG(g:Dm)(ts:B6):Dm:={g with frame:={g.frame with tmps:=ts}}
def ak(g:Dm)(i:Nat):Fi:=g.frame.tmps.getD i undef
noncomputable def ko(q:Lk):Dm:=R (Frame.enter prog 173 #[q.m] .normal) (q.c::q.cs)
noncomputable def tl(d n:Nat)(g:Dm):Dm:=aK prog 224 d n g
noncomputable def Ld(q:Lk):Dm:=aK prog 203 2 50 (ko q)
theorem Ce(q:Lk):semAt (Ld q)=some (callFunc 122 #[]):=by kernel_rfl
noncomputable def L0(q:Lk):Dm:=aK prog 203 6 50 (fin (Ld q) (.tuple #[]))
theorem qA(q:Lk):semAt (L0 q)=some (callFunc 223 #[q.m,.int .i32 0,.int .i32 1]):=by kernel_rfl
noncomputable def j7(q:Lk):Dm:=aK prog 203 7 50 (fin (L0 q) (.bool true))
theorem DK(q:Lk):semAt (j7 q)=some (callFunc 123 #[]):=by kernel_rfl
noncomputable def fO(q:Lk):Dm:=aK prog 203 9 50 (fin (j7 q) (.tuple #[]))
theorem qC(q:Lk):semAt (fO q)=some (do pure (.value (<-convert 263 189 q.m))):=by kernel_rfl
noncomputable def kV(q:Lk):Dm:=aK prog 203 10 50 (fin (fO q) q.m)
theorem Dx(q:Lk):semAt (kV q)=some (callFunc 136 #[q.m]):=by kernel_rfl
noncomputable def R0(q:Lk):Dm:=aK prog 224 13 50 (fin (L0 q) (.bool false))
theorem uD(q:Lk):semAt (R0 q)=some (do pure (.value (<-Instr.loadAt 21 q.m))):=by kernel_rfl
theorem ZV(q:Lk):aM prog 6 (fin (kV q) (.tuple #[]))=R (q.c.finish (.tuple #[])) q.cs:=by kernel_rfl
def h0(q:Lk):Dm:=tl 14 60 (fin (R0 q) (.int .i32 0))
def h1(q:Lk):Dm:=tl 14 60 (fin (R0 q) (.int .i32 1))
def T8(q:Lk):Dm:=tl 43 60 (fin (tl 19 40 (h1 q)) (.bool true))
def zA(q:Lk):Dm:=tl 80 200 (fin (tl 19 40 (h1 q)) (.bool false))
def Bn(q:Lk):Dm:=tl 89 20 (fin (tl 88 60 (fin (zA q) (.bool true))) (.int .i64 0))
def Cf(q:Lk):Dm:=tl 94 20 (fin (tl 93 20 (Bn q)) (.tuple #[]))
def BN(q:Lk):Dm:=tl 101 40 (fin (tl 96 20 (Cf q)) (.int .i64 0))
def acw(q:Lk):Dm:=tl 126 90 (fin (tl 104 20 (BN q)) (.int .i32 12))
def RG(q:Lk):Dm:=tl 135 60 (fin (tl 80 200 (h0 q)) (.bool true))
def A(q:Lk):Dm:=eG (h0 q) (gy q)
def gJ(q:Lk):Dm:=eG (T8 q) (gy q)
def B(q:Lk):Dm:=eG (tl 49 60 (h0 q)) (gy q)
def C(q:Lk):Dm:=eG (tl 55 90 (h0 q)) (gy q)
def D(q:Lk):Dm:=eG (tl 60 120 (h0 q)) (gy q)
def E(q:Lk):Dm:=eG (tl 68 160 (h0 q)) (gy q)
def F(q:Lk):Dm:=eG (tl 75 200 (h0 q)) (gy q)
def qU(q:Lk):Dm:=eG (tl 81 20 (fin (zA q) (.bool true))) (gy q)
def np(q:Lk):Dm:=eG (Bn q) (gy q)
def oi(q:Lk):Dm:=eG (Cf q) (gy q)
def nG(q:Lk):Dm:=eG (BN q) (gy q)
def kP(q:Lk):Dm:=eG (acw q) (gy q)
def sf(q:Lk):Dm:=eG (tl 131 20 (fin (zA q) (.bool false))) (gy q)
def iP(q:Lk):Dm:=eG (RG q) (gy q)
end Kl
namespace Kw
open Conc
def mw(md:Region.Mode)(ops:Array Oper):Nat->Array Bool->List (List Nat)|0,_=>[[]]|n+1,listed=>match Region.ready md ops listed with|[]=>[[]]|i::is=>(i::is).flatMap λj=>(mw md ops n (listed.setIfInBounds j true)).map (j::·)
theorem Ad(md:Region.Mode)(ops:Array Oper):∀(n t:Nat)(a:Array Bool),Region.linearise.go md ops n t a []∈mw md ops n a:=by intro n;induction n with|zero=>intro t a;simp[Region.linearise.go,mw]|succ n f=>intro t a;(have g:∀rs,Region.ready md ops a=rs->Region.linearise.go md ops (n+1) t a []∈mw md ops (n+1) a:=by intro rs d;(have e:Region.linearise.go md ops (n+1) t a []=match rs[t%rs.length]? with|some i=>Region.linearise.go md ops n (t/rs.length) (a.setIfInBounds i true) [i]|none=>[]:=by subst d;rfl);rw[e];unfold mw;rw[d];cases rs with|nil=>simp|cons i c=>have b:t%(i::c).length<(i::c).length:=Nat.mod_lt _ (by simp);rw[List.getElem?_eq_getElem b];dsimp only;rw[linearise_go_acc];refine List.mem_flatMap.2 ⟨_,List.getElem_mem b,List.mem_map.2 ⟨_,f _ _,rfl⟩⟩);exact g _ rfl
def yb(mixed:Bool)(ops:Array Oper):List (List Nat):=if mixed||!Region.departs ops then mw .any ops ops.size (Array.replicate ops.size false)else mw .text ops ops.size (Array.replicate ops.size false)++mw .gc ops ops.size (Array.replicate ops.size false)
theorem Sy(mixed:Bool)(ops:Array Oper)(t:Nat):Region.schedule mixed ops t∈yb mixed ops:=by unfold Region.schedule yb;split;(·exact Ad _ _ _ _ _);·split;(·exact List.mem_append.2 (.inl (Ad _ _ _ _ _)));·exact List.mem_append.2 (.inr (Ad _ _ _ _ _))
def da(g:Dm):Option (Array Oper):=match g with|⟨fr,_,.running,none,none⟩=>(match fr.mode,fr.roundOf,fr.todo with|.run,none,.code (.region _ ops true)::_=>some ops|_,_,_=>none)|_=>none
def drawn(g:Dm)(ops:Array Oper)(l:List Nat):Dm:={g with frame:={g.frame with todo:=.inRegion ops l::g.frame.todo.tail}}
theorem vZ(h:da g=some ops)(m:Bool)(w:DS):g.status=.running/\∃l,l∈yb (P.follows .mixedOrders) ops/\(drawn g ops l).status=.running/\stepG P m g w=.go (drawn g ops l) {w with drawn:=w.drawn+1} #[]:=by
 obtain⟨fr,cs,st,d,off⟩:=g;unfold da at h;split at h;rotate_left;·cases h
 rename_i fr' c b;cases b;obtain⟨fn,tmps,todo,defers,mode,kind,e⟩:=fr;dsimp only at h;split at h;rotate_left;·cases h
 rename_i a ops k;simp only[Option.some.injEq]at h;subst h;refine⟨rfl,_,Sy (P.follows .mixedOrders) _ (w.tape w.drawn (.order fn a)),rfl,?_⟩;simp[stepG,stepG.exec,choose,Sem.run,Question.forced,Question.cut,drawn]
def owner(ops:Array Oper)(t:Nat):Option Nat:=(List.range ops.size).find? λi=>match(ops[i]?).bind (·.dst)with|some d=>d==t|none=>false
def gf(base:B6)(ops:Array Oper)(V:Nat->Fi)(D:Array Bool):B6:=base.mapIdx λt v=>match owner ops t with|some i=>(match D.getD i false with|true=>V i|false=>v)|none=>v
def ZK:Op->Bool|.select _ _=>false|_=>true
def sound(ops:Array Oper):Bool:=(List.range ops.size).all λi=>match ops[i]? with|none=>false|some o=>o.guard.isNone&&ZK o.op&&(match o.dst with|some d=>owner ops d==some i|none=>true)&&(o.op.operands.all λx=>match x with|.tmp t=>(match owner ops t with|some j=>o.after.any λe=>Region.binds .any e&&e.on==j|none=>true)|_=>true)&&(o.after.all λe=>!Region.binds .any e||decide (e.on<i))
structure aap(ops:Array Oper)(i:Nat)(o:Oper):Prop where
 guard:o.guard=none
 Dv:∀cs b,o.op≠.select cs b
 dst:∀d,o.dst=some d->owner ops d=some i
 VB:∀t,Operand.tmp t∈o.op.operands->∀j,owner ops t=some j->∃e∈o.after,Region.binds .any e=true/\e.on=j
 low:∀e∈o.after,Region.binds .any e=true->e.on<i
theorem ri(h:sound ops=true){o:Oper}(f:ops[i]?=some o):aap ops i o:=by
 have r:i<ops.size:=(Array.getElem?_eq_some_iff.1 f).1;have:=List.all_eq_true.1 h i (List.mem_range.2 r);rw[f]at this;simp only[Bool.and_eq_true]at this;obtain⟨⟨⟨⟨h1,g⟩,k⟩,l⟩,m⟩:=this;refine⟨by simpa using h1,λcs b e=>(by rw[e]at g;cases g),λd n=>?_,λt p j q=>?_,λe a s=>?_⟩;·rw[n]at k;exact eq_of_beq k
 ·have:=Array.all_eq_true_iff_forall_mem.1 l _ p;dsimp only at this;rw[q]at this;obtain⟨e,a,c⟩:=Array.any_eq_true'.1 this;simp only[Bool.and_eq_true,beq_iff_eq]at c;exact⟨e,a,c.1,c.2⟩
 ·have:=Array.all_eq_true_iff_forall_mem.1 m _ a;rw[s]at this;simpa using this
theorem xk{t:Nat}(h:owner ops t=some i):∃o,ops[i]?=some o/\o.dst=some t:=by have:=List.find?_some h;cases b:ops[i]? with|none=>simp[b]at this|some o=>cases a:o.dst with|none=>simp[b,a]at this|some d=>simp[b,a]at this;subst this;exact⟨o,rfl,a⟩
def stA(g:Dm)(ops:Array Oper)(V:Nat->Fi)(D:Array Bool)(l:List Nat):Dm:={g with frame:={g.frame with tmps:=gf g.frame.tmps ops V D,todo:=.inRegion ops l::g.frame.todo.tail}}
def bG(g:Dm)(ops:Array Oper)(V:Nat->Fi):Dm:={g with frame:={g.frame with tmps:=gf g.frame.tmps ops V (Array.replicate ops.size true),todo:=g.frame.todo.tail}}
section
variable{ops:Array Oper}{V:Nat->Fi}{D:Array Bool}{g:Dm}{i:Nat}{o:Oper}{rest:List Nat}
theorem aia(h:sound ops=true)(e:ops[i]?=some o)(r:D.size=ops.size)(base:B6):(match o.dst with|some d=>(gf base ops V D).setIfInBounds d (V i)|none=>gf base ops V D)=gf base ops V (D.setIfInBounds i true):=by
 have s:i<ops.size:=(Array.getElem?_eq_some_iff.1 e).1;have m:=ri h e;have k:∀j,j≠i->(D.setIfInBounds i true).getD j false=D.getD j false:=λj a=>by rw[Array.getD_eq_getD_getElem?,Array.getD_eq_getD_getElem?,Array.getElem?_setIfInBounds_ne (Ne.symm a)]
 have q:(D.setIfInBounds i true).getD i false=true:=by rw[Array.getD_eq_getD_getElem?,Array.getElem?_setIfInBounds_self_of_lt (by omega)];rfl
 cases f:o.dst with|none=>(dsimp only;unfold gf;refine Array.ext (by simp) λt h1 p=>?_;simp only[Array.getElem_mapIdx];cases g:owner ops t with|none=>rfl|some j=>(have a:j≠i:=by rintro rfl;obtain⟨n,b,c⟩:=xk g;rw[e]at b;cases b;rw[f]at c;cases c);dsimp only;rw[k j a])|some d=>have l:=m.dst d f;dsimp only;unfold gf;refine Array.ext (by simp) λt h1 p=>?_;rw[Array.getElem_setIfInBounds (by simpa using h1)];simp only[Array.getElem_mapIdx];by_cases ht:d=t;(·subst ht;rw[if_pos rfl,l];dsimp only;rw[q]);·rw[if_neg ht];cases g:owner ops t with|none=>rfl|some j=>(have a:j≠i:=by rintro rfl;obtain⟨n,b,c⟩:=xk g;rw[e]at b;cases b;rw[f]at c;cases c;exact ht rfl);dsimp only;rw[k j a]
theorem jD(h:sound ops=true)(c:ops[i]?=some o)(e:D.size=ops.size):fin (stA g ops V D (i::rest)) (V i)=stA g ops V (D.setIfInBounds i true) rest:=by unfold fin stA Frame.finish;dsimp only;rw[c];have a:=aia (V:=V) h c e g.frame.tmps;cases b:o.dst with|none|some d=>rw[b]at a;simp only[Option.bind,b];rw[<-a]
theorem Dd(h:sound ops=true)(a:ops[i]?=some o)(c:D.size=ops.size)(b:o.dst=none)(v:Fi):fin (stA g ops V D (i::rest)) v=stA g ops V (D.setIfInBounds i true) rest:=by rw[<-jD (V:=V) h a c];unfold fin stA Frame.finish;dsimp only;rw[a];simp only[Option.bind,b]
theorem Xc(h:sound ops=true)(d:ops[i]?=some o)(k:∀e∈o.after,Region.binds .any e=true->D.getD e.on false=true)(l:List Nat):execOp (stA g ops V D l).frame.eval o=execOp (bG g ops V).frame.eval o:=by have b:=ri h d;refine execOp_congr o b.Dv λx f=>?_;cases x with|tmp t=>(show(gf g.frame.tmps ops V D).getD t undef=(gf g.frame.tmps ops V _).getD t undef;rw[Array.getD_eq_getD_getElem?,Array.getD_eq_getD_getElem?];unfold gf;rw[Array.getElem?_mapIdx,Array.getElem?_mapIdx];cases a:owner ops t with|none=>rfl|some j=>obtain⟨e,m,n,p⟩:=b.VB t f j a;have h1:=k e m n;rw[p]at h1;(have q:j<ops.size:=by obtain⟨s,r,_⟩:=xk a;exact(Array.getElem?_eq_some_iff.1 r).1);(have c:(Array.replicate ops.size true).getD j false=true:=by rw[Array.getD_eq_getD_getElem?,Array.getElem?_replicate,if_pos q];rfl);dsimp only;rw[h1,c])|_=>rfl
theorem jC(a:da g=some ops)(c:g.frame.kind≠.early)(h:sound ops=true)(b:ops[i]?=some o)(j:∀e∈o.after,Region.binds .any e=true->D.getD e.on false=true):semAt (stA g ops V D (i::rest))=some (execOp (bG g ops V).frame.eval o):=by
 rw[<-Xc h b j (i::rest)];have d:=ri h b;obtain⟨fr,cs,st,m,off⟩:=g;unfold da at a;split at a;rotate_left;·cases a
 rename_i fr' l f;cases f;obtain⟨fn,tmps,todo,defers,mode,kind,k⟩:=fr;dsimp only at a c;split at a;rotate_left;·cases a
 cases kind<;>first|exact absurd rfl c|(simp only[semAt,stA,b];unfold Region.wanted;rw[d.guard])
theorem rC(d:da g=some ops)(c:g.frame.kind≠.early)(h:sound ops=true)(a:ops[i]?=some o)(f:D.size=ops.size)(j:∀e∈o.after,Region.binds .any e=true->D.getD e.on false=true)(b:calm? P (execOp (bG g ops V).frame.eval o)=some (.value (V i))):aa P (stA g ops V D (i::rest)) (stA g ops V (D.setIfInBounds i true) rest):=by rw[<-jD h a f];exact⟨1,_,Kl.sB (jC d c h a j) b,rfl⟩
theorem BU(a:da g=some ops):aa P (stA g ops V (Array.replicate ops.size true) []) (bG g ops V):=by
 obtain⟨fr,cs,st,e,off⟩:=g;unfold da at a;split at a;rotate_left;·cases a
 rename_i fr' d b;cases b;obtain⟨fn,tmps,todo,defers,mode,kind,c⟩:=fr;dsimp only at a;split at a;rotate_left;·cases a
 exact cU rfl
theorem Fj(l:List Nat):drawn g ops l=stA g ops V (Array.replicate ops.size false) l:=by unfold drawn stA;(have:gf g.frame.tmps ops V (Array.replicate ops.size false)=g.frame.tmps:=by unfold gf;refine Array.ext (by simp) λt h1 a=>?_;simp only[Array.getElem_mapIdx];cases owner ops t with|none=>rfl|some j=>(have:(Array.replicate ops.size false).getD j false=false:=by rw[Array.getD_eq_getD_getElem?,Array.getElem?_replicate];split<;>rfl);dsimp only;rw[this]);rw[this]
theorem BB(h:sound ops=true)(g:D.size=ops.size)(k:Region.ready .any ops D=[]):D=Array.replicate ops.size true:=by(have l:∀i,i<ops.size->D.getD i true=true:=by intro i;induction i using Nat.strongRecOn with|ind i f=>intro b;refine Classical.byContradiction λd=>?_;(have a:i∈Region.ready .any ops D:=by unfold Region.ready;refine List.mem_filter.2 ⟨List.mem_range.2 b,?_⟩;have c:ops[i]?=some ops[i]:=Array.getElem?_eq_getElem b;rw[c];simp only[Option.map_some,Option.getD_some,Bool.and_eq_true,Bool.not_eq_true'];refine⟨by simpa using d,Array.all_eq_true_iff_forall_mem.2 λe j=>?_⟩;cases m:Region.binds .any e with|false=>rfl|true=>have n:=(ri h c).low e j m;have:=f e.on n (by omega);rw[Array.getD_eq_getD_getElem?,Array.getElem?_eq_getElem (by omega)]at this⊢;simpa using this);rw[k]at a;cases a);refine Array.ext (by simpa using g) λi h1 o=>?_;have:=l i (by omega);rw[Array.getD_eq_getD_getElem?,Array.getElem?_eq_getElem h1]at this;simpa using this
theorem mem_ready(c:i∈Region.ready .any ops D):∃o,ops[i]?=some o/\D.getD i true=false/\∀e∈o.after,Region.binds .any e=true->D.getD e.on false=true:=by unfold Region.ready at c;obtain⟨h1,a⟩:=List.mem_filter.1 c;cases b:ops[i]? with|none=>rw[b]at a;simp at a|some o=>rw[b]at a;simp only[Option.map_some,Option.getD_some,Bool.and_eq_true,Bool.not_eq_true']at a;refine⟨o,rfl,a.1,λe f d=>?_⟩;have:=Array.all_eq_true_iff_forall_mem.1 a.2 e f;rw[d]at this;simpa using this
theorem count_set(a:i<D.size)(h0:D.getD i true=false):(D.setIfInBounds i true).count false+1=D.count false:=by rw[Array.getD_eq_getD_getElem?,Array.getElem?_eq_getElem a]at h0;(have b:D[i]=false:=by simpa using h0);rw[Array.setIfInBounds_def,dif_pos a,Array.count_set];have:0<D.count false:=Array.count_pos_iff.2 (b▸Array.getElem_mem a);simp[b];omega
end
end Kw
end
end Go.Proofs.YtjebhbopmfcopaaGreatDoor
