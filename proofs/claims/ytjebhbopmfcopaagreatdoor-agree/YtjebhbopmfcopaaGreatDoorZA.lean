/- Agree, a part. -/
import Derived.Conc.Beside
import Derived.Conc.LockJoin
import Derived.Test.YtjebhbopmfcopaaGreatDoorZ0
namespace Go.Proofs.YtjebhbopmfcopaaGreatDoor
open Go.Proofs
noncomputable section
variable{a at_ b k:Addr}{y:DS×TypeId×(Nat×Nat)×Nat×HH×List (Nat×Nat×Dm)}{atomic sy:Bool}{fn:FuncId}{l:List Addr}{B' J N g i n r:Nat}{P:Program}{pos:String}{α β:Type}{u:TypeId}{v x:HH}{w w1:HA}
namespace Ph
structure Wd where
 l:Nat
 k:Nat
 s:Nat
 w:Nat deriving DecidableEq
def Wd.val(x:Wd):Int:=x.l+2*x.k+4*x.s+8*x.w
def Wd.ok(x:Wd):Prop:=x.l<=1/\x.k<=1/\x.s<=1/\x.w<=60
inductive Pc where|ld|l0|r0|sq|c1|r1|c2|t1|s1|t2|r2|a1|r3|le|la|ur|ud|u0|uc|ux|us|ue|wr|wd|d1|d2|d3|d4|quit deriving DecidableEq
structure Th where
 pc:Pc
 old:Wd:=⟨0,0,0,0⟩
 aw:Bool:=false
 sv:Bool:=false
 it:Nat:=0
 bt:Bool:=false
 ex:Bool:=false
 ct:Bool:=false
 ag:Option Nat:=none
 cd:Bool:=false
structure Sh where
 word:Wd
 ms:Nat
 cnt:Nat
 wt:Nat
 ws:Nat
def gq(T:Th):Wd:={l:=if T.old.s=0 then 1 else T.old.l,k:=if T.aw then 0 else T.old.k,s:=if T.sv=true/\T.old.l=1 then 1 else T.old.s,w:=if T.old.l=1\/T.old.s=1 then T.old.w+1 else T.old.w}
def head(T:Th):Th:=if T.old.l=1/\T.old.s=0 then{T with pc:=.sq}else{T with pc:=.c2}
def cM(T:Th):Th:=if T.old.w=0\/T.old.l=1\/T.old.k=1\/T.old.s=1 then{T with pc:=.ue}else{T with pc:=.uc}
def du(T:Th)(x:Wd):Th:=if x=⟨0,0,0,0⟩then{T with pc:=.ue}else if x.s=0 then cM {T with old:=x}else{T with pc:=.us,bt:=true}
def next(T:Th):Th:=if T.ct then{pc:=.ld}else if T.ag.isSome then{pc:=.ld,ct:=true,ag:=T.ag}else{pc:=.wr}
inductive Mv(N n:Nat):Th->Sh->Th->Sh->Prop|ld{T s}(h:T.pc=.ld):Mv N n T s {T with pc:=.l0} s|sa{T s}(h:T.pc=.l0)(hw:s.word=⟨0,0,0,0⟩):Mv N n T s {T with pc:=.le} {s with word:=⟨1,0,0,0⟩}|Bv{T s}(h:T.pc=.l0)(hw:s.word≠⟨0,0,0,0⟩):Mv N n T s {T with pc:=.r0} s|r0{T s}(h:T.pc=.r0):Mv N n T s (head {T with old:=s.word,aw:=false,sv:=false,it:=0}) s|kg{T s}(h:T.pc=.sq)(hi:T.it<4):Mv N n T s (if T.aw=false/\T.old.k=0/\T.old.w≠0 then{T with pc:=.c1}else{T with pc:=.r1}) s|qz{T s}(h:T.pc=.sq):Mv N n T s {T with pc:=.c2} s|nM{T s}(h:T.pc=.c1)(hw:s.word=T.old):Mv N n T s {T with pc:=.r1,aw:=true} {s with word:={T.old with k:=1}}|sR{T s}(h:T.pc=.c1)(hw:s.word≠T.old):Mv N n T s {T with pc:=.r1} s|r1{T s}(h:T.pc=.r1):Mv N n T s (head {T with old:=s.word,it:=T.it+1}) s|mj{T s}(h:T.pc=.c2)(hw:s.word=T.old)(h0:T.old.l=0/\T.old.s=0):Mv N n T s {T with pc:=.le} {s with word:=gq T}|jA{T s}(p:Pc)(h:T.pc=.c2)(hp:p=.t1\/p=.s1)(hw:s.word=T.old)(h0:T.old.l=1\/T.old.s=1):Mv N n T s {T with pc:=p} {s with word:=gq T}|qU{T s}(h:T.pc=.c2)(hw:s.word≠T.old):Mv N n T s {T with pc:=.r3} s|r3{T s}(h:T.pc=.r3):Mv N n T s (head {T with old:=s.word}) s|t1{T s}(h:T.pc=.t1):Mv N n T s {T with pc:=.s1} s|s1{T s}(h:T.pc=.s1)(hm:s.ms≠0):Mv N n T s {T with pc:=.t2,bt:=decide (s.word.s=1)} {s with ms:=s.ms-1}|t2{T s}(b:Bool)(h:T.pc=.t2):Mv N n T s {T with pc:=.r2,sv:=b} s|uD{T s}(h:T.pc=.r2)(hs:s.word.s=1):Mv N n T s {T with pc:=.a1,ex:=!T.sv||decide (s.word.w=1)} s|ls{T s}(h:T.pc=.r2)(hs:s.word.s=0):Mv N n T s (head {T with old:=s.word,aw:=true,it:=0}) s|a1{T s}(h:T.pc=.a1):Mv N n T s {T with pc:=.le} {s with word:={l:=1,k:=s.word.k,s:=if T.ex then 0 else s.word.s,w:=s.word.w-1}}|le{T s}(h:T.pc=.le):Mv N n T s {T with pc:=.la} s|qp{T s}(h:T.pc=.la)(hc:T.ct=false):Mv N n T s {T with pc:=.ur,ag:=if n<N then some n else none,cd:=false} s|sr{T s}(h:T.pc=.la)(hc:T.ct=true):Mv N n T s {T with pc:=.ur,cd:=true} s|ur{T s}(h:T.pc=.ur):Mv N n T s {T with pc:=.ud} s|ud{T s}(h:T.pc=.ud):Mv N n T s {T with pc:=.u0} s|u0{T s}(h:T.pc=.u0):Mv N n T s (du T {s.word with l:=0}) {s with word:={s.word with l:=0}}|rH{T s}(h:T.pc=.uc)(hw:s.word=T.old):Mv N n T s {T with pc:=.us,bt:=false} {s with word:={T.old with k:=1,w:=T.old.w-1}}|rU{T s}(h:T.pc=.uc)(hw:s.word≠T.old):Mv N n T s {T with pc:=.ux} s|ux{T s}(h:T.pc=.ux):Mv N n T s (cM {T with old:=s.word}) s|us{T s}(h:T.pc=.us):Mv N n T s {T with pc:=.ue} {s with ms:=s.ms+1}|ue{T s}(h:T.pc=.ue):Mv N n T s (next T) s|wr{T s}(h:T.pc=.wr):Mv N n T s {T with pc:=.wd} s|wd{T s}(h:T.pc=.wd):Mv N n T s {T with pc:=.d1} s|ze{T s}(h:T.pc=.d1)(hq:s.cnt-1≠0\/s.wt=0):Mv N n T s {T with pc:=.quit} {s with cnt:=s.cnt-1}|xp{T s}(h:T.pc=.d1)(hq:s.cnt=1/\s.wt=1):Mv N n T s {T with pc:=.d2} {s with cnt:=0}|d2{T s}(h:T.pc=.d2):Mv N n T s {T with pc:=.d3} s|d3{T s}(h:T.pc=.d3):Mv N n T s {T with pc:=.d4} {s with cnt:=0,wt:=0}|d4{T s}(h:T.pc=.d4):Mv N n T s {T with pc:=.quit} {s with ws:=s.ws+1}
def bq(T:Th):Nat:=match T.pc with|.le|.la|.ur|.ud|.u0=>1|_=>0
def bF(T:Th):Nat:=match T.pc with|.us|.t2|.r2=>if T.bt then 0 else 1|.sq|.c1|.r1|.c2|.r3=>if T.aw then 1 else 0|_=>0
def cU(T:Th):Nat:=match T.pc with|.us=>if T.bt then 0 else 1|_=>0
def bj(T:Th):Nat:=match T.pc with|.us|.t2|.r2=>if T.bt then 1 else 0|.a1=>1|_=>0
def cE(T:Th):Nat:=match T.pc with|.t1|.s1=>1|_=>0
def cj(T:Th):Nat:=match T.pc with|.t2|.r2=>if T.bt then 1 else 0|.a1=>1|_=>0
structure MI(x:Wd)(ms own wk usn sX slp rcv:Nat):Prop where
 l1:x.l<=1
 k1:x.k<=1
 s1:x.s<=1
 ai:own=x.l
 aky:usn<=wk
 akx:rcv<=sX
 calm:x.s=0->wk+ms=x.k/\sX=0/\slp=x.w+ms+usn
 Bu:x.s=1->x.k=0/\wk=0/\x.l+sX+ms=1/\slp+rcv=x.w/\1<=x.w
structure TW(T:Th):Prop where
 lE:T.old.ok
 sq:T.pc=.sq->T.old.l=1/\T.old.s=0/\T.it<=4
 c1:T.pc=.c1->T.old.l=1/\T.old.s=0/\T.old.k=0/\1<=T.old.w/\T.aw=false/\T.it<4
 r1:T.pc=.r1->T.it<4
 mN:(T.pc=.sq\/T.pc=.c2)->T.aw=true->T.old.k=1
 jM:(T.pc=.sq\/T.pc=.c1\/T.pc=.r1\/T.pc=.c2\/T.pc=.r3)->T.sv=true->T.aw=true
 uc:T.pc=.uc->T.old.l=0/\T.old.k=0/\T.old.s=0/\1<=T.old.w
 Jv:(T.pc=.c2\/T.pc=.r3)->T.it<=4
set_option linter.unusedSimpArgs false in theorem ahC{T T':Th}{s s':Sh}{o a u b p:Nat}(h:Mv N n T s T' s')(l:TW T)(q:T.pc=.a1->T.ex=false->2<=s.word.w)(A:MI s.word s.ms (bq T+o) (bF T+a) (cU T+u) (bj T+b) (cE T+p) (cj T+r))(C:u<=a)(B:r<=b):MI s'.word s'.ms (bq T'+o) (bF T'+a) (cU T'+u) (bj T'+b) (cE T'+p) (cj T'+r):=by
 obtain⟨m1,m,j,e,g,f,d,c⟩:=A;cases h;case' ld h|t1 h|le h|ur h|ud h|wr h|wd h|d2 h|d3 h|d4 h|Bv h hw|qp h hc|sr h hc|ze h hq|xp h hq|rU h hw=>all_goals simp only[bq,bF,cU,bj,cE,cj,h]at e g f d c⊢
 case' sa h hw=>rw[hw]at m1 m j e d c;dsimp only at m1 m j e d c;all_goals simp only[bq,bF,cU,bj,cE,cj,h]at e g f d c⊢
 case' r0 h=>unfold head;split;all_goals simp only[bq,bF,cU,bj,cE,cj,h]at e g f d c⊢
 case' kg h hi=>split;(all_goals cases i:T.aw);all_goals simp only[bq,bF,cU,bj,cE,cj,h,i]at e g f d c⊢
 case' qz h|qU h hw=>cases i:T.aw;all_goals simp only[bq,bF,cU,bj,cE,cj,h,i]at e g f d c⊢
 case' nM h hw=>obtain⟨c1,c2,c3,c4,c5,z⟩:=l.c1 h;rw[hw]at m1 m j e d c;all_goals simp only[bq,bF,cU,bj,cE,cj,h,c5]at e g f d c⊢
 case' sR h hw=>obtain⟨c1,c2,c3,c4,c5,z⟩:=l.c1 h;all_goals simp only[bq,bF,cU,bj,cE,cj,h,c5]at e g f d c⊢
 case' r1 h|r3 h=>unfold head;split;(all_goals cases i:T.aw);all_goals simp only[bq,bF,cU,bj,cE,cj,h,i]at e g f d c⊢
 case' mj h hw h0=>have mN:=l.mN (.inr h);rw[hw]at m1 m j e d c;cases i:T.aw;(all_goals simp only[i,true_implies]at mN);(all_goals simp only[gq,h0.1,h0.2]);all_goals simp only[bq,bF,cU,bj,cE,cj,h,i]at e g f d c⊢
 case' jA p h hp hw h0=>have mN:=l.mN (.inr h);have jM:=l.jM (.inr (.inr (.inr (.inl h))));rw[hw]at m1 m j e d c;have y:(T.old.s=0/\T.old.l=1)\/T.old.s=1:=HU;rcases hp with rfl|rfl;(all_goals cases i:T.aw);(all_goals cases t:T.sv);(all_goals simp only[i,t,true_implies,Bool.false_eq_true,false_implies,reduceCtorEq,Bool.true_eq_false]at mN jM);(all_goals rcases y with⟨k,x⟩|k);(all_goals simp only[gq,k,i,t]);(all_goals try simp only[x]);(all_goals rw[k]at j d c);(all_goals try rw[x]at m1 e c);(all_goals simp only[Nat.reduceEqDiff,true_implies,false_implies,Nat.one_ne_zero,if_true,if_false,or_true,true_or,and_true,true_and,ite_self,Bool.false_eq_true,false_and,Nat.zero_ne_one]at d c⊢);all_goals simp only[bq,bF,cU,bj,cE,cj,h,i,t]at e g f d c⊢
 case' s1 h hm=>by_cases k:s.word.s=1;all_goals simp only[bq,bF,cU,bj,cE,cj,h,k,decide_true,decide_false,decide_eq_true_eq]at e g f d c⊢
 case' t2 b h|uD h k|us h=>cases v:T.bt;all_goals simp only[bq,bF,cU,bj,cE,cj,h,v]at e g f d c⊢
 case' ls h k=>unfold head;split;(all_goals cases v:T.bt);all_goals simp only[bq,bF,cU,bj,cE,cj,h,v]at e g f d c⊢
 case' a1 h=>have q:=q h;cases w:T.ex;(all_goals simp only[w,true_implies,Bool.true_eq_false,false_implies]at q);all_goals simp only[bq,bF,cU,bj,cE,cj,h,w]at e g f d c⊢
 case' u0 h=>unfold du;split;rotate_left;split;unfold cM;split;all_goals simp only[bq,bF,cU,bj,cE,cj,h]at e g f d c⊢
 case' rH h hw=>obtain⟨c1,c2,c3,c4⟩:=l.uc h;rw[hw]at m1 m j e d c;all_goals simp only[bq,bF,cU,bj,cE,cj,h]at e g f d c⊢
 case' ux h=>unfold cM;split;all_goals simp only[bq,bF,cU,bj,cE,cj,h]at e g f d c⊢
 case' ue h=>unfold next;split;rotate_left;split;all_goals simp only[bq,bF,cU,bj,cE,cj,h]at e g f d c⊢
 all_goals refine⟨?_,?_,?_,?_,?_,?_,?_,?_⟩<;>(try dsimp only)<;>(try simp only[reduceCtorEq,Wd.mk.injEq,if_true,if_false,Bool.false_eq_true,and_false,false_and,or_self,or_false,false_or,and_true,true_and,false_implies,true_implies,implies_true]at*)<;>omega
def G8(p:Pc):Bool:=match p with|.sq|.c1|.r1|.c2|.r3|.uc=>false|_=>true
theorem mK{T:Th}(h:G8 T.pc=true)(b:T.old.ok):TW T:=by
 have ne:∀p,G8 p=false->T.pc≠p:=λp a e=>by rw[e,a]at h;cases h
 refine⟨b,λe=>absurd e (ne _ rfl),λe=>absurd e (ne _ rfl),λe=>absurd e (ne _ rfl),?_,?_,λe=>absurd e (ne _ rfl),?_⟩;·rintro(e|e)<;>exact absurd e (ne _ rfl)
 ·rintro(e|e|e|e|e)<;>exact absurd e (ne _ rfl)
 ·rintro(e|e)<;>exact absurd e (ne _ rfl)
theorem wc{T:Th}(b:T.old.ok)(h1:T.aw=true->T.old.k=1)(c:T.sv=true->T.aw=true)(a:T.it<=4):TW (head T):=by unfold head;split;(·rename_i h;exact⟨b,λ_=>⟨h.1,h.2,a⟩,HY,HY,λ_=>h1,λ_=>c,HY,λ_=>a⟩);·exact⟨b,HY,HY,HY,λ_=>h1,λ_=>c,HY,λ_=>a⟩
theorem CU{T:Th}(a:T.old.ok):TW (cM T):=by unfold cM;split;(·exact mK rfl a);·rename_i h;obtain⟨h1,c,d,b⟩:=a;exact⟨⟨h1,c,d,b⟩,HY,HY,HY,HY,HY,λ_=>(by dsimp only;omega),HY⟩
theorem zx:Wd.ok ⟨0,0,0,0⟩:=by simp[Wd.ok]
theorem agV{T T':Th}{s s':Sh}(h:Mv N n T s T' s')(a:TW T)(c:s.word.ok)(f:bF T=1->s.word.k=1)(m:s.word.s=0->bj T=0):TW T':=by have b:=a.lE;cases h with|r0 h=>exact wc c HY HY (by simp)|kg h k=>obtain⟨s1,o,u⟩:=a.sq h;split;(·rename_i j;exact⟨b,HY,λ_=>⟨s1,o,j.2.1,(by dsimp only;omega),j.1,k⟩,HY,HY,λ_=>a.jM (.inl h),HY,HY⟩);·exact⟨b,HY,HY,λ_=>k,HY,λ_=>a.jM (.inl h),HY,HY⟩|qz h=>exact⟨b,HY,HY,HY,λ_=>a.mN (.inl h),λ_=>a.jM (.inl h),HY,λ_=>(a.sq h).2.2⟩|nM h e=>exact⟨b,HY,HY,λ_=>(a.c1 h).2.2.2.2.2,HY,λ_ _=>rfl,HY,HY⟩|sR h e=>exact⟨b,HY,HY,λ_=>(a.c1 h).2.2.2.2.2,HY,λ_=>a.jM (.inr (.inl h)),HY,HY⟩|r1 h=>refine wc c (λg=>f ?_) (λd=>a.jM (.inr (.inr (.inl h))) d) (a.r1 h);have i:T.aw=true:=g;simp[bF,h,i]|qU h e=>exact⟨b,HY,HY,HY,HY,λ_=>a.jM (.inr (.inr (.inr (.inl h)))),HY,λ_=>a.Jv (.inl h)⟩|r3 h=>refine wc c (λg=>f ?_) (λd=>a.jM (.inr (.inr (.inr (.inr h)))) d) (a.Jv (.inr h));have i:T.aw=true:=g;simp[bF,h,i]|ls h d=>refine wc c (λ_=>f ?_) (λ_=>rfl) HY;have:=m d;simp only[bj,h]at this;simp only[bF,h];revert this;cases T.bt<;>simp|u0 h=>obtain⟨h1,r,q,t⟩:=c;unfold du;split;(·exact mK rfl b);·split;(·exact CU ⟨(by dsimp only;omega),r,q,t⟩);·exact mK rfl b|ux h=>exact CU c|ue h=>unfold next;split;(·exact mK rfl zx);·split<;>exact mK rfl zx|jA p h l e h0=>rcases l with rfl|rfl<;>exact mK rfl b|_=>exact mK rfl b
theorem VJ{T T':Th}{s s':Sh}(h:Mv N n T s T' s')(d:TW T)(c:s.word.s=1)(f:bj T=0)(e:bq T=0)(b:2<=s.word.w):2<=s'.word.w:=by cases h with|sa h a=>rw[a]at b;simp at b|nM h a=>rw[a]at c;have:=(d.c1 h).2.1;omega|mj h a h0=>rw[a]at c;omega|jA p h g a h0=>rw[a]at b;simp only[gq];split<;>omega|a1 h=>simp[bj,h]at f|u0 h=>simp[bq,h]at e|rH h a=>rw[a]at c;have:=(d.uc h).2.2.1;omega|_=>exact b
theorem WS{T T':Th}{s s':Sh}(h:Mv N n T s T' s')(h1:s.word.s=1->1<=s.word.w):T'.pc=.a1->T'.ex=false->T.pc=.r2/\s'.word=s.word/\2<=s.word.w:=by intro a c;cases h with|uD h d=>refine⟨h,rfl,?_⟩;have:=h1 d;simp only[Bool.or_eq_false_iff,decide_eq_false_iff_not]at c;omega|r0 h|r1 h|r3 h|ls h=>unfold head at a;split at a<;>cases a|kg h=>split at a<;>cases a|ux h=>unfold cM at a;split at a<;>cases a|u0 h=>unfold du at a;split at a;(·cases a);·split at a;(·unfold cM at a;split at a<;>cases a);·cases a|ue h=>unfold next at a;split at a;(·cases a);·split at a<;>cases a|jA p h b=>dsimp only at a;rcases b with rfl|rfl<;>cases a|_=>cases a
def Wd.lone(x:Wd):Prop:=x.l=0/\x.k=0/\x.s=0/\1<=x.w
theorem agv{T T':Th}{s s':Sh}(h:Mv N n T s T' s')(k:s'.word.lone):(s'.word=s.word/\¬(T.pc=.uc/\T.old=s.word))\/(T'.pc=.uc/\T'.old=s'.word):=by obtain⟨h1,f,c,j⟩:=k;have d:∀p,T.pc=p->p≠.uc->¬(T.pc=.uc/\T.old=s.word):=λp e l b=>l (e▸b.1);cases h with|sa h a|a1 h=>simp at h1|nM h a|rH h a=>simp at f|mj h a h0=>simp[gq,h0.2]at h1|jA p h m a h0=>simp only[gq]at h1 c;split at h1;(·omega);·split at c;(·omega);·omega|rU h a=>exact .inl ⟨rfl,λb=>a b.2.symm⟩|u0 h=>right;dsimp only at h1 f c j;unfold du;rw[if_neg (by simp only[Wd.mk.injEq];omega),if_pos (by dsimp only;omega)];unfold cM;rw[if_neg (by dsimp only;omega)];exact⟨rfl,rfl⟩|_=>rename_i h;exact .inl ⟨rfl,by first|exact d _ h (by simp)|(rename_i g;exact d _ g HY)|(rename_i g i;exact d _ i HY)⟩
def cY(p:Pc)(aw:Bool):Nat:=match p with|.ld=>50|.l0=>49|.r0=>48|.sq|.c1|.r1|.c2|.r3=>if aw then 40 else 48|.t1=>36|.s1=>35|.t2=>44|.r2=>43|.a1=>39|.le=>30|.la=>29|.ur=>28|.ud=>27|.u0=>26|.uc|.ux=>24|.us=>23|.ue=>12|.wr=>9|.wd=>8|.d1=>7|.d2=>6|.d3=>5|.d4=>4|.quit=>0
def tail(p:Pc):Bool:=match p with|.wr|.wd|.d1|.d2|.d3|.d4|.quit=>true|_=>false
def phi(T:Th):Nat:=cY T.pc T.aw+if tail T.pc then 0 else if T.ct then 60 else if T.ag.isSome then 110 else 10
def eh(N n:Nat)(T:Th)(s:Sh):Nat:=phi T+10*s.ms+s.ws+100*(N-n)
def dV(T:Th)(x:Wd):Nat:=match T.pc with|.r0|.r3=>20|.r1=>4*(4-T.it)+1|.c1=>4*(4-T.it)+2|.sq=>if T.old=x then 4*(4-T.it)+3 else 22|.c2=>if T.old=x then 2 else 21|.uc=>if T.old=x then 1 else 3|.ux=>2|_=>0
def gK(N n:Nat)(T:Th):Nat:=if T.pc=.la/\T.ct=false/\n<N then n+1 else n
theorem yY(T:Th):dV (head T) T.old<=4*(4-T.it)+3:=by unfold head;split;(·simp[dV]);·simp[dV]
theorem wD{T:Th}:phi (head T)=(if T.aw then 40 else 48)+(if T.ct then 60 else if T.ag.isSome then 110 else 10):=by unfold head;split<;>simp[phi,cY,tail]
theorem N3{T T':Th}{s s':Sh}(h:Mv N n T s T' s')(f:TW T)(k:T.pc=.la->T.ct=false->T.ag=none):eh N (gK N n T) T' s'<eh N n T s\/(phi T'=phi T/\s'=s/\gK N n T=n/\dV T' s.word<dV T s.word):=by(have a:∀p,T.pc=p->p≠.la->gK N n T=n:=λp e m=>by unfold gK;rw[if_neg (by rw[e];exactλb=>m b.1)]);cases h with|r0 h=>right;refine⟨by rw[wD];simp[phi,cY,tail,h],rfl,a _ h HY,?_⟩;have:=yY {T with old:=s.word,aw:=false,sv:=false,it:=0};simp only[dV,h]at this⊢;omega|kg h t=>right;(have i:∀p,(p=.c1\/p=.r1)->phi {T with pc:=p}=phi T:=by rintro p(rfl|rfl)<;>simp[phi,cY,tail,h]);split;(·exact⟨i _ (.inl rfl),rfl,a _ h HY,by simp only[dV,h];split<;>omega⟩);·exact⟨i _ (.inr rfl),rfl,a _ h HY,by simp only[dV,h];split<;>omega⟩|qz h=>right;exact⟨by simp[phi,cY,tail,h],rfl,a _ h HY,by simp only[dV,h];split<;>omega⟩|sR h c=>right;exact⟨by simp[phi,cY,tail,h],rfl,a _ h HY,by simp only[dV,h];omega⟩|r1 h=>right;have q:=f.r1 h;refine⟨by rw[wD];simp[phi,cY,tail,h],rfl,a _ h HY,?_⟩;have:=yY {T with old:=s.word,it:=T.it+1};simp only[dV,h]at this⊢;omega|qU h c|rU h c=>right;exact⟨by simp[phi,cY,tail,h],rfl,a _ h HY,by simp only[dV,h];rw[if_neg (λe=>c e.symm)];omega⟩|r3 h=>right;refine⟨by rw[wD];simp[phi,cY,tail,h],rfl,a _ h HY,?_⟩;have:=yY {T with old:=s.word};simp only[dV,h]at this⊢;omega|ux h=>unfold cM;split;(·left;rw[a _ h HY];simp[eh,phi,cY,tail,h]);·right;exact⟨by simp[phi,cY,tail,h],rfl,a _ h HY,by simp[dV,h]⟩|qp h b=>left;have g:=k h b;by_cases hn:n<N;(·simp only[gK,h,b,hn,and_self,if_true,eh,phi,cY,tail,g];simp;omega);·simp only[gK,h,b,hn,and_false,if_false,eh,phi,cY,tail,g];simp|sr h b=>left;simp[gK,h,b,eh,phi,cY,tail]|ls h o=>left;rw[a _ h HY];simp only[eh,wD];simp[phi,cY,tail,h]|nM h c=>left;rw[a _ h HY];have:=(f.c1 h).2.2.2.2.1;simp[eh,phi,cY,tail,h,this]|mj h c h0=>left;rw[a _ h HY];simp only[eh,phi,cY,tail,h];cases T.aw<;>simp|jA p h l c h0=>left;rw[a _ h HY];rcases l with rfl|rfl<;>simp only[eh,phi,cY,tail,h]<;>cases T.aw<;>simp|s1 h r|us h=>left;rw[a _ h HY];simp only[eh,phi,cY,tail,h];omega|u0 h=>left;rw[a _ h HY];unfold du;split;(·simp[eh,phi,cY,tail,h]);·split;(·unfold cM;split<;>simp[eh,phi,cY,tail,h]);·simp[eh,phi,cY,tail,h]|ue h=>(left;rw[a _ h HY];unfold next;cases b:T.ct with|true=>simp[eh,phi,cY,tail,h,b]|false=>cases j:T.ag with|none|some x=>simp[eh,phi,cY,tail,h,b,j])|d4 h=>left;rw[a _ h HY];simp only[eh,phi,cY,tail,h];simp;omega|_=>rename_i h;left;first|(rw[a _ h HY];simp[eh,phi,cY,tail,h])|(rename_i d;rw[a _ d HY];simp[eh,phi,cY,tail,d])
end Ph
namespace Ph
open Conc ConcN ConcM
theorem dK{es:Array Event}{a:MemOp}(h:a∈MemOp.ofEvents g fn pos es):∃e∈es,a={g,fn,pos,act:=.ofEvent e}:=by rw[ofEvents_eq]at h;obtain⟨e,b,rfl⟩:=Array.mem_map.1 h;exact⟨e,b,rfl⟩
def j3(Sh:Loc->Prop)(t:Trace)(i:Nat)(x:Touch):Prop:=Sh x.loc/\x.kind=.atomic/\¬t.heard i
theorem j3.app{Sh:Loc->Prop}{t:Trace}{x:Touch}(h:j3 Sh t i x)(b:i<t.size)(u:Trace):j3 Sh (t++u) i x:=⟨h.1,h.2.1,λa=>h.2.2 ((heard_old b).1 a)⟩
theorem lt_of_touch{t:Trace}{x:Touch}(h:touchAt t i=some x):i<t.size:=by obtain⟨b,a,_⟩:=touch_of h;exact lt_size_of_getElem? a
def ig(t:Trace):Prop:=∀op∈t,∀a,op.act≠.mark (.release a)
theorem ig.one{t:Trace}(h:ig t)(a:Addr):NoRelease a t:=λi b=>by obtain⟨c,d,e⟩:=Option.map_eq_some_iff.1 b;exact h c (Array.mem_of_getElem? d) a e
theorem ig.app{t u:Trace}(h:ig t)(b:ig u):ig (t++u):=λa ah=>(Array.mem_append.1 ah).elim (h a) (b a)
def iY(B:Nat)(t:Trace):Prop:=∀i x,touchAt t i=some x->x.loc.low B
theorem iY.mono{B:Nat}(h:B<=B'){t:Trace}(k:iY B t):iY B' t:=λi x a=>Loc.low_mono h (k i x a)
theorem iY.app{B:Nat}{t u:Trace}(h:iY B t)(d:∀a∈u,∀x,a.act.touch?=some x->x.loc.low B):iY B (t++u):=by intro i x f;obtain⟨a,e,b⟩:=touch_of f;rcases getElem?_append_cases e with⟨_,g⟩|⟨_,c⟩;(·exact h i x (by rw[touchAt_of g];exact b));·exact d a c x b
structure dx(Sh:Loc->Prop)(J B:Nat)(t:Trace):Prop where
 quiet:Quiet Sh t
 oz:∀i x,touchAt t i=some x->Knows t 0 i\/j3 Sh t i x
 nr:∀said,¬Race said t
 gs:∀(i:Nat)(op:MemOp),t[i]?=some op->op.g<J
 low:iY B t
 nP:ig t
 hear:Deaf t 0=0
def EvM(Sh:Loc->Prop)(B:Nat)(e:Event):Prop:=(∀x,(MemAct.ofEvent e).touch?=some x->¬Sh x.loc/\x.loc.low B)/\e.loc≠.mark .disable/\e.loc≠.mark .enable/\∀a,e.loc≠.mark (.release a)
theorem rD{e:Event}(h:MemAct.ofEvent e=.mark (.release a)):e.loc=.mark (.release a):=by obtain⟨l,x,y⟩:=e;cases l with|obj c=>cases x<;>cases y<;>simp[MemAct.ofEvent]at h|mark m=>simpa[MemAct.ofEvent]using h|_=>simp[MemAct.ofEvent]at h
theorem j3.Tt{Sh:Loc->Prop}{t:Trace}{x b:Touch}{c:Bool}(h:j3 Sh t i x)(d:x.conflicts c b)(f:Sh b.loc->b.kind≠.plain):False:=by
 obtain⟨h1,g,_⟩:=h;obtain⟨e,_,_,a⟩:=d;rw[g]at a;rcases a with a|a|⟨_,a,_⟩;·cases a
 ·exact f (e▸h1) a
 ·cases a
theorem dx.own{Sh:Loc->Prop}{B:Nat}{t:Trace}(h:dx Sh J B t)(v:0<J)(A:B<=B'){es:Array Event}(j:∀e∈es,EvM Sh B' e):dx Sh J B' (t++MemOp.ofEvents 0 fn pos es):=by
 have g0:∀c∈MemOp.ofEvents 0 fn pos es,c.g=0:=λc ah=>by obtain⟨e,_,rfl⟩:=dK ah;rfl
 have l:∀c∈MemOp.ofEvents 0 fn pos es,∀x,c.act.touch?=some x->¬Sh x.loc/\x.loc.low B':=λc ah x f=>by obtain⟨e,g,rfl⟩:=dK ah;exact(j e g).1 x f
 refine⟨h.quiet.app λc ah x f k=>absurd k (l c ah x f).1,λi x f=>?_,λs=>noRace_append (h.nr s) g0 λi a p c ah b q r=>?_,λi c u=>?_,(h.low.mono A).app λc ah x f=>(l c ah x f).2,h.nP.app λc ah a e=>?_,?_⟩;·obtain⟨c,n,w⟩:=touch_of f;rcases getElem?_append_cases n with⟨y,z⟩|⟨_,m⟩;(·exact(h.oz i x (by rw[touchAt_of z];exact w)).imp (·.app _) (λd=>d.app y _));·have:=knows_own n;rw[g0 c m]at this;exact .inl this
 ·rcases h.oz i a p with C|D;(·exact C);·exact(D.Tt r λk=>absurd k (l c ah b q).1).elim
 ·rcases getElem?_append_cases u with⟨_,o⟩|⟨_,m⟩;(·exact h.gs i c o);·rw[g0 c m];exact v
 ·obtain⟨x,g,rfl⟩:=dK ah;exact(j x g).2.2.2 a (rD e)
 ·rw[Deaf_own,deafBehind_still (λe g=>⟨(j e g).2.1,(j e g).2.2.1⟩)];exact h.hear
theorem EL{e:Event}(h:e.mute=true)(a:Addr):MemAct.ofEvent e≠.mark (.release a):=by intro x;rw[Event.mute.eq_def]at h;have:=rD x;obtain⟨l,p,q⟩:=e;simp only at this;subst this;simp at h
theorem dx.mute{Sh:Loc->Prop}{B:Nat}{t:Trace}(h:dx Sh J B t)(y:i≠0)(u:i<J){es:Array Event}(o:∀e∈es,e.mute=true):dx Sh J B (t++MemOp.ofEvents i fn pos es):=by
 have g0:∀c∈MemOp.ofEvents i fn pos es,c.g=i:=λc ah=>by obtain⟨e,_,rfl⟩:=dK ah;rfl
 have g:∀c∈MemOp.ofEvents i fn pos es,c.act.touch?=none:=λc ah=>by obtain⟨e,j,rfl⟩:=dK ah;exact touch_mute (o e j)
 refine⟨h.quiet.app λc ah x f=>(by rw[g c ah]at f;cases f),λk x f=>?_,λq=>noRace_append (h.nr q) g0 λ_ a _ c ah b n _=>(by rw[g c ah]at n;cases n),λk c r=>?_,h.low.app λc ah x f=>(by rw[g c ah]at f;cases f),h.nP.app λc ah a e=>?_,?_⟩;·obtain⟨c,s,m⟩:=touch_of f;rcases getElem?_append_cases s with⟨v,w⟩|⟨_,l⟩;(·exact(h.oz k x (by rw[touchAt_of w];exact m)).imp (·.app _) (λd=>d.app v _));·rw[g c l]at m;cases m
 ·rcases getElem?_append_cases r with⟨_,p⟩|⟨_,l⟩;(·exact h.gs k c p);·rw[g0 c l];exact u
 ·obtain⟨x,j,rfl⟩:=dK ah;exact EL (o x j) a e
 ·rw[Deaf_other t y _ g0];exact h.hear
theorem dx.over{Sh:Loc->Prop}{B:Nat}{t:Trace}(h:dx Sh J B t):t.HandedOver:=by intro i g c l f;obtain⟨x,k,n,a⟩:=f;rcases h.oz i x k with⟨q,z,e,d,b⟩|⟨_,m,j⟩;(·refine⟨q,by simp[Trace.g?,e,d],?_⟩;rcases b with rfl|b;(·simp only[Trace.g?,e,Option.map_some,Option.some.injEq]at c;exact absurd (c.symm.trans d) l);·exact b);·rcases a with a|a;(·exact absurd m a);·exact absurd a j
theorem dx.nil(Sh:Loc->Prop)(J B:Nat):dx Sh J B #[]:=by refine⟨λi e x c=>(by simp at c),λi x d=>absurd (lt_of_touch d) HY,λg=>?_,λi e c=>(by simp at c),λi x d=>absurd (lt_of_touch d) HY,λe ah=>(by simp at ah),rfl⟩;rintro⟨i,j,_,⟨a,b,f,_⟩,_⟩;exact absurd (lt_of_touch (t:=#[]) f) HY
section
variable{Sh Pr:Loc->Prop}{Own Own' Rd:Nat->Loc->Prop}{a:Addr}{t:Trace}{j:Nat}{o:Option Nat}
theorem Ju(h:LT Sh Pr Own Rd a t j o)(e:∀k l,Own k l->Own' k l)(f:∀k l,1<=k->k<=j->Own' k l->Own k l\/Perm t k l):LT Sh Pr Own' Rd a t j o:=by refine⟨h.quiet,λk k1 b l g=>?_,h.rd,λl h1 d c=>h.free l h1 d λk k1 b=>⟨λx=>(c k k1 b).1 (e k l x),(c k k1 b).2⟩,λl h1 d c=>h.mine l h1 d λk k1 b x=>c k k1 b (e k l x),h.tok,h.norel,h.nr,h.gs⟩;rcases f k l k1 b g with x|x;(·exact h.own k k1 b l x);·exact x
def Un(t:Trace)(l:Loc):Prop:=∀i x,touchAt t i=some x->x.loc≠l
theorem Un.perm{l:Loc}(h:Un t l)(k:Nat):Perm t k l:=λi x a e=>absurd e (h i x a)
theorem af2{Sn:Loc->Prop}{B:Nat}(h:dx Sh (j+1) B t)(o:J=j)(u:∀l,Sn l->Un t l)(q:∀l,Pr l->Un t l)(r:∀k l,k<=j->¬Own k l)(s:∀k l,k<=j->¬Rd k l):LT (λl=>Sh l\/Sn l) Pr Own Rd a t J none:=by
 subst o;have n:∀l,¬(Sh l\/Sn l)->Perm t 0 l:=λl b i x c e=>by rcases h.oz i x c with v|p;(·exact v);·exact absurd (.inl (e▸p.1)) b
 refine⟨λi m x f c d=>?_,λk _ g l b=>absurd b (r k l g),λk _ g l b=>absurd b (s k l g),λl h1 _ _=>n l h1,λl h1 _ _=>PermW.of (n l h1),λl b i x c e=>absurd e (q l b i x c),h.nP.one a,h.nr,λi m f=>Nat.le_of_lt_succ (h.gs i m f)⟩;rcases d with d|d;·exact h.quiet i m x f c d
 ·exact absurd rfl (u _ d i x (by rw[touchAt_of f];exact c))
end
structure RelB(Sh:Loc->Prop)(b:Addr)(t:Trace)(i r:Nat):Prop where
 act:t.act? r=some (.mark (.releaseMerge b))
 g:t.g? r=some i
 heard:t.heard r
 after:∀k x,r<k->t.g? k=some i->touchAt t k=some x->j3 Sh t k x
theorem RelB.app{Sh:Loc->Prop}{t:Trace}(h:RelB Sh b t i r){u:Trace}(j:∀k x,t.size<=k->(t++u).g? k=some i->touchAt (t++u) k=some x->j3 Sh (t++u) k x):RelB Sh b (t++u) i r:=by have c:r<t.size:=lt_of_act? h.act;refine⟨by rw[act?_old c];exact h.act,by rw[g?_old c];exact h.g,(heard_old c).2 h.heard,λk x g e d=>?_⟩;rcases Nat.lt_or_ge k t.size with a|f;(·exact(h.after k x g (by rw[<-g?_old (u:=u) a];exact e) (by rw[<-touchAt_old (u:=u) a];exact d)).app a u);·exact j k x f e d
theorem RelB.other{Sh:Loc->Prop}{t:Trace}(h:RelB Sh b t i r){u:Trace}(e:∀a∈u,a.g=g)(d:g≠i):RelB Sh b (t++u) i r:=h.app λk x n c _=>by obtain⟨a,f,j⟩:=Option.map_eq_some_iff.1 c;rcases getElem?_append_cases f with⟨m,_⟩|⟨_,l⟩;(·omega);·exact absurd ((e a l).symm.trans j) d
theorem RelB.new{Sh:Loc->Prop}{t:Trace}{y:MemOp}(d:Deaf t i=0)(a:y.g=i)(e:y.act=.mark (.releaseMerge b)):RelB Sh b (t++#[y]) i t.size:=by(have f:(t++#[y])[t.size]?=some y:=by simp);refine⟨by rw[act?_of f,e],by simp[Trace.g?,a],⟨i,by simp[Trace.g?,a],by rw[deaf_old (Nat.le_refl _)];exact d⟩,λk x h g _=>?_⟩;obtain⟨j,c,_⟩:=Option.map_eq_some_iff.1 g;have:=lt_size_of_getElem? c;simp at this;omega
theorem RelB.Vh{Sh:Loc->Prop}{t:Trace}(h:RelB Sh b t i r)(fn:FuncId)(pos:String)(es:Array Event)(p:∀j e,es[j]?=some e->(MemAct.ofEvent e).touch?=none\/(∃ad wr,e=⟨.cell ad,wr,true⟩/\Sh (.cell ad))/\0<deafBehind (Deaf t i) (es.extract 0 j)):RelB Sh b (t++MemOp.ofEvents i fn pos es) i r:=by
 refine h.app λk x s _ w=>?_;obtain⟨v,c,a⟩:=touch_of w;have f:(MemOp.ofEvents i fn pos es)[k-t.size]?=some v:=by rw[Array.getElem?_append]at c;simpa[Nat.not_lt.2 s]using c
 rw[ofEvents_eq,Array.getElem?_map]at f;obtain⟨e,d,rfl⟩:=Option.map_eq_some_iff.1 f;have q:k-t.size<=es.size:=by rcases Nat.lt_or_ge (k-t.size) es.size with m|m;(·omega);·rw[Array.getElem?_eq_none m]at d;cases d
 rcases p _ e d with h0|⟨⟨ad,wr,rfl,u⟩,z⟩;·simp only at a;rw[h0]at a;cases a
 ·(have l:x=⟨.cell ad,wr,.atomic⟩:=by simp[MemAct.ofEvent,MemAct.touch?]at a;exact a.symm);refine⟨by rw[l];exact u,by rw[l],λ⟨g,n,y⟩=>?_⟩;(have o:g=i:=by simp[Trace.g?,c]at n;exact n.symm);subst o;have:=deaf_inside t g fn pos es (k-t.size) q;rw[show t.size+(k-t.size)=k by omega,y]at this;omega
theorem NE{Sh:Loc->Prop}{Pr:Loc->Prop}{Own Rd:Nat->Loc->Prop}{t:Trace}{j c B:Nat}{o:Option Nat}(A:ApartL Sh Pr Own Rd)(h:LT Sh Pr Own Rd a t j o)(J:iY B t)(I:ig t)(E:Deaf t 0=0)(old:∀i x g,touchAt t i=some x->t.g? i=some g->g<c->Knows t 0 i\/j3 Sh t i x)(rel:∀g,c<=g->g<=j->∃r,RelB Sh b t g r){z:MemOp}(n:z.g=0)(f:z.act=.mark (.acquire b)):dx Sh (j+1) B (t++#[z]):=by
 have w:z.act.touch?=none:=by rw[f];rfl
 have C:=h.still A (z:=z) (by rw[n];exact Nat.zero_le _) w (by rw[f];simp);have u:(t++#[z])[t.size]?=some z:=by simp
 have D:ig (t++#[z]):=I.app λq ah x=>by simp at ah;subst ah;rw[f];simp
 refine⟨C.quiet,λi x m=>?_,C.nr,λi q K=>Nat.lt_succ_of_le (C.gs i q K),J.app λq ah x m=>(by simp at ah;subst ah;rw[w]at m;cases m),D,?_⟩;·have l:=old_touch w m;have v:=lt_of_touch l;obtain⟨y,F,M⟩:=touch_of l;(have s:t.g? i=some y.g:=by simp[Trace.g?,F]);by_cases hc:y.g<c;(·exact(old i x y.g l s hc).imp (·.app _) (λd=>d.app v _));·obtain⟨r,e⟩:=rel y.g (Nat.le_of_not_lt hc) (h.gs i y F);have p:=lt_of_act? e.act;have G:HappensBefore (t++#[z]) r t.size:=.single (.inr ⟨.marked p (.inr (by rw[act?_old p];exact e.act)) (by rw[act?_of u,f]) (λk _ _=>D.one b k),(heard_old p).2 e.heard,⟨0,by simp[Trace.g?,n],by rw[deaf_old (Nat.le_refl _)];exact E⟩⟩);rcases Nat.lt_trichotomy i r with L|rfl|H;(·refine .inl ⟨t.size,z,u,n,.inr (.trans (.single (.inl ⟨L,y.g,?_,?_⟩)) G)⟩;(·rw[g?_old v];exact s);·rw[g?_old p];exact e.g);(·exact .inl ⟨t.size,z,u,n,.inr G⟩);·exact .inr ((e.after i x H s l).app v _)
 ·rw[Deaf_push];simp[deafStep,f,E]
end Ph
namespace Un
open Conc ConcN Ph
set_option linter.unusedSimpArgs false
set_option linter.unusedVariables false
def zp(m:Mark):Prop:=m=.noRoom\/∃f,m=.extern f
def Bm:Halt->Prop|.panic _|.stuck _=>True|.unsupported (.initOrder _)=>False|.unsupported _=>True|_=>False
def okW(w:HA)(h:Halt):Prop:=Bm h\/∃g c e,h=.unsupported (.initOrder g)/\w.heap[g]?=some (.pending c e)
def aj(P:Program){α:Type}:Sem α->Prop|.pure _=>True|.load _ _ k=>∀v,aj P (k v)|.store _ _ _ k=>aj P k|.new _ k=>∀n,aj P (k n)|.shape _ k=>∀x,aj P (k x)|.freeze _ _ k=>aj P k|.frozen _ k=>∀b,aj P (k b)|.getObj _ k=>∀o,aj P (k o)|.setObj _ _ k=>aj P k|.choose _ k=>∀n,aj P (k n)|.sys _ k=>∀r,aj P (k r)|.program k=>aj P (k P)|.mark m k=>zp m/\aj P k|.halt h=>Bm h
theorem aj.bind{x:Sem α}{f:α->Sem β}(d:aj P x)(e:∀a,aj P (f a)):aj P (x.bind f):=by induction x with|pure a=>exact e a|load m a k b|new o k b|shape r k b|frozen a k b|getObj a k b|choose q k b|sys c k b=>exactλv=>b v (d v)|store m a v k b|freeze a n k b|setObj a o k b=>exact b d|program k b=>exact b P d|mark m k b=>exact⟨d.1,b d.2⟩|halt h=>exact d
def eQ(B:Nat)(e:Event):Prop:=(∀x,(MemAct.ofEvent e).touch?=some x->x.loc.low B)/\∀m,e.loc=.mark m->zp m
theorem eQ.mono{B C:Nat}{e:Event}(h:B<=C)(k:eQ B e):eQ C e:=⟨λx a=>Loc.low_mono h (k.1 x a),k.2⟩
theorem eQ.m{B:Nat}{e:Event}(h:eQ B e):EvM (λ_=>False) B e:=by refine⟨λx b=>⟨id,h.1 x b⟩,λk=>?_,λk=>?_,λa k=>?_⟩;all_goals rcases h.2 _ k with h|⟨_,h⟩;(·cases h);·cases h
def uU:Result α->HA|.ok _ w=>w|.halt _ w=>w
theorem zP{B:Nat}{wr:Bool}(h:a.block<B):eQ B ⟨.cell a,wr,sy⟩:=by refine⟨λx b=>?_,λm c=>by cases c⟩;simp only[MemAct.ofEvent,MemAct.touch?,Option.some.injEq]at b;subst b;exact h
theorem FQ{B:Nat}{wr:Bool}(h:r<B):eQ B ⟨.obj r,wr,sy⟩:=by refine⟨λx a=>?_,λm b=>by cases b⟩;cases wr<;>cases sy<;>simp only[MemAct.ofEvent,MemAct.touch?,Option.some.injEq]at a;all_goals first|(cases a;done)|(cases a;exact h)
theorem Uy{B:Nat}{wr:Bool}:eQ B ⟨.output,wr,sy⟩:=by refine⟨λx a=>?_,λm b=>by cases b⟩;simp only[MemAct.ofEvent,MemAct.touch?,Option.some.injEq]at a;subst a;trivial
theorem UY{B:Nat}{m:Mark}{wr:Bool}(h:zp m):eQ B ⟨.mark m,wr,sy⟩:=by refine⟨λx b=>?_,λm' a=>by cases a;exact h⟩;rcases h with rfl|⟨f,rfl⟩<;>simp[MemAct.ofEvent,MemAct.touch?]at b
theorem sY(h:w.seen P at_ u k atomic=.ok y):at_.block<w.heap.size:=by cases a:w.heap[at_.block]? with|some o=>exact(J2.1 a).1|none=>exfalso;unfold World.seen at h;simp only[a]at h;simp only[bind,Except.bind,throw,throwThe,MonadExceptOf.throw,pure,Except.pure]at h;(repeat' split at h);all_goals first|cases h|skip
theorem SW(h:w.seen P at_ u k atomic=.ok y):w.heap[at_.block]?=some (.cells y.1 y.2.1 y.2.2.1):=by unfold World.seen at h;simp only[bind,Except.bind,throw,throwThe,MonadExceptOf.throw,pure,Except.pure]at h;(repeat' split at h);all_goals first|(cases h;done)|(cases h;assumption)
theorem ae9(h:w.viewLoad P at_ u k atomic=.ok (v,l)):∀a∈l,a.block<w.heap.size:=by unfold World.viewLoad at h;cases b:w.seen P at_ u k atomic with|error e=>rw[b]at h;cases h|ok y=>have d:=sY b;rw[b]at h;simp only[bind,Except.bind,throw,throwThe,MonadExceptOf.throw,pure,Except.pure]at h;(repeat' split at h);(all_goals first|cases h|skip);intro a c;obtain⟨x,_,rfl⟩:=List.mem_map.1 c;exact d
theorem ahK(h:w.viewStore P at_ u k x atomic=.ok (w1,l)):w1.heap.size=w.heap.size/\∀a∈l,a.block<w.heap.size:=by unfold World.viewStore at h;cases b:w.seen P at_ u k atomic with|error e=>rw[b]at h;simp only[bind,Except.bind,throw,throwThe,MonadExceptOf.throw,pure,Except.pure]at h;(repeat' split at h);all_goals cases h|ok y=>have d:=sY b;rw[b]at h;simp only[bind,Except.bind,throw,throwThe,MonadExceptOf.throw,pure,Except.pure]at h;(repeat' split at h);(all_goals first|cases h|skip);all_goals refine⟨by simp,λa c=>?_⟩;obtain⟨x,_,rfl⟩:=List.mem_map.1 c;exact d
theorem afR(h:w.farLoad P a atomic=.ok (v,l)):∀b∈l,b.block<w.heap.size:=by unfold World.farLoad at h;split at h;(·split at h;(·rename_i r c;cases h;exact ae9 c);·cases h);·cases h
theorem Ol(h:w.farStore P a x atomic=.ok (w1,l)):w1.heap.size=w.heap.size/\∀b∈l,b.block<w.heap.size:=by unfold World.farStore at h;split at h;(·split at h;(·rename_i r c;cases h;exact ahK c);·cases h);·cases h
theorem all_push{B:Nat}{es:Array Event}{e:Event}(h:∀e∈es,eQ B e)(k:eQ B e):∀x∈es.push e,eQ B x:=by intro x a;rcases Array.mem_push.1 a with a|rfl;(·exact h x a);·exact k
theorem CP{B:Nat}{es:Array Event}{wr:Bool}(h:∀e∈es,eQ B e)(k:∀b∈l,b.block<B):∀x∈es++l.toArray.map (λa=>(⟨.cell a,wr,sy⟩:Event)),eQ B x:=by intro x c;rcases Array.mem_append.1 c with c|c;(·exact h x c);·obtain⟨a,d,rfl⟩:=Array.mem_map.1 c;exact zP (k a (by simpa using d))
theorem Ba:∀(a:Ask α)(w:HA),(w.ask a).2.heap=w.heap:=by intro a;induction a with|done x=>intro w;rfl|ask c d k b=>intro w;unfold World.ask;dsimp only;split;(·exact b _ _);·exact b _ _
theorem xf(w:HA)(c:Sys):(w.sys c).2.heap=w.heap:=by have h:=Ba (Kernel.perform c w.os) w;unfold World.sys;split;(·rfl);·rename_i a;rw[a]at h;exact h
theorem GL{m:Mode}{k:Sem α}{es:Array Event}(h1:∀c,v≠.agg c)(d:∀c,v≠.tuple c):(Sem.store m a v k).runT P w es=(match w.cell? a with|some _=>if w.frozen? a then(.halt (.unsupported (.unsafePointer "a write to bytes that a string shares")) w,es)else k.runT P (w.setCell a v) (es.push ⟨.cell a,true,m==.atomic⟩)|none=>match w.farStore P a v (m==.atomic)with|.ok (w,b)=>k.runT P w (es++b.toArray.map (⟨.cell ·,true,m==.atomic⟩))|.error h=>(.halt h w,es)):=by cases v<;>first|rfl|exact absurd rfl (h1 _)|exact absurd rfl (d _)
def Rows(w w':HA):Prop:=∀(b:Nat)c e z,w.heap[b]?=some (.cells c e z)->∃d a,w'.heap[b]?=some (.cells d e a)
theorem Rows.refl(w:HA):Rows w w:=λb c e z h=>⟨c,z,h⟩
theorem Rows.of{w':HA}(h:w'.heap=w.heap):Rows w w':=λ_ c _ z k=>⟨c,z,by rw[h];exact k⟩
theorem Rows.trans{a b c:HA}(h:Rows a b)(k:Rows b c):Rows a c:=λx y e z q=>by obtain⟨f,g,d⟩:=h x y e z q;exact k x f e g d
theorem Rows.set{b:Nat}{o:Obj}(h:∀c e z,w.heap[b]?=some (.cells c e z)->∃d f,o=.cells d e f):Rows w {w with heap:=w.heap.setIfInBounds b o}:=by intro x c e z a;by_cases hb:b=x;(·subst hb;obtain⟨d,f,rfl⟩:=h c e z a;exact⟨d,f,by simp[(J2.1 a).1]⟩);·exact⟨c,z,by rw[show({w with heap:=w.heap.setIfInBounds b o}:HA).heap=w.heap.setIfInBounds b o from rfl,Array.getElem?_setIfInBounds_ne hb];exact a⟩
theorem Rows.cell(w:HA)(a:Addr)(v:HH):Rows w (w.setCell a v):=by intro x c e z b;by_cases hb:a.block=x;(·refine⟨if a.spot.isSome then c else c.setIfInBounds a.off v,z,?_⟩;simp[World.setCell,Array.getElem?_modify,hb,b]);·refine⟨c,z,?_⟩;simp[World.setCell,Array.getElem?_modify,hb,b]
theorem Rows.freeze(w:HA)(a:Addr)(n:Nat):Rows w (w.freeze a n):=by intro x c e z b;unfold World.freeze;split;(·exact⟨c,z,b⟩);·by_cases hb:a.block=x;(·refine⟨c,if z.1==z.2 then(a.off,a.off+n)else(min z.1 a.off,max z.2 (a.off+n)),?_⟩;simp[Array.getElem?_modify,hb,b]);·refine⟨c,z,?_⟩;simp[Array.getElem?_modify,hb,b]
theorem Qx(h:w.viewStore P at_ u k x atomic=.ok (w1,l)):Rows w w1:=by unfold World.viewStore at h;cases a:w.seen P at_ u k atomic with|error e=>rw[a]at h;simp only[bind,Except.bind,throw,throwThe,MonadExceptOf.throw,pure,Except.pure]at h;(repeat' split at h);all_goals cases h|ok y=>have d:=SW a;rw[a]at h;simp only[bind,Except.bind,throw,throwThe,MonadExceptOf.throw,pure,Except.pure]at h;(repeat' split at h);(all_goals first|(cases h;done)|skip);all_goals cases h;refine Rows.set λc e z b=>?_;rw[d]at b;cases b;exact⟨_,_,rfl⟩
theorem Q5(h:w.farStore P a x atomic=.ok (w1,l)):Rows w w1:=by unfold World.farStore at h;split at h;(·split at h;(·rename_i r b;cases h;exact Qx b);·cases h);·cases h
theorem BI(w:HA)(a:Addr)(s:String):okW w (w.noCell a s):=by
 unfold World.noCell;split;·rename_i h;exact .inr ⟨_,_,_,rfl,h⟩
 ·exact .inl trivial
 ·exact .inl trivial
theorem US{h:Halt}(k:w.farLoad P a atomic=.error h):okW w h:=by unfold World.farLoad at k;split at k;(·split at k;(·cases k);·cases k;exact .inl trivial);·cases k;exact BI _ _ _
theorem Z5{h:Halt}(k:w.farStore P a x atomic=.error h):okW w h:=by unfold World.farStore at k;split at k;(·split at k;(·cases k);·cases k;exact .inl trivial);·cases k;exact BI _ _ _
structure dS{α:Type}(w:HA)(r:Result α×Array Event):Prop where
 size:w.heap.size<=(uU r.1).heap.size
 ev:∀e∈r.2,eQ (uU r.1).heap.size e
 rows:Rows w (uU r.1)
 halt:∀h w',r.1=.halt h w'->okW w' h
theorem dS.here{es:Array Event}{r:Result α}(a:uU r=w)(h:∀e∈es,eQ w.heap.size e)(k:∀h w',r=.halt h w'->okW w' h):dS w (r,es):=⟨by rw[a];exact Nat.le_refl _,by rw[a];exact h,by rw[a];exact Rows.refl _,k⟩
theorem dS.via{r:Result α×Array Event}(b:w.heap.size<=w1.heap.size)(a:Rows w w1)(k:dS w1 r):dS w r:=⟨Nat.le_trans b k.size,k.ev,a.trans k.rows,k.halt⟩
theorem aj.ev(x:Sem α):aj P x->∀(w:HA)(es:Array Event),(∀e∈es,eQ w.heap.size e)->dS w (x.runT P w es):=by induction x with|pure a=>intro _ w es h;exact .here rfl h λh w' k=>by cases k|halt C=>intro d w es h;exact .here rfl h λh w' k=>by cases k;exact .inl d|load m a k f=>intro d w es h;unfold Sem.runT;split;(·rename_i v p;exact f v (d v) w _ (all_push h (zP (World.block_lt_of_cell? w _ p))));·split;(·rename_i v l i;exact f v (d v) w _ (CP h (afR i)));·rename_i i;exact .here rfl h λh w' k=>by cases k;exact US i|store m a v k f=>intro d w es h;by_cases h1:∃c,v=.agg c;(·obtain⟨c,rfl⟩:=h1;exact .here rfl h λh w' k=>by cases k;exact .inl trivial);by_cases j:∃c,v=.tuple c;(·obtain⟨c,rfl⟩:=j;exact .here rfl h λh w' k=>by cases k;exact .inl trivial);·rw[GL (λc e=>h1 ⟨c,e⟩) (λc e=>j ⟨c,e⟩)];split;(·rename_i u p;split;(·exact .here rfl h λh w' k=>by cases k;exact .inl trivial);·have g:(w.setCell a v).heap.size=w.heap.size:=World.size_setCell .. ;exact .via (by rw[g];exact Nat.le_refl _) (Rows.cell w a v) (f d (w.setCell a v) (es.push ⟨.cell a,true,m==.atomic⟩) (by rw[g];exact all_push h (zP (World.block_lt_of_cell? w _ p)))));·split;(·rename_i w1 l i;obtain⟨h1,j⟩:=Ol i;exact .via (by rw[h1];exact Nat.le_refl _) (Q5 i) (f d w1 (es++l.toArray.map (⟨.cell ·,true,m==.atomic⟩)) (by rw[h1];exact CP h j)));·rename_i i;exact .here rfl h λh w' k=>by cases k;exact Z5 i|new o k f=>intro d w es h;unfold Sem.runT;have g:({w with heap:=w.heap.push o}:HA).heap.size=w.heap.size+1:=Array.size_push .. ;exact .via (by rw[g];exact Nat.le_succ _) (λb c e z t=>⟨c,z,by rw[show({w with heap:=w.heap.push o}:HA).heap=w.heap.push o from rfl,Array.getElem?_push_lt (J2.1 t).1,<-Array.getElem?_eq_getElem];exact t⟩) (f w.heap.size (d _) {w with heap:=w.heap.push o} es (by rw[g];exactλe A=>(h e A).mono (Nat.le_succ _)))|shape r k f|frozen a k f=>intro d w es h;exact f _ (d _) w es h|freeze a n k f=>intro d w es h;unfold Sem.runT;(have g:(w.freeze a n).heap.size=w.heap.size:=by unfold World.freeze;split<;>simp);exact .via (by rw[g];exact Nat.le_refl _) (Rows.freeze w a n) (f d (w.freeze a n) es (by rw[g];exact h))|getObj r k f=>intro d w es h;unfold Sem.runT;split;(·exact .here rfl h λh w' k=>by cases k;exact .inl trivial);(·rename_i o _ y;exact f o (d o) w _ (all_push h (FQ (J2.1 y).1)));·exact .here rfl h λh w' k=>by cases k;exact .inl trivial|setObj r o k f=>intro d w es h;unfold Sem.runT;split;(·exact .here rfl h λh w' k=>by cases k;exact .inl trivial);(·rename_i u B s;(have g:({w with heap:=w.heap.setIfInBounds r o}:HA).heap.size=w.heap.size:=by simp);exact .via (by rw[g];exact Nat.le_refl _) (Rows.set λc e z d=>absurd (Option.some.inj (s.symm.trans d)) (λq=>B c e z q)) (f d {w with heap:=w.heap.setIfInBounds r o} (es.push ⟨.obj r,true,o.isChan⟩) (by rw[g];exact all_push h (FQ (J2.1 s).1))));·exact .here rfl h λh w' k=>by cases k;exact .inl trivial|choose q k f=>intro d w es h;unfold Sem.runT;split;(·exact f _ (d _) w es h);·exact .via (w1:={w with drawn:=w.drawn+1}) (Nat.le_refl _) (Rows.of rfl) (f _ (d _) {w with drawn:=w.drawn+1} es h)|sys c k f=>intro d w es h;unfold Sem.runT;(have g:(w.sys c).2.heap.size=w.heap.size:=by rw[xf]);exact .via (by rw[g];exact Nat.le_refl _) (Rows.of (xf w c)) (f (w.sys c).1 (d _) (w.sys c).2 (es.push ⟨.output,true,false⟩) (by rw[g];exact all_push h Uy))|program k f=>intro d w es h;exact f P d w es h|mark m k f=>intro d w es h;exact f d.2 w _ (all_push h (UY d.1))
def Yl(P:Program){α:Type}(A:α->Prop):Sem α->Prop|.pure a=>A a|.load _ _ k=>∀v,Yl P A (k v)|.store _ _ _ k=>Yl P A k|.new _ k=>∀n,Yl P A (k n)|.shape _ k=>∀x,Yl P A (k x)|.freeze _ _ k=>Yl P A k|.frozen _ k=>∀b,Yl P A (k b)|.getObj _ k=>∀o,Yl P A (k o)|.setObj _ _ k=>Yl P A k|.choose _ k=>∀n,Yl P A (k n)|.sys _ k=>∀r,Yl P A (k r)|.program k=>Yl P A (k P)|.mark _ k=>Yl P A k|.halt _=>True
theorem Yl.bind{A:β->Prop}{x:Sem α}{f:α->Sem β}(d:∀a,Yl P A (f a)):Yl P A (x.bind f):=by induction x with|pure a=>exact d a|load m a k b|new o k b|shape r k b|frozen a k b|getObj a k b|choose q k b|sys c k b=>exactλv=>b v|store m a v k b|freeze a n k b|setObj a o k b|mark m k b=>exact b|program k b=>exact b P|halt h=>trivial
theorem Yl.ok{A:α->Prop}(x:Sem α):Yl P A x->∀(w:HA)(es:Array Event)(a:α)(w':HA),(x.runT P w es).1=.ok a w'->A a:=by induction x with|pure a=>intro d w es b w' h;cases h;exact d|halt g=>intro _ w es b w' h;cases h|load m a k f=>intro d w es b w' h;unfold Sem.runT at h;split at h;(·exact f _ (d _) _ _ _ _ h);·split at h;(·exact f _ (d _) _ _ _ _ h);·cases h|store m a v k f=>intro d w es b w' h;by_cases h1:∃c,v=.agg c;(·obtain⟨c,rfl⟩:=h1;cases h);by_cases h2:∃c,v=.tuple c;(·obtain⟨c,rfl⟩:=h2;cases h);rw[GL (λc e=>h1 ⟨c,e⟩) (λc e=>h2 ⟨c,e⟩)]at h;split at h;(·split at h;(·cases h);·exact f d _ _ _ _ h);·split at h;(·exact f d _ _ _ _ h);·cases h|new o k f|shape r k f|frozen a k f|sys c k f=>intro d w es b w' h;exact f _ (d _) _ _ _ _ h|freeze a n k f|mark m k f=>intro d w es b w' h;exact f d _ _ _ _ h|getObj r k f=>intro d w es b w' h;unfold Sem.runT at h;split at h;(·cases h);(·exact f _ (d _) _ _ _ _ h);·cases h|setObj r o k f=>intro d w es b w' h;unfold Sem.runT at h;split at h;(·cases h);(·exact f d _ _ _ _ h);·cases h|choose q k f=>intro d w es b w' h;unfold Sem.runT at h;split at h;(·exact f _ (d _) _ _ _ _ h);·exact f _ (d _) _ _ _ _ h|program k f=>intro d w es b w' h;exact f P d _ _ _ _ h
end Un
