/- Runs, a part. -/
import Derived.Test.YtjebhbopmfcopaaGreatDoorZr
namespace Go.Proofs.YtjebhbopmfcopaaGreatDoor
open Go.Proofs
noncomputable section
variable{cs:B6}{own2:Bool}{N d2 d4 dn j k m n:Nat}{f:Nat->Nat}{O2:Nat->Prop}{job2:Option Nat}{α:Type}{w w':DS}
namespace Ph
open Conc ConcN ConcM Kw
inductive Mc where|md|ma|mr|me|mg|kd|w1|w2|ww|w3|w4|ke|aq deriving DecidableEq
structure Mt where
 pc:Mc
 i:Nat:=0
 cnt:Nat:=0
 wt:Nat:=0
inductive eW:Mt->Sh->Mt->Sh->Prop|md{M s}(h:M.pc=.md):eW M s {M with pc:=.ma} s|yA{M s}(h:M.pc=.ma)(h0:s.cnt=0):eW M s {M with pc:=.mr} {s with cnt:=s.cnt+1}|Ba{M s}(h:M.pc=.ma)(h0:s.cnt≠0):eW M s {M with pc:=.me} {s with cnt:=s.cnt+1}|mr{M s}(h:M.pc=.mr):eW M s {M with pc:=.me} s|me{M s}(h:M.pc=.me):eW M s {M with pc:=.mg} s|kd{M s}(h:M.pc=.kd):eW M s {M with pc:=.w1} s|wU{M s}(h:M.pc=.w1)(h0:s.cnt=0):eW M s {M with pc:=.ke} s|xU{M s}(h:M.pc=.w1)(h0:s.cnt≠0):eW M s {M with pc:=.w2,cnt:=s.cnt,wt:=s.wt} s|Aw{M s}(h:M.pc=.w2)(hc:s.cnt=M.cnt/\s.wt=M.wt):eW M s {M with pc:=.ww} {s with wt:=s.wt+1}|wQ{M s}(h:M.pc=.w2)(hc:¬(s.cnt=M.cnt/\s.wt=M.wt)):eW M s {M with pc:=.w1} s|ww{M s}(h:M.pc=.ww):eW M s {M with pc:=.w3} s|w3{M s}(h:M.pc=.w3)(h0:s.ws≠0):eW M s {M with pc:=.w4} {s with ws:=s.ws-1}|w4{M s}(h:M.pc=.w4):eW M s {M with pc:=.ke} s|ke{M s}(h:M.pc=.ke):eW M s {M with pc:=.aq} s
def cf(M:Mt):Nat:=match M.pc with|.mr|.me|.mg=>1|_=>0
def bV(M:Mt):Nat:=match M.pc with|.ww|.w3=>1|_=>0
def ck(M:Mt):Bool:=match M.pc with|.md|.ma|.mr|.me|.mg=>true|_=>false
def cC(M:Mt):Bool:=match M.pc with|.w4|.ke|.aq=>true|_=>false
def aB(T:Th):Nat:=match T.pc with|.d2|.d3|.d4|.quit=>1|_=>0
def aE(T:Th):Nat:=match T.pc with|.d2|.d3=>1|_=>0
def aF(T:Th):Nat:=match T.pc with|.d4=>1|_=>0
structure WI(n j:Nat)(M:Mt)(s:Sh)(dn d2 d4:Nat):Prop where
 su:s.cnt+dn=j+cf M
 wJ:s.wt+d4+s.ws=bV M
 fu:1<=d2->s.wt=1/\s.cnt=0
 xd:1<=d4+s.ws->s.cnt=0
 fork:ck M=true->j<n
 join:ck M=false->j=n
 fin:cC M=true->s.cnt=0
 w2:M.pc=.w2->M.wt=0/\M.cnt≠0/\M.cnt<=n+1
 one:d2<=1
 gap:s.wt=1->s.cnt=0->1<=d2
set_option linter.unusedSimpArgs false in theorem aee{M k:Mt}{s s':Sh}(h:eW M s k s')(l:WI n j M s dn d2 d4):WI n j k s' dn d2 d4:=by obtain⟨h1,c,d,e,b,a,g,f,i,o⟩:=l;cases h with|md h|yA h h0|Ba h h0|mr h|me h|kd h|wU h h0|xU h h0|Aw h m|wQ h m|ww h|w3 h h0|w4 h|ke h=>simp only[cf,bV,ck,cC,h,reduceCtorEq,false_implies,true_implies,Bool.true_eq_false,Bool.false_eq_true,implies_true]at h1 c d e b a g f;refine⟨?_,?_,?_,?_,?_,?_,?_,?_,i,?_⟩<;>(try simp only[cf,bV,ck,cC,h,reduceCtorEq,false_implies,true_implies,Bool.true_eq_false,Bool.false_eq_true,implies_true])<;>omega
set_option linter.unusedSimpArgs false in theorem ZS{M:Mt}{T T':Th}{s s':Sh}(h:Mv N m T s T' s')(w:WI n j M s (aB T+dn) (aE T+d2) (aF T+d4))(k:aB T+dn+1<=j+aB T):WI n j M s' (aB T'+dn) (aE T'+d2) (aF T'+d4):=by obtain⟨h1,o,q,i,d,c,a,f,g,l⟩:=w;cases h with|ld h|rI h t|xp h t|sP h|nl h t|rF h t|mT h t h0|qJ h t|t1 h|s1 h A|t2 b h|vn h v|a1 h|le h|sg h y|sW h y|ur h|ud h|rE h t|qK h t|us h|wr h|wd h|xi h u|zy h u|d2 h|d3 h|d4 h=>((all_goals simp only[aB,aE,aF,h]at h1 o q i g l k);all_goals refine⟨?_,?_,?_,?_,d,c,λe=>(by have r:=a e;clear d c a f;first|omega|simp),f,?_,?_⟩<;>(try simp only[aB,aE,aF,h])<;>(try dsimp only)<;>first|omega|(intros;simp;done)|(intros;simp;omega))|r0 h|r1 h|r3 h|kg h v=>(unfold head;split;(all_goals simp only[aB,aE,aF,h]at h1 o q i g l k);all_goals refine⟨?_,?_,?_,?_,d,c,λe=>(by have r:=a e;clear d c a f;first|omega|simp),f,?_,?_⟩<;>(try simp only[aB,aE,aF,h])<;>(try dsimp only)<;>first|omega|(intros;simp;done)|(intros;simp;omega))|kS h z=>(split;(all_goals simp only[aB,aE,aF,h]at h1 o q i g l k);all_goals refine⟨?_,?_,?_,?_,d,c,λe=>(by have r:=a e;clear d c a f;first|omega|simp),f,?_,?_⟩<;>(try simp only[aB,aE,aF,h])<;>(try dsimp only)<;>first|omega|(intros;simp;done)|(intros;simp;omega))|jm p h x t h0=>(rcases x with rfl|rfl;(all_goals simp only[aB,aE,aF,h]at h1 o q i g l k);all_goals refine⟨?_,?_,?_,?_,d,c,λe=>(by have r:=a e;clear d c a f;first|omega|simp),f,?_,?_⟩<;>(try simp only[aB,aE,aF,h])<;>(try dsimp only)<;>first|omega|(intros;simp;done)|(intros;simp;omega))|u0 h=>(unfold dv;split;rotate_left;split;unfold cG;split;(all_goals simp only[aB,aE,aF,h]at h1 o q i g l k);all_goals refine⟨?_,?_,?_,?_,d,c,λe=>(by have r:=a e;clear d c a f;first|omega|simp),f,?_,?_⟩<;>(try simp only[aB,aE,aF,h])<;>(try dsimp only)<;>first|omega|(intros;simp;done)|(intros;simp;omega))|ux h=>(unfold cG;split;(all_goals simp only[aB,aE,aF,h]at h1 o q i g l k);all_goals refine⟨?_,?_,?_,?_,d,c,λe=>(by have r:=a e;clear d c a f;first|omega|simp),f,?_,?_⟩<;>(try simp only[aB,aE,aF,h])<;>(try dsimp only)<;>first|omega|(intros;simp;done)|(intros;simp;omega))|ue h=>unfold next;split;rotate_left;split;(all_goals simp only[aB,aE,aF,h]at h1 o q i g l k);all_goals refine⟨?_,?_,?_,?_,d,c,λe=>(by have r:=a e;clear d c a f;first|omega|simp),f,?_,?_⟩<;>(try simp only[aB,aE,aF,h])<;>(try dsimp only)<;>first|omega|(intros;simp;done)|(intros;simp;omega)
theorem PP{M a:Mt}{s s':Sh}(h:eW M s a s'):a.i=M.i/\s'.word=s.word/\s'.ms=s.ms:=by cases h<;>exact⟨rfl,rfl,rfl⟩
def eC(p:Mc):Nat:=match p with|.md=>6|.ma=>5|.mr=>4|.me=>3|.mg=>2|.kd=>10|.w1|.w2=>9|.ww=>8|.w3=>7|.w4=>6|.ke=>5|.aq=>4
def nz(M:Mt)(s:Sh):Nat:=match M.pc with|.w1=>2|.w2=>if s.cnt=M.cnt/\s.wt=M.wt then 1 else 3|_=>0
theorem afR{M a:Mt}{s s':Sh}(h:eW M s a s'):eC a.pc+s'.ws<eC M.pc+s.ws\/(eC a.pc=eC M.pc/\s'=s/\nz a s<nz M s):=by cases h with|xU h h0=>right;exact⟨by simp[eC,h],rfl,by simp[nz,h]⟩|wQ h b=>right;exact⟨by simp[eC,h],rfl,by simp only[nz,h];rw[if_neg b];omega⟩|w3 h h0=>left;simp only[eC,h];omega|md h|yA h h0|Ba h h0|mr h|me h|kd h|wU h h0|Aw h b|ww h|w4 h|ke h=>left;simp[eC,h]
def cM(M:Mt):Nat:=match M.pc with|.md|.mg|.kd|.aq=>0|_=>1
def mR(C:Cx)(M b:Mt)(a:Array Event):Prop:=match M.pc with|.mr=>a=#[mk (.read (eI C))]|.ww=>a=#[mk (.write (eI C))]|_=>gQ C (cM M) (cM b) a
structure pP(M:Mt)(s:Sh):Prop where
 ok:s.ok
 ma:M.pc=.ma->s.wt=0
 w1:M.pc=.w1->s.wt=0
 w2:M.pc=.w2->M.wt=0/\M.cnt≠0/\M.cnt<=60
 w4:M.pc=.w4->s.cnt=0/\s.wt=0
abbrev gS:Nat->Prop:=λ_=>False
def C5(C:Cx)(g g':Dm):Prop:=g.status=.running/\g'.status=.running/\∀m w,Live C w->stepG C.P m g w=.go g' w #[]
def iU(C:Cx):Nat->Dm->Dm->Prop|0,g,g'=>g=g'|n+1,g,g'=>∃a,C5 C g a/\iU C n a g'
theorem iU.of{C:Cx}:∀{n:Nat}{g g':Dm},ji C.P n g g'->iU C n g g'|0,_,_,h=>h|_+1,_,_,⟨g1,h1,a⟩=>⟨g1,⟨h1.1,h1.2.1,λm w _=>h1.2.2 m w⟩,iU.of a⟩
theorem iU.trans{C:Cx}:∀{n m:Nat}{a b c:Dm},iU C n a b->iU C m b c->iU C (n+m) a c|0,m,a,b,c,h,k=>by rw[Nat.zero_add];cases h;exact k|n+1,m,a,b,c,⟨g1,h1,d⟩,k=>by rw[Nat.add_right_comm];exact⟨g1,h1,d.trans k⟩
def ib(C:Cx)(MAt:Mt->Dm->DS->Prop)(M:Mt)(n:Nat)(g:Dm)(w:DS):Prop:=∃b,iU C n g b/\∀a,Rl C gS false none w a->MAt M b a
structure jk(C:Cx)(At:Th->GC->(Nat->Prop)->Dm->DS->Prop)(MAt:Mt->Dm->DS->Prop)(Fin:Dm->Prop)(M:Mt)(g:Dm)(w:DS):Prop where
 run:g.status=.running
 off:g.offers=none
 wait:∀s g0,ShAt C w s g0->M.pc=.w3->s.ws=0->stepG C.P true g w=.go {g with status:=.blocked} w #[]
 step:∀s g0,ShAt C w s g0->pP M s->M.pc≠.mg->M.pc≠.aq->¬(M.pc=.w3/\s.ws=0)->∃M' s' g' w' es,eW M s M' s'/\stepG C.P true g w=.go g' w' es/\ShAt C w' s' g0/\Eff C w w'/\mR C M M' es/\∃n,ib C MAt M' n g' w'
 fork:M.pc=.mg->M.i<C.n->∃g' child,stepG C.P true g w=.spawn g' child w #[]/\child.status=.running/\g'.status=.running/\(∃n,ib C MAt {pc:=if M.i+1<C.n then .md else .kd,i:=M.i+1} n g' w)/\∀y,av C false false false none none (At {pc:=.ld} y) gS child w
 acq:M.pc=.aq->∃g',stepG C.P true g w=.go g' w #[mk (.acquire (dC C))]/\g'.status=.running/\Fin g'
inductive qL:Tr->Tr->Prop|mk(f:DS->Tr)(w:DS):qL (f w) (.node f)
theorem ZR:WellFounded qL:=by refine⟨λt=>?_⟩;induction t with|leaf=>exact⟨_,λy h=>by cases h⟩|node f a=>exact⟨_,λy h=>by cases h with|mk _ w=>exact a w⟩
abbrev Xm:=Nat×Tr
abbrev wR:Xm->Xm->Prop:=Prod.Lex (·<·) qL
theorem M8:WellFounded wR:=(Prod.lex Nat.lt_wfRel ⟨qL,ZR⟩).wf
inductive One:List Xm->List Xm->Prop|head{x y:Xm}{l:List Xm}(h:wR x y):One (x::l) (y::l)|tail{x:Xm}{l l':List Xm}(h:One l' l):One (x::l') (x::l)
theorem ET:∀l:List Xm,Acc One l|[]=>⟨_,λy h=>by cases h⟩|x::l=>by have a:=ET l;induction M8.apply x generalizing l with|intro x _ c=>induction a with|intro l a b=>refine⟨_,λy h=>?_⟩;cases h with|head h=>exact c _ h l ⟨_,a⟩|tail h=>exact b _ h
theorem QL:WellFounded One:=⟨ET⟩
theorem ye:∀{l:List Xm}{i:Nat}{x y:Xm},l[i]?=some y->wR x y->One (l.set i x) l|[],_,_,_,h,_=>by simp at h|a::l,0,x,y,h,b=>by simp only[List.getElem?_cons_zero,Option.some.injEq]at h;subst h;exact .head b|a::l,i+1,x,y,h,b=>.tail (ye (by simpa using h) b)
abbrev Ms:=Nat×(List Xm×Nat)
abbrev yB:Ms->Ms->Prop:=Prod.Lex (·<·) (Prod.Lex One (·<·))
theorem Vs:WellFounded yB:=(Prod.lex Nat.lt_wfRel (Prod.lex ⟨One,QL⟩ Nat.lt_wfRel)).wf
def cF:Nat->(Nat->Int)->Int|0,_=>0|j+1,f=>cF j f+f j
theorem xF{f g:Nat->Int}:∀{j:Nat},(∀i,i<j->f i=g i)->cF j f=cF j g|0,_=>rfl|j+1,h=>by rw[cF,cF,xF (λi a=>h i (by omega)),h j (by omega)]
theorem Gi{α:Type}(f:Nat->α)(x:α)(b:α->Int){i:Nat}:∀{j:Nat},i<j->cF j (λa=>b (ConcN.upd f i x a))+b (f i)=cF j (λa=>b (f a))+b x|j+1,h=>by rcases Nat.lt_or_ge i j with c|e;(·have:=Gi f x b c;simp only[cF,upd_ne f x (show j≠i by omega)];omega);·(obtain rfl:i=j:=by omega);simp only[cF,upd_same];rw[xF (g:=λa=>b (f a)) (λa d=>by rw[upd_ne f x (by omega)])];omega
theorem I8(f:Nat->Nat){i:Nat}:∀{j:Nat},i<j->∃r,sumTo j f=f i+r/\∀(g:Nat->Nat),(∀a,a≠i->g a=f a)->sumTo j g=g i+r|j+1,h=>by rcases Nat.lt_or_ge i j with d|e;(·obtain⟨r,h1,c⟩:=I8 f d;refine⟨r+f j,by rw[sumTo,h1];omega,λg b=>?_⟩;rw[sumTo,c g b,b j (by omega)];omega);·(obtain rfl:i=j:=by omega);refine⟨sumTo i f,by rw[sumTo];omega,λg b=>?_⟩;rw[sumTo,sumTo_congr (g:=f) λa k=>b a (by omega)];omega
def pre(p:Pc):Bool:=match p with|.ld|.l0|.r0|.sq|.c1|.r1|.c2|.t1|.s1|.t2|.r2|.a1|.r3|.le|.la=>true|_=>false
def post(p:Pc):Bool:=match p with|.ur|.ud|.u0|.uc|.ux|.us|.ue=>true|_=>false
structure TJ(T:Th):Prop where
 uH:T.ct=false->pre T.pc=true->T.af=none
 qD:T.ct=true->T.af.isSome=true
 jE:T.cd=(T.ct&&post T.pc)
 Ez:tail T.pc=true->T.af=none/\T.ct=false
theorem aho{T T':Th}(h:TJ T)(h1:T'.ct=T.ct)(c:T'.af=T.af)(k:T'.cd=T.cd)(f:(pre T.pc=true/\pre T'.pc=true)\/(post T.pc=true/\post T'.pc=true)\/(tail T.pc=true/\tail T'.pc=true)):TJ T':=by
 have e:∀p,(pre p=true->post p=false/\Ph.tail p=false)/\(post p=true->pre p=false/\Ph.tail p=false)/\(Ph.tail p=true->pre p=false/\post p=false):=by intro p;cases p<;>simp[pre,post,Ph.tail]
 obtain⟨a1,a2,a3⟩:=e T.pc;obtain⟨g,j,i⟩:=e T'.pc;refine⟨λd a=>?_,λd=>by rw[c];exact h.qD (h1▸d),?_,λb=>?_⟩;·rw[c];rcases f with⟨x,_⟩|⟨_,y⟩|⟨_,y⟩;(·exact h.uH (h1▸d) x);(·rw[(j y).1]at a;cases a);·rw[(i y).1]at a;cases a
 ·rw[k,h.jE,h1];rcases f with⟨x,y⟩|⟨x,y⟩|⟨x,y⟩;(·rw[(a1 x).1,(g y).1]);(·rw[x,y]);·rw[(a3 x).2,(i y).2]
 ·rw[c,h1];rcases f with⟨_,y⟩|⟨_,y⟩|⟨x,_⟩;(·rw[(g y).2]at b;cases b);(·rw[(j y).2]at b;cases b);·exact h.Ez x
def over(T:Th):Prop:=tail T.pc=true\/(T.ct=false/\post T.pc=true/\T.af=none)
def hold(T:Th):Prop:=T.ct=false\/T.pc=.ld
theorem sx(T:Th):pre (head T).pc=true/\(head T).ct=T.ct/\(head T).af=T.af/\(head T).cd=T.cd/\(head T).pc≠.ld/\(head T).pc≠.la:=by unfold head;split<;>simp[pre]
theorem Hx(T:Th):post (cG T).pc=true/\(cG T).ct=T.ct/\(cG T).af=T.af/\(cG T).cd=T.cd:=by unfold cG;split<;>simp[post]
theorem Zj(T:Th)(x:Wd):post (dv T x).pc=true/\(dv T x).ct=T.ct/\(dv T x).af=T.af/\(dv T x).cd=T.cd:=by unfold dv;split;(·simp[post]);·split;(·exact Hx {T with old:=x});·simp[post]
theorem zV{T T':Th}{s s':Sh}(h:Mv N n T s T' s')(o:TJ T):TJ T'/\((T'.af=T.af/\T'.cd=T.cd/\T.pc≠.la/\(over T'->over T)/\(hold T->hold T'\/T.pc=.ld)/\(hold T'->hold T))\/(T.pc=.la/\T.ct=false/\T.af=none/\T'.cd=false/\T.cd=false/\T'.ct=false/\T'.pc=.ur/\(n<N/\T'.af=some n\/¬n<N/\T'.af=none))\/(T.pc=.la/\T.ct=true/\T.cd=false/\T'.cd=true/\T'.af=T.af/\T'.ct=true/\T'.pc=.ur)\/(T.pc=.ue/\T.ct=true/\T.cd=true/\T'.af=none/\T'.cd=false/\T'.ct=false/\T'.pc=.ld)\/(T.pc=.ue/\T.ct=false/\T'.af=T.af/\T'.cd=T.cd/\hold T'/\hold T/\(over T'->over T))):=by(have same:∀{T':Th},T'.ct=T.ct->T'.af=T.af->T'.cd=T.cd->((pre T.pc=true/\pre T'.pc=true)\/(post T.pc=true/\post T'.pc=true)\/(tail T.pc=true/\tail T'.pc=true))->T.pc≠.la->T'.pc≠.ld->TJ T'/\(T'.af=T.af/\T'.cd=T.cd/\T.pc≠.la/\(over T'->over T)/\(hold T->hold T'\/T.pc=.ld)/\(hold T'->hold T)):=by intro T' h1 t v r z C;(have e:∀p,(pre p=true->post p=false/\tail p=false)/\(post p=true->pre p=false/\tail p=false)/\(tail p=true->pre p=false/\post p=false):=by intro p;cases p<;>simp[pre,post,tail]);obtain⟨a1,a2,a3⟩:=e T.pc;obtain⟨w,F,H⟩:=e T'.pc;refine⟨aho o h1 t v r,t,v,z,λi=>?_,λj=>?_,λj=>?_⟩;(·unfold over at i⊢;rw[h1,t]at i;rcases r with⟨x,y⟩|⟨x,y⟩|⟨x,y⟩;(·rcases i with i|⟨_,i,_⟩;(·rw[(w y).2]at i;cases i);·rw[(w y).1]at i;cases i);(·rcases i with i|⟨A,_,B⟩;(·rw[(F y).2]at i;cases i);·exact .inr ⟨A,x,B⟩);·exact .inl x);(·unfold hold at j⊢;rw[h1];rcases j with j|j;(·exact .inl (.inl j));·exact .inr j);·unfold hold at j⊢;rw[h1]at j;exact j.imp id λx=>absurd x C);cases h with|sg h g=>have E:=o.uH g (by rw[h];rfl);(have jE:T.cd=false:=by rw[o.jE,g];rfl);refine⟨⟨λ_ r=>(by simp[pre]at r),λk=>(by simp[g]at k),by simp[g],λq=>(by simp[tail]at q)⟩,.inr (.inl ⟨h,g,E,rfl,jE,g,rfl,?_⟩)⟩;by_cases hnn:n<N;(·exact .inl ⟨hnn,by simp[hnn]⟩);·exact .inr ⟨hnn,by simp[hnn]⟩|sW h g=>refine⟨⟨λk=>(by simp[g]at k),λ_=>o.qD g,by simp[g,post],λq=>(by simp[tail]at q)⟩,.inr (.inr (.inl ⟨h,g,by rw[o.jE,h];simp[post],rfl,rfl,g,rfl⟩))⟩|ue h=>(cases g:T.ct with|true=>(have e:next T={pc:=.ld}:=by unfold next;rw[if_pos g]);rw[e];exact⟨⟨λ_ _=>rfl,λk=>(by cases k),rfl,λq=>(by simp[tail]at q)⟩,.inr (.inr (.inr (.inl ⟨h,rfl,by rw[o.jE,g,h];rfl,rfl,rfl,rfl,rfl⟩)))⟩|false=>(have jE:T.cd=false:=by rw[o.jE,g];rfl);cases u:T.af with|none=>(have e:next T={pc:=.wr}:=by unfold next;simp[g,u]);rw[e];exact⟨⟨λ_ _=>rfl,λk=>(by cases k),rfl,λ_=>⟨rfl,rfl⟩⟩,.inr (.inr (.inr (.inr ⟨h,rfl,rfl,jE.symm,.inl rfl,.inl g,λ_=>.inr ⟨g,by rw[h];rfl,u⟩⟩)))⟩|some m=>(have e:next T={pc:=.ld,ct:=true,af:=some m}:=by unfold next;simp[g,u]);rw[e];refine⟨⟨λk=>(by cases k),λ_=>rfl,rfl,λq=>(by simp[tail]at q)⟩,.inr (.inr (.inr (.inr ⟨h,rfl,rfl,jE.symm,.inr rfl,.inl g,λi=>?_⟩)))⟩;rcases i with i|⟨i,_⟩;(·simp[tail]at i);·cases i)|r0 h=>obtain⟨a,b,c,d,e,f⟩:=sx {T with old:=s.word,aw:=false,sv:=false,it:=0};obtain⟨x,y⟩:=same (T':=head {T with old:=s.word,aw:=false,sv:=false,it:=0}) b c d (.inl ⟨by rw[h];rfl,a⟩) (by rw[h];simp) e;exact⟨x,.inl y⟩|r1 h=>obtain⟨a,b,c,d,e,f⟩:=sx {T with old:=s.word,it:=T.it+1};obtain⟨x,y⟩:=same (T':=head {T with old:=s.word,it:=T.it+1}) b c d (.inl ⟨by rw[h];rfl,a⟩) (by rw[h];simp) e;exact⟨x,.inl y⟩|r3 h=>obtain⟨a,b,c,d,e,f⟩:=sx {T with old:=s.word};obtain⟨x,y⟩:=same (T':=head {T with old:=s.word}) b c d (.inl ⟨by rw[h];rfl,a⟩) (by rw[h];simp) e;exact⟨x,.inl y⟩|kg h J=>obtain⟨a,b,c,d,e,f⟩:=sx {T with old:=s.word,aw:=true,it:=0};obtain⟨x,y⟩:=same (T':=head {T with old:=s.word,aw:=true,it:=0}) b c d (.inl ⟨by rw[h];rfl,a⟩) (by rw[h];simp) e;exact⟨x,.inl y⟩|kS h I=>split<;>(refine(same ?_ ?_ ?_ ?_ ?_ ?_).imp id .inl<;>simp[h,pre])|ux h=>obtain⟨a,b,c,d⟩:=Hx {T with old:=s.word};obtain⟨x,y⟩:=same (T':=cG {T with old:=s.word}) b c d (.inr (.inl ⟨by rw[h];rfl,a⟩)) (by rw[h];simp) (λe=>by rw[e]at a;cases a);exact⟨x,.inl y⟩|u0 h=>obtain⟨a,b,c,d⟩:=Zj T {s.word with l:=0};obtain⟨x,y⟩:=same (T':=dv T {s.word with l:=0}) b c d (.inr (.inl ⟨by rw[h];rfl,a⟩)) (by rw[h];simp) (λe=>by rw[e]at a;cases a);exact⟨x,.inl y⟩|mT h G h0=>refine(same ?_ ?_ ?_ ?_ ?_ ?_).imp id .inl<;>simp[h,pre]|jm p h r G h0=>rcases r with rfl|rfl<;>(refine(same ?_ ?_ ?_ ?_ ?_ ?_).imp id .inl<;>simp[h,pre])|_=>rename_i h;first|(refine(same ?_ ?_ ?_ ?_ ?_ ?_).imp id .inl<;>simp[h,pre,post,tail];done)|(rename_i D;refine(same ?_ ?_ ?_ ?_ ?_ ?_).imp id .inl<;>simp[D,pre,post,tail];done)
def pend(C:Cx)(i:Nat)(T:Th):Int:=if T.cd then 0 else match T.af with|some m=>C.bj m i|none=>0
structure DI(C:Cx)(D:GC)(j:Nat)(T:Nat->Th):Prop where
 tj:∀k,k<j->TJ (T k)
 le:D.n<=C.N
 lt:∀k,k<j->∀m,(T k).af=some m->m<D.n
 bB:∀k k',k<j->k'<j->∀m,(T k).af=some m->(T k').af=some m->k=k'
 nV:∀k,k<j->over (T k)->D.n=C.N
 sum:∀i,D.c i+cF j (λk=>pend C i (T k))=cF D.n (λm=>C.bj m i)
theorem yv{B:Int}{f:Nat->Int}(h:∀k,0<=f k/\f k<=B):∀n,0<=cF n f/\cF n f<=n*B|0=>⟨by simp[cF],by simp[cF]⟩|n+1=>by have b:=yv h n;have a:=h n;(have e:((n+1:Nat):Int)*B=n*B+B:=by rw[Int.natCast_succ,Int.add_mul,Int.one_mul]);rw[e];simp only[cF];omega
theorem DI.bound{C:Cx}{D:GC}{T:Nat->Th}(h:DI C D j T)(a:∀m i,0<=C.bj m i/\C.bj m i<=65536)(c:C.N<=4294967296)(d:j<=16)(i:Nat):-1152921504606846976<=D.c i/\D.c i<=1152921504606846976:=by
 have h1:=yv (f:=λm=>C.bj m i) (λm=>a m i) D.n;have e:=yv (B:=65536) (f:=λk=>pend C i (T k)) (λk=>by unfold pend;split;(·omega);·split;(·exact a _ _);·omega) j;have g:=h.sum i;have b:=h.le;have e1:(D.n:Int)*65536<=4294967296*65536:=by omega
 have e2:(j:Int)*65536<=16*65536:=by omega
 omega
theorem sG{C:Cx}{T:Nat->Th}{T':Th}(b:k<j)(i:Nat):cF j (λa=>pend C i (ConcN.upd T k T' a))=cF j (λa=>pend C i (T a))+pend C i T'-pend C i (T k):=by have:=Gi T T' (pend C i) b;omega
theorem dx(T:Nat->α)(T':α)(k a:Nat):(a=k/\ConcN.upd T k T' a=T')\/(a≠k/\ConcN.upd T k T' a=T a):=by by_cases h:a=k;(·subst h;exact .inl ⟨rfl,upd_same _ _ _⟩);·exact .inr ⟨h,upd_ne _ _ h⟩
def bD(C:Cx)(T:Th)(D:GC):GC:=if T.pc=.la then upd C T D else D
theorem Hz(C:Cx)(T:Th)(D:GC):D.n<=(bD C T D).n:=by unfold bD upd;split;(·split;(·exact Nat.le_refl _);·split;(·exact Nat.le_succ _);·exact Nat.le_refl _);·exact Nat.le_refl _
theorem XN{C:Cx}{D:GC}{T:Nat->Th}{T':Th}{s s':Sh}(h:Mv C.N D.n (T k) s T' s')(A:k<j)(g:DI C D j T):DI C (bD C (T k) D) j (ConcN.upd T k T'):=by
 obtain⟨P,R⟩:=zV h (g.tj k A);have tj:∀a,a<j->TJ (ConcN.upd T k T' a):=λa f=>by rcases dx T T' k a with⟨_,e⟩|⟨_,e⟩;(·rw[e];exact P);·rw[e];exact g.tj a f
 have keep:T'.af=(T k).af->T'.cd=(T k).cd->(T k).pc≠.la->(over T'->over (T k))->DI C (bD C (T k) D) j (ConcN.upd T k T'):=by intro q S G N;(have e:bD C (T k) D=D:=by unfold bD;rw[if_neg G]);rw[e];refine⟨tj,g.le,λa f m l=>?_,λa b f v m h1 u=>?_,λa f d=>?_,λi=>?_⟩;(·rcases dx T T' k a with⟨rfl,e⟩|⟨_,e⟩;(·rw[e,q]at l;exact g.lt a f m l);·rw[e]at l;exact g.lt a f m l);(·(have H:∀a,(ConcN.upd T k T' a).af=(T a).af:=λa=>by rcases dx T T' k a with⟨rfl,e⟩|⟨_,e⟩;(·rw[e,q]);·rw[e]);rw[H]at h1 u;exact g.bB a b f v m h1 u);(·rcases dx T T' k a with⟨rfl,e⟩|⟨_,e⟩;(·rw[e]at d;exact g.nV a f (N d));·rw[e]at d;exact g.nV a f d);·(have w:pend C i T'=pend C i (T k):=by unfold pend;rw[q,S]);rw[sG A,w];have:=g.sum i;omega
 rcases R with⟨h1,u,y,r,_⟩|⟨h1,u,y,r,B,I,z,V⟩|⟨h1,u,y,r,B,I,z⟩|⟨h1,u,y,r,B,I,z⟩|⟨h1,u,y,r,_,_,z⟩;·exact keep h1 u y r
 ·(have K:∀i,pend C i (T k)=0:=λi=>by unfold pend;rw[B,y];rfl);rcases V with⟨E,q⟩|⟨E,q⟩;(·(have e:bD C (T k) D={D with n:=D.n+1}:=by unfold bD upd;rw[if_pos h1,u];simp[E]);rw[e];refine⟨tj,E,λa f m l=>?_,λa b f v m p o=>?_,λa f d=>?_,λi=>?_⟩;(·rcases dx T T' k a with⟨rfl,e⟩|⟨_,e⟩;(·rw[e,q]at l;cases l;exact Nat.lt_succ_self _);·rw[e]at l;exact Nat.lt_succ_of_lt (g.lt a f m l));(·rcases dx T T' k a with⟨O,e⟩|⟨L,e⟩<;>rcases dx T T' k b with⟨Q,t⟩|⟨M,t⟩;(·rw[O,Q]);(·rw[e,q]at p;cases p;rw[t]at o;exact absurd (g.lt b v _ o) (Nat.lt_irrefl _));(·rw[t,q]at o;cases o;rw[e]at p;exact absurd (g.lt a f _ p) (Nat.lt_irrefl _));·rw[e]at p;rw[t]at o;exact g.bB a b f v m p o);(·exfalso;rcases dx T T' k a with⟨rfl,e⟩|⟨_,e⟩;(·rw[e]at d;rcases d with d|⟨_,_,d⟩;(·rw[z]at d;cases d);·rw[q]at d;cases d);·rw[e]at d;have:=g.nV a f d;omega);·(have w:pend C i T'=C.bj D.n i:=by unfold pend;rw[r,q];rfl);rw[sG A,w,K];have:=g.sum i;simp only[cF];omega);·(have e:bD C (T k) D=D:=by unfold bD upd;rw[if_pos h1,u];simp[E]);rw[e];(have U:D.n=C.N:=by have:=g.le;omega);refine⟨tj,g.le,λa f m l=>?_,λa b f v m p o=>?_,λ_ _ _=>U,λi=>?_⟩;(·rcases dx T T' k a with⟨rfl,e⟩|⟨_,e⟩;(·rw[e,q]at l;cases l);·rw[e]at l;exact g.lt a f m l);(·rcases dx T T' k a with⟨rfl,e⟩|⟨L,e⟩;(·rw[e,q]at p;cases p);·rcases dx T T' k b with⟨rfl,t⟩|⟨M,t⟩;(·rw[t,q]at o;cases o);·rw[e]at p;rw[t]at o;exact g.bB a b f v m p o);·(have w:pend C i T'=0:=by unfold pend;rw[r,q];rfl);rw[sG A,w,K];have:=g.sum i;omega
 ·obtain⟨m,l⟩:=Option.isSome_iff_exists.1 ((g.tj k A).qD u);(have e:bD C (T k) D={D with c:=λi=>D.c i+C.bj m i}:=by unfold bD upd;rw[if_pos h1,u];simp[l]);rw[e];refine⟨tj,g.le,λa f x F=>?_,λa b f v x p o=>?_,λa f d=>?_,λi=>?_⟩;(·rcases dx T T' k a with⟨rfl,e⟩|⟨_,e⟩;(·rw[e,B]at F;exact g.lt a f x F);·rw[e]at F;exact g.lt a f x F);(·(have H:∀a,(ConcN.upd T k T' a).af=(T a).af:=λa=>by rcases dx T T' k a with⟨rfl,e⟩|⟨_,e⟩;(·rw[e,B]);·rw[e]);rw[H]at p o;exact g.bB a b f v x p o);(·rcases dx T T' k a with⟨rfl,e⟩|⟨_,e⟩;(·rw[e]at d;rcases d with d|⟨d,_⟩;(·rw[z]at d;cases d);·rw[I]at d;cases d);·rw[e]at d;exact g.nV a f d);·(have w:pend C i T'=0:=by unfold pend;rw[r];rfl);(have J:pend C i (T k)=C.bj m i:=by unfold pend;rw[y,l];rfl);rw[sG A,w,J];have:=g.sum i;simp only;omega
 ·(have G:(T k).pc≠.la:=by rw[h1];simp);(have e:bD C (T k) D=D:=by unfold bD;rw[if_neg G]);rw[e];refine⟨tj,g.le,λa f m l=>?_,λa b f v m p o=>?_,λa f d=>?_,λi=>?_⟩;(·rcases dx T T' k a with⟨rfl,e⟩|⟨_,e⟩;(·rw[e,r]at l;cases l);·rw[e]at l;exact g.lt a f m l);(·rcases dx T T' k a with⟨rfl,e⟩|⟨L,e⟩;(·rw[e,r]at p;cases p);·rcases dx T T' k b with⟨rfl,t⟩|⟨M,t⟩;(·rw[t,r]at o;cases o);·rw[e]at p;rw[t]at o;exact g.bB a b f v m p o);(·rcases dx T T' k a with⟨rfl,e⟩|⟨_,e⟩;(·rw[e]at d;rcases d with d|⟨_,d,_⟩;(·rw[z]at d;cases d);·rw[z]at d;cases d);·rw[e]at d;exact g.nV a f d);·(have w:pend C i T'=0:=by unfold pend;rw[B,r];rfl);(have J:pend C i (T k)=0:=by unfold pend;rw[y];rfl);rw[sG A,w,J];have:=g.sum i;omega
 ·exact keep y r (by rw[h1];simp) z
section
variable(C:Cx)(O tk:Nat->Nat->Prop)
def jP(i:Nat)(l:Loc):Prop:=∃k,i=C.c0+k/\((∃a,l=.cell a/\(O k a.block\/(a.block=C.Rc/\tk k (a.off/8))))\/∃b,l=.obj b/\O k b)
def iW(i:Nat)(l:Loc):Prop:=C.c0<=i/\∃a,l=.cell a/\Ro C a
def eX(l:Loc):Prop:=C.iq l\/∃a,l=.cell a/\fE C a
def jL(l:Loc):Prop:=∃a,l=.cell a/\Gd C a
structure Geo:Prop where
 cw:C.Cw<C.low
 wg:C.Wg<C.low
 rc:C.Rc<C.low
 Ay:C.Cw≠C.Wg
 kO:C.Cw≠C.Rc
 j2:C.Wg≠C.Rc
 c0:1<=C.c0
 n1:1<=C.n
 oQ:C.n<=16
 um:∀a,C.iq (.cell a)->a.block<C.low/\a.block≠C.Cw/\a.block≠C.Rc
 VK:∀b,C.iq (.obj b)->b<C.low
 dl:∀m i,0<=C.bj m i/\C.bj m i<=65536
 nN:C.N<=4294967296
end
section
variable{C:Cx}{O tk:Nat->Nat->Prop}
theorem Fv(d:Geo C)(g:∀k b,O k b->C.low<=b)(n:∀k k' b,O k b->O k' b->k=k')(p:∀k k' m,tk k m->tk k' m->k=k'):ApartL (eX C) (jL C) (jP C O tk) (iW C):=by
 have v:=d.cw;have u:=d.wg;have w:=d.rc;refine⟨⟨?_,?_,?_,?_⟩,?_,?_,?_⟩;·rintro _ _ l⟨k,rfl,h⟩⟨k',rfl,f⟩;(have:k=k':=by rcases h with⟨a,rfl,h⟩|⟨b,rfl,h⟩;(·rcases f with⟨a',e,f⟩|⟨b,e,_⟩;(·cases e;rcases h with h|⟨h1,q⟩<;>rcases f with f|⟨x,o⟩;(·exact n _ _ _ h f);(·exact absurd (g _ _ h) (by omega));(·exact absurd (g _ _ f) (by omega));·exact p _ _ _ q o);·cases e);·rcases f with⟨a',e,_⟩|⟨b',e,f⟩;(·cases e);·cases e;exact n _ _ _ h f);rw[this]
 ·rintro _ _ l⟨k,rfl,h⟩⟨_,a,rfl,r1,r2,r3,_⟩;rcases h with⟨a',e,h⟩|⟨b,e,_⟩;(·cases e;rcases h with h|⟨h1,_⟩;(·exact absurd (g _ _ h) (by omega));·exact r3 h1);·cases e
 ·rintro _ l⟨k,rfl,h⟩c;rcases h with⟨a,rfl,h⟩|⟨b,rfl,h⟩;(·rcases c with c|⟨a',e,c⟩;(·obtain⟨s1,s2,s⟩:=d.um a c;rcases h with h|⟨h1,_⟩;(·exact absurd (g _ _ h) (by omega));·exact s h1);·cases e;rcases h with h|⟨h1,_⟩;(·have:=g _ _ h;rcases c with c|⟨c,_⟩<;>omega);·rcases c with c|⟨c,_⟩;(·exact d.j2 (c.symm.trans h1));·exact d.kO (c.symm.trans h1));·rcases c with c|⟨a',e,_⟩;(·have:=d.VK b c;have:=g _ _ h;omega);·cases e
 ·rintro _ l⟨_,a,rfl,r1,r2,r3,i,r⟩c;rcases c with c|⟨a',e,c⟩;(·exact r c);·cases e;rcases c with c|⟨c,t⟩;(·exact r2 c);·have:=i c;omega
 ·rintro l⟨a,rfl,p1,j⟩c;rcases c with c|⟨a',e,c⟩;(·exact(d.um a c).2.1 p1);·cases e;rcases c with c|⟨_,t⟩;(·exact d.Ay (p1.symm.trans c));·omega
 ·rintro _ l⟨k,rfl,h⟩⟨a,rfl,p1,j⟩;rcases h with⟨a',e,h⟩|⟨b,e,_⟩;(·cases e;rcases h with h|⟨h1,_⟩;(·have:=g _ _ h;omega);·exact d.kO (p1.symm.trans h1));·cases e
 ·rintro _ l⟨_,a,rfl,_,_,_,i,_⟩⟨a',e,p1,j⟩;cases e;have:=i p1;omega
theorem DU(a:Geo C){d J:Nat->Prop}{c z:Bool}{f:Option Nat}{D:Array Event}{s:Sh}{g0:CL}(k:ShAt C w s g0)(H:s.ok)(j:kZ C w cs)(h:Dn C d J c z f w w' D)(Q:C.low<=w.heap.size)(h1:∀b,d b->C.low<=b)(t:∀b,O2 b->b<w.heap.size/\¬d b/\C.low<=b)(u:c=true->own2=false)(v:∀m,job2=some m->f≠some m):Rl C O2 own2 job2 w w':=by
 have M:=a.cw;have K:=a.wg;have L:=a.rc;obtain⟨g',A,N⟩:=h.ot _ _ _ k.1;obtain⟨B,n,r⟩:=h.aI _ j;have E:WgAt C w' s.cnt s.wt s.ws:=(h.keep C.Wg (by omega) (λx=>by have:=h1 _ x;omega) (Ne.symm a.Ay) a.j2).trans k.2;refine⟨h.tape,h.output,by rw[h.os];exact .refl _,h.size,λb l y _ G=>h.keep b (by omega) (λx=>by have:=h1 _ x;omega) y G,λb l=>?_,λ_=>⟨⟨s,g',H,A,E⟩,B,n⟩,λo x m g F=>?_,λm I i O=>?_⟩;·obtain⟨a1,a2,a3⟩:=t b l;exact h.keep b a1 a2 (by omega) (by omega)
 ·obtain⟨P,p,q⟩:=h.ot _ _ _ F;(have:c=false:=by cases c with|false=>rfl|true=>rw[u rfl]at o;cases o);rw[q this]at p;exact⟨x,m,p⟩
 ·(have e:f≠some ((8*m+i)/8):=by(have:(8*m+i)/8=m:=by omega);rw[this];exact v m I);simp only[World.cell?,n.1,j.1];exact r _ e
theorem vK(c:Geo C){s s':Sh}{g0:CL}(l:ShAt C w s g0)(f:ShAt C w' s' g0)(o:s'.ok)(d:kZ C w cs)(h:Eff C w w')(a:∀b,O2 b->C.low<=b):Rl C O2 own2 job2 w w':=by have p:=c.cw;have q:=c.wg;have j:w'.heap[C.Rc]?=w.heap[C.Rc]?:=h.block _ (Ne.symm c.kO) (Ne.symm c.j2);refine⟨h.tape,h.output,h.os,by rw[h.size];exact Nat.le_refl _,λb _ h1 a _=>h.block b h1 a,λb k=>h.block b (by have:=a b k;omega) (by have:=a b k;omega),λ_=>⟨⟨s',g0,o,f⟩,cs,j.trans d.1,d.2⟩,λ_ x m g n=>?_,λm _ i _=>by simp only[World.cell?,j]⟩;(have e:g=g0:=by have:=n.1.symm.trans l.1.1;simp only[Option.some.injEq,Obj.cells.injEq,and_true]at this;have:=List.append_cancel_left (congrArg Array.toList this);simpa using(List.cons.inj (List.cons.inj this).2).2);rw[e];exact⟨s'.word,s'.ms,f.1⟩
end
def dI(j k:Nat)(f:Nat->Nat):Nat:=sumTo j λa=>if a=k then 0 else f a
theorem dG(c:k<j)(f:Nat->Nat):sumTo j f=f k+dI j k f:=by obtain⟨r,h1,d⟩:=I8 f c;have:=d (λa=>if a=k then 0 else f a) (λa b=>if_neg b);simp only[if_true]at this;unfold dI;omega
theorem kI(j k:Nat)(T:Nat->α)(T':α)(b:α->Nat):dI j k (λa=>b (ConcN.upd T k T' a))=dI j k (λa=>b (T a)):=by unfold dI;refine sumTo_congr λa _=>?_;by_cases h:a=k;(·rw[if_pos h,if_pos h]);·rw[if_neg h,if_neg h];show b (ConcN.upd T k T' a)=b (T a);rw[upd_ne T T' h]
theorem wV{f g:Nat->Nat}:∀{j:Nat},(∀a,a<j->f a<=g a)->sumTo j f<=sumTo j g|0,_=>Nat.le_refl _|j+1,h=>by have h1:=wV (f:=f) (g:=g) (j:=j) λa c=>h a (by omega);have b:=h j (by omega);simp only[sumTo];omega
theorem Iv{g:Nat->Nat}(h:∀a,f a<=g a):dI j k f<=dI j k g:=wV λa _=>by split;exact Nat.le_refl _;exact h a
theorem acj(h:∀a,a<j->f a=0):sumTo j f=0:=by
 have:=wV (f:=f) (g:=λ_=>0) (j:=j) λa c=>by rw[h a c];exact Nat.le_refl _
 have e:∀j,sumTo j (λ_=>0)=0:=λj=>by induction j with|zero=>rfl|succ j b=>rw[sumTo,b]
 rw[e]at this;omega
theorem vP(h:∀a,f a<=1):sumTo j f<=j:=by have:=sumTo_le (f:=f) (c:=1) (j:=j) λa _=>h a;omega
theorem FO(b:k<j)(h:∀a,f a<=1):dI j k f+1<=j:=by
 have e:=dG b (λa=>if a=k then 1 else f a);have h1:sumTo j (λa=>if a=k then 1 else f a)<=j:=vP λa=>by split;exact Nat.le_refl _;exact h a
 have c:dI j k (λa=>if a=k then 1 else f a)=dI j k f:=by unfold dI;refine sumTo_congr λa _=>?_;by_cases h:a=k;(·rw[if_pos h,if_pos h]);·rw[if_neg h,if_neg h];show(if a=k then 1 else f a)=f a;rw[if_neg h]
 simp only[if_true]at e;omega
theorem JP(T:Th):bz T<=aU T:=by unfold bz aU;cases T.pc<;>simp
theorem S5(T:Th):aQ T<=1:=by unfold aQ;split<;>first|(split<;>simp)|simp
theorem JL(T:Th):bg T<=aQ T:=by unfold bg aQ;cases T.pc<;>simp
theorem JS(T:Th):bm T<=1:=by unfold bm;split<;>simp
theorem xM(T:Th):aB T<=1:=by unfold aB;split<;>simp
def eV(j:Nat)(T:Nat->Th)(s:Sh):Prop:=MI s.word s.ms (sumTo j λk=>aS (T k)) (sumTo j λk=>aU (T k)) (sumTo j λk=>bz (T k)) (sumTo j λk=>aQ (T k)) (sumTo j λk=>bm (T k)) (sumTo j λk=>bg (T k))
def gH(n j:Nat)(M:Mt)(T:Nat->Th)(s:Sh):Prop:=WI n j M s (sumTo j λk=>aB (T k)) (sumTo j λk=>aE (T k)) (sumTo j λk=>aF (T k))
theorem eV.split{T:Nat->Th}{s:Sh}(h:eV j T s)(b:k<j):MI s.word s.ms (aS (T k)+dI j k λa=>aS (T a)) (aU (T k)+dI j k λa=>aU (T a)) (bz (T k)+dI j k λa=>bz (T a)) (aQ (T k)+dI j k λa=>aQ (T a)) (bm (T k)+dI j k λa=>bm (T a)) (bg (T k)+dI j k λa=>bg (T a)):=by unfold eV at h;rw[dG b (λa=>aS (T a)),dG b (λa=>aU (T a)),dG b (λa=>bz (T a)),dG b (λa=>aQ (T a)),dG b (λa=>bm (T a)),dG b (λa=>bg (T a))]at h;exact h
theorem eV.step{T:Nat->Th}{T':Th}{s s':Sh}(h:eV j T s)(b:k<j)(d:Mv N m (T k) s T' s')(e:TW (T k))(c:(T k).pc=.a1->(T k).ex=false->2<=s.word.w):eV j (ConcN.upd T k T') s':=by have:=Pb d e c (h.split b) (Iv λa=>JP (T a)) (Iv λa=>JL (T a));unfold eV;rw[dG b (λa=>aS (ConcN.upd T k T' a)),dG b (λa=>aU (ConcN.upd T k T' a)),dG b (λa=>bz (ConcN.upd T k T' a)),dG b (λa=>aQ (ConcN.upd T k T' a)),dG b (λa=>bm (ConcN.upd T k T' a)),dG b (λa=>bg (ConcN.upd T k T' a)),kI j k T T' aS,kI j k T T' aU,kI j k T T' bz,kI j k T T' aQ,kI j k T T' bm,kI j k T T' bg];simp only[upd_same];exact this
theorem gH.step{M:Mt}{T:Nat->Th}{T':Th}{s s':Sh}(h:gH n j M T s)(b:k<j)(c:Mv N m (T k) s T' s'):gH n j M (ConcN.upd T k T') s':=by unfold gH at h;rw[dG b (λa=>aB (T a)),dG b (λa=>aE (T a)),dG b (λa=>aF (T a))]at h;have d:=FO b (f:=λa=>aB (T a)) λa=>xM (T a);have:=ZS c h (by omega);unfold gH;rw[dG b (λa=>aB (ConcN.upd T k T' a)),dG b (λa=>aE (ConcN.upd T k T' a)),dG b (λa=>aF (ConcN.upd T k T' a)),kI j k T T' aB,kI j k T T' aE,kI j k T T' aF];simp only[upd_same];exact this
theorem SM(M:Mt):cf M<=1:=by unfold cf;split<;>simp
theorem Tu(M:Mt):bV M<=1:=by unfold bV;split<;>simp
theorem uK{M:Mt}{T:Nat->Th}{s:Sh}(b:eV j T s)(e:gH n j M T s)(i:j<=n)(l:n<=16):s.ok:=by
 have h1:=vP (j:=j) (f:=λk=>bm (T k)) λa=>JS (T a);have m:=vP (j:=j) (f:=λk=>bg (T k)) λa=>Nat.le_trans (JL (T a)) (S5 (T a));have o:=SM M;have p:=Tu M;have w1:=e.su;have w2:=e.wJ;have c:=b.calm;have d:=b.AO;have g:=b.s1;refine⟨⟨b.l1,b.k1,b.s1,?_⟩,?_,?_,?_,?_⟩;·rcases Nat.lt_or_ge s.word.s 1 with h|h;(·have:=c (by omega);omega);·have:=d (by omega);omega
 ·rcases Nat.lt_or_ge s.word.s 1 with h|h;(·have:=c (by omega);have:=b.k1;omega);·have:=d (by omega);omega
 ·omega
 ·omega
 ·omega
theorem E1{T:Nat->Th}{s:Sh}(b:eV j T s)(d:k<j)(h:aU (T k)=1):s.word.k=1:=by obtain⟨m1,f,l,m,g,i,c,e⟩:=b.split d;rcases Nat.lt_or_ge s.word.s 1 with a|a;(·have:=c (by omega);omega);·have:=e (by omega);omega
theorem afB{M:Mt}{T:Nat->Th}{s:Sh}(i:eV j T s)(d:gH n j M T s)(q:j<=n)(r:n<=16)(c:k<j)(p:TW (T k)):fv (T k) s:=by
 have t:=uK i d q r;have h:=i.split c;obtain⟨m1,z,u,v,y,x,m,l⟩:=h;unfold gH at d;rw[dG c (λa=>aB (T a)),dG c (λa=>aE (T a)),dG c (λa=>aF (T a))]at d;have w:=FO c (f:=λa=>aB (T a)) λa=>xM (T a);have w1:=d.su;have w3:=d.fu;refine⟨p,t,λb e=>?_,λb=>?_,λb=>?_,λb=>?_,λb=>?_,E1 i c,λe=>?_⟩;·have:=l e;(have g:aU (T k)+aQ (T k)=1:=by simp only[aU,aQ,b];split<;>rfl);(have o:bg (T k)=aQ (T k):=by simp only[bg,aQ,b]);omega
 ·(have g:aQ (T k)=1:=by simp only[aQ,b]);(have o:bg (T k)=1:=by simp only[bg,b]);(have e:s.word.s=1:=by rcases Nat.lt_or_ge s.word.s 1 with h|h;(·have:=m (by omega);omega);·omega);have:=l e;omega
 ·(have g:aS (T k)=1:=by simp only[aS,b]);omega
 ·(have g:aB (T k)=0:=by simp only[aB,b]);omega
 ·(have g:aE (T k)=1:=by simp only[aE,b]);have:=w3 (by omega);exact⟨this.2,this.1⟩
 ·have:=m e;omega
theorem aeh{T:Nat->Th}{s:Sh}(b:eV j T s)(a:k<j)(h:s.word.s=0):aQ (T k)=0:=by have:=(b.split a).calm h;omega
theorem zW{k':Nat}{T:Nat->Th}{s:Sh}(c:eV j T s)(d:k<j)(b:k'<j)(h:aS (T k)=1)(l:aS (T k')=1):k=k':=by by_cases e:k=k';(·exact e);·exfalso;have h1:=(c.split d);(have g:aS (T k')<=dI j k (λa=>aS (T a)):=by have:=le_sumTo (f:=λa=>if a=k then 0 else aS (T a)) (i:=k') b;simp only[if_neg (Ne.symm e)]at this;exact this);have:=h1.ai;have:=h1.l1;omega
theorem agM{M:Mt}{T:Nat->Th}{s:Sh}(F:eV j T s)(i:gH n j M T s)(B:s.word.lone->∃k,k<j/\(T k).pc=.uc/\(T k).old=s.word)(d:∀k,k<j->(T k).pc=.quit\/((T k).pc=.s1/\s.ms=0))(G:M.pc=.w3)(A:s.ws=0):False:=by have z:∀(f:Th->Nat),(∀T,T.pc=.quit\/T.pc=.s1->f T=0)->sumTo j (λk=>f (T k))=0:=λf q=>acj λa c=>q _ ((d a c).imp id (·.1));have r:=z aS (by rintro T(h|h)<;>simp[aS,h]);have t:=z aU (by rintro T(h|h)<;>simp[aU,h]);have u:=z aQ (by rintro T(h|h)<;>simp[aQ,h]);have v:=z aF (by rintro T(h|h)<;>simp[aF,h]);have w:=z aE (by rintro T(h|h)<;>simp[aE,h]);have x:=z bz (by rintro T(h|h)<;>simp[bz,h]);have y:=z bg (by rintro T(h|h)<;>simp[bg,h]);obtain⟨m1,P,L,C,D,E,l,m⟩:=F;simp only[r,t,u,x,y]at C D E l m;have w1:=i.su;have w2:=i.wJ;have w3:=i.gap;simp only[v,w,A,bV,cf,G]at w1 w2 w3;by_cases hs1:∃k,k<j/\(T k).pc=.s1;(·obtain⟨k,b,o⟩:=hs1;(have N:s.ms=0:=by rcases d k b with h|⟨_,h⟩;(·rw[o]at h;cases h);·exact h);(have O:1<=sumTo j (λk=>bm (T k)):=by have:=le_sumTo (f:=λk=>bm (T k)) b;(have e:bm (T k)=1:=by simp[bm,o]);simp only[e]at this;exact this);rcases Nat.lt_or_ge s.word.s 1 with I|I;(·have:=l (by omega);obtain⟨a,c,J,_⟩:=B ⟨by omega,by omega,by omega,by omega⟩;rcases d a c with h|⟨h,_⟩<;>rw[J]at h<;>cases h);·have:=m (by omega);omega);·have H:∀k,k<j->(T k).pc=.quit:=λk b=>(d k b).elim id λh=>absurd ⟨k,b,h.1⟩ hs1;(have K:sumTo j (λk=>aB (T k))=j:=by rw[sumTo_congr (g:=λ_=>1) λa c=>by simp[aB,H a c]];(have:∀j,sumTo j (λ_=>1)=j:=λj=>by induction j with|zero=>rfl|succ j p=>rw[sumTo,p]);exact this j);rw[K]at w1;have:=w3 (by omega) (by omega);omega
end Ph
end
end Go.Proofs.YtjebhbopmfcopaaGreatDoor
