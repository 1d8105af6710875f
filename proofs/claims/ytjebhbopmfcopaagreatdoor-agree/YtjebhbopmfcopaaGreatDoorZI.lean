/- Agree, a part. -/
import Derived.Conc.HoldsTime
import Derived.Test.YtjebhbopmfcopaaGreatDoorZH
namespace Go.Proofs.YtjebhbopmfcopaaGreatDoor
open Go.Proofs
noncomputable section
variable{cs:DS}{own2:Bool}{fr:Frame}{cs' l l':Fi}{N d2 d4 dn j k n:Nat}{O2:Nat->Prop}{job2:Option Nat}{v w w':HA}
namespace Ph
open Conc ConcN ConcM Kw
structure Cx where
 P:Program
 Cw:Nat
 Wg:Nat
 Rc:Nat
 low:Nat
 tC:TypeId
 tW:TypeId
 tR:TypeId
 aM:FV
 N:Nat
 n:Nat
 c0:Nat
 aJ:Nat->FV
 bf:Nat->Nat->Int
 iF:Loc->Prop
 qb:Nat
 w0:HA
structure GC where
 n:Nat
 c:Nat->Int
def fV(y:GC):FV:=.int .i64 y.n::(List.range 11).map λi=>.int .i64 (y.c i)
section
variable(C:Cx)
def muA:Addr:=⟨C.Cw,C.aM.length,none⟩
def msA:Addr:=⟨C.Cw,C.aM.length+1,none⟩
def dC:Addr:=⟨C.Wg,0,none⟩
def eG:Addr:=⟨C.Wg,1,none⟩
def iJ(w:HA)(x:Wd)(ms:Nat)(g:FV):Prop:=w.heap[C.Cw]?=some (.cells (C.aM++.int .i32 x.val::.int .u32 ms::g).toArray C.tC (0,0))/\g.length=12
def WgAt(w:HA)(cnt wt ws:Nat):Prop:=w.heap[C.Wg]?=some (.cells #[.int .u64 ((cnt:Int)*4294967296+wt),.int .u32 ws] C.tW (0,0))
def ShAt(w:HA)(s:Sh)(g:FV):Prop:=iJ C w s.word s.ms g/\WgAt C w s.cnt s.wt s.ws
def kU(w:HA)(cs:DS):Prop:=w.heap[C.Rc]?=some (.cells cs C.tR (0,0))/\cs.size=8*C.N
def io(m:Nat)(w:HA):Prop:=∀i,i<8->w.cell? ⟨C.Rc,8*m+i,none⟩=(C.aJ m)[i]?
def Sh.ok(s:Sh):Prop:=s.word.ok/\s.ms<=60/\s.cnt<=60/\s.wt<=1/\s.ws<=60
def Live(w:HA):Prop:=(∃s g,s.ok/\ShAt C w s g)/\∃cs,kU C w cs
structure Rl(O:Nat->Prop)(own:Bool)(ag:Option Nat)(w w₁:HA):Prop where
 tape:w₁.tape=w.tape
 output:w₁.output=w.output
 os:OsLater w.os w₁.os
 size:w.heap.size<=w₁.heap.size
 low:∀b,b<C.low->b≠C.Cw->b≠C.Wg->b≠C.Rc->w₁.heap[b]?=w.heap[b]?
 mine:∀b,O b->w₁.heap[b]?=w.heap[b]?
 live:Live C w->Live C w₁
 guard:own=true->∀x m g,iJ C w x m g->∃x' m',iJ C w₁ x' m' g
 aJ:∀m,ag=some m->∀i,i<8->w₁.cell? ⟨C.Rc,8*m+i,none⟩=w.cell? ⟨C.Rc,8*m+i,none⟩
def Ro(a:Addr):Prop:=a.block<C.low/\a.block≠C.Wg/\a.block≠C.Rc/\(a.block=C.Cw->a.off<C.aM.length)/\¬C.iF (.cell a)
def Gd(a:Addr):Prop:=a.block=C.Cw/\C.aM.length+2<=a.off
def eT(O:Nat->Prop)(own:Bool)(wr:Option Nat)(e:Event):Prop:=e.loc=.mark .noRoom\/(∃a x,e=⟨.cell a,x,false⟩/\(O a.block\/(x=false/\Ro C a)\/(own=true/\Gd C a)\/(a.block=C.Rc/\wr=some (a.off/8))))\/∃b,e=⟨.obj b,false,false⟩/\O b
structure Dn(O O':Nat->Prop)(own mu:Bool)(wr:Option Nat)(w w':HA)(es:Array Event):Prop where
 tape:w'.tape=w.tape
 output:w'.output=w.output
 os:w'.os=w.os
 size:w.heap.size<=w'.heap.size
 grow:∀b,O' b↔(O b\/(w.heap.size<=b/\b<w'.heap.size))
 keep:∀b,b<w.heap.size->¬O b->b≠C.Cw->b≠C.Rc->w'.heap[b]?=w.heap[b]?
 nz:∀x m g,iJ C w x m g->∃g',iJ C w' x m g'/\(own=false->g'=g)
 aJ:∀cs,kU C w cs->∃cs',kU C w' cs'/\∀off,wr≠some (off/8)->cs'[off]?=cs[off]?
 j4:∀e∈es,eT C O' own wr e
 mute:mu=true->es=#[]
inductive Tr where|leaf|node(f:HA->Tr)
def kH(main own mu:Bool)(ag wr:Option Nat)(Stop:(Nat->Prop)->Gq->HA->Prop):Tr->(Nat->Prop)->Gq->HA->Prop|.leaf,O,g,w=>∀w₁,Rl C O own ag w w₁->Stop O g w₁|.node f,O,g,w=>(∀w₁,Rl C O own ag w w₁->Stop O g w₁)\/(g.status=.running/\∀w₁,Rl C O own ag w w₁->∃g' w' es a,stepG C.P main g w₁=.go g' w' es/\Dn C O a own mu wr w₁ w' es/\g'.status=.running/\kH main own mu ag wr Stop (f w₁) a g' w')
end
section
variable{C:Cx}{O:Nat->Prop}{own main mu:Bool}{ag wr:Option Nat}{w w₁ w₂:HA}
theorem Rl.refl(O:Nat->Prop)(own:Bool)(ag:Option Nat)(w:HA):Rl C O own ag w w:=⟨rfl,rfl,.refl _,Nat.le_refl _,λ_ _ _ _ _=>rfl,λ_ _=>rfl,id,λ_ x m _ h=>⟨x,m,h⟩,λ_ _ _ _=>rfl⟩
theorem Rl.trans(h:Rl C O own ag w w₁)(k:Rl C O own ag w₁ w₂):Rl C O own ag w w₂:=⟨k.tape.trans h.tape,k.output.trans h.output,h.os.trans k.os,Nat.le_trans h.size k.size,λb h1 c d e=>(k.low b h1 c d e).trans (h.low b h1 c d e),λb j=>(k.mine b j).trans (h.mine b j),λl=>k.live (h.live l),λo x m g p=>let⟨x',m',n⟩:=h.guard o x m g p;k.guard o x' m' g n,λm f i a=>(k.aJ m f i a).trans (h.aJ m f i a)⟩
theorem Rl.at(O:Nat->Prop)(own:Bool)(ag:Option Nat)(w:HA)(d:Nat):Rl C O own ag w (w.at d):=⟨rfl,rfl,.refl _,Nat.le_refl _,λ_ _ _ _ _=>rfl,λ_ _=>rfl,id,λ_ x m _ h=>⟨x,m,h⟩,λ_ _ _ _=>rfl⟩
variable{Stop:(Nat->Prop)->Gq->HA->Prop}{g:Gq}
theorem kH.rely{tr:Tr}(h:kH C main own mu ag wr Stop tr O g w)(r:Rl C O own ag w w₁):kH C main own mu ag wr Stop tr O g w₁:=by cases tr with|leaf=>exactλw₂ a=>h w₂ (r.trans a)|node f=>rcases h with h|⟨h1,b⟩;(·exact .inl λw₂ a=>h w₂ (r.trans a));·exact .inr ⟨h1,λw₂ a=>b w₂ (r.trans a)⟩
theorem kH.running(a:∀O g w,Stop O g w->g.status=.running){tr:Tr}(h:kH C main own mu ag wr Stop tr O g w):g.status=.running:=by cases tr with|leaf=>exact a _ _ _ (h w (Rl.refl _ _ _ _))|node f=>rcases h with h|⟨h1,_⟩;(·exact a _ _ _ (h w (Rl.refl _ _ _ _)));·exact h1
def av(C:Cx)(main own mu:Bool)(ag wr:Option Nat)(Stop:(Nat->Prop)->Gq->HA->Prop)(O:Nat->Prop)(g:Gq)(w:HA):Prop:=∃tr,kH C main own mu ag wr Stop tr O g w
theorem av.stop(h:∀w₁,Rl C O own ag w w₁->Stop O g w₁):av C main own mu ag wr Stop O g w:=⟨.leaf,h⟩
theorem av.step(c:g.status=.running)(h:∀w₁,Rl C O own ag w w₁->∃g' w' es a,stepG C.P main g w₁=.go g' w' es/\Dn C O a own mu wr w₁ w' es/\g'.status=.running/\av C main own mu ag wr Stop a g' w'):av C main own mu ag wr Stop O g w:=by(have d:∀w₁,∃tr,Rl C O own ag w w₁->∃g' w' es a,stepG C.P main g w₁=.go g' w' es/\Dn C O a own mu wr w₁ w' es/\g'.status=.running/\kH C main own mu ag wr Stop tr a g' w':=by intro w₁;by_cases hw:Rl C O own ag w w₁;(·obtain⟨g',w',es,a,h1,e,i,tr,j⟩:=h w₁ hw;exact⟨tr,λ_=>⟨g',w',es,a,h1,e,i,j⟩⟩);·exact⟨.leaf,λk=>absurd k hw⟩);obtain⟨f,b⟩:=Classical.skolem.1 d;exact⟨.node f,.inr ⟨c,b⟩⟩
theorem Dn.idle(O:Nat->Prop)(own mu:Bool)(wr:Option Nat)(w:HA):Dn C O O own mu wr w w #[]:=⟨rfl,rfl,rfl,Nat.le_refl _,λb=>⟨.inl,λh=>h.elim id λh=>absurd h.2 (Nat.not_lt.2 h.1)⟩,λ_ _ _ _ _=>rfl,λx m g h=>⟨g,h,λ_=>rfl⟩,λcs h=>⟨cs,h,λ_ _=>rfl⟩,by simp,λ_=>rfl⟩
theorem av.aV:∀{g g':Gq}{w:HA},jm C.P n g g'->(∀w₁,Rl C O own ag w w₁->av C main own mu ag wr Stop O g' w₁)->av C main own mu ag wr Stop O g w:=by induction n with|zero=>intro g g' w h k;cases h;exact k w (Rl.refl _ _ _ _)|succ n b=>rintro g g' w⟨c,⟨h1,d,e⟩,f⟩k;exact .step h1 λw₁ a=>⟨c,w₁,#[],O,e main w₁,Dn.idle _ _ _ _ _,d,b f λw₂ i=>k w₂ (a.trans i)⟩
theorem av.aR{g':Gq}(h:aa C.P g g')(k:∀w₁,Rl C O own ag w w₁->av C main own mu ag wr Stop O g' w₁):av C main own mu ag wr Stop O g w:=let⟨_,x⟩:=h;.aV x k
end
def Th.own(T:Th):Bool:=decide (T.pc=.ur)
def Th.gone(T:Th):Bool:=match T.pc with|.wd|.d1|.d2|.d3|.d4|.quit=>true|_=>false
def Th.wr(T:Th):Option Nat:=if T.pc=.ld/\T.ct=true then T.ag else none
def aK(T:Th):Nat:=match T.pc with|.ld|.la|.ur|.ud|.wr|.wd=>0|_=>1
section
variable(C:Cx)
def fD(a:Addr):Prop:=a.block=C.Wg\/(a.block=C.Cw/\(a.off=C.aM.length\/a.off=C.aM.length+1))
def mk(m:Mark):Event:=⟨.mark m,false,true⟩
def Bk(e:Event):Prop:=e=mk .disable\/e=mk .enable\/∃a x,e=⟨.cell a,x,true⟩/\fD C a
def gY(d e:Nat)(es:Array Event):Prop:=(∀x∈es,Bk C x)/\deafBehind d es=e/\∀j x,es[j]?=some x->(MemAct.ofEvent x).touch?=none\/0<deafBehind d (es.extract 0 j)
def EvStop(T T':Th)(es:Array Event):Prop:=match T.pc with|.la=>es=#[mk (.acquire (muA C))]|.ur=>es=#[mk (.releaseMerge (muA C))]|.wr=>es=#[mk (.releaseMerge (dC C))]|_=>gY C (aK T) (aK T') es
structure Eff(w w':HA):Prop where
 tape:w'.tape=w.tape
 output:w'.output=w.output
 os:OsLater w.os w'.os
 size:w'.heap.size=w.heap.size
 block:∀b,b≠C.Cw->b≠C.Wg->w'.heap[b]?=w.heap[b]?
def upd(T:Th)(x:GC):GC:=if T.ct then{x with c:=λi=>x.c i+C.bf (T.ag.getD 0) i}else if x.n<C.N then{x with n:=x.n+1}else x
structure dS(T:Th)(s:Sh):Prop where
 tw:TW T
 ok:s.ok
 r2:T.pc=.r2->s.word.s=1->s.word.l=0/\s.word.k=0/\1<=s.word.w
 a1:T.pc=.a1->s.word.l=0/\s.word.s=1/\s.word.k=0/\1<=s.word.w
 u0:T.pc=.u0->s.word.l=1
 d1:T.pc=.d1->1<=s.cnt
 d2:T.pc=.d2->s.cnt=0/\s.wt=1
 wk:bF T=1->s.word.k=1
 sX:s.word.s=0->bj T=0
variable(At:Th->GC->(Nat->Prop)->Gq->HA->Prop)
def iI(T':Th)(y:GC)(O:Nat->Prop)(g':Gq)(w':HA):Prop:=if T'.pc=.quit then∃q,q<=C.qb/\QuitsD C.P q 1 g' else av C false T'.own T'.gone T'.ag T'.wr (At T' y) O g' w'
structure jl(T:Th)(y:GC)(O:Nat->Prop)(g:Gq)(w:HA):Prop where
 run:g.status=.running
 off:g.offers=none
 E6:T.pc=.us\/T.pc=.d4->mayWake C.P g=true
 written:T.pc=.ld->T.ct=true->∀m,T.ag=some m->io C m w
 left:T.pc=.ur->∃x ms,iJ C w x ms (fV y)
 wait:∀s g0,ShAt C w s g0->T.pc=.s1->s.ms=0->stepG C.P false g w=.go {g with status:=.blocked} w #[]
 step:∀s g0,ShAt C w s g0->dS T s->¬(T.pc=.s1/\s.ms=0)->∀x:GC,(T.pc=.la->g0=fV x/\x.n<=C.N/\∀i,-1152921504606846976<=x.c i/\x.c i<=1152921504606846976)->∃T' s' g' w' es,Mv C.N x.n T s T' s'/\stepG C.P false g w=.go g' w' es/\ShAt C w' s' g0/\Eff C w w'/\EvStop C T T' es/\(Live C w'->iI C At T' (if T.pc=.la then upd C T x else y) O g' w')
end
theorem Eff.refl{C:Cx}(w:HA):Eff C w w:=⟨rfl,rfl,.refl _,rfl,λ_ _ _=>rfl⟩
end Ph
namespace Co
open Ph Kw
section
variable{P:Program}{K:Cm}{S:FuncId->Bool}{Q:HH->HA->Prop}
theorem qN(j:Closed P K S){m':Bool}{r:Rn}{k1:Fi}{fr' f1:Frame}{u1:HA}{es:Array Event}(E:¬(fr.mode=.returning/\l=Bs P))(o:stepG P true (VG fr l) (aD v w.tape w.drawn)=.go (VG f1 k1) u1 es)(u:aT u1->¬mS (Bs P) (VG f1 k1))(p:FR P K S r fr fr')(m:KR P K S r (Bs P) cs' l l')(k:WR K P r v w)(s:aT v)(a:fr.mode=.run\/fr.mode=.returning):aT u1/\(f1.mode=.run\/f1.mode=.returning)/\∃r1 g d w1 b,stepG (aF P K.F) m' (VG fr' l') w=.go (VG g d) w1 b/\FR P K S r1 f1 g/\KR P K S r1 (Bs P) cs' k1 d/\WR K P r1 u1 w1/\Eff r r1 v w w1/\aZ v u1/\∀e∈b,jx K r1 v e:=by
 have q:WR K P r (aD v w.tape w.drawn) w:=⟨k.bG,k.inj,k.one,k.low,k.bB⟩;have A:TW (aD v w.tape w.drawn) w:=λ_ _=>rfl;have fin:aT u1->After P K S r (Bs P) cs' m' (VG fr' l') (aD v w.tape w.drawn) w (VG f1 k1) u1->aT u1/\(f1.mode=.run\/f1.mode=.returning)/\∃r1 g d w1 b,stepG (aF P K.F) m' (VG fr' l') w=.go (VG g d) w1 b/\FR P K S r1 f1 g/\KR P K S r1 (Bs P) cs' k1 d/\WR K P r1 u1 w1/\Eff r r1 v w w1/\aZ v u1/\∀e∈b,jx K r1 v e:=λi n=>by obtain⟨r1,L,l1,g,d,w1,b,e1,e2,z,B,G,_,h,t,F⟩:=n;simp only[Goroutine.mk.injEq,and_true]at e1;obtain⟨rfl,rfl⟩:=e1;(have C:f1.mode=.run\/f1.mode=.returning:=by cases D:f1.mode with|run=>exact .inl rfl|returning=>exact .inr rfl|panicking c=>obtain⟨aI,t1,t2⟩:=B.aI;exact absurd ⟨c,aI,D,z.defers.1,t1,t2⟩ (u i));exact⟨i,C,r1,g,d,w1,b,e2,z,B,G,⟨h.tape,h.output,h.os,h.size,h.keep,h.new,h.le⟩,⟨t.size,t.sS,t.row⟩,F⟩
 rcases a with a|a;·obtain⟨aI,t1,t2⟩:=m.aI;rcases JJ j.toiA p a q s o with⟨c,h1,x,y,H⟩|⟨_,i⟩;(·exact absurd ⟨c,aI,h1,x,y.trans t1,t2⟩ (u H));·rcases Hc (m':=m') j.totO p m a q s A o with⟨c,h1,x,y⟩|n|n;(·exact absurd ⟨c,aI,h1,x,y.trans t1,t2⟩ (u i));(·exact fin i n);·obtain⟨_,f,_,_,_,_,_,_,_,_,h0,_⟩:=n;have h0:=h0.1;rw[j.Hb f]at h0;cases h0
 ·cases m with|base=>exact absurd ⟨a,rfl⟩ E|cons I J m=>obtain⟨_,i⟩:=EZ j.toiA p a q s o;exact fin i (FJ (m':=m') j.toiA p I m a q A o)
theorem Cf(j:Closed P K S){RO:Nat->Prop}(d:∀x v',Q x v'->∀a:Addr,RO a.block->v'.frozen? a=false)(g:Ends P (Bs P) Q fr l v):∀{r:Rn}{cs' l':Fi}{fr':Frame}{w:HA},FR P K S r fr fr'->KR P K S r (Bs P) cs' l l'->WR K P r v w->aT v->(fr.mode=.run\/fr.mode=.returning)->∀a:Addr,RO a.block->v.frozen? a=false:=by induction g with|hH h i=>intro r cs' l' fr' w _ _ _ _ _ a b;exact d _ _ i a b|@step fr l v m f k u h e n=>intro r cs' l' fr' w o p q s t a b;obtain⟨es,z⟩:=h w.tape w.drawn;obtain⟨n1,m1,r1,B,C,w1,D,_,y,g2,g3,_,A,_⟩:=qN (m':=true) j m z (q9 (e w.tape w.drawn)) o p q s t;have:=n w.tape w.drawn y g2 g3 n1 m1 a b;cases c:v.frozen? a with|false=>rfl|true=>rw[A.sS a c]at this;cases this
theorem KR.Ky{r:Rn}{cs:Fi}(h:KR P K S r cs cs' l l')(e:l'=cs'):l=cs:=by(have len:∀{l l'},KR P K S r cs cs' l l'->l'.length=(l.length-cs.length)+cs'.length/\cs.length<=l.length:=by intro l l' h;induction h with|base=>exact⟨HU,Nat.le_refl _⟩|cons _ _ _ b=>exact⟨by simp;omega,by simp;omega⟩);cases h with|base=>rfl|cons c a k=>have h1:=(len k).1;have:=congrArg List.length e;simp at this;omega
theorem ZR{G:Nat}{r:Rn}(h1:∀a b b',r a b->r a b'->b=b'){x y m:HH}(h:VR G r x y):VR G r x m->y=m:=by induction h generalizing m with|bool b|int b n|string s|cK|cT l c|fn f|nilFunc|nilIface=>intro k;cases k;rfl|ptr a b h o=>(intro k;cases k with|ptr _ b' d _=>rw[h1 _ _ _ h d])|sl a b l c h o=>(intro k;cases k with|sl _ b' _ _ d _=>rw[h1 _ _ _ h d])|iface t h g=>(intro k;cases k with|iface _ d=>rw[g d])|agg e h g=>(intro k;cases k with|agg j d=>congr 1;exact Array.ext (by rw[<-e,<-j]) λi a b=>g i (by rw[e];exact a) a (d i (by rw[e];exact a) b))|tuple e h g=>intro k;cases k with|tuple j d=>congr 1;exact Array.ext (by rw[<-e,<-j]) λi a b=>g i (by rw[e];exact a) a (d i (by rw[e];exact a) b)
theorem Bg{G:Nat}{r:Rn}(h1:∀a b b',r a b->r a b'->b=b'){x y c:DS}(h:AR G r x y)(k:AR G r x c):y=c:=Array.ext (by rw[<-h.1,<-k.1]) λi a b=>ZR h1 (h.2 i (by rw[h.1];exact a) a) (k.2 i (by rw[h.1];exact a) b)
end
end Co
namespace Ph
open Conc ConcN ConcM Kw
inductive Mc where|md|ma|mr|me|mg|kd|w1|w2|ww|w3|w4|ke|aq deriving DecidableEq
structure Mt where
 pc:Mc
 i:Nat:=0
 cnt:Nat:=0
 wt:Nat:=0
inductive eZ:Mt->Sh->Mt->Sh->Prop|md{M s}(h:M.pc=.md):eZ M s {M with pc:=.ma} s|yJ{M s}(h:M.pc=.ma)(h0:s.cnt=0):eZ M s {M with pc:=.mr} {s with cnt:=s.cnt+1}|xM{M s}(h:M.pc=.ma)(h0:s.cnt≠0):eZ M s {M with pc:=.me} {s with cnt:=s.cnt+1}|mr{M s}(h:M.pc=.mr):eZ M s {M with pc:=.me} s|me{M s}(h:M.pc=.me):eZ M s {M with pc:=.mg} s|kd{M s}(h:M.pc=.kd):eZ M s {M with pc:=.w1} s|xZ{M s}(h:M.pc=.w1)(h0:s.cnt=0):eZ M s {M with pc:=.ke} s|xP{M s}(h:M.pc=.w1)(h0:s.cnt≠0):eZ M s {M with pc:=.w2,cnt:=s.cnt,wt:=s.wt} s|yt{M s}(h:M.pc=.w2)(hc:s.cnt=M.cnt/\s.wt=M.wt):eZ M s {M with pc:=.ww} {s with wt:=s.wt+1}|xB{M s}(h:M.pc=.w2)(hc:¬(s.cnt=M.cnt/\s.wt=M.wt)):eZ M s {M with pc:=.w1} s|ww{M s}(h:M.pc=.ww):eZ M s {M with pc:=.w3} s|w3{M s}(h:M.pc=.w3)(h0:s.ws≠0):eZ M s {M with pc:=.w4} {s with ws:=s.ws-1}|w4{M s}(h:M.pc=.w4):eZ M s {M with pc:=.ke} s|ke{M s}(h:M.pc=.ke):eZ M s {M with pc:=.aq} s
def ca(M:Mt):Nat:=match M.pc with|.mr|.me|.mg=>1|_=>0
def bR(M:Mt):Nat:=match M.pc with|.ww|.w3=>1|_=>0
def cA(M:Mt):Bool:=match M.pc with|.md|.ma|.mr|.me|.mg=>true|_=>false
def cD(M:Mt):Bool:=match M.pc with|.w4|.ke|.aq=>true|_=>false
def aC(T:Th):Nat:=match T.pc with|.d2|.d3|.d4|.quit=>1|_=>0
def aG(T:Th):Nat:=match T.pc with|.d2|.d3=>1|_=>0
def aH(T:Th):Nat:=match T.pc with|.d4=>1|_=>0
structure WI(n j:Nat)(M:Mt)(s:Sh)(dn d2 d4:Nat):Prop where
 sZ:s.cnt+dn=j+ca M
 uf:s.wt+d4+s.ws=bR M
 fc:1<=d2->s.wt=1/\s.cnt=0
 hd4:1<=d4+s.ws->s.cnt=0
 fork:cA M=true->j<n
 join:cA M=false->j=n
 fin:cD M=true->s.cnt=0
 w2:M.pc=.w2->M.wt=0/\M.cnt≠0/\M.cnt<=n+1
 one:d2<=1
 Wf:s.wt=1->s.cnt=0->1<=d2
set_option linter.unusedSimpArgs false in theorem agt{M a:Mt}{s s':Sh}(h:eZ M s a s')(c:WI n j M s dn d2 d4):WI n j a s' dn d2 d4:=by
 obtain⟨h1,d,e,f,b,i,g,k,l,m⟩:=c;cases h;case' md h|yJ h h0|xM h h0|mr h|me h|kd h|xZ h h0|xP h h0|yt h hc|xB h hc|ww h|w3 h h0|w4 h|ke h=>skip
 all_goals simp only[ca,bR,cA,cD,h,reduceCtorEq,false_implies,true_implies,Bool.true_eq_false,Bool.false_eq_true,implies_true]at h1 d e f b i g k
 all_goals refine⟨?_,?_,?_,?_,?_,?_,?_,?_,l,?_⟩<;>(try simp only[ca,bR,cA,cD,h,reduceCtorEq,false_implies,true_implies,Bool.true_eq_false,Bool.false_eq_true,implies_true])<;>omega
set_option linter.unusedSimpArgs false in theorem SX{m:Nat}{M:Mt}{T T':Th}{s s':Sh}(h:Mv N m T s T' s')(g:WI n j M s (aC T+dn) (aG T+d2) (aH T+d4))(l:aC T+dn+1<=j+aC T):WI n j M s' (aC T'+dn) (aG T'+d2) (aH T'+d4):=by
 obtain⟨h1,o,k,i,c,d,a,f,q,r⟩:=g;cases h;case' ld h|sa h hw|Bv h hw|qz h|nM h hw|sR h hw|mj h hw h0|qU h hw|t1 h|s1 h hm|t2 b h|uD h hs|a1 h|le h|qp h hc|sr h hc|ur h|ud h|rH h hw|rU h hw|us h|wr h|wd h|ze h hq|xp h hq|d2 h|d3 h|d4 h=>skip
 case' r0 h=>unfold head;split
 case' kg h hi=>split
 case' r1 h=>unfold head;split
 case' jA p h hp hw h0=>rcases hp with rfl|rfl
 case' r3 h=>unfold head;split
 case' ls h hs=>unfold head;split
 case' u0 h=>unfold du;split;rotate_left;split;unfold cM;split
 case' ux h=>unfold cM;split
 case' ue h=>unfold next;split;rotate_left;split
 all_goals simp only[aC,aG,aH,h]at h1 o k i q r l
 all_goals refine⟨?_,?_,?_,?_,c,d,λe=>(by have t:=a e;clear c d a f;first|omega|simp),f,?_,?_⟩<;>(try simp only[aC,aG,aH,h])<;>(try dsimp only)<;>first|omega|(intros;simp;done)|(intros;simp;omega)
theorem Ut{M a:Mt}{s s':Sh}(h:eZ M s a s'):a.i=M.i/\s'.word=s.word/\s'.ms=s.ms:=by cases h<;>exact⟨rfl,rfl,rfl⟩
def eA(p:Mc):Nat:=match p with|.md=>6|.ma=>5|.mr=>4|.me=>3|.mg=>2|.kd=>10|.w1|.w2=>9|.ww=>8|.w3=>7|.w4=>6|.ke=>5|.aq=>4
def nf(M:Mt)(s:Sh):Nat:=match M.pc with|.w1=>2|.w2=>if s.cnt=M.cnt/\s.wt=M.wt then 1 else 3|_=>0
theorem abe{M a:Mt}{s s':Sh}(h:eZ M s a s'):eA a.pc+s'.ws<eA M.pc+s.ws\/(eA a.pc=eA M.pc/\s'=s/\nf a s<nf M s):=by cases h with|xP h h0=>right;exact⟨by simp[eA,h],rfl,by simp[nf,h]⟩|xB h b=>right;exact⟨by simp[eA,h],rfl,by simp only[nf,h];rw[if_neg b];omega⟩|w3 h h0=>left;simp only[eA,h];omega|md h|yJ h h0|xM h h0|mr h|me h|kd h|xZ h h0|yt h b|ww h|w4 h|ke h=>left;simp[eA,h]
def cV(M:Mt):Nat:=match M.pc with|.md|.mg|.kd|.aq=>0|_=>1
def lH(C:Cx)(M a:Mt)(es:Array Event):Prop:=match M.pc with|.mr=>es=#[mk (.read (eG C))]|.ww=>es=#[mk (.write (eG C))]|_=>gY C (cV M) (cV a) es
structure oR(M:Mt)(s:Sh):Prop where
 ok:s.ok
 ma:M.pc=.ma->s.wt=0
 w1:M.pc=.w1->s.wt=0
 w2:M.pc=.w2->M.wt=0/\M.cnt≠0/\M.cnt<=60
 w4:M.pc=.w4->s.cnt=0/\s.wt=0
abbrev iq:Nat->Prop:=λ_=>False
def Ck(C:Cx)(g g':Gq):Prop:=g.status=.running/\g'.status=.running/\∀m w,Live C w->stepG C.P m g w=.go g' w #[]
def jC(C:Cx):Nat->Gq->Gq->Prop|0,g,g'=>g=g'|n+1,g,g'=>∃a,Ck C g a/\jC C n a g'
theorem jC.of{C:Cx}:∀{n:Nat}{g g':Gq},jm C.P n g g'->jC C n g g'|0,_,_,h=>h|_+1,_,_,⟨g1,h1,a⟩=>⟨g1,⟨h1.1,h1.2.1,λm w _=>h1.2.2 m w⟩,jC.of a⟩
theorem jC.trans{C:Cx}:∀{n m:Nat}{a b c:Gq},jC C n a b->jC C m b c->jC C (n+m) a c|0,m,a,b,c,h,k=>by rw[Nat.zero_add];cases h;exact k|n+1,m,a,b,c,⟨g1,h1,d⟩,k=>by rw[Nat.add_right_comm];exact⟨g1,h1,d.trans k⟩
def ia(C:Cx)(MAt:Mt->Gq->HA->Prop)(M:Mt)(n:Nat)(g:Gq)(w:HA):Prop:=∃b,jC C n g b/\∀a,Rl C iq false none w a->MAt M b a
structure je(C:Cx)(At:Th->GC->(Nat->Prop)->Gq->HA->Prop)(MAt:Mt->Gq->HA->Prop)(Fin:Gq->Prop)(M:Mt)(g:Gq)(w:HA):Prop where
 run:g.status=.running
 off:g.offers=none
 wait:∀s g0,ShAt C w s g0->M.pc=.w3->s.ws=0->stepG C.P true g w=.go {g with status:=.blocked} w #[]
 step:∀s g0,ShAt C w s g0->oR M s->M.pc≠.mg->M.pc≠.aq->¬(M.pc=.w3/\s.ws=0)->∃M' s' g' w' es,eZ M s M' s'/\stepG C.P true g w=.go g' w' es/\ShAt C w' s' g0/\Eff C w w'/\lH C M M' es/\∃n,ia C MAt M' n g' w'
 fork:M.pc=.mg->M.i<C.n->∃g' child,stepG C.P true g w=.spawn g' child w #[]/\child.status=.running/\g'.status=.running/\(∃n,ia C MAt {pc:=if M.i+1<C.n then .md else .kd,i:=M.i+1} n g' w)/\∀y,av C false false false none none (At {pc:=.ld} y) iq child w
 acq:M.pc=.aq->∃g',stepG C.P true g w=.go g' w #[mk (.acquire (dC C))]/\g'.status=.running/\Fin g'
inductive rf:Tr->Tr->Prop|mk(f:HA->Tr)(w:HA):rf (f w) (.node f)
theorem T8:WellFounded rf:=by refine⟨λt=>?_⟩;induction t with|leaf=>exact⟨_,λy h=>by cases h⟩|node f a=>exact⟨_,λy h=>by cases h with|mk _ w=>exact a w⟩
abbrev Xm:=Nat×Tr
abbrev z8:Xm->Xm->Prop:=Prod.Lex (·<·) rf
theorem UD:WellFounded z8:=(Prod.lex Nat.lt_wfRel ⟨rf,T8⟩).wf
inductive One:List Xm->List Xm->Prop|head{x y:Xm}{l:List Xm}(h:z8 x y):One (x::l) (y::l)|tail{x:Xm}{l l':List Xm}(h:One l' l):One (x::l') (x::l)
theorem GR:∀l:List Xm,Acc One l|[]=>⟨_,λy h=>by cases h⟩|x::l=>by have a:=GR l;induction UD.apply x generalizing l with|intro x _ c=>induction a with|intro l a b=>refine⟨_,λy h=>?_⟩;cases h with|head h=>exact c _ h l ⟨_,a⟩|tail h=>exact b _ h
theorem ac8:WellFounded One:=⟨GR⟩
theorem zG:∀{l:List Xm}{i:Nat}{x y:Xm},l[i]?=some y->z8 x y->One (l.set i x) l|[],_,_,_,h,_=>by simp at h|a::l,0,x,y,h,b=>by simp only[List.getElem?_cons_zero,Option.some.injEq]at h;subst h;exact .head b|a::l,i+1,x,y,h,b=>.tail (zG (by simpa using h) b)
abbrev Ms:=Nat×(List Xm×Nat)
abbrev zM:Ms->Ms->Prop:=Prod.Lex (·<·) (Prod.Lex One (·<·))
theorem XS:WellFounded zM:=(Prod.lex Nat.lt_wfRel (Prod.lex ⟨One,ac8⟩ Nat.lt_wfRel)).wf
def cG:Nat->(Nat->Int)->Int|0,_=>0|j+1,f=>cG j f+f j
theorem xX{f g:Nat->Int}:∀{j:Nat},(∀i,i<j->f i=g i)->cG j f=cG j g|0,_=>rfl|j+1,h=>by rw[cG,cG,xX (λi a=>h i HU),h j HU]
theorem FU{α:Type}(f:Nat->α)(x:α)(b:α->Int){i:Nat}:∀{j:Nat},i<j->cG j (λa=>b (ConcN.upd f i x a))+b (f i)=cG j (λa=>b (f a))+b x|j+1,h=>by rcases Nat.lt_or_ge i j with c|e;(·have:=FU f x b c;simp only[cG,upd_ne f x (show j≠i by omega)];omega);·obtain rfl:i=j:=HU;simp only[cG,upd_same];rw[xX (g:=λa=>b (f a)) (λa d=>by rw[upd_ne f x HU])];omega
theorem Eb(f:Nat->Nat){i:Nat}:∀{j:Nat},i<j->∃r,sumTo j f=f i+r/\∀(g:Nat->Nat),(∀a,a≠i->g a=f a)->sumTo j g=g i+r|j+1,h=>by rcases Nat.lt_or_ge i j with d|e;(·obtain⟨r,h1,c⟩:=Eb f d;refine⟨r+f j,by rw[sumTo,h1];omega,λg b=>?_⟩;rw[sumTo,c g b,b j HU];omega);·obtain rfl:i=j:=HU;refine⟨sumTo i f,by rw[sumTo];omega,λg b=>?_⟩;rw[sumTo,sumTo_congr (g:=f) λa k=>b a HU];omega
def pre(p:Pc):Bool:=match p with|.ld|.l0|.r0|.sq|.c1|.r1|.c2|.t1|.s1|.t2|.r2|.a1|.r3|.le|.la=>true|_=>false
def post(p:Pc):Bool:=match p with|.ur|.ud|.u0|.uc|.ux|.us|.ue=>true|_=>false
structure TJ(T:Th):Prop where
 ve:T.ct=false->pre T.pc=true->T.ag=none
 rL:T.ct=true->T.ag.isSome=true
 jG:T.cd=(T.ct&&post T.pc)
 Hj:tail T.pc=true->T.ag=none/\T.ct=false
theorem aaw{T T':Th}(h:TJ T)(h1:T'.ct=T.ct)(c:T'.ag=T.ag)(j:T'.cd=T.cd)(d:(pre T.pc=true/\pre T'.pc=true)\/(post T.pc=true/\post T'.pc=true)\/(tail T.pc=true/\tail T'.pc=true)):TJ T':=by
 have e:∀p,(pre p=true->post p=false/\Ph.tail p=false)/\(post p=true->pre p=false/\Ph.tail p=false)/\(Ph.tail p=true->pre p=false/\post p=false):=by intro p;cases p<;>simp[pre,post,Ph.tail]
 obtain⟨a1,a2,a3⟩:=e T.pc;obtain⟨i,g,b3⟩:=e T'.pc;refine⟨λf a=>?_,λf=>by rw[c];exact h.rL (h1▸f),?_,λb=>?_⟩;·rw[c];rcases d with⟨x,_⟩|⟨_,y⟩|⟨_,y⟩;(·exact h.ve (h1▸f) x);(·rw[(g y).1]at a;cases a);·rw[(b3 y).1]at a;cases a
 ·rw[j,h.jG,h1];rcases d with⟨x,y⟩|⟨x,y⟩|⟨x,y⟩;(·rw[(a1 x).1,(i y).1]);(·rw[x,y]);·rw[(a3 x).2,(b3 y).2]
 ·rw[c,h1];rcases d with⟨_,y⟩|⟨_,y⟩|⟨x,_⟩;(·rw[(i y).2]at b;cases b);(·rw[(g y).2]at b;cases b);·exact h.Hj x
def over(T:Th):Prop:=tail T.pc=true\/(T.ct=false/\post T.pc=true/\T.ag=none)
def hold(T:Th):Prop:=T.ct=false\/T.pc=.ld
theorem sW(T:Th):pre (head T).pc=true/\(head T).ct=T.ct/\(head T).ag=T.ag/\(head T).cd=T.cd/\(head T).pc≠.ld/\(head T).pc≠.la:=by unfold head;split<;>simp[pre]
theorem I8(T:Th):post (cM T).pc=true/\(cM T).ct=T.ct/\(cM T).ag=T.ag/\(cM T).cd=T.cd:=by unfold cM;split<;>simp[post]
theorem afu(T:Th)(x:Wd):post (du T x).pc=true/\(du T x).ct=T.ct/\(du T x).ag=T.ag/\(du T x).cd=T.cd:=by unfold du;split;(·simp[post]);·split;(·exact I8 {T with old:=x});·simp[post]
theorem xr{T T':Th}{s s':Sh}(h:Mv N n T s T' s')(o:TJ T):TJ T'/\((T'.ag=T.ag/\T'.cd=T.cd/\T.pc≠.la/\(over T'->over T)/\(hold T->hold T'\/T.pc=.ld)/\(hold T'->hold T))\/(T.pc=.la/\T.ct=false/\T.ag=none/\T'.cd=false/\T.cd=false/\T'.ct=false/\T'.pc=.ur/\(n<N/\T'.ag=some n\/¬n<N/\T'.ag=none))\/(T.pc=.la/\T.ct=true/\T.cd=false/\T'.cd=true/\T'.ag=T.ag/\T'.ct=true/\T'.pc=.ur)\/(T.pc=.ue/\T.ct=true/\T.cd=true/\T'.ag=none/\T'.cd=false/\T'.ct=false/\T'.pc=.ld)\/(T.pc=.ue/\T.ct=false/\T'.ag=T.ag/\T'.cd=T.cd/\hold T'/\hold T/\(over T'->over T))):=by(have same:∀{T':Th},T'.ct=T.ct->T'.ag=T.ag->T'.cd=T.cd->((pre T.pc=true/\pre T'.pc=true)\/(post T.pc=true/\post T'.pc=true)\/(tail T.pc=true/\tail T'.pc=true))->T.pc≠.la->T'.pc≠.ld->TJ T'/\(T'.ag=T.ag/\T'.cd=T.cd/\T.pc≠.la/\(over T'->over T)/\(hold T->hold T'\/T.pc=.ld)/\(hold T'->hold T)):=by intro T' h1 t w r E D;(have e:∀p,(pre p=true->post p=false/\tail p=false)/\(post p=true->pre p=false/\tail p=false)/\(tail p=true->pre p=false/\post p=false):=by intro p;cases p<;>simp[pre,post,tail]);obtain⟨a1,a2,a3⟩:=e T.pc;obtain⟨v,B,b3⟩:=e T'.pc;refine⟨aaw o h1 t w r,t,w,E,λi=>?_,λj=>?_,λj=>?_⟩;(·unfold over at i⊢;rw[h1,t]at i;rcases r with⟨x,y⟩|⟨x,y⟩|⟨x,y⟩;(·rcases i with i|⟨_,i,_⟩;(·rw[(v y).2]at i;cases i);·rw[(v y).1]at i;cases i);(·rcases i with i|⟨G,_,A⟩;(·rw[(B y).2]at i;cases i);·exact .inr ⟨G,x,A⟩);·exact .inl x);(·unfold hold at j⊢;rw[h1];rcases j with j|j;(·exact .inl (.inl j));·exact .inr j);·unfold hold at j⊢;rw[h1]at j;exact j.imp id λx=>absurd x D);cases h with|qp h g=>have C:=o.ve g (by rw[h];rfl);(have jG:T.cd=false:=by rw[o.jG,g];rfl);refine⟨⟨λ_ r=>(by simp[pre]at r),λk=>(by simp[g]at k),by simp[g],λq=>(by simp[tail]at q)⟩,.inr (.inl ⟨h,g,C,rfl,jG,g,rfl,?_⟩)⟩;by_cases hnn:n<N;(·exact .inl ⟨hnn,by simp[hnn]⟩);·exact .inr ⟨hnn,by simp[hnn]⟩|sr h g=>refine⟨⟨λk=>(by simp[g]at k),λ_=>o.rL g,by simp[g,post],λq=>(by simp[tail]at q)⟩,.inr (.inr (.inl ⟨h,g,by rw[o.jG,h];simp[post],rfl,rfl,g,rfl⟩))⟩|ue h=>(cases g:T.ct with|true=>(have e:next T={pc:=.ld}:=by unfold next;rw[if_pos g]);rw[e];exact⟨⟨λ_ _=>rfl,λk=>(by cases k),rfl,λq=>(by simp[tail]at q)⟩,.inr (.inr (.inr (.inl ⟨h,rfl,by rw[o.jG,g,h];rfl,rfl,rfl,rfl,rfl⟩)))⟩|false=>(have jG:T.cd=false:=by rw[o.jG,g];rfl);cases u:T.ag with|none=>(have e:next T={pc:=.wr}:=by unfold next;simp[g,u]);rw[e];exact⟨⟨λ_ _=>rfl,λk=>(by cases k),rfl,λ_=>⟨rfl,rfl⟩⟩,.inr (.inr (.inr (.inr ⟨h,rfl,rfl,jG.symm,.inl rfl,.inl g,λ_=>.inr ⟨g,by rw[h];rfl,u⟩⟩)))⟩|some m=>(have e:next T={pc:=.ld,ct:=true,ag:=some m}:=by unfold next;simp[g,u]);rw[e];refine⟨⟨λk=>(by cases k),λ_=>rfl,rfl,λq=>(by simp[tail]at q)⟩,.inr (.inr (.inr (.inr ⟨h,rfl,rfl,jG.symm,.inr rfl,.inl g,λi=>?_⟩)))⟩;rcases i with i|⟨i,_⟩;(·simp[tail]at i);·cases i)|r0 h=>obtain⟨a,b,c,d,e,f⟩:=sW {T with old:=s.word,aw:=false,sv:=false,it:=0};obtain⟨x,y⟩:=same (T':=head {T with old:=s.word,aw:=false,sv:=false,it:=0}) b c d (.inl ⟨by rw[h];rfl,a⟩) (by rw[h];simp) e;exact⟨x,.inl y⟩|r1 h=>obtain⟨a,b,c,d,e,f⟩:=sW {T with old:=s.word,it:=T.it+1};obtain⟨x,y⟩:=same (T':=head {T with old:=s.word,it:=T.it+1}) b c d (.inl ⟨by rw[h];rfl,a⟩) (by rw[h];simp) e;exact⟨x,.inl y⟩|r3 h=>obtain⟨a,b,c,d,e,f⟩:=sW {T with old:=s.word};obtain⟨x,y⟩:=same (T':=head {T with old:=s.word}) b c d (.inl ⟨by rw[h];rfl,a⟩) (by rw[h];simp) e;exact⟨x,.inl y⟩|ls h H=>obtain⟨a,b,c,d,e,f⟩:=sW {T with old:=s.word,aw:=true,it:=0};obtain⟨x,y⟩:=same (T':=head {T with old:=s.word,aw:=true,it:=0}) b c d (.inl ⟨by rw[h];rfl,a⟩) (by rw[h];simp) e;exact⟨x,.inl y⟩|kg h I=>split<;>(refine(same ?_ ?_ ?_ ?_ ?_ ?_).imp id .inl<;>simp[h,pre])|ux h=>obtain⟨a,b,c,d⟩:=I8 {T with old:=s.word};obtain⟨x,y⟩:=same (T':=cM {T with old:=s.word}) b c d (.inr (.inl ⟨by rw[h];rfl,a⟩)) (by rw[h];simp) (λe=>by rw[e]at a;cases a);exact⟨x,.inl y⟩|u0 h=>obtain⟨a,b,c,d⟩:=afu T {s.word with l:=0};obtain⟨x,y⟩:=same (T':=du T {s.word with l:=0}) b c d (.inr (.inl ⟨by rw[h];rfl,a⟩)) (by rw[h];simp) (λe=>by rw[e]at a;cases a);exact⟨x,.inl y⟩|mj h F h0=>refine(same ?_ ?_ ?_ ?_ ?_ ?_).imp id .inl<;>simp[h,pre]|jA p h r F h0=>rcases r with rfl|rfl<;>(refine(same ?_ ?_ ?_ ?_ ?_ ?_).imp id .inl<;>simp[h,pre])|_=>rename_i h;first|(refine(same ?_ ?_ ?_ ?_ ?_ ?_).imp id .inl<;>simp[h,pre,post,tail];done)|(rename_i z;refine(same ?_ ?_ ?_ ?_ ?_ ?_).imp id .inl<;>simp[z,pre,post,tail];done)
def pend(C:Cx)(i:Nat)(T:Th):Int:=if T.cd then 0 else match T.ag with|some m=>C.bf m i|none=>0
structure DI(C:Cx)(D:GC)(j:Nat)(T:Nat->Th):Prop where
 tj:∀k,k<j->TJ (T k)
 le:D.n<=C.N
 lt:∀k,k<j->∀m,(T k).ag=some m->m<D.n
 br:∀k k',k<j->k'<j->∀m,(T k).ag=some m->(T k').ag=some m->k=k'
 nn:∀k,k<j->over (T k)->D.n=C.N
 sum:∀i,D.c i+cG j (λk=>pend C i (T k))=cG D.n (λm=>C.bf m i)
theorem zY{B:Int}{f:Nat->Int}(h:∀k,0<=f k/\f k<=B):∀n,0<=cG n f/\cG n f<=n*B|0=>⟨by simp[cG],by simp[cG]⟩|n+1=>by have b:=zY h n;have a:=h n;(have e:((n+1:Nat):Int)*B=n*B+B:=by rw[Int.natCast_succ,Int.add_mul,Int.one_mul]);rw[e];simp only[cG];omega
theorem DI.bound{C:Cx}{D:GC}{T:Nat->Th}(h:DI C D j T)(a:∀m i,0<=C.bf m i/\C.bf m i<=65536)(c:C.N<=4294967296)(d:j<=16)(i:Nat):-1152921504606846976<=D.c i/\D.c i<=1152921504606846976:=by
 have h1:=zY (f:=λm=>C.bf m i) (λm=>a m i) D.n;have e:=zY (B:=65536) (f:=λk=>pend C i (T k)) (λk=>by unfold pend;split;(·omega);·split;(·exact a _ _);·omega) j;have g:=h.sum i;have b:=h.le;have e1:(D.n:Int)*65536<=4294967296*65536:=by omega
 have e2:(j:Int)*65536<=16*65536:=by omega
 omega
theorem qo{C:Cx}{T:Nat->Th}{T':Th}(b:k<j)(i:Nat):cG j (λa=>pend C i (ConcN.upd T k T' a))=cG j (λa=>pend C i (T a))+pend C i T'-pend C i (T k):=by have:=FU T T' (pend C i) b;omega
theorem dw{α:Type}(T:Nat->α)(T':α)(k a:Nat):(a=k/\ConcN.upd T k T' a=T')\/(a≠k/\ConcN.upd T k T' a=T a):=by by_cases h:a=k;(·subst h;exact .inl ⟨rfl,upd_same _ _ _⟩);·exact .inr ⟨h,upd_ne _ _ h⟩
def bu(C:Cx)(T:Th)(D:GC):GC:=if T.pc=.la then upd C T D else D
theorem Jx(C:Cx)(T:Th)(D:GC):D.n<=(bu C T D).n:=by unfold bu upd;split;(·split;(·exact Nat.le_refl _);·split;(·exact Nat.le_succ _);·exact Nat.le_refl _);·exact Nat.le_refl _
theorem ahy{C:Cx}{D:GC}{T:Nat->Th}{T':Th}{s s':Sh}(h:Mv C.N D.n (T k) s T' s')(z:k<j)(g:DI C D j T):DI C (bu C (T k) D) j (ConcN.upd T k T'):=by
 obtain⟨U,O⟩:=xr h (g.tj k z);have tj:∀a,a<j->TJ (ConcN.upd T k T' a):=λa f=>by rcases dw T T' k a with⟨_,e⟩|⟨_,e⟩;(·rw[e];exact U);·rw[e];exact g.tj a f
 have keep:T'.ag=(T k).ag->T'.cd=(T k).cd->(T k).pc≠.la->(over T'->over (T k))->DI C (bu C (T k) D) j (ConcN.upd T k T'):=by intro p R H M;(have e:bu C (T k) D=D:=by unfold bu;rw[if_neg H]);rw[e];refine⟨tj,g.le,λa f m l=>?_,λa b f u m h1 r=>?_,λa f d=>?_,λi=>?_⟩;(·rcases dw T T' k a with⟨rfl,e⟩|⟨_,e⟩;(·rw[e,p]at l;exact g.lt a f m l);·rw[e]at l;exact g.lt a f m l);(·(have F:∀a,(ConcN.upd T k T' a).ag=(T a).ag:=λa=>by rcases dw T T' k a with⟨rfl,e⟩|⟨_,e⟩;(·rw[e,p]);·rw[e]);rw[F]at h1 r;exact g.br a b f u m h1 r);(·rcases dw T T' k a with⟨rfl,e⟩|⟨_,e⟩;(·rw[e]at d;exact g.nn a f (M d));·rw[e]at d;exact g.nn a f d);·(have w:pend C i T'=pend C i (T k):=by unfold pend;rw[p,R]);rw[qo z,w];have:=g.sum i;omega
 rcases O with⟨h1,r,v,q,_⟩|⟨h1,r,v,q,A,I,y,Q⟩|⟨h1,r,v,q,A,I,y⟩|⟨h1,r,v,q,A,I,y⟩|⟨h1,r,v,q,_,_,y⟩;·exact keep h1 r v q
 ·(have L:∀i,pend C i (T k)=0:=λi=>by unfold pend;rw[A,v];rfl);rcases Q with⟨B,p⟩|⟨B,p⟩;(·(have e:bu C (T k) D={D with n:=D.n+1}:=by unfold bu upd;rw[if_pos h1,r];simp[B]);rw[e];refine⟨tj,B,λa f m l=>?_,λa b f u m o g2=>?_,λa f d=>?_,λi=>?_⟩;(·rcases dw T T' k a with⟨rfl,e⟩|⟨_,e⟩;(·rw[e,p]at l;cases l;exact Nat.lt_succ_self _);·rw[e]at l;exact Nat.lt_succ_of_lt (g.lt a f m l));(·rcases dw T T' k a with⟨N,e⟩|⟨J,e⟩<;>rcases dw T T' k b with⟨P,t⟩|⟨K,t⟩;(·rw[N,P]);(·rw[e,p]at o;cases o;rw[t]at g2;exact absurd (g.lt b u _ g2) (Nat.lt_irrefl _));(·rw[t,p]at g2;cases g2;rw[e]at o;exact absurd (g.lt a f _ o) (Nat.lt_irrefl _));·rw[e]at o;rw[t]at g2;exact g.br a b f u m o g2);(·exfalso;rcases dw T T' k a with⟨rfl,e⟩|⟨_,e⟩;(·rw[e]at d;rcases d with d|⟨_,_,d⟩;(·rw[y]at d;cases d);·rw[p]at d;cases d);·rw[e]at d;have:=g.nn a f d;omega);·(have w:pend C i T'=C.bf D.n i:=by unfold pend;rw[q,p];rfl);rw[qo z,w,L];have:=g.sum i;simp only[cG];omega);·(have e:bu C (T k) D=D:=by unfold bu upd;rw[if_pos h1,r];simp[B]);rw[e];(have S:D.n=C.N:=by have:=g.le;omega);refine⟨tj,g.le,λa f m l=>?_,λa b f u m o g2=>?_,λ_ _ _=>S,λi=>?_⟩;(·rcases dw T T' k a with⟨rfl,e⟩|⟨_,e⟩;(·rw[e,p]at l;cases l);·rw[e]at l;exact g.lt a f m l);(·rcases dw T T' k a with⟨rfl,e⟩|⟨J,e⟩;(·rw[e,p]at o;cases o);·rcases dw T T' k b with⟨rfl,t⟩|⟨K,t⟩;(·rw[t,p]at g2;cases g2);·rw[e]at o;rw[t]at g2;exact g.br a b f u m o g2);·(have w:pend C i T'=0:=by unfold pend;rw[q,p];rfl);rw[qo z,w,L];have:=g.sum i;omega
 ·obtain⟨m,l⟩:=Option.isSome_iff_exists.1 ((g.tj k z).rL r);(have e:bu C (T k) D={D with c:=λi=>D.c i+C.bf m i}:=by unfold bu upd;rw[if_pos h1,r];simp[l]);rw[e];refine⟨tj,g.le,λa f x E=>?_,λa b f u x o g2=>?_,λa f d=>?_,λi=>?_⟩;(·rcases dw T T' k a with⟨rfl,e⟩|⟨_,e⟩;(·rw[e,A]at E;exact g.lt a f x E);·rw[e]at E;exact g.lt a f x E);(·(have F:∀a,(ConcN.upd T k T' a).ag=(T a).ag:=λa=>by rcases dw T T' k a with⟨rfl,e⟩|⟨_,e⟩;(·rw[e,A]);·rw[e]);rw[F]at o g2;exact g.br a b f u x o g2);(·rcases dw T T' k a with⟨rfl,e⟩|⟨_,e⟩;(·rw[e]at d;rcases d with d|⟨d,_⟩;(·rw[y]at d;cases d);·rw[I]at d;cases d);·rw[e]at d;exact g.nn a f d);·(have w:pend C i T'=0:=by unfold pend;rw[q];rfl);(have G:pend C i (T k)=C.bf m i:=by unfold pend;rw[v,l];rfl);rw[qo z,w,G];have:=g.sum i;simp only;omega
 ·(have H:(T k).pc≠.la:=by rw[h1];simp);(have e:bu C (T k) D=D:=by unfold bu;rw[if_neg H]);rw[e];refine⟨tj,g.le,λa f m l=>?_,λa b f u m o g2=>?_,λa f d=>?_,λi=>?_⟩;(·rcases dw T T' k a with⟨rfl,e⟩|⟨_,e⟩;(·rw[e,q]at l;cases l);·rw[e]at l;exact g.lt a f m l);(·rcases dw T T' k a with⟨rfl,e⟩|⟨J,e⟩;(·rw[e,q]at o;cases o);·rcases dw T T' k b with⟨rfl,t⟩|⟨K,t⟩;(·rw[t,q]at g2;cases g2);·rw[e]at o;rw[t]at g2;exact g.br a b f u m o g2);(·rcases dw T T' k a with⟨rfl,e⟩|⟨_,e⟩;(·rw[e]at d;rcases d with d|⟨_,d,_⟩;(·rw[y]at d;cases d);·rw[y]at d;cases d);·rw[e]at d;exact g.nn a f d);·(have w:pend C i T'=0:=by unfold pend;rw[A,q];rfl);(have G:pend C i (T k)=0:=by unfold pend;rw[v];rfl);rw[qo z,w,G];have:=g.sum i;omega
 ·exact keep v q (by rw[h1];simp) y
section
variable(C:Cx)(O tk:Nat->Nat->Prop)
def jH(i:Nat)(l:Loc):Prop:=∃k,i=C.c0+k/\((∃a,l=.cell a/\(O k a.block\/(a.block=C.Rc/\tk k (a.off/8))))\/∃b,l=.obj b/\O k b)
def jJ(i:Nat)(l:Loc):Prop:=C.c0<=i/\∃a,l=.cell a/\Ro C a
def fe(l:Loc):Prop:=C.iF l\/∃a,l=.cell a/\fD C a
def j0(l:Loc):Prop:=∃a,l=.cell a/\Gd C a
structure Geo:Prop where
 cw:C.Cw<C.low
 wg:C.Wg<C.low
 rc:C.Rc<C.low
 zf:C.Cw≠C.Wg
 kJ:C.Cw≠C.Rc
 kx:C.Wg≠C.Rc
 c0:1<=C.c0
 n1:1<=C.n
 pS:C.n<=16
 vC:∀a,C.iF (.cell a)->a.block<C.low/\a.block≠C.Cw/\a.block≠C.Rc
 afD:∀b,C.iF (.obj b)->b<C.low
 dl:∀m i,0<=C.bf m i/\C.bf m i<=65536
 nN:C.N<=4294967296
end
section
variable{C:Cx}{O tk:Nat->Nat->Prop}
theorem Jw(d:Geo C)(g:∀k b,O k b->C.low<=b)(n:∀k k' b,O k b->O k' b->k=k')(s:∀k k' m,tk k m->tk k' m->k=k'):ApartL (fe C) (j0 C) (jH C O tk) (jJ C):=by
 have w:=d.cw;have g2:=d.wg;have g3:=d.rc;refine⟨⟨?_,?_,?_,?_⟩,?_,?_,?_⟩;·rintro _ _ l⟨k,rfl,h⟩⟨k',rfl,f⟩;(have:k=k':=by rcases h with⟨a,rfl,h⟩|⟨b,rfl,h⟩;(·rcases f with⟨a',e,f⟩|⟨b,e,_⟩;(·cases e;rcases h with h|⟨h1,o⟩<;>rcases f with f|⟨v,q⟩;(·exact n _ _ _ h f);(·exact absurd (g _ _ h) HU);(·exact absurd (g _ _ f) HU);·exact s _ _ _ o q);·cases e);·rcases f with⟨a',e,_⟩|⟨b',e,f⟩;(·cases e);·cases e;exact n _ _ _ h f);rw[this]
 ·rintro _ _ l⟨k,rfl,h⟩⟨_,a,rfl,r1,r2,r3,_⟩;rcases h with⟨a',e,h⟩|⟨b,e,_⟩;(·cases e;rcases h with h|⟨h1,_⟩;(·exact absurd (g _ _ h) HU);·exact r3 h1);·cases e
 ·rintro _ l⟨k,rfl,h⟩c;rcases h with⟨a,rfl,h⟩|⟨b,rfl,h⟩;(·rcases c with c|⟨a',e,c⟩;(·obtain⟨s1,u,p⟩:=d.vC a c;rcases h with h|⟨h1,_⟩;(·exact absurd (g _ _ h) HU);·exact p h1);·cases e;rcases h with h|⟨h1,_⟩;(·have:=g _ _ h;rcases c with c|⟨c,_⟩<;>omega);·rcases c with c|⟨c,_⟩;(·exact d.kx (c.symm.trans h1));·exact d.kJ (c.symm.trans h1));·rcases c with c|⟨a',e,_⟩;(·have:=d.afD b c;have:=g _ _ h;omega);·cases e
 ·rintro _ l⟨_,a,rfl,r1,r2,r3,i,r⟩c;rcases c with c|⟨a',e,c⟩;(·exact r c);·cases e;rcases c with c|⟨c,t⟩;(·exact r2 c);·have:=i c;omega
 ·rintro l⟨a,rfl,p1,j⟩c;rcases c with c|⟨a',e,c⟩;(·exact(d.vC a c).2.1 p1);·cases e;rcases c with c|⟨_,t⟩;(·exact d.zf (p1.symm.trans c));·omega
 ·rintro _ l⟨k,rfl,h⟩⟨a,rfl,p1,j⟩;rcases h with⟨a',e,h⟩|⟨b,e,_⟩;(·cases e;rcases h with h|⟨h1,_⟩;(·have:=g _ _ h;omega);·exact d.kJ (p1.symm.trans h1));·cases e
 ·rintro _ l⟨_,a,rfl,_,_,_,i,_⟩⟨a',e,p1,j⟩;cases e;have:=i p1;omega
theorem KB(a:Geo C){d F:Nat->Prop}{c A:Bool}{f:Option Nat}{es:Array Event}{s:Sh}{g0:FV}(k:ShAt C w s g0)(E:s.ok)(j:kU C w cs)(h:Dn C d F c A f w w' es)(M:C.low<=w.heap.size)(h1:∀b,d b->C.low<=b)(r:∀b,O2 b->b<w.heap.size/\¬d b/\C.low<=b)(t:c=true->own2=false)(u:∀m,job2=some m->f≠some m):Rl C O2 own2 job2 w w':=by
 have J:=a.cw;have g2:=a.wg;have g3:=a.rc;obtain⟨g',y,I⟩:=h.nz _ _ _ k.1;obtain⟨cs',n,B⟩:=h.aJ _ j;have D:WgAt C w' s.cnt s.wt s.ws:=(h.keep C.Wg HU (λx=>by have:=h1 _ x;omega) (Ne.symm a.zf) a.kx).trans k.2;refine⟨h.tape,h.output,by rw[h.os];exact .refl _,h.size,λb l v _ z=>h.keep b HU (λx=>by have:=h1 _ x;omega) v z,λb l=>?_,λ_=>⟨⟨s,g',E,y,D⟩,cs',n⟩,λo x m g H=>?_,λm G i K=>?_⟩;·obtain⟨a1,a2,a3⟩:=r b l;exact h.keep b a1 a2 HU HU
 ·obtain⟨L,p,q⟩:=h.nz _ _ _ H;(have:c=false:=by cases c with|false=>rfl|true=>rw[t rfl]at o;cases o);rw[q this]at p;exact⟨x,m,p⟩
 ·(have e:f≠some ((8*m+i)/8):=by have:(8*m+i)/8=m:=HU;rw[this];exact u m G);simp only[World.cell?,n.1,j.1];exact B _ e
theorem vm(c:Geo C){s s':Sh}{g0:FV}(n:ShAt C w s g0)(j:ShAt C w' s' g0)(l:s'.ok)(d:kU C w cs)(h:Eff C w w')(a:∀b,O2 b->C.low<=b):Rl C O2 own2 job2 w w':=by have p:=c.cw;have g2:=c.wg;have f:w'.heap[C.Rc]?=w.heap[C.Rc]?:=h.block _ (Ne.symm c.kJ) (Ne.symm c.kx);refine⟨h.tape,h.output,h.os,by rw[h.size];exact Nat.le_refl _,λb _ h1 a _=>h.block b h1 a,λb k=>h.block b (by have:=a b k;omega) (by have:=a b k;omega),λ_=>⟨⟨s',g0,l,j⟩,cs,f.trans d.1,d.2⟩,λ_ x m g o=>?_,λm _ i _=>by simp only[World.cell?,f]⟩;(have e:g=g0:=by have:=o.1.symm.trans n.1.1;simp only[Option.some.injEq,Obj.cells.injEq,and_true]at this;have:=List.append_cancel_left (congrArg Array.toList this);simpa using(List.cons.inj (List.cons.inj this).2).2);rw[e];exact⟨s'.word,s'.ms,j.1⟩
end
end Ph
