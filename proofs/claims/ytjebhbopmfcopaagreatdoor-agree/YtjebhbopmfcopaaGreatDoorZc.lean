/- Agree, a part. -/
import Derived.Test.YtjebhbopmfcopaaGreatDoorZV
import Derived.Test.YtjebhbopmfcopaaGreatDoorZY
import Derived.Test.YtjebhbopmfcopaaGreatDoorZb
set_option maxRecDepth 100000
namespace Go.Proofs.YtjebhbopmfcopaaGreatDoor
open Go.Proofs Tryz
noncomputable section
variable{a:Addr}{gs:Fo}{c c' cs:DS}{f:FuncId}{b g g' m n o off:Nat}{X:Nat->Prop}{fz:Nat×Nat}{sl:CL}{P:Program}{e t ty:TypeId}{x y:HH}{v w w':HA}
namespace Ph
open Conc Kw Kl Kd
theorem IR{g:Gq}{ad:Addr}{v:HH}(h:semAt g=some (do pure (.value (<-convert 187 189 (.pointer (some ad))))))(a:w.cell? ad=some v)(m:Bool):stepG prog m g w=.go (fin g (.pointer (some ad))) w #[]:=by have b:=run_convert_to_unsafe (P:=prog) Db pE KW a;have he:=events_convert_to_unsafe (P:=prog) Db pE KW a #[];rw[jZ (v:=.pointer (some ad)) (w':=w) h (by simp[b])];simp[he,seen_none]
theorem Gx{P:Program}{m d:Nat}:∀{n:Nat}{g g':Gq},jm P n g g'->QuitsD P m d g'->QuitsD P (n+m) d g|0,g,g',h,k=>by cases h;rw[Nat.zero_add];exact k|n+1,g,g',⟨g1,⟨h1,_,b⟩,a⟩,k=>by rw[Nat.add_right_comm];exact .ctl h1 (b false) (Gx a k)
theorem ns{d:Nat}{g g':Gq}(h:aa P g g')(k:∃m,QuitsD P m d g'):∃m,QuitsD P m d g:=let⟨_,x⟩:=h;let⟨_,y⟩:=k;⟨_,Gx x y⟩
theorem Lc{C:Cx}(c:fD C a):gY C 1 1 #[⟨.cell a,true,true⟩]:=by refine⟨λx b=>?_,rfl,λj x b=>?_⟩;(·simp at b;exact .inr (.inr ⟨a,true,b,c⟩));·cases j with|zero=>exact .inr (by simp[deafBehind])|succ j=>simp at b
theorem wk4(q:Kd)(x z y k u t e:Int):mayWake prog (D4 q x z y k u t e)=true:=HW
section
attribute[local irreducible]Wv Wr Wx D1 pj oD oW oU pR oq mX mh my mG oZ pM D2 ou D3 pY D4 oK pC fin aL ta Za Zb Zc Zd aN iD
def eI(q:Kd)(T:Th)(g:Gq):Prop:=match T.pc with|.wr=>g=Wr q|.wd=>g=Wx q|.d1=>g=D1 q|.d2=>g=D2 q (gw 0 1) 0 0 0 1 1|.d3=>g=D3 q (gw 0 1) 0 0 0 1 1 (gw 0 1)|.d4=>g=D4 q (gw 0 1) 0 0 0 1 1 (gw 0 1)|_=>False
def Qt(q:Kd)(g:Gq):Prop:=(∃a b:Nat,a<=60/\b<=1/\¬(a=0/\b=1)/\g=fin (D1 q) (.int .u64 (gw a b)))\/g=fin (D4 q (gw 0 1) 0 0 0 1 1 (gw 0 1)) (.tuple #[])
section
variable{q:Kd}(he:∃m,QuitsD prog m 0 (R {q.c with mode:=.returning} q.cs))
include he
theorem tX{z:Gq}(h1:z.status=.running)(b:∀w,stepG prog false z w=.go (iD prog z) w #[mk .enable])(c:aN prog 4 (iD prog z)=R {q.c with mode:=.returning} q.cs):∃m,QuitsD prog m 1 z:=by obtain⟨m,a⟩:=ns (bc prog 4 (iD prog z)) (by rw[c];exact he);exact⟨m+1,.said (mk .enable) rfl h1 b a⟩
theorem QM{a:Nat}(g:a<=60)(d:b<=1)(h:¬(a=0/\b=1)):∃m,QuitsD prog m 1 (fin (D1 q) (.int .u64 (gw a b))):=by have e:=Fy q (a:=a) (b:=b) HU d;refine ns e ?_;by_cases h0:b=0;(·have e1:=xy q (gw a b) 0 a a b b (dN .u32 (r:=false) (by rw[h0];rfl));refine ns e1 ?_;by_cases h1:a=0;(·have e2:=Ed q (gw a b) 0 a a b b (oM .i32 (r:=false) (by rw[h1];rfl));have f:=afB q (gw a b) 0 a a b b (cS .u32 (r:=true) (by rw[h0];rfl));refine ns (e2.trans (f.trans (bc prog 40 _))) ?_;(have c:aN prog 40 (fin (pM q (gw a b) 0 a a b b) (.bool true))=Zc q (gw a b) 0 a a b b:=by unfold Zc;rfl);rw[c];exact tX he (agC _ _ _ _ _ _ _) (ajp _ _ _ _ _ _ _) (ND _ _ _ _ _ _ _));·have e2:=Ed q (gw a b) 0 a a b b (oM .i32 (r:=true) (by simp;omega));refine ns (e2.trans (bc prog 40 _)) ?_;(have c:aN prog 40 (fin (mG q (gw a b) 0 a a b b) (.bool true))=Zb q (gw a b) 0 a a b b:=by unfold Zb;rfl);rw[c];exact tX he (aby _ _ _ _ _ _ _) (ag0 _ _ _ _ _ _ _) (acN _ _ _ _ _ _ _));·have e1:=xy q (gw a b) 0 a a b b (dN .u32 (r:=true) (by simp;omega));have e2:=K9 q (gw a b) 0 a a b b (oM .i32 (r:=true) (by simp;omega));refine ns (e1.trans (e2.trans (bc prog 40 _))) ?_;(have c:aN prog 40 (fin (my q (gw a b) 0 a a b b) (.bool true))=Za q (gw a b) 0 a a b b:=by unfold Za;rfl);rw[c];exact tX he (Lr _ _ _ _ _ _ _) (akh _ _ _ _ _ _ _) (S9 _ _ _ _ _ _ _)
theorem aiu:∃m,QuitsD prog m 1 (fin (D4 q (gw 0 1) 0 0 0 1 1 (gw 0 1)) (.tuple #[])):=by have e1:=aj7 q (gw 0 1) 0 0 0 1 1 (gw 0 1) (Br .u32 (r:=0) rfl);have e2:=Lj q (gw 0 1) 0 0 0 1 1 (gw 0 1) 0 (dN .u32 (r:=false) rfl);refine ns (e1.trans (e2.trans (bc prog 40 _))) ?_;(have a:aN prog 40 (fin (pC q (gw 0 1) 0 0 0 1 1 (gw 0 1) 0) (.bool false))=Zd q (gw 0 1) 0 0 0 1 1 (gw 0 1) 0:=by unfold Zd;rfl);rw[a];exact tX he (ajN _ _ _ _ _ _ _ _ _) (LF _ _ _ _ _ _ _ _ _) (aeu _ _ _ _ _ _ _ _ _)
theorem QU:∃qb,∀g,Qt q g->∃m,m<=qb/\QuitsD prog m 1 g:=by
 have h1:∀n,n<=61->∃qb,∀a b:Nat,a<n->b<=1->¬(a=0/\b=1)->∃m,m<=qb/\QuitsD prog m 1 (fin (D1 q) (.int .u64 (gw a b))):=by intro n;induction n with|zero=>intro _;exact⟨0,λa b h=>by omega⟩|succ n k=>intro p;obtain⟨qb,h⟩:=k HU;(have one:∀b,b<=1->∃m,¬(n=0/\b=1)->QuitsD prog m 1 (fin (D1 q) (.int .u64 (gw n b))):=λb d=>by by_cases c:n=0/\b=1;(·exact⟨0,λh=>absurd c h⟩);·obtain⟨m,e⟩:=QM he (a:=n) (b:=b) HU d c;exact⟨m,λ_=>e⟩);obtain⟨m0,h0⟩:=one 0 HU;obtain⟨m1,h1⟩:=one 1 HU;refine⟨qb+m0+m1,λa b l d c=>?_⟩;by_cases han:a=n;(·subst han;rcases(show b=0\/b=1 by omega)with rfl|rfl;(·exact⟨m0,HU,h0 c⟩);·exact⟨m1,HU,h1 c⟩);·obtain⟨m,e,f⟩:=h a b HU d c;exact⟨m,HU,f⟩
 obtain⟨qb,h⟩:=h1 61 HU;obtain⟨i,o⟩:=aiu he;refine⟨qb+i,λg j=>?_⟩;rcases j with⟨a,b,l,d,c,rfl⟩|rfl;·obtain⟨m,e,f⟩:=h a b HU d c;exact⟨m,HU,f⟩
 ·exact⟨i,HU,o⟩
end
variable{C:Cx}{q:Kd}{N n:Nat}{T:Th}{s:Sh}{g:Gq}{g0:FV}{w:HA}
def nh(C:Cx)(q:Kd)(N n:Nat)(T:Th)(s:Sh)(g:Gq)(g0:FV)(w:HA):Prop:=∃T' s' g' w' es,Mv N n T s T' s'/\stepG prog false g w=.go g' w' es/\ShAt C w' s' g0/\Eff C w w'/\EvStop C T T' es/\((T'.pc≠.quit/\∃a,aa prog g' a/\eI q T' a)\/(T'.pc=.quit/\Qt q g'))
theorem vH(a:q.b=C.Wg):q.m=.pointer (some (dC C)):=by show Value.pointer (some ⟨q.b,0,none⟩)=_;rw[a];rfl
theorem RL(e:q.b=C.Wg)(d:ShAt C w s g0)(a:T.pc=.wr)(c:eI q T g):nh C q N n T s g g0 w:=by simp only[eI,a]at c;subst c;have b:=FF q;rw[vH e]at b;refine⟨_,s,_,w,_,.wr a,mE (mk:=.releaseMerge) HY b Ev rfl false w,d,Eff.refl w,?_,.inl ⟨by simp,_,Qm q,rfl⟩⟩;unfold EvStop;rw[a];rfl
theorem Tf(c:ShAt C w s g0)(a:T.pc=.wd)(b:eI q T g):nh C q N n T s g g0 w:=by simp only[eI,a]at b;subst b;refine⟨_,s,_,w,_,.wd a,jE HY (JG q) rZ false w,c,Eff.refl w,cC (by simp[a]) (by simp[a]) (by simp[a]) ?_,.inl ⟨by simp,_,QP q,rfl⟩⟩;(have:aK T=0:=by simp[aK,a]);rw[this];exact rS
theorem Qh(r:C.Cw≠C.Wg)(t:q.b=C.Wg)(h:ShAt C w s g0)(m:dS T s)(c:T.pc=.d1)(o:eI q T g):nh C q N n T s g g0 w:=by
 simp only[eI,c]at o;subst o;have j:aK T=1:=by simp[aK,c]
 have i:=J7 q;rw[vH t]at i;obtain⟨y,v,x,l,u⟩:=m.ok;have h1:=m.d1 c;have d:=vi i DG (kV h) (rG h) false;have k:=ahE (a:=s.cnt) (b:=s.wt) HU l h1;unfold gw at k;rw[k]at d;have f:=uA h r (s.cnt-1) s.wt;by_cases hq:s.cnt=1/\s.wt=1;·obtain⟨p,e⟩:=hq;rw[p,e]at d f;refine⟨_,{s with cnt:=0},_,_,_,.xp c ⟨p,e⟩,d,?_,Eff.set w _ (.inr rfl),cC (by simp[c]) (by simp[c]) (by simp[c]) ?_,.inl ⟨by simp,_,adW q,rfl⟩⟩;(·(have:({s with cnt:=0}:Sh)={s with cnt:=0,wt:=1}:=by rw[<-e]);rw[this];exact f);·rw[j];exact iM jy
 ·refine⟨_,{s with cnt:=s.cnt-1},_,_,_,.ze c HU,d,f,Eff.set w _ (.inr rfl),cC (by simp[c]) (by simp[c]) (by simp[c]) ?_,.inr ⟨rfl,.inl ⟨s.cnt-1,s.wt,HU,l,HU,rfl⟩⟩⟩;rw[j];exact iM jy
theorem aaC(i:q.b=C.Wg)(d:ShAt C w s g0)(f:dS T s)(a:T.pc=.d2)(c:eI q T g):nh C q N n T s g g0 w:=by simp only[eI,a]at c;subst c;(have h:aK T=1:=by simp[aK,a]);have e:=Hx q (gw 0 1) 0 0 0 1 1;rw[vH i]at e;obtain⟨h1,j⟩:=f.d2 a;have b:=kV d;rw[h1,j]at b;refine⟨_,s,_,_,_,.d2 a,yk e An b false,d,Eff.refl w,cC (by simp[a]) (by simp[a]) (by simp[a]) ?_,.inl ⟨by simp,_,adT q,rfl⟩⟩;rw[h];exact lx jy
theorem PD(i:C.Cw≠C.Wg)(f:q.b=C.Wg)(b:ShAt C w s g0)(a:T.pc=.d3)(c:eI q T g):nh C q N n T s g g0 w:=by simp only[eI,a]at c;subst c;(have h:aK T=1:=by simp[aK,a]);have d:=FD q (gw 0 1) 0 0 0 1 1 (gw 0 1);rw[vH f]at d;have e:=uA b i 0 0;refine⟨_,{s with cnt:=0,wt:=0},_,_,_,.d3 a,afl d Pe (kV b) (rG b) false,e,Eff.set w _ (.inr rfl),cC (by simp[a]) (by simp[a]) (by simp[a]) ?_,.inl ⟨by simp,_,aku q,rfl⟩⟩;rw[h];exact Lc jy
theorem Sr(f:C.Cw≠C.Wg)(e:q.b=C.Wg)(b:ShAt C w s g0)(h:s.ok)(a:T.pc=.d4)(d:eI q T g):nh C q N n T s g g0 w:=by
 simp only[eI,a]at d;subst d;have i:aK T=1:=by simp[aK,a]
 have j:(#[.pointer (some ⟨q.b,1,none⟩),.bool false,.int .i64 0]:DS)[0]?=some (.pointer (some (eG C))):=by rw[e];rfl
 have c:=yi (Jq q (gw 0 1) 0 0 0 1 1 (gw 0 1)) Og j (wQ b) (C7 b) false;rw[wrap_u32 h.2.2.2.2]at c;refine⟨_,{s with ws:=s.ws+1},_,_,_,.d4 a,c,DW b f (s.ws+1),Eff.set w _ (.inr rfl),cC (by simp[a]) (by simp[a]) (by simp[a]) ?_,.inr ⟨rfl,.inr rfl⟩⟩;rw[i];exact qJ G6
theorem Dp(a:eI q T g):g.status=.running/\g.offers=none:=by
 unfold eI at a;split at a;·subst a;exact aW (FF _)
 ·subst a;exact aW (JG _)
 ·subst a;exact aW (J7 _)
 ·subst a;exact aW (Hx _ _ _ _ _ _ _)
 ·subst a;exact aW (FD _ _ _ _ _ _ _ _)
 ·subst a;exact aW (Jq _ _ _ _ _ _ _ _)
 ·exact a.elim
theorem aiL(a:eI q T g)(b:T.pc=.d4):mayWake prog g=true:=by simp only[eI,b]at a;subst a;exact wk4 _ _ _ _ _ _ _ _
end
end Ph
namespace Ph
open Conc Kw Kl
theorem zW{i:TypeInfo}{N c:Nat}(j:prog.underlying t=some (.slice e))(g:prog.info? e=some i)(k:m<N):calm? (α:=Next) prog (do pure (.value (<-Instr.indexAt t (.slice (some a) N c) (.int .i64 (m:Nat)))))=some (.value (.pointer (some (a.add (m*i.size))))):=by(have h:calm? prog (Instr.indexAt t (.slice (some a) N c) (.int .i64 (m:Nat)))=some (.pointer (some (a.add (m*i.size)))):=by(have b:calm? prog (underlying t)=some (.slice e):=by show calm? prog (match prog.underlying t with|some d=>pure d|none=>_)=_;rw[j];rfl);(have f:calm? prog (Go.sizeOf e)=some i.size:=by(have:calm? prog (typeInfo e)=some i:=by show calm? prog (match prog.info? e with|some d=>pure d|none=>_)=_;rw[g];rfl);show calm? prog (Sem.bind _ _)=_;rw[iy _ _ this];rfl);unfold Instr.indexAt;show calm? prog (Sem.bind (Sem.pure _) _)=_;rw[iy _ _ rfl];dsimp only;show calm? prog (Sem.bind (underlying t) _)=_;rw[iy _ _ b];dsimp only;show calm? prog (Sem.bind (underlying t) _)=_;rw[iy _ _ b];dsimp only;rw[if_pos HU];show calm? prog (Sem.bind (Go.sizeOf e) _)=_;rw[iy _ _ f];simp;rfl);show calm? prog (Sem.bind _ _)=_;rw[iy _ _ h];rfl
theorem Da:prog.underlying 88=some (.slice 56):=HW
theorem mR:prog.underlying 46=some (.slice 52):=HW
theorem xQ(h:(prog.underlying t).map fp=some false):∃d,prog.underlying t=some d/\fp d=false:=by cases a:prog.underlying t with|none=>rw[a]at h;cases h|some d=>rw[a]at h;exact⟨d,rfl,by simpa using h⟩
theorem vI(h:(prog.underlying t).map TypeDesc.isRow=some true)(k:(prog.info? t).map (·.size)=some n):(∃d,prog.underlying t=some d/\d.isRow=true)/\∃i,prog.info? t=some i/\i.size=n:=by constructor;(·cases a:prog.underlying t with|none=>rw[a]at h;cases h|some d=>rw[a]at h;exact⟨d,rfl,by simpa using h⟩);·cases a:prog.info? t with|none=>rw[a]at k;cases k|some d=>rw[a]at k;exact⟨d,rfl,by simpa using k⟩
theorem EY:(∃d,prog.underlying 56=some d/\d.isRow=true)/\∃i,prog.info? 56=some i/\i.size=2:=vI HW HW
theorem wL:(∃d,prog.underlying 52=some d/\d.isRow=true)/\∃i,prog.info? 52=some i/\i.size=8:=vI HW HW
theorem Ox:∃d,prog.underlying 29=some d/\fp d=false:=xQ HW
theorem s31:∃d,prog.underlying 31=some d/\fp d=false:=xQ HW
theorem yK:∃d,prog.underlying 129=some d/\fp d=false:=xQ HW
theorem oA(w:HA)(t:TypeId)(r:DS):(do pure (.value (<-Instr.box t (.agg r))):Sem Next).run P w=.ok (.value (.pointer (some ⟨w.heap.size,0,none⟩))) {w with heap:=w.heap.push (.cells r t (0,0))}/\(do pure (.value (<-Instr.box t (.agg r))):Sem Next).events P w #[]=#[]:=⟨rfl,rfl⟩
def Lo(C:Cx)(w:HA):Prop:=C.low<=w.heap.size/\∀b,b<C.low->b≠C.Cw->b≠C.Wg->b≠C.Rc->w.heap[b]?=C.w0.heap[b]?
def Bw(C:Cx)(w:HA):Prop:=Live C w/\Lo C w
section
variable{C:Cx}{O:Nat->Prop}{own:Bool}{ag wr:Option Nat}{w w₁:HA}{Stop:(Nat->Prop)->Gq->HA->Prop}
theorem Lo.rl(h:Lo C w)(r:Rl C O own ag w w₁):Lo C w₁:=⟨Nat.le_trans h.1 r.size,λb h1 c d a=>(r.low b h1 c d a).trans (h.2 b h1 c d a)⟩
theorem Bw.rl(h:Bw C w)(r:Rl C O own ag w w₁):Bw C w₁:=⟨r.live h.1,h.2.rl r⟩
theorem pf:Kp C O ag (Lo C):=⟨λw w₁ h r=>h.rl r,λw o v h=>⟨by simpa[World.setCell]using h.1,λb h1 a d c=>by rw[<-h.2 b h1 a d c];simp[World.setCell,Array.getElem?_modify,Ne.symm a]⟩⟩
theorem Fz(H:bQ C)(h:Bw C w)(b:o<5):w.cell? ⟨C.Cw,o,none⟩=C.aM[o]?:=by obtain⟨⟨⟨s,g,c,a⟩,_⟩,_⟩:=h;rw[wj a.1,List.getElem?_append_left (by rw[H.len];omega)]
theorem DC(h1:b<C.low)(c:b≠C.Cw)(d:b≠C.Wg)(e:b≠C.Rc)(a:¬C.iF (.cell ⟨b,o,none⟩)):eT C O own wr ⟨.cell ⟨b,o,none⟩,false,false⟩:=.inr (.inl ⟨⟨b,o,none⟩,false,rfl,.inr (.inl ⟨rfl,h1,d,e,λh=>absurd h c,a⟩)⟩)
structure eF where
 rk:Nat
 ro:Nat
 rd:Nat->FV
 er:Nat->Int
 vd:Nat->Int
 sq:Nat->HM
structure Wh(C:Cx)(q:Ko.Wk)(D:eF):Prop where
 here:bQ C
 b:q.b=C.Cw
 wg:q.wg=C.Wg
 Rc:q.Rc=C.Rc
 N:q.N=C.N
 aM:C.aM=[q.vc,q.px,.slice q.ra q.N q.rc,.int .i64 q.bd,q.aU]
 ra:0<C.N->q.ra=some ⟨D.rk,D.ro,none⟩/\D.rk<C.low/\D.rk≠C.Cw/\D.rk≠C.Wg/\D.rk≠C.Rc/\(∀o,¬C.iF (.cell ⟨D.rk,o,none⟩))/\∀m,m<C.N->C.w0.rangeAt D.rk (D.ro+m*2) (D.rd m)
 zZ:∀m,(D.rd m).length=2
 cb:q.cb<C.low/\q.cb≠C.Cw/\q.cb≠C.Wg/\q.cb≠C.Rc/\(∀o,¬C.iF (.cell ⟨q.cb,o,none⟩))/\C.w0.cell? ⟨q.cb,0,none⟩=some (q.p 0)
 aJ:∀m,(C.aJ m).length=8/\(∀v∈C.aJ m,v.oneCell'=true)/\(C.aJ m)[1]?=some (.int .i64 (D.vd m))/\(C.aJ m)[7]?=some (.string (D.sq m))
 sz:∀m,(D.sq m).size<65536
 bf:∀m(x:GC),m<C.N->{x with c:=λi=>x.c i+C.bf m i}=dM (cJ x (D.vd m)) (D.sq m).data.toList
 Nb:C.Rc≠C.Wg
 qb:∀g,Qt ⟨C.Wg,Ko.cz q,[Ko.bs]⟩ g->∃m,m<=C.qb/\QuitsD prog m 1 g
 align:∀m,m<C.N->∀(Stop:(Nat->Prop)->Gq->HA->Prop)O w c cs,(∀b,O b->C.low<=b)->Bw C w->(∀O' w₁,(∀b,O' b->C.low<=b)->Bw C w₁->av C false false false (some m) (some m) Stop O' (R (c.finish (.tuple #[.agg (C.aJ m).toArray,.int .i64 (D.er m)])) cs) w₁)->av C false false false (some m) (some m) Stop O (R (Frame.enter prog 20 #[q.vc,q.px,.agg (D.rd m).toArray,.int .i64 q.bd] .normal) (c::cs)) w
theorem Sa:(Ko.fO[29]?).map (λo=>o.after.any λe=>Region.binds .any e&&e.on==24)=some true:=HW
theorem ku(b:Nat):∀(a:FV)(o:Nat)(w:HA)(k:Nat),k≠b->(w.setCells b o a).heap[k]?=w.heap[k]?|[],_,_,_,_=>rfl|v::r,o,w,k,h=>by show((w.setCell ⟨b,o,none⟩ v).setCells b (o+1) r).heap[k]?=_;rw[ku b r (o+1) _ k h];exact Co.heap_setCell w ⟨b,o,none⟩ v k h
theorem vA(b:Nat):∀(d:FV)(o:Nat)(w:HA){c:DS}{e:TypeId}{fz:Nat×Nat},w.heap[b]?=some (.cells c e fz)->∃c',(w.setCells b o d).heap[b]?=some (.cells c' e fz)/\c'.size=c.size/\∀i,(i<o\/o+d.length<=i)->c'[i]?=c[i]?|[],_,_,c,_,_,h=>⟨c,h,rfl,λ_ _=>rfl⟩|v::r,o,w,c,e,fz,h=>by have h1:=Co.pP w ⟨b,o,none⟩ v h;obtain⟨c',f,g,j⟩:=vA b r (o+1) (w.setCell ⟨b,o,none⟩ v) h1;refine⟨c',f,by rw[g];simp,λi a=>?_⟩;rw[j i (by simp at a;omega)];simp only[Option.isSome_none,Bool.false_eq_true,if_false];exact Array.getElem?_setIfInBounds_ne (by simp at a;omega)
theorem pq(b:Nat):∀(a:FV)(o:Nat)(w:HA),(w.setCells b o a).tape=w.tape/\(w.setCells b o a).output=w.output/\(w.setCells b o a).os=w.os/\(w.setCells b o a).heap.size=w.heap.size|[],_,_=>⟨rfl,rfl,rfl,rfl⟩|v::r,o,w=>by obtain⟨h1,d,e,c⟩:=pq b r (o+1) (w.setCell ⟨b,o,none⟩ v);exact⟨h1,d,e,c.trans (by simp[World.setCell])⟩
theorem TK{c:FV}(h1:C.Cw≠C.Rc)(o:c.length=8){es:Array Event}(k:∀e∈es,eT C O false (some m) e):Dn C O O false false (some m) w (w.setCells C.Rc (8*m) c) es:=by obtain⟨m1,i,j,d⟩:=pq C.Rc c (8*m) w;refine⟨m1,i,j,Nat.le_of_eq d.symm,λb=>⟨.inl,λh=>h.elim id λh=>absurd h.2 (Nat.not_lt.2 (by rw[d];exact h.1))⟩,λb _ _ _ l=>ku _ _ _ _ _ l,λwd ms g a=>?_,λcs a=>?_,k,λh=>by cases h⟩;(·exact⟨g,⟨(ku _ _ _ _ _ h1).trans a.1,a.2⟩,λ_=>rfl⟩);·obtain⟨c',n,g2,g3⟩:=vA C.Rc c (8*m) w a.1;refine⟨c',⟨n,g2.trans a.2⟩,λoff f=>g3 off ?_⟩;have:off/8≠m:=λh=>f (by rw[h]);omega
theorem ahd(h1:C.Cw≠C.Rc)(o:C.Rc≠C.Wg)(h:Bw C w)(a:FV):Bw C (w.setCells C.Rc (8*m) a):=by obtain⟨⟨⟨s,g,k,e,c⟩,cs,d⟩,f⟩:=h;refine⟨⟨⟨s,g,k,⟨(ku _ _ _ _ _ h1).trans e.1,e.2⟩,?_⟩,?_⟩,by rw[(pq C.Rc a (8*m) w).2.2.2];exact f.1,λb l n b3 i=>(ku _ _ _ _ _ i).trans (f.2 b l n b3 i)⟩;(·unfold WgAt at c⊢;rw[ku _ _ _ _ _ (Ne.symm o)];exact c);·obtain⟨c',j,g2,_⟩:=vA C.Rc a (8*m) w d.1;exact⟨c',j,g2.trans d.2⟩
theorem OY(a:kU C w cs)(f:m<C.N)(d:(C.aJ m).length=8):io C m (w.setCells C.Rc (8*m) (C.aJ m)):=by intro i e;(have b:w.there C.Rc (8*m) (C.aJ m).length:=λj c=>by(have:8*m+j<cs.size:=by rw[a.2];omega);exact⟨by simp[World.cell?,a.1,this],by simp[World.frozen?,a.1]⟩);have:=World.rangeAt_setCells_same w C.Rc (8*m) (C.aJ m) b;exact(this i (C.aJ m)[i] (List.getElem?_eq_getElem HU)).trans (List.getElem?_eq_getElem HU).symm
def qm(C:Cx)(q:Ko.Wk)(D:eF)(m:Nat)(J:Nat->HH):Ko.Wk:={q with n:=(m:Nat),ok:=true,ar:=⟨D.rk,D.ro+m*2,none⟩,rd:=(D.rd m).toArray,am:=⟨C.Rc,8*m,none⟩,aJ:=(C.aJ m).toArray,er:=D.er m,J:=J}
section
attribute[local irreducible]fin aL aN Ko.Wg Ko.E7
variable{q:Ko.Wk}{A:eF}
theorem adj(W:Wh C q A)(L:m<C.N)(J:Nat->HH)(hO:∀b,O b->C.low<=b)(h:Bw C w)(k:∀g w₁,(∀b,g b->C.low<=b)->Bw C w₁->io C m w₁->av C false false false (some m) (some m) Stop g (Ko.E7 (qm C q A m J)) w₁):av C false false false (some m) (some m) Stop O (Ko.Wg (qm C q A m J)) w:=by
 have H:=W.here;obtain⟨ae,a4,a0,a3,a1,al,a7⟩:=W.ra HU;have X:(Ko.Wg (qm C q A m J)).frame.kind≠.early:=by rw[Ko.VE];simp
 refine av.lM (V:=Ko.V7 (qm C q A m J)) (Ko.sK (qm C q A m J)) Ko.kX (by rw[H.P];exact mixed) (λD g w=>(∀b,g b->C.low<=b)/\Bw C w/\(D.getD 29 false=true->D.getD 24 false=true/\io C m w)) ?_ ?_ ?_ ?_;·rintro D g w w₁⟨h1,u,K⟩r;exact⟨h1,u.rl r,λl=>⟨(K l).1,λi I=>(r.aJ m rfl i I).trans ((K l).2 i I)⟩⟩
 ·rintro i o D g w' rest x B h0 Q y kk;(have I:i<30:=by rw[<-Ko.qu];exact(J2.1 x).1);(have Y:Ko.x7 (qm C q A m J) i=some (execOp (bz (Ko.Wg (qm C q A m J)) Ko.fO (Ko.V7 (qm C q A m J))).frame.eval o):=by unfold Ko.x7 Ko.E7;rw[x];rfl);(have F:semAt (stA (Ko.Wg (qm C q A m J)) Ko.fO (Ko.V7 (qm C q A m J)) D (i::rest))=Ko.x7 (qm C q A m J) i:=by rw[Y];exact jO (Ko.sK (qm C q A m J)) X Ko.kX x Q);(have U:∀a,a≠i->(D.setIfInBounds i true).getD a false=D.getD a false:=λa G=>by rw[Array.getD_eq_getD_getElem?,Array.getD_eq_getD_getElem?,Array.getElem?_setIfInBounds_ne (Ne.symm G)]);(have same:(D.setIfInBounds i true).getD i false=true:=by rw[Array.getD_eq_getD_getElem?,Array.getElem?_setIfInBounds_self_of_lt (by rw[B,Ko.qu];exact I)];rfl);(have ai:∀a,D.getD a false=true->(D.setIfInBounds i true).getD a false=true:=λa G=>by by_cases z:a=i;(·rw[z];exact same);·rw[U a z];exact G);(have f0:D.getD i false=false:=by(have hl:i<D.size:=by rw[B,Ko.qu];exact I);rw[Array.getD_eq_getD_getElem?,Array.getElem?_eq_getElem hl]at h0⊢;simpa using h0);(have keep:∀w₁,i≠24->i≠29->Rl C g false (some m) w' w₁->(∀b,g b->C.low<=b)/\Bw C w₁/\((D.setIfInBounds i true).getD 29 false=true->(D.setIfInBounds i true).getD 24 false=true/\io C m w₁):=λw₁ n1 n2 r=>by refine⟨y.1,y.2.1.rl r,λl=>?_⟩;rw[U 29 (Ne.symm n2)]at l;rw[U 24 (Ne.symm n1)];exact⟨(y.2.2 l).1,λa G=>(r.aJ m rfl a G).trans ((y.2.2 l).2 a G)⟩);(have f:(Ko.x7 (qm C q A m J) i).map (calm? prog)=some (some (.value (Ko.V7 (qm C q A m J) i)))->i≠24->i≠29->av C false false false (some m) (some m) Stop g (stA (Ko.Wg (qm C q A m J)) Ko.fO (Ko.V7 (qm C q A m J)) D (i::rest)) w':=λM n1 n2=>by rw[Y]at M;refine .aR (by rw[H.P];exact sI (Ko.sK (qm C q A m J)) X Ko.kX x B Q (Option.some.inj M)) λw₁ s=>kk g w₁ (keep w₁ n1 n2 s));(have ld:∀(t:TypeId)(E:Nat),E<5->Ko.x7 (qm C q A m J) i=some (do pure (.value (<-Instr.loadAt t ((qm C q A m J).p E))))->(∃d,prog.underlying t=some d/\fp d=false)->C.aM[E]?=some (Ko.V7 (qm C q A m J) i)->i≠24->i≠29->av C false false false (some m) (some m) Stop g (stA (Ko.Wg (qm C q A m J)) Ko.fO (Ko.V7 (qm C q A m J)) D (i::rest)) w':=λt E a2 h1 u K n1 n2=>by obtain⟨d,T,l⟩:=u;rw[h1]at F;(have hp:(qm C q A m J).p E=.pointer (some ⟨C.Cw,E,none⟩):=by show Value.pointer (some ⟨(qm C q A m J).b,E,none⟩)=_;rw[<-W.b];rfl);rw[hp]at F;refine av.load F (by rw[H.P];exact T) l (λw₁ s=>(Fz H (y.2.1.rl s) a2).trans K) (Bt H a2) λw₁ s=>?_;rw[jX Ko.kX x B];exact kk g w₁ (keep w₁ n1 n2 s));match i,I with|0,_=>exact f (Ko.ML (qm C q A m J)) J1 (by decide)|1,_=>exact f (Ko.abN (qm C q A m J)) J1 (by decide)|2,_=>exact f (Ko.aez (qm C q A m J)) J1 (by decide)|3,_=>exact ld 46 4 HU (Ko.Pg (qm C q A m J)) ⟨_,mR,rfl⟩ (by rw[W.aM];rfl) J1 (by decide)|4,_=>exact f (Ko.aeF (qm C q A m J)) J1 (by decide)|5,_=>exact f (Ko.aeW (qm C q A m J)) J1 (by decide)|6,_=>exact f (Ko.N8 (qm C q A m J)) J1 (by decide)|7,_=>exact f (Ko.aep (qm C q A m J)) J1 (by decide)|8,_=>exact ld 29 0 HU (Ko.XF (qm C q A m J)) Ox (by rw[W.aM];rfl) J1 (by decide)|9,_=>exact f (Ko.aiX (qm C q A m J)) J1 (by decide)|10,_=>exact f (Ko.Ve (qm C q A m J)) J1 (by decide)|11,_=>exact f (Ko.aed (qm C q A m J)) J1 (by decide)|12,_=>exact ld 31 1 HU (Ko.OO (qm C q A m J)) s31 (by rw[W.aM];rfl) J1 (by decide)|13,_=>exact f (Ko.adu (qm C q A m J)) J1 (by decide)|14,_=>exact f (Ko.L3 (qm C q A m J)) J1 (by decide)|15,_=>exact f (Ko.Oa (qm C q A m J)) J1 (by decide)|16,_=>exact ld 88 2 HU (Ko.PG (qm C q A m J)) ⟨_,Da,rfl⟩ (by rw[W.aM];rfl) J1 (by decide)|17,_=>exact f (Ko.agQ (qm C q A m J)) J1 (by decide)|18,_=>refine f ?_ J1 J1;rw[Ko.aap (qm C q A m J)];obtain⟨ti,h1,u⟩:=EY.2;have:=zW (a:=⟨A.rk,A.ro,none⟩) (N:=q.N) (c:=q.rc) Da h1 (show m<q.N by rw[W.N];exact L);rw[u,Addr.add_mid,<-ae]at this;exact congrArg some this|19,_=>rw[Ko.ahb (qm C q A m J)]at F;obtain⟨⟨d,T,l⟩,ti,h1,u⟩:=EY;rw[<-H.P]at T h1;refine av.look F (v:=.agg (A.rd m).toArray) (λw₁ s=>?_) λw₁ s=>?_;(·have Z:=(y.2.1.rl s).2;(have ak:w₁.rangeAt A.rk (A.ro+m*2) (A.rd m):=λj v hv=>by have:=a7 m L j v hv;unfold World.cell? at this⊢;rw[Z.2 A.rk a4 a0 a3 a1];exact this);have:=qL (P:=C.P) T l h1 (by rw[u,W.zZ]) ak;refine⟨this.1,λe z=>?_⟩;obtain⟨j,_,rfl⟩:=this.2 e z;exact DC a4 a0 a3 a1 (al _));·have:(Value.agg (A.rd m).toArray)=Ko.V7 (qm C q A m J) 19:=rfl;rw[this,jX Ko.kX x B];exact kk g w₁ (keep w₁ J1 J1 s)|20,_=>exact f (Ko.ajk (qm C q A m J)) J1 (by decide)|21,_=>exact f (Ko.ajo (qm C q A m J)) J1 (by decide)|22,_=>exact f (Ko.Uu (qm C q A m J)) J1 (by decide)|23,_=>exact ld 3 3 HU (Ko.afv (qm C q A m J)) ⟨_,u3,rfl⟩ (by rw[W.aM];rfl) J1 (by decide)|24,_=>have M:=Ko.PZ (qm C q A m J);rw[Y]at M;have a8:=D5 (P:=prog) (jO (V:=Ko.V7 (qm C q A m J)) (rest:=rest) (Ko.sK (qm C q A m J)) X Ko.kX x Q) (Option.some.inj M);have hR:=(iu (P:=prog) (jO (V:=Ko.V7 (qm C q A m J)) (rest:=rest) (Ko.sK (qm C q A m J)) X Ko.kX x Q) true default).1;refine .aR (by rw[H.P];exact⟨1,_,a8,rfl⟩) λw₁ s=>?_;refine W.align m L Stop g w₁ _ _ y.1 (y.2.1.rl s) λO2 a9 aa ab=>?_;(have ac:R ((stA (Ko.Wg (qm C q A m J)) Ko.fO (Ko.V7 (qm C q A m J)) D (24::rest)).frame.finish (.tuple #[.agg (C.aJ m).toArray,.int .i64 (A.er m)])) (stA (Ko.Wg (qm C q A m J)) Ko.fO (Ko.V7 (qm C q A m J)) D (24::rest)).callers=stA (Ko.Wg (qm C q A m J)) Ko.fO (Ko.V7 (qm C q A m J)) (D.setIfInBounds 24 true) rest:=by have hV:Ko.V7 (qm C q A m J) 24=.tuple #[.agg (C.aJ m).toArray,.int .i64 (A.er m)]:=rfl;rw[<-jX (V:=Ko.V7 (qm C q A m J)) Ko.kX x B,hV];generalize stA (Ko.Wg (qm C q A m J)) Ko.fO (Ko.V7 (qm C q A m J)) D (24::rest)=gg at hR⊢;unfold fin;rw[hR]);rw[ac];refine kk O2 a9 ⟨aa,ab,λa5=>?_⟩;rw[U 29 J1]at a5;have:=(y.2.2 a5).1;rw[this]at f0;cases f0|25,_=>exact f (Ko.ajz (qm C q A m J)) J1 (by decide)|26,_=>exact f (Ko.Zu (qm C q A m J)) J1 (by decide)|27,_=>exact f (Ko.aia (qm C q A m J)) J1 (by decide)|28,_=>refine f ?_ J1 J1;rw[Ko.afk (qm C q A m J)];obtain⟨ti,h1,u⟩:=wL.2;have:=zW (a:=⟨q.Rc,0,none⟩) (N:=q.N) (c:=q.N) mR h1 (show m<q.N by rw[W.N];exact L);rw[u,Addr.add_mid,W.Rc,show 0+m*8=8*m by omega,<-W.Rc]at this;(have e:Ko.V7 (qm C q A m J) 28=.pointer (some ⟨q.Rc,8*m,none⟩):=by rw[W.Rc];rfl);rw[e];exact congrArg some this|29,_=>rw[Ko.aiz (qm C q A m J)]at F;obtain⟨ti,h1,u⟩:=wL.2;rw[<-H.P]at h1;obtain⟨r1,r2,r3,r4⟩:=W.aJ m;(have ag:o.dst=none:=by have:=Ko.ajZ;rw[x]at this;simpa using this);(have ah:D.getD 24 false=true:=by have:=Sa;rw[x]at this;simp only[Option.map_some,Option.some.injEq]at this;obtain⟨e,z,hb⟩:=Array.any_eq_true'.1 this;simp only[Bool.and_eq_true,beq_iff_eq]at hb;have h9:=Q e z hb.1;rw[hb.2]at h9;exact h9);refine av.op F λw₁ s=>?_;have ad:=y.2.1.rl s;obtain⟨⟨af,cs,S⟩,Z⟩:=ad;(have ht:w₁.there C.Rc (8*m) (C.aJ m).toArray.size:=λj hj=>by(have aj:j<8:=by rw[<-r1];simpa using hj);refine⟨?_,by simp[World.frozen?,S.1]⟩;(have:8*m+j<cs.size:=by rw[S.2];omega);simp[World.cell?,S.1,this]);have a6:=ub (P:=C.P) (cs:=(C.aJ m).toArray) h1 (by rw[u];simp[r1]) ht (λv hv=>r2 v (by simpa using hv));refine⟨undef,_,g,.inr ⟨a6.1,rfl⟩,?_,?_⟩;(·refine TK W.here.uG (by simp[r1]) λe z=>?_;obtain⟨j,hj,rfl⟩:=a6.2 e (Co.fv z);(have aj:j<8:=by rw[<-r1];simpa using hj);exact .inr (.inl ⟨_,_,rfl,.inr (.inr (.inr ⟨rfl,by rw[show(8*m+j)/8=m by omega]⟩))⟩));·rw[FE Ko.kX x B ag];refine kk g _ ⟨y.1,ahd W.here.uG W.Nb ⟨⟨af,cs,S⟩,Z⟩ _,λ_=>⟨ai 24 ah,OY S L r1⟩⟩|n+30,h=>exact absurd h HU
 ·rintro g w'⟨h1,u,K⟩;(have hE:bz (Ko.Wg (qm C q A m J)) Ko.fO (Ko.V7 (qm C q A m J))=Ko.E7 (qm C q A m J):=by unfold Ko.E7;rfl);rw[hE];refine k g w' h1 u (K ?_).2;rw[Ko.qu];simp[Array.getD_eq_getD_getElem?]
 ·refine⟨hO,h,λl=>?_⟩;rw[Ko.qu]at l;simp[Array.getD_eq_getD_getElem?]at l
end
end
end Ph
namespace Co
open Conc ConcN Ph Kw
structure gd(w w':HA):Prop where
 tape:w'.tape=w.tape
 output:w'.output=w.output
 os:w'.os=w.os
 size:w.heap.size<=w'.heap.size
theorem gd.refl(w:HA):gd w w:=⟨rfl,rfl,rfl,Nat.le_refl _⟩
theorem gd.trans{a b c:HA}(h:gd a b)(k:gd b c):gd a c:=⟨k.tape.trans h.tape,k.output.trans h.output,k.os.trans h.os,Nat.le_trans h.size k.size⟩
section
variable{P:Program}{K:Cm}{S:FuncId->Bool}{Q:HH->HA->Prop}{c:Frame}{cs:Fi}{Fin:Fo->HA->CL->Trace->Prop}
theorem Ends.via(L:Closed P K S){r0:Rn}{v0 w0:HA}{Sh:Loc->Prop}{n0:Nat}(k:∀{r1:Rn}{x x':HH}{v1 w1:HA}{gs:Fo}{sl:CL}{t:Trace},Eff r0 r1 v0 w0 w1->gs.size=n0->Q x v1->VR P.globals.size r1 x x'->WR K P r1 v1 w1->aT v1->kP Sh r1->cH Sh w1->dB (aF P K.F) Sh gs w1 t (VG (c.finish x') cs)->Comes (aF P K.F) Fin gs w1 sl t){fr:Frame}{l:Fi}(hE:Ends P (Bs P) Q fr l v):∀{fr':Frame}{l':Fi}{r:Rn}{w:HA}{gs:Fo}{sl:CL}{t:Trace},FR P K S r fr fr'->KR P K S r (Bs P) (c::cs) l l'->WR K P r v w->aT v->(fr.mode=.run\/fr.mode=.returning)->Eff r0 r v0 w0 w->v0.heap.size<=v.heap.size->gs.size=n0->kP Sh r->cH Sh w->dB (aF P K.F) Sh gs w t (VG fr' l')->Comes (aF P K.F) Fin gs w sl t:=by induction hE with|@hH fr v x h hq=>intro fr' l' r w gs sl t n m z s N a o E J y g;(have W:l'=c::cs:=by generalize A:Bs P=B at m;cases m with|base=>rfl|cons n _ k=>exfalso;obtain⟨aI,t1,_⟩:=k.aI;have:=congrArg List.length A;rw[t1]at this;simp[Bs]at this);subst W;obtain⟨q,C⟩:=g.lv;refine dB.next (Fin:=Fin) _ q g.h0 C g.ps rfl rfl λd=>?_;have D:WR K P r v (w.at d):=z.at d;have b:cH Sh (w.at d):=y;obtain⟨x',w',r1,es,s1,X,O,j,s5⟩:=AF L.toiA n D h true c cs;have i:=J.dT b j;have G:Eff r0 r v0 w0 (w.at d):=⟨a.tape,a.output,a.os,a.size,a.keep,a.new,a.le⟩;refine⟨_,w',es,s1,λe H=>vV O i b (s5 e H),j.size,λT U V F I=>?_⟩;exact k (G.trans j o) (F.trans E) hq X O s i (b.mono j.size) I|@step fr l v A f kk u h e Y=>intro fr' l' r w gs sl t n m z s N a o E J y g;obtain⟨q,C⟩:=g.lv;refine dB.next (Fin:=Fin) _ q g.h0 C g.ps rfl rfl λd=>?_;have D:WR K P r v (w.at d):=z.at d;have b:cH Sh (w.at d):=y;obtain⟨a4,a0⟩:=h (w.at d).tape (w.at d).drawn;obtain⟨n1,m1,r1,a2,a3,w',a1,Z,q2,q3,M,p,q6,R⟩:=qN (m':=true) L A a0 (q9 (e (w.at d).tape (w.at d).drawn)) n m D s N;have i:=J.dT b p;have G:Eff r0 r v0 w0 (w.at d):=⟨a.tape,a.output,a.os,a.size,a.keep,a.new,a.le⟩;exact⟨_,w',a1,Z,λe H=>vV M i b (R e H),p.size,λT U V F I=>Y _ _ q2 q3 M n1 m1 (G.trans p o) (Nat.le_trans o q6.size) (F.trans E) i (b.mono p.size) I⟩
theorem CR{G:Nat}{r:Rn}(h1:∀a b b',r a b->r a b'->b=b'){x y c:Addr}(h:DR G r x y)(k:DR G r x c):y=c:=by obtain⟨b,k1,f,e⟩:=h;obtain⟨b',l1,g,d⟩:=k;have:=h1 _ _ _ k1 l1;subst this;exact e.trans d.symm
theorem LI(q:Closed P K S)(C:K.x=true){a a':DS}{r:Rn}{Sh:Loc->Prop}{t:Trace}(I:S f=true)(hC:∀T d,Calls P f a (aD v T d) λe v'=>∃x,e=.returned x/\Q x v')(hQ:j7 Q){Y:Nat->Prop}(hold:∀x v',Q x v'->∀b:Nat,b<v.heap.size->¬Y b->v'.heap[b]?=v.heap[b]?)(l:AR P.globals.size r a a')(y:WR K P r v w)(z:aT v)(U:kP Sh r)(E:cH Sh w)(X:dB (aF P K.F) Sh gs w t (VG (Frame.enter (aF P K.F) f a' .normal) (c::cs)))(k:∀{r1:Rn}{x x':HH}{v1 w1:HA}{gs1:Fo}{sl1:CL}{t1:Trace},r.le r1->(∀a b,r1 a b->r a b\/(v.heap.size<=a/\w.heap.size<=b))->gd w w1->(∀b:Nat,b<w.heap.size->(∀a,r a b->¬Y a)->w1.heap[b]?=w.heap[b]?)->gs1.size=gs.size->Q x v1->VR P.globals.size r1 x x'->WR K P r1 v1 w1->aT v1->kP Sh r1->cH Sh w1->dB (aF P K.F) Sh gs1 w1 t1 (VG (c.finish x') cs)->Comes (aF P K.F) Fin gs1 w1 sl1 t1):Comes (aF P K.F) Fin gs w sl t:=by have B:=yj (r:=r) q.totO I l;have G:=ends_of_calls q hQ (f:=f) (args:=a) (v:=v) ⟨r,c::cs,_,c::cs,w,B,.base,y,z,.inl rfl⟩ hC;refine Ends.via (c:=c) (cs:=cs) (Fin:=Fin) q (r0:=r) (v0:=v) (w0:=w) (Sh:=Sh) (n0:=gs.size) (λ{r1 x x' v1 w1 gs1 sl1 t1}g F A H i J L M N=>?_) G B .base y z (.inl rfl) (Eff.refl _ _ _) (Nat.le_refl _) rfl U E X;refine k g.le g.new ⟨g.tape,g.output,g.os,g.size⟩ (λb O R=>?_) F A H i J L M N;by_cases hr:∃a,r a b;(·obtain⟨a,u⟩:=hr;obtain⟨o,o',h1,W,D⟩:=y.bG a b u;obtain⟨p,p',k1,k2,m⟩:=i.bG a b (g.le _ _ u);have V:=(J2.1 h1).1;rw[hold x v1 A a V (R a u),h1]at k1;cases k1;rw[W,k2];have Z:=D.mono g.le;clear D;cases Z with|cells e l a2=>(cases m with|cells _ a1 a0=>rw[Bg i.one l a1];rcases a2 with rfl|⟨j,_⟩;(·rcases a0 with rfl|⟨j,_⟩;(·rfl);·rw[C]at j;cases j);·rw[C]at j;cases j)|iter s p=>(cases m with|iter _ _=>rfl)|number lost h=>(cases m with|number _ n=>rw[CR i.one h n])|view t h _=>cases m with|view _ n _=>rw[CR i.one h n]);·exact g.keep b O λa l=>hr ⟨a,l⟩
end
structure aP(w w':HA):Prop where
 wid:gd w w'
 old:∀b:Nat,b<w.heap.size->w'.heap[b]?=w.heap[b]?
theorem aP.refl(w:HA):aP w w:=⟨.refl _,λ_ _=>rfl⟩
theorem aP.trans{a b c:HA}(h:aP a b)(k:aP b c):aP a c:=⟨h.wid.trans k.wid,λi d=>(k.old i (Nat.lt_of_lt_of_le d h.wid.size)).trans (h.old i d)⟩
theorem aP.same(h:Same w w'):aP w w':=⟨⟨h.2.1,h.2.2.1,h.2.2.2,Nat.le_of_eq (by rw[h.1])⟩,λ_ _=>by rw[h.1]⟩
theorem aP.at(h:aP w w'){o:Obj}(a:w.heap[b]?=some o):w'.heap[b]?=some o:=(h.old b (J2.1 a).1).trans a
theorem aP.cell(h:aP w w')(b:w.cell? a=some x):w'.cell? a=some x:=by(have c:a.block<w.heap.size:=by rcases Nat.lt_or_ge a.block w.heap.size with h|h;(·exact h);·simp[World.cell?,Array.getElem?_eq_none h]at b);rw[<-b];unfold World.cell?;rw[h.old _ c]
theorem aP.push(a:Same w w')(o:Obj):aP w {w' with heap:=w'.heap.push o}:=by refine⟨⟨a.2.1,a.2.2.1,a.2.2.2,by simp[a.1]⟩,λb c=>?_⟩;show(w'.heap.push o)[b]?=_;rw[a.1,Array.getElem?_push,if_neg HU]
theorem Ao(h:w.heap[b]?=some (.cells c e (0,0)))(f:cs.size=c.size):(w.setCells b 0 cs.toList).heap[b]?=some (.cells cs e (0,0)):=by
 obtain⟨c',h1,l,_⟩:=vA b cs.toList 0 w h;have g:w.there b 0 cs.toList.length:=λj d=>by(have k:j<c.size:=by rw[<-f];simpa using d);exact⟨by simp[World.cell?,h,k],by simp[World.frozen?,h]⟩
 have r:=World.rangeAt_setCells_same w b 0 cs.toList g;have:c'=cs:=Array.ext HU λi a b'=>by have:=r i cs[i] HY;simp only[World.cell?,h1,Nat.zero_add]at this;rw[Array.getElem?_eq_getElem a]at this;exact Option.some.inj this
 rw[h1,this]
theorem iL{Sh:Loc->Prop}{B:Nat}(x:Bool)(h:¬Sh (.cell a))(c:a.block<B):EvM Sh B ⟨.cell a,x,false⟩:=by refine⟨λy b=>?_,by simp,by simp,by simp⟩;cases x<;>(simp[MemAct.ofEvent,MemAct.touch?]at b;subst b;exact⟨h,c⟩)
theorem jP{U:Loc->Prop}(x:Bool)(h:¬U (.cell a)):∀y,(MemAct.ofEvent ⟨.cell a,x,false⟩).touch?=some y->¬U y.loc:=λy b=>by cases x<;>(simp[MemAct.ofEvent,MemAct.touch?]at b;subst b;exact h)
section
variable{P:Program}{Sh U:Loc->Prop}{Fin:Fo->HA->CL->Trace->Prop}{gs:Fo}{w:HA}{sl:CL}{t:Trace}{g g':Gq}
theorem aE.cF(f:aE P Sh U gs w t g)(h:aa P g g')(k:∀a w' c b,aP w w'->w'.heap.size=w.heap.size->aE P Sh U a w' b g'->Comes P Fin a w' c b):Comes P Fin gs w sl t:=f.aR h λa w' c b _ d e=>k a w' c b (.same d) (by rw[d.1]) e
theorem aE.qO{s:Sem Next}{c:Obj}(m:aE P Sh U gs w t g)(h:semAt g=some s)(e:∀w',s.run P w'=.ok (.value (.pointer (some ⟨w'.heap.size,0,none⟩))) {w' with heap:=w'.heap.push c}/\s.events P w' #[]=#[])(k:∀d w' f b,aP w w'->w'.heap[w.heap.size]?=some c->w'.heap.size=w.heap.size+1->(∀a:Addr,a.block=w.heap.size->Un b (.cell a))->aE P Sh U d w' b (fin g (.pointer (some ⟨w.heap.size,0,none⟩)))->Comes P Fin d w' f b):Comes P Fin gs w sl t:=by
 refine m.op h λw' l=>⟨_,_,.inl (e w').1,by rw[(e w').2];simp,by rw[(e w').2];simp,by simp,λd f b _ j n=>?_⟩;have i:w'.heap.size=w.heap.size:=by rw[l.1]
 rw[i]at j;refine k d _ f b (.push l c) ?_ (by simp[i]) (λa o=>n (by rw[(e w').2];simp) _ ?_) j;·show(w'.heap.push c)[w.heap.size]?=_;rw[<-i,Array.getElem?_push_size]
 ·show¬a.block<_;omega
theorem aE.Mn{r:DS}(d:aE P Sh U gs w t g)(h:semAt g=some (do pure (.value (<-Instr.box ty (.agg r)))))(k:∀c w' e b,aP w w'->w'.heap[w.heap.size]?=some (.cells r ty (0,0))->w'.heap.size=w.heap.size+1->(∀a:Addr,a.block=w.heap.size->Un b (.cell a))->aE P Sh U c w' b (fin g (.pointer (some ⟨w.heap.size,0,none⟩)))->Comes P Fin c w' e b):Comes P Fin gs w sl t:=d.qO h (λ_=>⟨rfl,rfl⟩) k
theorem aE.TY{d:TypeDesc}{ad:Addr}(q:aE P Sh U gs w t g)(h:semAt g=some (do pure (.value (<-Instr.loadAt ty (.pointer (some ad))))))(l:P.underlying ty=some d)(m:fp d=false)(j:w.cell? ad=some x)(p:¬Sh (.cell ad))(r:¬U (.cell ad))(k:∀c w' i b,aP w w'->w'.heap.size=w.heap.size->aE P Sh U c w' b (fin g x)->Comes P Fin c w' i b):Comes P Fin gs w sl t:=by
 have s:ad.block<w.heap.size:=by rcases Nat.lt_or_ge ad.block w.heap.size with h|h;(·exact h);·simp[World.cell?,Array.getElem?_eq_none h]at j
 refine q.op h λw' f=>?_;have n:w'.cell? ad=some x:=(aP.same f).cell j;have o:(do pure (.value (<-Instr.loadAt ty (.pointer (some ad)))):Sem Next).events P w' #[]=#[⟨.cell ad,false,false⟩]:=by simp[se l m n]
 refine⟨x,w',.inl (by simp[rN l m n]),?_,?_,Nat.le_refl _,λc i b _ u _=>k c w' i b (.same f) (by rw[f.1]) u⟩;·rw[o];intro e a;simp at a;subst a;exact iL _ p (by rw[f.1];exact s)
 ·rw[o];intro e a;simp at a;subst a;exact jP _ r
theorem aE.Fh{d:TypeDesc}{i:TypeInfo}{cs:FV}(u:aE P Sh U gs w t g)(h:semAt g=some (do pure (.value (<-Instr.loadAt ty (.pointer (some ⟨b,o,none⟩))))))(x:P.underlying ty=some d)(y:d.isRow=true)(z:P.info? ty=some i)(C:i.size=cs.length)(D:w.rangeAt b o cs)(q:b<w.heap.size)(r:∀j,¬Sh (.cell ⟨b,j,none⟩))(s:∀j,¬U (.cell ⟨b,j,none⟩))(k:∀f w' l c,aP w w'->w'.heap.size=w.heap.size->aE P Sh U f w' c (fin g (.agg cs.toArray))->Comes P Fin f w' l c):Comes P Fin gs w sl t:=by refine u.op h λw' a=>?_;have A:w'.rangeAt b o cs:=λj v B=>(aP.same a).cell (D j v B);have n:=qL (P:=P) x y z C A;refine⟨_,w',.inl n.1,λe m=>?_,λe m=>?_,Nat.le_refl _,λf l c _ p _=>k f w' l c (.same a) (by rw[a.1]) p⟩;(·obtain⟨j,_,rfl⟩:=n.2 e m;exact iL _ (r _) (by rw[a.1];exact q));·obtain⟨j,_,rfl⟩:=n.2 e m;exact jP _ (s _)
theorem aE.yO{i:TypeInfo}(u:aE P Sh U gs w t g)(h:semAt g=some (do Instr.storeAt ty (.pointer (some ⟨b,0,none⟩)) (.agg cs);pure .skip))(F:P.info? ty=some i)(E:i.size=cs.size)(r:w.heap[b]?=some (.cells c e (0,0)))(y:cs.size=c.size)(h1:∀v∈cs,v.oneCell'=true)(z:∀j,¬Sh (.cell ⟨b,j,none⟩))(C:∀j,¬U (.cell ⟨b,j,none⟩))(k:∀f w' n d,gd w w'->(∀k:Nat,k≠b->w'.heap[k]?=w.heap[k]?)->w'.heap[b]?=some (.cells cs e (0,0))->w'.heap.size=w.heap.size->aE P Sh U f w' d (fin g undef)->Comes P Fin f w' n d):Comes P Fin gs w sl t:=by
 have x:=(J2.1 r).1;refine u.op h λw' a=>?_;have m:w'.heap[b]?=some (.cells c e (0,0)):=by rw[a.1];exact r
 have A:w'.there b 0 cs.size:=λj H=>⟨by have:j<c.size:=HU;simp[World.cell?,m,this],by simp[World.frozen?,m]⟩;have o:=ub (P:=P) (cs:=cs) F E A h1;obtain⟨m1,D,B,l⟩:=pq b cs.toList 0 w';refine⟨undef,_,.inr ⟨o.1,rfl⟩,λev p=>?_,λev p=>?_,Nat.le_of_eq l.symm,λf n d _ s _=>k f _ n d ⟨m1.trans a.2.1,D.trans a.2.2.1,B.trans a.2.2.2,by rw[l,a.1];exact Nat.le_refl _⟩ (λq G=>(ku b _ 0 _ q G).trans (by rw[a.1])) (Ao m y) (by rw[l,a.1]) s⟩;·obtain⟨j,_,rfl⟩:=o.2 ev p;exact iL _ (z _) (by rw[l,a.1];exact x)
 ·obtain⟨j,_,rfl⟩:=o.2 ev p;exact jP _ (C _)
end
section
open Classical
def only(X:Nat->Prop)(w:HA):HA:={w with heap:=w.heap.mapIdx λb o=>if X b then o else .cells #[] 0 (0,0)}
theorem I4(X:Nat->Prop)(w:HA)(b:Nat):(only X w).heap[b]?=(w.heap[b]?).map λo=>if X b then o else .cells #[] 0 (0,0):=by show(w.heap.mapIdx _)[b]?=_;rw[Array.getElem?_mapIdx]
theorem mf(h:X b):(only X w).heap[b]?=w.heap[b]?:=by rw[I4];cases w.heap[b]? with|none=>rfl|some o=>simp[h]
theorem sk(h:X a.block):(only X w).cell? a=w.cell? a:=by unfold World.cell?;rw[mf h]
theorem jg(X:Nat->Prop)(w:HA):(only X w).heap.size=w.heap.size:=by show(w.heap.mapIdx _).size=_;simp
end
def fB(X:Nat->Prop):Rn:=λa b=>a=b/\X a
def mQ(G:Nat)(X:Nat->Prop)(w:HA):Prop:=∀b,X b->∃c t fz,w.heap[b]?=some (.cells c t fz)/\AR G (fB X) c c
theorem BC(h:¬X b)(a:b<w.heap.size):(only X w).heap[b]?=some (.cells #[] 0 (0,0)):=by rw[I4,Array.getElem?_eq_getElem a];simp[h]
theorem Dh{K:Cm}(i:mQ P.globals.size X w)(j:∀g,K.G g=true->X g)(e:P.globals.size<=w.heap.size)(hV:∀g,K.V g=true->¬X g/\g<P.globals.size):WR K P (fB X) (only X w) w:=by
 refine⟨?_,?_,?_,by rw[jg];exact e,λg d=>⟨rfl,j g d⟩,λg d b k=>(hV g d).1 k.2,λg d=>BC (hV g d).1 (Nat.lt_of_lt_of_le (hV g d).2 e)⟩;·rintro a b⟨rfl,h⟩;obtain⟨c,t,fz,h1,f⟩:=i a h;exact⟨_,_,(mf h).trans h1,h1,.cells t f (.inl rfl)⟩
 ·rintro a a' b⟨rfl,_⟩⟨rfl,_⟩;rfl
 ·rintro a b b'⟨rfl,_⟩⟨rfl,_⟩;rfl
theorem zq{G:Nat}(i:mQ G X w)(h0:0<w.heap.size):aT (only X w):=by
 have one:∀b:Nat,b<w.heap.size->∃c t fz,(only X w).heap[b]?=some (.cells c t fz):=λb g=>by by_cases h:X b;(·obtain⟨c,t,fz,h1,_⟩:=i b h;exact⟨c,t,fz,(mf h).trans h1⟩);·exact⟨#[],0,(0,0),BC h g⟩
 refine⟨λk c e a=>?_,?_⟩;·have d:=(J2.1 a).1;rw[jg]at d;obtain⟨c',j,l,f⟩:=one k d;rw[f]at a;cases a
 ·exact one 0 h0
section
variable{P:Program}{K:Cm}{S:FuncId->Bool}{Q:HH->HA->Prop}{c:Frame}{cs:Fi}{Fin:Fo->HA->CL->Trace->Prop}
theorem Wt(E:Closed P K S)(C:K.x=true){a:DS}(X Y:Nat->Prop){Sh:Loc->Prop}{t:Trace}(D:S f=true)(m:mQ P.globals.size X w)(o:∀g,K.G g=true->X g)(p:P.globals.size<=w.heap.size)(h0:0<w.heap.size)(q:AR P.globals.size (fB X) a a)(s:∀T d,Calls P f a (aD (only X w) T d) λe v'=>∃x,e=.returned x/\Q x v')(u:j7 Q)(hold:∀x v',Q x v'->∀b:Nat,b<w.heap.size->¬Y b->v'.heap[b]?=(only X w).heap[b]?)(y:∀b,X b->∀ad:Addr,ad.block=b->¬Sh (.cell ad))(z:cH Sh w)(A:aE (aF P K.F) Sh (λ_=>False) gs w t (R (Frame.enter (aF P K.F) f a .normal) (c::cs)))(k:∀r1 x x' v1 w1 gs1 sl1 t1,(∀a b,r1 a b->(a=b/\X a)\/(w.heap.size<=a/\w.heap.size<=b))->gd w w1->(∀b:Nat,b<w.heap.size->¬Y b->w1.heap[b]?=w.heap[b]?)->Q x v1->VR P.globals.size r1 x x'->WR K P r1 v1 w1->aE (aF P K.F) Sh (λ_=>False) gs1 w1 t1 (R (c.finish x') cs)->Comes (aF P K.F) Fin gs1 w1 sl1 t1)(hV:∀g,K.V g=false:=by intro g;rfl):Comes (aF P K.F) Fin gs w sl t:=by refine LI (v:=only X w) (w:=w) (r:=fB X) (Y:=Y) E C D s u (λx v' B b i=>hold x v' B b (by rw[jg]at i;exact i)) q (Dh m o p λg l=>by rw[hV g]at l;cases l) (zq m h0) (λa b j ad i=>?_) z A.b λ{r1 x x' v1 w1 gs1 sl1 t1}h1 F G H N J I L _ _ _ M=>?_;(·obtain⟨rfl,h⟩:=j;exact y a h ad i);·refine k r1 x x' v1 w1 gs1 sl1 t1 (λa b j=>?_) G (λb i n=>H b i λa j=>?_) J I L ⟨M,λ_ h=>h.elim⟩;(·rcases F a b j with h|h;(·exact .inl h);·rw[jg]at h;exact .inr h);·rw[j.1];exact n
theorem sT(A:Closed P K S)(l:K.x=true){a:DS}(X:Nat->Prop){Sh:Loc->Prop}{t:Trace}(m:S f=true)(n:mQ P.globals.size X w)(o:∀g,K.G g=true->X g)(p:P.globals.size<=w.heap.size)(h0:0<w.heap.size)(q:AR P.globals.size (fB X) a a)(r:∀T d,Calls P f a (aD (only X w) T d) λe v'=>∃x,e=.returned x/\Q x v')(s:j7 Q)(hold:∀x v',Q x v'->∀b:Nat,b<w.heap.size->v'.heap[b]?=(only X w).heap[b]?)(u:∀b,X b->∀ad:Addr,ad.block=b->¬Sh (.cell ad))(v:cH Sh w)(y:aE (aF P K.F) Sh (λ_=>False) gs w t (R (Frame.enter (aF P K.F) f a .normal) (c::cs)))(k:∀r1 x x' v1 w1 gs1 sl1 t1,(∀a b,r1 a b->(a=b/\X a)\/(w.heap.size<=a/\w.heap.size<=b))->aP w w1->Q x v1->VR P.globals.size r1 x x'->WR K P r1 v1 w1->aE (aF P K.F) Sh (λ_=>False) gs1 w1 t1 (R (c.finish x') cs)->Comes (aF P K.F) Fin gs1 w1 sl1 t1)(hV:∀g,K.V g=false:=by intro g;rfl):Comes (aF P K.F) Fin gs w sl t:=Wt (hV:=hV) A l X (λ_=>False) m n o p h0 q r s (λx v' z b i _=>hold x v' z b i) u v y λr1 x x' v1 w1 gs1 sl1 t1 h1 B j=>k r1 x x' v1 w1 gs1 sl1 t1 h1 ⟨B,λb i=>j b i (λh=>h)⟩
end
section
variable{P:Program}{K:Cm}{r:Rn}{v w:HA}
theorem aaF{G:Nat}(b:bL c)(h:AR G r c c'):c'=c:=(Array.ext h.1 λi h1 a=>(yT (b i h1) (h.2 i h1 a)).symm).symm
theorem Cj(b:WR K P r v w)(d:K.x=true)(e:r g g')(h:v.heap[g]?=some (.cells c t fz)):∃c',w.heap[g']?=some (.cells c' t fz)/\AR P.globals.size r c c':=by obtain⟨o,k,h1,i,f⟩:=b.bG g g' e;rw[h]at h1;cases h1;cases f with|cells _ h j=>rcases j with rfl|⟨a,_⟩;(·exact⟨_,i,h⟩);·rw[d]at a;cases a
theorem zN(b:WR K P r v w)(d:K.x=true)(e:r g g')(h:v.heap[g]?=some (.cells c t fz))(f:bL c):w.heap[g']?=some (.cells c t fz):=by obtain⟨c',h1,a⟩:=Cj b d e h;rw[aaF f a]at h1;exact h1
theorem yI{G d:Nat}(h:VR G r (.slice (some ⟨g,off,none⟩) n d) y):∃g',y=.slice (some ⟨g',off,none⟩) n d/\r g g':=by cases h with|sl a b l c h _=>exact⟨b,rfl,h⟩
theorem agM{G:Nat}(h:VR G r (.pointer (some ⟨g,off,none⟩)) y):∃g',y=.pointer (some ⟨g',off,none⟩)/\r g g':=by cases h with|ptr a b h _=>exact⟨b,rfl,h⟩
theorem Kk{G:Nat}{a b:HH}(h:AR G r #[a,b] c'):∃a' b',c'=#[a',b']/\VR G r a a'/\VR G r b b':=by have d:c'.size=2:=h.1.symm;refine⟨c'[0],c'[1],Array.ext d λi h1 c=>?_,h.2 0 HY HU,h.2 1 HY HU⟩;match i,c with|0,_=>rfl|1,_=>rfl
theorem QR{G:Nat}{a b d:HH}(h:AR G r #[a,b,d] c'):∃a' b' c,c'=#[a',b',c]/\VR G r a a'/\VR G r b b'/\VR G r d c:=by have f:c'.size=3:=h.1.symm;refine⟨c'[0],c'[1],c'[2],Array.ext f λi h1 e=>?_,h.2 0 HY HU,h.2 1 HY HU,h.2 2 HY HU⟩;match i,e with|0,_=>rfl|1,_=>rfl|2,_=>rfl
theorem yM{G:Nat}{k:IntKind}{n:Int}(h:VR G r (.int k n) y):y=.int k n:=by cases h;rfl
theorem Ja{G:Nat}(h:VR G r (.tuple c) y):∃c',y=.tuple c'/\AR G r c c':=by cases h with|tuple a h=>exact⟨_,rfl,a,h⟩
end
end Co
