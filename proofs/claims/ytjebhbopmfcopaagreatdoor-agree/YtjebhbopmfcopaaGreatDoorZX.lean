/- Agree, a part. -/
import Derived.Conc.SmallLaws
import Derived.Test.YtjebhbopmfcopaaGreatDoorZR
set_option maxRecDepth 100000
namespace Go.Proofs.YtjebhbopmfcopaaGreatDoor
open Go.Proofs Tryz
noncomputable section
variable{a:Addr}{n:Int}{g:FV}{j o:Nat}{P:Program}{w:HA}
namespace Ph
open Conc ConcN ConcM Kw Kl
section
variable{C:Cx}{w:HA}{s:Sh}{g:FV}(h:ShAt C w s g)
include h
theorem iR:w.cell? (muA C)=some (.int .i32 s.word.val):=by simp[World.cell?,muA,h.1.1]
theorem vZ:w.cell? (msA C)=some (.int .u32 s.ms):=by simp[World.cell?,msA,h.1.1]
theorem kV:w.cell? (dC C)=some (.int .u64 ((s.cnt:Int)*4294967296+s.wt)):=by have:=h.2;unfold WgAt at this;simp[World.cell?,dC,this]
theorem wQ:w.cell? (eG C)=some (.int .u32 s.ws):=by have:=h.2;unfold WgAt at this;simp[World.cell?,eG,this]
theorem jV:w.frozen? (muA C)=false:=by simp[World.frozen?,muA,h.1.1]
theorem yr:w.frozen? (msA C)=false:=by simp[World.frozen?,msA,h.1.1]
theorem rG:w.frozen? (dC C)=false:=by have:=h.2;unfold WgAt at this;simp[World.frozen?,dC,this]
theorem C7:w.frozen? (eG C)=false:=by have:=h.2;unfold WgAt at this;simp[World.frozen?,eG,this]
theorem nH(b:C.Cw≠C.Wg)(x:Wd):ShAt C (w.setCell (muA C) (.int .i32 x.val)) {s with word:=x} g:=by obtain⟨⟨h1,c⟩,a⟩:=h;refine⟨⟨?_,c⟩,?_⟩;(·simp[World.setCell,muA,Array.getElem?_modify,h1]);·unfold WgAt at a⊢;simp[World.setCell,muA,Array.getElem?_modify,b,a]
theorem AP(b:C.Cw≠C.Wg)(n:Nat):ShAt C (w.setCell (msA C) (.int .u32 n)) {s with ms:=n} g:=by obtain⟨⟨h1,c⟩,a⟩:=h;refine⟨⟨?_,c⟩,?_⟩;(·simp[World.setCell,msA,Array.getElem?_modify,h1]);·unfold WgAt at a⊢;simp[World.setCell,msA,Array.getElem?_modify,b,a]
theorem uA(d:C.Cw≠C.Wg)(a b:Nat):ShAt C (w.setCell (dC C) (.int .u64 ((a:Int)*4294967296+b))) {s with cnt:=a,wt:=b} g:=by obtain⟨⟨h1,e⟩,c⟩:=h;refine⟨⟨?_,e⟩,?_⟩;(·simp[World.setCell,dC,Array.getElem?_modify,Ne.symm d,h1]);·unfold WgAt at c⊢;simp[World.setCell,dC,Array.getElem?_modify,c]
theorem DW(b:C.Cw≠C.Wg)(n:Nat):ShAt C (w.setCell (eG C) (.int .u32 n)) {s with ws:=n} g:=by obtain⟨⟨h1,c⟩,a⟩:=h;refine⟨⟨?_,c⟩,?_⟩;(·simp[World.setCell,eG,Array.getElem?_modify,Ne.symm b,h1]);·unfold WgAt at a⊢;simp[World.setCell,eG,Array.getElem?_modify,a]
end
section
variable{C:Cx}
theorem Eff.set(w:HA)(v:HH)(c:a.block=C.Cw\/a.block=C.Wg):Eff C w (w.setCell a v):=by refine⟨rfl,rfl,.refl _,by simp[World.setCell],λb h1 d=>?_⟩;(have:a.block≠b:=by rintro rfl;rcases c with e|e<;>contradiction);simp[World.setCell,Array.getElem?_modify,this]
theorem Eff.asked(w:HA):Eff C w w.asked:=⟨rfl,rfl,.refl _,rfl,λ_ _ _=>rfl⟩
theorem F4{s:Sh}(h:ShAt C w s g):ShAt C w.asked s g:=h
theorem Ew{s:Sh}(h:ShAt C w s g):ShAt C w.later s g:=h
theorem jc(d:Nat):gY C d d #[]:=⟨by simp,rfl,by simp⟩
theorem rS:gY C 0 1 #[mk .disable]:=by refine⟨λx a=>?_,rfl,λj x a=>?_⟩;(·simp at a;exact .inl a);·cases j with|zero=>simp at a;subst a;exact .inl rfl|succ j=>simp at a
theorem o8:gY C 1 0 #[mk .enable]:=by refine⟨λx a=>?_,rfl,λj x a=>?_⟩;(·simp at a;exact .inr (.inl a));·cases j with|zero=>simp at a;subst a;exact .inl rfl|succ j=>simp at a
theorem lx(c:fD C a):gY C 1 1 #[⟨.cell a,false,true⟩]:=by refine⟨λx b=>?_,rfl,λj x b=>?_⟩;(·simp at b;exact .inr (.inr ⟨a,false,b,c⟩));·cases j with|zero=>exact .inr (by simp[deafBehind])|succ j=>simp at b
theorem iM(c:fD C a):gY C 1 1 #[⟨.cell a,false,true⟩,⟨.cell a,true,true⟩]:=by refine⟨λx b=>?_,rfl,λj x b=>?_⟩;(·simp at b;rcases b with rfl|rfl;(·exact .inr (.inr ⟨a,false,rfl,c⟩));·exact .inr (.inr ⟨a,true,rfl,c⟩));·match j with|0=>exact .inr (by simp[deafBehind])|1=>exact .inr (by simp[deafBehind])|j+2=>simp at b
theorem qJ(c:fD C a):gY C 1 1 (semEvents a):=by refine⟨λx b=>?_,rfl,λj x b=>?_⟩;(·simp[semEvents]at b;rcases b with rfl|rfl|rfl|rfl;(·exact .inl rfl);(·exact .inr (.inr ⟨a,false,rfl,c⟩));(·exact .inr (.inr ⟨a,true,rfl,c⟩));·exact .inr (.inl rfl));·match j with|0=>exact .inr (by simp[deafBehind])|1=>exact .inr (by simp[semEvents,deafBehind])|2=>exact .inr (by simp[semEvents,deafBehind])|3=>simp[semEvents]at b;subst b;exact .inl rfl|j+4=>simp[semEvents]at b
theorem jo:fD C (muA C):=.inr ⟨rfl,.inl rfl⟩
theorem yu:fD C (msA C):=.inr ⟨rfl,.inr rfl⟩
theorem jy:fD C (dC C):=.inl rfl
theorem G6:fD C (eG C):=.inl rfl
end
end Ph
namespace Ph
open Conc Kw Kl
section
attribute[local irreducible]A Sq B C2 C1 R1 fin tl aL T1 S1 iz T2 R2 A1 R3 iK R0 Ld L0 lr lj kC fU nQ
variable{C:Cx}{c:Frame}{cs:Fi}{N n:Nat}{T:Th}{s:Sh}{g:Gq}{g0:FV}{w:HA}
def Stp(C:Cx)(c:Frame)(cs:Fi)(N n:Nat)(T:Th)(s:Sh)(g:Gq)(g0:FV)(w:HA):Prop:=∃T' s' g' w' es,Mv N n T s T' s'/\stepG prog false g w=.go g' w' es/\ShAt C w' s' g0/\Eff C w w'/\EvStop C T T' es/\T'.pc≠.quit/\dJ C.Cw C.aM.length c cs g' T'
theorem cC{T':Th}{es:Array Event}(h1:T.pc≠.la)(b:T.pc≠.ur)(a:T.pc≠.wr)(h:gY C (aK T) (aK T') es):EvStop C T T' es:=by unfold EvStop;split<;>first|contradiction|exact h
theorem we:aK (head T)=1:=by unfold head;split<;>rfl
theorem uh:(head T).pc≠.quit:=by unfold head;split<;>simp
theorem Wm(d:ShAt C w s g0)(a:T.pc=.ld)(b:bO C.Cw C.aM.length c cs T g):Stp C c cs N n T s g g0 w:=by simp only[bO,a]at b;subst b;refine⟨_,s,_,w,_,.ld a,jE HY (I1 _) rZ false w,d,Eff.refl w,cC (by simp[a]) (by simp[a]) (by simp[a]) ?_,by simp,_,aca _,rfl⟩;(have:aK T=0:=by simp[aK,a]);rw[this];exact rS
theorem afN(j:C.Cw≠C.Wg)(b:ShAt C w s g0)(i:s.ok)(a:T.pc=.l0)(h:bO C.Cw C.aM.length c cs T g):Stp C c cs N n T s g g0 w:=by
 simp only[bO,a]at h;subst h;have f:aK T=1:=by simp[aK,a]
 have d:=iR b;by_cases h0:s.word=⟨0,0,0,0⟩;·rw[h0]at d;refine⟨_,_,_,_,_,.sa a h0,qS (tG _) lW d (jV b) false,nH b j ⟨1,0,0,0⟩,Eff.set w _ (.inl rfl),cC (by simp[a]) (by simp[a]) (by simp[a]) ?_,by simp,_,VT _,.inl rfl⟩;rw[f];exact iM jo
 ·refine⟨_,s,_,_,_,.Bv a h0,qK (tG _) lW d (jV b) (λe=>h0 (val_inj (fG i.1) ⟨by decide,by decide,by decide,by decide⟩ e)) false,b,Eff.refl w,cC (by simp[a]) (by simp[a]) (by simp[a]) ?_,by simp,_,acg _,rfl⟩;rw[f];exact lx jo
theorem aah(b:ShAt C w s g0)(e:s.ok)(a:T.pc=.r0)(d:bO C.Cw C.aM.length c cs T g):Stp C c cs N n T s g g0 w:=by simp only[bO,a]at d;subst d;(have f:aK T=1:=by simp[aK,a]);refine⟨_,s,_,_,_,.r0 a,pd (wX _) oY rfl (iR b) (by rw[L'];exact vf) false,b,Eff.refl w,cC (by simp[a]) (by simp[a]) (by simp[a]) ?_,uh,OJ e.1⟩;rw[f,we];exact jc 1
theorem Bs.mu{q:Lk}(h:Bs C.Cw C.aM.length c cs q):q.m=.pointer (some (muA C)):=by show Value.pointer (some ⟨q.b,q.o,none⟩)=_;rw[h.b,h.o];rfl
theorem aeG(e:ShAt C w s g0)(f:dS T s)(a:T.pc=.sq)(l:bO C.Cw C.aM.length c cs T g):Stp C c cs N n T s g g0 w:=by
 simp only[bO,a]at l;obtain⟨q,z,b,rfl⟩:=l;have j:aK T=1:=by simp[aK,a]
 have m:=f.tw.mN (.inl a);have k:=f.tw.lE;obtain⟨h1,o,p⟩:=f.tw.sq a;have i:∀w',ShAt C w' s g0->Eff C w w'->stepG prog false (Sq q z) w=.go (fin (Sq q z) (.bool false)) w' #[]->Stp C c cs N n T s (Sq q z) g0 w:=λw' a1 a2 a3=>by refine⟨_,s,_,w',_,.qz a,a3,a1,a2,cC (by simp[a]) (by simp[a]) (by simp[a]) ?_,by simp,afx k m b z⟩;rw[j];exact jc 1
 by_cases hi:T.it<4;·have d:=afA (yX q z) BN (by rw[b.it];omega) false w;cases h:w.spins with|false=>rw[h]at d;exact i _ (F4 e) (Eff.asked w) d|true=>rw[h]at d;refine⟨_,s,_,_,_,.kg a hi,d,F4 e,Eff.asked w,cC (by simp[a]) (by simp[a]) (by simp[a]) ?_,?_,NQ k hi b z⟩;(·rw[j];split<;>exact jc 1);·split<;>simp
 ·exact i w e (Eff.refl w) (af6 (yX q z) BN (by rw[b.it];omega) false w)
theorem acW(p:C.Cw≠C.Wg)(b:ShAt C w s g0)(i:dS T s)(a:T.pc=.c1)(j:bO C.Cw C.aM.length c cs T g):Stp C c cs N n T s g g0 w:=by
 simp only[bO,a]at j;obtain⟨q,z,t,o,d,rfl⟩:=j;have m:aK T=1:=by simp[aK,a]
 obtain⟨h1,u,x,v,r,l⟩:=i.tw.c1 a;have h:=vR q z t o ({T.old with k:=1}:Wd).val;rw[Bs.mu d.bs,d.old]at h;have f:=iR b;by_cases h0:s.word=T.old;·rw[h0]at f;refine⟨_,_,_,_,_,.nM a h0,qS h lW f (jV b) false,nH b p {T.old with k:=1},Eff.set w _ (.inl rfl),cC (by simp[a]) (by simp[a]) (by simp[a]) ?_,by simp,aip l d _ _ _ _⟩;rw[m];exact iM jo
 ·refine⟨_,s,_,_,_,.sR a h0,qK h lW f (jV b) (λe=>h0 (val_inj (fG i.ok.1) (fG i.tw.lE) e)) false,b,Eff.refl w,cC (by simp[a]) (by simp[a]) (by simp[a]) ?_,by simp,OE l r d _ _ _ _⟩;rw[m];exact lx jo
theorem ae8(h:ShAt C w s g0)(d:dS T s)(a:T.pc=.r1)(b:bO C.Cw C.aM.length c cs T g):Stp C c cs N n T s g g0 w:=by simp only[bO,a]at b;obtain⟨q,f,rfl⟩:=b;(have k:aK T=1:=by simp[aK,a]);have i:=vb q (T.it+1);rw[Bs.mu f.bs]at i;have j:T.aw=true->s.word.k=1:=λe=>d.wk (by simp[bF,a,e]);refine⟨_,s,_,_,_,.r1 a,pd i oY rfl (iR h) (by rw[XM];exact vf) false,h,Eff.refl w,cC (by simp[a]) (by simp[a]) (by simp[a]) ?_,uh,Nj d.ok.1 j f⟩;rw[k,we];exact jc 1
theorem adw(h:ShAt C w s g0)(d:dS T s)(a:T.pc=.r3)(b:bO C.Cw C.aM.length c cs T g):Stp C c cs N n T s g g0 w:=by simp only[bO,a]at b;obtain⟨q,f,rfl⟩:=b;(have k:aK T=1:=by simp[aK,a]);have i:=Je q;rw[Bs.mu f.bs]at i;have j:T.aw=true->s.word.k=1:=λe=>d.wk (by simp[bF,a,e]);refine⟨_,s,_,_,_,.r3 a,pd i oY rfl (iR h) (by rw[fR3];exact vf) false,h,Eff.refl w,cC (by simp[a]) (by simp[a]) (by simp[a]) ?_,uh,aje d.ok.1 j f⟩;rw[k,we];exact jc 1
theorem XH(l:C.Cw≠C.Wg)(b:ShAt C w s g0)(d:dS T s)(a:T.pc=.c2)(m:bO C.Cw C.aM.length c cs T g):Stp C c cs N n T s g g0 w:=by
 simp only[bO,a]at m;obtain⟨q,f,rfl⟩:=m;have h:aK T=1:=by simp[aK,a]
 have t:=d.tw.lE;obtain⟨v,x,y,u⟩:=t;have j:=vM q (gq T).val;rw[Bs.mu f.bs,f.old]at j;have i:=iR b;by_cases h0:s.word=T.old;·rw[h0]at i;have o:=qS j lW i (jV b) false;by_cases hl:T.old.l=0/\T.old.s=0;(·refine⟨_,_,_,_,_,.mj a h0 hl,o,nH b l (gq T),Eff.set w _ (.inl rfl),cC (by simp[a]) (by simp[a]) (by simp[a]) ?_,by simp,aeE d.tw.lE hl f _⟩;rw[h];exact iM jo);·obtain⟨p,k,r⟩:=ah6 d.tw.lE (show T.old.l=1\/T.old.s=1 by omega) f (gq T).val;refine⟨_,_,_,_,_,.jA p a k h0 HU,o,nH b l (gq T),Eff.set w _ (.inl rfl),cC (by simp[a]) (by simp[a]) (by simp[a]) ?_,by rcases k with rfl|rfl<;>simp,r⟩;rw[h];rcases k with rfl|rfl<;>exact iM jo
 ·refine⟨_,s,_,_,_,.qU a h0,qK j lW i (jV b) (λe=>h0 (val_inj (fG d.ok.1) (fG d.tw.lE) e)) false,b,Eff.refl w,cC (by simp[a]) (by simp[a]) (by simp[a]) ?_,by simp,acP f _⟩;rw[h];exact lx jo
theorem Eff.later(w:HA):Eff C w w.later:=⟨rfl,rfl,⟨w.tick,rfl⟩,rfl,λ_ _ _=>rfl⟩
theorem ahX(f:ShAt C w s g0)(b:T.pc=.t1)(d:bO C.Cw C.aM.length c cs T g):Stp C c cs N n T s g g0 w:=by simp only[bO,b]at d;obtain⟨q,z,a,h,rfl⟩:=d;(have e:aK T=1:=by simp[aK,b]);refine⟨_,s,_,_,_,.t1 b,FT (EP q z a) FB false w,Ew f,Eff.later w,cC (by simp[b]) (by simp[b]) (by simp[b]) ?_,by simp,XC h z a _⟩;rw[e];exact jc 1
theorem Zj(i:C.Cw≠C.Wg)(b:ShAt C w s g0)(a:T.pc=.s1)(h:s.ms≠0)(f:bO C.Cw C.aM.length c cs T g):Stp C c cs N n T s g g0 w:=by
 simp only[bO,a]at f;obtain⟨q,d,rfl⟩:=f;have j:aK T=1:=by simp[aK,a]
 have k:(#[.pointer (some ⟨q.b,q.o+1,none⟩),q.J 8,.int .i64 2]:DS)[0]?=some (.pointer (some (msA C))):=by rw[d.bs.b,d.bs.o];rfl
 have e:=IA (sM q) IT k (vZ b) HU (yr b) false;have e1:(s.ms:Int)-1=((s.ms-1:Nat):Int):=by omega
 rw[e1]at e;refine⟨_,_,_,_,_,.s1 a h,e,AP b i (s.ms-1),Eff.set w _ (.inl rfl),cC (by simp[a]) (by simp[a]) (by simp[a]) ?_,by simp,N2 d _⟩;rw[j];exact qJ yu
theorem ah5(f:ShAt C w s g0)(e:T.pc=.s1)(h:s.ms=0)(d:bO C.Cw C.aM.length c cs T g):stepG prog false g w=.go {g with status:=.blocked} w #[]:=by simp only[bO,e]at d;obtain⟨q,b,rfl⟩:=d;(have i:(#[.pointer (some ⟨q.b,q.o+1,none⟩),q.J 8,.int .i64 2]:DS)[0]?=some (.pointer (some (msA C))):=by rw[b.bs.b,b.bs.o];rfl);have a:=vZ f;rw[h]at a;exact IH (sM q) IT i a false
theorem SH(d:ShAt C w s g0)(a:T.pc=.t2)(e:bO C.Cw C.aM.length c cs T g):Stp C c cs N n T s g g0 w:=by
 simp only[bO,a]at e;have b:aK T=1:=by simp[aK,a]
 obtain⟨q,f,⟨i,rfl⟩|⟨i,rfl⟩⟩:=e;·refine⟨_,s,_,w,_,.t2 true a,(sc (P:=prog) (BL q) rfl).2.2 false w,d,Eff.refl w,cC (by simp[a]) (by simp[a]) (by simp[a]) ?_,by simp,Wi f⟩;rw[b];exact jc 1
 ·obtain⟨r,h⟩:=Z3 f ((w.os.mono+w.tick:Nat):Int);refine⟨_,s,_,_,_,.t2 r a,FT (Fu q) FB false w,Ew d,Eff.later w,cC (by simp[a]) (by simp[a]) (by simp[a]) ?_,by simp,h⟩;rw[b];exact jc 1
theorem Rw(d:ShAt C w s g0)(b:dS T s)(a:T.pc=.r2)(i:bO C.Cw C.aM.length c cs T g):Stp C c cs N n T s g g0 w:=by
 simp only[bO,a]at i;obtain⟨q,e,rfl⟩:=i;have f:aK T=1:=by simp[aK,a]
 have j:=vE q;rw[Bs.mu e.bs]at j;have h:=pd j oY rfl (iR d) (by rw[YX];exact vf) false;have o:=b.ok.1.2.2.1;rcases(show s.word.s=0\/s.word.s=1 by omega)with h0|h1;·have k:=b.sX h0;have m:s.word.k=1:=b.wk (by simp only[bj,a]at k;simp only[bF,a];split at k;(·omega);·rename_i l;rw[if_neg l]);refine⟨_,s,_,_,_,.ls a h0,h,d,Eff.refl w,cC (by simp[a]) (by simp[a]) (by simp[a]) ?_,uh,Xg b.ok.1 h0 m e⟩;rw[f,we];exact jc 1
 ·refine⟨_,s,_,_,_,.uD a h1,h,d,Eff.refl w,cC (by simp[a]) (by simp[a]) (by simp[a]) ?_,by simp,agh b.ok.1 h1 (b.r2 a h1) e⟩;rw[f];exact jc 1
theorem aeT(r:C.Cw≠C.Wg)(b:ShAt C w s g0)(e:dS T s)(a:T.pc=.a1)(f:bO C.Cw C.aM.length c cs T g):Stp C c cs N n T s g g0 w:=by
 simp only[bO,a]at f;obtain⟨q,d,rfl⟩:=f;have p:aK T=1:=by simp[aK,a]
 have i:=qy q (if T.ex then-11 else-7);rw[Bs.mu d]at i;have h:=vi i FG (iR b) (jV b) false;obtain⟨f1,f2,t,j⟩:=e.a1 a;have m:=fG e.ok.1;have o:IntKind.i32.wrap (s.word.val+if T.ex then-11 else-7)=({l:=1,k:=s.word.k,s:=if T.ex then 0 else s.word.s,w:=s.word.w-1}:Wd).val:=by cases T.ex with|true=>exact ZW m f1 f2 j|false=>exact aaA m f1 j
 rw[o]at h;refine⟨_,_,_,_,_,.a1 a,h,nH b r _,Eff.set w _ (.inl rfl),cC (by simp[a]) (by simp[a]) (by simp[a]) ?_,by simp,Ob d _ _⟩;rw[p];exact iM jo
end
theorem Gs:prog.underlying 263=some (.pointer 134):=HW
theorem pE:prog.underlying 189=some .unsafePointer:=HW
theorem Jt:(prog.info? 134).map (λi=>decide (i.size=0))=some false:=HW
theorem AT{g:Gq}{ad:Addr}{v:HH}(h:semAt g=some (do pure (.value (<-convert 263 189 (.pointer (some ad))))))(a:w.cell? ad=some v)(m:Bool):stepG prog m g w=.go (fin g (.pointer (some ad))) w #[]:=by have c:=run_convert_to_unsafe (P:=prog) Gs pE Jt a;have b:=events_convert_to_unsafe (P:=prog) Gs pE Jt a #[];rw[jZ (v:=.pointer (some ad)) (w':=w) h (by simp[c])];simp[b,seen_none]
theorem aio(q:Lk):aa prog (fin (lr q) (.tuple #[])) (fU q):=ap prog 203 9 50 _
theorem NP(q:Lk):aa prog (fin (fU q) q.m) (lj q):=ap prog 203 10 50 _
theorem adV(q:Lk):aa prog (fin (iK q) (.tuple #[])) (nQ q):=ap prog 224 137 10 _
theorem UW(q:Lk):aa prog (fin (nQ q) q.m) (kC q):=ap prog 224 138 10 _
theorem Vv(q:Lk):aa prog (fin (lj q) (.tuple #[])) (R (q.c.finish (.tuple #[])) q.cs):=ah9 q▸bc prog 6 _
theorem Qr(q:Lk):aa prog (fin (kC q) (.tuple #[])) (R (q.c.finish (.tuple #[])) q.cs):=X1 q▸bc prog 9 _
theorem aW{g:Gq}{s:Sem Next}(h:semAt g=some s):g.status=.running/\g.offers=none:=by have:=(iu (P:=prog) h true default).1;rw[this];exact⟨rfl,rfl⟩
section
attribute[local irreducible]A Sq B C2 C1 R1 fin tl aL T1 S1 iz T2 R2 A1 R3 iK R0 Ld L0 lr lj kC fU nQ
variable{C:Cx}{c:Frame}{cs:Fi}{T:Th}{g:Gq}
theorem ZU(i:T.pc=.le)(h:bO C.Cw C.aM.length c cs T g):∃d g2,(∀w,stepG prog false g w=.go (fin g (.tuple #[])) w #[mk .enable])/\aa prog (fin g (.tuple #[])) d/\d.status=.running/\(∀(w:HA)v,w.cell? (muA C)=some v->∀m,stepG prog m d w=.go g2 w #[])/\g2.status=.running/\dJ C.Cw C.aM.length c cs g2 {T with pc:=.la}:=by simp only[bO,i]at h;rcases h with rfl|⟨q,e,rfl⟩;(·refine⟨_,_,λw=>jE HY (Jg _) qZ false w,aio _,(aW (rE _)).1,λw v b m=>AT (rE _) b m,?_,_,NP _,.inl rfl⟩;have:=(aW (rE (q0 C.Cw C.aM.length c cs))).1;unfold fin;exact this);·have a:=acJ q;rw[Bs.mu e]at a;have f:=UW q;rw[Bs.mu e]at f;refine⟨_,_,λw=>jE HY (IF _) qZ false w,adV _,(aW a).1,λw v b m=>AT a b m,?_,_,f,.inr ⟨q,e,rfl⟩⟩;have:=(aW a).1;unfold fin;exact this
theorem WW(f:T.pc=.la)(d:bO C.Cw C.aM.length c cs T g):(∀w,stepG prog false g w=.go (fin g (.tuple #[])) w #[mk (.acquire (muA C))])/\aa prog (fin g (.tuple #[])) (R (c.finish (.tuple #[])) cs):=by simp only[bO,f]at d;rcases d with rfl|⟨q,a,rfl⟩;(·exact⟨λw=>mE (mk:=.acquire) HY (Bx _) uS rfl false w,Vv _⟩);·have e:=Cc q;rw[Bs.mu a]at e;have b:=Qr q;rw[a.c,a.cs]at b;exact⟨λw=>mE (mk:=.acquire) HY e uS rfl false w,b⟩
end
theorem Ev:cN prog 121 (Extern.Race.marked .releaseMerge) false:=⟨(prog.funcs[121]?).getD default,HW,HW,HW,HW,HW,HW⟩
theorem DQ:cN prog 241 Extern.Sync.semrelease true:=⟨(prog.funcs[241]?).getD default,HW,HW,HW,HW,HW,HW⟩
theorem SK:(prog.funcs[226]?).any (·.norace)=true:=HW
theorem acZ:(prog.funcs[204]?).any (·.norace)=true:=HW
theorem fUx(q:Ul)(z b c a:Int):(Ux q z b c a).frame.fn=226:=HW
theorem fUm(q:Ul):(Um q).frame.fn=204:=HW
section
attribute[local irreducible]Um Uv Ur Ud U0 iB Ue V6 V7 V8 mY iG jh Kl.G nY jB mV ja nB nI Uc jr Ux fin tu dt aL
variable{C:Cx}{c:Frame}{cs:Fi}{N n:Nat}{T:Th}{s:Sh}{g:Gq}{g0:FV}{w:HA}
theorem Ub.mu{q:Ul}(h:Ub C.Cw C.aM.length c cs q):q.m=.pointer (some (muA C)):=by show Value.pointer (some ⟨q.b,q.o,none⟩)=_;rw[h.b,h.o];rfl
def nT(C:Cx)(c:Frame)(cs:Fi)(N n:Nat)(T:Th)(s:Sh)(g:Gq)(g0:FV)(w:HA):Prop:=∃T' s' g' w' es,Mv N n T s T' s'/\stepG prog false g w=.go g' w' es/\ShAt C w' s' g0/\Eff C w w'/\EvStop C T T' es/\T'.pc≠.quit/\nl C.Cw C.aM.length c cs g' T'
theorem za:aK (cM T)=1/\(cM T).pc≠.quit:=by unfold cM;split<;>exact⟨rfl,by simp⟩
theorem GZ(x:Wd):aK (du T x)=1/\(du T x).pc≠.quit:=by unfold du;split;(·exact⟨rfl,by simp⟩);·split;(·exact za);·exact⟨rfl,by simp⟩
theorem abu(f:ShAt C w s g0)(a:T.pc=.ur)(d:dZ C.Cw C.aM.length c cs T g):nT C c cs N n T s g g0 w:=by simp only[dZ,a]at d;obtain⟨q,e,rfl⟩:=d;have b:=Cu q;rw[Ub.mu e]at b;refine⟨_,s,_,w,_,.ur a,mE (mk:=.releaseMerge) HY b Ev rfl false w,f,Eff.refl w,?_,by simp,_,abo q,q,e,rfl⟩;unfold EvStop;rw[a];rfl
theorem LV(e:ShAt C w s g0)(a:T.pc=.ud)(b:dZ C.Cw C.aM.length c cs T g):nT C c cs N n T s g g0 w:=by simp only[dZ,a]at b;obtain⟨q,d,rfl⟩:=b;refine⟨_,s,_,w,_,.ud a,jE HY (KX q) rZ false w,e,Eff.refl w,cC (by simp[a]) (by simp[a]) (by simp[a]) ?_,by simp,_,aeB q,q,d,rfl⟩;(have:aK T=0:=by simp[aK,a]);rw[this];exact rS
theorem ah0(k:C.Cw≠C.Wg)(d:ShAt C w s g0)(b:dS T s)(a:T.pc=.u0)(e:dZ C.Cw C.aM.length c cs T g):nT C c cs N n T s g g0 w:=by simp only[dZ,a]at e;obtain⟨q,h,rfl⟩:=e;(have l:aK T=1:=by simp[aK,a]);have f:=IY q;rw[Ub.mu h]at f;have i:=vi f FG (iR d) (jV d) false;rw[Xo (fG b.ok.1) (b.u0 a)]at i;obtain⟨p,m,o,j⟩:=b.ok.1;refine⟨_,_,_,_,_,.u0 a,i,nH d k _,Eff.set w _ (.inl rfl),cC (by simp[a]) (by simp[a]) (by simp[a]) ?_,(GZ _).2,SD ⟨Nat.zero_le _,m,o,j⟩ rfl h⟩;rw[l,(GZ _).1];exact iM jo
theorem TN(m:C.Cw≠C.Wg)(b:ShAt C w s g0)(j:dS T s)(a:T.pc=.uc)(i:dZ C.Cw C.aM.length c cs T g):nT C c cs N n T s g g0 w:=by
 simp only[dZ,a]at i;obtain⟨q,z,r,p,h,o,rfl⟩:=i;have l:aK T=1:=by simp[aK,a]
 have f:=EJ q z r p ({T.old with k:=1,w:=T.old.w-1}:Wd).val;rw[Ub.mu h,o]at f;have d:=iR b;by_cases h0:s.word=T.old;·rw[h0]at d;refine⟨_,_,_,_,_,.rH a h0,qS f lW d (jV b) false,nH b m {T.old with k:=1,w:=T.old.w-1},Eff.set w _ (.inl rfl),cC (by simp[a]) (by simp[a]) (by simp[a]) ?_,by simp,_,YF q _ _ _ _,q,h,.inl ⟨_,_,_,_,rfl⟩⟩;rw[l];exact iM jo
 ·refine⟨_,s,_,_,_,.rU a h0,qK f lW d (jV b) (λe=>h0 (val_inj (fG j.ok.1) (fG j.tw.lE) e)) false,b,Eff.refl w,cC (by simp[a]) (by simp[a]) (by simp[a]) ?_,by simp,_,Qe q _ _ _ _,q,_,_,_,_,h,rfl⟩;rw[l];exact lx jo
theorem L8(e:ShAt C w s g0)(k:s.ok)(a:T.pc=.ux)(f:dZ C.Cw C.aM.length c cs T g):nT C c cs N n T s g g0 w:=by simp only[dZ,a]at f;obtain⟨q,z,h,i,j,b,rfl⟩:=f;(have l:aK T=1:=by simp[aK,a]);have d:=Fc q z h i j;rw[Ub.mu b]at d;refine⟨_,s,_,_,_,.ux a,pd d oY rfl (iR e) (by rw[fUx];exact SK) false,e,Eff.refl w,cC (by simp[a]) (by simp[a]) (by simp[a]) ?_,za.2,.pre (agz q z h i j s.word.val) (BV (T:={T with old:=s.word}) k.1 ⟨b.b,b.o,b.c,b.cs⟩ rfl)⟩;rw[l,za.1];exact jc 1
theorem wrap_u32{k:Nat}(h:k<=60):IntKind.u32.wrap ((k:Int)+1)=((k+1:Nat):Int):=by unfold IntKind.wrap;simp[IntKind.signed,IntKind.bits];omega
theorem XA(k:C.Cw≠C.Wg)(b:ShAt C w s g0)(l:s.ok)(a:T.pc=.us)(i:dZ C.Cw C.aM.length c cs T g):nT C c cs N n T s g g0 w:=by
 simp only[dZ,a]at i;have o:aK T=1:=by simp[aK,a]
 obtain⟨q,d,i⟩:=i;rcases i with⟨z,f,h,m,rfl⟩|⟨z,f,h,rfl⟩;·(have j:(#[.pointer (some ⟨q.b,q.o+1,none⟩),.bool false,.int .i64 2]:DS)[0]?=some (.pointer (some (msA C))):=by rw[d.b,d.o];rfl);have e:=yi (Ii q z f h m) DQ j (vZ b) (yr b) false;rw[wrap_u32 l.2.1]at e;refine⟨_,_,_,_,_,.us a,e,AP b k (s.ms+1),Eff.set w _ (.inl rfl),cC (by simp[a]) (by simp[a]) (by simp[a]) ?_,by simp,_,ajH q z f h m,q,_,d,rfl⟩;rw[o];exact qJ yu
 ·(have j:(#[.pointer (some ⟨q.b,q.o+1,none⟩),.bool true,.int .i64 2]:DS)[0]?=some (.pointer (some (msA C))):=by rw[d.b,d.o];rfl);have e:=yi (Dl q z f h) DQ j (vZ b) (yr b) false;rw[wrap_u32 l.2.1]at e;refine⟨_,_,_,_,_,.us a,e,AP b k (s.ms+1),Eff.set w _ (.inl rfl),cC (by simp[a]) (by simp[a]) (by simp[a]) ?_,by simp,_,Wl q z f h,q,_,d,rfl⟩;rw[o];exact qJ yu
theorem Yh(f:T.pc=.ue)(d:dZ C.Cw C.aM.length c cs T g):(∀w,stepG prog false g w=.go (fin g (.tuple #[])) w #[mk .enable])/\aa prog (fin g (.tuple #[])) (R {c with mode:=.returning} cs):=by simp only[dZ,f]at d;obtain⟨q,b,e,rfl⟩:=d;have a:=Qg q b;rw[e.c,e.cs]at a;exact⟨λw=>jE HY (Gm q b) qZ false w,a⟩
end
theorem ZK(q:Ul)(z b c a:Int):mayWake prog (jr q z b c a)=true:=HW
theorem Lz(q:Ul)(z b a:Int):mayWake prog (jh q z b a)=true:=HW
section
attribute[local irreducible]A Sq B C2 C1 R1 fin tl aL T1 S1 iz T2 R2 A1 R3 iK R0 Ld L0 lr lj kC fU nQ Um Uv Ur Ud U0 iB Ue V6 V7 V8 mY iG jh Kl.G nY jB mV ja nB nI Uc jr Ux tu dt
variable{b o:Nat}{c:Frame}{cs:Fi}{T:Th}{g:Gq}
theorem Iv(d:bO b o c cs T g):g.status=.running/\g.offers=none:=by
 unfold bO at d;split at d;·subst d;exact aW (I1 _)
 ·subst d;exact aW (tG _)
 ·subst d;exact aW (wX _)
 ·obtain⟨q,z,_,rfl⟩:=d;exact aW (yX _ _)
 ·obtain⟨q,z,f,e,_,rfl⟩:=d;exact aW (vR _ _ _ _ _)
 ·obtain⟨q,_,rfl⟩:=d;exact aW (vb _ _)
 ·obtain⟨q,_,rfl⟩:=d;exact aW (vM _ _)
 ·obtain⟨q,z,a,_,rfl⟩:=d;exact aW (EP _ _ _)
 ·obtain⟨q,_,rfl⟩:=d;exact aW (sM _)
 ·obtain⟨q,_,⟨_,rfl⟩|⟨_,rfl⟩⟩:=d;(·exact aW (BL _));·exact aW (Fu _)
 ·obtain⟨q,_,rfl⟩:=d;exact aW (vE _)
 ·obtain⟨q,_,rfl⟩:=d;exact aW (qy _ _)
 ·obtain⟨q,_,rfl⟩:=d;exact aW (Je _)
 ·obtain rfl|⟨q,_,rfl⟩:=d;(·exact aW (Jg _));·exact aW (IF _)
 ·obtain rfl|⟨q,_,rfl⟩:=d;(·exact aW (Bx _));·exact aW (Cc _)
 ·exact d.elim
theorem Jj(a:dZ b o c cs T g):g.status=.running/\g.offers=none:=by
 unfold dZ at a;split at a;·obtain⟨q,_,rfl⟩:=a;exact aW (Cu _)
 ·obtain⟨q,_,rfl⟩:=a;exact aW (KX _)
 ·obtain⟨q,_,rfl⟩:=a;exact aW (IY _)
 ·obtain⟨q,z,e,d,_,_,rfl⟩:=a;exact aW (EJ _ _ _ _ _)
 ·obtain⟨q,z,e,d,f,_,rfl⟩:=a;exact aW (Fc _ _ _ _ _)
 ·obtain⟨q,_,⟨z,e,d,f,rfl⟩|⟨z,e,d,rfl⟩⟩:=a;(·exact aW (Ii _ _ _ _ _));·exact aW (Dl _ _ _ _)
 ·obtain⟨q,h,_,rfl⟩:=a;exact aW (Gm _ _)
 ·exact a.elim
theorem ajO(a:dZ b o c cs T g)(e:T.pc=.us):mayWake prog g=true:=by simp only[dZ,e]at a;obtain⟨q,_,⟨z,d,f,h,rfl⟩|⟨z,d,f,rfl⟩⟩:=a;(·exact ZK _ _ _ _ _);·exact Lz _ _ _ _
end
end Ph
namespace Ph
open Conc Kw Kl Kt
theorem u3:prog.underlying 3=some (.int .i64):=HW
theorem OU:∃e,prog.underlying 88=some (.slice e):=⟨56,HW⟩
theorem ajY(q:Ul)(z:Int):Um {q with x:=z}=Um q:=HW
theorem mixed:prog.follows .mixedOrders=true:=HW
structure bQ(C:Cx):Prop where
 P:C.P=prog
 aM:∃vc px ra rc bd,C.aM=[vc,px,.slice ra C.N rc,.int .i64 bd,.slice (some ⟨C.Rc,0,none⟩) C.N C.N]
 ne:C.Cw≠C.Wg
 low:C.Cw<C.low/\C.Wg<C.low/\C.Rc<C.low
 uG:C.Cw≠C.Rc
 vC:∀o,¬C.iF (.cell ⟨C.Cw,o,none⟩)
 be:C.N<4294967296
structure Kp(C:Cx)(O:Nat->Prop)(ag:Option Nat)(F:HA->Prop):Prop where
 rl:∀w w₁,F w->Rl C O true ag w w₁->F w₁
 set:∀(w:HA)o v,F w->F (w.setCell ⟨C.Cw,o,none⟩ v)
def bg(C:Cx)(F:HA->Prop)(x:GC)(w:HA):Prop:=(∃wd ms,iJ C w wd ms (fV x))/\F w
section
variable{C:Cx}{O:Nat->Prop}{ag wr:Option Nat}{w w₁:HA}{Stop:(Nat->Prop)->Gq->HA->Prop}{x:GC}{F:HA->Prop}
theorem bg.rl(h:bg C F x w)(K:Kp C O ag F)(r:Rl C O true ag w w₁):bg C F x w₁:=by obtain⟨⟨wd,ms,h⟩,b⟩:=h;obtain⟨c,d,a⟩:=r.guard rfl _ _ _ h;exact⟨⟨c,d,a⟩,K.rl _ _ b r⟩
theorem bQ.len(H:bQ C):C.aM.length=5:=by obtain⟨vc,px,ra,rc,bd,h⟩:=H.aM;rw[h];rfl
theorem wj{wd:Wd}{ms:Nat}(h:iJ C w wd ms g)(o:Nat):w.cell? ⟨C.Cw,o,none⟩=(C.aM++.int .i32 wd.val::.int .u32 ms::g)[o]?:=by simp[World.cell?,h.1]
theorem wo(H:bQ C)(h:bg C F x w):w.cell? ⟨C.Cw,7,none⟩=some (.int .i64 x.n):=by obtain⟨⟨wd,ms,h⟩,_⟩:=h;rw[wj h];rw[List.getElem?_append_right (by rw[H.len];omega),H.len];rfl
theorem Ss(H:bQ C)(h:bg C F x w)(a:o<5):w.cell? ⟨C.Cw,o,none⟩=C.aM[o]?:=by obtain⟨⟨wd,ms,h⟩,_⟩:=h;rw[wj h];rw[List.getElem?_append_left (by rw[H.len];omega)]
theorem Bt(H:bQ C){own:Bool}(a:o<5):eT C O own wr ⟨.cell ⟨C.Cw,o,none⟩,false,false⟩:=by refine .inr (.inl ⟨⟨C.Cw,o,none⟩,false,rfl,.inr (.inl ⟨rfl,H.low.1,H.ne,H.uG,λ_=>?_,H.vC o⟩)⟩);show o<C.aM.length;rw[H.len];exact a
theorem lD(H:bQ C)(a:7<=o)(b:Bool):eT C O true wr ⟨.cell ⟨C.Cw,o,none⟩,b,false⟩:=by refine .inr (.inl ⟨⟨C.Cw,o,none⟩,b,rfl,.inr (.inr (.inl ⟨rfl,rfl,?_⟩))⟩);show C.aM.length+2<=o;rw[H.len];exact a
section
attribute[local irreducible]Um Uv Ur fin aL tu dt
theorem zj(H:bQ C)(K:Kp C O ag F){q:Ul}(o:q.b=C.Cw)(r:q.o=5)(h:bg C F x w)(k:∀w₁ z,bg C F x w₁->Rl C O true ag w w₁->av C false true false ag wr Stop O (Ur {q with x:=z}) w₁):av C false true false ag wr Stop O (Um q) w:=by
 have j:q.m=.pointer (some (muA C)):=by show Value.pointer (some ⟨q.b,q.o,none⟩)=.pointer (some ⟨C.Cw,C.aM.length,none⟩);rw[o,r,H.len]
 have a:=aeg q;rw[j]at a;refine .step (aW a).1 λw₁ g=>?_;obtain⟨⟨wd,ms,m⟩,_⟩:=h.rl K g;have p:w₁.cell? (muA C)=some (.int .i32 wd.val):=by simp[World.cell?,muA,m.1]
 have i:=pd a oY rfl p (by rw[fUm];exact acZ) false;rw[<-H.P]at i;refine⟨_,w₁,_,O,i,Dn.idle _ _ _ _ _,by unfold fin;exact(aW a).1,?_⟩;have t:aa C.P (fin (Um q) (.int .i32 wd.val)) (Uv {q with x:=wd.val}):=by have:=ZA {q with x:=wd.val};rw[ajY]at this;rw[H.P];exact this
 refine .aR t λE n=>?_;have b:=aik {q with x:=wd.val};have f:Ul.m {q with x:=wd.val}=.pointer (some (muA C)):=j;rw[f]at b;refine .step (aW b).1 λe s=>?_;have c:=(g.trans n).trans s;obtain⟨⟨v,D,y⟩,_⟩:=h.rl K c;have u:e.cell? (muA C)=some (.int .i32 v.val):=by simp[World.cell?,muA,y.1]
 have l:=AT b u false;rw[<-H.P]at l;refine⟨_,e,_,O,l,Dn.idle _ _ _ _ _,by unfold fin;exact(aW b).1,?_⟩;have A:aa C.P (fin (Uv {q with x:=wd.val}) (.pointer (some (muA C)))) (Ur {q with x:=wd.val}):=by rw[H.P,<-f];exact ajG {q with x:=wd.val}
 exact .aR A λB d=>k B wd.val (h.rl K (c.trans d)) (c.trans d)
end
theorem akl(H:bQ C)(K:Kp C O ag F)(h:bg C F x w)(m:Nat):bg C F {x with n:=m} (w.setCell ⟨C.Cw,7,none⟩ (.int .i64 m)):=by obtain⟨⟨wd,ms,h,c⟩,b⟩:=h;refine⟨⟨wd,ms,?_,by simp[fV]⟩,K.set _ _ _ b⟩;simp only[World.setCell,Array.getElem?_modify,if_true,h,Option.map_some,Option.isSome_none,Bool.false_eq_true,if_false];congr 2;have a:=H.len;simp only[fV,List.setIfInBounds_toArray];congr 1;rw[List.set_append_right _ _ HU,a];rfl
theorem zT(H:bQ C)(w:HA)(j:7<=o)(v:HH){es:Array Event}(i:∀e∈es,eT C O true wr e):Dn C O O true false wr w (w.setCell ⟨C.Cw,o,none⟩ v) es:=by
 refine⟨rfl,rfl,rfl,by simp[World.setCell],λb=>⟨.inl,λh=>h.elim id λh=>absurd h.2 (Nat.not_lt.2 (by simpa[World.setCell]using h.1))⟩,λb _ _ d _=>?_,λwd ms g c=>?_,λcs c=>?_,i,λh=>by cases h⟩;·simp[World.setCell,Array.getElem?_modify,Ne.symm d]
 ·have f:=H.len;refine⟨g.set (o-7) v,⟨?_,by rw[List.length_set];exact c.2⟩,λh=>by cases h⟩;simp only[World.setCell,Array.getElem?_modify,if_true,c.1,Option.map_some,Option.isSome_none,Bool.false_eq_true,if_false];congr 2;simp only[List.setIfInBounds_toArray];congr 1;rw[List.set_append_right _ _ HU,f];obtain⟨a,rfl⟩:∃a,o=5+(a+2):=⟨o-7,HU⟩;rw[show 5+(a+2)-5=a+2 by omega,show 5+(a+2)-7=a by omega];rfl
 ·refine⟨cs,⟨?_,c.2⟩,λ_ _=>rfl⟩;simp[World.setCell,Array.getElem?_modify,H.uG,c.1]
theorem xS{t:TypeId}{i:TypeInfo}{ad:Addr}{u:HH}{k:IntKind}(d:P.info? t=some i)(h1:i.size=1)(a:ad.spot=none)(c:w.cell? ad=some u)(e:w.frozen? ad=false):(do Instr.storeAt t (.pointer (some ad)) (.int k n);pure .skip:Sem Next).run P w=.ok .skip (w.setCell ad (.int k n))/\(do Instr.storeAt t (.pointer (some ad)) (.int k n);pure .skip:Sem Next).events P w #[]=#[⟨.cell ad,true,false⟩]:=by(have f:ad.add 0=ad:=by obtain⟨b,o,g⟩:=ad;dsimp only at a;subst a;rfl);constructor<;>simp[Instr.storeAt,Instr.sureAddr,storeVar,sizeOf,typeInfo,d,h1,Value.cells,storeCells,f,run_store P w ad (.int k n) .plain rfl,events_store P w _ ad (.int k n) .plain rfl,c,e,Result.andThen,Result.evThen]
theorem i3:∃i,prog.info? 3=some i/\i.size=1:=⟨(prog.info? 3).getD default,HW,HW⟩
theorem AV(h:bg C F x w)(o:Nat):w.frozen? ⟨C.Cw,o,none⟩=false:=by obtain⟨⟨wd,ms,h⟩,_⟩:=h;simp[World.frozen?,h.1]
section
attribute[local irreducible]Um Uv Ur fin aL tu dt aN Tl Tg T5 T6 T7 Z0 Z1 ly lh E3
variable{q:Tk}
theorem Gp(H:bQ C)(K:Kp C O ag F)(l:q.b=C.Cw)(z:C.aM[2]?=some (.slice q.ra q.N q.rc))(A:q.n=x.n)(b:Bool)(E:(q.n==(q.N:Int))=b)(h:bg C F x w)(k:∀w₁,bg C F x w₁->av C false true false ag wr Stop O (E3 q b) w₁):av C false true false ag wr Stop O (Tg q) w:=by refine av.lM (V:=V3 q b) (xV q) vN (by rw[H.P];exact mixed) (λ_ c w=>c=O/\bg C F x w) (by rintro D c w w₁⟨rfl,m⟩r;exact⟨rfl,m.rl K r⟩) ?_ ?_ ⟨rfl,h⟩;(·rintro i o D c w' rest j p _ u⟨rfl,g⟩kk;(have n:(Tg q).frame.kind≠.early:=by rw[Ra];simp);(have G:i<10:=by rw[<-afm];exact(J2.1 j).1);(have v:x3 q b i=some (execOp (bz (Tg q) jR (V3 q b)).frame.eval o):=by unfold x3 E3;rw[j];rfl);(have f:(x3 q b i).map (calm? prog)=some (some (.value (V3 q b i)))->av C false true false ag wr Stop c (stA (Tg q) jR (V3 q b) D (i::rest)) w':=λs=>by rw[v]at s;have B:=Option.some.inj s;refine .aR (by rw[H.P];exact sI (xV q) n vN j p u B) λw₁ a=>kk c w₁ ⟨rfl,g.rl K a⟩);(have y:semAt (stA (Tg q) jR (V3 q b) D (i::rest))=x3 q b i:=by rw[v];exact jO (xV q) n vN j u);(have ld:∀(t:TypeId)(d:TypeDesc)(ad:Addr),x3 q b i=some (do pure (.value (<-Instr.loadAt t (.pointer (some ad)))))->prog.underlying t=some d->fp d=false->(∀w₁,bg C F x w₁->w₁.cell? ad=some (V3 q b i))->eT C c true wr ⟨.cell ad,false,false⟩->av C false true false ag wr Stop c (stA (Tg q) jR (V3 q b) D (i::rest)) w':=λt d ad h1 m J L M=>by rw[h1]at y;refine av.load y (by rw[H.P];exact m) J (λw₁ a=>L w₁ (g.rl K a)) M λw₁ a=>?_;rw[jX vN j p];exact kk c w₁ ⟨rfl,g.rl K a⟩);match i,G with|0,_=>exact f (Rx q b)|1,_=>exact f (aaf q b)|2,_=>exact f (NG q b)|3,_=>exact ld _ _ _ (WU q b) u3 rfl (λw₁ a=>by rw[l,wo H a,<-A];rfl) (by rw[l];exact lD H HU false)|4,_=>exact f (ael q b)|5,_=>exact f (ag1 q b)|6,_=>exact f (ait q b)|7,_=>obtain⟨e,I⟩:=OU;exact ld _ _ _ (Wu q b) I rfl (λw₁ a=>by rw[l,Ss H a HU];exact z) (by rw[l];exact Bt H HU)|8,_=>exact f (OP q b)|9,_=>refine f ?_;rw[aiw];exact congrArg some (cS .i64 E));·rintro c w'⟨rfl,g⟩;(have:bz (Tg q) jR (V3 q b)=E3 q b:=by unfold E3;rfl);rw[this];exact k w' g
theorem WN(H:bQ C)(K:Kp C O ag F)(a:q.b=C.Cw)(v:C.aM[2]?=some (.slice q.ra q.N q.rc))(J:q.N=C.N)(d:q.n=x.n)(hx:x.n<=C.N)(h:bg C F x w)(T:x.n=C.N->∀w₁ z,bg C F x w₁->av C false true false ag wr Stop O (Ur {b:=q.b,o:=5,c:=ly q,cs:=q.ks,x:=z}) w₁)(k1:x.n<C.N->∀w₁ z,bg C F {x with n:=x.n+1} w₁->av C false true false ag wr Stop O (Ur {b:=q.b,o:=5,c:=lh q (x.n+1:Nat),cs:=q.ks,x:=z}) w₁):av C false true false ag wr Stop O (R ((Tl q).frame.finish (.tuple #[])) q.ks) w:=by
 have e1:aa C.P (R ((Tl q).frame.finish (.tuple #[])) q.ks) (Tg q):=by rw[H.P];unfold Tg;exact bc _ _ _
 refine .aR e1 λw₁ G=>?_;by_cases hlt:x.n<C.N;·refine Gp H K a v d false (by rw[d,J];simp;omega) (h.rl K G) λa2 g=>?_;(have e2:aa C.P (E3 q false) (T5 q):=by rw[H.P];unfold T5;exact ap _ _ _ _ _);refine .aR e2 λV j=>?_;have y:=g.rl K j;refine av.load (U5 q) (by rw[H.P];exact u3) rfl (λW f=>by rw[a,wo H (y.rl K f)]) (by rw[a];exact lD H HU false) λW f=>?_;have U:=y.rl K f;(have Y:aa C.P (fin (T5 q) (.int .i64 x.n)) (T6 q):=by rw[H.P,<-d];unfold T6;exact bc _ _ _);refine .aR Y λa4 X=>?_;have h5:=U.rl K X;(have hw:IntKind.i64.wrap (q.n+1)=((x.n+1:Nat):Int):=by have hf:=H.be;rw[d];unfold IntKind.wrap;simp[IntKind.signed,IntKind.bits];omega);have s:=P6 q;rw[hw]at s;refine av.op s λQ S=>?_;have m:=h5.rl K S;have D:=wo H m;rw[<-a]at D;have u:=AV m 7;rw[<-a]at u;obtain⟨i,B,L⟩:=i3;rw[<-H.P]at B;have E:=xS (P:=C.P) (t:=3) (k:=.i64) (n:=(x.n+1:Nat)) B L rfl D u;refine⟨undef,_,O,.inr ⟨E.1,rfl⟩,?_,?_⟩;(·rw[E.2,a];refine zT H Q HU _ λe Z=>?_;have:=Co.fv Z;simp at this;rw[this];exact lD H HU true);·have A:=akl H K m (x.n+1);rw[<-a]at A;(have M:aa C.P (fin (T6 q) undef) (T7 q):=by rw[H.P];unfold T7;exact ap _ _ _ _ _);refine .aR M λa3 a0=>?_;have I:=A.rl K a0;refine av.load (ajR q) (by rw[H.P];exact u3) rfl (λa1 l=>by rw[a,wo H (I.rl K l)]) (by rw[a];exact lD H HU false) λa1 l=>?_;have h9:=I.rl K l;(have e5:aa C.P (fin (T7 q) (.int .i64 ((x.n+1:Nat):Int))) (Um {b:=q.b,o:=5,c:=lh q (x.n+1:Nat),cs:=q.ks}):=by rw[H.P,<-RI];unfold Z1;exact ap _ _ _ _ _);exact .aR e5 λa5 N=>zj H K a rfl (h9.rl K N) λp z r _=>k1 hlt p z r
 ·refine Gp H K a v d true (by rw[d,J];simp;omega) (h.rl K G) λa2 g=>?_;(have e2:aa C.P (E3 q true) (Um {b:=q.b,o:=5,c:=ly q,cs:=q.ks}):=by rw[H.P,<-aii];unfold Z0;exact ap _ _ _ _ _);exact .aR e2 λV j=>zj H K a rfl (g.rl K j) λp z r _=>T HU p z r
end
end
end Ph
namespace Ph
open Conc Kw Kl
theorem D5{g:Gq}{s:Sem Next}{f:FuncId}{args:DS}(h:semAt g=some s)(b:calm? P s=some (.enter f args)):uQ P g (R (Frame.enter P f args .normal) (g.frame::g.callers)):=by have c:=(iu (P:=P) h true default).1;refine⟨by rw[c],rfl,λm w=>?_⟩;obtain⟨_,_,d,a⟩:=iu (P:=P) h m w;rw[a];exact AO d b rfl w
def bump(x:GC)(j:Nat):GC:={x with c:=λi=>if i=j then x.c i+1 else x.c i}
def cJ(x:GC)(v:Int):GC:=if v=0 then bump x 0 else if v=1 then bump x 1 else if v=2 then bump x 2 else x
def Small(x:GC)(B:Int):Prop:=∀i,-B<=x.c i/\x.c i<=B
theorem Small.bump{x:GC}{B:Int}(h:Small x B)(j:Nat):Small (bump x j) (B+1):=by intro i;have:=h i;show-(B+1)<=(if i=j then x.c i+1 else x.c i)/\(if i=j then x.c i+1 else x.c i)<=B+1;split<;>omega
theorem Small.mono{x:GC}{B a:Int}(h:Small x B)(b:B<=a):Small x a:=λi=>by have:=h i;omega
theorem Small.cJ{x:GC}{B:Int}(h:Small x B)(v:Int):Small (cJ x v) (B+1):=by unfold Ph.cJ;split;(·exact h.bump 0);·split;(·exact h.bump 1);·split;(·exact h.bump 2);·exact h.mono HU
theorem wrap64{B:Int}(h:-B<=n/\n<=B)(a:B<=4611686018427387904):IntKind.i64.wrap (n+1)=n+1:=by unfold IntKind.wrap;simp[IntKind.signed,IntKind.bits];omega
section
variable{C:Cx}{O:Nat->Prop}{ag wr:Option Nat}{w w₁:HA}{Stop:(Nat->Prop)->Gq->HA->Prop}{x:GC}{F:HA->Prop}
theorem wH(H:bQ C)(h:bg C F x w)(a:j<11):w.cell? ⟨C.Cw,8+j,none⟩=some (.int .i64 (x.c j)):=by obtain⟨⟨wd,ms,h⟩,_⟩:=h;rw[wj h];rw[List.getElem?_append_right (by rw[H.len];omega),H.len,show 8+j-5=j+1+1+1 by omega];simp[fV,a]
theorem Iz(H:bQ C)(K:Kp C O ag F)(h:bg C F x w)(d:j<11):bg C F (bump x j) (w.setCell ⟨C.Cw,8+j,none⟩ (.int .i64 (x.c j+1))):=by obtain⟨⟨wd,ms,h,f⟩,b⟩:=h;refine⟨⟨wd,ms,?_,by simp[fV]⟩,K.set _ _ _ b⟩;simp only[World.setCell,Array.getElem?_modify,if_true,h,Option.map_some,Option.isSome_none,Bool.false_eq_true,if_false];congr 2;have a:=H.len;simp only[fV,List.setIfInBounds_toArray];congr 1;rw[List.set_append_right _ _ HU,a,show 8+j-5=j+1+1+1 by omega];simp only[List.set_cons_succ];congr 4;refine List.ext_getElem HY λi h1 c=>?_;simp only[List.getElem_set,List.getElem_map,List.getElem_range,bump];split;(·rename_i e;subst e;simp);·rename_i e;rw[if_neg (λh=>e h.symm)]
theorem av.more(H:bQ C)(K:Kp C O ag F){b gs g':Gq}{B:Int}(c:j<11)(h:bg C F x w)(q:Small x B)(z:B<=4611686018427387904)(y:semAt b=some (do pure (.value (<-Instr.loadAt 3 (.pointer (some ⟨C.Cw,8+j,none⟩))))))(h1:aa prog (fin b (.int .i64 (x.c j))) gs)(l:semAt gs=some (do Instr.storeAt 3 (.pointer (some ⟨C.Cw,8+j,none⟩)) (.int .i64 (IntKind.i64.wrap (x.c j+1)));pure .skip))(f:aa prog (fin gs undef) g')(k:∀w₁,bg C F (bump x j) w₁->av C false true false ag wr Stop O g' w₁):av C false true false ag wr Stop O b w:=by refine av.load y (by rw[H.P];exact u3) rfl (λw₁ a=>wH H (h.rl K a) c) (lD H HU false) λw₁ a=>?_;have p:=h.rl K a;rw[<-H.P]at h1 f;refine .aR h1 λG r=>?_;have s:=p.rl K r;rw[wrap64 (q j) z]at l;refine av.op l λu v=>?_;have d:=s.rl K v;obtain⟨i,g,A⟩:=i3;rw[<-H.P]at g;have m:=xS (P:=C.P) (t:=3) (k:=.i64) (n:=x.c j+1) g A rfl (wH H d c) (AV d (8+j));refine⟨undef,_,O,.inr ⟨m.1,rfl⟩,?_,?_⟩;(·rw[m.2];refine zT H u HU _ λe D=>?_;have:=Co.fv D;simp at this;rw[this];exact lD H HU true);·exact .aR f λE o=>k E ((Iz H K d c).rl K o)
section
attribute[local irreducible]fin aL aN Kc.A0 Kc.A1 Kc.A2 Kc.L0 Kc.L1 Kc.L2 Kc.S0 Kc.S1 Kc.S2
theorem Tj(H:bQ C)(K:Kp C O ag F){q:Kc.Av}{B:Int}(D:q.b=C.Cw)(h:bg C F x w)(u:Small x B)(z:B<=4611686018427387904)(k:∀w₁,bg C F (cJ x q.v) w₁->av C false true false ag wr Stop O (R (q.c.finish (.tuple #[])) q.cs) w₁):av C false true false ag wr Stop O (Kc.xI q) w:=by
 have d:∀(g:Gq)(s:Sem Next)(v:HH),semAt g=some s->calm? prog s=some (.value v)->aa prog g (fin g v):=λg s v h1 f=>⟨1,_,sc h1 f,rfl⟩;have y:∀o,q.p o=.pointer (some ⟨C.Cw,o,none⟩):=λo=>by show Value.pointer (some ⟨q.b,o,none⟩)=_;rw[D]
 have n:aa prog (Kc.xI q) (Kc.A0 q):=by unfold Kc.A0;exact ap _ _ _ _ _
 by_cases h0:q.v=0;·have e1:=d _ _ _ (Kc.Fg q) (cS .i64 (r:=true) (by rw[h0];rfl));(have e2:aa prog (fin (Kc.A0 q) (.bool true)) (Kc.L0 q):=by unfold Kc.L0;exact ap _ _ _ _ _);have e:=n.trans (e1.trans e2);rw[<-H.P]at e;refine .aR e λw₁ c=>?_;have a:=Kc.tG q;have b:=Kc.af9 q (x.c 0);rw[y]at a b;refine av.more H K (j:=0) HU (h.rl K c) u z a (gs:=Kc.S0 q (x.c 0)) (by unfold Kc.S0;exact bc _ _ _) b (g':=R (q.c.finish (.tuple #[])) q.cs) (by rw[<-Kc.Y2 q (x.c 0)];exact bc _ _ _) λi l=>k i ?_;unfold cJ;rw[if_pos h0];exact l
 have e1:=d _ _ _ (Kc.Fg q) (cS .i64 (r:=false) (by simpa using h0));have e2:aa prog (fin (Kc.A0 q) (.bool false)) (Kc.A1 q):=by unfold Kc.A1;exact ap _ _ _ _ _
 by_cases h1:q.v=1;·have m:=d _ _ _ (Kc.qy q) (cS .i64 (r:=true) (by rw[h1];rfl));(have p:aa prog (fin (Kc.A1 q) (.bool true)) (Kc.L1 q):=by unfold Kc.L1;exact ap _ _ _ _ _);have e:=n.trans (e1.trans (e2.trans (m.trans p)));rw[<-H.P]at e;refine .aR e λw₁ c=>?_;have a:=Kc.PA q;have b:=Kc.sM q (x.c 1);rw[y]at a b;refine av.more H K (j:=1) HU (h.rl K c) u z a (gs:=Kc.S1 q (x.c 1)) (by unfold Kc.S1;exact bc _ _ _) b (g':=R (q.c.finish (.tuple #[])) q.cs) (by rw[<-Kc.XB q (x.c 1)];exact bc _ _ _) λi l=>k i ?_;unfold cJ;rw[if_neg h0,if_pos h1];exact l
 have m:=d _ _ _ (Kc.qy q) (cS .i64 (r:=false) (by simpa using h1));have p:aa prog (fin (Kc.A1 q) (.bool false)) (Kc.A2 q):=by unfold Kc.A2;exact ap _ _ _ _ _
 by_cases f:q.v=2;·have A:=d _ _ _ (Kc.Dt q) (cS .i64 (r:=true) (by rw[f];rfl));(have t:aa prog (fin (Kc.A2 q) (.bool true)) (Kc.L2 q):=by unfold Kc.L2;exact ap _ _ _ _ _);have e:=n.trans (e1.trans (e2.trans (m.trans (p.trans (A.trans t)))));rw[<-H.P]at e;refine .aR e λw₁ c=>?_;have a:=Kc.ajM q;have b:=Kc.LA q (x.c 2);rw[y]at a b;refine av.more H K (j:=2) HU (h.rl K c) u z a (gs:=Kc.S2 q (x.c 2)) (by unfold Kc.S2;exact bc _ _ _) b (g':=R (q.c.finish (.tuple #[])) q.cs) (by rw[<-Kc.adf q (x.c 2)];exact bc _ _ _) λi l=>k i ?_;unfold cJ;rw[if_neg h0,if_neg h1,if_pos f];exact l
 have A:=d _ _ _ (Kc.Dt q) (cS .i64 (r:=false) (by simpa using f));have t:aa prog (fin (Kc.A2 q) (.bool false)) (R (q.c.finish (.tuple #[])) q.cs):=by rw[<-Kc.ag3 q];exact bc _ _ _
 have e:=n.trans (e1.trans (e2.trans (m.trans (p.trans (A.trans t)))));rw[<-H.P]at e;refine .aR e λw₁ c=>k w₁ ?_;unfold cJ;rw[if_neg h0,if_neg h1,if_neg f];exact h.rl K c
end
end
end Ph
