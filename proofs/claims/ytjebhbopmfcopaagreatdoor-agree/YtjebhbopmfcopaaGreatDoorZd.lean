/- Agree, a part. -/
import Derived.Laws.MakeOwn
import Derived.Test.YtjebhbopmfcopaaGreatDoorZc
set_option maxRecDepth 100000
namespace Go.Proofs.YtjebhbopmfcopaaGreatDoor
open Go.Proofs Tryz
noncomputable section
variable{b g:Gq}{a i j:Nat}{V:Nat->HH}{P:Program}{v:HH}{w:HA}
namespace Ph
open Conc Kw Kl
theorem aeR(Q:Ko.Wk)(v:Int)(s:HM)(a b:Nat):Kc.Cb (Ko.cn Q v s a)=Kc.Cb (Ko.cn Q v s b):=HW
theorem Ta(C:Cx)(q:Ko.Wk)(A:eF)(m:Nat)(J:Nat->HH):Ko.WH {q with n:=(m:Nat),ok:=true,J:=J}=Ko.WH {qm C q A m J with ok:=true}:=HW
theorem Ap(C:Cx)(q:Ko.Wk)(A:eF)(m:Nat)(J:Nat->HH):Ko.cl (qm C q A m J)=Ko.cl q:=HW
theorem NK(C:Cx)(q:Ko.Wk)(A:eF)(m:Nat)(J a:Nat->HH)(n:Int)(k:Bool):Ko.WH {qm C q A m J with n:=n,ok:=k,J:=a}=Ko.WH {q with n:=n,ok:=k,J:=a}:=HW
theorem Px(C:Cx)(q:Ko.Wk)(A:eF)(m:Nat)(J:Nat->HH)(c:Frame):Kt.ji (Ko.tk (qm C q A m J) c)=Kt.ji (Ko.tk q c):=HW
theorem N'(q:Ko.Wk)(n:Int)(k:Bool)(J:Nat->HH):Ko.cz {q with n:=n,ok:=k,J:=J}=Ko.cz q:=HW
def v8(q:Ko.Wk)(c:Frame):Prop:=∀(n:Int)(k:Bool),∃J,aa prog (R (c.finish (.tuple #[.int .i64 n,.bool k])) [Ko.cl q,Ko.bs]) (Ko.WH {q with n:=n,ok:=k,J:=J})
section
attribute[local irreducible]fin aL aN Ko.Wg Ko.E7 Ko.W0 Ko.WH Ko.W4 Ko.W5 Ko.W6 Ko.W7 Ko.W8 Ko.cl Ko.cz Ko.kI Ko.mI Ko.jK Ko.nR Ko.tw Kt.Tl Kt.ji Kc.og Kc.Cb Kc.Cl Kl.Ld Kl.kB Ko.Wz Ko.cn
theorem afs(q:Ko.Wk):v8 q (Ko.W0 q).frame:=λn k=>⟨_,by rw[<-Ko.N1];unfold Ko.tw;exact ap _ _ _ _ _⟩
theorem adz(C:Cx)(q:Ko.Wk)(A:eF)(m:Nat)(J:Nat->HH):v8 q (Ko.W8 (qm C q A m J)).frame:=λn k=>by have e:=Ko.ahz (qm C q A m J) n k;(have h:aa prog (R ((Ko.W8 (qm C q A m J)).frame.finish (.tuple #[.int .i64 n,.bool k])) [Ko.cl (qm C q A m J),Ko.bs]) (Ko.WH {qm C q A m J with n:=n,ok:=k,J:=au (Ko.tw 9 60 (R ((Ko.W8 (qm C q A m J)).frame.finish (.tuple #[.int .i64 n,.bool k])) [Ko.cl (qm C q A m J),Ko.bs]))}):=by rw[<-e];unfold Ko.tw;exact ap _ _ _ _ _);rw[NK,Ap]at h;exact⟨_,h⟩
theorem Gr(q:Ko.Wk)(c:Frame):aa prog (Kt.ji (Ko.tk q c)) (Ld (q0 q.b 5 (Kt.Tl (Ko.tk q c)).frame (c::[Ko.cl q,Ko.bs]))):=by
 have e1:aa prog (Kt.ji (Ko.tk q c)) (Kt.Tl (Ko.tk q c)):=by unfold Kt.Tl;exact ap _ _ _ _ _
 have e2:=ef (Kt.abY (Ko.tk q c));have a:aa prog (kB (q0 q.b 5 (Kt.Tl (Ko.tk q c)).frame (c::[Ko.cl q,Ko.bs]))) (Ld (q0 q.b 5 (Kt.Tl (Ko.tk q c)).frame (c::[Ko.cl q,Ko.bs]))):=by unfold Kl.Ld;exact ap _ _ _ _ _
 exact e1.trans (e2.trans a)
theorem adQ(a:Kc.Cn):aa prog (Kc.Cl a) (Ld (q0 a.b 5 (Kc.Cl a).frame a.ks)):=by have e2:=ef (Kc.akn a);(have b:aa prog (kB (q0 a.b 5 (Kc.Cl a).frame a.ks)) (Ld (q0 a.b 5 (Kc.Cl a).frame a.ks)):=by unfold Kl.Ld;exact ap _ _ _ _ _);exact e2.trans b
variable{C:Cx}{O:Nat->Prop}{own:Bool}{ag wr:Option Nat}{w w₁:HA}{Stop:(Nat->Prop)->Gq->HA->Prop}{q:Ko.Wk}{A:eF}
theorem acL(W:Wh C q A)(h:Lo C w)(k:∀w₁,Lo C w₁->av C false false false ag wr Stop O (Ld (q0 q.b 5 (Kt.Tl (Ko.tk q (Ko.W0 q).frame)).frame ((Ko.W0 q).frame::[Ko.cl q,Ko.bs]))) w₁):av C false false false ag wr Stop O (Ko.jK q) w:=by
 obtain⟨c1,c2,c3,c4,c5,b⟩:=W.cb;have e1:aa prog (Ko.jK q) (Ko.kI q):=by unfold Ko.kI;exact ap _ _ _ _ _
 rw[<-W.here.P]at e1;refine .aR e1 λw₁ f=>?_;have h1:=h.rl f;obtain⟨d,c,g⟩:=yK;rw[<-W.here.P]at c;refine av.load (Ko.WT q) c g (x:=q.p 0) (λi a=>?_) (DC c1 c2 c3 c4 (c5 0)) λi a=>?_;·have:=(h1.rl a).2 q.cb c1 c2 c3 c4;unfold World.cell? at b⊢;rw[this];exact b
 ·(have e2:aa prog (fin (Ko.kI q) (q.p 0)) (Ko.mI q):=by unfold Ko.mI;exact ap _ _ _ _ _);have l:=ef (Ko.aeh q);(have m:aa prog (Ko.nR q) (Ko.W0 q):=by unfold Ko.W0 Ko.tw;exact ap _ _ _ _ _);have n:=ef (Ko.OM q);have e:=e2.trans (l.trans (m.trans (n.trans (Gr q _))));rw[<-W.here.P]at e;exact .aR e λo j=>k o ((h1.rl a).rl j)
theorem ahs(w:HA)(o:Obj)(f:Bool)(i:C.low<=w.heap.size)(j:C.Cw<C.low)(g3:C.Rc<C.low):Dn C O (λb=>O b\/b=w.heap.size) own f wr w {w with heap:=w.heap.push o} #[]:=by
 have d:∀b,b<w.heap.size->(w.heap.push o)[b]?=w.heap[b]?:=λb c=>by rw[Array.getElem?_push_lt c,Array.getElem?_eq_getElem c]
 refine⟨rfl,rfl,rfl,by simp,λb=>?_,λb c _ _ _=>d b c,λwd ms g a=>⟨g,⟨(d _ HU).trans a.1,a.2⟩,λ_=>rfl⟩,λcs a=>⟨cs,⟨(d _ HU).trans a.1,a.2⟩,λ_ _=>rfl⟩,by simp,λ_=>rfl⟩;constructor;·rintro(h|h);(·exact .inl h);·exact .inr ⟨HU,by simp;omega⟩
 ·rintro(h|⟨h1,e⟩);(·exact .inl h);·simp at e;exact .inr HU
theorem NT(H:bQ C)(h:Bw C w)(o:Obj):Bw C {w with heap:=w.heap.push o}:=by have q:=h.2.1;(have a:∀b,b<w.heap.size->(w.heap.push o)[b]?=w.heap[b]?:=λb c=>by rw[Array.getElem?_push_lt c,Array.getElem?_eq_getElem c]);obtain⟨l1,p,n⟩:=H.low;obtain⟨⟨⟨s,g,j,d,k⟩,cs,e⟩,i⟩:=h;refine⟨⟨⟨s,g,j,⟨(a _ HU).trans d.1,d.2⟩,(a _ HU).trans k⟩,cs,(a _ HU).trans e.1,e.2⟩,by simp;omega,λb l m b3 f=>(a b HU).trans (i.2 b l m b3 f)⟩
def bH(C:Cx)(q:Ko.Wk)(A:eF)(m:Nat)(J:Nat->HH)(rb:Nat):Kc.Cn:=Ko.cn (qm C q A m J) (A.vd m) (A.sq m) rb
theorem nL(C:Cx)(q:Ko.Wk)(A:eF)(m:Nat)(J:Nat->HH)(rb:Nat):(bH C q A m J rb).b=q.b/\(bH C q A m J rb).r=(C.aJ m).toArray/\(bH C q A m J rb).v=A.vd m/\(bH C q A m J rb).s=A.sq m/\(bH C q A m J rb).rb=rb/\(bH C q A m J rb).c=(Ko.W7 (qm C q A m J)).frame/\(bH C q A m J rb).cs=[Ko.cl q,Ko.bs]:=by unfold bH Ko.cn;exact⟨rfl,rfl,rfl,rfl,rfl,rfl,by rw[<-Ap C q A m J]⟩
end
section
attribute[local irreducible]fin aL aN Ko.Wg Ko.E7 Ko.W0 Ko.WH Ko.W4 Ko.W5 Ko.W6 Ko.W7 Ko.W8 Ko.cl Ko.cz Ko.kI Ko.mI Ko.jK Ko.nR Ko.tw Kt.Tl Kt.ji Kc.og Kc.Cb Kc.Cl Kl.Ld Kl.kB Ko.Wz
variable{C:Cx}{O:Nat->Prop}{own:Bool}{w w₁:HA}{Stop:(Nat->Prop)->Gq->HA->Prop}{q:Ko.Wk}{A:eF}{m:Nat}
def RB(C:Cx)(m:Nat)(w:HA):Prop:=Bw C w/\io C m w
theorem RB.rl(h:RB C m w)(r:Rl C O own (some m) w w₁):RB C m w₁:=⟨h.1.rl r,λi a=>(r.aJ m rfl i a).trans (h.2 i a)⟩
theorem N9(W:Wh C q A)(J:Nat->HH)(t:∀b,O b->C.low<=b)(h:RB C m w)(k:∀d rb w₁,(∀b,d b->C.low<=b)->d rb->RB C m w₁->gF (bH C q A m J rb) w₁->av C false false false (some m) (some m) Stop d (Ld (q0 q.b 5 (Kc.Cl (bH C q A m J rb)).frame (bH C q A m J rb).ks)) w₁):av C false false false (some m) (some m) Stop O (Ko.W7 (qm C q A m J)) w:=by
 have H:=W.here;have e1:=ef (Ko.adK (qm C q A m J) (A.vd m) (A.sq m) 0);have e2:aa prog (Kc.og (Ko.cn (qm C q A m J) (A.vd m) (A.sq m) 0)) (Kc.Cb (bH C q A m J 0)):=by unfold Kc.Cb bH;exact ap _ _ _ _ _
 have e:=e1.trans e2;rw[<-H.P]at e;refine .aR e λw₁ v=>?_;have h1:=h.rl v;refine av.op (Kc.aaK (bH C q A m J 0)) λa x=>?_;have f:=h1.rl x;obtain⟨l1,I,E⟩:=H.low;have p:=f.1.2.1;obtain⟨r1,r2,r3,K,g,L,G⟩:=nL C q A m J a.heap.size;have c:=oA (P:=C.P) a 52 (bH C q A m J 0).r;refine⟨_,_,λb=>O b\/b=a.heap.size,.inl c.1,?_,?_⟩;·rw[c.2,seen_none];exact ahs a _ false p l1 E
 ·(have y:aa prog (fin (Kc.Cb (bH C q A m J 0)) (.pointer (some ⟨a.heap.size,0,none⟩))) (Kc.Cl (bH C q A m J a.heap.size)):=by have z:Kc.Cb (bH C q A m J 0)=Kc.Cb (bH C q A m J a.heap.size):=aeR _ _ _ _ _;(have s:Value.pointer (some ⟨a.heap.size,0,none⟩)=(bH C q A m J a.heap.size).pr 0:=by show _=Value.pointer (some ⟨(bH C q A m J a.heap.size).rb,0,none⟩);rw[g]);rw[z,s];unfold Kc.Cl;exact ap _ _ _ _ _);have l:=adQ (bH C q A m J a.heap.size);rw[r1]at l;have j:=y.trans l;rw[<-H.P]at j;(have u:∀b,(O b\/b=a.heap.size)->C.low<=b:=λb c=>c.elim (t b) λc=>by omega);(have D:∀b,b<a.heap.size->(a.heap.push (Obj.cells (bH C q A m J 0).r 52 (0,0)))[b]?=a.heap[b]?:=λb c=>by rw[Array.getElem?_push_lt c,Array.getElem?_eq_getElem c]);refine .aR j λB n=>k _ a.heap.size B u (.inr rfl) ?_ ?_;(·(have F:RB C m {a with heap:=a.heap.push (Obj.cells (bH C q A m J 0).r 52 (0,0))}:=by refine⟨NT H f.1 _,λi o=>?_⟩;rw[<-f.2 i o];show World.cell? {a with heap:=a.heap.push _} _=_;unfold World.cell?;rw[D C.Rc HU]);exact F.rl n);·unfold gF;rw[g,r2];rw[n.mine _ (.inr rfl)];show(a.heap.push _)[a.heap.size]?=_;rw[Array.getElem?_push_size,(nL C q A m J 0).2.1]
theorem ad4(W:Wh C q A)(t:m<C.N)(J:Nat->HH)(X:∀b,O b->C.low<=b)(h:Bw C w)(k:∀f rb w₁,(∀b,f b->C.low<=b)->f rb->RB C m w₁->gF (bH C q A m J rb) w₁->av C false false false (some m) (some m) Stop f (Ld (q0 q.b 5 (Kc.Cl (bH C q A m J rb)).frame (bH C q A m J rb).ks)) w₁):av C false false false (some m) (some m) Stop O (Ko.WH {q with n:=(m:Nat),ok:=true,J:=J}) w:=by
 have H:=W.here;have e1:aa prog (Ko.WH {q with n:=(m:Nat),ok:=true,J:=J}) (Ko.Wg (qm C q A m J)):=by rw[Ta C q A m J];unfold Ko.Wg;exact bc _ _ _
 rw[<-H.P]at e1;refine .aR e1 λw₁ a1=>?_;refine adj W t J X (h.rl a1) λf a3 K T V=>?_;have i:RB C m a3:=⟨T,V⟩;have Z:∀o,(qm C q A m J).p o=.pointer (some ⟨C.Cw,o,none⟩):=λo=>by show Value.pointer (some ⟨q.b,o,none⟩)=_;rw[W.b]
 have e2:aa prog (Ko.E7 (qm C q A m J)) (Ko.W4 (qm C q A m J)):=by unfold Ko.W4 Ko.tw;exact ap _ _ _ _ _
 rw[<-H.P]at e2;refine .aR e2 λa6 S=>?_;have y:=i.rl S;have F:=Ko.wz (qm C q A m J);rw[Z]at F;refine av.load F (by rw[H.P];exact mR) rfl (x:=(qm C q A m J).aU) (λa4 g=>?_) (Bt H HU) λa4 g=>?_;·rw[Fz H (y.rl g).1 HU,W.aM];rfl
 have L:=y.rl g;have M:aa prog (fin (Ko.W4 (qm C q A m J)) (qm C q A m J).aU) (Ko.W5 (qm C q A m J)):=by unfold Ko.W5 Ko.tw;exact ap _ _ _ _ _
 have Q:aa prog (Ko.W5 (qm C q A m J)) (fin (Ko.W5 (qm C q A m J)) (.pointer (some (qm C q A m J).am))):=by refine cZ (Ko.ahI (qm C q A m J)) ?_;obtain⟨ti,h1,i⟩:=wL.2;have:=zW (a:=⟨q.Rc,0,none⟩) (N:=q.N) (c:=q.N) mR h1 (show m<q.N by rw[W.N];exact t);rw[i,Addr.add_mid,show 0+m*8=8*m by omega]at this;(have e:(qm C q A m J).am=⟨q.Rc,8*m,none⟩:=by rw[W.Rc];rfl);rw[e];exact this
 have R:aa prog (fin (Ko.W5 (qm C q A m J)) (.pointer (some (qm C q A m J).am))) (Ko.W6 (qm C q A m J)):=by unfold Ko.W6 Ko.tw;exact ap _ _ _ _ _
 have u:=M.trans (Q.trans R);rw[<-H.P]at u;refine .aR u λa5 U=>?_;have s:=L.rl U;obtain⟨r1,r2,r3,r4⟩:=W.aJ m;obtain⟨⟨d,z,Y⟩,ti,B,a0⟩:=wL;rw[<-H.P]at z B;refine av.look (Ko.Wj (qm C q A m J)) (v:=.agg (C.aJ m).toArray) (λD l=>?_) λD l=>?_;·have h6:=s.rl l;(have a2:D.rangeAt C.Rc (8*m) (C.aJ m):=λj v E=>by(have r:j<8:=by rw[<-r1];exact(List.getElem?_eq_some_iff.1 E).1);rw[h6.2 j r,E]);have:=qL (P:=C.P) z Y B (by rw[a0,r1]) a2;refine⟨this.1,λe he=>?_⟩;obtain⟨j,r,rfl⟩:=this.2 e he;rw[r1]at r;exact .inr (.inl ⟨_,_,rfl,.inr (.inr (.inr ⟨rfl,by show some m=some ((8*m+j)/8);rw[show(8*m+j)/8=m by omega]⟩))⟩)
 ·(have G:aa prog (fin (Ko.W6 (qm C q A m J)) (.agg (C.aJ m).toArray)) (Ko.W7 (qm C q A m J)):=by unfold Ko.W7 Ko.tw;exact ap _ _ _ _ _);rw[<-H.P]at G;exact .aR G λa7 I=>N9 W J K ((s.rl l).rl I) k
theorem To(W:Wh C q A){ag wr:Option Nat}(J:Nat->HH)(h:Bw C w)(k:∀w₁,Bw C w₁->av C false false false ag wr Stop O (Kd.Wr ⟨C.Wg,Ko.cz q,[Ko.bs]⟩) w₁):av C false false false ag wr Stop O (Ko.WH {q with n:=0,ok:=false,J:=J}) w:=by have H:=W.here;(have e1:aa prog (Ko.WH {q with n:=0,ok:=false,J:=J}) (Kd.Wv ⟨C.Wg,Ko.cz q,[Ko.bs]⟩):=by have:=Ko.QJ {q with n:=0,ok:=false,J:=J};rw[N']at this;rw[<-W.wg,<-this];unfold Ko.Wz;exact ap _ _ _ _ _);rw[<-H.P]at e1;refine .aR e1 λw₁ e=>?_;have h1:=h.rl e;have a:=Kd.acv ⟨C.Wg,Ko.cz q,[Ko.bs]⟩;refine .step (aW a).1 λi b=>?_;have f:=h1.rl b;obtain⟨⟨⟨s,g,m,j⟩,_⟩,_⟩:=f;have c:=IR a (kV j) false;rw[<-H.P]at c;refine⟨_,i,_,O,c,Dn.idle _ _ _ _ _,by unfold fin;exact(aW a).1,?_⟩;have e2:aa prog (fin (Kd.Wv ⟨C.Wg,Ko.cz q,[Ko.bs]⟩) (Kd.Kd.m ⟨C.Wg,Ko.cz q,[Ko.bs]⟩)) (Kd.Wr ⟨C.Wg,Ko.cz q,[Ko.bs]⟩):=Kd.Xp _;rw[<-H.P]at e2;exact .aR e2 λl d=>k l ((h1.rl b).rl d)
end
def nO:Pc->Bool|.ld|.l0|.r0|.sq|.c1|.r1|.c2|.t1|.s1|.t2|.r2|.a1|.r3|.le|.la=>true|_=>false
def mF:Pc->Bool|.ur|.ud|.u0|.uc|.ux|.us|.ue=>true|_=>false
theorem vz(T:Th):nO (head T).pc=true/\(head T).pc≠.ld/\(head T).ct=T.ct/\(head T).ag=T.ag:=by unfold head;split<;>exact⟨rfl,by simp,rfl,rfl⟩
theorem Ig(T:Th):mF (cM T).pc=true/\(cM T).pc≠.ur/\(cM T).ct=T.ct/\(cM T).ag=T.ag:=by unfold cM;split<;>exact⟨rfl,by simp,rfl,rfl⟩
theorem ah8(T:Th)(x:Wd):mF (du T x).pc=true/\(du T x).pc≠.ur/\(du T x).ct=T.ct/\(du T x).ag=T.ag:=by unfold du;split;(·exact⟨rfl,by simp,rfl,rfl⟩);·split;(·exact Ig {T with old:=x});·exact⟨rfl,by simp,rfl,rfl⟩
section
variable{N n:Nat}{T T':Th}{s s':Sh}
theorem aix(h:Mv N n T s T' s')(a:nO T.pc=true)(b:T.pc≠.la):nO T'.pc=true/\T'.pc≠.ld/\T'.ct=T.ct/\T'.ag=T.ag:=by
 cases h;case r0=>exact vz _
 case r1=>exact vz _
 case r3=>exact vz _
 case ls=>exact vz _
 case kg=>split<;>exact⟨rfl,by simp,rfl,rfl⟩
 case jA p h hp' hw h0=>rcases hp' with rfl|rfl<;>exact⟨rfl,by simp,rfl,rfl⟩
 all_goals first|exact⟨rfl,by simp,rfl,rfl⟩|(rename_i h;first|exact absurd h b|(rw[h]at a;cases a))|(rename_i h _;first|exact absurd h b|(rw[h]at a;cases a))
theorem acC(h:Mv N n T s T' s')(a:mF T.pc=true)(b:T.pc≠.ue):mF T'.pc=true/\T'.pc≠.ur/\T'.ct=T.ct/\T'.ag=T.ag:=by
 cases h;case u0=>exact ah8 _ _
 case ux=>exact Ig _
 all_goals first|(rename_i h;rw[h]at a;cases a;done)|(rename_i h _;rw[h]at a;cases a;done)|(rename_i h _ _;rw[h]at a;cases a;done)|(rename_i h _ _ _;rw[h]at a;cases a;done)|exact⟨rfl,by simp,rfl,rfl⟩|(rename_i h;exact absurd h b)
end
section
variable(C:Cx)(q:Ko.Wk)(A:eF)
def ir(T:Th)(O:Nat->Prop)(w:HA)(c:Frame)(cs:Fi):Prop:=(T.ct=false/\T.ag=none/\∃c0,v8 q c0/\c=(Kt.Tl (Ko.tk q c0)).frame/\cs=c0::[Ko.cl q,Ko.bs])\/(T.ct=true/\∃m J rb,T.ag=some m/\m<C.N/\O rb/\gF (bH C q A m J rb) w/\(T.pc=.ld->io C m w)/\c=(Kc.Cl (bH C q A m J rb)).frame/\cs=(bH C q A m J rb).ks)
def mA(T:Th)(c:Frame)(cs:Fi):Prop:=(T.ct=false/\∃c0 n,v8 q c0/\cs=c0::[Ko.cl q,Ko.bs]/\((T.ag=none/\c=Kt.ly {Ko.tk q c0 with n:=n})\/∃m,T.ag=some m/\m<C.N/\c=Kt.lh {Ko.tk q c0 with n:=n} (m+1:Nat)))\/(T.ct=true/\∃m J rb,c=Kc.kR (bH C q A m J rb)/\cs=(bH C q A m J rb).ks)
def mL(T:Th)(y:GC)(O:Nat->Prop)(g:Gq)(w:HA):Prop:=(∀b,O b->C.low<=b)/\Lo C w/\((nO T.pc=true/\∃c cs,ir C q A T O w c cs/\bO C.Cw C.aM.length c cs T g)\/(mF T.pc=true/\(T.pc=.ur->∃x ms,iJ C w x ms (fV y))/\∃c cs,mA C q A T c cs/\dZ C.Cw C.aM.length c cs T g)\/eI ⟨C.Wg,Ko.cz q,[Ko.bs]⟩ T g)
end
section
attribute[local irreducible]fin aL aN Ko.Wg Ko.E7 Ko.W0 Ko.WH Ko.W4 Ko.W5 Ko.W6 Ko.W7 Ko.W8 Ko.cl Ko.cz Ko.kI Ko.mI Ko.jK Ko.nR Ko.tw Kt.Tl Kt.ji Kc.og Kc.Cb Kc.Cl Kl.Ld Kl.kB Ko.Wz Kt.ly Kt.lh Kc.kR
variable{C:Cx}{q:Ko.Wk}{A:eF}{O:Nat->Prop}{own:Bool}{ag:Option Nat}{N n:Nat}{T T':Th}{s:Sh}{g g':Gq}{g0:FV}{w w' w₁:HA}{y:GC}{c:Frame}{cs:Fi}
theorem Lo.dT(h:Lo C w)(e:Eff C w w'):Lo C w':=⟨by rw[e.size];exact h.1,λb h1 c a d=>(e.block b c a).trans (h.2 b h1 c a d)⟩
theorem afg(W:Wh C q A)(d:∀b,O b->C.low<=b){a:Kc.Cn}(c:O a.rb)(h:gF a w)(e:Eff C w w'):gF a w':=by have:=d _ c;obtain⟨l1,g,f⟩:=W.here.low;unfold gF at*;rw[e.block _ HU HU];exact h
theorem ir.dT(W:Wh C q A)(i:∀b,O b->C.low<=b)(h:ir C q A T O w c cs)(e:Eff C w w')(h1:T'.pc≠.ld)(f:T'.ct=T.ct)(d:T'.ag=T.ag):ir C q A T' O w' c cs:=by rcases h with⟨a,b,r⟩|⟨a,m,J,rb,g,j,b3,k,l,r⟩;(·exact .inl ⟨by rw[f];exact a,by rw[d];exact b,r⟩);·refine .inr ⟨by rw[f];exact a,m,J,rb,by rw[d];exact g,j,b3,afg W i (by rw[(nL C q A m J rb).2.2.2.2.1];exact b3) k e,λh=>absurd h h1,r⟩
theorem ir.rl(h:ir C q A T O w c cs)(r:Rl C O own ag w w₁)(e:T.pc=.ld->ag=T.ag):ir C q A T O w₁ c cs:=by rcases h with h|⟨a,m,J,rb,b,f,b3,g,j,k⟩;(·exact .inl h);·refine .inr ⟨a,m,J,rb,b,f,b3,?_,λh i d=>(r.aJ m (by rw[e h,b]) i d).trans (j h i d),k⟩;unfold gF at*;rw[r.mine _ (by rw[(nL C q A m J rb).2.2.2.2.1];exact b3)];exact g
theorem aiA(W:Wh C q A)(f:∀b,O b->C.low<=b)(h:Lo C w')(a:nO T'.pc=true)(g:ir C q A T' O w' c cs)(d:dJ C.Cw C.aM.length c cs g' T'):iI C (mL C q A) T' y O g' w':=by obtain⟨k,h1,j⟩:=d;(have i:T'.pc≠.quit:=by intro e;rw[e]at a;cases a);unfold iI;rw[if_neg i];rw[<-W.here.P]at h1;exact .aR h1 λw₁ r=>.stop λl r2=>⟨f,(h.rl r).rl r2,.inl ⟨a,c,cs,(g.rl r (λ_=>rfl)).rl r2 (λ_=>rfl),j⟩⟩
theorem acu(W:Wh C q A)(f:∀b,O b->C.low<=b)(h:Lo C w')(a:mF T'.pc=true)(g:T'.pc≠.ur)(i:mA C q A T' c cs)(d:nl C.Cw C.aM.length c cs g' T'):iI C (mL C q A) T' y O g' w':=by obtain⟨l,h1,k⟩:=d;(have j:T'.pc≠.quit:=by intro e;rw[e]at a;cases a);unfold iI;rw[if_neg j];rw[<-W.here.P]at h1;exact .aR h1 λw₁ r=>.stop λm r2=>⟨f,(h.rl r).rl r2,.inr (.inl ⟨a,λe=>absurd e g,c,cs,i,k⟩)⟩
theorem mA.same(h:mA C q A T c cs)(b:T'.ct=T.ct)(a:T'.ag=T.ag):mA C q A T' c cs:=by unfold mA at*;rw[b,a];exact h
def ow(C:Cx)(q:Ko.Wk)(A:eF)(T:Th)(y:GC)(O:Nat->Prop)(g:Gq)(w:HA)(s:Sh)(g0:FV)(x:GC):Prop:=∃T' s' g' w' es,Mv C.N x.n T s T' s'/\stepG C.P false g w=.go g' w' es/\ShAt C w' s' g0/\Eff C w w'/\EvStop C T T' es/\(Live C w'->iI C (mL C q A) T' (if T.pc=.la then upd C T x else y) O g' w')
theorem Wa(h:C.Cw≠C.Wg)(b:ShAt C w s g0)(f:dS T s)(i:nO T.pc=true)(h1:T.pc≠.le)(j:T.pc≠.la)(k:¬(T.pc=.s1/\s.ms=0))(d:bO C.Cw C.aM.length c cs T g):Stp C c cs N n T s g g0 w:=by cases a:T.pc with|ld=>exact Wm b a d|l0=>exact afN h b f.ok a d|r0=>exact aah b f.ok a d|sq=>exact aeG b f a d|c1=>exact acW h b f a d|r1=>exact ae8 b f a d|c2=>exact XH h b f a d|t1=>exact ahX b a d|s1=>exact Zj h b a (λe=>k ⟨a,e⟩) d|t2=>exact SH b a d|r2=>exact Rw b f a d|a1=>exact aeT h b f a d|r3=>exact adw b f a d|le=>exact absurd a h1|la=>exact absurd a j|_=>rw[a]at i;cases i
theorem UH(f:C.Cw≠C.Wg)(b:ShAt C w s g0)(e:dS T s)(h:mF T.pc=true)(h1:T.pc≠.ue)(d:dZ C.Cw C.aM.length c cs T g):nT C c cs N n T s g g0 w:=by cases a:T.pc with|ur=>exact abu b a d|ud=>exact LV b a d|u0=>exact ah0 f b e a d|uc=>exact TN f b e a d|ux=>exact L8 b e.ok a d|us=>exact XA f b e.ok a d|ue=>exact absurd a h1|_=>rw[a]at h;cases h
theorem abx(W:Wh C q A)(h:∀b,O b->C.low<=b)(p:Lo C w)(j:ShAt C w s g0)(o:dS T s)(e:nO T.pc=true)(h1:T.pc≠.le)(d:T.pc≠.la)(k:¬(T.pc=.s1/\s.ms=0))(x:GC)(l:ir C q A T O w c cs)(m:bO C.Cw C.aM.length c cs T g):ow C q A T y O g w s g0 x:=by obtain⟨T',s',g',w',es,f,st,sh,a,ev,_,r⟩:=Wa (N:=C.N) (n:=x.n) W.here.ne j o e h1 d k m;obtain⟨m1,t,u,i⟩:=aix f e d;exact⟨T',s',g',w',es,f,by rw[W.here.P];exact st,sh,a,ev,λ_=>aiA W h (p.dT a) m1 (l.dT W h a t u i) r⟩
theorem Xq(W:Wh C q A)(i:∀b,O b->C.low<=b)(l:Lo C w)(m:ShAt C w s g0)(h:dS T s)(d:mF T.pc=true)(h1:T.pc≠.ue)(x:GC)(j:mA C q A T c cs)(k:dZ C.Cw C.aM.length c cs T g):ow C q A T y O g w s g0 x:=by obtain⟨T',s',g',w',es,a,st,sh,e,ev,_,o⟩:=UH (N:=C.N) (n:=x.n) W.here.ne m h d h1 k;obtain⟨m1,p,r,f⟩:=acC a d h1;exact⟨T',s',g',w',es,a,by rw[W.here.P];exact st,sh,e,ev,λ_=>acu W i (l.dT e) m1 p (j.same r f) o⟩
theorem ZZ(W:Wh C q A)(i:∀b,O b->C.low<=b)(p:Lo C w)(r:ShAt C w s g0)(a:T.pc=.le)(x:GC)(l:ir C q A T O w c cs)(o:bO C.Cw C.aM.length c cs T g):ow C q A T y O g w s g0 x:=by obtain⟨E,g2,st,e1,r1,cv,r2,v⟩:=ZU a o;have H:=W.here;refine⟨_,s,_,w,_,.le a,by rw[H.P];exact st w,r,Eff.refl w,cC (by simp[a]) (by simp[a]) (by simp[a]) ?_,λm=>?_⟩;(·(have:aK T=1:=by simp[aK,a]);rw[this];exact o8);·have n:ir C q A {T with pc:=.la} O w c cs:=l.dT W i (Eff.refl w) HY rfl rfl;unfold iI;rw[if_neg HY];rw[<-H.P]at e1;refine .aR e1 λw₁ e=>.step r1 λj d=>?_;obtain⟨⟨B,z,_,t⟩,_⟩:=(e.trans d).live m;refine⟨g2,j,_,O,by rw[H.P];exact cv j _ (iR t) false,Dn.idle _ _ _ _ _,r2,?_⟩;obtain⟨g3,h,u⟩:=v;rw[<-H.P]at h;exact .aR h λF f=>.stop λD k=>⟨i,(((p.rl e).rl d).rl f).rl k,.inl ⟨rfl,c,cs,(((n.rl e HY).rl d HY).rl f HY).rl k HY,u⟩⟩
theorem ah7(W:Wh C q A)(j:∀b,O b->C.low<=b)(k:Lo C w)(d:ShAt C w s g0)(e:dS T s)(x:GC)(c:eI ⟨C.Wg,Ko.cz q,[Ko.bs]⟩ T g):ow C q A T y O g w s g0 x:=by
 have H:=W.here;have m:nh C ⟨C.Wg,Ko.cz q,[Ko.bs]⟩ C.N x.n T s g g0 w:=by have h:=c;unfold eI at h;split at h;(·rename_i a;exact RL rfl d a c);(·rename_i a;exact Tf d a c);(·rename_i a;exact Qh H.ne rfl d e a c);(·rename_i a;exact aaC rfl d e a c);(·rename_i a;exact PD H.ne rfl d a c);(·rename_i a;exact Sr H.ne rfl d e.ok a c);·exact h.elim
 obtain⟨T',s',g',w',es,l,st,sh,i,ev,n⟩:=m;refine⟨T',s',g',w',es,l,by rw[H.P];exact st,sh,i,ev,λ_=>?_⟩;unfold iI;rcases n with⟨f,t,h1,p⟩|⟨f,o⟩;·rw[if_neg f];rw[<-H.P]at h1;exact .aR h1 λw₁ r=>.stop λu r2=>⟨j,((k.dT i).rl r).rl r2,.inr (.inr p)⟩
 ·rw[if_pos f,H.P];exact W.qb _ o
end
theorem adh(t:Kt.Tk)(y:Int):Kt.Tl {t with n:=y}=Kt.Tl t:=HW
theorem aeY{T:Th}(h1:T.ct=false)(a:T.ag=none):next T={pc:=.wr}:=by simp[next,h1,a]
theorem Z'{T:Th}{m:Nat}(h1:T.ct=false)(a:T.ag=some m):next T={pc:=.ld,ct:=true,ag:=some m}:=by simp[next,h1,a]
theorem ajB{T:Th}(h1:T.ct=true):next T={pc:=.ld}:=by simp[next,h1]
section
attribute[local irreducible]fin aL aN Ko.Wg Ko.E7 Ko.W0 Ko.WH Ko.W4 Ko.W5 Ko.W6 Ko.W7 Ko.W8 Ko.cl Ko.cz Ko.kI Ko.mI Ko.jK Ko.nR Ko.tw Kt.Tl Kt.ji Kc.og Kc.Cb Kc.Cl Kl.Ld Kl.kB Ko.Wz Kt.ly Kt.lh Kc.kR Kl.Ur
variable{C:Cx}{q:Ko.Wk}{A:eF}{O:Nat->Prop}{N n:Nat}{T T':Th}{s:Sh}{g g':Gq}{g0:FV}{w w' w₁:HA}{y x:GC}{c:Frame}{cs:Fi}
theorem UM(W:Wh C q A)(j:∀b,O b->C.low<=b)(u:Lo C w)(k:ShAt C w s g0)(d:T.pc=.la)(E:g0=fV x)(P:x.n<=C.N)(Q:∀i,-1152921504606846976<=x.c i/\x.c i<=1152921504606846976)(S:ir C q A T O w c cs)(N:bO C.Cw C.aM.length c cs T g):ow C q A T y O g w s g0 x:=by
 have H:=W.here;obtain⟨st,e1⟩:=WW d N;rw[<-H.P]at e1;have t:∀T',EvStop C T T' #[mk (.acquire (muA C))]:=λT'=>by unfold EvStop;rw[d]
 rcases S with⟨a1,a2,c0,a3,rfl,rfl⟩|⟨a1,m,J,rb,L,R,b3,U,Y,rfl,rfl⟩;·refine⟨_,s,_,w,_,.qp d a1,by rw[H.P];exact st w,k,Eff.refl w,t _,λ_=>?_⟩;unfold iI;rw[if_neg HY,if_pos d];show av C false true false (if x.n<C.N then some x.n else none) none _ O _ w;refine .aR e1 λw₁ o=>?_;have hold:bg C (Lo C) x w:=⟨⟨s.word,s.ms,E▸k.1⟩,u⟩;(have M:C.aM[2]?=some (.slice q.ra q.N q.rc):=by rw[W.aM];rfl);rw[<-adh (Ko.tk q c0) x.n];refine WN H pf (q:={Ko.tk q c0 with n:=x.n}) W.b M W.N rfl P (hold.rl pf o) (λl D z h=>?_) λl D z h=>?_;(·refine .stop λr e=>?_;have a:=h.rl pf e;(have f:upd C T x=x:=by unfold upd;rw[a1,if_neg HY,if_neg HU]);refine⟨j,a.2,.inr (.inl ⟨rfl,λ_=>by rw[f];exact a.1,_,_,.inl ⟨a1,c0,x.n,a3,rfl,.inl ⟨by show(if x.n<C.N then some x.n else none)=none;rw[if_neg HU],rfl⟩⟩,_,⟨W.b,H.len.symm,rfl,rfl⟩,rfl⟩)⟩);·refine .stop λr e=>?_;have a:=h.rl pf e;(have f:upd C T x={x with n:=x.n+1}:=by unfold upd;rw[a1,if_neg HY,if_pos l]);refine⟨j,a.2,.inr (.inl ⟨rfl,λ_=>by rw[f];exact a.1,_,_,.inl ⟨a1,c0,x.n,a3,rfl,.inr ⟨x.n,by show(if x.n<C.N then some x.n else none)=some x.n;rw[if_pos l],l,rfl⟩⟩,_,⟨W.b,H.len.symm,rfl,rfl⟩,rfl⟩)⟩
 ·refine⟨_,s,_,w,_,.sr d a1,by rw[H.P];exact st w,k,Eff.refl w,t _,λ_=>?_⟩;unfold iI;rw[if_neg HY,if_pos d];show av C false true false T.ag none _ O _ w;refine .aR e1 λw₁ o=>?_;obtain⟨r1,r2,r3,p,G,Z,X⟩:=nL C q A m J rb;obtain⟨d1,d2,d3,d4⟩:=W.aJ m;(have F:(bH C q A m J rb).rb≠C.Cw:=by have:=j _ b3;have:=H.low.1;rw[G];omega);(have I:O (bH C q A m J rb).rb:=by rw[G];exact b3);have K:Kp C O T.ag (pw (bH C q A m J rb) (Lo C)):=KL I F pf;have hold:bg C (pw (bH C q A m J rb) (Lo C)) x w:=⟨⟨s.word,s.ms,E▸k.1⟩,U,u⟩;have V:=W.sz m;(have f:upd C T x=dM (cJ x (bH C q A m J rb).v) (bH C q A m J rb).s.data.toList:=by unfold upd;rw[if_pos a1,L,r3,p];exact W.bf m x R);refine aif H (B:=1152921504606846976) pf (by rw[r1];exact W.b) I F (by rw[r2,r3];simpa using d3) (by rw[r2,p];simpa using d4) (by rw[p];omega) (hold.rl K o) Q HU λD z h=>?_;refine .stop λr e=>?_;have a:=h.rl K e;exact⟨j,a.2.2,.inr (.inl ⟨rfl,λ_=>by rw[f];exact a.1,_,_,.inr ⟨a1,m,J,rb,rfl,rfl⟩,_,⟨by show(bH C q A m J rb).b=_;rw[r1];exact W.b,H.len.symm,rfl,rfl⟩,rfl⟩)⟩
theorem LJ(W:Wh C q A)(j:∀b,O b->C.low<=b)(p:Lo C w)(B:ShAt C w s g0)(a:T.pc=.ue)(x:GC)(D:mA C q A T c cs)(v:dZ C.Cw C.aM.length c cs T g):ow C q A T y O g w s g0 x:=by have H:=W.here;obtain⟨st,e1⟩:=Yh a v;refine⟨_,s,_,w,_,.ue a,by rw[H.P];exact st w,B,Eff.refl w,cC (by simp[a]) (by simp[a]) (by simp[a]) ?_,λz=>?_⟩;(·(have h1:aK T=1:=by simp[aK,a]);(have G:aK (next T)=0:=by unfold next;split<;>(try split)<;>rfl);rw[h1,G];exact o8);·have o:Bw C w:=⟨z,p⟩;unfold iI;rcases D with⟨a1,c0,k,a3,rfl,⟨a4,rfl⟩|⟨m,a4,a5,rfl⟩⟩|⟨a1,m,J,rb,rfl,rfl⟩;(·rw[aeY a1 a4,if_neg HY];show av C false false false none none _ O _ w;(have e2:aa prog (R {Kt.ly {Ko.tk q c0 with n:=k}with mode:=.returning} (c0::[Ko.cl q,Ko.bs])) (R (c0.finish (.tuple #[.int .i64 0,.bool false])) [Ko.cl q,Ko.bs]):=by have:=Kt.N6 {Ko.tk q c0 with n:=k};rw[show(R (c0.finish (.tuple #[.int .i64 0,.bool false])) [Ko.cl q,Ko.bs])=_ from this.symm];exact bc _ _ _);obtain⟨J,d⟩:=a3 0 false;have e:=e1.trans (e2.trans d);rw[<-H.P]at e;refine .aR e λw₁ f=>To W J (o.rl f) λr h=>.stop λK i=>⟨j,(h.rl i).2,.inr (.inr rfl)⟩);(·rw[Z' a1 a4,if_neg HY];show av C false false false (some m) (some m) _ O _ w;(have E:IntKind.i64.wrap (((m+1:Nat):Int)-1)=(m:Nat):=by have Q:=H.be;unfold IntKind.wrap;simp[IntKind.signed,IntKind.bits];omega);(have e2:aa prog (R {Kt.lh {Ko.tk q c0 with n:=k} (m+1:Nat)with mode:=.returning} (c0::[Ko.cl q,Ko.bs])) (R (c0.finish (.tuple #[.int .i64 (m:Nat),.bool true])) [Ko.cl q,Ko.bs]):=by have:=Kt.ahO {Ko.tk q c0 with n:=k} (m+1:Nat);rw[E]at this;rw[show(R (c0.finish (.tuple #[.int .i64 (m:Nat),.bool true])) [Ko.cl q,Ko.bs])=_ from this.symm];exact bc _ _ _);obtain⟨J,d⟩:=a3 (m:Nat) true;have e:=e1.trans (e2.trans d);rw[<-H.P]at e;refine .aR e λw₁ f=>ad4 W a5 J j (o.rl f) λN rb r I t h F=>.stop λK i=>?_;have u:=h.rl i;refine⟨I,u.1.2,.inl ⟨rfl,_,_,.inr ⟨rfl,m,J,rb,rfl,a5,t,?_,λ_=>u.2,rfl,rfl⟩,?_⟩⟩;(·unfold gF at*;rw[i.mine _ (by rw[(nL C q A m J rb).2.2.2.2.1];exact t)];exact F);·show _=Ld (q0 C.Cw C.aM.length _ _);rw[W.b,H.len]);·rw[ajB a1,if_neg HY];show av C false false false none none _ O _ w;obtain⟨r1,r2,r3,S,P,L,M⟩:=nL C q A m J rb;(have e2:aa prog (R {Kc.kR (bH C q A m J rb)with mode:=.returning} (bH C q A m J rb).ks) (R ((Ko.W7 (qm C q A m J)).frame.finish (.tuple #[])) [Ko.cl q,Ko.bs]):=by have:=Kc.Xt (bH C q A m J rb);rw[L,M]at this;rw[<-this];exact bc _ _ _);(have d:aa prog (R ((Ko.W7 (qm C q A m J)).frame.finish (.tuple #[])) [Ko.cl q,Ko.bs]) (Ko.W8 (qm C q A m J)):=by rw[<-Ap C q A m J];unfold Ko.W8 Ko.tw;exact ap _ _ _ _ _);have l:=ef (Ko.adX (qm C q A m J));rw[Px]at l;have e:=e1.trans (e2.trans (d.trans (l.trans (Gr q _))));rw[<-H.P]at e;refine .aR e λw₁ f=>.stop λr h=>⟨j,(p.rl f).rl h,.inl ⟨rfl,_,_,.inl ⟨rfl,rfl,_,adz C q A m J,rfl,rfl⟩,?_⟩⟩;show _=Ld (q0 C.Cw C.aM.length _ _);rw[W.b,H.len]
theorem YH(W:Wh C q A)(h:mL C q A T y O g w):jl C (mL C q A) T y O g w:=by
 have H:=W.here;obtain⟨j,k,h⟩:=h;rcases h with⟨b,c,cs,i,a⟩|⟨b,r,c,cs,i,a⟩|a;·refine⟨(Iv a).1,(Iv a).2,?_,?_,?_,?_,?_⟩;(·rintro(e|e)<;>rw[e]at b<;>cases b);(·intro e1 e2 m p;rcases i with⟨a1,_⟩|⟨_,m',J,rb,u,_,_,_,t,_⟩;(·rw[a1]at e2;cases e2);·rw[u]at p;cases p;exact t e1);(·intro e;rw[e]at b;cases b);(·intro s g0 d e1 e2;rw[H.P];exact ah5 d e1 e2 a);·intro s g0 d l n x o;by_cases h1:T.pc=.le;(·exact ZZ W j k d h1 x i a);·by_cases h2:T.pc=.la;(·obtain⟨v,x2,x3⟩:=o h2;exact UM W j k d h2 v x2 x3 i a);·exact abx W j k d l b h1 h2 n x i a
 ·refine⟨(Jj a).1,(Jj a).2,?_,?_,r,?_,?_⟩;(·rintro(e|e);(·rw[H.P];exact ajO a e);·rw[e]at b;cases b);(·intro e;rw[e]at b;cases b);(·intro s g0 d e;rw[e]at b;cases b);·intro s g0 d l n x o;by_cases h1:T.pc=.ue;(·exact LJ W j k d h1 x i a);·exact Xq W j k d l b h1 x i a
 ·(have f:T.pc=.wr\/T.pc=.wd\/T.pc=.d1\/T.pc=.d2\/T.pc=.d3\/T.pc=.d4:=by unfold eI at a;split at a<;>simp_all);refine⟨(Dp a).1,(Dp a).2,?_,?_,?_,?_,?_⟩;(·rintro(e|e);(·rw[e]at f;simp at f);·rw[H.P];exact aiL a e);(·intro e;rw[e]at f;simp at f);(·intro e;rw[e]at f;simp at f);(·intro s g0 d e;rw[e]at f;simp at f);·intro s g0 d l n x o;exact ah7 W j k d l x a
end
end Ph
namespace Km
open Conc Kw Kl Ph
theorem ai3(q:Km):th 20 (fin (kQ q) (.tuple #[]))=q.bk:=HW
theorem air(q:Km)(x y:Int):th 10 (fin (kZ q x y) (.tuple #[]))=q.bk:=HW
theorem SQ(q:Al):au (tl 30 60 (fE (Lg q)).1) 7=q.J 7:=HW
theorem ON:cN prog 129 (Extern.Race.marked .read) false:=⟨(prog.funcs[129]?).getD default,HW,HW,HW,HW,HW,HW⟩
theorem Xv:cN prog 139 (Extern.Race.marked .write) false:=⟨(prog.funcs[139]?).getD default,HW,HW,HW,HW,HW,HW⟩
theorem Lb:cN prog 140 Extern.Sync.semacquire true:=⟨(prog.funcs[140]?).getD default,HW,HW,HW,HW,HW,HW⟩
theorem KI:cN prog 177 (Extern.Atomic.casT (.int .u64)) true:=⟨(prog.funcs[177]?).getD default,HW,HW,HW,HW,HW,HW⟩
theorem Jd:prog.underlying 195=some (.pointer 132):=HW
theorem JN:(prog.info? 132).map (λi=>decide (i.size=0))=some false:=HW
theorem Sp{ad:Addr}(h:semAt g=some (do pure (.value (<-convert 195 189 (.pointer (some ad))))))(a:w.cell? ad=some v)(m:Bool):stepG prog m g w=.go (fin g (.pointer (some ad))) w #[]:=by have c:=run_convert_to_unsafe (P:=prog) Jd pE JN a;have b:=events_convert_to_unsafe (P:=prog) Jd pE JN a #[];rw[jZ (v:=.pointer (some ad)) (w':=w) h (by simp[c])];simp[b,seen_none]
section
variable{a:Nat}(ha:a<=61)
include ha
theorem aa1:IntKind.u64.wrap (Kd.gw a 0+4294967296)=Kd.gw (a+1) 0:=by have:=Kd.lL (p:=λa b=>b==1||IntKind.u64.wrap (Kd.gw a 0+4294967296)==Kd.gw (a+1) 0) HW (a:=a) (b:=0) HU HU;simpa using this
theorem PK:IntKind.u64.wrap (Kd.gw a 0+1)=Kd.gw a 1:=by have:=Kd.lL (p:=λa b=>b==1||IntKind.u64.wrap (Kd.gw a 0+1)==Kd.gw a 1) HW (a:=a) (b:=0) HU HU;simpa using this
end
theorem WY{b c d:Nat}(f:b<=1)(e:d<=1)(h:Kd.gw a b=Kd.gw c d):a=c/\b=d:=by unfold Kd.gw at h;omega
end Km
namespace Ph
open Conc Kw Kl Km
def gL(C:Cx)(g g':Gq):Prop:=∃n,jC C n g g'
theorem gL.trans{C:Cx}{a c:Gq}(h:gL C a b)(k:gL C b c):gL C a c:=let⟨_,x⟩:=h;let⟨_,y⟩:=k;⟨_,x.trans y⟩
theorem gL.of{C:Cx}(H:bQ C){a:Gq}(h:aa prog a b):gL C a b:=by obtain⟨n,x⟩:=h;rw[<-H.P]at x;exact⟨n,jC.of x⟩
theorem fu{C:Cx}{MAt:Mt->Gq->HA->Prop}{M:Mt}{a:Gq}(h:gL C g a)(k:∀b,Rl C iq false none w b->MAt M a b):∃n,ia C MAt M n g w:=let⟨n,x⟩:=h;⟨n,a,x,k⟩
section
attribute[local irreducible]fin aL aN th ta tb Km.tl lb fE Md Ma mO mb Km.fR lJ iZ Km.Mv Mr iO mJ lX ij pa K0 WL W1 kw mT kQ lZ lI lC lN W2 Wc Ww mw W3 W4 lf Km.fU kZ LH L6 Km.Lg L9 oQ
theorem bm(fn d n:Nat)(g:Gq):aa prog g (aL prog fn d n g):=ap _ _ _ _ _
theorem E2(q:Km.Km)(j:a<=62):aa prog (fin (Ma q) (.int .u64 (Kd.gw a 0))) (iZ q (Kd.gw a 0) a):=by
 have e1:aa prog (fin (Ma q) (.int .u64 (Kd.gw a 0))) (mO q (Kd.gw a 0)):=by unfold mO ta;exact bm _ _ _ _
 have e2:=cZ (afG q (Kd.gw a 0)) (Kd.ov (Kd.yD (a:=a) (b:=0) HU HU));have e:aa prog (fin (mO q (Kd.gw a 0)) (.int .u64 0)) (mb q (Kd.gw a 0)):=by unfold mb ta;exact bm _ _ _ _
 have f:=cZ (abD q (Kd.gw a 0)) (Kd.zg (Kd.yH (a:=a) (b:=0) HU HU));have h:aa prog (fin (mb q (Kd.gw a 0)) (.int .u64 a)) (Km.fR q (Kd.gw a 0) a):=by unfold Km.fR ta;exact bm _ _ _ _
 have c:=cZ (Km.Bb q (Kd.gw a 0) a) (Kd.xk a);rw[Kd.Bj (a:=a) (b:=0) HU HU]at c;have g:aa prog (fin (Km.fR q (Kd.gw a 0) a) (.int .i32 a)) (lJ q (Kd.gw a 0) a):=by unfold lJ ta;exact bm _ _ _ _
 have i:=cZ (PX q (Kd.gw a 0) a) (Kd.ov (Kd.zC (a:=a) (b:=0) HU HU));have d:aa prog (fin (lJ q (Kd.gw a 0) a) (.int .u64 (0:Nat))) (iZ q (Kd.gw a 0) a):=by unfold iZ ta;exact bm _ _ _ _
 exact e1.trans (e2.trans (e.trans (f.trans (h.trans (c.trans (g.trans (i.trans d)))))))
theorem XT(q:Km.Km):aa prog (fin (Ma q) (.int .u64 (Kd.gw 1 0))) (Km.Mv q (Kd.gw 1 0)):=by have e:=E2 q (a:=1) HU;have e1:=cZ (Hn q (Kd.gw 1 0) 1) (cS .i32 (r:=true) rfl);(have e2:aa prog (fin (iZ q (Kd.gw 1 0) 1) (.bool true)) (Km.Mv q (Kd.gw 1 0)):=by unfold Km.Mv ta;exact bm _ _ _ _);exact e.trans (e1.trans e2)
theorem Oz(q:Km.Km)(c:a<=62)(h:2<=a):aa prog (fin (Ma q) (.int .u64 (Kd.gw a 0))) (ij q (Kd.gw a 0) a):=by
 have e:=E2 q c;have e1:=cZ (Hn q (Kd.gw a 0) a) (cS .i32 (r:=false) (by simp;omega));have e2:aa prog (fin (iZ q (Kd.gw a 0) a) (.bool false)) (mJ q (Kd.gw a 0) a):=by unfold mJ ta;exact bm _ _ _ _
 have f:=cZ (NM q (Kd.gw a 0) a) (Kd.Fp .i32 (r:=false) HY);have d:aa prog (fin (mJ q (Kd.gw a 0) a) (.bool false)) (lX q (Kd.gw a 0) a):=by unfold lX ta;exact bm _ _ _ _
 have g:=cZ (PO q (Kd.gw a 0) a) (oM .i32 (r:=true) (by simp;omega));have b:aa prog (fin (lX q (Kd.gw a 0) a) (.bool true)) (ij q (Kd.gw a 0) a):=by unfold ij th;exact bc _ _ _
 exact e.trans (e1.trans (e2.trans (f.trans (d.trans (g.trans b)))))
theorem XI(q:Km.Km)(j:a<=62)(h0:a≠0):aa prog (fin (W1 q) (.int .u64 (Kd.gw a 0))) (W2 q (Kd.gw a 0) a):=by
 have e1:aa prog (fin (W1 q) (.int .u64 (Kd.gw a 0))) (lZ q (Kd.gw a 0)):=by unfold lZ tb;exact bm _ _ _ _
 have e2:=cZ (ahc q (Kd.gw a 0)) (Kd.zg (Kd.yH (a:=a) (b:=0) HU HU));have e:aa prog (fin (lZ q (Kd.gw a 0)) (.int .u64 a)) (lI q (Kd.gw a 0) a):=by unfold lI tb;exact bm _ _ _ _
 have c:=cZ (afQ q (Kd.gw a 0) a) (Kd.xk a);rw[Kd.Bj (a:=a) (b:=0) HU HU]at c;have f:aa prog (fin (lI q (Kd.gw a 0) a) (.int .i32 a)) (lC q (Kd.gw a 0) a):=by unfold lC tb;exact bm _ _ _ _
 have h:=cZ (ais q (Kd.gw a 0) a) (Kd.ov (Kd.zC (a:=a) (b:=0) HU HU));have g:aa prog (fin (lC q (Kd.gw a 0) a) (.int .u64 (0:Nat))) (lN q (Kd.gw a 0) a):=by unfold lN tb;exact bm _ _ _ _
 have i:=cZ (ajD q (Kd.gw a 0) a) (cS .i32 (r:=false) (by simp;omega));have d:aa prog (fin (lN q (Kd.gw a 0) a) (.bool false)) (W2 q (Kd.gw a 0) a):=by unfold W2 th;exact bc _ _ _
 exact e1.trans (e2.trans (e.trans (c.trans (f.trans (h.trans (g.trans (i.trans d)))))))
theorem UA(q:Km.Km):aa prog (fin (W1 q) (.int .u64 (Kd.gw 0 0))) (kw q):=by unfold kw tb;exact bm _ _ _ _
theorem ag5(q:Km.Km)(d:a<=62)(y:Int):aa prog (fin (Ww q (Kd.gw a 0) y) (.tuple #[])) (W3 q (Kd.gw a 0) y):=by
 have e1:aa prog (fin (Ww q (Kd.gw a 0) y) (.tuple #[])) (mw q (Kd.gw a 0) y):=by unfold mw tb;exact bm _ _ _ _
 have e2:=cZ (Sz q (Kd.gw a 0) y) (Kd.ov (Kd.yD (a:=a) (b:=0) HU HU));have c:aa prog (fin (mw q (Kd.gw a 0) y) (.int .u64 0)) (W3 q (Kd.gw a 0) y):=by unfold W3 th;exact bc _ _ _
 exact e1.trans (e2.trans c)
variable{C:Cx}
theorem BO(H:bQ C)(h:semAt g=some (do pure (.value (<-convert 195 189 (.pointer (some (eG C))))))):gL C g (fin g (.pointer (some (eG C)))):=by have a:=(aW h).1;refine⟨1,_,⟨a,by unfold fin;exact a,λm w c=>?_⟩,rfl⟩;obtain⟨⟨s,d,_,b⟩,_⟩:=c;rw[H.P];exact Sp h (wQ b) m
theorem Dy(H:bQ C)(h:semAt g=some (do pure (.value (<-convert 187 189 (.pointer (some (dC C))))))):gL C g (fin g (.pointer (some (dC C)))):=by have a:=(aW h).1;refine⟨1,_,⟨a,by unfold fin;exact a,λm w c=>?_⟩,rfl⟩;obtain⟨⟨s,d,_,b⟩,_⟩:=c;rw[H.P];exact IR h (kV b) m
def al(C:Cx)(cb:Nat)(cs:Fi)(i:Nat)(J:Nat->HH):Al:={wg:=C.Wg,cb:=cb,n:=C.n,i:=i,J:=J,cs:=cs}
def MA(C:Cx)(cb:Nat)(cs:Fi)(v7:HH)(M:Mt)(g:Gq)(w:HA):Prop:=Lo C w/\∃J,J 7=v7/\match M.pc with|.md=>M.i<C.n/\g=Md (ad (al C cb cs M.i J))|.ma=>M.i<C.n/\g=Ma (ad (al C cb cs M.i J))|.mr=>M.i<C.n/\g=Mr (ad (al C cb cs M.i J)) (Kd.gw 1 0)|.me=>M.i<C.n/\(g=iO (ad (al C cb cs M.i J)) (Kd.gw 1 0)\/∃x y,g=ij (ad (al C cb cs M.i J)) x y)|.mg=>M.i<C.n/\g=Km.Lg (al C cb cs M.i J)|.kd=>g=K0 (aX (al C cb cs C.n J))|.w1=>∃b,g=W1 {aX (al C cb cs C.n J)with J:=b}|.w2=>∃b,g=W2 {aX (al C cb cs C.n J)with J:=b} (Kd.gw M.cnt 0) M.cnt|.ww=>∃b a,a<=60/\g=Ww {aX (al C cb cs C.n J)with J:=b} (Kd.gw a 0) a|.w3=>∃b x y,g=W3 {aX (al C cb cs C.n J)with J:=b} x y|.w4=>∃b x y,g=W4 {aX (al C cb cs C.n J)with J:=b} x y|.ke=>∃b,g=kw {aX (al C cb cs C.n J)with J:=b}\/∃x y,g=lf {aX (al C cb cs C.n J)with J:=b} x y|.aq=>∃b,g=kQ {aX (al C cb cs C.n J)with J:=b}\/∃x y,g=kZ {aX (al C cb cs C.n J)with J:=b} x y
def Fb(C:Cx)(cb:Nat)(cs:Fi)(v7:HH)(g:Gq):Prop:=∃J,J 7=v7/\aa prog g (aX (al C cb cs C.n J)).bk
end
end Ph
namespace Ph
open Conc ConcN Kw Kl Km Co
theorem oO{t:TypeId}{i:TypeInfo}{z:DS}(b:P.info? t=some i)(a:i.zero=some (.agg z))(w:HA):(do pure (.value (<-Instr.alloc t true (.tuple #[]))):Sem Next).run P w=.ok (.value (.pointer (some ⟨w.heap.size,0,none⟩))) {w with heap:=w.heap.push (.cells z t (0,0))}/\(do pure (.value (<-Instr.alloc t true (.tuple #[]))):Sem Next).events P w #[]=#[]:=by
 have h0:(typeInfo t).run P w=.ok i w:=by show((Sem.program Sem.pure).bind _).run P w=_;simp only[Sem.bind,Sem.run];rw[b];rfl
 have h1:(zeroValue t).run P w=.ok (.agg z) w:=by show((typeInfo t).bind _).run P w=_;rw[Co.run_bind,h0];simp only[a];rfl
 constructor;·simp only[Instr.alloc,Sem.run_bind,h1,Result.andThen_ok,newVar];rfl
 ·simp[Instr.alloc,Sem.events_bind,h1,newVar];rfl
theorem i39:((prog.info? 39).map (·.zero))=some (some (.agg #[.int .i64 0,.int .i64 0,.int .i64 0,.int .i64 0,.int .i64 0,.int .i64 0,.int .i64 0,.int .i64 0,.int .i64 0,.int .i64 0,.int .i64 0])):=HW
theorem i145:((prog.info? 145).map (·.zero))=some (some (.agg #[.int .u64 0,.int .u32 0])):=HW
section
attribute[local irreducible]fin aL aN th Km.tl E0 B0 B1 B2
theorem acs{Sh:Loc->Prop}{Fin:Fo->HA->CL->Trace->Prop}{gs:Fo}{sl:CL}{t:Trace}{a b:HH}{x y:Int}{cs:Fi}(z:dB prog Sh gs w t (E0 a b (.agg #[.int .i64 x,.int .i64 y]) cs))(k:∀f w' B l,f.size=gs.size->w'.heap=(w.heap.push (.cells #[.int .i64 x,.int .i64 y] 45 (0,0))).push (.cells #[.int .i64 0,.int .i64 0,.int .i64 0,.int .i64 0,.int .i64 0,.int .i64 0,.int .i64 0,.int .i64 0,.int .i64 0,.int .i64 0,.int .i64 0] 39 (0,0))->w'.tape=w.tape/\w'.output=w.output/\w'.os=w.os->dB prog Sh f w' l (B2 a b (.agg #[.int .i64 x,.int .i64 y]) (.pointer (some ⟨w.heap.size,0,none⟩)) (.pointer (some ⟨w.heap.size+1,0,none⟩)) cs)->Co.Comes prog Fin f w' B l):Co.Comes prog Fin gs w sl t:=by
 obtain⟨i,n,g⟩:∃i,prog.info? 39=some i/\i.zero=some (.agg #[.int .i64 0,.int .i64 0,.int .i64 0,.int .i64 0,.int .i64 0,.int .i64 0,.int .i64 0,.int .i64 0,.int .i64 0,.int .i64 0,.int .i64 0]):=by have h:=i39;cases j:prog.info? 39 with|none=>rw[j]at h;cases h|some i=>rw[j]at h;exact⟨i,rfl,Option.some.inj h⟩
 have F:aa prog (E0 a b (.agg #[.int .i64 x,.int .i64 y]) cs) (B0 a b (.agg #[.int .i64 x,.int .i64 y]) cs):=by unfold B0 Km.tl;exact bm _ _ _ _
 refine z.aR F λgs1 w1 sl1 t1 H s1 K=>?_;refine K.one (aW (DH a b _ cs)).1 λw2 d=>⟨_,_,_,jZ (DH a b _ cs) (oA w2 45 _).1 true,?_,?_,λS T L u v=>?_⟩;·rw[(oA w2 45 _).2,Co.IV];simp
 ·simp
 have e1:aa prog (fin (B0 a b (.agg #[.int .i64 x,.int .i64 y]) cs) (.pointer (some ⟨w2.heap.size,0,none⟩))) (B1 a b (.agg #[.int .i64 x,.int .i64 y]) cs (.pointer (some ⟨w2.heap.size,0,none⟩))):=by unfold B1 Km.tl;exact bm _ _ _ _
 refine v.aR e1 λP w4 Q R A e C=>?_;refine C.one (aW (wS a b _ cs _)).1 λc s5=>⟨_,_,_,jZ (wS a b _ cs _) (oO n g c).1 true,?_,?_,λM N O D s=>?_⟩;·rw[(oO n g c).2,Co.IV];simp
 ·simp
 have e2:aa prog (fin (B1 a b (.agg #[.int .i64 x,.int .i64 y]) cs (.pointer (some ⟨w2.heap.size,0,none⟩))) (.pointer (some ⟨c.heap.size,0,none⟩))) (B2 a b (.agg #[.int .i64 x,.int .i64 y]) (.pointer (some ⟨w2.heap.size,0,none⟩)) (.pointer (some ⟨c.heap.size,0,none⟩)) cs):=by rw[<-TE];unfold th;exact bc _ _ _
 refine s.aR e2 λG o E J I s7 m=>?_;have p:w2.heap=w.heap:=d.1.trans s1.1;have q:c.heap=w.heap.push (.cells #[.int .i64 x,.int .i64 y] 45 (0,0)):=(s5.1.trans e.1).trans (by show w2.heap.push _=_;rw[p]);have r:o.heap=(w.heap.push (.cells #[.int .i64 x,.int .i64 y] 45 (0,0))).push (.cells #[.int .i64 0,.int .i64 0,.int .i64 0,.int .i64 0,.int .i64 0,.int .i64 0,.int .i64 0,.int .i64 0,.int .i64 0,.int .i64 0,.int .i64 0] 39 (0,0)):=s7.1.trans (by show c.heap.push _=_;rw[q]);rw[p,q,Array.size_push]at m;exact k G o E J (I.trans (D.trans (A.trans (u.trans H)))) r ⟨s7.2.1.trans (s5.2.1.trans (e.2.1.trans (d.2.1.trans s1.2.1))),s7.2.2.1.trans (s5.2.2.1.trans (e.2.2.1.trans (d.2.2.1.trans s1.2.2.1))),s7.2.2.2.trans (s5.2.2.2.trans (e.2.2.2.trans (d.2.2.2.trans s1.2.2.2)))⟩ m
end
section
variable{D:Array Bool}{i j:Nat}
theorem ml(h:i<D.size):(D.setIfInBounds i true).getD i false=true:=by rw[Array.getD_eq_getD_getElem?,Array.getElem?_setIfInBounds_self_of_lt h];rfl
theorem cP(h:j≠i):(D.setIfInBounds i true).getD j false=D.getD j false:=by rw[Array.getD_eq_getD_getElem?,Array.getD_eq_getD_getElem?,Array.getElem?_setIfInBounds_ne (Ne.symm h)]
theorem xC{ops:Array Oper}{o:Oper}{rest:List Nat}(f:da g=some ops)(c:g.frame.kind=.normal)(d:sound ops=true)(b:ops[i]?=some o)(h:D.size=ops.size)(h0:D.getD i false=false)(j:∀e∈o.after,Region.binds .any e=true->D.getD e.on false=true)(a:(xo g ops (aY V i v) i).map (calm? P)=some (some (.value v))):aa P (stA g ops V D (i::rest)) (stA g ops (aY V i v) (D.setIfInBounds i true) rest):=by have:=sI (P:=P) (V:=aY V i v) (rest:=rest) f (by rw[c];simp) d b h j (by unfold xo at a;rw[b]at a;simp only[Option.map_some,Option.some.injEq]at a;rw[a];unfold aY;rw[if_pos rfl]);rw[Eg h0]at this;exact this
end
def ko(N:Nat):DS:=madeCells (Value.agg #[.string ⟨#[]⟩,.int .i64 0,.int .i64 0,.string ⟨#[]⟩,.int .i64 0,.int .i64 0,.string ⟨#[]⟩,.string ⟨#[]⟩]).cells (N*8)
abbrev bi(N g:Nat):HH:=.slice (some ⟨g,0,none⟩) N N
abbrev cg(g:Nat):HH:=.pointer (some ⟨g,0,none⟩)
def F2(q:Tw)(bd:Int)(S:Nat)(i:Nat)(V:Nat->HH)(w:HA):Prop:=match i with|0=>V 0=q.a|1=>V 1=q.px|2=>V 2=q.b|3=>V 3=q.p5|4=>V 4=.int .i64 bd|5=>V 5=q.b|6=>V 6=.int .i64 q.N|7=>∃g,V 7=bi q.N g/\S<=g/\w.heap[g]?=some (.cells (ko q.N) 52 (0,0))|8=>∃g,V 7=bi q.N g/\V 8=.agg (fL q bd g)|9=>∃g cw,V 7=bi q.N g/\V 9=cg cw/\S<=cw/\g≠cw/\w.heap[cw]?=some (.cells (fL q bd g) 138 (0,0))|10=>∃cb,V 10=cg cb/\S<=cb|_=>True
structure I2(q:Tw)(bd:Int)(w0:HA)(D:Array Bool)(V:Nat->HH)(U:Loc->Prop)(w:HA):Prop where
 ext:aP w0 w
 f:∀i,D.getD i false=true->F2 q bd w0.heap.size i V w
 c8:D.getD 8 false=true->D.getD 7 false=true
 c9:D.getD 9 false=true->D.getD 7 false=true
 tH:D.getD 11 false=true->D.getD 9 false=true
 tA:D.getD 11 false=true->D.getD 10 false=true
 cb:D.getD 10 false=true->∀cb,V 10=cg cb->w.heap[cb]?=some (.cells #[if D.getD 11 false=true then V 9 else .pointer none] 129 (0,0))
 n7:D.getD 7 false=true->D.getD 10 false=true->∀g cb,V 7=bi q.N g->V 10=cg cb->g≠cb
 n9:D.getD 9 false=true->D.getD 10 false=true->∀cw cb,V 9=cg cw->V 10=cg cb->cw≠cb
 u1:∀a,U (.cell a)->(D.getD 7 false=true/\V 7=bi q.N a.block)\/(D.getD 9 false=true/\V 9=cg a.block)
 u7:D.getD 7 false=true->∀g,V 7=bi q.N g->∀a:Addr,a.block=g->U (.cell a)
 u9:D.getD 9 false=true->∀g,V 9=cg g->∀a:Addr,a.block=g->U (.cell a)
section
variable{q:Tw}{bd:Int}{w0 w w':HA}{D:Array Bool}{V:Nat->HH}{U:Loc->Prop}
theorem bU(h:j≠i):aY V i v j=V j:=if_neg h
theorem dQ:aY V i v i=v:=if_pos rfl
theorem F2.keep{S:Nat}(h:F2 q bd S j V w)(u:D.getD i false=false)(a:D.getD j false=true)(r:D.getD 8 false=true->D.getD 7 false=true)(s:D.getD 9 false=true->D.getD 7 false=true)(m:∀b o,S<=b->(∃c t,o=Obj.cells c t (0,0)/\t≠129)->w.heap[b]?=some o->w'.heap[b]?=some o):F2 q bd S j (aY V i v) w':=by(have ne:∀k,D.getD k false=true->k≠i:=λk l e=>by subst e;rw[u]at l;cases l);match j with|0=>exact(bU (ne 0 a)).trans h|1=>exact(bU (ne 1 a)).trans h|2=>exact(bU (ne 2 a)).trans h|3=>exact(bU (ne 3 a)).trans h|4=>exact(bU (ne 4 a)).trans h|5=>exact(bU (ne 5 a)).trans h|6=>exact(bU (ne 6 a)).trans h|7=>obtain⟨g,h1,d,f⟩:=h;exact⟨g,(bU (ne 7 a)).trans h1,d,m g _ d ⟨_,_,rfl,by decide⟩ f⟩|8=>obtain⟨g,h1,d⟩:=h;exact⟨g,(bU (ne 7 (r a))).trans h1,(bU (ne 8 a)).trans d⟩|9=>obtain⟨g,cw,h1,d,f,x,p⟩:=h;exact⟨g,cw,(bU (ne 7 (s a))).trans h1,(bU (ne 9 a)).trans d,f,x,m cw _ f ⟨_,_,rfl,by decide⟩ p⟩|10=>obtain⟨cb,h1,d⟩:=h;exact⟨cb,(bU (ne 10 a)).trans h1,d⟩|n+11=>trivial
theorem I2.quiet(h:I2 q bd w0 D V U w)(f:Same w w')(x:D.getD i false=false)(z:i<D.size)(m:i≠7)(p:i≠9)(n:i≠10)(y:i≠11)(t:i=8->D.getD 7 false=true)(u:F2 q bd w0.heap.size i (aY V i v) w'):I2 q bd w0 (D.setIfInBounds i true) (aY V i v) U w':=by
 have a:=cP (D:=D) (i:=i) (j:=7) (Ne.symm m);have c:=cP (D:=D) (i:=i) (j:=9) (Ne.symm p);have d:=cP (D:=D) (i:=i) (j:=10) (Ne.symm n);have k:=cP (D:=D) (i:=i) (j:=11) (Ne.symm y);have V7:aY V i v 7=V 7:=bU (Ne.symm m);have e:aY V i v 9=V 9:=bU (Ne.symm p);have g:aY V i v 10=V 10:=bU (Ne.symm n);refine⟨h.ext.trans (.same f),λj l=>?_,λr=>?_,?_,by rw[c,k];exact h.tH,by rw[d,k];exact h.tA,?_,?_,?_,?_,?_,?_⟩;·by_cases hji:j=i;(·subst hji;exact u);·rw[cP hji]at l;exact(h.f j l).keep x l h.c8 h.c9 λb o _ _ s=>by rw[f.1];exact s
 ·rw[a];by_cases h8i:i=8;(·exact t h8i);·rw[cP (Ne.symm h8i)]at r;exact h.c8 r
 ·rw[a,c];exact h.c9
 ·rw[d,k,g,e,f.1];exact h.cb
 ·rw[a,d,V7,g];exact h.n7
 ·rw[c,d,e,g];exact h.n9
 ·rw[a,c,V7,e];exact h.u1
 ·rw[a,V7];exact h.u7
 ·rw[c,e];exact h.u9
end
end Ph
