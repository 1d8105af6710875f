/- Runs, a part. -/
import Derived.Laws.MakeOwn
import Derived.Test.YtjebhbopmfcopaaGreatDoorZl
import Derived.Test.YtjebhbopmfcopaaGreatDoorZy
set_option maxRecDepth 100000
namespace Go.Proofs.YtjebhbopmfcopaaGreatDoor
open Go.Proofs Tryz
noncomputable section
variable{gs:B9}{c c':B6}{f:FuncId}{g:Dm}{a g' i j off:Nat}{X:Nat->Prop}{V:Nat->Fi}{fz:Nat×Nat}{sl:B3}{P:Program}{t:TypeId}{b v y:Fi}{w:DS}
namespace Co
open Conc ConcN Ph Kw
section
open Classical
def only(X:Nat->Prop)(w:DS):DS:={w with heap:=w.heap.mapIdx λb o=>if X b then o else .cells #[.nilIface] 0 (0,0)}
theorem za(X:Nat->Prop)(w:DS)(b:Nat):(only X w).heap[b]?=(w.heap[b]?).map λo=>if X b then o else .cells #[.nilIface] 0 (0,0):=by show(w.heap.mapIdx _)[b]?=_;rw[Array.getElem?_mapIdx]
theorem lC{b:Nat}(h:X b):(only X w).heap[b]?=w.heap[b]?:=by rw[za];cases w.heap[b]? with|none=>rfl|some o=>simp[h]
theorem vi{a:Addr}(h:X a.block):(only X w).cell? a=w.cell? a:=by unfold World.cell?;rw[lC h]
theorem gK(X:Nat->Prop)(w:DS):(only X w).heap.size=w.heap.size:=by show(w.heap.mapIdx _).size=_;simp
end
def jf(X:Nat->Prop):Rn:=λa b=>a=b/\X a
def mX(G:Nat)(X:Nat->Prop)(w:DS):Prop:=∀b,X b->∃c t fz,w.heap[b]?=some (.cells c t fz)/\AR G (jf X) c c
theorem afA{K:Cm}(e:mX P.globals.size X w)(f:∀g,K.G g=true->X g)(i:P.globals.size<=w.heap.size):WR K P (jf X) (only X w) w:=by
 refine⟨?_,?_,?_,by rw[gK];exact i,λg j=>⟨rfl,f g j⟩⟩;·rintro a b⟨rfl,h⟩;obtain⟨c,t,fz,h1,d⟩:=e a h;exact⟨_,_,(lC h).trans h1,h1,.cells t d (.inl rfl)⟩
 ·rintro a a' b⟨rfl,_⟩⟨rfl,_⟩;rfl
 ·rintro a b b'⟨rfl,_⟩⟨rfl,_⟩;rfl
theorem Bl{G:Nat}(i:mX G X w)(h0:0<w.heap.size):aW (only X w):=by
 have one:∀b:Nat,b<w.heap.size->∃c t fz,(only X w).heap[b]?=some (.cells c t fz):=λb g=>by by_cases h:X b;(·obtain⟨c,t,fz,h1,_⟩:=i b h;exact⟨c,t,fz,(lC h).trans h1⟩);·refine⟨#[.nilIface],0,(0,0),?_⟩;rw[za,Array.getElem?_eq_getElem g];simp[h]
 refine⟨λk c e a=>?_,?_⟩;·have d:=(Array.getElem?_eq_some_iff.1 a).1;rw[gK]at d;obtain⟨c',j,l,f⟩:=one k d;rw[f]at a;cases a
 ·exact one 0 h0
section
variable{P:Program}{K:Cm}{S:FuncId->Bool}{Q:Fi->DS->Prop}{c:Frame}{cs:B8}{Fin:B9->DS->B3->Trace->Prop}
theorem Im(B:Closed P K S)(E:K.x=true){a:B6}(X Y:Nat->Prop){Sh:Loc->Prop}{t:Trace}(C:S f=true)(n:mX P.globals.size X w)(F:∀g,K.G g=true->X g)(p:P.globals.size<=w.heap.size)(h0:0<w.heap.size)(q:AR P.globals.size (jf X) a a)(s:∀T d,Calls P f a (aG (only X w) T d) λe v'=>∃x,e=.returned x/\Q x v')(u:mJ Q)(hold:∀x v',Q x v'->∀b:Nat,b<w.heap.size->¬Y b->v'.heap[b]?=(only X w).heap[b]?)(y:∀b,X b->∀ad:Addr,ad.block=b->¬Sh (.cell ad))(z:ci Sh w)(A:ap (aJ P K.F) Sh (λ_=>False) gs w t (R (Frame.enter (aJ P K.F) f a .normal) (c::cs)))(k:∀r1 x x' v1 w1 l m t1,(∀a b,r1 a b->(a=b/\X a)\/(w.heap.size<=a/\w.heap.size<=b))->fN w w1->(∀b:Nat,b<w.heap.size->¬Y b->w1.heap[b]?=w.heap[b]?)->Q x v1->VR P.globals.size r1 x x'->WR K P r1 v1 w1->ap (aJ P K.F) Sh (λ_=>False) l w1 t1 (R (c.finish x') cs)->Comes (aJ P K.F) Fin l w1 m t1):Comes (aJ P K.F) Fin gs w sl t:=by refine Oz (v:=only X w) (w:=w) (r:=jf X) (Y:=Y) B E C s u (λx v' D b i=>hold x v' D b (by rw[gK]at i;exact i)) q (afA n F p) (Bl n h0) (λa b j ad i=>?_) z A.b λ{r1 x x' v1 w1 l m t1}h1 G H I O L J M _ _ _ N=>?_;(·obtain⟨rfl,h⟩:=j;exact y a h ad i);·refine k r1 x x' v1 w1 l m t1 (λa b j=>?_) H (λb i o=>I b i λa j=>?_) L J M ⟨N,λ_ h=>h.elim⟩;(·rcases G a b j with h|h;(·exact .inl h);·rw[gK]at h;exact .inr h);·rw[j.1];exact o
theorem mj(z:Closed P K S)(A:K.x=true){a:B6}(X:Nat->Prop){Sh:Loc->Prop}{t:Trace}(C:S f=true)(n:mX P.globals.size X w)(o:∀g,K.G g=true->X g)(p:P.globals.size<=w.heap.size)(h0:0<w.heap.size)(q:AR P.globals.size (jf X) a a)(r:∀T d,Calls P f a (aG (only X w) T d) λe v'=>∃x,e=.returned x/\Q x v')(s:mJ Q)(hold:∀x v',Q x v'->∀b:Nat,b<w.heap.size->v'.heap[b]?=(only X w).heap[b]?)(u:∀b,X b->∀ad:Addr,ad.block=b->¬Sh (.cell ad))(v:ci Sh w)(y:ap (aJ P K.F) Sh (λ_=>False) gs w t (R (Frame.enter (aJ P K.F) f a .normal) (c::cs)))(k:∀r1 x x' v1 w1 i j t1,(∀a b,r1 a b->(a=b/\X a)\/(w.heap.size<=a/\w.heap.size<=b))->aP w w1->Q x v1->VR P.globals.size r1 x x'->WR K P r1 v1 w1->ap (aJ P K.F) Sh (λ_=>False) i w1 t1 (R (c.finish x') cs)->Comes (aJ P K.F) Fin i w1 j t1):Comes (aJ P K.F) Fin gs w sl t:=Im z A X (λ_=>False) C n o p h0 q r s (λx v' B b l _=>hold x v' B b l) u v y λr1 x x' v1 w1 i j t1 h1 D m=>k r1 x x' v1 w1 i j t1 h1 ⟨D,λb l=>m b l (λh=>h)⟩
end
section
variable{P:Program}{K:Cm}{r:Rn}{v w:DS}
theorem Zy{G:Nat}(b:cL c)(h:AR G r c c'):c'=c:=(Array.ext h.1 λi h1 a=>(uF (b i h1) (h.2 i h1 a)).symm).symm
theorem zk(b:WR K P r v w)(d:K.x=true){g:Nat}(e:r g g')(h:v.heap[g]?=some (.cells c t fz)):∃c',w.heap[g']?=some (.cells c' t fz)/\AR P.globals.size r c c':=by obtain⟨o,k,h1,i,f⟩:=b.cy g g' e;rw[h]at h1;cases h1;cases f with|cells _ h j=>rcases j with rfl|⟨a,_⟩;(·exact⟨_,i,h⟩);·rw[d]at a;cases a
theorem vR(b:WR K P r v w)(d:K.x=true){g:Nat}(e:r g g')(h:v.heap[g]?=some (.cells c t fz))(f:cL c):w.heap[g']?=some (.cells c t fz):=by obtain⟨c',h1,a⟩:=zk b d e h;rw[Zy f a]at h1;exact h1
theorem rB{G g n cp:Nat}(h:VR G r (.slice (some ⟨g,off,none⟩) n cp) y):∃g',y=.slice (some ⟨g',off,none⟩) n cp/\r g g':=by cases h with|sl a b l c h _=>exact⟨b,rfl,h⟩
theorem Xq{G g:Nat}(h:VR G r (.pointer (some ⟨g,off,none⟩)) y):∃g',y=.pointer (some ⟨g',off,none⟩)/\r g g':=by cases h with|ptr a b h _=>exact⟨b,rfl,h⟩
theorem C0{G:Nat}{a:Fi}(h:AR G r #[a,b] c'):∃a' b',c'=#[a',b']/\VR G r a a'/\VR G r b b':=by have d:c'.size=2:=h.1.symm;refine⟨c'[0],c'[1],Array.ext d λi h1 c=>?_,h.2 0 (by simp) (by omega),h.2 1 (by simp) (by omega)⟩;match i,c with|0,_=>rfl|1,_=>rfl
theorem KF{G:Nat}{a d:Fi}(h:AR G r #[a,b,d] c'):∃a' b' c,c'=#[a',b',c]/\VR G r a a'/\VR G r b b'/\VR G r d c:=by have f:c'.size=3:=h.1.symm;refine⟨c'[0],c'[1],c'[2],Array.ext f λi h1 e=>?_,h.2 0 (by simp) (by omega),h.2 1 (by simp) (by omega),h.2 2 (by simp) (by omega)⟩;match i,e with|0,_=>rfl|1,_=>rfl|2,_=>rfl
theorem yO{G:Nat}{k:IntKind}{n:Int}(h:VR G r (.int k n) y):y=.int k n:=by cases h;rfl
theorem IE{G:Nat}(h:VR G r (.tuple c) y):∃c',y=.tuple c'/\AR G r c c':=by cases h with|tuple a h=>exact⟨_,rfl,a,h⟩
end
end Co
namespace Ph
open Conc Kw Kl
set_option maxRecDepth 100000
theorem YH(Q:Ko.Wk)(v:Int)(s:Fo)(a b:Nat):Kc.Cb (Ko.cn Q v s a)=Kc.Cb (Ko.cn Q v s b):=by kernel_rfl
theorem Y3(C:Cx)(q:Ko.Wk)(A:eK)(m:Nat)(J:Nat->Fi):Ko.WH {q with n:=(m:Nat),ok:=true,J:=J}=Ko.WH {qm C q A m J with ok:=true}:=by kernel_rfl
theorem yK(C:Cx)(q:Ko.Wk)(A:eK)(m:Nat)(J:Nat->Fi):Ko.cl (qm C q A m J)=Ko.cl q:=by kernel_rfl
theorem KH(C:Cx)(q:Ko.Wk)(A:eK)(m:Nat)(J a:Nat->Fi)(n:Int)(k:Bool):Ko.WH {qm C q A m J with n:=n,ok:=k,J:=a}=Ko.WH {q with n:=n,ok:=k,J:=a}:=by kernel_rfl
theorem ZW(C:Cx)(q:Ko.Wk)(A:eK)(m:Nat)(J:Nat->Fi)(c:Frame):Kt.ju (Ko.tk (qm C q A m J) c)=Kt.ju (Ko.tk q c):=by kernel_rfl
theorem OS(q:Ko.Wk)(n:Int)(k:Bool)(J:Nat->Fi):Ko.cz {q with n:=n,ok:=k,J:=J}=Ko.cz q:=by kernel_rfl
def vA(q:Ko.Wk)(c:Frame):Prop:=∀(n:Int)(k:Bool),∃J,aa prog (R (c.finish (.tuple #[.int .i64 n,.bool k])) [Ko.cl q,Ko.bs]) (Ko.WH {q with n:=n,ok:=k,J:=J})
section
attribute[local irreducible]fin aK aM Ko.Wg Ko.E7 Ko.W0 Ko.WH Ko.W4 Ko.W5 Ko.W6 Ko.W7 Ko.W8 Ko.cl Ko.cz Ko.j6 Ko.lz Ko.jO Ko.oe Ko.tw Kt.Tl Kt.ju Kc.od Kc.Cb Kc.Cl Kl.Ld Kl.ko Ko.Wz Ko.cn
theorem ad2(q:Ko.Wk):vA q (Ko.W0 q).frame:=λn k=>⟨_,by rw[<-Ko.QH];unfold Ko.tw;exact ay _ _ _ _ _⟩
theorem Ty(C:Cx)(q:Ko.Wk)(A:eK)(m:Nat)(J:Nat->Fi):vA q (Ko.W8 (qm C q A m J)).frame:=λn k=>by have e:=Ko.YK (qm C q A m J) n k;(have h:aa prog (R ((Ko.W8 (qm C q A m J)).frame.finish (.tuple #[.int .i64 n,.bool k])) [Ko.cl (qm C q A m J),Ko.bs]) (Ko.WH {qm C q A m J with n:=n,ok:=k,J:=ak (Ko.tw 9 60 (R ((Ko.W8 (qm C q A m J)).frame.finish (.tuple #[.int .i64 n,.bool k])) [Ko.cl (qm C q A m J),Ko.bs]))}):=by rw[<-e];unfold Ko.tw;exact ay _ _ _ _ _);rw[KH,yK]at h;exact⟨_,h⟩
theorem Bp(q:Ko.Wk)(c:Frame):aa prog (Kt.ju (Ko.tk q c)) (Ld (q0 q.b 5 (Kt.Tl (Ko.tk q c)).frame (c::[Ko.cl q,Ko.bs]))):=by
 have e1:aa prog (Kt.ju (Ko.tk q c)) (Kt.Tl (Ko.tk q c)):=by unfold Kt.Tl;exact ay _ _ _ _ _
 have e2:=cU (Kt.Nd (Ko.tk q c));have a:aa prog (ko (q0 q.b 5 (Kt.Tl (Ko.tk q c)).frame (c::[Ko.cl q,Ko.bs]))) (Ld (q0 q.b 5 (Kt.Tl (Ko.tk q c)).frame (c::[Ko.cl q,Ko.bs]))):=by unfold Kl.Ld;exact ay _ _ _ _ _
 exact e1.trans (e2.trans a)
theorem Vw(a:Kc.Cn):aa prog (Kc.Cl a) (Ld (q0 a.b 5 (Kc.Cl a).frame a.ks)):=by have e2:=cU (Kc.Oj a);(have b:aa prog (ko (q0 a.b 5 (Kc.Cl a).frame a.ks)) (Ld (q0 a.b 5 (Kc.Cl a).frame a.ks)):=by unfold Kl.Ld;exact ay _ _ _ _ _);exact e2.trans b
variable{C:Cx}{O:Nat->Prop}{own:Bool}{af wr:Option Nat}{w w₁:DS}{Stop:(Nat->Prop)->Dm->DS->Prop}{q:Ko.Wk}{A:eK}
theorem Nh(W:Wh C q A)(h:Lo C w)(k:∀w₁,Lo C w₁->av C false false false af wr Stop O (Ld (q0 q.b 5 (Kt.Tl (Ko.tk q (Ko.W0 q).frame)).frame ((Ko.W0 q).frame::[Ko.cl q,Ko.bs]))) w₁):av C false false false af wr Stop O (Ko.jO q) w:=by
 obtain⟨c1,c2,g,c,j,b⟩:=W.cb;have e1:aa prog (Ko.jO q) (Ko.j6 q):=by unfold Ko.j6;exact ay _ _ _ _ _
 rw[<-W.here.P]at e1;refine .aT e1 λw₁ n=>?_;have h1:=h.rl n;obtain⟨d,f,l⟩:=zF;rw[<-W.here.P]at f;refine av.load (Ko.Qc q) f l (x:=q.p 0) (λm a=>?_) (JK c1 c2 g c (j 0)) λm a=>?_;·have:=(h1.rl a).2 q.cb c1 c2 g c;unfold World.cell? at b⊢;rw[this];exact b
 ·(have e2:aa prog (fin (Ko.j6 q) (q.p 0)) (Ko.lz q):=by unfold Ko.lz;exact ay _ _ _ _ _);have o:=cU (Ko.abN q);(have p:aa prog (Ko.oe q) (Ko.W0 q):=by unfold Ko.W0 Ko.tw;exact ay _ _ _ _ _);have r:=cU (Ko.abW q);have e:=e2.trans (o.trans (p.trans (r.trans (Bp q _))));rw[<-W.here.P]at e;exact .aT e λs i=>k s ((h1.rl a).rl i)
theorem X'(w:DS)(o:Obj)(f:Bool)(j:C.low<=w.heap.size)(k:C.Cw<C.low)(i:C.Rc<C.low):Dn C O (λb=>O b\/b=w.heap.size) own f wr w {w with heap:=w.heap.push o} #[]:=by
 have d:∀b,b<w.heap.size->(w.heap.push o)[b]?=w.heap[b]?:=λb c=>by rw[Array.getElem?_push_lt c,Array.getElem?_eq_getElem c]
 refine⟨rfl,rfl,rfl,by simp,λb=>?_,λb c _ _ _=>d b c,λwd ms g a=>⟨g,⟨(d _ (by omega)).trans a.1,a.2⟩,λ_=>rfl⟩,λcs a=>⟨cs,⟨(d _ (by omega)).trans a.1,a.2⟩,λ_ _=>rfl⟩,by simp,λ_=>rfl⟩;constructor;·rintro(h|h);(·exact .inl h);·exact .inr ⟨by omega,by simp;omega⟩
 ·rintro(h|⟨h1,e⟩);(·exact .inl h);·simp at e;exact .inr (by omega)
theorem Qh(H:bU C)(h:Bw C w)(o:Obj):Bw C {w with heap:=w.heap.push o}:=by have p:=h.2.1;(have a:∀b,b<w.heap.size->(w.heap.push o)[b]?=w.heap[b]?:=λb c=>by rw[Array.getElem?_push_lt c,Array.getElem?_eq_getElem c]);obtain⟨l1,r,q⟩:=H.low;obtain⟨⟨⟨s,g,k,d,l⟩,cs,e⟩,i⟩:=h;refine⟨⟨⟨s,g,k,⟨(a _ (by omega)).trans d.1,d.2⟩,(a _ (by omega)).trans l⟩,cs,(a _ (by omega)).trans e.1,e.2⟩,by simp;omega,λb j m n f=>(a b (by omega)).trans (i.2 b j m n f)⟩
def bI(C:Cx)(q:Ko.Wk)(A:eK)(m:Nat)(J:Nat->Fi)(rb:Nat):Kc.Cn:=Ko.cn (qm C q A m J) (A.vd m) (A.sq m) rb
theorem nF(C:Cx)(q:Ko.Wk)(A:eK)(m:Nat)(J:Nat->Fi)(rb:Nat):(bI C q A m J rb).b=q.b/\(bI C q A m J rb).r=(C.aI m).toArray/\(bI C q A m J rb).v=A.vd m/\(bI C q A m J rb).s=A.sq m/\(bI C q A m J rb).rb=rb/\(bI C q A m J rb).c=(Ko.W7 (qm C q A m J)).frame/\(bI C q A m J rb).cs=[Ko.cl q,Ko.bs]:=by unfold bI Ko.cn;exact⟨rfl,rfl,rfl,rfl,rfl,rfl,by rw[<-yK C q A m J]⟩
end
set_option maxRecDepth 100000
section
attribute[local irreducible]fin aK aM Ko.Wg Ko.E7 Ko.W0 Ko.WH Ko.W4 Ko.W5 Ko.W6 Ko.W7 Ko.W8 Ko.cl Ko.cz Ko.j6 Ko.lz Ko.jO Ko.oe Ko.tw Kt.Tl Kt.ju Kc.od Kc.Cb Kc.Cl Kl.Ld Kl.ko Ko.Wz
variable{C:Cx}{O:Nat->Prop}{own:Bool}{w w₁:DS}{Stop:(Nat->Prop)->Dm->DS->Prop}{q:Ko.Wk}{A:eK}{m:Nat}
def RB(C:Cx)(m:Nat)(w:DS):Prop:=Bw C w/\hH C m w
theorem RB.rl(h:RB C m w)(r:Rl C O own (some m) w w₁):RB C m w₁:=⟨h.1.rl r,λi a=>(r.aI m rfl i a).trans (h.2 i a)⟩
theorem adz(W:Wh C q A)(J:Nat->Fi)(t:∀b,O b->C.low<=b)(h:RB C m w)(k:∀d rb w₁,(∀b,d b->C.low<=b)->d rb->RB C m w₁->gO (bI C q A m J rb) w₁->av C false false false (some m) (some m) Stop d (Ld (q0 q.b 5 (Kc.Cl (bI C q A m J rb)).frame (bI C q A m J rb).ks)) w₁):av C false false false (some m) (some m) Stop O (Ko.W7 (qm C q A m J)) w:=by
 have H:=W.here;have e1:=cU (Ko.Yt (qm C q A m J) (A.vd m) (A.sq m) 0);have e2:aa prog (Kc.od (Ko.cn (qm C q A m J) (A.vd m) (A.sq m) 0)) (Kc.Cb (bI C q A m J 0)):=by unfold Kc.Cb bI;exact ay _ _ _ _ _
 have e:=e1.trans e2;rw[<-H.P]at e;refine .aT e λw₁ v=>?_;have h1:=h.rl v;refine av.op (Kc.Xd (bI C q A m J 0)) λa x=>?_;have f:=h1.rl x;obtain⟨l1,I,E⟩:=H.low;have p:=f.1.2.1;obtain⟨r1,r2,r3,K,g,L,G⟩:=nF C q A m J a.heap.size;have c:=pM (P:=C.P) a 52 (bI C q A m J 0).r;refine⟨_,_,λb=>O b\/b=a.heap.size,.inl c.1,?_,?_⟩;·rw[c.2,seen_none];exact X' a _ false p l1 E
 ·(have y:aa prog (fin (Kc.Cb (bI C q A m J 0)) (.pointer (some ⟨a.heap.size,0,none⟩))) (Kc.Cl (bI C q A m J a.heap.size)):=by have z:Kc.Cb (bI C q A m J 0)=Kc.Cb (bI C q A m J a.heap.size):=YH _ _ _ _ _;(have s:Value.pointer (some ⟨a.heap.size,0,none⟩)=(bI C q A m J a.heap.size).pr 0:=by show _=Value.pointer (some ⟨(bI C q A m J a.heap.size).rb,0,none⟩);rw[g]);rw[z,s];unfold Kc.Cl;exact ay _ _ _ _ _);have l:=Vw (bI C q A m J a.heap.size);rw[r1]at l;have j:=y.trans l;rw[<-H.P]at j;(have u:∀b,(O b\/b=a.heap.size)->C.low<=b:=λb c=>c.elim (t b) λc=>by omega);(have D:∀b,b<a.heap.size->(a.heap.push (Obj.cells (bI C q A m J 0).r 52 (0,0)))[b]?=a.heap[b]?:=λb c=>by rw[Array.getElem?_push_lt c,Array.getElem?_eq_getElem c]);refine .aT j λB n=>k _ a.heap.size B u (.inr rfl) ?_ ?_;(·(have F:RB C m {a with heap:=a.heap.push (Obj.cells (bI C q A m J 0).r 52 (0,0))}:=by refine⟨Qh H f.1 _,λi o=>?_⟩;rw[<-f.2 i o];show World.cell? {a with heap:=a.heap.push _} _=_;unfold World.cell?;rw[D C.Rc (by omega)]);exact F.rl n);·unfold gO;rw[g,r2];rw[n.mine _ (.inr rfl)];show(a.heap.push _)[a.heap.size]?=_;rw[Array.getElem?_push_size,(nF C q A m J 0).2.1]
theorem NB(W:Wh C q A)(t:m<C.N)(J:Nat->Fi)(X:∀b,O b->C.low<=b)(h:Bw C w)(k:∀f rb w₁,(∀b,f b->C.low<=b)->f rb->RB C m w₁->gO (bI C q A m J rb) w₁->av C false false false (some m) (some m) Stop f (Ld (q0 q.b 5 (Kc.Cl (bI C q A m J rb)).frame (bI C q A m J rb).ks)) w₁):av C false false false (some m) (some m) Stop O (Ko.WH {q with n:=(m:Nat),ok:=true,J:=J}) w:=by
 have H:=W.here;have e1:aa prog (Ko.WH {q with n:=(m:Nat),ok:=true,J:=J}) (Ko.Wg (qm C q A m J)):=by rw[Y3 C q A m J];unfold Ko.Wg;exact aV _ _ _
 rw[<-H.P]at e1;refine .aT e1 λw₁ a1=>?_;refine adP W t J X (h.rl a1) λf a3 K T V=>?_;have i:RB C m a3:=⟨T,V⟩;have Z:∀o,(qm C q A m J).p o=.pointer (some ⟨C.Cw,o,none⟩):=λo=>by show Value.pointer (some ⟨q.b,o,none⟩)=_;rw[W.b]
 have e2:aa prog (Ko.E7 (qm C q A m J)) (Ko.W4 (qm C q A m J)):=by unfold Ko.W4 Ko.tw;exact ay _ _ _ _ _
 rw[<-H.P]at e2;refine .aT e2 λa6 S=>?_;have y:=i.rl S;have F:=Ko.vb (qm C q A m J);rw[Z]at F;refine av.load F (by rw[H.P];exact lK) rfl (x:=(qm C q A m J).cm) (λa4 g=>?_) (AJ H (by omega)) λa4 g=>?_;·rw[Je H (y.rl g).1 (by omega),W.aN];rfl
 have L:=y.rl g;have M:aa prog (fin (Ko.W4 (qm C q A m J)) (qm C q A m J).cm) (Ko.W5 (qm C q A m J)):=by unfold Ko.W5 Ko.tw;exact ay _ _ _ _ _
 have Q:aa prog (Ko.W5 (qm C q A m J)) (fin (Ko.W5 (qm C q A m J)) (.pointer (some (qm C q A m J).am))):=by refine bZ (Ko.SU (qm C q A m J)) ?_;obtain⟨ti,h1,i⟩:=tY.2;have:=tU (a:=⟨q.Rc,0,none⟩) (N:=q.N) (c:=q.N) lK h1 (show m<q.N by rw[W.N];exact t);rw[i,Addr.add_mid,show 0+m*8=8*m by omega]at this;(have e:(qm C q A m J).am=⟨q.Rc,8*m,none⟩:=by rw[W.Rc];rfl);rw[e];exact this
 have R:aa prog (fin (Ko.W5 (qm C q A m J)) (.pointer (some (qm C q A m J).am))) (Ko.W6 (qm C q A m J)):=by unfold Ko.W6 Ko.tw;exact ay _ _ _ _ _
 have u:=M.trans (Q.trans R);rw[<-H.P]at u;refine .aT u λa5 U=>?_;have s:=L.rl U;obtain⟨r1,r2,r3,r4⟩:=W.aI m;obtain⟨⟨d,z,Y⟩,ti,B,a0⟩:=tY;rw[<-H.P]at z B;refine av.look (Ko.KW (qm C q A m J)) (v:=.agg (C.aI m).toArray) (λD l=>?_) λD l=>?_;·have h6:=s.rl l;(have a2:D.rangeAt C.Rc (8*m) (C.aI m):=λj v E=>by(have r:j<8:=by rw[<-r1];exact(List.getElem?_eq_some_iff.1 E).1);rw[h6.2 j r,E]);have:=re (P:=C.P) z Y B (by rw[a0,r1]) a2;refine⟨this.1,λe he=>?_⟩;obtain⟨j,r,rfl⟩:=this.2 e he;rw[r1]at r;exact .inr (.inl ⟨_,_,rfl,.inr (.inr (.inr ⟨rfl,by show some m=some ((8*m+j)/8);rw[show(8*m+j)/8=m by omega]⟩))⟩)
 ·(have G:aa prog (fin (Ko.W6 (qm C q A m J)) (.agg (C.aI m).toArray)) (Ko.W7 (qm C q A m J)):=by unfold Ko.W7 Ko.tw;exact ay _ _ _ _ _);rw[<-H.P]at G;exact .aT G λa7 I=>adz W J K ((s.rl l).rl I) k
theorem Xn(W:Wh C q A){af wr:Option Nat}(J:Nat->Fi)(h:Bw C w)(k:∀w₁,Bw C w₁->av C false false false af wr Stop O (Kd.Wr ⟨C.Wg,Ko.cz q,[Ko.bs]⟩) w₁):av C false false false af wr Stop O (Ko.WH {q with n:=0,ok:=false,J:=J}) w:=by have H:=W.here;(have e1:aa prog (Ko.WH {q with n:=0,ok:=false,J:=J}) (Kd.Wv ⟨C.Wg,Ko.cz q,[Ko.bs]⟩):=by have:=Ko.RS {q with n:=0,ok:=false,J:=J};rw[OS]at this;rw[<-W.wg,<-this];unfold Ko.Wz;exact ay _ _ _ _ _);rw[<-H.P]at e1;refine .aT e1 λw₁ e=>?_;have h1:=h.rl e;have a:=Kd.LV ⟨C.Wg,Ko.cz q,[Ko.bs]⟩;refine .step (aY a).1 λi b=>?_;have f:=h1.rl b;obtain⟨⟨⟨s,g,m,j⟩,_⟩,_⟩:=f;have c:=Da a (kR j) false;rw[<-H.P]at c;refine⟨_,i,_,O,c,Dn.idle _ _ _ _ _,by unfold fin;exact(aY a).1,?_⟩;have e2:aa prog (fin (Kd.Wv ⟨C.Wg,Ko.cz q,[Ko.bs]⟩) (Kd.Kd.m ⟨C.Wg,Ko.cz q,[Ko.bs]⟩)) (Kd.Wr ⟨C.Wg,Ko.cz q,[Ko.bs]⟩):=Kd.VP _;rw[<-H.P]at e2;exact .aT e2 λl d=>k l ((h1.rl b).rl d)
end
set_option maxRecDepth 100000
def nS:Pc->Bool|.ld|.l0|.r0|.sq|.c1|.r1|.c2|.t1|.s1|.t2|.r2|.a1|.r3|.le|.la=>true|_=>false
def lO:Pc->Bool|.ur|.ud|.u0|.uc|.ux|.us|.ue=>true|_=>false
theorem uu(T:Th):nS (head T).pc=true/\(head T).pc≠.ld/\(head T).ct=T.ct/\(head T).af=T.af:=by unfold head;split<;>exact⟨rfl,by simp,rfl,rfl⟩
theorem DY(T:Th):lO (cG T).pc=true/\(cG T).pc≠.ur/\(cG T).ct=T.ct/\(cG T).af=T.af:=by unfold cG;split<;>exact⟨rfl,by simp,rfl,rfl⟩
theorem abH(T:Th)(x:Wd):lO (dv T x).pc=true/\(dv T x).pc≠.ur/\(dv T x).ct=T.ct/\(dv T x).af=T.af:=by unfold dv;split;(·exact⟨rfl,by simp,rfl,rfl⟩);·split;(·exact DY {T with old:=x});·exact⟨rfl,by simp,rfl,rfl⟩
section
variable{N n:Nat}{T T':Th}{s s':Sh}
theorem Zf(h:Mv N n T s T' s')(a:nS T.pc=true)(b:T.pc≠.la):nS T'.pc=true/\T'.pc≠.ld/\T'.ct=T.ct/\T'.af=T.af:=by
 cases h;case r0=>exact uu _
 case r1=>exact uu _
 case r3=>exact uu _
 case kg=>exact uu _
 case kS=>split<;>exact⟨rfl,by simp,rfl,rfl⟩
 case jm p h hp' hw h0=>rcases hp' with rfl|rfl<;>exact⟨rfl,by simp,rfl,rfl⟩
 all_goals first|exact⟨rfl,by simp,rfl,rfl⟩|(rename_i h;first|exact absurd h b|(rw[h]at a;cases a))|(rename_i h _;first|exact absurd h b|(rw[h]at a;cases a))
theorem af8(h:Mv N n T s T' s')(a:lO T.pc=true)(b:T.pc≠.ue):lO T'.pc=true/\T'.pc≠.ur/\T'.ct=T.ct/\T'.af=T.af:=by
 cases h;case u0=>exact abH _ _
 case ux=>exact DY _
 all_goals first|(rename_i h;rw[h]at a;cases a;done)|(rename_i h _;rw[h]at a;cases a;done)|(rename_i h _ _;rw[h]at a;cases a;done)|(rename_i h _ _ _;rw[h]at a;cases a;done)|exact⟨rfl,by simp,rfl,rfl⟩|(rename_i h;exact absurd h b)
end
section
variable(C:Cx)(q:Ko.Wk)(A:eK)
def iG(T:Th)(O:Nat->Prop)(w:DS)(c:Frame)(cs:B8):Prop:=(T.ct=false/\T.af=none/\∃c0,vA q c0/\c=(Kt.Tl (Ko.tk q c0)).frame/\cs=c0::[Ko.cl q,Ko.bs])\/(T.ct=true/\∃m J rb,T.af=some m/\m<C.N/\O rb/\gO (bI C q A m J rb) w/\(T.pc=.ld->hH C m w)/\c=(Kc.Cl (bI C q A m J rb)).frame/\cs=(bI C q A m J rb).ks)
def mW(T:Th)(c:Frame)(cs:B8):Prop:=(T.ct=false/\∃c0 n,vA q c0/\cs=c0::[Ko.cl q,Ko.bs]/\((T.af=none/\c=Kt.kt {Ko.tk q c0 with n:=n})\/∃m,T.af=some m/\m<C.N/\c=Kt.kG {Ko.tk q c0 with n:=n} (m+1:Nat)))\/(T.ct=true/\∃m J rb,c=Kc.kU (bI C q A m J rb)/\cs=(bI C q A m J rb).ks)
def mA(T:Th)(y:GC)(O:Nat->Prop)(g:Dm)(w:DS):Prop:=(∀b,O b->C.low<=b)/\Lo C w/\((nS T.pc=true/\∃c cs,iG C q A T O w c cs/\bO C.Cw C.aN.length c cs T g)\/(lO T.pc=true/\(T.pc=.ur->∃x ms,iR C w x ms (fR y))/\∃c cs,mW C q A T c cs/\ew C.Cw C.aN.length c cs T g)\/eH ⟨C.Wg,Ko.cz q,[Ko.bs]⟩ T g)
end
section
attribute[local irreducible]fin aK aM Ko.Wg Ko.E7 Ko.W0 Ko.WH Ko.W4 Ko.W5 Ko.W6 Ko.W7 Ko.W8 Ko.cl Ko.cz Ko.j6 Ko.lz Ko.jO Ko.oe Ko.tw Kt.Tl Kt.ju Kc.od Kc.Cb Kc.Cl Kl.Ld Kl.ko Ko.Wz Kt.kt Kt.kG Kc.kU
variable{C:Cx}{q:Ko.Wk}{A:eK}{O:Nat->Prop}{own:Bool}{af:Option Nat}{N n:Nat}{T T':Th}{s:Sh}{g g':Dm}{g0:CL}{w w' w₁:DS}{y:GC}{c:Frame}{cs:B8}
theorem Lo.dX(h:Lo C w)(e:Eff C w w'):Lo C w':=⟨by rw[e.size];exact h.1,λb h1 c a d=>(e.block b c a).trans (h.2 b h1 c a d)⟩
theorem Ky(W:Wh C q A)(d:∀b,O b->C.low<=b){a:Kc.Cn}(c:O a.rb)(h:gO a w)(e:Eff C w w'):gO a w':=by have:=d _ c;obtain⟨l1,g,f⟩:=W.here.low;unfold gO at*;rw[e.block _ (by omega) (by omega)];exact h
theorem iG.dX(W:Wh C q A)(j:∀b,O b->C.low<=b)(h:iG C q A T O w c cs)(e:Eff C w w')(h1:T'.pc≠.ld)(f:T'.ct=T.ct)(d:T'.af=T.af):iG C q A T' O w' c cs:=by rcases h with⟨a,b,r⟩|⟨a,m,J,rb,i,k,g,l,n,r⟩;(·exact .inl ⟨by rw[f];exact a,by rw[d];exact b,r⟩);·refine .inr ⟨by rw[f];exact a,m,J,rb,by rw[d];exact i,k,g,Ky W j (by rw[(nF C q A m J rb).2.2.2.2.1];exact g) l e,λh=>absurd h h1,r⟩
theorem iG.rl(h:iG C q A T O w c cs)(r:Rl C O own af w w₁)(g:T.pc=.ld->af=T.af):iG C q A T O w₁ c cs:=by rcases h with h|⟨a,m,J,rb,e,f,d,j,l,k⟩;(·exact .inl h);·refine .inr ⟨a,m,J,rb,e,f,d,?_,λh i b=>(r.aI m (by rw[g h,e]) i b).trans (l h i b),k⟩;unfold gO at*;rw[r.mine _ (by rw[(nF C q A m J rb).2.2.2.2.1];exact d)];exact j
theorem ahL(W:Wh C q A)(f:∀b,O b->C.low<=b)(h:Lo C w')(a:nS T'.pc=true)(g:iG C q A T' O w' c cs)(d:dF C.Cw C.aN.length c cs g' T'):il C (mA C q A) T' y O g' w':=by obtain⟨k,h1,j⟩:=d;(have i:T'.pc≠.quit:=by intro e;rw[e]at a;cases a);unfold il;rw[if_neg i];rw[<-W.here.P]at h1;exact .aT h1 λw₁ r=>.stop λl r2=>⟨f,(h.rl r).rl r2,.inl ⟨a,c,cs,(g.rl r (λ_=>rfl)).rl r2 (λ_=>rfl),j⟩⟩
theorem Ui(W:Wh C q A)(f:∀b,O b->C.low<=b)(h:Lo C w')(a:lO T'.pc=true)(g:T'.pc≠.ur)(i:mW C q A T' c cs)(d:nQ C.Cw C.aN.length c cs g' T'):il C (mA C q A) T' y O g' w':=by obtain⟨l,h1,k⟩:=d;(have j:T'.pc≠.quit:=by intro e;rw[e]at a;cases a);unfold il;rw[if_neg j];rw[<-W.here.P]at h1;exact .aT h1 λw₁ r=>.stop λm r2=>⟨f,(h.rl r).rl r2,.inr (.inl ⟨a,λe=>absurd e g,c,cs,i,k⟩)⟩
theorem mW.same(h:mW C q A T c cs)(b:T'.ct=T.ct)(a:T'.af=T.af):mW C q A T' c cs:=by unfold mW at*;rw[b,a];exact h
def pY(C:Cx)(q:Ko.Wk)(A:eK)(T:Th)(y:GC)(O:Nat->Prop)(g:Dm)(w:DS)(s:Sh)(g0:CL)(x:GC):Prop:=∃T' s' g' w' a,Mv C.N x.n T s T' s'/\stepG C.P false g w=.go g' w' a/\ShAt C w' s' g0/\Eff C w w'/\EvStop C T T' a/\(Live C w'->il C (mA C q A) T' (if T.pc=.la then upd C T x else y) O g' w')
theorem LP(h:C.Cw≠C.Wg)(b:ShAt C w s g0)(f:fv T s)(i:nS T.pc=true)(h1:T.pc≠.le)(j:T.pc≠.la)(k:¬(T.pc=.s1/\s.ms=0))(d:bO C.Cw C.aN.length c cs T g):Stp C c cs N n T s g g0 w:=by cases a:T.pc with|ld=>exact ag0 b a d|l0=>exact agk h b f.ok a d|r0=>exact ahi b f.ok a d|sq=>exact afb b f a d|c1=>exact N' h b f a d|r1=>exact Py b f a d|c2=>exact Kx h b f a d|t1=>exact acV b a d|s1=>exact Nu h b a (λe=>k ⟨a,e⟩) d|t2=>exact Pm b a d|r2=>exact Uz b f a d|a1=>exact Mw h b f a d|r3=>exact aes b f a d|le=>exact absurd a h1|la=>exact absurd a j|_=>rw[a]at i;cases i
theorem RH(f:C.Cw≠C.Wg)(b:ShAt C w s g0)(e:fv T s)(h:lO T.pc=true)(h1:T.pc≠.ue)(d:ew C.Cw C.aN.length c cs T g):nL C c cs N n T s g g0 w:=by cases a:T.pc with|ur=>exact aaK b a d|ud=>exact RX b a d|u0=>exact KE f b e a d|uc=>exact afr f b e a d|ux=>exact Ov b e.ok a d|us=>exact aad f b e.ok a d|ue=>exact absurd a h1|_=>rw[a]at h;cases h
theorem ac0(W:Wh C q A)(h:∀b,O b->C.low<=b)(r:Lo C w)(j:ShAt C w s g0)(p:fv T s)(e:nS T.pc=true)(h1:T.pc≠.le)(d:T.pc≠.la)(k:¬(T.pc=.s1/\s.ms=0))(x:GC)(l:iG C q A T O w c cs)(m:bO C.Cw C.aN.length c cs T g):pY C q A T y O g w s g0 x:=by obtain⟨T',s',g',w',o,f,st,sh,a,t,_,u⟩:=LP (N:=C.N) (n:=x.n) W.here.ne j p e h1 d k m;obtain⟨m1,v,z,i⟩:=Zf f e d;exact⟨T',s',g',w',o,f,by rw[W.here.P];exact st,sh,a,t,λ_=>ahL W h (r.dX a) m1 (l.dX W h a v z i) u⟩
theorem ae9(W:Wh C q A)(i:∀b,O b->C.low<=b)(m:Lo C w)(o:ShAt C w s g0)(h:fv T s)(d:lO T.pc=true)(h1:T.pc≠.ue)(x:GC)(j:mW C q A T c cs)(k:ew C.Cw C.aN.length c cs T g):pY C q A T y O g w s g0 x:=by obtain⟨T',s',g',w',l,a,st,sh,e,p,_,r⟩:=RH (N:=C.N) (n:=x.n) W.here.ne o h d h1 k;obtain⟨m1,t,u,f⟩:=af8 a d h1;exact⟨T',s',g',w',l,a,by rw[W.here.P];exact st,sh,e,p,λ_=>Ui W i (m.dX e) m1 t (j.same u f) r⟩
theorem ac5(W:Wh C q A)(i:∀b,O b->C.low<=b)(r:Lo C w)(t:ShAt C w s g0)(a:T.pc=.le)(x:GC)(l:iG C q A T O w c cs)(p:bO C.Cw C.aN.length c cs T g):pY C q A T y O g w s g0 x:=by obtain⟨F,v,st,e1,r1,cv,r2,m⟩:=af3 a p;have H:=W.here;refine⟨_,s,_,w,_,.le a,by rw[H.P];exact st w,t,Eff.refl w,cu (by simp[a]) (by simp[a]) (by simp[a]) ?_,λn=>?_⟩;(·(have:aL T=1:=by simp[aL,a]);rw[this];exact pN);·have o:iG C q A {T with pc:=.la} O w c cs:=l.dX W i (Eff.refl w) (by simp) rfl rfl;unfold il;rw[if_neg (by simp)];rw[<-H.P]at e1;refine .aT e1 λw₁ e=>.step r1 λj d=>?_;obtain⟨⟨s2,D,_,z⟩,_⟩:=(e.trans d).live n;refine⟨v,j,_,O,by rw[H.P];exact cv j _ (iE z) false,Dn.idle _ _ _ _ _,r2,?_⟩;obtain⟨B,h,u⟩:=m;rw[<-H.P]at h;exact .aT h λG f=>.stop λE k=>⟨i,(((r.rl e).rl d).rl f).rl k,.inl ⟨rfl,c,cs,(((o.rl e (by simp)).rl d (by simp)).rl f (by simp)).rl k (by simp),u⟩⟩
theorem Nj(W:Wh C q A)(k:∀b,O b->C.low<=b)(t:Lo C w)(d:ShAt C w s g0)(h:fv T s)(x:GC)(c:eH ⟨C.Wg,Ko.cz q,[Ko.bs]⟩ T g):pY C q A T y O g w s g0 x:=by
 have H:=W.here;have n:nu C ⟨C.Wg,Ko.cz q,[Ko.bs]⟩ C.N x.n T s g g0 w:=by have e:=c;unfold eH at e;split at e;(·rename_i a;exact adb rfl d a c);(·rename_i a;exact aib d a c);(·rename_i a;exact ab2 H.ne rfl d h a c);(·rename_i a;exact ahZ rfl d h a c);(·rename_i a;exact Me H.ne rfl d a c);(·rename_i a;exact aaa H.ne rfl d h.ok a c);·exact e.elim
 obtain⟨T',s',g',w',j,m,st,sh,i,p,l⟩:=n;refine⟨T',s',g',w',j,m,by rw[H.P];exact st,sh,i,p,λ_=>?_⟩;unfold il;rcases l with⟨f,z,h1,o⟩|⟨f,u⟩;·rw[if_neg f];rw[<-H.P]at h1;exact .aT h1 λw₁ r=>.stop λv r2=>⟨k,((t.dX i).rl r).rl r2,.inr (.inr o)⟩
 ·rw[if_pos f,H.P];exact W.qb _ u
end
set_option maxRecDepth 100000
theorem Li(t:Kt.Tk)(y:Int):Kt.Tl {t with n:=y}=Kt.Tl t:=by kernel_rfl
theorem YL{T:Th}(h1:T.ct=false)(a:T.af=none):next T={pc:=.wr}:=by simp[next,h1,a]
theorem afJ{T:Th}{m:Nat}(h1:T.ct=false)(a:T.af=some m):next T={pc:=.ld,ct:=true,af:=some m}:=by simp[next,h1,a]
theorem LM{T:Th}(h1:T.ct=true):next T={pc:=.ld}:=by simp[next,h1]
section
attribute[local irreducible]fin aK aM Ko.Wg Ko.E7 Ko.W0 Ko.WH Ko.W4 Ko.W5 Ko.W6 Ko.W7 Ko.W8 Ko.cl Ko.cz Ko.j6 Ko.lz Ko.jO Ko.oe Ko.tw Kt.Tl Kt.ju Kc.od Kc.Cb Kc.Cl Kl.Ld Kl.ko Ko.Wz Kt.kt Kt.kG Kc.kU Kl.Ur
variable{C:Cx}{q:Ko.Wk}{A:eK}{O:Nat->Prop}{N n:Nat}{T T':Th}{s:Sh}{g g':Dm}{g0:CL}{w w' w₁:DS}{y x:GC}{c:Frame}{cs:B8}
theorem VM(W:Wh C q A)(j:∀b,O b->C.low<=b)(E:Lo C w)(k:ShAt C w s g0)(d:T.pc=.la)(r:g0=fR x)(Q:x.n<=C.N)(R:∀i,-1152921504606846976<=x.c i/\x.c i<=1152921504606846976)(U:iG C q A T O w c cs)(N:bO C.Cw C.aN.length c cs T g):pY C q A T y O g w s g0 x:=by
 have H:=W.here;obtain⟨st,e1⟩:=Lj d N;rw[<-H.P]at e1;have t:∀T',EvStop C T T' #[mk (.acquire (muA C))]:=λT'=>by unfold EvStop;rw[d]
 rcases U with⟨a1,a2,c0,a3,rfl,rfl⟩|⟨a1,m,J,rb,M,P,D,V,b5,rfl,rfl⟩;·refine⟨_,s,_,w,_,.sg d a1,by rw[H.P];exact st w,k,Eff.refl w,t _,λ_=>?_⟩;unfold il;rw[if_neg (by simp),if_pos d];show av C false true false (if x.n<C.N then some x.n else none) none _ O _ w;refine .aT e1 λw₁ o=>?_;have hold:bn C (Lo C) x w:=⟨⟨s.word,s.ms,r▸k.1⟩,E⟩;(have S:C.aN[2]?=some (.slice q.ra q.N q.rc):=by rw[W.aN];rfl);rw[<-Li (Ko.tk q c0) x.n];refine afF H oT (q:={Ko.tk q c0 with n:=x.n}) W.b S W.N rfl Q (hold.rl oT o) (λl F z h=>?_) λl F z h=>?_;(·refine .stop λu e=>?_;have a:=h.rl oT e;(have f:upd C T x=x:=by unfold upd;rw[a1,if_neg (by simp),if_neg (by omega)]);refine⟨j,a.2,.inr (.inl ⟨rfl,λ_=>by rw[f];exact a.1,_,_,.inl ⟨a1,c0,x.n,a3,rfl,.inl ⟨by show(if x.n<C.N then some x.n else none)=none;rw[if_neg (by omega)],rfl⟩⟩,_,⟨W.b,H.len.symm,rfl,rfl⟩,rfl⟩)⟩);·refine .stop λu e=>?_;have a:=h.rl oT e;(have f:upd C T x={x with n:=x.n+1}:=by unfold upd;rw[a1,if_neg (by simp),if_pos l]);refine⟨j,a.2,.inr (.inl ⟨rfl,λ_=>by rw[f];exact a.1,_,_,.inl ⟨a1,c0,x.n,a3,rfl,.inr ⟨x.n,by show(if x.n<C.N then some x.n else none)=some x.n;rw[if_pos l],l,rfl⟩⟩,_,⟨W.b,H.len.symm,rfl,rfl⟩,rfl⟩)⟩
 ·refine⟨_,s,_,w,_,.sW d a1,by rw[H.P];exact st w,k,Eff.refl w,t _,λ_=>?_⟩;unfold il;rw[if_neg (by simp),if_pos d];show av C false true false T.af none _ O _ w;refine .aT e1 λw₁ o=>?_;obtain⟨r1,r2,r3,p,I,Z,Y⟩:=nF C q A m J rb;obtain⟨d1,d2,d3,d4⟩:=W.aI m;(have G:(bI C q A m J rb).rb≠C.Cw:=by have:=j _ D;have:=H.low.1;rw[I];omega);(have L:O (bI C q A m J rb).rb:=by rw[I];exact D);have K:Kp C O T.af (oN (bI C q A m J rb) (Lo C)):=FM L G oT;have hold:bn C (oN (bI C q A m J rb) (Lo C)) x w:=⟨⟨s.word,s.ms,r▸k.1⟩,V,E⟩;have X:=W.sz m;(have f:upd C T x=dP (cE x (bI C q A m J rb).v) (bI C q A m J rb).s.data.toList:=by unfold upd;rw[if_pos a1,M,r3,p];exact W.bj m x P);refine Qp H (B:=1152921504606846976) oT (by rw[r1];exact W.b) L G (by rw[r2,r3];simpa using d3) (by rw[r2,p];simpa using d4) (by rw[p];omega) (hold.rl K o) R (by omega) λF z h=>?_;refine .stop λu e=>?_;have a:=h.rl K e;exact⟨j,a.2.2,.inr (.inl ⟨rfl,λ_=>by rw[f];exact a.1,_,_,.inr ⟨a1,m,J,rb,rfl,rfl⟩,_,⟨by show(bI C q A m J rb).b=_;rw[r1];exact W.b,H.len.symm,rfl,rfl⟩,rfl⟩)⟩
theorem Re(W:Wh C q A)(j:∀b,O b->C.low<=b)(p:Lo C w)(B:ShAt C w s g0)(a:T.pc=.ue)(x:GC)(D:mW C q A T c cs)(v:ew C.Cw C.aN.length c cs T g):pY C q A T y O g w s g0 x:=by have H:=W.here;obtain⟨st,e1⟩:=Px a v;refine⟨_,s,_,w,_,.ue a,by rw[H.P];exact st w,B,Eff.refl w,cu (by simp[a]) (by simp[a]) (by simp[a]) ?_,λz=>?_⟩;(·(have h1:aL T=1:=by simp[aL,a]);(have G:aL (next T)=0:=by unfold next;split<;>(try split)<;>rfl);rw[h1,G];exact pN);·have o:Bw C w:=⟨z,p⟩;unfold il;rcases D with⟨a1,c0,k,a3,rfl,⟨a4,rfl⟩|⟨m,a4,a5,rfl⟩⟩|⟨a1,m,J,rb,rfl,rfl⟩;(·rw[YL a1 a4,if_neg (by simp)];show av C false false false none none _ O _ w;(have e2:aa prog (R {Kt.kt {Ko.tk q c0 with n:=k}with mode:=.returning} (c0::[Ko.cl q,Ko.bs])) (R (c0.finish (.tuple #[.int .i64 0,.bool false])) [Ko.cl q,Ko.bs]):=by have:=Kt.PF {Ko.tk q c0 with n:=k};rw[show(R (c0.finish (.tuple #[.int .i64 0,.bool false])) [Ko.cl q,Ko.bs])=_ from this.symm];exact aV _ _ _);obtain⟨J,d⟩:=a3 0 false;have e:=e1.trans (e2.trans d);rw[<-H.P]at e;refine .aT e λw₁ f=>Xn W J (o.rl f) λr h=>.stop λK i=>⟨j,(h.rl i).2,.inr (.inr rfl)⟩);(·rw[afJ a1 a4,if_neg (by simp)];show av C false false false (some m) (some m) _ O _ w;(have E:IntKind.i64.wrap (((m+1:Nat):Int)-1)=(m:Nat):=by have Q:=H.cX;unfold IntKind.wrap;simp[IntKind.signed,IntKind.bits];omega);(have e2:aa prog (R {Kt.kG {Ko.tk q c0 with n:=k} (m+1:Nat)with mode:=.returning} (c0::[Ko.cl q,Ko.bs])) (R (c0.finish (.tuple #[.int .i64 (m:Nat),.bool true])) [Ko.cl q,Ko.bs]):=by have:=Kt.Ot {Ko.tk q c0 with n:=k} (m+1:Nat);rw[E]at this;rw[show(R (c0.finish (.tuple #[.int .i64 (m:Nat),.bool true])) [Ko.cl q,Ko.bs])=_ from this.symm];exact aV _ _ _);obtain⟨J,d⟩:=a3 (m:Nat) true;have e:=e1.trans (e2.trans d);rw[<-H.P]at e;refine .aT e λw₁ f=>NB W a5 J j (o.rl f) λN rb r I t h F=>.stop λK i=>?_;have u:=h.rl i;refine⟨I,u.1.2,.inl ⟨rfl,_,_,.inr ⟨rfl,m,J,rb,rfl,a5,t,?_,λ_=>u.2,rfl,rfl⟩,?_⟩⟩;(·unfold gO at*;rw[i.mine _ (by rw[(nF C q A m J rb).2.2.2.2.1];exact t)];exact F);·show _=Ld (q0 C.Cw C.aN.length _ _);rw[W.b,H.len]);·rw[LM a1,if_neg (by simp)];show av C false false false none none _ O _ w;obtain⟨r1,r2,r3,S,P,L,M⟩:=nF C q A m J rb;(have e2:aa prog (R {Kc.kU (bI C q A m J rb)with mode:=.returning} (bI C q A m J rb).ks) (R ((Ko.W7 (qm C q A m J)).frame.finish (.tuple #[])) [Ko.cl q,Ko.bs]):=by have:=Kc.Sj (bI C q A m J rb);rw[L,M]at this;rw[<-this];exact aV _ _ _);(have d:aa prog (R ((Ko.W7 (qm C q A m J)).frame.finish (.tuple #[])) [Ko.cl q,Ko.bs]) (Ko.W8 (qm C q A m J)):=by rw[<-yK C q A m J];unfold Ko.W8 Ko.tw;exact ay _ _ _ _ _);have l:=cU (Ko.X0 (qm C q A m J));rw[ZW]at l;have e:=e1.trans (e2.trans (d.trans (l.trans (Bp q _))));rw[<-H.P]at e;refine .aT e λw₁ f=>.stop λr h=>⟨j,(p.rl f).rl h,.inl ⟨rfl,_,_,.inl ⟨rfl,rfl,_,Ty C q A m J,rfl,rfl⟩,?_⟩⟩;show _=Ld (q0 C.Cw C.aN.length _ _);rw[W.b,H.len]
theorem ae0(W:Wh C q A)(h:mA C q A T y O g w):jv C (mA C q A) T y O g w:=by
 have H:=W.here;obtain⟨j,k,h⟩:=h;rcases h with⟨b,c,cs,i,a⟩|⟨b,r,c,cs,i,a⟩|a;·refine⟨(Ft a).1,(Ft a).2,?_,?_,?_,?_,?_⟩;(·rintro(e|e)<;>rw[e]at b<;>cases b);(·intro e1 e2 m p;rcases i with⟨a1,_⟩|⟨_,m',J,rb,u,_,_,_,t,_⟩;(·rw[a1]at e2;cases e2);·rw[u]at p;cases p;exact t e1);(·intro e;rw[e]at b;cases b);(·intro s g0 d e1 e2;rw[H.P];exact adO d e1 e2 a);·intro s g0 d l n x o;by_cases h1:T.pc=.le;(·exact ac5 W j k d h1 x i a);·by_cases h2:T.pc=.la;(·obtain⟨v,x2,x3⟩:=o h2;exact VM W j k d h2 v x2 x3 i a);·exact ac0 W j k d l b h1 h2 n x i a
 ·refine⟨(Cc a).1,(Cc a).2,?_,?_,r,?_,?_⟩;(·rintro(e|e);(·rw[H.P];exact OQ a e);·rw[e]at b;cases b);(·intro e;rw[e]at b;cases b);(·intro s g0 d e;rw[e]at b;cases b);·intro s g0 d l n x o;by_cases h1:T.pc=.ue;(·exact Re W j k d h1 x i a);·exact ae9 W j k d l b h1 x i a
 ·(have f:T.pc=.wr\/T.pc=.wd\/T.pc=.d1\/T.pc=.d2\/T.pc=.d3\/T.pc=.d4:=by unfold eH at a;split at a<;>simp_all);refine⟨(GI a).1,(GI a).2,?_,?_,?_,?_,?_⟩;(·rintro(e|e);(·rw[e]at f;simp at f);·rw[H.P];exact VH a e);(·intro e;rw[e]at f;simp at f);(·intro e;rw[e]at f;simp at f);(·intro s g0 d e;rw[e]at f;simp at f);·intro s g0 d l n x o;exact Nj W j k d l x a
end
end Ph
namespace Km
open Conc Kw Kl Ph
set_option maxRecDepth 100000
theorem Wy(q:Km):th 20 (fin (kF q) (.tuple #[]))=q.bk:=by kernel_rfl
theorem Na(q:Km)(x y:Int):th 10 (fin (lj q x y) (.tuple #[]))=q.bk:=by kernel_rfl
theorem We(q:Al):ak (tl 30 60 (fB (Lg q)).1) 7=q.J 7:=by kernel_rfl
theorem Mj:cK prog 129 (Extern.Race.marked .read) false:=⟨(prog.funcs[129]?).getD default,by kernel_rfl,by kernel_rfl,by kernel_rfl,by kernel_rfl,by kernel_rfl,by kernel_rfl⟩
theorem Ly:cK prog 139 (Extern.Race.marked .write) false:=⟨(prog.funcs[139]?).getD default,by kernel_rfl,by kernel_rfl,by kernel_rfl,by kernel_rfl,by kernel_rfl,by kernel_rfl⟩
theorem HH:cK prog 140 Extern.Sync.semacquire true:=⟨(prog.funcs[140]?).getD default,by kernel_rfl,by kernel_rfl,by kernel_rfl,by kernel_rfl,by kernel_rfl,by kernel_rfl⟩
theorem Jm:cK prog 177 (Extern.Atomic.casT (.int .u64)) true:=⟨(prog.funcs[177]?).getD default,by kernel_rfl,by kernel_rfl,by kernel_rfl,by kernel_rfl,by kernel_rfl,by kernel_rfl⟩
theorem Il:prog.underlying 195=some (.pointer 132):=by kernel_rfl
theorem Et:(prog.info? 132).map (λi=>decide (i.size=0))=some false:=by kernel_rfl
theorem aeQ{ad:Addr}(h:semAt g=some (do pure (.value (<-convert 195 189 (.pointer (some ad))))))(a:w.cell? ad=some v)(m:Bool):stepG prog m g w=.go (fin g (.pointer (some ad))) w #[]:=by have c:=run_convert_to_unsafe (P:=prog) Il oB Et a;have b:=events_convert_to_unsafe (P:=prog) Il oB Et a #[];rw[jN (v:=.pointer (some ad)) (w':=w) h (by simp[c])];simp[b,seen_none]
section
variable{a:Nat}(ha:a<=61)
include ha
theorem aeM:IntKind.u64.wrap (Kd.gw a 0+4294967296)=Kd.gw (a+1) 0:=by have:=Kd.mG (p:=λa b=>b==1||IntKind.u64.wrap (Kd.gw a 0+4294967296)==Kd.gw (a+1) 0) (by kernel_rfl) (a:=a) (b:=0) (by omega) (by omega);simpa using this
theorem P':IntKind.u64.wrap (Kd.gw a 0+1)=Kd.gw a 1:=by have:=Kd.mG (p:=λa b=>b==1||IntKind.u64.wrap (Kd.gw a 0+1)==Kd.gw a 1) (by kernel_rfl) (a:=a) (b:=0) (by omega) (by omega);simpa using this
end
theorem aaq{b c d:Nat}(f:b<=1)(e:d<=1)(h:Kd.gw a b=Kd.gw c d):a=c/\b=d:=by unfold Kd.gw at h;omega
end Km
namespace Ph
open Conc Kw Kl Km
set_option maxRecDepth 100000
def gC(C:Cx)(g g':Dm):Prop:=∃n,iU C n g g'
theorem gC.trans{C:Cx}{a b c:Dm}(h:gC C a b)(k:gC C b c):gC C a c:=let⟨_,x⟩:=h;let⟨_,y⟩:=k;⟨_,x.trans y⟩
theorem gC.of{C:Cx}(H:bU C){a b:Dm}(h:aa prog a b):gC C a b:=by obtain⟨n,x⟩:=h;rw[<-H.P]at x;exact⟨n,iU.of x⟩
theorem fe{C:Cx}{MAt:Mt->Dm->DS->Prop}{M:Mt}{a:Dm}(h:gC C g a)(k:∀b,Rl C gS false none w b->MAt M a b):∃n,ib C MAt M n g w:=let⟨n,x⟩:=h;⟨n,a,x,k⟩
section
attribute[local irreducible]fin aK aM th ta tb Km.tl lq fB Md Ma lR mf Km.fK mz iT Km.Mv Mr iA lU mI ig oW K0 WL W1 kQ lI kF lW mM mn mq W2 Wc Ww lY W3 W4 j3 Km.fO lj LH L6 Km.Lg L9 pz
theorem aA(fn d n:Nat)(g:Dm):aa prog g (aK prog fn d n g):=ay _ _ _ _ _
theorem Fz(q:Km.Km)(j:a<=62):aa prog (fin (Ma q) (.int .u64 (Kd.gw a 0))) (iT q (Kd.gw a 0) a):=by
 have e1:aa prog (fin (Ma q) (.int .u64 (Kd.gw a 0))) (lR q (Kd.gw a 0)):=by unfold lR ta;exact aA _ _ _ _
 have e2:=bZ (acb q (Kd.gw a 0)) (Kd.pT (Kd.Ao (a:=a) (b:=0) (by omega) (by omega)));have e:aa prog (fin (lR q (Kd.gw a 0)) (.int .u64 0)) (mf q (Kd.gw a 0)):=by unfold mf ta;exact aA _ _ _ _
 have f:=bZ (aba q (Kd.gw a 0)) (Kd.wO (Kd.yt (a:=a) (b:=0) (by omega) (by omega)));have h:aa prog (fin (mf q (Kd.gw a 0)) (.int .u64 a)) (Km.fK q (Kd.gw a 0) a):=by unfold Km.fK ta;exact aA _ _ _ _
 have c:=bZ (Km.yZ q (Kd.gw a 0) a) (Kd.xE a);rw[Kd.ze (a:=a) (b:=0) (by omega) (by omega)]at c;have g:aa prog (fin (Km.fK q (Kd.gw a 0) a) (.int .i32 a)) (mz q (Kd.gw a 0) a):=by unfold mz ta;exact aA _ _ _ _
 have i:=bZ (Oy q (Kd.gw a 0) a) (Kd.pT (Kd.xK (a:=a) (b:=0) (by omega) (by omega)));have d:aa prog (fin (mz q (Kd.gw a 0) a) (.int .u64 (0:Nat))) (iT q (Kd.gw a 0) a):=by unfold iT ta;exact aA _ _ _ _
 exact e1.trans (e2.trans (e.trans (f.trans (h.trans (c.trans (g.trans (i.trans d)))))))
theorem ahW(q:Km.Km):aa prog (fin (Ma q) (.int .u64 (Kd.gw 1 0))) (Km.Mv q (Kd.gw 1 0)):=by have e:=Fz q (a:=1) (by omega);have e1:=bZ (DW q (Kd.gw 1 0) 1) (cJ .i32 (r:=true) rfl);(have e2:aa prog (fin (iT q (Kd.gw 1 0) 1) (.bool true)) (Km.Mv q (Kd.gw 1 0)):=by unfold Km.Mv ta;exact aA _ _ _ _);exact e.trans (e1.trans e2)
theorem Vn(q:Km.Km)(c:a<=62)(h:2<=a):aa prog (fin (Ma q) (.int .u64 (Kd.gw a 0))) (ig q (Kd.gw a 0) a):=by
 have e:=Fz q c;have e1:=bZ (DW q (Kd.gw a 0) a) (cJ .i32 (r:=false) (by simp;omega));have e2:aa prog (fin (iT q (Kd.gw a 0) a) (.bool false)) (lU q (Kd.gw a 0) a):=by unfold lU ta;exact aA _ _ _ _
 have f:=bZ (ahC q (Kd.gw a 0) a) (Kd.Jv .i32 (r:=false) (by simp));have d:aa prog (fin (lU q (Kd.gw a 0) a) (.bool false)) (mI q (Kd.gw a 0) a):=by unfold mI ta;exact aA _ _ _ _
 have g:=bZ (Xi q (Kd.gw a 0) a) (pE .i32 (r:=true) (by simp;omega));have b:aa prog (fin (mI q (Kd.gw a 0) a) (.bool true)) (ig q (Kd.gw a 0) a):=by unfold ig th;exact aV _ _ _
 exact e.trans (e1.trans (e2.trans (f.trans (d.trans (g.trans b)))))
theorem Qa(q:Km.Km)(j:a<=62)(h0:a≠0):aa prog (fin (W1 q) (.int .u64 (Kd.gw a 0))) (W2 q (Kd.gw a 0) a):=by
 have e1:aa prog (fin (W1 q) (.int .u64 (Kd.gw a 0))) (lW q (Kd.gw a 0)):=by unfold lW tb;exact aA _ _ _ _
 have e2:=bZ (aex q (Kd.gw a 0)) (Kd.wO (Kd.yt (a:=a) (b:=0) (by omega) (by omega)));have e:aa prog (fin (lW q (Kd.gw a 0)) (.int .u64 a)) (mM q (Kd.gw a 0) a):=by unfold mM tb;exact aA _ _ _ _
 have c:=bZ (RV q (Kd.gw a 0) a) (Kd.xE a);rw[Kd.ze (a:=a) (b:=0) (by omega) (by omega)]at c;have f:aa prog (fin (mM q (Kd.gw a 0) a) (.int .i32 a)) (mn q (Kd.gw a 0) a):=by unfold mn tb;exact aA _ _ _ _
 have h:=bZ (ac2 q (Kd.gw a 0) a) (Kd.pT (Kd.xK (a:=a) (b:=0) (by omega) (by omega)));have g:aa prog (fin (mn q (Kd.gw a 0) a) (.int .u64 (0:Nat))) (mq q (Kd.gw a 0) a):=by unfold mq tb;exact aA _ _ _ _
 have i:=bZ (agO q (Kd.gw a 0) a) (cJ .i32 (r:=false) (by simp;omega));have d:aa prog (fin (mq q (Kd.gw a 0) a) (.bool false)) (W2 q (Kd.gw a 0) a):=by unfold W2 th;exact aV _ _ _
 exact e1.trans (e2.trans (e.trans (c.trans (f.trans (h.trans (g.trans (i.trans d)))))))
theorem OK(q:Km.Km):aa prog (fin (W1 q) (.int .u64 (Kd.gw 0 0))) (kQ q):=by unfold kQ tb;exact aA _ _ _ _
theorem aaC(q:Km.Km)(d:a<=62)(y:Int):aa prog (fin (Ww q (Kd.gw a 0) y) (.tuple #[])) (W3 q (Kd.gw a 0) y):=by
 have e1:aa prog (fin (Ww q (Kd.gw a 0) y) (.tuple #[])) (lY q (Kd.gw a 0) y):=by unfold lY tb;exact aA _ _ _ _
 have e2:=bZ (Xf q (Kd.gw a 0) y) (Kd.pT (Kd.Ao (a:=a) (b:=0) (by omega) (by omega)));have c:aa prog (fin (lY q (Kd.gw a 0) y) (.int .u64 0)) (W3 q (Kd.gw a 0) y):=by unfold W3 th;exact aV _ _ _
 exact e1.trans (e2.trans c)
variable{C:Cx}
theorem Jn(H:bU C)(h:semAt g=some (do pure (.value (<-convert 195 189 (.pointer (some (eI C))))))):gC C g (fin g (.pointer (some (eI C)))):=by have a:=(aY h).1;refine⟨1,_,⟨a,by unfold fin;exact a,λm w c=>?_⟩,rfl⟩;obtain⟨⟨s,d,_,b⟩,_⟩:=c;rw[H.P];exact aeQ h (wF b) m
theorem I0(H:bU C)(h:semAt g=some (do pure (.value (<-convert 187 189 (.pointer (some (dC C))))))):gC C g (fin g (.pointer (some (dC C)))):=by have a:=(aY h).1;refine⟨1,_,⟨a,by unfold fin;exact a,λm w c=>?_⟩,rfl⟩;obtain⟨⟨s,d,_,b⟩,_⟩:=c;rw[H.P];exact Da h (kR b) m
def al(C:Cx)(cb:Nat)(cs:B8)(i:Nat)(J:Nat->Fi):Al:={wg:=C.Wg,cb:=cb,n:=C.n,i:=i,J:=J,cs:=cs}
def MA(C:Cx)(cb:Nat)(cs:B8)(v7:Fi)(M:Mt)(g:Dm)(w:DS):Prop:=Lo C w/\∃J,J 7=v7/\match M.pc with|.md=>M.i<C.n/\g=Md (ad (al C cb cs M.i J))|.ma=>M.i<C.n/\g=Ma (ad (al C cb cs M.i J))|.mr=>M.i<C.n/\g=Mr (ad (al C cb cs M.i J)) (Kd.gw 1 0)|.me=>M.i<C.n/\(g=iA (ad (al C cb cs M.i J)) (Kd.gw 1 0)\/∃x y,g=ig (ad (al C cb cs M.i J)) x y)|.mg=>M.i<C.n/\g=Km.Lg (al C cb cs M.i J)|.kd=>g=K0 (bw (al C cb cs C.n J))|.w1=>∃b,g=W1 {bw (al C cb cs C.n J)with J:=b}|.w2=>∃b,g=W2 {bw (al C cb cs C.n J)with J:=b} (Kd.gw M.cnt 0) M.cnt|.ww=>∃b a,a<=60/\g=Ww {bw (al C cb cs C.n J)with J:=b} (Kd.gw a 0) a|.w3=>∃b x y,g=W3 {bw (al C cb cs C.n J)with J:=b} x y|.w4=>∃b x y,g=W4 {bw (al C cb cs C.n J)with J:=b} x y|.ke=>∃b,g=kQ {bw (al C cb cs C.n J)with J:=b}\/∃x y,g=j3 {bw (al C cb cs C.n J)with J:=b} x y|.aq=>∃b,g=kF {bw (al C cb cs C.n J)with J:=b}\/∃x y,g=lj {bw (al C cb cs C.n J)with J:=b} x y
def HM(C:Cx)(cb:Nat)(cs:B8)(v7:Fi)(g:Dm):Prop:=∃J,J 7=v7/\aa prog g (bw (al C cb cs C.n J)).bk
end
end Ph
namespace Ph
open Conc ConcN Kw Kl Km Co
set_option maxRecDepth 100000
theorem qd{i:TypeInfo}{z:B6}(b:P.info? t=some i)(a:i.zero=some (.agg z))(w:DS):(do pure (.value (<-Instr.alloc t true (.tuple #[]))):Sem Next).run P w=.ok (.value (.pointer (some ⟨w.heap.size,0,none⟩))) {w with heap:=w.heap.push (.cells z t (0,0))}/\(do pure (.value (<-Instr.alloc t true (.tuple #[]))):Sem Next).events P w #[]=#[]:=by
 have h0:(typeInfo t).run P w=.ok i w:=by show((Sem.program Sem.pure).bind _).run P w=_;simp only[Sem.bind,Sem.run];rw[b];rfl
 have h1:(zeroValue t).run P w=.ok (.agg z) w:=by show((typeInfo t).bind _).run P w=_;rw[Co.run_bind,h0];simp only[a];rfl
 constructor;·simp only[Instr.alloc,Sem.run_bind,h1,Result.andThen_ok,newVar];rfl
 ·simp[Instr.alloc,Sem.events_bind,h1,newVar];rfl
theorem i39:((prog.info? 39).map (·.zero))=some (some (.agg #[.int .i64 0,.int .i64 0,.int .i64 0,.int .i64 0,.int .i64 0,.int .i64 0,.int .i64 0,.int .i64 0,.int .i64 0,.int .i64 0,.int .i64 0])):=by kernel_rfl
theorem i145:((prog.info? 145).map (·.zero))=some (some (.agg #[.int .u64 0,.int .u32 0])):=by kernel_rfl
section
attribute[local irreducible]fin aK aM th Km.tl E0 B0 B1 B2
theorem Ss{Sh:Loc->Prop}{Fin:B9->DS->B3->Trace->Prop}{t:Trace}{a:Fi}{x y:Int}{cs:B8}(A:dN prog Sh gs w t (E0 a b (.agg #[.int .i64 x,.int .i64 y]) cs))(k:∀e w' E m,e.size=gs.size->w'.heap=(w.heap.push (.cells #[.int .i64 x,.int .i64 y] 45 (0,0))).push (.cells #[.int .i64 0,.int .i64 0,.int .i64 0,.int .i64 0,.int .i64 0,.int .i64 0,.int .i64 0,.int .i64 0,.int .i64 0,.int .i64 0,.int .i64 0] 39 (0,0))->w'.tape=w.tape/\w'.output=w.output/\w'.os=w.os->dN prog Sh e w' m (B2 a b (.agg #[.int .i64 x,.int .i64 y]) (.pointer (some ⟨w.heap.size,0,none⟩)) (.pointer (some ⟨w.heap.size+1,0,none⟩)) cs)->Co.Comes prog Fin e w' E m):Co.Comes prog Fin gs w sl t:=by
 obtain⟨i,f,g⟩:∃i,prog.info? 39=some i/\i.zero=some (.agg #[.int .i64 0,.int .i64 0,.int .i64 0,.int .i64 0,.int .i64 0,.int .i64 0,.int .i64 0,.int .i64 0,.int .i64 0,.int .i64 0,.int .i64 0]):=by have h:=i39;cases j:prog.info? 39 with|none=>rw[j]at h;cases h|some i=>rw[j]at h;exact⟨i,rfl,Option.some.inj h⟩
 have G:aa prog (E0 a b (.agg #[.int .i64 x,.int .i64 y]) cs) (B0 a b (.agg #[.int .i64 x,.int .i64 y]) cs):=by unfold B0 Km.tl;exact aA _ _ _ _
 refine A.aT G λS w1 T t1 J s1 s=>?_;refine s.one (aY (Ip a b _ cs)).1 λw2 s2=>⟨_,_,_,jN (Ip a b _ cs) (pM w2 45 _).1 true,?_,?_,λK M N u v=>?_⟩;·rw[(pM w2 45 _).2,Co.Ir];simp
 ·simp
 have e1:aa prog (fin (B0 a b (.agg #[.int .i64 x,.int .i64 y]) cs) (.pointer (some ⟨w2.heap.size,0,none⟩))) (B1 a b (.agg #[.int .i64 x,.int .i64 y]) cs (.pointer (some ⟨w2.heap.size,0,none⟩))):=by unfold B1 Km.tl;exact aA _ _ _ _
 refine v.aT e1 λO w4 U L z d B=>?_;refine B.one (aY (Gg a b _ cs _)).1 λc s5=>⟨_,_,_,jN (Gg a b _ cs _) (qd f g c).1 true,?_,?_,λP Q R C r=>?_⟩;·rw[(qd f g c).2,Co.Ir];simp
 ·simp
 have e2:aa prog (fin (B1 a b (.agg #[.int .i64 x,.int .i64 y]) cs (.pointer (some ⟨w2.heap.size,0,none⟩))) (.pointer (some ⟨c.heap.size,0,none⟩))) (B2 a b (.agg #[.int .i64 x,.int .i64 y]) (.pointer (some ⟨w2.heap.size,0,none⟩)) (.pointer (some ⟨c.heap.size,0,none⟩)) cs):=by rw[<-Ws];unfold th;exact aV _ _ _
 refine r.aT e2 λF n D I H s7 l=>?_;have o:w2.heap=w.heap:=s2.1.trans s1.1;have p:c.heap=w.heap.push (.cells #[.int .i64 x,.int .i64 y] 45 (0,0)):=(s5.1.trans d.1).trans (by show w2.heap.push _=_;rw[o]);have q:n.heap=(w.heap.push (.cells #[.int .i64 x,.int .i64 y] 45 (0,0))).push (.cells #[.int .i64 0,.int .i64 0,.int .i64 0,.int .i64 0,.int .i64 0,.int .i64 0,.int .i64 0,.int .i64 0,.int .i64 0,.int .i64 0,.int .i64 0] 39 (0,0)):=s7.1.trans (by show c.heap.push _=_;rw[p]);rw[o,p,Array.size_push]at l;exact k F n D I (H.trans (C.trans (z.trans (u.trans J)))) q ⟨s7.2.1.trans (s5.2.1.trans (d.2.1.trans (s2.2.1.trans s1.2.1))),s7.2.2.1.trans (s5.2.2.1.trans (d.2.2.1.trans (s2.2.2.1.trans s1.2.2.1))),s7.2.2.2.trans (s5.2.2.2.trans (d.2.2.2.trans (s2.2.2.2.trans s1.2.2.2)))⟩ l
end
set_option maxRecDepth 100000
section
variable{D:Array Bool}{i j:Nat}
theorem lF(h:i<D.size):(D.setIfInBounds i true).getD i false=true:=by rw[Array.getD_eq_getD_getElem?,Array.getElem?_setIfInBounds_self_of_lt h];rfl
theorem cO(h:j≠i):(D.setIfInBounds i true).getD j false=D.getD j false:=by rw[Array.getD_eq_getD_getElem?,Array.getD_eq_getD_getElem?,Array.getElem?_setIfInBounds_ne (Ne.symm h)]
theorem zT{ops:Array Oper}{o:Oper}{rest:List Nat}(f:da g=some ops)(c:g.frame.kind=.normal)(d:sound ops=true)(b:ops[i]?=some o)(h:D.size=ops.size)(h0:D.getD i false=false)(j:∀e∈o.after,Region.binds .any e=true->D.getD e.on false=true)(a:(xo g ops (bc V i v) i).map (calm? P)=some (some (.value v))):aa P (stA g ops V D (i::rest)) (stA g ops (bc V i v) (D.setIfInBounds i true) rest):=by have:=rC (P:=P) (V:=bc V i v) (rest:=rest) f (by rw[c];simp) d b h j (by unfold xo at a;rw[b]at a;simp only[Option.map_some,Option.some.injEq]at a;rw[a];unfold bc;rw[if_pos rfl]);rw[F7 h0]at this;exact this
end
def kE(N:Nat):B6:=madeCells (Value.agg #[.string ⟨#[]⟩,.int .i64 0,.int .i64 0,.string ⟨#[]⟩,.int .i64 0,.int .i64 0,.string ⟨#[]⟩,.string ⟨#[]⟩]).cells (N*8)
abbrev bp(N g:Nat):Fi:=.slice (some ⟨g,0,none⟩) N N
abbrev cj(g:Nat):Fi:=.pointer (some ⟨g,0,none⟩)
def F2(q:Tw)(bd:Int)(S:Nat)(i:Nat)(V:Nat->Fi)(w:DS):Prop:=match i with|0=>V 0=q.a|1=>V 1=q.px|2=>V 2=q.b|3=>V 3=q.p5|4=>V 4=.int .i64 bd|5=>V 5=q.b|6=>V 6=.int .i64 q.N|7=>∃g,V 7=bp q.N g/\S<=g/\w.heap[g]?=some (.cells (kE q.N) 52 (0,0))|8=>∃g,V 7=bp q.N g/\V 8=.agg (fA q bd g)|9=>∃g cw,V 7=bp q.N g/\V 9=cj cw/\S<=cw/\g≠cw/\w.heap[cw]?=some (.cells (fA q bd g) 138 (0,0))|10=>∃cb,V 10=cj cb/\S<=cb|_=>True
structure I2(q:Tw)(bd:Int)(w0:DS)(D:Array Bool)(V:Nat->Fi)(U:Loc->Prop)(w:DS):Prop where
 ext:aP w0 w
 f:∀i,D.getD i false=true->F2 q bd w0.heap.size i V w
 c8:D.getD 8 false=true->D.getD 7 false=true
 c9:D.getD 9 false=true->D.getD 7 false=true
 qw:D.getD 11 false=true->D.getD 9 false=true
 si:D.getD 11 false=true->D.getD 10 false=true
 cb:D.getD 10 false=true->∀cb,V 10=cj cb->w.heap[cb]?=some (.cells #[if D.getD 11 false=true then V 9 else .pointer none] 129 (0,0))
 n7:D.getD 7 false=true->D.getD 10 false=true->∀g cb,V 7=bp q.N g->V 10=cj cb->g≠cb
 n9:D.getD 9 false=true->D.getD 10 false=true->∀cw cb,V 9=cj cw->V 10=cj cb->cw≠cb
 u1:∀a,U (.cell a)->(D.getD 7 false=true/\V 7=bp q.N a.block)\/(D.getD 9 false=true/\V 9=cj a.block)
 u7:D.getD 7 false=true->∀g,V 7=bp q.N g->∀a:Addr,a.block=g->U (.cell a)
 u9:D.getD 9 false=true->∀g,V 9=cj g->∀a:Addr,a.block=g->U (.cell a)
section
variable{q:Tw}{bd:Int}{w0 w w':DS}{D:Array Bool}{V:Nat->Fi}{U:Loc->Prop}
theorem bT(h:j≠i):bc V i v j=V j:=if_neg h
theorem dK:bc V i v i=v:=if_pos rfl
theorem F2.keep{S:Nat}(h:F2 q bd S j V w)(u:D.getD i false=false)(a:D.getD j false=true)(r:D.getD 8 false=true->D.getD 7 false=true)(s:D.getD 9 false=true->D.getD 7 false=true)(m:∀b o,S<=b->(∃c t,o=Obj.cells c t (0,0)/\t≠129)->w.heap[b]?=some o->w'.heap[b]?=some o):F2 q bd S j (bc V i v) w':=by(have ne:∀k,D.getD k false=true->k≠i:=λk l e=>by subst e;rw[u]at l;cases l);match j with|0=>exact(bT (ne 0 a)).trans h|1=>exact(bT (ne 1 a)).trans h|2=>exact(bT (ne 2 a)).trans h|3=>exact(bT (ne 3 a)).trans h|4=>exact(bT (ne 4 a)).trans h|5=>exact(bT (ne 5 a)).trans h|6=>exact(bT (ne 6 a)).trans h|7=>obtain⟨g,h1,d,f⟩:=h;exact⟨g,(bT (ne 7 a)).trans h1,d,m g _ d ⟨_,_,rfl,by decide⟩ f⟩|8=>obtain⟨g,h1,d⟩:=h;exact⟨g,(bT (ne 7 (r a))).trans h1,(bT (ne 8 a)).trans d⟩|9=>obtain⟨g,cw,h1,d,f,x,p⟩:=h;exact⟨g,cw,(bT (ne 7 (s a))).trans h1,(bT (ne 9 a)).trans d,f,x,m cw _ f ⟨_,_,rfl,by decide⟩ p⟩|10=>obtain⟨cb,h1,d⟩:=h;exact⟨cb,(bT (ne 10 a)).trans h1,d⟩|n+11=>trivial
theorem I2.quiet(h:I2 q bd w0 D V U w)(f:Same w w')(x:D.getD i false=false)(z:i<D.size)(m:i≠7)(p:i≠9)(n:i≠10)(y:i≠11)(t:i=8->D.getD 7 false=true)(u:F2 q bd w0.heap.size i (bc V i v) w'):I2 q bd w0 (D.setIfInBounds i true) (bc V i v) U w':=by
 have a:=cO (D:=D) (i:=i) (j:=7) (Ne.symm m);have c:=cO (D:=D) (i:=i) (j:=9) (Ne.symm p);have d:=cO (D:=D) (i:=i) (j:=10) (Ne.symm n);have k:=cO (D:=D) (i:=i) (j:=11) (Ne.symm y);have V7:bc V i v 7=V 7:=bT (Ne.symm m);have e:bc V i v 9=V 9:=bT (Ne.symm p);have g:bc V i v 10=V 10:=bT (Ne.symm n);refine⟨h.ext.trans (.same f),λj l=>?_,λr=>?_,?_,by rw[c,k];exact h.qw,by rw[d,k];exact h.si,?_,?_,?_,?_,?_,?_⟩;·by_cases hji:j=i;(·subst hji;exact u);·rw[cO hji]at l;exact(h.f j l).keep x l h.c8 h.c9 λb o _ _ s=>by rw[f.1];exact s
 ·rw[a];by_cases h8i:i=8;(·exact t h8i);·rw[cO (Ne.symm h8i)]at r;exact h.c8 r
 ·rw[a,c];exact h.c9
 ·rw[d,k,g,e,f.1];exact h.cb
 ·rw[a,d,V7,g];exact h.n7
 ·rw[c,d,e,g];exact h.n9
 ·rw[a,c,V7,e];exact h.u1
 ·rw[a,V7];exact h.u7
 ·rw[c,e];exact h.u9
end
end Ph
end
end Go.Proofs.YtjebhbopmfcopaaGreatDoor
