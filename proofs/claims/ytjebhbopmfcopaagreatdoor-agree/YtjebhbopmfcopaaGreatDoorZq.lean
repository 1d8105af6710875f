/- Agree, a part. -/
import Derived.Test.YtjebhbopmfcopaaGreatDoorZf
import Derived.Test.YtjebhbopmfcopaaGreatDoorZp
set_option maxRecDepth 100000
set_option maxHeartbeats 800000
namespace Go.Proofs.YtjebhbopmfcopaaGreatDoor
open Go.Proofs Tryz
noncomputable section
variable{c:Frame}{bd n:Int}{ks:Fi}{nm s:Dm}{g m:Nat}{w:HA}
namespace Co
open Ph Kw RowKit
section
open Classical
def mH(RO:Nat->Prop)(w:HA):HA:={w with heap:=w.heap.mapIdx λb o=>if RO b then(match o with|.cells c t _=>.cells c t (0,c.size)|o=>o)else o}
theorem pu(RO:Nat->Prop)(w:HA)(b:Nat):(mH RO w).heap[b]?=(w.heap[b]?).map λo=>if RO b then(match o with|.cells c t _=>.cells c t (0,c.size)|o=>o)else o:=by show(w.heap.mapIdx _)[b]?=_;rw[Array.getElem?_mapIdx]
theorem Zy(RO:Nat->Prop)(w:HA)(a:Addr):(mH RO w).cell? a=w.cell? a:=by unfold World.cell?;rw[pu];cases w.heap[a.block]? with|none=>rfl|some o=>by_cases hr:RO a.block;(·simp only[Option.map_some,hr,if_true];cases o<;>rfl);·simp only[Option.map_some,hr,if_false]
theorem JQ(RO:Nat->Prop)(w:HA):(mH RO w).heap.size=w.heap.size:=by show(w.heap.mapIdx _).size=_;simp
theorem K'{RO:Nat->Prop}(h:aT w):aT (mH RO w):=by refine⟨λk c e d=>?_,?_⟩;(·rw[pu]at d;obtain⟨o,a,b⟩:=Option.map_eq_some_iff.1 d;split at b;(·cases o with|pending g f=>exact h.1 k g f a|_=>cases b);·rw[b]at a;exact h.1 k c e a);·obtain⟨c,e,fz,h0⟩:=h.2;by_cases hr:RO 0;(·exact⟨c,e,(0,c.size),by rw[pu,h0];simp[hr]⟩);·exact⟨c,e,fz,by rw[pu,h0];simp[hr]⟩
end
structure ol(C:Cx)(cs:List Pr)(Gc cc bx gt ct gb cb:Nat):Prop where
 P:C.P=prog
 right:Se.ib cs
 small:∀x∈cs,x.1.length<=140737488355327
 zB:C.low<=C.w0.heap.size
 cw:C.Cw<C.low
 rc:C.Rc<C.low
 ro:∀b,(b=Gc\/b=bx\/b=gt\/b=gb)->10<=b/\b<C.low/\b≠C.Cw/\b≠C.Wg/\b≠C.Rc/\∀a:Addr,a.block=b->¬C.iF (.cell a)
 row:∀b,(b=Gc\/b=gt\/b=gb)->∃c t,C.w0.heap[b]?=some (.cells c t (0,0))/\0<c.size/\bL c
 ix:∃t,C.w0.heap[bx]?=some (.cells #[.slice (some ⟨gt,0,none⟩) cs.length ct,.slice (some ⟨gb,0,none⟩) cs.length cb] t (0,0))
 src:∀j u,(aS cs)[j]?=some u->C.w0.cell? ((⟨Gc,0,none⟩:Addr).add j)=some u
 aI:∀k(h:k<cs.length),C.w0.cell? ⟨gt,k,none⟩=some (Ix.str 1 cs[k])
 il:∀k(h:k<cs.length),C.w0.cell? ⟨gb,k,none⟩=some (Ix.str 2 cs[k])
section
variable{C:Cx}{cs:List Pr}{Gc cc bx gt ct gb cb:Nat}
def ew(Gc bx gt gb:Nat)(b:Nat):Prop:=b=Gc\/b=bx\/b=gt\/b=gb
def rA(Gc bx gt gb:Nat):Rn:=λa b=>a=b/\ew Gc bx gt gb a
theorem qB:prog.globals.size=10:=globals_size
theorem ol.cells(H:ol C cs Gc cc bx gt ct gb cb){b:Nat}(e:ew Gc bx gt gb b):∃c t,C.w0.heap[b]?=some (.cells c t (0,0))/\0<c.size/\AR prog.globals.size (rA Gc bx gt gb) c c:=by
 have one:b=Gc\/b=gt\/b=gb->∃c t,C.w0.heap[b]?=some (.cells c t (0,0))/\0<c.size/\AR prog.globals.size (rA Gc bx gt gb) c c:=λh=>by obtain⟨c,t,h1,a,f⟩:=H.row b h;exact⟨c,t,h1,a,f.ar _ _⟩
 rcases e with h|h|h|h;·exact one (.inl h)
 ·subst h;obtain⟨t,g⟩:=H.ix;refine⟨_,t,g,by simp,⟨rfl,λi h1 a=>?_⟩⟩;have d:=(H.ro gt (.inr (.inr (.inl rfl)))).1;have g2:=(H.ro gb (.inr (.inr (.inr rfl)))).1;match i,h1 with|0,_=>exact .sl ⟨gt,0,none⟩ gt _ _ ⟨rfl,.inr (.inr (.inl rfl))⟩ (.inl (by rw[qB];exact d))|1,_=>exact .sl ⟨gb,0,none⟩ gb _ _ ⟨rfl,.inr (.inr (.inr rfl))⟩ (.inl (by rw[qB];exact g2))
 ·exact one (.inr (.inl h))
 ·exact one (.inr (.inr h))
theorem ol.NL(H:ol C cs Gc cc bx gt ct gb cb):uL C (ew Gc bx gt gb):=⟨λb a=>let⟨_,h1,c,d,e,_⟩:=H.ro b a;⟨h1,c,d,e⟩,λb a=>(H.ro b a).2.2.2.2.2,H.cw,H.rc⟩
theorem YI(h1:C.Cw<C.low)(i:C.Wg<C.low)(k:C.Rc<C.low):Kept C (some m) (Bw C):=by refine⟨λw h=>h.2.1,λO w l h r=>h.rl r,λw w' h j d=>⟨?_,Nat.le_trans h.2.1 j,λb k1 a c e=>(d b k1).trans (h.2.2 b k1 a c e)⟩⟩;obtain⟨⟨⟨s,g,k1,a,c⟩,cs,e,f⟩,_⟩:=h;exact⟨⟨s,g,k1,⟨(d _ h1).trans a.1,a.2⟩,by unfold WgAt at c⊢;rw[d _ i];exact c⟩,cs,(d _ k).trans e,f⟩
theorem Ws(H:ol C cs Gc cc bx gt ct gb cb)(a0:C.Wg<C.low){lt:Dm}(a7:nm.length<=140737488355327)(a2:lt.length<=140737488355327){L:(Nat->Prop)->Gq->HA->Prop}{O:Nat->Prop}(hO:∀b,O b->C.low<=b)(S:Bw C w)(k:∀U V,(∀b,U b->C.low<=b)->Bw C V->av C false false false (some m) (some m) L U (R (c.finish (.tuple #[.agg (Rc.aA (Al.align nm lt bd cs)),.int .i64 (Al.err bd lt)])) ks) V):av C false false false (some m) (some m) L O (R (Frame.enter prog 20 #[.slice (some ⟨Gc,0,none⟩) cs.length cc,.pointer (some ⟨bx,0,none⟩),.agg #[.string ⟨nm.toArray⟩,.string ⟨lt.toArray⟩],.int .i64 bd] .normal) (c::ks)) w:=by
 have RO:=H.NL;have a1:=S.2;have X:∀b,ew Gc bx gt gb b->w.heap[b]?=C.w0.heap[b]?:=λb l=>let⟨_,k1,k2,k3,k4,_⟩:=H.ro b l;a1.2 b k1 k2 k3 k4;obtain⟨tx,M⟩:=H.ix;have z:aT (only (ew Gc bx gt gb) C.w0):=zq (G:=prog.globals.size) (λb l=>by obtain⟨cl,t,h1,_,y⟩:=H.cells l;exact⟨cl,t,_,h1,y⟩) (by have:=H.zB;have:=(H.ro Gc (.inl rfl)).2.1;omega);have s:∀b,ew Gc bx gt gb b->(only (ew Gc bx gt gb) C.w0).heap[b]?=C.w0.heap[b]?:=λb l=>mf l;have B:∀a:Addr,ew Gc bx gt gb a.block->(only (ew Gc bx gt gb) C.w0).cell? a=C.w0.cell? a:=λa o=>sk o;have q:(only (ew Gc bx gt gb) C.w0).heap.size=C.w0.heap.size:=jg _ _;generalize only (ew Gc bx gt gb) C.w0=v0 at z s B q;have gG:=(H.ro Gc (.inl rfl)).1;have gX:=(H.ro bx (.inr (.inl rfl))).1;have a9:AR prog.globals.size (rA Gc bx gt gb) #[.slice (some ⟨Gc,0,none⟩) cs.length cc,.pointer (some ⟨bx,0,none⟩),.agg #[.string ⟨nm.toArray⟩,.string ⟨lt.toArray⟩],.int .i64 bd] #[.slice (some ⟨Gc,0,none⟩) cs.length cc,.pointer (some ⟨bx,0,none⟩),.agg #[.string ⟨nm.toArray⟩,.string ⟨lt.toArray⟩],.int .i64 bd]:=by refine⟨rfl,λi h1 F=>?_⟩;match i,h1 with|0,_=>exact .sl ⟨Gc,0,none⟩ Gc _ _ ⟨rfl,.inl rfl⟩ (.inl (by rw[qB];exact gG))|1,_=>exact .ptr ⟨bx,0,none⟩ bx ⟨rfl,.inr (.inl rfl)⟩ (.inl (by rw[qB];exact gX))|2,_=>exact(jf (.agg #[.string ⟨nm.toArray⟩,.string ⟨lt.toArray⟩]) rfl).vr _ _|3,_=>exact .int _ _
 have N:prog.globals.size<=C.w0.heap.size:=by rw[qB];have:=(H.ro Gc (.inl rfl)).2.1;have:=H.zB;omega
 have A:WR KA prog (rA Gc bx gt gb) v0 w:=by refine⟨?_,?_,?_,by rw[q];exact N,(λg n=>by cases n),(λg n=>by cases n),λg n=>by cases n⟩;(·rintro a b⟨rfl,l⟩;obtain⟨cl,t,h1,_,y⟩:=H.cells l;exact⟨_,_,(s a l).trans h1,(X a l).trans h1,.cells t y (.inl rfl)⟩);(·rintro a a' b⟨rfl,_⟩⟨rfl,_⟩;rfl);·rintro a b b'⟨rfl,_⟩⟨rfl,_⟩;rfl
 have a3:nC (ew Gc bx gt gb) (mH (ew Gc bx gt gb) v0):=λb l=>by obtain⟨cl,t,h1,F,_⟩:=H.cells l;exact⟨cl,t,(0,cl.size),by rw[pu,s b l,h1];simp[l],λoff E=>⟨Nat.zero_le _,E⟩,F⟩
 have W:WR KA prog (rA Gc bx gt gb) (mH (ew Gc bx gt gb) v0) w:=by refine⟨?_,A.inj,A.one,by rw[JQ,q];exact N,(λg n=>by cases n),(λg n=>by cases n),λg n=>by cases n⟩;rintro a b⟨rfl,l⟩;obtain⟨cl,t,h1,F,y⟩:=H.cells l;exact⟨.cells cl t (0,cl.size),_,by rw[pu,s a l,h1];simp[l],(X a l).trans h1,.cells t y (.inr ⟨rfl,λoff E=>⟨Nat.zero_le _,E⟩⟩)⟩
 have fr:=yj (r:=rA Gc bx gt gb) wJ.totO (f:=20) J1 a9;have a4:Fits prog KA SA (Bs prog) (Frame.enter prog 20 #[.slice (some ⟨Gc,0,none⟩) cs.length cc,.pointer (some ⟨bx,0,none⟩),.agg #[.string ⟨nm.toArray⟩,.string ⟨lt.toArray⟩],.int .i64 bd] .normal) (Bs prog) (mH (ew Gc bx gt gb) v0):=⟨_,c::ks,_,c::ks,w,fr,.base,W,K' z,.inl rfl⟩;have a5:Fits prog KA SA (Bs prog) (Frame.enter prog 20 #[.slice (some ⟨Gc,0,none⟩) cs.length cc,.pointer (some ⟨bx,0,none⟩),.agg #[.string ⟨nm.toArray⟩,.string ⟨lt.toArray⟩],.int .i64 bd] .normal) (Bs prog) v0:=⟨_,c::ks,_,c::ks,w,fr,.base,A,z,.inl rfl⟩;have a6:∀v:HA,(∀a:Addr,ew Gc bx gt gb a.block->v.cell? a=C.w0.cell? a)->fC v (.pointer (some ⟨bx,0,none⟩)) cs:=λv p=>⟨bx,gt,ct,gb,cb,rfl,by rw[p _ (.inr (.inl rfl))];simp[World.cell?,M],by rw[p _ (.inr (.inl rfl))];simp[World.cell?,M],λj D=>by rw[p _ (.inr (.inr (.inl rfl)))];exact H.aI j D,λj D=>by rw[p _ (.inr (.inr (.inr rfl)))];exact H.il j D⟩;have a8:Gc<C.w0.heap.size:=by have:=(H.ro Gc (.inl rfl)).2.1;have:=H.zB;omega
 have Y:∀v:HA,v.heap.size=C.w0.heap.size->(∀a:Addr,ew Gc bx gt gb a.block->v.cell? a=C.w0.cell? a)->Calls prog 20 #[.slice (some ⟨Gc,0,none⟩) cs.length cc,.pointer (some ⟨bx,0,none⟩),.agg #[.string ⟨nm.toArray⟩,.string ⟨lt.toArray⟩],.int .i64 bd] v λe v'=>e=.returned (.tuple #[.agg (Rc.aA (Al.align nm lt bd cs)),.int .i64 (Al.err bd lt)])/\Below v.heap.size v v':=λv hs p=>Ak nm lt bd cs _ Gc cc v a7 a2 H.right H.small (a6 v p) (by rw[hs];exact a8) (λj u hu=>by rw[p _ (.inl (by rw[Addr.add_lit]))];exact H.src j u hu);have aa:=ends_of_calls (Q:=λx _=>x=.tuple #[.agg (Rc.aA (Al.align nm lt bd cs)),.int .i64 (Al.err bd lt)]) wJ (λx v T d h=>h) a4 λT d=>(Y (aD (mH (ew Gc bx gt gb) v0) T d) ((JQ (ew Gc bx gt gb) v0).trans q) (λa o=>(Zy (ew Gc bx gt gb) v0 a).trans (B a o))).mono λe v' h=>⟨_,h.1,rfl⟩;have ab:=ends_of_calls (Q:=λ_ v=>lp (ew Gc bx gt gb) v) wJ (λx v T d h=>h) a5 λT d=>(Y (aD v0 T d) q (λa o=>B a o)).mono λe v' h=>⟨_,h.1,λa o=>by obtain⟨cl,t,h1,_,_⟩:=H.cells o;(have ac:a.block<v0.heap.size:=by rw[q];exact(J2.1 h1).1);have l:v'.heap[a.block]?=C.w0.heap[a.block]?:=(h.2.block a.block ac).trans (s _ o);unfold World.frozen?;rw[l,h1];simp⟩;have Z:j6 (ew Gc bx gt gb) O (rA Gc bx gt gb):=⟨λa b h=>.inl (h.1▸h.2),λb l=>⟨rfl,l⟩⟩;have hX:cW (.tuple #[.agg (Rc.aA (Al.align nm lt bd cs)),.int .i64 (Al.err bd lt)]):=jf _ rfl;have J:=Ends.Qv (C:=C) (P:=prog) (K:=KA) (c:=c) (cs:=ks) (ag:=some m) (wr:=some m) (I:=Bw C) rfl (H.P.trans BQ.symm) wJ RO (YI H.cw a0 H.rc) (λx v' h=>h) hX (λx v' h=>h) k aa ab fr .base W (K' z) (.inl rfl) fr .base A z a3 Z Z hO S;rw[BQ]at J;exact J
end
end Co
namespace Tx
theorem kL(e:Int)(p:Nat):(bad e p).out.length=0:=rfl
theorem abX(s:HM)(q:Nat)(k:Nat->Dm->bZ)(a:∀q x,(k q x).out.length<=256):(gy s q k).out.length<=256:=by unfold gy;split;(·rw[kL];omega);·unfold gA;split;(·rw[kL];omega);·split;(·rw[kL];omega);·split;(·rw[kL];omega);·unfold jT;dsimp only;split;(·rw[kL];omega);·exact a _ _
theorem vY(s:HM):∀(f p:Nat)(out:List (Dm×Dm)),out.length<=256->(fq s f p out).out.length<=256:=by intro f;induction f with|zero=>intro p out h;rw[fq,kL];omega|succ f a=>intro p out h;rw[fq];split;(·exact h);·split;(·rw[kL];omega);·split;(·rw[kL];omega);·split;(·rw[kL];omega);·exact abX _ _ _ (λq x=>a _ _ (by simp;omega))
theorem We(s:HM):(fI s).out.length<=256:=vY s _ _ _ HY
end Tx
section
open RowKit
structure Cn where
 a0:Int
 a1:Int
 a2:Int
 a3:Int
 a4:Int
 a5:Int
 a6:Int
 a7:Int
 a8:Int
 a9:Int
 fX:Int
def Cn.zero:Cn:=⟨0,0,0,0,0,0,0,0,0,0,0⟩
def Cn.aA(x:Cn):DS:=#[.int .i64 x.a0,.int .i64 x.a1,.int .i64 x.a2,.int .i64 x.a3,.int .i64 x.a4,.int .i64 x.a5,.int .i64 x.a6,.int .i64 x.a7,.int .i64 x.a8,.int .i64 x.a9,.int .i64 x.fX]
def Cn.verdict(x:Cn)(v:Int):Cn:=if v=0 then{x with a0:=x.a0+1}else if v=1 then{x with a1:=x.a1+1}else{x with a2:=x.a2+1}
def Cn.call(x:Cn)(b:UInt8):Cn:=if b=122 then{x with a7:=x.a7+1}else if b=120 then{x with a8:=x.a8+1}else if b=104 then{x with a9:=x.a9+1}else if b=117 then{x with fX:=x.fX+1}else if b=90 then{x with a3:=x.a3+1}else if b=88 then{x with a4:=x.a4+1}else if b=72 then{x with a5:=x.a5+1}else if b=85 then{x with a6:=x.a6+1}else x
def Cn.calls(x:Cn)(l:Dm):Cn:=l.foldl Cn.call x
def Cn.Small(x:Cn)(B:Int):Prop:=(0<=x.a0/\x.a0<=B)/\(0<=x.a1/\x.a1<=B)/\(0<=x.a2/\x.a2<=B)/\(0<=x.a3/\x.a3<=B)/\(0<=x.a4/\x.a4<=B)/\(0<=x.a5/\x.a5<=B)/\(0<=x.a6/\x.a6<=B)/\(0<=x.a7/\x.a7<=B)/\(0<=x.a8/\x.a8<=B)/\(0<=x.a9/\x.a9<=B)/\(0<=x.fX/\x.fX<=B)
theorem Cn.Small.verdict{x:Cn}{B:Int}(h:x.Small B)(v:Int):(x.verdict v).Small (B+1):=by
 unfold Cn.Small at*;unfold Cn.verdict;repeat' split
 all_goals(try dsimp only)
 all_goals omega
theorem Cn.Small.call{x:Cn}{B:Int}(h:x.Small B)(b:UInt8):(x.call b).Small (B+1):=by
 unfold Cn.Small at*;unfold Cn.call;repeat' split
 all_goals(try dsimp only)
 all_goals omega
theorem Cn.Small.calls{x:Cn}{B:Int}(h:x.Small B)(l:Dm):(x.calls l).Small (B+l.length):=by induction l generalizing x B with|nil=>simpa[Cn.calls]using h|cons b l a=>have:=a (h.call b);rw[show B+((b::l).length:Int)=B+1+(l.length:Int)by simp;omega];exact this
theorem Cn.Small.mono{x:Cn}{B a:Int}(h:x.Small B)(k:B<=a):x.Small a:=by unfold Cn.Small at*;omega
def Cn.eL(b:UInt8):Bool:=b==46||b==122||b==120||b==104||b==117||b==90||b==88||b==72||b==85
def Cn.kd(n:Int):Int:=if n=122 then 0 else if n=120 then 1 else if n=104 then 2 else if n=117 then 3 else-1
theorem uX{W:HA}{x:Cn}(h:W.heap[g]?=some (.cells x.aA 39 (0,0))):W.cell? ⟨g,0,none⟩=some (.int .i64 x.a0)/\W.cell? ⟨g,1,none⟩=some (.int .i64 x.a1)/\W.cell? ⟨g,2,none⟩=some (.int .i64 x.a2)/\W.cell? ⟨g,3,none⟩=some (.int .i64 x.a3)/\W.cell? ⟨g,4,none⟩=some (.int .i64 x.a4)/\W.cell? ⟨g,5,none⟩=some (.int .i64 x.a5)/\W.cell? ⟨g,6,none⟩=some (.int .i64 x.a6)/\W.cell? ⟨g,7,none⟩=some (.int .i64 x.a7)/\W.cell? ⟨g,8,none⟩=some (.int .i64 x.a8)/\W.cell? ⟨g,9,none⟩=some (.int .i64 x.a9)/\W.cell? ⟨g,10,none⟩=some (.int .i64 x.fX)/\W.frozen? ⟨g,0,none⟩=false/\W.frozen? ⟨g,1,none⟩=false/\W.frozen? ⟨g,2,none⟩=false/\W.frozen? ⟨g,3,none⟩=false/\W.frozen? ⟨g,4,none⟩=false/\W.frozen? ⟨g,5,none⟩=false/\W.frozen? ⟨g,6,none⟩=false/\W.frozen? ⟨g,7,none⟩=false/\W.frozen? ⟨g,8,none⟩=false/\W.frozen? ⟨g,9,none⟩=false/\W.frozen? ⟨g,10,none⟩=false:=by refine⟨?_,?_,?_,?_,?_,?_,?_,?_,?_,?_,?_,?_,?_,?_,?_,?_,?_,?_,?_,?_,?_,?_⟩;all_goals first|exact cell_of_row _ _ _ _ _ _ h|exact frozen_of_row _ _ _ _ _ h
def Rq.aU(cs:List Pr)(b:Int)(rs:List Pr):List Rc:=rs.map λx=>Al.align x.1 x.2 b cs
def Rq.add(c:Cn)(r:Rc):Cn:=(c.verdict r.vd).calls r.cl
def Rq.cnt(l:List Rc):Cn:=l.foldl Rq.add Cn.zero
theorem Rq.gM(cs:List Pr)(b:Int)(rs:List Pr):(Rq.aU cs b rs).length=rs.length:=by simp[Rq.aU]
theorem Rq.lQ(cs:List Pr)(b:Int)(rs:List Pr)(k:Nat)(h:k<rs.length):(Rq.aU cs b rs)[k]'(by rw[Rq.gM];exact h)=Al.align rs[k].1 rs[k].2 b cs:=by simp[Rq.aU]
def Rq.Ok(r:Rc):Prop:=(r.vd=0\/r.vd=1\/r.vd=2)/\(∀b∈r.cl,Cn.eL b=true)/\r.cl.length<=128
theorem Rq.ET(n:Int)(c:UInt8)(t:Dm)(p:Nat):Cn.eL (Al.call n c t p)=true:=by unfold Al.call;rcases Al.Hq n t p with h|h|h|h<;>rw[h]<;>(repeat' split)<;>decide
theorem Rq.Nf{cs:List Pr}{st:Al.St}(q:Nat×Nat)(c:s.length<=128)(h:Rq.Ok st.eH):Rq.Ok (Al.step nm n s cs st q).eH:=by unfold Al.step;split;(·exact h);·split;(·exact h);·split;(·exact⟨.inr (.inr rfl),by simp,by simp⟩);·refine⟨.inr (.inl rfl),λb a=>?_,by rw[Al.vO];exact c⟩;obtain⟨k,_,rfl⟩:=List.mem_map.1 a;exact Rq.ET _ _ _ _
theorem Rq.Jf{nm:Dm}{n:Int}{s:Dm}{cs:List Pr}(a:s.length<=128):∀(l:List (Nat×Nat))(st:Al.St),Rq.Ok st.eH->Rq.Ok (l.foldl (Al.step nm n s cs) st).eH|[],_,h=>h|q::l,_,h=>Rq.Jf a l _ (Rq.Nf q a h)
theorem Rq.xK(nm lt:Dm)(b:Int)(cs:List Pr)(c:lt.length<=128):Rq.Ok (Al.align nm lt b cs):=by
 have h0:Rq.Ok ⟨nm,0,0,[],0,0,[],[]⟩:=⟨.inl rfl,by simp,by simp⟩;have d:∀k,Rq.Ok (Al.upto nm lt b cs k).eH:=by intro k;induction k with|zero=>exact h0|succ k a=>exact Rq.Jf (by rw[Al.mq];exact c) _ _ a
 unfold Al.align;split;·exact d 4
 ·exact⟨.inl rfl,by simp,by simp⟩
theorem Rq.GQ:∀(l:List Rc)(c:Cn)(B:Int),(∀r∈l,r.cl.length<=128)->c.Small B->(l.foldl Rq.add c).Small (B+129*l.length)|[],c,B,_,h=>by simpa using h|r::l,c,B,a,h=>by have h1:(Rq.add c r).Small (B+129):=((h.verdict r.vd).calls r.cl).mono (by have:=a r HY;omega);have:=Rq.GQ l (Rq.add c r) (B+129) (λx b=>a x (by simp[b])) h1;rw[List.foldl_cons,List.length_cons];exact this.mono (by push_cast;omega)
theorem Rq.ac3(l:List Rc)(k:Nat)(h:k<l.length):Rq.cnt (l.take (k+1))=Rq.add (Rq.cnt (l.take k)) l[k]:=by unfold Rq.cnt;(have e:l.take (k+1)=l.take k++[l[k]]:=by simp);rw[e,List.foldl_append];rfl
theorem Ml(r:Rc):∀v∈(Rc.aA r).toList,v.oneCell'=true:=by intro v a;simp only[Rc.aA,List.mem_cons,List.not_mem_nil,or_false]at a;rcases a with rfl|rfl|rfl|rfl|rfl|rfl|rfl|rfl<;>rfl
theorem yA(x:Cn):∀v∈x.aA.toList,v.oneCell'=true:=by intro v a;simp only[Cn.aA,List.mem_cons,List.not_mem_nil,or_false]at a;rcases a with rfl|rfl|rfl|rfl|rfl|rfl|rfl|rfl|rfl|rfl|rfl<;>rfl
end
section
structure Tx.jv(R:Tx.bZ):Prop where
 ok:R.err=0->Se.ej R.out=0/\∀x∈R.out,x.1.length<=32
theorem Tx.jv.bad{e:Int}(h:e≠0)(p:Nat):Tx.jv (Tx.bad e p):=⟨λh0=>absurd h0 h⟩
theorem Tx.CS(c:UInt8)(h:Tx.cap c≠0):Lt.dh (Tx.cap c)=true:=by unfold Tx.cap at h⊢;split;(·assumption);·split;(·next h1 h2=>simp only[Bool.or_eq_true,beq_iff_eq]at h2;rcases h2 with(((rfl|rfl)|rfl)|rfl)|rfl<;>decide);·next h1 h2=>simp[h1,h2]at h
theorem Tx.af8(s:HM)(p q:Nat):(Tx.piece s p q).length<=q-p:=by unfold Tx.piece;rw[List.length_take];omega
theorem Tx.I5(s:HM)(p:Nat):(Tx.piece s p (Tx.ax s p)).length<=32:=by have h1:=Tx.af8 s p (Tx.ax s p);have a:=Tx.L5 s 32 p;unfold Tx.ax at*;omega
theorem Tx.C8(s:HM)(p:Nat)(out:List Pr)(k:Nat->Dm->Tx.bZ)(b:out.length<=15->∀q nm,p+1<=q->q<=s.size->nm.length<=32->Tx.jv (k q nm))(d:out.length<=16):Tx.jv (Tx.jb s p out k):=by unfold Tx.jb;split;(·exact Tx.jv.bad J1 _);·split;(·exact Tx.jv.bad J1 _);·split;(·exact Tx.jv.bad J1 _);·next h1=>split;(·exact Tx.jv.bad J1 _);·(have a:Tx.bt s (Tx.ax s (p+1))=10:=by by_cases h:Tx.bt s (Tx.ax s (p+1))=10;(·exact h);·exact absurd (.inr h) h1);have c:=Tx.gI (s:=s) (i:=Tx.ax s (p+1)) (by rw[a];decide);refine b HU _ _ ?_ HU (Tx.I5 s (p+1));unfold Tx.ax;omega
structure Tx.PH(out:List Pr)(letters:Dm)(total:Nat):Prop where
 wr:∀x∈out,Se.eg x=false
 nm:∀x∈out,x.1.length<=32
 le:Lt.aB letters=true
 JK:Se.total out+letters.length=total
 aI:total<=4096
theorem Tx.ahM(s:HM):∀(f p first:Nat)(name b:Dm)(out:List Pr)(d:Nat),Tx.PH out b d->name.length<=32->out.length<=15->p<=s.size->s.size+1<=p+f->Tx.jv (Tx.dW s f p first name b out d):=by intro f;induction f with|zero=>intro p first name b out d _ _ _ _ _;omega|succ f g=>intro p first name b out d a j l A z;rw[Tx.dW];split;(·next hc=>have v:=Tx.gI (s:=s) (i:=p) (by intro e;rw[e,Tx.vB]at hc;exact hc rfl);split;(·exact Tx.jv.bad J1 _);·next ht=>have y:=a.aI;refine g _ _ _ _ _ _ ⟨a.wr,a.nm,?_,?_,?_⟩ j l HU HU;(·have:=a.le;unfold Lt.aB at*;rw[List.all_append,this];simp[Tx.CS _ hc]);(·rw[List.length_append,<-a.JK];simp;omega);·omega);·split;(·next h10=>have v:=Tx.gI (s:=s) (i:=p) (by rw[h10.1];decide);exact g _ _ _ _ _ _ a j l HU HU);·split;(·exact Tx.jv.bad J1 _);·next h2=>have r:b≠[]:=λe=>h2 (.inr e);(have m:∀x∈out++[(name,b)],Se.eg x=false:=by intro x c;rcases List.mem_append.1 c with h|h;(·exact a.wr x h);·rw[List.mem_singleton]at h;subst h;unfold Se.eg;rw[a.le];simp[r]);(have n:∀x∈out++[(name,b)],x.1.length<=32:=by intro x c;rcases List.mem_append.1 c with h|h;(·exact a.nm x h);·rw[List.mem_singleton]at h;subst h;exact j);(have t:Se.total (out++[(name,b)])=d:=by rw[Se.yh,<-a.JK];rfl);split;(·refine Tx.C8 _ _ _ _ (λu q nm k w o=>g _ _ _ _ _ _ ⟨m,n,rfl,?_,a.aI⟩ o u w HU) (by simp;omega);rw[t];rfl);·refine⟨λ_=>⟨?_,n⟩⟩;unfold Se.ej;dsimp only;have y:=a.aI;rw[if_neg HY,if_neg,if_neg (by simp;omega),if_neg HU];intro h;obtain⟨x,c,k⟩:=List.any_eq_true.1 h;rw[m x c]at k;cases k
theorem Tx.KO(s:HM)(h:(Tx.eX s).err=0):Se.ej (Tx.eX s).out=0/\∀x∈(Tx.eX s).out,x.1.length<=32:=(Tx.C8 s 0 [] _ (λb q nm d c a=>Tx.ahM s _ _ _ _ _ _ _ ⟨by simp,by simp,rfl,rfl,Nat.zero_le _⟩ a b c HU) HY).ok h
def Tx.lY(l:List Pr):Prop:=∀x∈l,Se.gj x.2=0/\x.1.length<=32
theorem Tx.aai(s:HM):∀(n p:Nat),(∀j,j<n->Tx.cap (Tx.bt s (p+j))≠0)->Lt.aB (Tx.dE s p n)=true:=by intro n;induction n with|zero=>intro p _;rfl|succ n a=>intro p h;have h0:=h 0 HU;have h1:=a (p+1) (λj b=>by have:=h (j+1) HU;rwa[show p+(j+1)=p+1+j by omega]at this);unfold Lt.aB at*;rw[Tx.dE,List.all_cons,h1,Tx.CS _ (by simpa using h0)];rfl
theorem Tx.PW(s:HM)(q:Nat)(k:Nat->Dm->Tx.bZ)(c:∀q x,Se.gj x=0->Tx.lY (k q x).out):Tx.lY (Tx.gy s q k).out:=by
 have a:∀e p,Tx.lY (Tx.bad e p).out:=λe p x d=>by simp[Tx.bad]at d
 unfold Tx.gy;split;·exact a _ _
 ·next h1=>unfold Tx.gA;split;(·exact a _ _);·split;(·exact a _ _);·split;(·exact a _ _);·unfold Tx.jT;dsimp only;split;(·exact a _ _);·refine c _ _ ?_;have f:=Tx.Cz s 128 q;unfold Se.gj;rw[Tx.aai s _ q (λj b=>Tx.pe s 128 q j b),if_neg HY,Tx.tV,if_neg (λe=>h1 (.inl e)),if_neg HU]
theorem Tx.Pd(s:HM):∀(f p:Nat)(out:List Pr),Tx.lY out->Tx.lY (Tx.fq s f p out).out:=by(have a:∀e p,Tx.lY (Tx.bad e p).out:=λe p x b=>by simp[Tx.bad]at b);intro f;induction f with|zero=>intro p out _;exact a _ _|succ f d=>intro p out h;rw[Tx.fq];split;(·exact h);·split;(·exact a _ _);·split;(·exact a _ _);·split;(·exact a _ _);·refine Tx.PW _ _ _ (λq x b=>d _ _ (λy c=>?_));rcases List.mem_append.1 c with h1|h1;(·exact h y h1);·rw[List.mem_singleton]at h1;subst h1;exact⟨b,Tx.I5 s (p+1)⟩
theorem Tx.BB(s:HM):Tx.lY (Tx.fI s).out:=Tx.Pd s _ _ _ (by intro x a;cases a)
def Rq.lA(r:Rc):Prop:=r.nm.length<=32/\r.ct.length<=32/\r.lt.length<=128/\r.cl.length<=128
theorem Rq.acz{cs:List Pr}{st:Al.St}(q:Nat×Nat)(b:nm.length<=32)(a:s.length<=128)(c:∀x∈cs,x.1.length<=32)(h:Rq.lA st.eH):Rq.lA (Al.step nm n s cs st q).eH:=by unfold Al.step;split;(·exact h);·next x hx=>split;(·exact h);·split;(·exact⟨b,by simp,by simp,by simp⟩);·exact⟨b,c x (List.mem_of_getElem? hx),a,by rw[Al.vO];exact a⟩
theorem Rq.CM{nm:Dm}{n:Int}{s:Dm}{cs:List Pr}(b:nm.length<=32)(c:s.length<=128)(a:∀x∈cs,x.1.length<=32):∀(l:List (Nat×Nat))(st:Al.St),Rq.lA st.eH->Rq.lA (l.foldl (Al.step nm n s cs) st).eH|[],_,h=>h|q::l,_,h=>Rq.CM b c a l _ (Rq.acz q b c a h)
theorem Rq.Gw(nm lt:Dm)(b:Int)(cs:List Pr)(a:nm.length<=32)(d:lt.length<=128)(e:∀x∈cs,x.1.length<=32):Rq.lA (Al.align nm lt b cs):=by
 have f:∀k,Rq.lA (Al.upto nm lt b cs k).eH:=by intro k;induction k with|zero=>exact⟨a,by simp[Al.upto],by simp[Al.upto],by simp[Al.upto]⟩|succ k c=>exact Rq.CM a (by rw[Al.mq];exact d) e _ _ c
 unfold Al.align;split;·exact f 4
 ·exact⟨by simp,by simp,by simp,by simp⟩
structure Rq.bZ where
 text:Dm
 cnt:Cn
 err:Int
 pos:Int
def Rq.run(f q:HM)(b k:Int):Rq.bZ:=if b<0\/3<b\/k<1\/16<k then⟨[],Cn.zero,1,0⟩else if(Tx.eX f).err≠0 then⟨[],Cn.zero,(Tx.eX f).err,(Tx.eX f).pos⟩else if(Tx.fI q).err≠0 then⟨[],Cn.zero,(Tx.fI q).err,(Tx.fI q).pos⟩else⟨Ln.render (Rq.aU (Tx.eX f).out b (Tx.fI q).out),Rq.cnt (Rq.aU (Tx.eX f).out b (Tx.fI q).out),0,0⟩
structure Rq.Good(cs rs:List Pr)(b:Int):Prop where
 right:Se.ib cs
 err:∀x∈rs,Al.err b x.2=0
 be:rs.length<=256
 small:∀r∈Rq.aU cs b rs,r.Small
theorem Rq.aiE(f q:HM)(b:Int)(h1:¬b<0)(d:¬3<b)(g:(Tx.eX f).err=0):Rq.Good (Tx.eX f).out (Tx.fI q).out b:=by obtain⟨a1,a2⟩:=Tx.KO f g;have a3:=Tx.BB q;(have c:∀x∈(Tx.fI q).out,Al.err b x.2=0:=λx a=>by unfold Al.err;rw[if_neg h1,if_neg d];exact(a3 x a).1);refine⟨Se.o6 _ a1,c,Tx.We q,λr e=>?_⟩;obtain⟨x,a,rfl⟩:=List.mem_map.1 e;obtain⟨s1,i,j,h⟩:=Rq.Gw x.1 x.2 b (Tx.eX f).out (a3 x a).2 (Al.lO (c x a)).2.2.2 a2;exact⟨HU,HU,HU,HU⟩
end
section
open Ph
def ik(r:Rc)(i:Nat):Int:=(dM (cJ GC.nil r.vd) r.cl).c i
theorem yQ(x:GC)(j i:Nat):(bump x j).c i=x.c i+(bump GC.nil j).c i:=by show(if i=j then x.c i+1 else x.c i)=x.c i+(if i=j then(0:Int)+1 else 0);split<;>omega
theorem MY(x:GC)(v:Int)(i:Nat):(cJ x v).c i=x.c i+(cJ GC.nil v).c i:=by unfold cJ;(repeat' split);all_goals first|exact yQ _ _ _|(show x.c i=x.c i+0;omega)
theorem MZ(x:GC)(b:UInt8)(i:Nat):(de x b).c i=x.c i+(de GC.nil b).c i:=by unfold de;split;(·exact yQ _ _ _);·show x.c i=x.c i+0;omega
theorem uq(x:GC)(b:UInt8)(i:Nat):(dO x b).c i=x.c i+(dO GC.nil b).c i:=by unfold dO;split;(·exact yQ _ _ _);·show x.c i=x.c i+0;omega
theorem lP:∀(l:Dm)(x:GC)(i:Nat),(dM x l).c i=x.c i+(dM GC.nil l).c i|[],x,i=>by show x.c i=x.c i+0;omega|b::l,x,i=>by show(dM (dO (de x b) b) l).c i=x.c i+(dM (dO (de GC.nil b) b) l).c i;rw[lP l,lP l (dO (de GC.nil b) b),uq (de x b),uq (de GC.nil b),MZ x];omega
theorem aa0(x:GC)(v:Int):(cJ x v).n=x.n:=by unfold cJ;(repeat' split);all_goals rfl
theorem Gf:∀(l:Dm)(x:GC),(dM x l).n=x.n|[],_=>rfl|b::l,x=>by show(dM (dO (de x b) b) l).n=x.n;rw[Gf l];unfold dO de;(repeat' split);all_goals rfl
theorem ajm(r:Rc)(x:GC):{x with c:=λi=>x.c i+ik r i}=dM (cJ x r.vd) r.cl:=by have b:(dM (cJ x r.vd) r.cl).n=x.n:=(Gf _ _).trans (aa0 _ _);(have a:(dM (cJ x r.vd) r.cl).c=λi=>x.c i+ik r i:=by funext i;unfold ik;rw[lP r.cl (cJ x r.vd),lP r.cl (cJ GC.nil r.vd),MY x];omega);generalize dM (cJ x r.vd) r.cl=y at*;obtain⟨e,d⟩:=y;simp only at b a;subst b a;rfl
theorem AJ(j i:Nat):0<=(bump GC.nil j).c i/\(bump GC.nil j).c i<=1:=by show 0<=(if i=j then(0:Int)+1 else 0)/\(if i=j then(0:Int)+1 else 0)<=1;split<;>omega
theorem nil_le(i:Nat):0<=GC.nil.c i/\GC.nil.c i<=1:=⟨Int.le_refl _,by show(0:Int)<=1;omega⟩
theorem afH(v:Int)(i:Nat):0<=(cJ GC.nil v).c i/\(cJ GC.nil v).c i<=1:=by unfold cJ;(repeat' split);all_goals first|exact AJ _ _|exact nil_le _
theorem abr(b:UInt8)(i:Nat):0<=(de GC.nil b).c i/\(de GC.nil b).c i<=1:=by unfold de;split;(·exact AJ _ _);·exact nil_le _
theorem ajE(b:UInt8)(i:Nat):0<=(dO GC.nil b).c i/\(dO GC.nil b).c i<=1:=by unfold dO;split;(·exact AJ _ _);·exact nil_le _
theorem De:∀(l:Dm)(i:Nat),0<=(dM GC.nil l).c i/\(dM GC.nil l).c i<=2*l.length|[],i=>⟨Int.le_refl _,Int.le_refl _⟩|b::l,i=>by have h1:=De l i;have d:=abr b i;have a:=ajE b i;show 0<=(dM (dO (de GC.nil b) b) l).c i/\(dM (dO (de GC.nil b) b) l).c i<=_;rw[lP l,uq (de GC.nil b)];simp only[List.length_cons,Int.natCast_add];omega
theorem abT(r:Rc)(h:r.cl.length<=128)(i:Nat):0<=ik r i/\ik r i<=65536:=by have h1:=afH r.vd i;have a:=De r.cl i;unfold ik;rw[lP];omega
def Cn.at(x:Cn):Nat->Int|0=>x.a0|1=>x.a1|2=>x.a2|3=>x.a3|4=>x.a4|5=>x.a5|6=>x.a6|7=>x.a7|8=>x.a8|9=>x.a9|10=>x.fX|_=>0
theorem Cn.Zv(x:Cn):x.aA=((List.range 11).map λi=>Value.int .i64 (x.at i)).toArray:=rfl
theorem yU{i:Nat}(h:i<11):i=0\/i=1\/i=2\/i=3\/i=4\/i=5\/i=6\/i=7\/i=8\/i=9\/i=10:=by omega
theorem agr(c:Cn)(v:Int)(b:v=0\/v=1\/v=2)(i:Nat)(a:i<11):(c.verdict v).at i=c.at i+(cJ GC.nil v).c i:=by rcases b with rfl|rfl|rfl<;>rcases yU a with rfl|rfl|rfl|rfl|rfl|rfl|rfl|rfl|rfl|rfl|rfl<;>simp[Cn.verdict,Cn.at,cJ,bump,GC.nil]
theorem Q'(c:Cn)(b:UInt8)(i:Nat)(a:i<11):(c.call b).at i=c.at i+(dO (de GC.nil b) b).c i:=by rw[uq];unfold Cn.call dO de kept lT;rcases yU a with rfl|rfl|rfl|rfl|rfl|rfl|rfl|rfl|rfl|rfl|rfl;all_goals by_cases h1:b=122;(·subst h1;simp[Cn.at,bump,GC.nil]);by_cases h2:b=120;(·subst h2;simp[Cn.at,bump,GC.nil]);by_cases h3:b=104;(·subst h3;simp[Cn.at,bump,GC.nil]);by_cases h4:b=117;(·subst h4;simp[Cn.at,bump,GC.nil]);by_cases h5:b=90;(·subst h5;simp[Cn.at,bump,GC.nil]);by_cases h6:b=88;(·subst h6;simp[Cn.at,bump,GC.nil]);by_cases h7:b=72;(·subst h7;simp[Cn.at,bump,GC.nil]);by_cases h8:b=85;(·subst h8;simp[Cn.at,bump,GC.nil]);simp[Cn.at,GC.nil,h1,h2,h3,h4,h5,h6,h7,h8]
theorem wx:∀(l:Dm)(c:Cn)(i:Nat),i<11->(c.calls l).at i=c.at i+(dM GC.nil l).c i|[],c,i,_=>by show c.at i=c.at i+0;omega|b::l,c,i,a=>by show((c.call b).calls l).at i=c.at i+(dM (dO (de GC.nil b) b) l).c i;rw[wx l _ i a,Q' c b i a,lP l (dO (de GC.nil b) b)];omega
theorem zy(c:Cn)(r:Rc)(h:Rq.Ok r)(i:Nat)(a:i<11):(Rq.add c r).at i=c.at i+ik r i:=by unfold Rq.add ik;rw[wx _ _ i a,agr _ _ h.1 i a,lP r.cl (cJ GC.nil r.vd)];omega
theorem KP(l:List Rc)(f:Nat->Rc)(b:∀m(h:m<l.length),f m=l[m])(c:∀r∈l,Rq.Ok r)(i:Nat)(a:i<11):∀k,k<=l.length->(Rq.cnt (l.take k)).at i=cG k λm=>ik (f m) i|0,_=>by show Cn.zero.at i=0;rcases yU a with rfl|rfl|rfl|rfl|rfl|rfl|rfl|rfl|rfl|rfl|rfl<;>rfl|k+1,h=>by rw[Rq.ac3 l k HU,zy _ _ (c _ (List.getElem_mem _)) i a,KP l f b c i a k HU,cG,b k HU]
theorem aaW(l:List Rc)(f:Nat->Rc)(b:∀m(h:m<l.length),f m=l[m])(c:∀r∈l,Rq.Ok r):((List.range 11).map λi=>Value.int .i64 (cG l.length λm=>ik (f m) i)).toArray=(Rq.cnt l).aA:=by rw[Cn.Zv];congr 1;refine List.map_congr_left λi a=>?_;have h:=KP l f b c i (List.mem_range.1 a) l.length (Nat.le_refl _);rw[List.take_length]at h;rw[h]
end
namespace Co
open Conc ConcN Ph Kw Km RowKit
theorem oX{c:DS}(h:fN c):bL c:=λi a=>by obtain⟨b,e⟩:=h c[i] (Array.getElem_mem a);rw[e];exact .string _
structure Ze(Sh:Loc->Prop)(w:HA)(G:Nat)(cs:List Pr):Prop where
 tN:10<=G
 row:∃c t,w.heap[G]?=some (.cells c t (0,0))/\fN c
 cs:Cs w G cs
 sh:∀a:Addr,a.block=G->¬Sh (.cell a)
def E9(Sh:Loc->Prop)(w:HA)(ra:Option Addr)(rs:List Pr):Prop:=0<rs.length->∃rk,ra=some ⟨rk,0,none⟩/\rk<w.heap.size/\(∀o,¬Sh (.cell ⟨rk,o,none⟩))/\∀m(h:m<rs.length),w.rangeAt rk (m*2) (dP rs[m])
def jF(rs:List Pr)(m:Nat):Pr:=rs.getD m ([],[])
theorem sO{rs:List Pr}(h:m<rs.length):jF rs m=rs[m]:=by simp[jF,h]
theorem BZ{rs:List Pr}{B:Nat}(h:∀x∈rs,x.2.length<=B)(m:Nat):(jF rs m).2.length<=B:=by by_cases hm:m<rs.length;(·rw[sO hm];exact h _ (List.getElem_mem _));·simp[jF,Nat.not_lt.1 hm]
def eC(cs rs:List Pr)(bd:Int)(m:Nat):Rc:=Al.align (jF rs m).1 (jF rs m).2 bd cs
theorem Ib{base e n:Nat}{b:FV}(h:w.ownsRow base e 1 (.slice (some ⟨g,0,none⟩) n n) n b):base<=g/\w.heap[g]?=some (.cells b.toArray e (0,0)):=by rcases h.2 with⟨h0,_⟩|⟨g',cap,j,a,f,d,h1,k,i,c⟩;(·cases h0);·simp only[Value.slice.injEq,Option.some.injEq,Addr.mk.injEq,and_true,true_and]at a;obtain⟨rfl,rfl⟩:=a;refine⟨f,?_⟩;rw[d,<-c,List.take_of_length_le (by rw[Array.length_toList,i];omega)]
theorem nd(n:Int)(cs:List Pr):bL (Ix.strs n cs).toArray:=by refine oX λv a=>?_;simp only[List.mem_toArray,Ix.strs,List.mem_map]at a;obtain⟨x,_,rfl⟩:=a;exact⟨_,rfl⟩
theorem jW{g:Gq}{cs:Fi}(h:g=R g.frame cs)(v:HH):R (g.frame.finish v) cs=fin g v:=by(conv=>rhs;rw[h]);rfl
theorem Xj(q:Tw)(ix:Option Addr)(e:HH):Km.D0 {q with ix:=ix,e:=e}=Km.D0 q:=rfl
theorem N0{v:HA}{G:Nat}{cs:List Pr}(h:Cs v G cs):∀j u,(aS cs)[j]?=some u->v.cell? ((⟨G,0,none⟩:Addr).add j)=some u:=λj u a=>by
 have f:=(List.getElem?_eq_some_iff.1 a).1;rw[wm]at f;have d:j/2<cs.length:=by omega
 have e:j=j/2*2+j%2:=by omega
 have g:j%2<2:=by omega
 rw[e,mP cs _ d _ g]at a;rw[Addr.add_lit,Nat.zero_add];obtain⟨h0,h1⟩:=h _ d;rcases(show j%2=0\/j%2=1 by omega)with b|b;·rw[b]at a e;simp[dP]at a;subst a;(have c:(⟨G,j,none⟩:Addr)=⟨G,j/2*2,none⟩:=by rw[Addr.mk.injEq];exact⟨rfl,HU,rfl⟩);rw[c];exact h0
 ·rw[b]at a e;simp[dP]at a;subst a;(have c:(⟨G,j,none⟩:Addr)=⟨G,j/2*2+1,none⟩:=by rw[Addr.mk.injEq];exact⟨rfl,HU,rfl⟩);rw[c];exact h1
section
attribute[local irreducible]E0 B2 Km.D0 D1 Km.tl th fin aL aN
theorem SM{Sh:Loc->Prop}{Fin:Fo->HA->CL->Trace->Prop}{gs:Fo}{sl:CL}{t:Trace}{cs rs:List Pr}{u cc rc:Nat}{ra:Option Addr}{n:Nat}(hB:aE prog Sh (λ_=>False) gs w t (E0 (.slice (some ⟨u,0,none⟩) cs.length cc) (.slice ra rs.length rc) (.agg #[.int .i64 bd,.int .i64 n]) (c::ks)))(ak:cH Sh w)(E:Ze Sh w u cs)(cd:E9 Sh w ra rs)(ax:Se.ej cs=0)(bq:∀x∈cs,x.1.length<=32)(br:∀x∈rs,x.1.length<=32)(ai:∀x∈rs,x.2.length<=128)(hN:rs.length<=256)(bw:1<=n)(hn:n<=16)(k:∀L Z w' aj t' g,(∀l,L l->Sh l\/∃a:Addr,l=.cell a/\w.heap.size<=a.block/\a.block≠g/\a.block<w'.heap.size)->cH L w'->w'.tape=w.tape->(w'.output=w.output/\ConcM.OsLater w.os w'.os)->w.heap.size<=w'.heap.size->(∀b:Nat,b<w.heap.size->w'.heap[b]?=w.heap[b]?)->w.heap.size<=g->(∃cl,w'.heap[g]?=some (.cells cl 52 (0,0))/\cl.size=8*rs.length)->(∀m,m<rs.length->∀i,i<8->w'.cell? ⟨g,8*m+i,none⟩=(eC cs rs bd m).aA.toList[i]?)->aE prog L (λ_=>False) Z w' t' (R (c.finish (.tuple #[bi rs.length g,.agg (Rq.cnt (Rq.aU cs bd rs)).aA])) ks)->Comes prog Fin Z w' aj t'):Comes prog Fin gs w sl t:=by
 have a2:=Se.o6 cs ax;obtain⟨ae,b2,ag,aq⟩:=E.row;have ci:=dq ag;have ah:∀{a:Addr},w.heap.size<=a.block->¬Sh (.cell a):=λ{a}ha hs=>by obtain⟨ad,e,D⟩:=ak _ hs;cases e;omega
 refine acs hB.b λgs1 w1 sl1 t1 z1 U a3 bs=>?_;have x1:aP w w1:=by refine⟨⟨a3.1,a3.2.1,a3.2.2,by rw[U];simp;omega⟩,λb z=>?_⟩;rw[U,Array.getElem?_push,if_neg (by simp;omega),Array.getElem?_push,if_neg HU]
 have h5:w1.heap[w.heap.size]?=some (.cells #[.int .i64 bd,.int .i64 n] 45 (0,0)):=by rw[U,Array.getElem?_push,if_neg HY,Array.getElem?_push_size]
 have h7:w1.heap[w.heap.size+1]?=some (.cells #[.int .i64 0,.int .i64 0,.int .i64 0,.int .i64 0,.int .i64 0,.int .i64 0,.int .i64 0,.int .i64 0,.int .i64 0,.int .i64 0,.int .i64 0] 39 (0,0)):=by rw[U];(have:w.heap.size+1=(w.heap.push (.cells #[.int .i64 bd,.int .i64 n] 45 (0,0))).size:=by simp);rw[this,Array.getElem?_push_size]
 have cf:w1.heap.size=w.heap.size+2:=by rw[U];simp
 let q0:Tw:={ga:=some ⟨u,0,none⟩,an:=cs.length,ac:=cc,ra:=ra,N:=rs.length,rc:=rc,s:=.agg #[.int .i64 bd,.int .i64 n],B5:=w.heap.size,B7:=w.heap.size+1,cs:=c::ks};have e0:aa prog (B2 q0.a q0.b q0.s q0.p5 q0.p7 q0.cs) (Km.D0 q0):=by unfold Km.D0 Km.tl;exact bm _ _ _ _
 have c4:aE prog Sh (λ_=>False) gs1 w1 t1 (B2 q0.a q0.b q0.s q0.p5 q0.p7 q0.cs):=⟨bs,λ_ h=>h.elim⟩;refine c4.cF (e0.trans (ef (Uz q0))) λc5 w2 cr t2 x2 z2 c7=>?_;have J:=x1.trans x2;have a4:=J.at ag;have b4:∀(v:HA),(∀a:Addr,a.block=u->v.cell? a=w2.cell? a)->Cs v u cs:=λv F k hk=>by obtain⟨h0,h1⟩:=E.cs k hk;exact⟨(F _ rfl).trans (J.cell h0),(F _ rfl).trans (J.cell h1)⟩
 have gG:prog.globals.size=10:=globals_size;have bk:aE (aF prog KN.F) Sh (λ_=>False) c5 w2 t2 (R (Frame.enter (aF prog KN.F) 26 #[q0.a] .normal) ((Km.D0 q0).frame::q0.cs)):=c7;refine sT (P:=prog) (K:=KN) (S:=SN) (Fin:=Fin) (Q:=λx v=>∃p,x=.tuple #[p,.int .i64 0]/\(∀b:Nat,b<w2.heap.size->v.heap[b]?=(only (λb=>b=u) w2).heap[b]?)/\B.jk v w2.heap.size p cs) aiP rfl (λb=>b=u) J1 ?_ (λg hg=>by cases hg) ?_ ?_ ?_ ?_ (λx v T d h=>h) (λx v h=>h.choose_spec.2.1) ?_ (ak.mono J.wid.size) bk λr1 x x' v1 w3 bn cg t3 a0 x3 hQ hV W c8=>?_;·rintro b rfl;exact⟨ae,b2,_,a4,(oX aq).ar _ _⟩
 ·rw[gG];have:=J.wid.size;have:=E.tN;omega
 ·have:=J.wid.size;omega
 ·refine⟨rfl,λi h1 Y=>?_⟩;match i,h1 with|0,_=>exact .sl ⟨u,0,none⟩ u _ _ ⟨rfl,rfl⟩ (.inr rfl)
 ·intro T d;have hC:=B.DT cs u cc (aD (only (λb=>b=u) w2) T d) (by have:=a2.be;omega) (λx V=>by have:=a2.len x V;omega) (b4 _ λa ha=>sk (X:=λb=>b=u) ha) ax;refine hC.mono ?_;rintro e v'⟨p,rfl,z,au⟩;have b5:(aD (only (λb=>b=u) w2) T d).heap.size=w2.heap.size:=jg _ _;rw[b5]at z au;exact⟨_,rfl,p,rfl,λb b6=>z.block b b6,au⟩
 ·rintro b rfl ad h;exact E.sh ad h
 ·obtain⟨p,rfl,hold,bx,gt,gb,rfl,b8,b9,ba,bb⟩:=hQ;obtain⟨be,bg⟩:=Ib ba;obtain⟨bh,bj⟩:=Ib bb;obtain⟨ct,rfl,ao⟩:=Ja hV;obtain⟨p',i',rfl,av,aw⟩:=Kk ao;have bl:=yM aw;subst bl;obtain⟨a1,rfl,a6⟩:=agM av;obtain⟨c2,ay,ap⟩:=Cj W rfl a6 b9;obtain⟨s1,s2,rfl,az,b0⟩:=Kk ap;obtain⟨bo,rfl,a7⟩:=yI az;obtain⟨bp,rfl,a8⟩:=yI b0;have a9:=zN W rfl a7 bg (nd 1 cs);have ab:=zN W rfl a8 bj (nd 2 cs);(have new:∀{a b:Nat},r1 a b->w2.heap.size<=a->w2.heap.size<=b:=λ{a b}h ha=>by rcases a0 a b h with⟨_,rfl⟩|h;(·have:=dq a4;omega);·exact h.2);have bt:=new a6 b8;have bu:=new a7 be;have bv:=new a8 bh;clear new W hV av aw ap ao az b0 a6 a7 a8 a0;let y:Tw:={q0 with ix:=some ⟨a1,0,none⟩,e:=.int .i64 0};(have b7:aE prog Sh (λ_=>False) bn w3 t3 (fin (Km.D0 y) y.T):=by(have e:R ((Km.D0 q0).frame.finish (.tuple #[.pointer (some ⟨a1,0,none⟩),.int .i64 0])) q0.cs=fin (Km.D0 y) y.T:=by rw[jW (aaX q0),Xj q0 (some ⟨a1,0,none⟩) (.int .i64 0)]);rw[<-e];exact c8);(have e1:aa prog (fin (Km.D0 y) y.T) (D1 y):=by rw[<-acO];unfold th;exact bc _ _ _);refine b7.cF e1 λcj w4 cp t4 x4 z4 bz=>?_;have af:aP w2 w4:=x3.trans x4;have I:aP w3 w4:=x4;have a5:aP w1 w4:=x2.trans af;have f:aP w w4:=x1.trans a5;have c1:cH Sh w4:=ak.mono f.wid.size;(have l2:w.heap.size+2<=w2.heap.size:=by have:=x2.wid.size;omega);have ch:=af.wid.size;(obtain⟨rk,c3⟩:∃rk,0<rs.length->ra=some ⟨rk,0,none⟩/\rk<w.heap.size/\(∀o,¬Sh (.cell ⟨rk,o,none⟩))/\∀m(h:m<rs.length),w.rangeAt rk (m*2) (dP rs[m]):=by by_cases h0:0<rs.length;(·obtain⟨rk,h⟩:=cd h0;exact⟨rk,λ_=>h⟩);·exact⟨0,λh=>absurd h h0⟩);let A:eF:={rk:=rk,ro:=0,rd:=λm=>dP (jF rs m),er:=λm=>Al.err bd (jF rs m).2,vd:=λm=>(eC cs rs bd m).vd,sq:=λm=>⟨(eC cs rs bd m).cl.toArray⟩};have b1:∀m,Rq.Ok (eC cs rs bd m):=λm=>Rq.xK _ _ bd cs (BZ ai m);(have hR:F8 y A (λm=>(eC cs rs bd m).aA.toList) (λm i=>ik (eC cs rs bd m) i) Sh w4:=by refine⟨λh=>?_,λm=>rfl,λm=>⟨rfl,λv F=>?_,rfl,rfl⟩,λm=>?_,λm x _=>?_,λm i=>abT _ (b1 m).2.2 i⟩;(·obtain⟨h1,Y,h3,h4⟩:=c3 h;refine⟨h1,by show rk<_;have:=f.wid.size;omega,h3,λm G j v F=>f.cell ?_⟩;have M:m<rs.length:=G;have:=h4 m M j v (by rw[<-sO M];exact F);show w.cell? ⟨rk,0+m*2+j,none⟩=some v;rw[Nat.zero_add];exact this);(·simp[Rc.aA]at F;rcases F with rfl|rfl|rfl|rfl|rfl|rfl|rfl|rfl<;>rfl);(·show(⟨(eC cs rs bd m).cl.toArray⟩:HM).size<65536;rw[cq];have:=(b1 m).2.2;omega);·have:=ajm (eC cs rs bd m) x;rw[this]);refine WK (q:=y) (bd:=bd) (n:=n) (A:=A) (aJ:=λm=>(eC cs rs bd m).aA.toList) (bf:=λm i=>ik (eC cs rs bd m) i) (c:=c) (cs:=ks) bz c1 (a5.at h5) (λj=>ah (Nat.le_refl _)) (a5.at h7) rfl (λj=>ah (Nat.le_succ _)) hN bw hn rfl hR (λqb c0 w5 g cw wg cb D m G cu O w' c' ce hO c6 kk=>?_) λL Z w' aj t' g k1 k2 k3 k4 k5 k6 k7 k8 k9 c9=>?_;(·have C:=D.ext;have z5:=C.wid.size;have g1:=D.lg.1;have g2:=D.fS.1;have g3:=D.mM.1;have ck:=dq a9;have cm:=dq ab;have cn:=dq ay;have co:=I.wid.size;have tN:=E.tN;(have H:ol (dA y bd n (λm=>(eC cs rs bd m).aA.toList) (λm i=>ik (eC cs rs bd m) i) qb Sh c0 w5 g cw wg) cs u cc a1 bo cs.length bp cs.length:=by refine⟨rfl,a2,λx V=>by have:=bq x V;omega,Nat.le_refl _,D.fS.2,D.lg.2,λb z=>?_,λb z=>?_,⟨_,C.at (I.at ay)⟩,N0 ?_,λj hj=>?_,λj hj=>?_⟩;(·have al:w2.heap.size<=b->b<w4.heap.size->10<=b/\b<w5.heap.size/\b≠cw/\b≠wg/\b≠g/\∀a:Addr,a.block=b->¬Sh (.cell a):=λh1 Y=>⟨HU,HU,HU,HU,HU,λa ha=>ah HU⟩;rcases z with rfl|rfl|rfl|rfl;(·exact⟨tN,by show b<w5.heap.size;have:=f.wid.size;omega,by show b≠cw;have:=f.wid.size;omega,by show b≠wg;have:=f.wid.size;omega,by show b≠g;have:=f.wid.size;omega,E.sh⟩);(·exact al bt HU);(·exact al bu HU);·exact al bv HU);(·have am:=a2.pos;rcases z with rfl|rfl|rfl;(·refine⟨ae,b2,C.at (af.at a4),?_,oX aq⟩;have h0:=(E.cs 0 am).1;simp only[World.cell?,ag]at h0;rcases Nat.eq_zero_or_pos ae.size with hz|hz;(·rw[Array.getElem?_eq_none HU]at h0;cases h0);·exact hz);(·exact⟨_,_,C.at (I.at a9),by simp[Ix.AN];exact am,nd 1 cs⟩);·exact⟨_,_,C.at (I.at ab),by simp[Ix.AN];exact am,nd 2 cs⟩);(·intro i hi;obtain⟨h0,h1⟩:=E.cs i hi;exact⟨C.cell (f.cell h0),C.cell (f.cell h1)⟩);(·have:=C.at (I.at a9);simp[World.cell?,this,Ix.strs,hj]);·have:=C.at (I.at ab);simp[World.cell?,this,Ix.strs,hj]);have M:m<rs.length:=G;(have a0:(jF rs m).1.length<=140737488355327:=by rw[sO M];have:=br _ (List.getElem_mem M);omega);(have ca:(jF rs m).2.length<=140737488355327:=by have:=BZ ai m;omega);exact Ws H D.mM.2 a0 ca hO c6 kk);·refine k L Z w' aj t' g (λl h=>(k1 l h).imp id λ⟨a,e,h1,Y,h3⟩=>⟨a,e,by have:=f.wid.size;omega,Y,h3⟩) k2 (k3.trans f.wid.tape) ⟨k4.1.trans f.wid.output,by rw[<-f.wid.os];exact k4.2⟩ (Nat.le_trans f.wid.size k5) (λb z=>(k6 b (by have:=f.wid.size;omega) (by show b≠w.heap.size+1;omega)).trans (f.old b z)) (by have:=f.wid.size;omega) k8 k9 ?_;have b3:=aaW (Rq.aU cs bd rs) (eC cs rs bd) (λm G=>by rw[Rq.gM]at G;rw[Rq.lQ cs bd rs m G];unfold eC;rw[sO G]) (λr hr=>by obtain⟨x,V,rfl⟩:=List.mem_map.1 hr;exact Rq.xK _ _ bd cs (ai x V));rw[Rq.gM]at b3;rw[<-b3];exact c9
end
end Co
section
open RowKit
theorem ahS(b k:Int)(w:HA):Calls prog 32 #[.agg #[.int .i64 b,.int .i64 k]] w λe w'=>e=.returned (.bool (decide (0<=b/\b<=3/\1<=k/\k<=16)))/\Below w.heap.size w w':=by
 obtain⟨B,c⟩:∃B,B=(decide (0<=b)&&decide (b<=3)):=⟨_,rfl⟩;obtain⟨A,a⟩:∃A,A=decide (0<=b/\b<=3/\1<=k/\k<=16):=⟨_,rfl⟩;have d:Hid (∀W,Calls prog 62 #[.int .i64 b,.int .i64 3] W λe w'=>e=.returned (.bool B)/\w'=W):=λW=>by rw[c];exact Ab b 3 W
 have g:Hid (A=(B&&decide (1<=k)&&decide (k<=16))):=by show _=_;rw[a,c];rw[Bool.eq_iff_iff];simp only[decide_eq_true_eq,Bool.and_eq_true];omega
 have f:Hid (∀o,Below w.heap.size w (w.alloc o)):=λo=>(Below.refl _ _).alloc (Nat.le_refl _) o;rw[<-a];clear a c;go_enter func32,ntmps32;go_wp2_with(go_at_call 62;refine(d.out _).mono ?_;rintro e w'⟨rfl,h⟩;subst w');all_goals go_ret;exact⟨cQ (by rw[g.out];simp_all<;>omega),f.out _⟩
end
