/- Runs, a part. -/
import Derived.Test.YtjebhbopmfcopaaGreatDoorZn
namespace Go.Proofs.YtjebhbopmfcopaaGreatDoor
open Go.Proofs
noncomputable section
variable{a a' b b':Addr}{c cs cs':B6}{S:FuncId->Bool}{h h' l l' m m':Option Fi}{α γ:Type}{t:TypeId}{v v' x x' y y':Fi}
namespace Co
section
variable(P:Program)(F:Array Func)
theorem oD:(aJ P F).depth=P.depth:=rfl
theorem vj(t:TypeId):(aJ P F).cellsOf t=P.cellsOf t:=rfl
theorem afd(t:TypeId):(aJ P F).bytesOf t=P.bytesOf t:=rfl
theorem Fg:cellAtBytes (aJ P F)=cellAtBytes P:=by kernel_rfl
theorem XJ:(aJ P F).alikeButTags=P.alikeButTags:=by kernel_rfl
theorem afV:(aJ P F).eqGuardType=P.eqGuardType:=by kernel_rfl
theorem abr(t:TypeId):(aJ P F).stoodInAs t=P.stoodInAs t:=by unfold Program.stoodInAs;rw[XJ];rfl
theorem wL(t:TypeId):(aJ P F).stoodInHeld t=P.stoodInHeld t:=by unfold Program.stoodInHeld;rw[abr]
theorem CN:∀(d:Nat)(t u:TypeId),sameLayout (aJ P F) d t u=sameLayout P d t u|0,_,_=>rfl|d+1,t,u=>by have a:=CN d;simp only[sameLayout,wL,a];rfl
theorem Gz(fits:TypeId->Bool):∀(d:Nat)(e:TypeId)(a off n:Nat),rowAt (aJ P F) fits d e a off n=rowAt P fits d e a off n|0,_,_,_,_=>rfl|d+1,e,a,off,n=>by have b:=Gz fits d;simp only[rowAt,wL,b];rfl
theorem GH:∀(d:Nat)(t:TypeId),(aJ P F).holdsStoodIn d t=P.holdsStoodIn d t|0,_=>rfl|d+1,t=>by have a:=GH d;simp only[Program.holdsStoodIn,wL,a];rfl
theorem G8:∀(d:Nat)(e:TypeId)(a off:Nat)(u:TypeId)(n:Nat),liesAt (aJ P F) d e a off u n=liesAt P d e a off u n|0,_,_,_,_,_=>rfl|d+1,e,a,off,u,n=>by have b:=G8 d;simp only[liesAt,Gz,CN,b];rfl
end
def be:Rn->α->α->Prop:=λ_ a b=>a=b
theorem Ab(a:Addr)(b n:Nat):({a with block:=b}:Addr).add n={a.add n with block:=b}:=by unfold Addr.add;split<;>rfl
theorem CC(a:Addr)(n:Nat):(a.add n).block=a.block:=by unfold Addr.add;split<;>rfl
theorem DR.add{G:Nat}{r:Rn}(k:DR G r a a')(n:Nat):DR G r (a.add n) (a'.add n):=by obtain⟨b,h1,c,rfl⟩:=k;exact⟨b,by rw[CC];exact h1,by rw[CC];exact c,Ab a b n⟩
theorem DR.ptr{G:Nat}{r:Rn}(k:DR G r a a'):VR G r (.pointer (some a)) (.pointer (some a')):=by obtain⟨b,h1,c,rfl⟩:=k;exact .ptr a b h1 c
theorem DR.sl{G:Nat}{r:Rn}(k:DR G r a a')(l c:Nat):VR G r (.slice (some a) l c) (.slice (some a') l c):=by obtain⟨b,h1,d,rfl⟩:=k;exact .sl a b l c h1 d
section
variable{P:Program}{K:Cm}{r:Rn}{α β γ δ:Type}{A:Rn->α->β->Prop}{B:Rn->γ->δ->Prop}
theorem ae{f:α->Sem γ}{c:β->Sem δ}{s:Sem α}{s':Sem β}(h:SR P K A r s s')(d:∀r1 a b,r.le r1->A r1 a b->SR P K B r1 (f a) (c b)):SR P K B r (s>>=f) (s'>>=c):=SR.bind h d
theorem ij{h:Halt}(c:Plain h):eF P (Sem.halt (α:=α) h):=⟨λw a w' e=>(by cases e),λw b=>⟨c,b⟩⟩
theorem JD{h:Halt}(a:Plain h)(s:Sem β):SR P K A r (.halt h) s:=.dead (ij a) s
theorem ax(w:String)(s:Sem β):SR P K A r (stuck w) s:=JD (h:=.stuck w) trivial s
theorem eZ(u:Unsupported)(a:Plain (.unsupported u):=by trivial):eF P (unsupported (α:=α) u):=ij a
theorem bX(u:Unsupported)(s:Sem β)(a:Plain (.unsupported u):=by trivial):SR P K A r (unsupported u) s:=JD a s
theorem ag{a:α}{b:β}(h:A r a b):SR P K A r (pure a) (pure b):=.pure h
theorem iX{f:α->Sem γ}{s:Sem α}(b:dM P s)(h:∀a,eF P (f a)):eF P (s>>=f):=eF.bind b h
theorem wj{f:α->Sem γ}{s:Sem α}(h:eF P s):eF P (s>>=f):=eF.left f h
theorem ky(v:Fi):eF P (goPanic (α:=α) v):=ij (h:=.panic v) trivial
theorem ie(a:α):dM P (pure a:Sem α):=λ_ b=>b
theorem iB{f:α->Sem γ}{s:Sem α}(b:dM P s)(h:∀a,dM P (f a)):dM P (s>>=f):=dM.bind b h
theorem yQ:dM P program:=λ_ a=>a
theorem Ev(q:Question):dM P (choose q):=λw a=>by simp only[choose,Sem.run];by_cases hq:q.forced=true;(·rw[if_pos hq];exact a);·rw[if_neg hq];exact a
theorem NG(a:Nat):dM P (shape a):=λ_ b=>b
theorem Va(a:Addr):dM P (frozen a):=λ_ b=>b
theorem Sa(m:Mark):dM P (mark m):=λ_ a=>a
theorem CR(e:TypeId)(c:B6):dM P (newRow e c):=by refine iB (s:=newObj (.cells c e)) ?_ λ_=>ie _;intro w f;refine⟨λk b a h=>?_,?_⟩;(·rw[Array.getElem?_push]at h;split at h;(·cases h);·exact f.1 k b a h);·obtain⟨b,a,fz,h⟩:=f.2;have d:=(Array.getElem?_eq_some_iff.1 h).1;exact⟨b,a,fz,by show(w.heap.push _)[0]?=_;rw[Array.getElem?_push_lt d,<-h,Array.getElem?_eq_getElem d]⟩
theorem abM(t:TypeId):dM P (underlying t):=by refine iB yQ λp=>?_;cases p.underlying t with|none=>exact(ij (h:=.stuck _) trivial).2|some i=>exact ie _
theorem Bj(t:TypeId):dM P (elemOf t):=by refine iB (abM t) λd=>?_;cases d with|pointer e=>exact ie _|_=>exact(ij (h:=.stuck _) trivial).2
theorem iD(x:RuntimeError):eF P (runtimePanic (α:=α) x):=by unfold runtimePanic;refine iX yQ λp=>?_;cases x with|bounds _ _ _ _|error _|plain _|nilDeref|unhashable t=>exact ky _|typeAssertion i c a m|panicNil=>exact iX (Bj _) λ_=>iX (CR _ _) λ_=>ky _
theorem ny(x:RuntimeError)(s:Sem β):SR P K A r (runtimePanic x) s:=.dead (iD x) s
theorem abh(k:IntKind)(x y:Int)(c:BoundsCode):eF P (boundsPanic (α:=α) k x y c):=by unfold boundsPanic;dsimp only;split;(·exact iX (iB (Ev _) λ_=>ie _) λ_=>iD _);·exact iX (ie _) λ_=>iD _
theorem rz(k:IntKind)(x y:Int)(c:BoundsCode)(s:Sem β):SR P K A r (boundsPanic k x y c) s:=.dead (abh k x y c) s
end
section
variable{P:Program}{K:Cm}{r:Rn}
theorem gr:SR P K (λ_ a b=>a=P/\b=aJ P K.F) r program program:=.program (.pure ⟨rfl,rfl⟩)
theorem pV(q:Question):SR P K be r (choose q) (choose q):=.choose q λ_=>.pure rfl
theorem AN(h:DR P.globals.size r a a'):SR P K (VR P.globals.size) r (load a) (load a'):=by obtain⟨b,h1,_,rfl⟩:=h;exact .load a b h1 λv v' c=>.pure c
theorem ML(h:DR P.globals.size r a a')(c:VR P.globals.size r v v'):SR P K be r (store a v) (store a' v'):=by obtain⟨b,h1,_,rfl⟩:=h;exact .store a b h1 c (.pure rfl)
theorem iy{a b:Nat}(h:r a b):SR P K be r (shape a) (shape b):=.shape a b h λ_=>.pure rfl
theorem Ib(h:DR P.globals.size r a a')(n:Nat):SR P K be r (freeze a n) (freeze a' n):=by obtain⟨b,h1,_,rfl⟩:=h;exact .freeze a b n h1 (.pure rfl)
theorem Au(n:Nat):SR P K be r (askRoom n) (askRoom n):=by unfold askRoom;split;(·exact .noRoom (.pure rfl));·exact .pure rfl
theorem ly(t:TypeId):SR P K (λ_ a b=>a=b/\P.info? t=some a) r (typeInfo t) (typeInfo t):=by unfold typeInfo;refine ae gr ?_;rintro r1 p q _⟨d,c⟩;rw[d,c,show(aJ P K.F).info? t=P.info? t from rfl];cases h:P.info? t with|none=>exact ax _ _|some i=>exact ag ⟨rfl,rfl⟩
theorem cg(t:TypeId):SR P K (λ_ a b=>a=b/\P.underlying t=some a) r (underlying t) (underlying t):=by unfold underlying;refine ae gr ?_;rintro r1 p q _⟨d,c⟩;rw[d,c,show(aJ P K.F).underlying t=P.underlying t from rfl];cases h:P.underlying t with|none=>exact ax _ _|some i=>exact ag ⟨rfl,rfl⟩
theorem eP(t:TypeId):SR P K be r (sizeOf t) (sizeOf t):=by unfold sizeOf;refine ae (ly t) ?_;rintro r1 i _ _⟨rfl,_⟩;exact ag rfl
def ZB(P:Program)(t:TypeId):Prop:=∀i v,P.info? t=some i->i.zero=some v->cV v
theorem qM(d:ZB P t):SR P K (λ_ a b=>a=b/\cV a) r (zeroValue t) (zeroValue t):=by unfold zeroValue;refine ae (ly t) ?_;rintro r1 i _ _⟨rfl,c⟩;cases h:i.zero with|none=>exact bX _ _|some v=>exact ag ⟨rfl,d i v c h⟩
theorem II(t:TypeId):SR P K be r (isAgg t) (isAgg t):=by unfold isAgg;refine ae (cg t) ?_;rintro r1 d _ _⟨rfl,_⟩;cases d<;>exact ag rfl
theorem Jp{a a':Addr}:∀(n i:Nat)(r:Rn)(c b:B6),DR P.globals.size r a a'->AR P.globals.size r c b->SR P K (AR P.globals.size) r (loadCellsFrom a i n c) (loadCellsFrom a' i n b)|0,i,r,c,b,_,d=>ag d|n+1,i,r,c,b,h,d=>by unfold loadCellsFrom;refine ae (AN (h.add i)) ?_;intro r1 v v' e f;exact Jp n (i+1) r1 _ _ (h.mono e) ((d.mono e).push f)
theorem Az(h:DR P.globals.size r a a')(n:Nat):SR P K (AR P.globals.size) r (loadCells a n) (loadCells a' n):=Jp n 0 r #[] #[] h (AR.nil _ r)
inductive LR(G:Nat)(r:Rn):CL->CL->Prop|nil:LR G r [] []|cons{v v':Fi}{l l':CL}(h:VR G r v v')(k:LR G r l l'):LR G r (v::l) (v'::l')
theorem LR.mono{G:Nat}{r s:Rn}(h:r.le s){l l':CL}(k:LR G r l l'):LR G s l l':=by induction k with|nil=>exact .nil|cons h' _ a=>exact .cons (h'.mono h) a
theorem CW{G:Nat}{r:Rn}:∀(l l':CL),l.length=l'.length->(∀(i:Nat)(h1:i<l.length)(b:i<l'.length),VR G r l[i] l'[i])->LR G r l l'|[],[],_,_=>.nil|[],_::_,h,_=>by simp at h|_::_,[],h,_=>by simp at h|v::l,v'::l',h,a=>.cons (a 0 (by simp) (by simp)) (CW l l' (by simpa using h) λi h1 b=>a (i+1) (by simpa using h1) (by simpa using b))
theorem AR.toList{G:Nat}{r:Rn}(h:AR G r cs cs'):LR G r cs.toList cs'.toList:=CW _ _ (by simpa using h.1) λi h1 a=>by simpa using h.2 i (by simpa using h1) (by simpa using a)
theorem tg{a a':Addr}:∀(l l':CL)(r:Rn),LR P.globals.size r l l'->DR P.globals.size r a a'->∀i,SR P K be r (storeCells a l i) (storeCells a' l' i)|_,_,r,.nil,_,i=>ag rfl|_,_,r,.cons (v:=v) (v':=v') (l:=l) (l':=l') d c,hd,i=>by unfold storeCells;refine ae (ML (hd.add i) d) ?_;intro r1 _ _ b _;exact tg l l' r1 (c.mono b) (hd.mono b) (i+1)
theorem CU(t:TypeId)(h:DR P.globals.size r a a'):SR P K (VR P.globals.size) r (loadVar t a) (loadVar t a'):=by unfold loadVar;refine ae (II t) ?_;rintro r1 x _ d rfl;cases x with|true=>refine ae (eP t) ?_;rintro r2 n _ e rfl;refine ae (Az ((h.mono d).mono e) n) ?_;intro r3 c f _ b;exact ag (.agg b.1 b.2)|false=>exact AN (h.mono d)
theorem Yp(t:TypeId)(h:DR P.globals.size r a a')(e:VR P.globals.size r v v'):SR P K be r (storeVar t a v) (storeVar t a' v'):=by unfold storeVar;refine ae (eP t) ?_;rintro r1 n _ c rfl;have b:=(e.mono c).cells;by_cases hn:v.cells.size≠n;(·rw[if_pos hn,if_pos (by rw[<-b.1];exact hn)];exact ae (ax (A:=be) _ _) λr2 _ _ d _=>tg _ _ r2 (b.toList.mono d) ((h.mono c).mono d) 0);·rw[if_neg hn,if_neg (by rw[<-b.1];exact hn)];exact tg _ _ r1 b.toList (h.mono c) 0
theorem og(e:TypeId)(h:AR P.globals.size r cs cs'):SR P K (DR P.globals.size) r (newRow e cs) (newRow e cs'):=by unfold newRow newObj;exact .new cs cs' e (0,0) h λn b a=>.pure ⟨b,.inr ⟨rfl,rfl⟩,.inl a,rfl⟩
theorem DQ(t:TypeId)(h:VR P.globals.size r v v'):SR P K (DR P.globals.size) r (newVar t v) (newVar t v'):=og t h.cells
theorem qf(t:TypeId)(h:AR P.globals.size r cs cs')(off:Nat):SR P K (VR P.globals.size) r (part t cs off) (part t cs' off):=by unfold part;refine ae (II t) ?_;rintro r1 x _ b rfl;cases x with|true=>refine ae (eP t) ?_;rintro r2 n _ c rfl;have a:=((h.mono b).mono c).extract off (off+n);exact ag (.agg a.1 a.2)|false=>simp only[Bool.false_eq_true,if_false];cases e:cs[off]? with|none=>exact ax _ _|some v=>obtain⟨v',f,d⟩:=h.get? e;simp only[f];exact ag (d.mono b)
theorem wv(h:VR P.globals.size r v v'):SR P K be r (asIntOf v) (asIntOf v'):=by cases h<;>first|exact ag rfl|exact bX _ _|exact ax _ _
theorem oK(h:VR P.globals.size r v v'):SR P K be r (asInt v) (asInt v'):=by unfold asInt;refine ae (wv h) ?_;rintro r1 x _ _ rfl;exact ag rfl
theorem LD(h:VR P.globals.size r v v'):SR P K be r (asBool v) (asBool v'):=by cases h<;>first|exact ag rfl|exact ax _ _
theorem Vd(h:VR P.globals.size r v v'):SR P K (AR P.globals.size) r (asAgg v) (asAgg v'):=by cases h with|agg h1 a=>exact ag ⟨h1,a⟩|_=>exact ax _ _
theorem afv(h:VR P.globals.size r v v'):SR P K (DR P.globals.size) r (asAddr v) (asAddr v'):=by cases h with|ptr a b h c=>exact ag ⟨b,h,c,rfl⟩|cQ=>exact ny (A:=DR P.globals.size) .nilDeref _|_=>exact ax _ _
theorem sU(h:VR P.globals.size r v v'):SR P K (DR P.globals.size) r (Instr.sureAddr v) (Instr.sureAddr v'):=by cases h with|ptr a b h c=>exact ag ⟨b,h,c,rfl⟩|_=>exact ax _ _
end
inductive NR(K:Cm)(G:Nat)(S:FuncId->Bool)(r:Rn):Next->Next->Prop|value{v v':Fi}(h:VR G r v v'):NR K G S r (.value v) (.value v')|skip:NR K G S r .skip .skip|enter(f:FuncId){a a':B6}(h:AR G r a a')(hf:S f=true\/Ar K f a.size):NR K G S r (.enter f a) (.enter f a')
section
variable{P:Program}{K:Cm}{r:Rn}
theorem dT{s s':Sem Fi}(h:SR P K (VR P.globals.size) r s s'):SR P K (NR K P.globals.size S) r (do pure (.value (<-s))) (do pure (.value (<-s'))):=ae h λ_ _ _ _ a=>ag (.value a)
theorem ahR{s s':Sem Unit}(h:SR P K be r s s'):SR P K (NR K P.globals.size S) r (do s;pure .skip) (do s';pure .skip):=ae h λ_ _ _ _ _=>ag .skip
theorem aaI{e:TypeId}(c:ZB P e):SR P K (VR P.globals.size) r (Instr.alloc e true (.tuple #[])) (Instr.alloc e true (.tuple #[])):=by unfold Instr.alloc;refine ae (qM c) ?_;rintro r1 z _ _⟨rfl,b⟩;exact ae (DQ e (b.vr _ r1)) λr2 a a' _ h=>ag h.ptr
theorem Ys(e:TypeId)(h:VR P.globals.size r v v'):SR P K (VR P.globals.size) r (Instr.box e v) (Instr.box e v'):=by unfold Instr.box;exact ae (DQ e h) λr2 a a' _ h=>ag h.ptr
theorem YO(t:TypeId)(h:VR P.globals.size r v v'):SR P K (VR P.globals.size) r (Instr.loadAt t v) (Instr.loadAt t v'):=by unfold Instr.loadAt;exact ae (sU h) λr2 a a' _ h=>CU t h
theorem ahX(t:TypeId)(h:VR P.globals.size r v v')(c:VR P.globals.size r x x'):SR P K be r (Instr.storeAt t v x) (Instr.storeAt t v' x'):=by unfold Instr.storeAt;exact ae (sU h) λr2 a a' b h=>Yp t h (c.mono b)
theorem Y4(h:VR P.globals.size r v v')(i:Nat):SR P K (VR P.globals.size) r (Instr.extract v i) (Instr.extract v' i):=by unfold Instr.extract;cases h with|@tuple cs cs' b c=>(have d:AR P.globals.size r cs cs':=⟨b,c⟩;dsimp only;cases e:cs[i]? with|none=>exact ax _ _|some x=>obtain⟨x',f,a⟩:=d.get? e;simp only[f];exact ag a)|_=>exact ax _ _
theorem Qf(t:TypeId)(h:VR P.globals.size r v v')(f:Nat):SR P K (VR P.globals.size) r (Instr.field t v f) (Instr.field t v' f):=by unfold Instr.field;refine ae (cg t) ?_;rintro r1 d _ c⟨rfl,_⟩;cases d with|struct e=>(dsimp only;cases e[f]? with|none=>exact ax _ _|some x=>exact ae (Vd (h.mono c)) λr2 a a' _ b=>qf x.type b x.offset)|_=>exact ax _ _
theorem aa2(t:TypeId)(h:VR P.globals.size r v v')(b:VR P.globals.size r x x'):SR P K (VR P.globals.size) r (Instr.index t v x) (Instr.index t v' x'):=by unfold Instr.index;refine ae (wv b) ?_;rintro r1⟨k,i⟩_ c rfl;refine ae (cg t) ?_;rintro r2 d _ f⟨rfl,_⟩;cases h with|@agg cs cs' g j=>(have l:AR P.globals.size r2 cs cs':=((show AR P.globals.size r cs cs' from⟨g,j⟩).mono c).mono f;cases d with|array len e=>dsimp only;split;(·refine ae (eP e) ?_;rintro r3 n _ a rfl;exact qf e (l.mono a) _);·exact rz _ _ _ _ _|_=>exact ax _ _)|string s=>(cases d with|string=>dsimp only;split;(·exact ag (.int _ _));·exact rz _ _ _ _ _|_=>exact ax _ _)|_=>cases d<;>exact ax _ _
theorem vF(h:VR P.globals.size r v v')(y:Nat)(c:BoundsCode):SR P K be r (Instr.sliceBound v y c) (Instr.sliceBound v' y c):=by unfold Instr.sliceBound;refine ae (wv h) ?_;rintro r1⟨k,i⟩_ a rfl;dsimp only;split;(·exact ag rfl);·exact rz _ _ _ _ _
def OR(G:Nat)(r:Rn):Option Fi->Option Fi->Prop|none,none=>True|some v,some v'=>VR G r v v'|_,_=>False
theorem OR.mono{G:Nat}{r s:Rn}(h:r.le s):∀{x x':Option Fi},OR G r x x'->OR G s x x'|none,none,_=>trivial|some _,some _,k=>VR.mono h k
/-- the end of it -/
def I3 (l : Option Fi) (a b : Nat) (c : Bool) : Sem (Nat × Nat × Nat) :=
  match l with
  | some v => do
    let l ← Instr.sliceBound v a (if c then .slice3C else .sliceB)
    pure (l, a, b)
  | none => do
    let l ← pure 0
    pure (l, a, b)
theorem uR(d:OR P.globals.size r l l')(a b:Nat)(c:Bool):SR P K be r (I3 l a b c) (I3 l' a b c):=by match l,l',d with|none,none,_=>exact ae (ag (A:=be) rfl) λr3 x _ _ e=>by cases e;exact ag rfl|some v,some v',k=>exact ae (vF k _ _) λr3 x _ _ e=>by cases e;exact ag rfl
theorem pq(f:Bool)(len cap:Nat)(c:OR P.globals.size r l l')(d:OR P.globals.size r h h')(i:OR P.globals.size r m m'):SR P K be r (Instr.sliceBounds f len cap l h m) (Instr.sliceBounds f len cap l' h' m'):=by unfold Instr.sliceBounds;match m,m',i with|none,none,_=>(refine ae (ag (A:=be) rfl) ?_;rintro r1 mm _ b rfl;match h,h',d with|none,none,_=>exact ae (ag (A:=be) rfl) λr2 x _ a e=>by cases e;exact uR ((c.mono b).mono a) _ _ false|some v,some v',k=>exact ae (vF (VR.mono b k) _ _) λr2 x _ a e=>by cases e;exact uR ((c.mono b).mono a) _ _ false)|some w,some w',g=>refine ae (vF g _ _) ?_;rintro r1 mm _ b rfl;match h,h',d with|none,none,_=>exact ae (ax (A:=be) _ _) λr2 x _ a e=>by cases e;exact uR ((c.mono b).mono a) _ _ true|some v,some v',k=>exact ae (vF (VR.mono b k) _ _) λr2 x _ a e=>by cases e;exact uR ((c.mono b).mono a) _ _ true
theorem dm{a:Type}{B:Rn->γ->a->Prop}{s:Sem α}{f:α->Sem γ}(h:eF P s)(s':Sem a):SR P K B r (s>>=f) s':=.dead (wj h) s'
theorem Zo(t:TypeId)(D:VR P.globals.size r v v')(i:OR P.globals.size r l l')(k:OR P.globals.size r h h')(u:OR P.globals.size r m m'):SR P K (VR P.globals.size) r (Instr.slice t v l h m) (Instr.slice t v' l' h' m'):=by unfold Instr.slice;refine ae (cg t) ?_;rintro r1 d _ c⟨rfl,_⟩;(have E:m.isSome=m'.isSome:=by match m,m',u with|none,none,_=>rfl|some _,some _,_=>rfl);cases D with|string s=>(cases d with|string=>dsimp only;rw[E];split;(·exact ae (ax (A:=be) _ _) λr2 _ _ f _=>ae (pq false _ _ ((i.mono c).mono f) ((k.mono c).mono f) (show OR P.globals.size r2 none none from trivial)) λr3 x _ _ e=>by cases e;exact ag (.string _));·exact ae (pq false _ _ (i.mono c) (k.mono c) (show OR P.globals.size r1 none none from trivial)) λr3 x _ _ e=>by cases e;exact ag (.string _)|pointer o=>exact dm (ij (h:=.stuck _) trivial) _|_=>exact ax _ _)|sl a b F G w B=>(cases d with|slice e=>refine ae (pq true _ _ (i.mono c) (k.mono c) (u.mono c)) ?_;rintro r2⟨x,y,z⟩_ f rfl;refine ae (eP e) ?_;rintro r3 n _ g rfl;have j:DR P.globals.size r3 a {a with block:=b}:=⟨b,g _ _ (f _ _ (c _ _ w)),B,rfl⟩;split;(·exact ag (j.sl _ _));·exact ag ((j.add _).sl _ _)|pointer o=>exact dm (ij (h:=.stuck _) trivial) _|_=>exact ax _ _)|cW F G=>(cases d with|slice e=>refine ae (pq true _ _ (i.mono c) (k.mono c) (u.mono c)) ?_;rintro r2⟨x,y,z⟩_ f rfl;refine ae (eP e) ?_;rintro r3 n _ g rfl;split;(·exact ag (.cW _ _));·exact ag (.cW _ _)|pointer o=>exact dm (ij (h:=.stuck _) trivial) _|_=>exact ax _ _)|cQ=>(cases d<;>first|exact ax _ _|exact dm (iD .nilDeref) _)|ptr a b w B=>(cases d with|pointer o=>(refine ae (ag (A:=DR P.globals.size) ⟨b,c _ _ w,B,rfl⟩) ?_;intro r2 x x' f H;refine ae (cg o) ?_;rintro r3 d _ g⟨rfl,_⟩;cases d with|array n e=>refine ae (pq false _ _ (((i.mono c).mono f).mono g) (((k.mono c).mono f).mono g) (((u.mono c).mono f).mono g)) ?_;rintro J⟨p,q,z⟩_ I rfl;refine ae (eP e) ?_;rintro L n _ C rfl;have j:=((H.mono g).mono I).mono C;split;(·exact ag (j.sl _ _));·exact ag ((j.add _).sl _ _)|_=>exact ax _ _)|_=>exact ax _ _)|_=>cases d<;>first|exact ax _ _|exact dm (ij (h:=.stuck _) trivial) _
theorem aeP(t:TypeId)(j:VR P.globals.size r v v')(i:OR P.globals.size r l l')(f:OR P.globals.size r h h')(g:OR P.globals.size r m m'):SR P K (VR P.globals.size) r (Instr.sliceAt t v l h m) (Instr.sliceAt t v' l' h' m'):=by unfold Instr.sliceAt;refine ae (cg t) ?_;rintro r1 d _ a⟨rfl,_⟩;cases d with|array n e=>refine ae (sU (j.mono a)) ?_;intro r2 x x' b k;refine ae (pq false _ _ ((i.mono a).mono b) ((f.mono a).mono b) ((g.mono a).mono b)) ?_;rintro u⟨p,q,z⟩_ s rfl;refine ae (eP e) ?_;rintro w n _ o rfl;have c:=(k.mono s).mono o;split;(·exact ag (c.sl _ _));·exact ag ((c.add _).sl _ _)|_=>exact Zo t (j.mono a) (i.mono a) (f.mono a) (g.mono a)
def xJ(t:TypeId)(k:IntKind)(i:Int)(base:Option Addr)(len:Nat)(elem:TypeId):Sem Fi:=do let b:=len<=1&&(match<-underlying t with|.array .. =>true|_=>false)match base with|some a=>if 0<=i/\i<len then pure (.pointer (some (a.add (i.toNat*(<-sizeOf elem)))))else if b then unsupported (.noEntry "op/indexAddr.an index out of range at an array of length 0 or 1 (ledger 616)")else boundsPanic k i len .index|none=>boundsPanic k i 0 .index
def BR(G:Nat)(r:Rn):Option Addr->Option Addr->Prop|none,none=>True|some a,some a'=>DR G r a a'|_,_=>False
theorem zv(t:TypeId)(k:IntKind)(i:Int){base b:Option Addr}(len:Nat)(elem:TypeId)(d:BR P.globals.size r base b):SR P K (VR P.globals.size) r (xJ t k i base len elem) (xJ t k i b len elem):=by unfold xJ;refine ae (cg t) ?_;rintro g f _ e⟨rfl,_⟩;match base,b,d with|none,none,_=>exact rz _ _ _ _ _|some a,some a',hd=>dsimp only;split;(·refine ae (eP elem) ?_;rintro h n _ c rfl;exact ag (((DR.mono e hd).mono c).add _).ptr);·(repeat' split);all_goals first|exact bX _ _|exact rz _ _ _ _ _
theorem QX(t:TypeId)(m:VR P.globals.size r v v')(u:VR P.globals.size r x x'):SR P K (VR P.globals.size) r (Instr.indexAt t v x) (Instr.indexAt t v' x'):=by unfold Instr.indexAt;refine ae (wv u) ?_;rintro r1⟨k,i⟩_ p rfl;refine ae (cg t) ?_;rintro r2 d _ o⟨rfl,_⟩;have w:=(m.mono p).mono o;cases d with|array n e=>refine ae (sU w) ?_;intro r3 a a' B s;exact ae (ag (A:=λ_(x y:Option Addr×Nat×TypeId)=>x=(some a,n,e)/\y=(some a',n,e)) ⟨rfl,rfl⟩) λg x y j f=>by obtain⟨rfl,rfl⟩:=f;exact zv t k i n e (show BR P.globals.size g (some a) (some a')from s.mono j)|slice e=>(cases m with|sl a b l c z q=>exact ae (ag (A:=λ_(x y:Option Addr×Nat×TypeId)=>x=(some a,l,e)/\y=(some {a with block:=b},l,e)) ⟨rfl,rfl⟩) λg x y j f=>by obtain⟨rfl,rfl⟩:=f;exact zv t k i l e (show BR P.globals.size g (some a) (some {a with block:=b})from⟨b,j _ _ (o _ _ (p _ _ z)),q,rfl⟩)|cW l c=>exact ae (ag (A:=λ_(x y:Option Addr×Nat×TypeId)=>x=(none,l,e)/\y=(none,l,e)) ⟨rfl,rfl⟩) λg x y j f=>by obtain⟨rfl,rfl⟩:=f;exact zv t k i l e (show BR P.globals.size g none none from trivial)|_=>exact dm (ij (h:=.stuck _) trivial) _)|_=>cases m<;>exact dm (ij (h:=.stuck _) trivial) _
end
section
variable{P:Program}{K:Cm}{r:Rn}
def VA(P:Program)(r:Rn):Option (Addr×TypeId)->Option (Addr×TypeId)->Prop|none,none=>True|some (a,t),some (a',b)=>DR P.globals.size r a a'/\t=b/\iI P t|_,_=>False
theorem tP{a b:Nat}(h:r a b):SR P K (VA P) r (viewAt a) (viewAt b):=by unfold viewAt;refine ae (iy h) ?_;rintro r1 s _ d rfl;cases s with|some x=>exact ag trivial|none=>exact SR.getObj a b (d _ _ h) (λx x' f _=>ag trivial) λx x' t e c=>ag ⟨e,rfl,c⟩
theorem xz(h:DR P.globals.size r a a'):SR P K be r (noView a) (noView a'):=by obtain⟨b,h1,_,rfl⟩:=h;unfold noView;refine ae (tP h1) ?_;intro r1 x y d c;match x,y,c with|none,none,_=>exact ag rfl|some _,some _,_=>exact bX _ _
theorem TV{a b:Nat}(h:r a b):SR P K be r (cellsIn a) (cellsIn b):=by unfold cellsIn;refine ae (iy h) ?_;rintro r1 s _ c rfl;cases s with|some x=>exact ag rfl|none=>exact SR.getObj a b (c _ _ h) (λx x' d _=>ag rfl) λx x' t _ _=>ag rfl
def MR(G:Nat)(r:Rn):Option (Addr×Bool)->Option (Addr×Bool)->Prop|none,none=>True|some (a,l),some (a',l')=>DR G r a a'/\l=l'|_,_=>False
theorem Hi{a b:Nat}(h:r a b):SR P K (MR P.globals.size) r (numberAt a) (numberAt b):=by unfold numberAt;refine ae (iy h) ?_;rintro r1 s _ d rfl;cases s with|some x=>exact ag trivial|none=>exact SR.getObj a b (d _ _ h) (λx x' e c=>ag ⟨c,rfl⟩) λx x' t _ _=>ag trivial
theorem mP(h:DR P.globals.size r a a'):SR P K (λr x y=>DR P.globals.size r x.1 y.1/\x.2=y.2) r (behindNumber a) (behindNumber a'):=by unfold behindNumber;have d:=h;obtain⟨b,h1,_,rfl⟩:=d;refine ae (Hi h1) ?_;intro r1 x y e c;match x,y,c with|none,none,_=>exact ag ⟨h.mono e,rfl⟩|some (p,l),some (q,m),k=>exact ag k
theorem YZ(h:DR P.globals.size r a a')(b:Bool):SR P K (VR P.globals.size) r (asNumber a b) (asNumber a' b):=by unfold asNumber newObj;exact SR.number a a' b h λn d c=>.pure (.ptr ⟨n,0,none⟩ d (.inr ⟨rfl,rfl⟩) (.inl c))
theorem rJ(h:DR P.globals.size r a a'):SR P K be r (byteOf a) (byteOf a'):=by have g:=h;obtain⟨b,h1,_,rfl⟩:=g;unfold byteOf;dsimp only;cases f:a.spot with|some s=>exact ag rfl|none=>(have h':DR P.globals.size r a {block:=b,off:=a.off,spot:=none}:=by rw[<-f];exact h);dsimp only;refine ae gr ?_;rintro r1 p q c⟨d,i⟩;rw[d,i];refine ae (xz (h'.mono c)) ?_;rintro r2 _ _ j _;refine ae (iy (j _ _ (c _ _ h1))) ?_;rintro r3 s _ k rfl;cases s with|none=>exact ax _ _|some x=>obtain⟨e,n⟩:=x;simp only[vj,afd,oD,yw];split;(·exact ag rfl);·split;(·exact ag rfl);·exact ax _ _
theorem AZ(k:IntKind)(h:DR P.globals.size r a a')(n:Int):SR P K (VR P.globals.size) r (Op.addrMod k a n) (Op.addrMod k a' n):=by have d:=h;obtain⟨b,h1,_,rfl⟩:=d;unfold Op.addrMod;refine ae (iy h1) ?_;rintro r1 s _ f rfl;cases s with|none=>exact bX _ _|some x=>obtain⟨e,m⟩:=x;refine ae (ly e) ?_;rintro r2 i _ c⟨rfl,_⟩;dsimp only;split;(·exact dm (eZ _) _);·refine ae (rJ ((h.mono f).mono c)) ?_;rintro r3 x _ _ rfl;exact ag (.int _ _)
theorem uM(t:TypeId)(j:VR P.globals.size r x x')(f:VR P.globals.size r y y'):SR P K (VR P.globals.size) r (Builtin.unsafeAdd_ #[] t #[x,y]) (Builtin.unsafeAdd_ #[] t #[x',y']):=by unfold Builtin.unsafeAdd_;cases j with|cQ=>dsimp only;refine ae (oK f) ?_;rintro r1 n _ c rfl;split;(·exact bX _ _);·split;(·exact dm (eZ _) _);·exact bX _ _|ptr a b h g=>(dsimp only;refine ae (oK f) ?_;rintro r1 n _ c rfl;split;(·refine ae (tP (c _ _ h)) ?_;intro r2 x y d k;match x,y,k with|none,none,_=>exact ag (.ptr a b (d _ _ (c _ _ h)) g)|some _,some _,_=>exact dm (eZ _) _);·split;(·exact dm (eZ _) _);·refine ae (iy (c _ _ h)) ?_;rintro r2 s _ d rfl;cases s with|none=>exact bX _ _|some z=>obtain⟨e,m⟩:=z;refine ae gr ?_;rintro r3 p q l⟨o,i⟩;simp only[o,i,oD,Fg,vj];split;(·exact ag (.ptr {a with off:=_} b (l _ _ (d _ _ (c _ _ h))) g));·exact bX _ _)|_=>exact ax _ _
def Ji(t:TypeId)(x y:Fi):Sem Fi:=match x with|.pointer (some n)=>(do let(a,lost)<-behindNumber n match<-Builtin.unsafeAdd_ #[] t #[.pointer (some a),y]with|.pointer (some b)=>asNumber b lost|v=>pure v)|_=>Builtin.unsafeAdd_ #[] t #[x,y]
theorem Ua(t:TypeId)(g:VR P.globals.size r x x')(o:VR P.globals.size r y y'):SR P K (VR P.globals.size) r (Ji t x y) (Ji t x' y'):=by have w:=g;cases g with|ptr a b h d=>(have s:DR P.globals.size r a {a with block:=b}:=⟨b,h,d,rfl⟩;refine ae (mP s) ?_;rintro r2⟨p,l⟩⟨q,m⟩u⟨j,i⟩;dsimp only at j i;subst i;refine ae (uM t j.ptr (o.mono u)) ?_;intro r3 z A B v;cases v with|ptr a b h d=>exact YZ ⟨b,h,d,rfl⟩ l|bool b=>exact ag (.bool b)|int k n=>exact ag (.int k n)|string x=>exact ag (.string x)|cQ=>exact ag .cQ|cW l c=>exact ag (.cW l c)|sl a b l c h d=>exact ag (.sl a b l c h d)|fn f=>exact ag (.fn f)|nilFunc=>exact ag .nilFunc|nilIface=>exact ag .nilIface|iface t h=>exact ag (.iface t h)|agg e h=>exact ag (.agg e h)|tuple e h=>exact ag (.tuple e h))|_=>exact uM t w o
theorem pB(t:TypeId)(b:VR P.globals.size r x x')(c:VR P.globals.size r y y'):SR P K (VR P.globals.size) r (movedNumber t x y) (movedNumber t x' y'):=by unfold movedNumber;refine ae (cg t) ?_;rintro r1 d _ a⟨rfl,_⟩;cases d with|unsafePointer=>exact dm (eZ _) _|_=>exact Ua t (b.mono a) (c.mono a)
theorem Fs(t:TypeId)(d:VR P.globals.size r x x')(e:VR P.globals.size r y y'):SR P K (VR P.globals.size) r (movedPointer t x y) (movedPointer t x' y'):=by unfold movedPointer;have c:=d;cases d with|ptr a b h j=>(refine ae (Hi h) ?_;intro r1 z i f g;match z,i,g with|none,none,_=>exact uM t (c.mono f) (e.mono f)|some _,some _,_=>exact dm (eZ _) _)|_=>exact uM t c e
theorem BV(op:BinOp)(k:IntKind)(a b:Int):SR P K (VR P.globals.size) r (Op.intArith op k a b) (Op.intArith op k a b):=by unfold Op.intArith;cases op<;>first|exact ag (.int _ _)|exact ax _ _
theorem MK(op:BinOp)(k:IntKind)(a b:Int):SR P K (VR P.globals.size) r (Op.intDiv op k a b) (Op.intDiv op k a b):=by unfold Op.intDiv;split;(·exact ny _ _);·cases op<;>first|exact ag (.int _ _)|exact ax _ _
theorem H8(op:BinOp)(k:IntKind)(a b:Int):SR P K (VR P.globals.size) r (Op.intBits op k a b) (Op.intBits op k a b):=by unfold Op.intBits;cases op<;>first|exact ag (.int _ _)|exact ax _ _
theorem PU(op:BinOp)(a b:Int):SR P K (VR P.globals.size) r (Op.intCmp op a b) (Op.intCmp op a b):=by unfold Op.intCmp;cases op<;>first|exact ag (.bool _)|exact ax _ _
theorem Ta(op:BinOp)(k k':IntKind)(a b:Int):SR P K (VR P.globals.size) r (Op.shift op k a k' b) (Op.shift op k a k' b):=by unfold Op.shift;split;(·exact ny _ _);·cases op<;>first|exact ag (.int _ _)|exact ax _ _
theorem Nw(op:BinOp)(a b:Fo):SR P K (VR P.globals.size) r (Op.stringOp op a b) (Op.stringOp op a b):=by unfold Op.stringOp;cases op<;>first|exact ag (.bool _)|exact ax _ _|(dsimp only;split<;>first|exact bX _ _|exact ag (.string _))
theorem TP(op:UnOp)(c:VR P.globals.size r x x'):SR P K (VR P.globals.size) r (Op.unary op x) (Op.unary op x'):=by cases c with|bool b=>(cases op<;>first|exact ag (.bool _)|exact ax _ _)|int k n=>(cases op with|neg=>exact BV .sub k 0 n|xor=>exact H8 .xor k _ n|_=>exact ax _ _)|ptr a b h d=>(cases op<;>first|exact bX _ _|exact ax _ _)|_=>cases op<;>exact ax _ _
end
def ow(P:Program)(x:Bool):Nat->TypeId->Bool|0,_=>false|n+1,t=>match P.underlying t with|some .bool|some .string|some (.slice _)|some (.func _ _ _)=>true|some (.int _)=>(match P.info? t with|some i=>(match i.desc with|.named n _=>n != "sync.copyChecker"|_=>true)|none=>true)|some (.pointer _)=>x|some (.struct a)=>a.all λf=>ow P x n f.type|some (.array _ e)=>ow P x n e|_=>false
def ph(P:Program)(K:Cm)(t:TypeId):Bool:=ow P K.x 20 t
section
variable{P:Program}{K:Cm}{r:Rn}
theorem aek{f:TypeInfo->Sem γ}(h:∀i,P.info? t=some i->eF P (f i)):eF P (typeInfo t>>=f):=by
 have d:∀w,(typeInfo t).run P w=match P.info? t with|some i=>.ok i w|none=>.halt (.stuck "no such type") w:=by intro w;show(Sem.bind (Sem.program Sem.pure) _).run P w=_;simp only[Sem.bind,Sem.run];cases P.info? t<;>rfl
 refine⟨λw b w' e=>?_,λw g=>?_⟩;·have a:((typeInfo t).bind f).run P w=.ok b w':=e;rw[run_bind,d]at a;cases c:P.info? t with|none=>rw[c]at a;cases a|some i=>rw[c]at a;exact(h i c).1 _ _ _ a
 ·(show match((typeInfo t).bind f).run P w with|.ok _ w'=>aW w'|.halt h w'=>Plain h/\aW w');rw[run_bind,d];cases c:P.info? t with|none=>exact⟨trivial,g⟩|some i=>exact(h i c).2 w g
theorem GM(d:DR P.globals.size r a a')(c:DR P.globals.size r b b'):SR P K be r (Op.twoPlaces a b) (Op.twoPlaces a' b'):=by unfold Op.twoPlaces;refine ae gr ?_;rintro r1 p q e⟨g,i⟩;rw[g,i];by_cases hc:(a.block !=b.block||decide (a.block>=P.globals.size))=true;(·rw[if_pos hc];exact dm (eZ _) _);·have j:=d;have f:=c;obtain⟨x,h1,l,rfl⟩:=j;obtain⟨y,u,k,rfl⟩:=f;simp only[Bool.or_eq_true,bne_iff_ne,ne_eq,decide_eq_true_eq,not_or,Decidable.not_not]at hc;have o:x=a.block:=l.elim (λh=>absurd h hc.2) id;have t:y=b.block:=k.elim (λh=>absurd (by rw[hc.1];exact h) hc.2) id;subst o t;refine(?_:SR P K be r1 (if(a.block !=b.block||decide (a.block>=P.globals.size))=true then _ else _) (if(a.block !=b.block||decide (a.block>=P.globals.size))=true then _ else _));rw[if_neg (by simp;exact⟨hc.1,by omega⟩)];refine ae (rJ (d.mono e)) ?_;rintro r2 m _ s rfl;refine ae (rJ ((c.mono e).mono s)) ?_;rintro r3 n _ v rfl;exact ag rfl
theorem Si(k:IntKind)(d:DR P.globals.size r a a')(c:DR P.globals.size r b b'):SR P K (VR P.globals.size) r (Op.addrSub k a b) (Op.addrSub k a' b'):=by unfold Op.addrSub;refine ae (GM d c) ?_;rintro r1⟨x,y⟩_ e rfl;exact ag (.int _ _)
theorem tV(o:BinOp)(d:DR P.globals.size r a a')(c:DR P.globals.size r b b'):SR P K (VR P.globals.size) r (Op.addrCmp o a b) (Op.addrCmp o a' b'):=by unfold Op.addrCmp;refine ae (GM d c) ?_;rintro r1⟨x,y⟩_ e rfl;cases o<;>first|exact ag (.bool _)|exact bX _ _
theorem wK(c:K.x=true)(h:DR P.globals.size r a a'):SR P K be r (frozen a) (frozen a'):=by obtain⟨b,h1,_,rfl⟩:=h;exact .frozen c a b h1 λ_=>.pure rfl
theorem DR.at{G:Nat}(h:DR G r a a')(n:Nat):DR G r ⟨a.block,n,none⟩ ⟨a'.block,n,none⟩:=by obtain⟨b,h1,c,rfl⟩:=h;exact⟨b,h1,c,rfl⟩
theorem IC(d:K.x=true)(h:DR P.globals.size r a a'):SR P K be r (stringish a) (stringish a'):=by unfold stringish;refine ae (wK d h) ?_;rintro r1 f _ c rfl;cases f with|true=>exact ag rfl|false=>have g:=h.mono c;obtain⟨b,h1,_,rfl⟩:=h;simp only[Bool.false_eq_true,if_false];refine ae (iy (c _ _ h1)) ?_;rintro r2 s _ e rfl;cases s with|none=>exact ag rfl|some x=>exact wK d ((g.mono e).at x.2)
theorem Qd(l:K.x=true)(m:DR P.globals.size r a a')(k:DR P.globals.size r b b'):SR P K be r (mayBeOne a b) (mayBeOne a' b'):=by unfold mayBeOne;refine ae (IC l m) ?_;rintro r1 f _ i rfl;refine ae (IC l (k.mono i)) ?_;rintro r2 g _ j rfl;(have n:∀{r3:Rn}{c e:Addr},DR P.globals.size r3 c e->SR P K be r3 (do pure ((<-shape c.block)matches some (_,0)):Sem Bool) (do pure ((<-shape e.block)matches some (_,0)):Sem Bool):=by intro r3 c e h;obtain⟨d,h1,_,rfl⟩:=h;refine ae (iy h1) ?_;rintro o s _ _ rfl;exact ag rfl);refine ae (n ((m.mono i).mono j)) ?_;rintro r3 x _ p rfl;refine ae (n (((k.mono i).mono j).mono p)) ?_;rintro o y _ q rfl;exact ag rfl
theorem ahb (e : K.x = true) (c : DR P.globals.size r a a') (d : DR P.globals.size r b b') : SR P K be r (sameAddr a b) (sameAddr a' b') := by
  have v := c
  have u := d
  obtain ⟨x, h1, _, e1⟩ := v
  obtain ⟨y, s, _, e2⟩ := u
  unfold sameAddr
  refine SR.qa (a := a.block) (b := b.block) (a' := a'.block) (b' := b'.block) (by rw [e1]; exact h1) (by rw [e2]; exact s)
    (k := fun t => if t = true then pure (a == b) else do
      if (← frozen a) && (← frozen b) then unsupported .addressObserved
      noView a
      noView b
      if ← mayBeOne a b then return (← choose (.extern "sameAddr.stringBytes" 2)) == 1
      pure false)
    (k' := fun t => if t = true then pure (a' == b') else do
      if (← frozen a') && (← frozen b') then unsupported .addressObserved
      noView a'
      noView b'
      if ← mayBeOne a' b' then return (← choose (.extern "sameAddr.stringBytes" 2)) == 1
      pure false) ?_
  intro t
  cases t with
  | true => exact SR.test c d (k := fun z => pure z) (k' := fun z => pure z) fun z => ag rfl
  | false =>
    simp only [Bool.false_eq_true, if_false]
    refine ae (wK e c) ?_
    rintro r1 f _ i rfl
    refine ae (wK e (d.mono i)) ?_
    rintro r2 g _ o rfl
    have rest : ∀ {r3 : Rn}, r2.le r3 → SR P K be r3 (do
        noView a
        noView b
        if ← mayBeOne a b then return (← choose (.extern "sameAddr.stringBytes" 2)) == 1
        pure false) (do
        noView a'
        noView b'
        if ← mayBeOne a' b' then return (← choose (.extern "sameAddr.stringBytes" 2)) == 1
        pure false) := by
      intro r3 p
      have j := ((c.mono i).mono o).mono p
      have l := ((d.mono i).mono o).mono p
      refine ae (xz j) ?_
      rintro w _ _ h _
      refine ae (xz (l.mono h)) ?_
      rintro A _ _ q _
      refine ae (Qd e ((j.mono h).mono q) ((l.mono h).mono q)) ?_
      rintro C m _ D rfl
      cases m with
      | true =>
        refine ae (pV _) ?_
        rintro E n _ _ rfl
        exact ag rfl
      | false => exact ag rfl
    cases B : (f && g) with
    | true => exact dm (eZ _) _
    | false => exact rest (Rn.le_refl _)
theorem JI{d a:Type}{f e:d->a->Sem (ForInStep a)}:∀(l:List d)(r:Rn)(s:a),(∀r1 x s,r.le r1->SR P K be r1 (f x s) (e x s))->SR P K be r (forIn l s f) (forIn l s e)|[],r,s,_=>by rw[List.forIn_nil];exact ag rfl|x::l,r,s,c=>by rw[List.forIn_cons,List.forIn_cons];refine ae (c r x s (Rn.le_refl _)) ?_;rintro r1 y _ g rfl;cases y with|done b=>exact ag rfl|yield b=>exact JI l r1 b λr2 x s h=>c r2 x s (Rn.le_trans g h)
theorem EW{d a:Type}{f e:d->a->Sem (ForInStep a)}:∀(l:List d)(r:Rn)(s:a),(∀r1 x s,x∈l->r.le r1->SR P K be r1 (f x s) (e x s))->SR P K be r (forIn l s f) (forIn l s e)|[],r,s,_=>by rw[List.forIn_nil];exact ag rfl|x::l,r,s,c=>by rw[List.forIn_cons,List.forIn_cons];refine ae (c r x s (by simp) (Rn.le_refl _)) ?_;rintro r1 y _ g rfl;cases y with|done b=>exact ag rfl|yield b=>exact EW l r1 b λr2 x s i h=>c r2 x s (by simp[i]) (Rn.le_trans g h)
theorem R' : ∀ (d : Nat) {n : Nat} {t : TypeId} {r : Rn} {x x' y y' : Fi}, ow P K.x n t = true → VR P.globals.size r x x' → VR P.globals.size r y y' → SR P K be r (Op.equalIn d t x y) (Op.equalIn d t x' y') := by
  intro d
  induction d with
  | zero => intro n t r x x' y y' _ _ _; exact bX _ _
  | succ d ih =>
  intro n t r x x' y y' j o g
  cases n with
  | zero => cases j
  | succ n =>
  unfold Op.equalIn
  refine ae (cg t) ?_
  rintro r1 dd _ A ⟨rfl, hd⟩
  unfold ow at j
  rw [hd] at j
  cases dd with
  | bool | string | slice e | func a b c => cases o <;> cases g <;> first | exact ag rfl | exact ax _ _
  | pointer e =>
    cases o with
    | ptr a b h J =>
      cases g with
      | ptr a2 I W V =>
        have a3 : DR P.globals.size r a { a with block := b } := ⟨b, h, J, rfl⟩
        have fu : DR P.globals.size r a2 { a2 with block := I } := ⟨I, W, V, rfl⟩
        refine ae (eP e) ?_
        rintro r2 m _ v rfl
        by_cases hm : m ≠ 0
        · rw [if_pos hm, if_pos hm]
          exact ahb j ((a3.mono A).mono v) ((fu.mono A).mono v)
        · rw [if_neg hm, if_neg hm]
          refine SR.test ((a3.mono A).mono v) ((fu.mono A).mono v) (k := fun t => if t = true then pure true else do pure ((← choose .zeroSizeEq) = 1)) (k' := fun t => if t = true then pure true else do pure ((← choose .zeroSizeEq) = 1)) ?_
          intro t
          cases t with
          | true => exact ag rfl
          | false =>
            refine ae (pV _) ?_
            rintro r3 z _ _ rfl
            exact ag rfl
      | cQ => exact ag rfl
      | _ => exact ax _ _
    | cQ => cases g <;> first | exact ag rfl | exact ax _ _
    | _ => cases g <;> exact ax _ _
  | struct Z =>
    cases o with
    | @agg H M X Y =>
      cases g with
      | @agg ys L O Q =>
        have R : AR P.globals.size r H M := ⟨X, Y⟩
        have S : AR P.globals.size r ys L := ⟨O, Q⟩
        dsimp only
        refine ae gr ?_
        rintro r2 p q v ⟨T, U⟩
        rw [T, U, wL P K.F t]
        have a4 : ∀ {r3 : Rn}, r2.le r3 → SR P K be r3 (do
            for f in Z do
              if f.name ≠ "_" then
                if !(← Op.equalIn d f.type (← part f.type H f.offset) (← part f.type ys f.offset)) then return false
            pure true) (do
            for f in Z do
              if f.name ≠ "_" then
                if !(← Op.equalIn d f.type (← part f.type M f.offset) (← part f.type L f.offset)) then return false
            pure true) := by
          intro r3 E
          rw [← Array.forIn_toList, ← Array.forIn_toList]
          refine ae (EW Z.toList r3 _ ?_) ?_
          · intro C f s hf D
            by_cases B : f.name ≠ "_"
            · rw [if_pos B, if_pos B]
              have G : r.le C := Rn.le_trans A (Rn.le_trans v (Rn.le_trans E D))
              refine ae (qf f.type (R.mono G) f.offset) ?_
              intro r5 u u' F hu
              refine ae (qf f.type ((S.mono G).mono F) f.offset) ?_
              intro r6 w w' N hw
              refine ae (ih (Array.all_eq_true_iff_forall_mem.1 j f (by simpa using hf)) (hu.mono N) hw) ?_
              rintro r7 z _ _ rfl
              cases z <;> exact ag rfl
            · rw [if_neg B, if_neg B]
              exact ag rfl
          · rintro C ⟨s, _⟩ _ _ rfl
            cases s <;> exact ag rfl
        cases P.stoodInHeld t with
        | true => exact dm (eZ _) _
        | false => exact a4 (Rn.le_refl _)
      | _ => exact ax _ _
    | _ => cases g <;> exact ax _ _
  | array len e =>
    cases o with
    | @agg H M X Y =>
      cases g with
      | @agg ys L O Q =>
        have R : AR P.globals.size r H M := ⟨X, Y⟩
        have S : AR P.globals.size r ys L := ⟨O, Q⟩
        refine ae (eP e) ?_
        rintro r3 m _ E rfl
        rw [Std.Legacy.Range.forIn_eq_forIn_range', Std.Legacy.Range.forIn_eq_forIn_range']
        refine ae (JI _ r3 _ ?_) ?_
        · intro C i s D
          have G : r.le C := Rn.le_trans A (Rn.le_trans E D)
          refine ae (qf e (R.mono G) _) ?_
          intro r5 u u' F hu
          refine ae (qf e ((S.mono G).mono F) _) ?_
          intro r6 w w' N hw
          refine ae (ih j (hu.mono N) hw) ?_
          rintro r7 z _ _ rfl
          cases z <;> exact ag rfl
        · rintro C ⟨s, _⟩ _ _ rfl
          cases s <;> exact ag rfl
      | _ => exact ax _ _
    | _ => cases g <;> exact ax _ _
  | int k =>
    dsimp only at j
    cases o with
    | int k1 n =>
      cases g with
      | int k2 m =>
        dsimp only
        split
        · exact ag rfl
        · exact ax _ _
      | ptr a b h J =>
        rcases n with (_ | n) | n
        · exact ag rfl
        · exact bX _ _
        · exact bX _ _
      | cQ => exact bX _ _
      | _ => exact ax _ _
    | ptr a b h J =>
      cases g with
      | ptr a2 I W V =>
        refine ae (mP ⟨b, A _ _ h, J, rfl⟩) ?_
        rintro r2 ⟨p, l⟩ ⟨q, m⟩ v ⟨a0, _⟩
        refine ae (mP ⟨I, v _ _ (A _ _ W), V, rfl⟩) ?_
        rintro r3 ⟨p2, l2⟩ ⟨q2, m2⟩ E ⟨a1, _⟩
        refine ae gr ?_
        rintro C pp qq D ⟨T, U⟩
        rw [T, U]
        dsimp only at a0 a1 ⊢
        by_cases hc : (p.block == p2.block && decide (p.block < P.globals.size)) = true
        · have hs : (q.block == q2.block && decide (q.block < P.globals.size)) = true := by
            simp only [Bool.and_eq_true, beq_iff_eq, decide_eq_true_eq] at hc ⊢
            obtain ⟨x, _, x2, rfl⟩ := a0
            obtain ⟨y, _, y2, rfl⟩ := a1
            have o : x = p.block := x2.elim (fun h => by omega) id
            have g : y = p2.block := y2.elim (fun h => by omega) id
            subst o g
            exact hc
          rw [if_pos hc, if_pos hs]
          refine ae (rJ ((a0.mono E).mono D)) ?_
          rintro r5 u _ F rfl
          refine ae (rJ ((a1.mono D).mono F)) ?_
          rintro r6 w _ N rfl
          exact ag rfl
        · refine .dead ?_ _
          rw [if_neg hc]
          refine aek fun i hi => ?_
          rw [hi] at j
          dsimp only at j
          split
          · rename_i B
            rw [B] at j
            simp at j
          · exact eZ _
      | int k2 m =>
        rcases m with (_ | m) | m
        · exact ag rfl
        · exact bX _ _
        · exact bX _ _
      | _ => exact bX _ _
    | cQ => cases g <;> exact bX _ _
    | _ => cases g <;> first | exact bX _ _ | exact ax _ _
  | _ => cases j
theorem NQ(b:ph P K t=true)(c:VR P.globals.size r x x')(a:VR P.globals.size r y y'):SR P K be r (Op.equal t x y) (Op.equal t x' y'):=R' _ b c a
theorem ae3{op:BinOp}(H:op=.eql\/op=.neq->ph P K t=true)(C:VR P.globals.size r x x')(s:VR P.globals.size r y y'):SR P K (VR P.globals.size) r (binOp op t x y) (binOp op t x' y'):=by
 have g:(op=.eql\/op=.neq)->SR P K be r (Op.equal t x y) (Op.equal t x' y'):=λh=>NQ (H h) C s;have i:SR P K be r (Op.equal t x y) (Op.equal t x' y')->SR P K (VR P.globals.size) r (do pure (.bool (<-Op.equal t x y))) (do pure (.bool (<-Op.equal t x' y'))):=λh=>ae h λr1 a b _ e=>by cases e;exact ag (.bool _)
 have j:SR P K be r (Op.equal t x y) (Op.equal t x' y')->SR P K (VR P.globals.size) r (do pure (.bool (!(<-Op.equal t x y)))) (do pure (.bool (!(<-Op.equal t x' y')))):=λh=>ae h λr1 a b _ e=>by cases e;exact ag (.bool _)
 have o:=C;have u:=s;cases C with|int k n=>(cases s with|int O m=>(unfold binOp;cases op;(all_goals dsimp only);all_goals first|exact Ta _ _ _ _ _|(split<;>first|exact ax _ _|exact BV _ _ _ _|exact MK _ _ _ _|exact H8 _ _ _ _|exact PU _ _ _))|ptr a b h z=>(have v:DR P.globals.size r a {a with block:=b}:=⟨b,h,z,rfl⟩;cases op with|eql=>exact i (g (.inl rfl))|neq=>exact j (g (.inr rfl))|add=>exact pB t u o|and=>exact ae (mP v) λr1 p q _ h=>AZ _ h.1 _|_=>exact bX _ _)|cQ=>(cases op with|eql=>exact i (g (.inl rfl))|neq=>exact j (g (.inr rfl))|add=>exact pB t u o|_=>exact bX _ _)|_=>cases op with|eql=>exact i (g (.inl rfl))|neq=>exact j (g (.inr rfl))|_=>exact ax _ _)|string a=>(cases s with|string b=>unfold binOp;cases op;all_goals exact Nw _ a b|ptr c d h z|cQ=>(cases op with|eql=>exact i (g (.inl rfl))|neq=>exact j (g (.inr rfl))|_=>exact bX _ _)|_=>cases op with|eql=>exact i (g (.inl rfl))|neq=>exact j (g (.inr rfl))|_=>exact ax _ _)|ptr a b h z=>(have v:DR P.globals.size r a {a with block:=b}:=⟨b,h,z,rfl⟩;cases s with|int k n=>(cases op with|eql=>exact i (g (.inl rfl))|neq=>exact j (g (.inr rfl))|add=>(refine ae (cg t) ?_;rintro r1 d _ l⟨rfl,_⟩;cases d with|unsafePointer=>exact Fs t (o.mono l) (u.mono l)|_=>exact pB t (o.mono l) (u.mono l))|sub=>exact pB t o (.int k (-n))|rem|and=>exact ae (mP v) λr1 p q _ h=>AZ _ h.1 _|_=>exact bX _ _)|ptr a2 A I J=>(have fu:DR P.globals.size r a2 {a2 with block:=A}:=⟨A,I,J,rfl⟩;(have w:∀(f B:Addr->Addr->Sem Fi),(∀{r2:Rn}{p E D F:Addr},DR P.globals.size r2 p E->DR P.globals.size r2 D F->SR P K (VR P.globals.size) r2 (f p D) (B E F))->SR P K (VR P.globals.size) r (do f (<-behindNumber a).1 (<-behindNumber a2).1) (do B (<-behindNumber {a with block:=b}).1 (<-behindNumber {a2 with block:=A}).1):=by intro f B N;refine ae (mP v) ?_;rintro r1 p q l⟨L,_⟩;refine ae (mP (fu.mono l)) ?_;rintro r2 D Q M⟨G,_⟩;exact N (L.mono M) G);cases op with|eql=>exact i (g (.inl rfl))|neq=>exact j (g (.inr rfl))|sub=>exact w _ _ λh k=>Si .u64 h k|lss=>exact w _ _ λh k=>tV .lss h k|leq=>exact w _ _ λh k=>tV .leq h k|gtr=>exact w _ _ λh k=>tV .gtr h k|geq=>exact w _ _ λh k=>tV .geq h k|_=>exact bX _ _)|_=>cases op with|eql=>exact i (g (.inl rfl))|neq=>exact j (g (.inr rfl))|_=>exact bX _ _)|cQ=>(cases s with|int k n=>(cases op with|eql=>exact i (g (.inl rfl))|neq=>exact j (g (.inr rfl))|add=>(refine ae (cg t) ?_;rintro r1 d _ l⟨rfl,_⟩;cases d with|unsafePointer=>exact Fs t (o.mono l) (u.mono l)|_=>exact pB t (o.mono l) (u.mono l))|sub=>exact pB t o (.int k (-n))|_=>exact bX _ _)|_=>cases op with|eql=>exact i (g (.inl rfl))|neq=>exact j (g (.inr rfl))|_=>exact bX _ _)|_=>cases s<;>cases op with|eql=>exact i (g (.inl rfl))|neq=>exact j (g (.inr rfl))|_=>first|exact ax _ _|exact bX _ _
theorem ae5{op:BinOp}(h:op=.eql\/op=.neq->P.eqGuardType P.depth t=false/\ph P K t=true)(x y:Operand){a a' b b':Fi}(m:VR P.globals.size r a a')(k:VR P.globals.size r b b'):SR P K be r (eqGuard op t x y a b) (eqGuard op t x y a' b'):=by
 have nil:(op=.eql\/op=.neq)->SR P K (λ_ x y=>x=false/\y=false) r (Op.eqGuardIn Op.maxDepth t .nilIface .nilIface) (Op.eqGuardIn Op.maxDepth t .nilIface .nilIface):=by intro c;unfold Op.maxDepth Op.eqGuardIn;refine ae (cg t) ?_;rintro r1 d _ j⟨rfl,l⟩;have e:=(h c).2;unfold ph ow at e;rw[l]at e;cases d with|interface ms=>cases e|_=>exact ag ⟨rfl,rfl⟩
 have i:(op=.eql\/op=.neq)->SR P K be r (eqGuard .eql t x y a b) (eqGuard .eql t x y a' b'):=by intro c;unfold eqGuard;cases m with|nilIface=>(cases k with|nilIface=>(dsimp only;(repeat' split);all_goals first|exact ag rfl|(refine ae (nil c) ?_;rintro r1 _ _ j⟨rfl,rfl⟩;exact ag rfl))|_=>exact ag rfl)|agg h1 e=>(cases k with|agg n s=>dsimp only;refine ae gr ?_;rintro r1 p q j⟨f,g⟩;rw[f,g];refine ae gr ?_;rintro r2 p q o⟨f,g⟩;rw[f,g,afV P K.F,oD P K.F,(h c).1];exact ag rfl|_=>exact ag rfl)|_=>exact ag rfl
 cases op with|eql=>exact i (.inl rfl)|neq=>exact i (.inr rfl)|_=>exact ag rfl
end
def cL(c:B6):Prop:=∀(i:Nat)(h:i<c.size),cV c[i]
theorem cL.ar(h:cL c)(G:Nat)(r:Rn):AR G r c c:=⟨rfl,λi h1 _=>(h i h1).vr G r⟩
theorem cV.cells(h:cV v):cL v.cells:=by(have one:∀{v:Fi},cV v->cL #[v]:=λh i a=>by(have:i=0:=by simpa using a);subst this;exact h);cases h with|agg h=>exact h|bool b=>exact one (.bool b)|int k n=>exact one (.int k n)|string x=>exact one (.string x)|cQ=>exact one .cQ|cW l c=>exact one (.cW l c)|fn f=>exact one (.fn f)|nilFunc=>exact one .nilFunc|nilIface=>exact one .nilIface|iface t h=>exact one (.iface t h)|tuple h=>exact one (.tuple h)
theorem Ye:cV (default:Fi):=.bool _
theorem cL.vX(h:cL c)(n:Nat):cL ((Array.range n).map (c[·%c.size]!)):=by intro i a;rw[Array.getElem_map,Array.getElem_range];by_cases hc:i%c.size<c.size;(·rw[getElem!_pos c _ hc];exact h _ hc);·rw[getElem!_neg c _ hc];exact Ye
section
variable{P:Program}{K:Cm}{r:Rn}
theorem ZM{s:TypeId}{f:Nat}(u:∀e c i,P.underlying s=some (.struct e)->e[f]?=some c->P.info? c.type=some i->i.size≠0)(h:VR P.globals.size r v v'):SR P K (VR P.globals.size) r (Instr.fieldAt s v f) (Instr.fieldAt s v' f):=by unfold Instr.fieldAt;refine ae (cg s) ?_;rintro r1 d _ k⟨rfl,l⟩;cases d with|struct e=>(dsimp only;cases m:e[f]? with|none=>exact ax _ _|some c=>refine ae (sU (h.mono k)) ?_;intro r2 a a' w p;(have q:SR P K (DR P.globals.size) r2 (fieldPlace a c) (fieldPlace a' c):=by unfold fieldPlace sizeOf;refine ae (ae (B:=λ_ x y=>x=y/\x≠0) (ly c.type) ?_) ?_;(·rintro r3 i _ _⟨rfl,o⟩;exact ag ⟨rfl,u e c i l m o⟩);·rintro r3 n _ t⟨rfl,g⟩;rw[if_neg g,if_neg g];exact ag ((p.mono t).add _));exact ae q λr3 b b' _ j=>ag j.ptr)|_=>exact ax _ _
theorem adI(p:∀e,P.underlying t=some (.slice e)->ZB P e){l l' c o:Fi}(q:VR P.globals.size r l l')(u:VR P.globals.size r c o):SR P K (VR P.globals.size) r (Instr.makeSlice t l c) (Instr.makeSlice t l' o):=by unfold Instr.makeSlice;refine ae (cg t) ?_;rintro r1 d _ j⟨rfl,v⟩;cases d with|slice e=>dsimp only;refine ae (oK (q.mono j)) ?_;rintro r2 n _ s rfl;refine ae (oK ((u.mono j).mono s)) ?_;rintro r3 m _ B rfl;refine ae (ly e) ?_;rintro E i _ F⟨rfl,_⟩;split;(·split;(·exact dm (iD _) _);·split;(·exact dm (iD _) _);·exact .dead (iX (Ev _) λ_=>wj (iD _)) _);·refine ae (Au _) ?_;rintro G _ _ H _;refine ae (eP e) ?_;rintro C sz _ D rfl;split;(·refine ae (ag (A:=λ_ x y=>x=y/\cL x) ⟨rfl,λi h=>absurd h (by simp)⟩) ?_;rintro f z _ k⟨rfl,b⟩;exact ae (og e ((b.vX _).ar _ f)) λw a a' _ g=>ag (g.sl _ _));·refine ae (qM (p e v)) ?_;rintro f z _ k⟨rfl,b⟩;refine ae (ag (A:=λ_ x y=>x=y/\cL x) ⟨rfl,b.cells⟩) ?_;·rintro f z _ k⟨rfl,b⟩;exact ae (og e ((b.vX _).ar _ f)) λw a a' _ g=>ag (g.sl _ _)|_=>exact ax _ _
inductive jG(G:Nat)(r:Rn):List (Nat×Fi)->List (Nat×Fi)->Prop|nil:jG G r [] []|cons(i:Nat){v v':Fi}{l l':List (Nat×Fi)}(h:VR G r v v')(k:jG G r l l'):jG G r ((i,v)::l) ((i,v')::l')
theorem jG.mono{G:Nat}{r s:Rn}(h:r.le s){l l':List (Nat×Fi)}(k:jG G r l l'):jG G s l l':=by induction k with|nil=>exact .nil|cons i h' _ a=>exact .cons i (h'.mono h) a
theorem FI{G:Nat}{r:Rn}(off:Nat):∀(l l':CL)(k:Nat)(cs cs':B6),LR G r l l'->AR G r cs cs'->AR G r ((l.zipIdx k).foldl (λcs(x:Fi×Nat)=>cs.setIfInBounds (off+x.2) x.1) cs) ((l'.zipIdx k).foldl (λcs(x:Fi×Nat)=>cs.setIfInBounds (off+x.2) x.1) cs')|_,_,_,_,_,.nil,h=>h|_,_,k,_,_,.cons b a,h=>FI off _ _ (k+1) _ _ a (h.set b _)
theorem vI {G : Nat} {r : Rn} (b : Nat → Option (Nat × Nat)) : ∀ (l l' : List (Nat × Fi)) (cs cs' : B6), jG G r l l' → AR G r cs cs' →
    match Instr.fill b cs l with | none => True | some d => ∃ f, Instr.fill b cs' l' = some f ∧ AR G r d f
  | _, _, cs, cs', .nil, h => by
    simp only [Instr.fill]
    exact ⟨cs', rfl, h⟩
  | _, _, cs, cs', .cons i (v := v) (v' := v') (l := l) (l' := l') k g, h => by
    simp only [Instr.fill]
    cases b i with
    | none => trivial
    | some x =>
      obtain ⟨off, size⟩ := x
      have e := k.cells
      have e1 : v'.cells.size = v.cells.size := e.1.symm
      have e2 : cs'.size = cs.size := h.1.symm
      dsimp only
      rw [e1, e2]
      by_cases hb : (decide (v.cells.size ≠ size) || decide (off + v.cells.size > cs.size)) = true
      · rw [if_pos hb]
        trivial
      · rw [if_neg hb, if_neg hb]
        have j := FI off v.cells.toList v'.cells.toList 0 cs cs' e.toList h
        have cv : ∀ (a : B6) (c : B6), a.zipIdx.foldl (fun cs (x : Fi × Nat) => cs.setIfInBounds (off + x.2) x.1) c = (a.toList.zipIdx 0).foldl (fun cs (x : Fi × Nat) => cs.setIfInBounds (off + x.2) x.1) c := by
          intro a c
          rw [← Array.foldl_toList, Array.toList_zipIdx]
        rw [cv, cv]
        exact vI b l l' _ _ g j
end
end Co
end
end Go.Proofs.YtjebhbopmfcopaaGreatDoor
