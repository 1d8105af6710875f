/- Agree, a part. -/
import Derived.Test.YtjebhbopmfcopaaGreatDoorZC
namespace Go.Proofs.YtjebhbopmfcopaaGreatDoor
open Go.Proofs
noncomputable section
variable{a a':Addr}{cs cs':DS}{S:FuncId->Bool}{b:Nat}{h h' l l' m m':Option HH}{α:Type}{v v' x x' y y':HH}
namespace Co
section
variable(P:Program)(F:Array Func)
theorem pg:(aF P F).depth=P.depth:=rfl
theorem ae6(t:TypeId):(aF P F).cellsOf t=P.cellsOf t:=rfl
theorem ak7(t:TypeId):(aF P F).bytesOf t=P.bytesOf t:=rfl
theorem JO:cellAtBytes (aF P F)=cellAtBytes P:=HW
theorem X':(aF P F).alikeButTags=P.alikeButTags:=HW
theorem afr:(aF P F).eqGuardType=P.eqGuardType:=HW
theorem acE(t:TypeId):(aF P F).stoodInAs t=P.stoodInAs t:=by unfold Program.stoodInAs;rw[X'];rfl
theorem vD(t:TypeId):(aF P F).stoodInHeld t=P.stoodInHeld t:=by unfold Program.stoodInHeld;rw[acE]
theorem IX:∀(d:Nat)(t u:TypeId),sameLayout (aF P F) d t u=sameLayout P d t u|0,_,_=>rfl|d+1,t,u=>by have a:=IX d;simp only[sameLayout,vD,a];rfl
theorem Hm(fits:TypeId->Bool):∀(d:Nat)(e:TypeId)(a off n:Nat),rowAt (aF P F) fits d e a off n=rowAt P fits d e a off n|0,_,_,_,_=>rfl|d+1,e,a,off,n=>by have b:=Hm fits d;simp only[rowAt,vD,b];rfl
theorem Ft:∀(d:Nat)(t:TypeId),(aF P F).holdsStoodIn d t=P.holdsStoodIn d t|0,_=>rfl|d+1,t=>by have a:=Ft d;simp only[Program.holdsStoodIn,vD,a];rfl
theorem Ei:∀(d:Nat)(e:TypeId)(a off:Nat)(u:TypeId)(n:Nat),liesAt (aF P F) d e a off u n=liesAt P d e a off u n|0,_,_,_,_,_=>rfl|d+1,e,a,off,u,n=>by have b:=Ei d;simp only[liesAt,Hm,IX,b];rfl
end
def aO:Rn->α->α->Prop:=λ_ a b=>a=b
theorem zy(a:Addr)(b n:Nat):({a with block:=b}:Addr).add n={a.add n with block:=b}:=by unfold Addr.add;split<;>rfl
theorem FO(a:Addr)(n:Nat):(a.add n).block=a.block:=by unfold Addr.add;split<;>rfl
theorem DR.add{G:Nat}{r:Rn}(k:DR G r a a')(n:Nat):DR G r (a.add n) (a'.add n):=by obtain⟨b,h1,c,rfl⟩:=k;exact⟨b,by rw[FO];exact h1,by rw[FO];exact c,zy a b n⟩
theorem DR.ptr{G:Nat}{r:Rn}(k:DR G r a a'):VR G r (.pointer (some a)) (.pointer (some a')):=by obtain⟨b,h1,c,rfl⟩:=k;exact .ptr a b h1 c
theorem DR.sl{G:Nat}{r:Rn}(k:DR G r a a')(l c:Nat):VR G r (.slice (some a) l c) (.slice (some a') l c):=by obtain⟨b,h1,d,rfl⟩:=k;exact .sl a b l c h1 d
section
variable{P:Program}{K:Cm}{r:Rn}{α β γ δ:Type}{A:Rn->α->β->Prop}{B:Rn->γ->δ->Prop}
theorem ae{f:α->Sem γ}{c:β->Sem δ}{s:Sem α}{s':Sem β}(h:SR P K A r s s')(d:∀r1 a b,r.le r1->A r1 a b->SR P K B r1 (f a) (c b)):SR P K B r (s>>=f) (s'>>=c):=SR.bind h d
theorem fQ{h:Halt}(c:Plain h):dY P (Sem.halt (α:=α) h):=⟨λw a w' e=>(by cases e),λw b=>⟨c,b⟩⟩
theorem BJ{h:Halt}(a:Plain h)(s:Sem β):SR P K A r (.halt h) s:=.dead (fQ a) s
theorem ak(w:String)(s:Sem β):SR P K A r (stuck w) s:=BJ (h:=.stuck w) trivial s
theorem eJ(u:Unsupported)(a:Plain (.unsupported u):=by trivial):dY P (unsupported (α:=α) u):=fQ a
theorem bw(u:Unsupported)(s:Sem β)(a:Plain (.unsupported u):=by trivial):SR P K A r (unsupported u) s:=BJ a s
theorem af{a:α}{b:β}(h:A r a b):SR P K A r (pure a) (pure b):=.pure h
theorem gO{f:α->Sem γ}{s:Sem α}(b:dm P s)(h:∀a,dY P (f a)):dY P (s>>=f):=dY.bind b h
theorem rj{f:α->Sem γ}{s:Sem α}(h:dY P s):dY P (s>>=f):=dY.left f h
theorem kG(v:HH):dY P (goPanic (α:=α) v):=fQ (h:=.panic v) trivial
theorem gi(a:α):dm P (pure a:Sem α):=λ_ b=>b
theorem gH{f:α->Sem γ}{s:Sem α}(b:dm P s)(h:∀a,dm P (f a)):dm P (s>>=f):=dm.bind b h
theorem ph:dm P program:=λ_ a=>a
theorem GU(q:Question):dm P (choose q):=λw a=>by simp only[choose,Sem.run];by_cases hq:q.forced=true;(·rw[if_pos hq];exact a);·rw[if_neg hq];exact a
theorem P2(a:Nat):dm P (shape a):=λ_ b=>b
theorem afO(a:Addr):dm P (frozen a):=λ_ b=>b
theorem M9(m:Mark):dm P (mark m):=λ_ a=>a
theorem BH(e:TypeId)(c:DS):dm P (newRow e c):=by refine gH (s:=newObj (.cells c e)) ?_ λ_=>gi _;intro w f;refine⟨λk b a h=>?_,?_⟩;(·rw[Array.getElem?_push]at h;split at h;(·cases h);·exact f.1 k b a h);·obtain⟨b,a,fz,h⟩:=f.2;have d:=(J2.1 h).1;exact⟨b,a,fz,by show(w.heap.push _)[0]?=_;rw[Array.getElem?_push_lt d,<-h,Array.getElem?_eq_getElem d]⟩
theorem MX(t:TypeId):dm P (typeInfo t):=by refine gH ph λp=>?_;cases p.info? t with|none=>exact(fQ (h:=.stuck _) trivial).2|some i=>exact gi _
theorem RD(t:TypeId):dm P (underlying t):=by refine gH ph λp=>?_;cases p.underlying t with|none=>exact(fQ (h:=.stuck _) trivial).2|some i=>exact gi _
theorem KZ(t:TypeId):dm P (elemOf t):=by refine gH (RD t) λd=>?_;cases d with|pointer e=>exact gi _|_=>exact(fQ (h:=.stuck _) trivial).2
theorem im(x:RuntimeError):dY P (runtimePanic (α:=α) x):=by unfold runtimePanic;refine gO ph λp=>?_;cases x with|bounds _ _ _ _|error _|plain _|nilDeref|unhashable t=>exact kG _|typeAssertion i c a m|panicNil=>exact gO (KZ _) λ_=>gO (BH _ _) λ_=>kG _
theorem nA(x:RuntimeError)(s:Sem β):SR P K A r (runtimePanic x) s:=.dead (im x) s
theorem PB(k:IntKind)(x y:Int)(c:BoundsCode):dY P (boundsPanic (α:=α) k x y c):=by unfold boundsPanic;dsimp only;split;(·exact gO (gH (GU _) λ_=>gi _) λ_=>im _);·exact gO (gi _) λ_=>im _
theorem rM(k:IntKind)(x y:Int)(c:BoundsCode)(s:Sem β):SR P K A r (boundsPanic k x y c) s:=.dead (PB k x y c) s
end
section
variable{P:Program}{K:Cm}{r:Rn}
theorem gr:SR P K (λ_ a b=>a=P/\b=aF P K.F) r program program:=.program (.pure ⟨rfl,rfl⟩)
theorem pb(q:Question):SR P K aO r (choose q) (choose q):=.choose q λ_=>.pure rfl
theorem rz(h:DR P.globals.size r a a'):SR P K (VR P.globals.size) r (load a) (load a'):=by obtain⟨b,h1,_,rfl⟩:=h;exact .load a b h1 λv v' c=>.pure c
theorem Py(h:DR P.globals.size r a a')(c:VR P.globals.size r v v'):SR P K aO r (store a v) (store a' v'):=by obtain⟨b,h1,_,rfl⟩:=h;exact .store a b h1 c (.pure rfl)
theorem iQ{a:Nat}(h:r a b):SR P K aO r (shape a) (shape b):=.shape a b h λ_=>.pure rfl
theorem G5(h:DR P.globals.size r a a')(n:Nat):SR P K aO r (freeze a n) (freeze a' n):=by obtain⟨b,h1,_,rfl⟩:=h;exact .freeze a b n h1 (.pure rfl)
theorem AH(n:Nat):SR P K aO r (askRoom n) (askRoom n):=by unfold askRoom;split;(·exact .noRoom (.pure rfl));·exact .pure rfl
theorem ky(t:TypeId):SR P K (λ_ a b=>a=b/\P.info? t=some a) r (typeInfo t) (typeInfo t):=by unfold typeInfo;refine ae gr ?_;rintro r1 p q _⟨d,c⟩;rw[d,c,show(aF P K.F).info? t=P.info? t from rfl];cases h:P.info? t with|none=>exact ak _ _|some i=>exact af ⟨rfl,rfl⟩
theorem bW(t:TypeId):SR P K (λ_ a b=>a=b/\P.underlying t=some a) r (underlying t) (underlying t):=by unfold underlying;refine ae gr ?_;rintro r1 p q _⟨d,c⟩;rw[d,c,show(aF P K.F).underlying t=P.underlying t from rfl];cases h:P.underlying t with|none=>exact ak _ _|some i=>exact af ⟨rfl,rfl⟩
theorem eP(t:TypeId):SR P K aO r (sizeOf t) (sizeOf t):=by unfold sizeOf;refine ae (ky t) ?_;rintro r1 i _ _⟨rfl,_⟩;exact af rfl
def ZB(P:Program)(t:TypeId):Prop:=∀i v,P.info? t=some i->i.zero=some v->cW v
theorem sE{t:TypeId}(d:ZB P t):SR P K (λ_ a b=>a=b/\cW a) r (zeroValue t) (zeroValue t):=by unfold zeroValue;refine ae (ky t) ?_;rintro r1 i _ _⟨rfl,c⟩;cases h:i.zero with|none=>exact bw _ _|some v=>exact af ⟨rfl,d i v c h⟩
theorem La(t:TypeId):SR P K aO r (isAgg t) (isAgg t):=by unfold isAgg;refine ae (bW t) ?_;rintro r1 d _ _⟨rfl,_⟩;cases d<;>exact af rfl
theorem ID{a a':Addr}:∀(n i:Nat)(r:Rn)(c b:DS),DR P.globals.size r a a'->AR P.globals.size r c b->SR P K (AR P.globals.size) r (loadCellsFrom a i n c) (loadCellsFrom a' i n b)|0,i,r,c,b,_,d=>af d|n+1,i,r,c,b,h,d=>by unfold loadCellsFrom;refine ae (rz (h.add i)) ?_;intro r1 v v' e f;exact ID n (i+1) r1 _ _ (h.mono e) ((d.mono e).push f)
theorem yB(h:DR P.globals.size r a a')(n:Nat):SR P K (AR P.globals.size) r (loadCells a n) (loadCells a' n):=ID n 0 r #[] #[] h (AR.nil _ r)
inductive LR(G:Nat)(r:Rn):FV->FV->Prop|nil:LR G r [] []|cons{v v':HH}{l l':FV}(h:VR G r v v')(k:LR G r l l'):LR G r (v::l) (v'::l')
theorem LR.mono{G:Nat}{r s:Rn}(h:r.le s){l l':FV}(k:LR G r l l'):LR G s l l':=by induction k with|nil=>exact .nil|cons h' _ a=>exact .cons (h'.mono h) a
theorem H4{G:Nat}{r:Rn}:∀(l l':FV),l.length=l'.length->(∀(i:Nat)(h1:i<l.length)(b:i<l'.length),VR G r l[i] l'[i])->LR G r l l'|[],[],_,_=>.nil|[],_::_,h,_=>by simp at h|_::_,[],h,_=>by simp at h|v::l,v'::l',h,a=>.cons (a 0 HY HY) (H4 l l' (by simpa using h) λi h1 b=>a (i+1) (by simpa using h1) (by simpa using b))
theorem AR.toList{G:Nat}{r:Rn}(h:AR G r cs cs'):LR G r cs.toList cs'.toList:=H4 _ _ (by simpa using h.1) λi h1 a=>by simpa using h.2 i (by simpa using h1) (by simpa using a)
theorem qH{a a':Addr}:∀(l l':FV)(r:Rn),LR P.globals.size r l l'->DR P.globals.size r a a'->∀i,SR P K aO r (storeCells a l i) (storeCells a' l' i)|_,_,r,.nil,_,i=>af rfl|_,_,r,.cons (v:=v) (v':=v') (l:=l) (l':=l') d c,hd,i=>by unfold storeCells;refine ae (Py (hd.add i) d) ?_;intro r1 _ _ b _;exact qH l l' r1 (c.mono b) (hd.mono b) (i+1)
theorem Ci(t:TypeId)(h:DR P.globals.size r a a'):SR P K (VR P.globals.size) r (loadVar t a) (loadVar t a'):=by unfold loadVar;refine ae (La t) ?_;rintro r1 x _ d rfl;cases x with|true=>refine ae (eP t) ?_;rintro r2 n _ e rfl;refine ae (yB ((h.mono d).mono e) n) ?_;intro r3 c f _ b;exact af (.agg b.1 b.2)|false=>exact rz (h.mono d)
theorem ahA(t:TypeId)(h:DR P.globals.size r a a')(e:VR P.globals.size r v v'):SR P K aO r (storeVar t a v) (storeVar t a' v'):=by unfold storeVar;refine ae (eP t) ?_;rintro r1 n _ c rfl;have b:=(e.mono c).cells;by_cases hn:v.cells.size≠n;(·rw[if_pos hn,if_pos (by rw[<-b.1];exact hn)];exact ae (ak (A:=aO) _ _) λr2 _ _ d _=>qH _ _ r2 (b.toList.mono d) ((h.mono c).mono d) 0);·rw[if_neg hn,if_neg (by rw[<-b.1];exact hn)];exact qH _ _ r1 b.toList (h.mono c) 0
theorem oh(e:TypeId)(h:AR P.globals.size r cs cs'):SR P K (DR P.globals.size) r (newRow e cs) (newRow e cs'):=by unfold newRow newObj;exact .new cs cs' e (0,0) h λn b a=>.pure ⟨b,.inr ⟨rfl,rfl⟩,.inl a,rfl⟩
theorem Kr(t:TypeId)(h:VR P.globals.size r v v'):SR P K (DR P.globals.size) r (newVar t v) (newVar t v'):=oh t h.cells
theorem pL(t:TypeId)(h:AR P.globals.size r cs cs')(off:Nat):SR P K (VR P.globals.size) r (part t cs off) (part t cs' off):=by unfold part;refine ae (La t) ?_;rintro r1 x _ b rfl;cases x with|true=>refine ae (eP t) ?_;rintro r2 n _ c rfl;have a:=((h.mono b).mono c).extract off (off+n);exact af (.agg a.1 a.2)|false=>simp only[Bool.false_eq_true,if_false];cases e:cs[off]? with|none=>exact ak _ _|some v=>obtain⟨v',f,d⟩:=h.get? e;simp only[f];exact af (d.mono b)
theorem uW(h:VR P.globals.size r v v'):SR P K aO r (asIntOf v) (asIntOf v'):=by cases h<;>first|exact af rfl|exact bw _ _|exact ak _ _
theorem nt(h:VR P.globals.size r v v'):SR P K aO r (asInt v) (asInt v'):=by unfold asInt;refine ae (uW h) ?_;rintro r1 x _ _ rfl;exact af rfl
theorem FY(h:VR P.globals.size r v v'):SR P K aO r (asBool v) (asBool v'):=by cases h<;>first|exact af rfl|exact ak _ _
theorem OH(h:VR P.globals.size r v v'):SR P K (AR P.globals.size) r (asAgg v) (asAgg v'):=by cases h with|agg h1 a=>exact af ⟨h1,a⟩|_=>exact ak _ _
theorem SB(h:VR P.globals.size r v v'):SR P K (DR P.globals.size) r (asAddr v) (asAddr v'):=by cases h with|ptr a b h c=>exact af ⟨b,h,c,rfl⟩|cK=>exact nA (A:=DR P.globals.size) .nilDeref _|_=>exact ak _ _
theorem tE(h:VR P.globals.size r v v'):SR P K (DR P.globals.size) r (Instr.sureAddr v) (Instr.sureAddr v'):=by cases h with|ptr a b h c=>exact af ⟨b,h,c,rfl⟩|_=>exact ak _ _
end
inductive NR(K:Cm)(G:Nat)(S:FuncId->Bool)(r:Rn):Next->Next->Prop|value{v v':HH}(h:VR G r v v'):NR K G S r (.value v) (.value v')|skip:NR K G S r .skip .skip|enter(f:FuncId){a a':DS}(h:AR G r a a')(hf:S f=true\/Ar K f a.size):NR K G S r (.enter f a) (.enter f a')
section
variable{P:Program}{K:Cm}{r:Rn}
theorem dF{s s':Sem HH}(h:SR P K (VR P.globals.size) r s s'):SR P K (NR K P.globals.size S) r (do pure (.value (<-s))) (do pure (.value (<-s'))):=ae h λ_ _ _ _ a=>af (.value a)
theorem afX{s s':Sem Unit}(h:SR P K aO r s s'):SR P K (NR K P.globals.size S) r (do s;pure .skip) (do s';pure .skip):=ae h λ_ _ _ _ _=>af .skip
theorem ZT{e:TypeId}(c:ZB P e):SR P K (VR P.globals.size) r (Instr.alloc e true (.tuple #[])) (Instr.alloc e true (.tuple #[])):=by unfold Instr.alloc;refine ae (sE c) ?_;rintro r1 z _ _⟨rfl,b⟩;exact ae (Kr e (b.vr _ r1)) λr2 a a' _ h=>af h.ptr
theorem Vo(e:TypeId)(h:VR P.globals.size r v v'):SR P K (VR P.globals.size) r (Instr.box e v) (Instr.box e v'):=by unfold Instr.box;exact ae (Kr e h) λr2 a a' _ h=>af h.ptr
theorem ZJ(t:TypeId)(h:VR P.globals.size r v v'):SR P K (VR P.globals.size) r (Instr.loadAt t v) (Instr.loadAt t v'):=by unfold Instr.loadAt;exact ae (tE h) λr2 a a' _ h=>Ci t h
theorem agy(t:TypeId)(h:VR P.globals.size r v v')(c:VR P.globals.size r x x'):SR P K aO r (Instr.storeAt t v x) (Instr.storeAt t v' x'):=by unfold Instr.storeAt;exact ae (tE h) λr2 a a' b h=>ahA t h (c.mono b)
theorem aju(h:VR P.globals.size r v v')(i:Nat):SR P K (VR P.globals.size) r (Instr.extract v i) (Instr.extract v' i):=by unfold Instr.extract;cases h with|@tuple cs cs' b c=>(have d:AR P.globals.size r cs cs':=⟨b,c⟩;dsimp only;cases e:cs[i]? with|none=>exact ak _ _|some x=>obtain⟨x',f,a⟩:=d.get? e;simp only[f];exact af a)|_=>exact ak _ _
theorem adt(t:TypeId)(h:VR P.globals.size r v v')(f:Nat):SR P K (VR P.globals.size) r (Instr.field t v f) (Instr.field t v' f):=by unfold Instr.field;refine ae (bW t) ?_;rintro r1 d _ c⟨rfl,_⟩;cases d with|struct e=>(dsimp only;cases e[f]? with|none=>exact ak _ _|some x=>exact ae (OH (h.mono c)) λr2 a a' _ b=>pL x.type b x.offset)|_=>exact ak _ _
theorem OZ(t:TypeId)(h:VR P.globals.size r v v')(b:VR P.globals.size r x x'):SR P K (VR P.globals.size) r (Instr.index t v x) (Instr.index t v' x'):=by unfold Instr.index;refine ae (uW b) ?_;rintro r1⟨k,i⟩_ c rfl;refine ae (bW t) ?_;rintro r2 d _ f⟨rfl,_⟩;cases h with|@agg cs cs' g j=>(have l:AR P.globals.size r2 cs cs':=((show AR P.globals.size r cs cs' from⟨g,j⟩).mono c).mono f;cases d with|array len e=>dsimp only;split;(·refine ae (eP e) ?_;rintro r3 n _ a rfl;exact pL e (l.mono a) _);·exact rM _ _ _ _ _|_=>exact ak _ _)|string s=>(cases d with|string=>dsimp only;split;(·exact af (.int _ _));·exact rM _ _ _ _ _|_=>exact ak _ _)|_=>cases d<;>exact ak _ _
theorem vq(h:VR P.globals.size r v v')(y:Nat)(c:BoundsCode):SR P K aO r (Instr.sliceBound v y c) (Instr.sliceBound v' y c):=by unfold Instr.sliceBound;refine ae (uW h) ?_;rintro r1⟨k,i⟩_ a rfl;dsimp only;split;(·exact af rfl);·exact rM _ _ _ _ _
def OR(G:Nat)(r:Rn):Option HH->Option HH->Prop|none,none=>True|some v,some v'=>VR G r v v'|_,_=>False
theorem OR.mono{G:Nat}{r s:Rn}(h:r.le s):∀{x x':Option HH},OR G r x x'->OR G s x x'|none,none,_=>trivial|some _,some _,k=>VR.mono h k
/-- the end of it -/
def Ce (l : Option HH) (a b : Nat) (c : Bool) : Sem (Nat × Nat × Nat) :=
  match l with
  | some v => do
    let l ← Instr.sliceBound v a (if c then .slice3C else .sliceB)
    pure (l, a, b)
  | none => do
    let l ← pure 0
    pure (l, a, b)
theorem wW(d:OR P.globals.size r l l')(a b:Nat)(c:Bool):SR P K aO r (Ce l a b c) (Ce l' a b c):=by match l,l',d with|none,none,_=>exact ae (af (A:=aO) rfl) λr3 x _ _ e=>by cases e;exact af rfl|some v,some v',k=>exact ae (vq k _ _) λr3 x _ _ e=>by cases e;exact af rfl
theorem pA(f:Bool)(len cap:Nat)(c:OR P.globals.size r l l')(d:OR P.globals.size r h h')(i:OR P.globals.size r m m'):SR P K aO r (Instr.sliceBounds f len cap l h m) (Instr.sliceBounds f len cap l' h' m'):=by unfold Instr.sliceBounds;match m,m',i with|none,none,_=>(refine ae (af (A:=aO) rfl) ?_;rintro r1 mm _ b rfl;match h,h',d with|none,none,_=>exact ae (af (A:=aO) rfl) λr2 x _ a e=>by cases e;exact wW ((c.mono b).mono a) _ _ false|some v,some v',k=>exact ae (vq (VR.mono b k) _ _) λr2 x _ a e=>by cases e;exact wW ((c.mono b).mono a) _ _ false)|some w,some w',g=>refine ae (vq g _ _) ?_;rintro r1 mm _ b rfl;match h,h',d with|none,none,_=>exact ae (ak (A:=aO) _ _) λr2 x _ a e=>by cases e;exact wW ((c.mono b).mono a) _ _ true|some v,some v',k=>exact ae (vq (VR.mono b k) _ _) λr2 x _ a e=>by cases e;exact wW ((c.mono b).mono a) _ _ true
theorem db{b a:Type}{B:Rn->b->a->Prop}{s:Sem α}{f:α->Sem b}(h:dY P s)(s':Sem a):SR P K B r (s>>=f) s':=.dead (rj h) s'
theorem YC(t:TypeId)(F:VR P.globals.size r v v')(i:OR P.globals.size r l l')(k:OR P.globals.size r h h')(u:OR P.globals.size r m m'):SR P K (VR P.globals.size) r (Instr.slice t v l h m) (Instr.slice t v' l' h' m'):=by unfold Instr.slice;refine ae (bW t) ?_;rintro r1 d _ c⟨rfl,_⟩;(have D:m.isSome=m'.isSome:=by match m,m',u with|none,none,_=>rfl|some _,some _,_=>rfl);cases F with|string s=>(cases d with|string=>dsimp only;rw[D];split;(·exact ae (ak (A:=aO) _ _) λr2 _ _ f _=>ae (pA false _ _ ((i.mono c).mono f) ((k.mono c).mono f) (show OR P.globals.size r2 none none from trivial)) λr3 x _ _ e=>by cases e;exact af (.string _));·exact ae (pA false _ _ (i.mono c) (k.mono c) (show OR P.globals.size r1 none none from trivial)) λr3 x _ _ e=>by cases e;exact af (.string _)|pointer o=>exact db (fQ (h:=.stuck _) trivial) _|_=>exact ak _ _)|sl a b E cc w B=>(cases d with|slice e=>refine ae (pA true _ _ (i.mono c) (k.mono c) (u.mono c)) ?_;rintro r2⟨x,y,z⟩_ f rfl;refine ae (eP e) ?_;rintro r3 n _ g rfl;have j:DR P.globals.size r3 a {a with block:=b}:=⟨b,g _ _ (f _ _ (c _ _ w)),B,rfl⟩;split;(·exact af (j.sl _ _));·exact af ((j.add _).sl _ _)|pointer o=>exact db (fQ (h:=.stuck _) trivial) _|_=>exact ak _ _)|cT E cc=>(cases d with|slice e=>refine ae (pA true _ _ (i.mono c) (k.mono c) (u.mono c)) ?_;rintro r2⟨x,y,z⟩_ f rfl;refine ae (eP e) ?_;rintro r3 n _ g rfl;split;(·exact af (.cT _ _));·exact af (.cT _ _)|pointer o=>exact db (fQ (h:=.stuck _) trivial) _|_=>exact ak _ _)|cK=>(cases d<;>first|exact ak _ _|exact db (im .nilDeref) _)|ptr a b w B=>(cases d with|pointer o=>(refine ae (af (A:=DR P.globals.size) ⟨b,c _ _ w,B,rfl⟩) ?_;intro r2 x x' f G;refine ae (bW o) ?_;rintro r3 d _ g⟨rfl,_⟩;cases d with|array n e=>refine ae (pA false _ _ (((i.mono c).mono f).mono g) (((k.mono c).mono f).mono g) (((u.mono c).mono f).mono g)) ?_;rintro I⟨p,q,z⟩_ H rfl;refine ae (eP e) ?_;rintro J n _ C rfl;have j:=((G.mono g).mono H).mono C;split;(·exact af (j.sl _ _));·exact af ((j.add _).sl _ _)|_=>exact ak _ _)|_=>exact ak _ _)|_=>cases d<;>first|exact ak _ _|exact db (fQ (h:=.stuck _) trivial) _
theorem Ym(t:TypeId)(j:VR P.globals.size r v v')(i:OR P.globals.size r l l')(f:OR P.globals.size r h h')(g:OR P.globals.size r m m'):SR P K (VR P.globals.size) r (Instr.sliceAt t v l h m) (Instr.sliceAt t v' l' h' m'):=by unfold Instr.sliceAt;refine ae (bW t) ?_;rintro r1 d _ a⟨rfl,_⟩;cases d with|array n e=>refine ae (tE (j.mono a)) ?_;intro r2 x x' b k;refine ae (pA false _ _ ((i.mono a).mono b) ((f.mono a).mono b) ((g.mono a).mono b)) ?_;rintro u⟨p,q,z⟩_ s rfl;refine ae (eP e) ?_;rintro w n _ o rfl;have c:=(k.mono s).mono o;split;(·exact af (c.sl _ _));·exact af ((c.add _).sl _ _)|_=>exact YC t (j.mono a) (i.mono a) (f.mono a) (g.mono a)
def yR(t:TypeId)(k:IntKind)(i:Int)(base:Option Addr)(len:Nat)(elem:TypeId):Sem HH:=do let b:=len<=1&&(match<-underlying t with|.array .. =>true|_=>false)match base with|some a=>if 0<=i/\i<len then pure (.pointer (some (a.add (i.toNat*(<-sizeOf elem)))))else if b then unsupported (.noEntry "op/indexAddr.an index out of range at an array of length 0 or 1 (ledger 616)")else boundsPanic k i len .index|none=>boundsPanic k i 0 .index
def BR(G:Nat)(r:Rn):Option Addr->Option Addr->Prop|none,none=>True|some a,some a'=>DR G r a a'|_,_=>False
theorem yz(t:TypeId)(k:IntKind)(i:Int){base b:Option Addr}(len:Nat)(elem:TypeId)(d:BR P.globals.size r base b):SR P K (VR P.globals.size) r (yR t k i base len elem) (yR t k i b len elem):=by unfold yR;refine ae (bW t) ?_;rintro g f _ e⟨rfl,_⟩;match base,b,d with|none,none,_=>exact rM _ _ _ _ _|some a,some a',hd=>dsimp only;split;(·refine ae (eP elem) ?_;rintro h n _ c rfl;exact af (((DR.mono e hd).mono c).add _).ptr);·(repeat' split);all_goals first|exact bw _ _|exact rM _ _ _ _ _
theorem acG(t:TypeId)(m:VR P.globals.size r v v')(u:VR P.globals.size r x x'):SR P K (VR P.globals.size) r (Instr.indexAt t v x) (Instr.indexAt t v' x'):=by unfold Instr.indexAt;refine ae (uW u) ?_;rintro r1⟨k,i⟩_ p rfl;refine ae (bW t) ?_;rintro r2 d _ o⟨rfl,_⟩;have w:=(m.mono p).mono o;cases d with|array n e=>refine ae (tE w) ?_;intro r3 a a' B s;exact ae (af (A:=λ_(x y:Option Addr×Nat×TypeId)=>x=(some a,n,e)/\y=(some a',n,e)) ⟨rfl,rfl⟩) λg x y j f=>by obtain⟨rfl,rfl⟩:=f;exact yz t k i n e (show BR P.globals.size g (some a) (some a')from s.mono j)|slice e=>(cases m with|sl a b l c z q=>exact ae (af (A:=λ_(x y:Option Addr×Nat×TypeId)=>x=(some a,l,e)/\y=(some {a with block:=b},l,e)) ⟨rfl,rfl⟩) λg x y j f=>by obtain⟨rfl,rfl⟩:=f;exact yz t k i l e (show BR P.globals.size g (some a) (some {a with block:=b})from⟨b,j _ _ (o _ _ (p _ _ z)),q,rfl⟩)|cT l c=>exact ae (af (A:=λ_(x y:Option Addr×Nat×TypeId)=>x=(none,l,e)/\y=(none,l,e)) ⟨rfl,rfl⟩) λg x y j f=>by obtain⟨rfl,rfl⟩:=f;exact yz t k i l e (show BR P.globals.size g none none from trivial)|_=>exact db (fQ (h:=.stuck _) trivial) _)|_=>cases m<;>exact db (fQ (h:=.stuck _) trivial) _
end
section
variable{P:Program}{K:Cm}{r:Rn}
def VA(P:Program)(r:Rn):Option (Addr×TypeId)->Option (Addr×TypeId)->Prop|none,none=>True|some (a,t),some (a',b)=>DR P.globals.size r a a'/\t=b/\iS P t|_,_=>False
theorem uB{a:Nat}(h:r a b):SR P K (VA P) r (viewAt a) (viewAt b):=by unfold viewAt;refine ae (iQ h) ?_;rintro r1 s _ d rfl;cases s with|some x=>exact af trivial|none=>exact SR.getObj a b (d _ _ h) (λx x' lost _=>af trivial) (λx x' t e c=>af ⟨e,rfl,c⟩) λ_ _=>af trivial
theorem zi(h:DR P.globals.size r a a'):SR P K aO r (noView a) (noView a'):=by obtain⟨b,h1,_,rfl⟩:=h;unfold noView;refine ae (uB h1) ?_;intro r1 x y d c;match x,y,c with|none,none,_=>exact af rfl|some _,some _,_=>exact bw _ _
theorem adP{a:Nat}(h:r a b):SR P K aO r (cellsIn a) (cellsIn b):=by unfold cellsIn;refine ae (iQ h) ?_;rintro r1 s _ c rfl;cases s with|some x=>exact af rfl|none=>exact SR.getObj a b (c _ _ h) (λx x' lost _=>af rfl) (λx x' t _ _=>af rfl) λ_ _=>af rfl
def MR(G:Nat)(r:Rn):Option (Addr×Bool)->Option (Addr×Bool)->Prop|none,none=>True|some (a,l),some (a',l')=>DR G r a a'/\l=l'|_,_=>False
theorem KY{a:Nat}(h:r a b):SR P K (MR P.globals.size) r (numberAt a) (numberAt b):=by unfold numberAt;refine ae (iQ h) ?_;rintro r1 s _ d rfl;cases s with|some x=>exact af trivial|none=>exact SR.getObj a b (d _ _ h) (λx x' lost c=>af ⟨c,rfl⟩) (λx x' t _ _=>af trivial) λ_ _=>af trivial
theorem mC(h:DR P.globals.size r a a'):SR P K (λr x y=>DR P.globals.size r x.1 y.1/\x.2=y.2) r (behindNumber a) (behindNumber a'):=by unfold behindNumber;have d:=h;obtain⟨b,h1,_,rfl⟩:=d;refine ae (KY h1) ?_;intro r1 x y e c;match x,y,c with|none,none,_=>exact af ⟨h.mono e,rfl⟩|some (p,l),some (q,m),k=>exact af k
theorem acR(h:DR P.globals.size r a a')(lost:Bool):SR P K (VR P.globals.size) r (asNumber a lost) (asNumber a' lost):=by unfold asNumber newObj;exact SR.number a a' lost h λn c b=>.pure (.ptr ⟨n,0,none⟩ c (.inr ⟨rfl,rfl⟩) (.inl b))
theorem sN(h:DR P.globals.size r a a'):SR P K aO r (byteOf a) (byteOf a'):=by have g:=h;obtain⟨b,h1,_,rfl⟩:=g;unfold byteOf;dsimp only;cases f:a.spot with|some s=>exact af rfl|none=>(have h':DR P.globals.size r a {block:=b,off:=a.off,spot:=none}:=by rw[<-f];exact h);dsimp only;refine ae gr ?_;rintro r1 p q c⟨d,i⟩;rw[d,i];refine ae (zi (h'.mono c)) ?_;rintro r2 _ _ j _;refine ae (iQ (j _ _ (c _ _ h1))) ?_;rintro r3 s _ k rfl;cases s with|none=>exact ak _ _|some x=>obtain⟨e,n⟩:=x;simp only[ae6,ak7,pg,Ad];split;(·exact af rfl);·split;(·exact af rfl);·exact ak _ _
theorem xH(k:IntKind)(h:DR P.globals.size r a a')(n:Int):SR P K (VR P.globals.size) r (Op.addrMod k a n) (Op.addrMod k a' n):=by have d:=h;obtain⟨b,h1,_,rfl⟩:=d;unfold Op.addrMod;refine ae (iQ h1) ?_;rintro r1 s _ f rfl;cases s with|none=>exact bw _ _|some x=>obtain⟨e,m⟩:=x;refine ae (ky e) ?_;rintro r2 i _ c⟨rfl,_⟩;dsimp only;split;(·exact db (eJ _) _);·refine ae (sN ((h.mono f).mono c)) ?_;rintro r3 x _ _ rfl;exact af (.int _ _)
theorem ul(t:TypeId)(j:VR P.globals.size r x x')(f:VR P.globals.size r y y'):SR P K (VR P.globals.size) r (Builtin.unsafeAdd_ #[] t #[x,y]) (Builtin.unsafeAdd_ #[] t #[x',y']):=by unfold Builtin.unsafeAdd_;cases j with|cK=>dsimp only;refine ae (nt f) ?_;rintro r1 n _ c rfl;split;(·exact bw _ _);·split;(·exact db (eJ _) _);·exact bw _ _|ptr a b h g=>(dsimp only;refine ae (nt f) ?_;rintro r1 n _ c rfl;split;(·refine ae (uB (c _ _ h)) ?_;intro r2 x y d k;match x,y,k with|none,none,_=>exact af (.ptr a b (d _ _ (c _ _ h)) g)|some _,some _,_=>exact db (eJ _) _);·split;(·exact db (eJ _) _);·refine ae (iQ (c _ _ h)) ?_;rintro r2 s _ d rfl;cases s with|none=>exact bw _ _|some z=>obtain⟨e,m⟩:=z;refine ae gr ?_;rintro r3 p q l⟨o,i⟩;simp only[o,i,pg,JO,ae6];split;(·exact af (.ptr {a with off:=_} b (l _ _ (d _ _ (c _ _ h))) g));·exact bw _ _)|_=>exact ak _ _
def JF(t:TypeId)(x y:HH):Sem HH:=match x with|.pointer (some n)=>(do let(a,lost)<-behindNumber n match<-Builtin.unsafeAdd_ #[] t #[.pointer (some a),y]with|.pointer (some b)=>asNumber b lost|v=>pure v)|_=>Builtin.unsafeAdd_ #[] t #[x,y]
theorem Yr(t:TypeId)(g:VR P.globals.size r x x')(o:VR P.globals.size r y y'):SR P K (VR P.globals.size) r (JF t x y) (JF t x' y'):=by have w:=g;cases g with|ptr a b h d=>(have s:DR P.globals.size r a {a with block:=b}:=⟨b,h,d,rfl⟩;refine ae (mC s) ?_;rintro r2⟨p,l⟩⟨q,m⟩u⟨j,i⟩;dsimp only at j i;subst i;refine ae (ul t j.ptr (o.mono u)) ?_;intro r3 z A B v;cases v with|ptr a b h d=>exact acR ⟨b,h,d,rfl⟩ l|bool b=>exact af (.bool b)|int k n=>exact af (.int k n)|string x=>exact af (.string x)|cK=>exact af .cK|cT l c=>exact af (.cT l c)|sl a b l c h d=>exact af (.sl a b l c h d)|fn f=>exact af (.fn f)|nilFunc=>exact af .nilFunc|nilIface=>exact af .nilIface|iface t h=>exact af (.iface t h)|agg e h=>exact af (.agg e h)|tuple e h=>exact af (.tuple e h))|_=>exact ul t w o
theorem ox(t:TypeId)(b:VR P.globals.size r x x')(c:VR P.globals.size r y y'):SR P K (VR P.globals.size) r (movedNumber t x y) (movedNumber t x' y'):=by unfold movedNumber;refine ae (bW t) ?_;rintro r1 d _ a⟨rfl,_⟩;cases d with|unsafePointer=>exact db (eJ _) _|_=>exact Yr t (b.mono a) (c.mono a)
theorem Iw(t:TypeId)(d:VR P.globals.size r x x')(e:VR P.globals.size r y y'):SR P K (VR P.globals.size) r (movedPointer t x y) (movedPointer t x' y'):=by unfold movedPointer;have c:=d;cases d with|ptr a b h j=>(refine ae (KY h) ?_;intro r1 z i f g;match z,i,g with|none,none,_=>exact ul t (c.mono f) (e.mono f)|some _,some _,_=>exact db (eJ _) _)|_=>exact ul t c e
theorem IK(c:BinOp)(k:IntKind)(a b:Int):SR P K (VR P.globals.size) r (Op.intArith c k a b) (Op.intArith c k a b):=by unfold Op.intArith;cases c<;>first|exact af (.int _ _)|exact ak _ _
theorem ad8(c:BinOp)(k:IntKind)(a b:Int):SR P K (VR P.globals.size) r (Op.intDiv c k a b) (Op.intDiv c k a b):=by unfold Op.intDiv;split;(·exact nA _ _);·cases c<;>first|exact af (.int _ _)|exact ak _ _
theorem Cp(c:BinOp)(k:IntKind)(a b:Int):SR P K (VR P.globals.size) r (Op.intBits c k a b) (Op.intBits c k a b):=by unfold Op.intBits;cases c<;>first|exact af (.int _ _)|exact ak _ _
theorem ajK(c:BinOp)(a b:Int):SR P K (VR P.globals.size) r (Op.intCmp c a b) (Op.intCmp c a b):=by unfold Op.intCmp;cases c<;>first|exact af (.bool _)|exact ak _ _
theorem T4(c:BinOp)(k k':IntKind)(a b:Int):SR P K (VR P.globals.size) r (Op.shift c k a k' b) (Op.shift c k a k' b):=by unfold Op.shift;split;(·exact nA _ _);·cases c<;>first|exact af (.int _ _)|exact ak _ _
theorem Dk(c:BinOp)(a b:HM):SR P K (VR P.globals.size) r (Op.stringOp c a b) (Op.stringOp c a b):=by unfold Op.stringOp;cases c<;>first|exact af (.bool _)|exact ak _ _|(dsimp only;split<;>first|exact bw _ _|exact af (.string _))
theorem adC(c:UnOp)(d:VR P.globals.size r x x'):SR P K (VR P.globals.size) r (Op.unary c x) (Op.unary c x'):=by cases d with|bool b=>(cases c<;>first|exact af (.bool _)|exact ak _ _)|int k n=>(cases c with|neg=>exact IK .sub k 0 n|xor=>exact Cp .xor k _ n|_=>exact ak _ _)|ptr a b h e=>(cases c<;>first|exact bw _ _|exact ak _ _)|_=>cases c<;>exact ak _ _
end
end Co
