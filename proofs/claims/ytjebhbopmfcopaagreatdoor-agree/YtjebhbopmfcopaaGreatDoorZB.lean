/- Agree, a part. -/
import GoSem.Step
import Derived.Test.YtjebhbopmfcopaaGreatDoorZA
namespace Go.Proofs.YtjebhbopmfcopaaGreatDoor
open Go.Proofs
noncomputable section
variable{a a' cs cs':DS}{f:FuncId}{i:Nat}{L:Nat->Bool}{P:Program}{α β:Type}{v v':HH}
namespace Un
open Conc ConcN Ph
section
variable{P:Program}{α β:Type}
theorem tP(a:α):aj P (pure a:Sem α):=trivial
theorem iC{x:Sem α}{f:α->Sem β}(c:aj P x)(b:∀a,aj P (f a)):aj P (x>>=f):=aj.bind c b
theorem Jh{x:Sem α}{f:α->β}(a:aj P x):aj P (f<$>x):=aj.bind a λ_=>trivial
theorem aka{f:Program->Sem β}(a:aj P (f P)):aj P (program>>=f):=a
theorem pN(s:String):aj P (stuck s:Sem α):=trivial
theorem Sk(u:Unsupported)(h:Bm (.unsupported u)):aj P (unsupported u:Sem α):=h
theorem ZX(v:HH):aj P (goPanic v:Sem α):=trivial
theorem Yd:aj P program:=trivial
theorem Er(a:Addr)(m:Mode):aj P (load a m):=λ_=>trivial
theorem EU(a:Addr)(v:HH)(m:Mode):aj P (store a v m):=trivial
theorem Q0(o:Obj):aj P (newObj o):=λ_=>trivial
theorem S5(r:Nat):aj P (shape r):=λ_=>trivial
theorem akt(a:Addr)(n:Nat):aj P (freeze a n):=trivial
theorem Vm(a:Addr):aj P (frozen a):=λ_=>trivial
theorem Pj(r:Nat):aj P (getObj r):=λ_=>trivial
theorem S7(q:Question):aj P (choose q):=λ_=>trivial
theorem ae7{c:Prop}[Decidable c]{x y:Sem α}(b:aj P x)(a:aj P y):aj P (if c then x else y):=by split<;>assumption
theorem acb:aj P (mark .noRoom):=⟨.inl rfl,trivial⟩
end
theorem aQ{s:Sem α}(h:aj P s:=by repeat'(first|(with_reducible first|exact tP _|exact pN _|exact Sk _ (by with_unfolding_all exact True.intro)|exact ZX _|exact Yd|exact Er _ _|exact EU _ _ _|exact Q0 _|exact S5 _|exact akt _ _|exact Vm _|exact Pj _|exact nm_setObj _ _|exact S7 _|exact acb|exact ih _ _ _|exact ih _ _|exact aa5 _ _ _ _|exact adM _ _ _|exact aiG _ _ _ _|exact akS _|exact akX _ _ _|exact akM _ _|exact akI _ _|exact aer _ _|exact aj6 _ _|exact akL _|exact ai2 _|exact abQ _ _ _ _|exact ak5 _ _ _|exact ak4 _ _ _|exact akW _ _ _|exact ak3 _ _ _|exact akz _ _|exact akU _ _ _|exact akD _ _ _|exact akw _ _ _|exact akH _ _|exact abH _ _ _|exact ak1 _ _ _|exact akB _ _|exact ajJ _ _ _|exact agx _|exact akA _ _ _ _ _ _|exact ak2 _ _ _ _|exact akO _ _ _ _ _|exact akG _ _ _ _|exact aec _ _|exact akJ _ _|exact akC _ _|exact akY _ _|exact aks _ _ _|exact akN _ _ _ _|exact pI _ _ _ _|exact akp _ _ _|refine E' (λ_=>?_) _|refine afj _ _ λ_ _=>?_|refine ajC _ _ λ_ _=>?_|exact SL _ _ _ _|exact SO _ _ _ _|exact X6 _|exact ake _|exact aff _ _|exact Q9 _ _|exact Q6 _ _|exact ZC _|exact MH _|exact adY _|exact agN _|exact aex _|exact YY _ _ _|exact OW _ _ _ _ _|exact Vy _ _ _|exact YG _ _ _ _|exact ab4 _ _ _ _|exact YJ _ _ _ _|exact Vp _ _ _ _ _|exact ad6 _ _|exact agn _ _ _|exact Nt _|exact UQ _ _ _ _ _|exact Wy _ _ _ _ _ _|exact Mo _ _ _|exact Zg _|exact Fv _|exact CQ _|exact HD _|exact YE _|exact On _ _ _ _|exact UE _|exact Ll _ _ _|exact Z4 _|exact afi _ _|exact IZ _ _|exact Np _ _ _|exact DV _ _|exact EI _ _ _|exact acm _ _|exact ads _|exact agc _|exact Ui _|exact FA _|exact U3 _|exact Sb _|(refine iC ?_ λ_=>?_)|refine Jh ?_|(intro _)|refine ae7 ?_ ?_|dsimp only|split)|split|contradiction)):aj P s:=h
section
variable{P:Program}{α:Type}
theorem Sb(n:Nat):aj P (askRoom n):=by unfold askRoom;exact aQ
theorem U3(t:TypeId):aj P (typeInfo t):=by unfold typeInfo;exact aQ
theorem FA(t:TypeId):aj P (underlying t):=by unfold underlying;exact aQ
theorem Ui(t:TypeId):aj P (zeroValue t):=by unfold zeroValue;exact aQ
theorem agc(t:TypeId):aj P (sizeOf t):=by unfold sizeOf;exact aQ
theorem ads(t:TypeId):aj P (isAgg t):=by unfold isAgg;exact aQ
theorem JP(a:Addr):∀(n i:Nat)(b:DS),aj P (loadCellsFrom a i n b)|0,_,_=>trivial|n+1,i,b=>by unfold loadCellsFrom;refine iC (Er _ _) λv=>JP a n _ _
theorem acm(a:Addr)(n:Nat):aj P (loadCells a n):=JP _ _ _ _
theorem EI(a:Addr):∀(l:FV)(i:Nat),aj P (storeCells a l i)|[],_=>trivial|v::l,i=>by unfold storeCells;refine iC (EU _ _ _) λ_=>EI a l _
theorem DV(t:TypeId)(a:Addr):aj P (loadVar t a):=by unfold loadVar;exact aQ
theorem Np(t:TypeId)(a:Addr)(v:HH):aj P (storeVar t a v):=by unfold storeVar;exact aQ
theorem IZ(t:TypeId)(c:DS):aj P (newRow t c):=by unfold newRow;exact aQ
theorem afi(t:TypeId)(v:HH):aj P (newVar t v):=IZ _ _
theorem Z4(t:TypeId):aj P (elemOf t):=by unfold elemOf;exact aQ
theorem Ll(t:TypeId)(c:DS)(n:Nat):aj P (part t c n):=by unfold part;exact aQ
theorem UE(e:RuntimeError):aj P (runtimePanic e:Sem α):=by unfold runtimePanic;exact aQ
theorem On(k:IntKind)(x y:Int)(c:BoundsCode):aj P (boundsPanic k x y c:Sem α):=by unfold boundsPanic;exact aQ
theorem YE(v:HH):aj P (asIntOf v):=by unfold asIntOf;exact aQ
theorem HD(v:HH):aj P (asInt v):=by unfold asInt;exact aQ
theorem CQ(v:HH):aj P (asBool v):=by unfold asBool;exact aQ
theorem Fv(v:HH):aj P (asAddr v):=by unfold asAddr;exact aQ
theorem Zg(v:HH):aj P (Instr.sureAddr v):=by unfold Instr.sureAddr;exact aQ
theorem aeA(t:TypeId)(v:HH):aj P (Instr.loadAt t v):=by unfold Instr.loadAt;exact aQ
theorem QW(t:TypeId)(v x:HH):aj P (Instr.storeAt t v x):=by unfold Instr.storeAt;exact aQ
theorem Ql(t:TypeId)(b:Bool)(x:HH):aj P (Instr.alloc t b x):=by unfold Instr.alloc;exact aQ
theorem aay(t:TypeId)(x:HH):aj P (Instr.box t x):=by unfold Instr.box;exact aQ
theorem aea(x:HH)(i:Nat):aj P (Instr.extract x i):=by unfold Instr.extract;exact aQ
theorem NW(t:TypeId)(x i:HH):aj P (Instr.index t x i):=by unfold Instr.index;exact aQ
theorem ahB(t:TypeId)(x i:HH):aj P (Instr.indexAt t x i):=by unfold Instr.indexAt;exact aQ
theorem ab2(t:TypeId)(x i:HH):aj P (Instr.makeSlice t x i):=by unfold Instr.makeSlice;exact aQ
theorem aan(t:TypeId)(n:Nat)(ps:Array (Nat×HH)):aj P (Instr.buildSlice t n ps):=by unfold Instr.buildSlice;exact aQ
theorem Mo(x:HH)(y:Nat)(c:BoundsCode):aj P (Instr.sliceBound x y c):=by unfold Instr.sliceBound;exact aQ
theorem Wy(b:Bool)(x y:Nat)(l h m:Option HH):aj P (Instr.sliceBounds b x y l h m):=by unfold Instr.sliceBounds;exact aQ
theorem UQ(t:TypeId)(x:HH)(l h m:Option HH):aj P (Instr.slice t x l h m):=by unfold Instr.slice;exact aQ
theorem ae3(t:TypeId)(x:HH)(l h m:Option HH):aj P (Instr.sliceAt t x l h m):=by unfold Instr.sliceAt;exact aQ
theorem MT(b:Array TypeId)(u:TypeId)(a:DS):aj P (Builtin.len_ b u a):=by unfold Builtin.len_;exact aQ
theorem Nt(v:HH):aj P (Builtin.lenOf v):=by unfold Builtin.lenOf;exact aQ
theorem agn(s n:Nat)(v:HH):aj P (Builtin.firstCells s n v):=by unfold Builtin.firstCells;exact aQ
theorem Pk(b:Array TypeId)(u:TypeId)(a:DS):aj P (Builtin.copy_ b u a):=by unfold Builtin.copy_;exact aQ
theorem ad6(a:Addr)(n:Nat):aj P (Builtin.holdsCells a n):=by unfold Builtin.holdsCells;exact aQ
theorem Vp(a b c:Nat)(x:Option Addr)(v:HH):aj P (Builtin.mayShare a b c x v):=by unfold Builtin.mayShare;exact aQ
theorem abd(b:Array TypeId)(u:TypeId)(a:DS):aj P (Builtin.append_ b u a):=by unfold Builtin.append_;exact aQ
theorem YJ(a:BinOp)(k:IntKind)(x y:Int):aj P (Op.intArith a k x y):=by unfold Op.intArith;exact aQ
theorem ab4(a:BinOp)(k:IntKind)(x y:Int):aj P (Op.intDiv a k x y):=by unfold Op.intDiv;exact aQ
theorem YG(a:BinOp)(k:IntKind)(x y:Int):aj P (Op.intBits a k x y):=by unfold Op.intBits;exact aQ
theorem Vy(a:BinOp)(x y:Int):aj P (Op.intCmp a x y):=by unfold Op.intCmp;exact aQ
theorem OW(a:BinOp)(k l:IntKind)(x y:Int):aj P (Op.shift a k x l y):=by unfold Op.shift;exact aQ
theorem YY(a:BinOp)(x y:HM):aj P (Op.stringOp a x y):=by unfold Op.stringOp;exact aQ
theorem Vf(a:UnOp)(x:HH):aj P (Op.unary a x):=by unfold Op.unary;exact aQ
theorem aex(r:Nat):aj P (viewAt r):=by unfold viewAt;exact aQ
theorem agN(r:Nat):aj P (numberAt r):=by unfold numberAt;exact aQ
theorem adY(a:Addr):aj P (behindNumber a):=by unfold behindNumber;exact aQ
theorem MH(a:Addr):aj P (noView a):=by unfold noView;exact aQ
theorem ZC(a:Addr):aj P (stringish a):=by unfold stringish;exact aQ
theorem Q6(a b:Addr):aj P (mayBeOne a b):=by unfold mayBeOne;exact aQ
theorem Q9(a b:Addr):aj P (sameAddr a b):=by unfold sameAddr;exact aQ
theorem aff(a b:Option Addr):aj P (samePointer a b):=by unfold samePointer;exact aQ
theorem ake(a:Addr):aj P (markStringish a):=by unfold markStringish;exact aQ
theorem X6(t:TypeId):aj P (typeStr t):=by unfold typeStr;exact aQ
theorem SO(a:BinOp)(k:FloatKind)(x y:Nat):aj P (Op.floatArith a k x y):=by unfold Op.floatArith;exact aQ
theorem SL(a:BinOp)(k:FloatKind)(x y:Nat):aj P (Op.floatCmp a k x y):=by unfold Op.floatCmp;exact aQ
end
section
variable{P:Program}{α β σ:Type}
theorem FL{f:α->σ->Sem (ForInStep σ)}(c:∀a s,aj P (f a s)):∀(l:List α)(s:σ),aj P (forIn l s f)|[],s=>by rw[List.forIn_nil];exact tP _|a::l,s=>by rw[List.forIn_cons];refine iC (c a s) λx=>?_;cases x with|done b=>exact tP _|yield b=>exact FL c l b
theorem ajC{f:α->σ->Sem (ForInStep σ)}(l:Array α)(s:σ)(b:∀a s,aj P (f a s)):aj P (forIn l s f):=by rw[<-Array.forIn_toList];exact FL b _ _
theorem afj{f:Nat->σ->Sem (ForInStep σ)}(l:Std.Legacy.Range)(s:σ)(b:∀a s,aj P (f a s)):aj P (forIn l s f):=by rw[Std.Legacy.Range.forIn_eq_forIn_range'];exact FL b _ _
theorem Ho{f:α->Sem β}(b:∀a,aj P (f a)):∀(l:List α),aj P (l.mapM f)|[]=>by rw[List.mapM_nil];exact tP _|a::l=>by rw[List.mapM_cons];exact iC (b a) λ_=>iC (Ho b l) λ_=>tP _
theorem E'{f:α->Sem β}(b:∀a,aj P (f a))(l:Array α):aj P (l.mapM f):=by rw[Array.mapM_eq_mapM_toList];exact Jh (Ho b _)
theorem akp(a:FloatKind)(x:Nat)(b:FloatKind):aj P (Conv.floatToFloat a x b):=by unfold Conv.floatToFloat;exact aQ
theorem pI(a:BinOp)(k:FloatKind)(x y:Nat):aj P (Op.Complex.arith a k x y):=by unfold Op.Complex.arith;exact aQ
theorem akN(a:BinOp)(k:FloatKind)(x y:Nat):aj P (Op.Complex.cmp a k x y):=by unfold Op.Complex.cmp;exact aQ
theorem aks(k:FloatKind)(x:Nat)(l:FloatKind):aj P (Op.Complex.conv k x l):=by unfold Op.Complex.conv;exact aQ
theorem akY(x y:Nat):aj P (Op.Complex.add x y):=pI _ _ _ _
theorem akC(x y:Nat):aj P (Op.Complex.sub x y):=pI _ _ _ _
theorem akJ(x y:Nat):aj P (Op.Complex.mul x y):=pI _ _ _ _
theorem aec(x y:Nat):aj P (Op.Complex.quo x y):=pI _ _ _ _
theorem akG(a b c d:Nat):aj P (Op.Complex.product a b c d):=by unfold Op.Complex.product;exact aQ
theorem akO(s a b c d:Nat):aj P (Op.Complex.corrected s a b c d):=by unfold Op.Complex.corrected;exact aQ
theorem ak2(a b c d:Nat):aj P (Op.Complex.quotient a b c d):=by unfold Op.Complex.quotient;exact aQ
theorem akA(c:BinOp)(k:FloatKind)(x y a b:Nat):aj P (Op.complexOp c k x y a b):=by unfold Op.complexOp;exact aQ
theorem agx(a:Addr):aj P (byteOf a):=by unfold byteOf;exact aQ
theorem ajJ(a:Addr)(n m:Nat):aj P (partAt a n m):=by unfold partAt;exact aQ
theorem akB(a:Addr)(f:Field):aj P (fieldPlace a f):=by unfold fieldPlace;exact aQ
theorem ab0(t:TypeId)(x:HH)(n:Nat):aj P (Instr.fieldAt t x n):=by unfold Instr.fieldAt;exact aQ
theorem ak1(a:Addr)(t:TypeId)(n:Nat):aj P (variablesAt a t n):=by unfold variablesAt;exact aQ
theorem abH:∀(n:Nat)(a:Addr)(s:HM),aj P (loadBytes a s n)|0,_,_=>trivial|n+1,a,s=>by unfold loadBytes;refine iC (Er _ _) λv=>?_;split;(·exact abH n _ _);·exact pN _
theorem XE(b:Array TypeId)(u:TypeId)(a:DS):aj P (Builtin.unsafeString_ b u a):=by unfold Builtin.unsafeString_;obtain⟨l⟩:=a;match l with|[]=>exact pN _|[x]=>cases x<;>exact pN _|x::y::z::l=>cases x<;>exact pN _|[x,y]=>cases x with|pointer p=>(refine iC (HD _) λn=>?_;cases b[0]? with|none=>exact pN _|some c=>cases p<;>exact aQ)|_=>exact pN _
theorem akj(t:TypeId)(ps:Array (Nat×HH)):aj P (Instr.build t ps):=by unfold Instr.build;exact aQ
theorem akH(a b:Addr):aj P (Op.twoPlaces a b):=by unfold Op.twoPlaces;exact aQ
theorem akw(k:IntKind)(a b:Addr):aj P (Op.addrSub k a b):=by unfold Op.addrSub;exact aQ
theorem akD(k:BinOp)(a b:Addr):aj P (Op.addrCmp k a b):=by unfold Op.addrCmp;exact aQ
theorem akU(k:IntKind)(a:Addr)(n:Int):aj P (Op.addrMod k a n):=by unfold Op.addrMod;exact aQ
theorem akz(a:Addr)(b:Bool):aj P (asNumber a b):=by unfold asNumber;exact aQ
theorem ak3(b:Array TypeId)(u:TypeId)(a:DS):aj P (Builtin.unsafeAdd_ b u a):=by unfold Builtin.unsafeAdd_;obtain⟨l⟩:=a;match l with|[]=>exact pN _|[x]=>cases x<;>exact pN _|x::y::z::l=>cases x<;>exact pN _|[x,y]=>cases x with|pointer p=>refine iC (HD _) λn=>?_;cases p<;>exact aQ|_=>exact pN _
theorem akW(t:TypeId)(x y:HH):aj P (movedNumber t x y):=by unfold movedNumber;exact aQ
theorem ak4(t:TypeId)(x y:HH):aj P (movedPointer t x y):=by unfold movedPointer;exact aQ
theorem abJ:∀(d:Nat)(t:TypeId)(x y:HH),aj P (Op.equalIn d t x y)|0,_,_,_=>trivial|d+1,t,x,y=>by have ih:∀t x y,aj P (Op.equalIn d t x y):=abJ d;unfold Op.equalIn;exact aQ
theorem ak5(t:TypeId)(x y:HH):aj P (Op.equal t x y):=abJ _ _ _ _
theorem abQ:∀(d:Nat)(t:TypeId)(x y:HH),aj P (Op.eqGuardIn d t x y)|0,_,_,_=>trivial|d+1,t,x,y=>by have ih:∀t x y,aj P (Op.eqGuardIn d t x y):=abQ d;unfold Op.eqGuardIn;exact aQ
theorem Wn(c:BinOp)(t:TypeId)(x y:Operand)(a b:HH):aj P (eqGuard c t x y a b):=by unfold eqGuard;exact aQ
theorem ZP(a:BinOp)(t:TypeId)(x y:HH):aj P (binOp a t x y):=by unfold binOp;exact aQ
theorem ai2(x:HH):aj P (Conv.bytesToString x):=by unfold Conv.bytesToString;exact aQ
theorem akL(x:HH):aj P (Conv.runesToString x):=by unfold Conv.runesToString;exact aQ
theorem aj6(t:TypeId)(x:HM):aj P (Conv.stringToBytes t x):=by unfold Conv.stringToBytes;exact aQ
theorem aer(t:TypeId)(x:HM):aj P (Conv.stringToRunes t x):=by unfold Conv.stringToRunes;exact aQ
theorem akI(k:IntKind)(x:Int):aj P (Conv.intToInt k x):=by unfold Conv.intToInt;exact aQ
theorem akM(k:FloatKind)(x:Int):aj P (Conv.intToFloat k x):=by unfold Conv.intToFloat;exact aQ
theorem akX(k:FloatKind)(x:Nat)(l:IntKind):aj P (Conv.floatToInt k x l):=by unfold Conv.floatToInt;exact aQ
theorem akS(x:Int):aj P (Conv.intToString x):=by unfold Conv.intToString;exact aQ
theorem aiG(k:FloatKind)(x y:Nat)(l:FloatKind):aj P (Conv.complexToComplex k x y l):=by unfold Conv.complexToComplex;exact aQ
end
set_option linter.unusedVariables false
def vQ:Option TypeDesc->Bool|some (.int _)|some .string|some (.slice _)=>true|_=>false
def oC(P:Program)(S:FuncId->Bool):Op->Bool|.move _|.assign _|.pick .. |.alloc _|.box .. |.build .. |.buildSlice .. |.load .. |.store .. |.nilCheck _|.binOp .. |.unOp .. |.makeSlice .. |.slice .. |.fieldAddr .. |.indexAddr .. |.index .. |.extract .. =>true|.convert s d _=>vQ (P.underlying s)&&vQ (P.underlying d)|.call c=>(match c.callee with|.value (.func f)=>(S f&&match P.funcs[f]? with|some fn=>fn.body.isSome&&fn.name != "runtime.NumGoroutine"|none=>false)|.builtin .len|.builtin .append|.builtin .copy|.builtin .unsafeString=>true|_=>false)|_=>false
def p8(S:FuncId->Bool):Next->Prop|.value _|.skip=>True|.enter f _=>S f=true|_=>False
section
variable{P:Program}{S:FuncId->Bool}
theorem adM:∀(l:List FieldStep)(t:TypeId)(x:Option HH),aj P (followBlind l t x)|[],_,_=>trivial|s::l,t,x=>by have ih:∀t x,aj P (followBlind l t x):=adM l;unfold followBlind;exact aQ
theorem aa5:∀(n:Nat)(t:TypeId)(v:HH)(s:String),aj P (nilAhead n t v s)|0,_,_,_=>trivial|n+1,t,v,s=>by have ih:∀t v s,aj P (nilAhead n t v s):=aa5 n;unfold nilAhead;exact aQ
theorem Pv{s d:TypeId}(e:vQ (P.underlying s)=true)(c:vQ (P.underlying d)=true)(x:HH):aj P (convert s d x):=by unfold convert;have us:aj P (underlying s):=FA s;cases es:P.underlying s with|none=>rw[es]at e;cases e|some a=>cases g:P.underlying d with|none=>rw[g]at c;cases c|some b=>rw[es]at e;rw[g]at c;(have e1:∀{β:Type}(f:TypeDesc->Sem β),aj P (underlying s>>=f)↔aj P (f a):=λf=>by show aj P ((Sem.bind _ _))↔_;simp only[underlying,program,bind,Sem.bind,aj,es];rfl);(have e2:∀{β:Type}(f:TypeDesc->Sem β),aj P (underlying d>>=f)↔aj P (f b):=λf=>by show aj P ((Sem.bind _ _))↔_;simp only[underlying,program,bind,Sem.bind,aj,g];rfl);rw[e1,e2];(cases a<;>first|cases e|skip);all_goals(cases b<;>first|cases c|skip);all_goals exact aQ
theorem fj{x:Sem HH}:Yl P (p8 S) (do pure (.value (<-x))):=Yl.bind λ_=>trivial
theorem P9{x:Sem Unit}:Yl P (p8 S) (do x;pure .skip):=Yl.bind λ_=>trivial
theorem ft{x:Sem HH}(h:aj P x):aj P (do pure (Next.value (<-x))):=iC h λ_=>trivial
theorem VO{x:Sem Unit}(h:aj P x):aj P (do x;pure Next.skip):=iC h λ_=>trivial
theorem wE{A:α->Prop}(e:RuntimeError):Yl P A (runtimePanic e:Sem α):=by unfold runtimePanic;refine Yl.bind λp=>?_;cases e with|typeAssertion a b c d|panicNil=>exact Yl.bind λ_=>Yl.bind λ_=>trivial|_=>trivial
theorem ai9{fn:Func}(h1:S f=true)(b:P.funcs[f]?=some fn)(d:fn.body.isSome=true)(c:(fn.name != "runtime.NumGoroutine")=true)(a:DS):aj P (callFunc f a)/\Yl P (p8 S) (callFunc f a):=by
 have e1:(fn.name== "runtime.NumGoroutine")=false:=by simpa[bne]using c
 have e2:fn.body.isNone=false:=by cases h:fn.body<;>simp_all
 constructor;·unfold callFunc;refine aka ?_;simp only[b,e1,e2];trivial
 ·show Yl P (p8 S) ((program:Sem Program).bind _);simp only[program,Sem.bind,Yl,b,e1,e2];exact h1
theorem aa3{ρ:Operand->HH}(p:∀f,ρ (.func f)=.func (.func f) #[] #[]){o:Oper}(g:oC P S o.op=true):aj P (execOp ρ o)/\Yl P (p8 S) (execOp ρ o):=by
 unfold execOp;cases ah:o.op<;>rw[ah]at g;case move x=>exact⟨trivial,trivial⟩
 case assign x=>exact⟨trivial,trivial⟩
 case pick c a b=>exact⟨iC (CQ _) λ_=>trivial,Yl.bind λ_=>trivial⟩
 case alloc e=>exact⟨ft (Ql _ _ _),fj⟩
 case box e x=>exact⟨ft (aay _ _),fj⟩
 case build t ps=>exact⟨ft (akj _ _),fj⟩
 case buildSlice t n ps=>exact⟨ft (aan _ _ _),fj⟩
 case load t a=>exact⟨ft (aeA _ _),fj⟩
 case store t a x=>exact⟨VO (QW _ _ _),P9⟩
 case nilCheck x=>constructor;(·exact aQ);·dsimp only;split;(·exact wE _);(·exact wE _);(·exact wE _);(·split;(·exact wE _);(·refine Yl.bind λ_=>Yl.bind λ_=>?_;split;(·exact Yl.bind λ_=>trivial);·trivial);·trivial);·trivial
 case binOp op t x y u=>exact⟨ft (iC (Wn _ _ _ _ _ _) λ_=>ZP _ _ _ _),fj⟩
 case unOp op t x=>exact⟨ft (Vf _ _),fj⟩
 case convert s d x=>simp only[oC,Bool.and_eq_true]at g;exact⟨ft (Pv g.1 g.2 _),fj⟩
 case makeSlice t l c=>exact⟨ft (ab2 _ _ _),fj⟩
 case slice t x l h m=>exact⟨ft (ae3 _ _ _ _ _),fj⟩
 case fieldAddr t x f=>exact⟨ft (ab0 _ _ _),fj⟩
 case indexAddr t x i=>exact⟨ft (ahB _ _ _),fj⟩
 case index t x i=>exact⟨ft (NW _ _ _),fj⟩
 case extract x i=>exact⟨ft (aea _ _),fj⟩
 case call c=>obtain⟨v,args,q⟩:=c;cases v with|invoke r n=>cases g|builtin b=>(cases b<;>first|cases g|skip);(·exact⟨ft (abd _ _ _),fj⟩);(·exact⟨ft (Pk _ _ _),fj⟩);(·exact⟨ft (MT _ _ _),fj⟩);·exact⟨ft (XE _ _ _),fj⟩|value x=>cases x with|func f=>(simp only[oC,Bool.and_eq_true]at g;obtain⟨h1,j⟩:=g;(have e:resolve ρ ⟨.value (.func f),args,q⟩ o.type=pure {target:=.fn (.func f) #[],args:=#[]++args.map ρ}:=by simp only[resolve,p,Deferred.ofValue]);dsimp only;rw[e];cases k:P.funcs[f]? with|none=>rw[k]at j;cases j|some fn=>rw[k]at j;simp only[Bool.and_eq_true]at j;exact ai9 h1 k j.1 j.2 _)|_=>cases g
 all_goals cases g
end
end Un
namespace Co
abbrev Rn:=Nat->Nat->Prop
def Rn.le(r s:Rn):Prop:=∀a b,r a b->s a b
def Rn.add(r:Rn)(n m:Nat):Rn:=λa b=>r a b\/(a=n/\b=m)
theorem Rn.le_refl(r:Rn):r.le r:=λ_ _ h=>h
theorem Rn.le_trans{r s t:Rn}(h:r.le s)(k:s.le t):r.le t:=λa b x=>k a b (h a b x)
theorem Rn.oe(r:Rn)(n m:Nat):r.le (r.add n m):=λ_ _ h=>.inl h
structure Cm where
 F:Array Func
 x:Bool
 E:FuncId->Bool
 X:FuncId->Bool
 G:Nat->Bool
 L:FuncId->Nat->Bool
 T:FuncId->Bool
 V:Nat->Bool
def In(K:Cm)(S:FuncId->Bool)(f:FuncId):Prop:=S f=true\/K.T f=true
def Ar(K:Cm)(f:FuncId)(n:Nat):Prop:=K.E f=true/\∀fn,K.F[f]?=some fn->n=fn.params.size
def zo(K:Cm)(f:FuncId)(n:Nat):Bool:=match K.F[f]? with|some fn=>n==fn.params.size|none=>true
theorem PY{K:Cm}{n:Nat}(h:K.E f=true/\zo K f n=true):Ar K f n:=⟨h.1,λfn a=>by have:=h.2;unfold zo at this;rw[a]at this;simpa using this⟩
abbrev aF(P:Program)(F:Array Func):Program:={P with funcs:=F}
abbrev Gk(G a b:Nat):Prop:=G<=a\/b=a
inductive VR(G:Nat)(r:Rn):HH->HH->Prop|bool(b:Bool):VR G r (.bool b) (.bool b)|int(k:IntKind)(n:Int):VR G r (.int k n) (.int k n)|string(s:HM):VR G r (.string s) (.string s)|cK:VR G r (.pointer none) (.pointer none)|ptr(a:Addr)(b:Nat)(h:r a.block b)(hG:Gk G a.block b):VR G r (.pointer (some a)) (.pointer (some {a with block:=b}))|cT(l c:Nat):VR G r (.slice none l c) (.slice none l c)|sl(a:Addr)(b l c:Nat)(h:r a.block b)(hG:Gk G a.block b):VR G r (.slice (some a) l c) (.slice (some {a with block:=b}) l c)|fn(f:Fn):VR G r (.func f #[] #[]) (.func f #[] #[])|nilFunc:VR G r .nilFunc .nilFunc|nilIface:VR G r .nilIface .nilIface|iface(t:TypeId){v v':HH}(h:VR G r v v'):VR G r (.iface t v) (.iface t v')|agg{cs cs':DS}(hs:cs.size=cs'.size)(h:∀(i:Nat)(h1:i<cs.size)(h2:i<cs'.size),VR G r cs[i] cs'[i]):VR G r (.agg cs) (.agg cs')|tuple{cs cs':DS}(hs:cs.size=cs'.size)(h:∀(i:Nat)(h1:i<cs.size)(h2:i<cs'.size),VR G r cs[i] cs'[i]):VR G r (.tuple cs) (.tuple cs')
theorem VR.mono{G:Nat}{r s:Rn}(i:r.le s)(h:VR G r v v'):VR G s v v':=by induction h with|bool b=>exact .bool b|int k n=>exact .int k n|string x=>exact .string x|cK=>exact .cK|ptr a b h g=>exact .ptr a b (i _ _ h) g|cT l c=>exact .cT l c|sl a b l c h g=>exact .sl a b l c (i _ _ h) g|fn f=>exact .fn f|nilFunc=>exact .nilFunc|nilIface=>exact .nilIface|iface t _ d=>exact .iface t d|agg e _ d=>exact .agg e d|tuple e _ d=>exact .tuple e d
def AR(G:Nat)(r:Rn)(cs cs':DS):Prop:=cs.size=cs'.size/\∀(i:Nat)(h1:i<cs.size)(a:i<cs'.size),VR G r cs[i] cs'[i]
theorem AR.mono{G:Nat}{r s:Rn}(b:r.le s)(h:AR G r cs cs'):AR G s cs cs':=⟨h.1,λi h1 a=>(h.2 i h1 a).mono b⟩
theorem AR.get?{G:Nat}{r:Rn}(h:AR G r cs cs')(b:cs[i]?=some v):∃v',cs'[i]?=some v'/\VR G r v v':=by obtain⟨h1,rfl⟩:=J2.1 b;(have a:i<cs'.size:=by rw[<-h.1];exact h1);exact⟨cs'[i],Array.getElem?_eq_getElem a,h.2 i h1 a⟩
theorem AR.none?{G:Nat}{r:Rn}(h:AR G r cs cs')(a:cs[i]?=none):cs'[i]?=none:=by rw[Array.getElem?_eq_none_iff]at a⊢;rw[<-h.1];exact a
theorem AR.set{G:Nat}{r:Rn}(h:AR G r cs cs')(b:VR G r v v')(i:Nat):AR G r (cs.setIfInBounds i v) (cs'.setIfInBounds i v'):=by refine⟨by simpa using h.1,λj h1 a=>?_⟩;rw[Array.size_setIfInBounds]at h1 a;rw[Array.getElem_setIfInBounds h1,Array.getElem_setIfInBounds a];split;(·exact b);·exact h.2 j h1 a
theorem AR.push{G:Nat}{r:Rn}(h:AR G r cs cs')(b:VR G r v v'):AR G r (cs.push v) (cs'.push v'):=by refine⟨by simpa using h.1,λj h1 c=>?_⟩;rw[Array.getElem_push,Array.getElem_push];by_cases hj:j<cs.size;(·(have a:j<cs'.size:=by rw[<-h.1];exact hj);rw[dif_pos hj,dif_pos a];exact h.2 j hj a);·(have a:¬j<cs'.size:=by rw[<-h.1];exact hj);rw[dif_neg hj,dif_neg a];exact b
theorem AR.nil(G:Nat)(r:Rn):AR G r #[] #[]:=⟨rfl,λi h1 _=>absurd h1 HY⟩
def TR(G:Nat)(r:Rn)(L:Nat->Bool)(cs cs':DS):Prop:=cs.size=cs'.size/\∀(i:Nat)(h1:i<cs.size)(a:i<cs'.size),L i=true->VR G r cs[i] cs'[i]
theorem AR.tr{G:Nat}{r:Rn}(h:AR G r cs cs')(L:Nat->Bool):TR G r L cs cs':=⟨h.1,λi h1 a _=>h.2 i h1 a⟩
theorem TR.mono{G:Nat}{r s:Rn}(b:r.le s)(h:TR G r L cs cs'):TR G s L cs cs':=⟨h.1,λi h1 c a=>(h.2 i h1 c a).mono b⟩
theorem TR.set{G:Nat}{r:Rn}(h:TR G r L cs cs')(c:VR G r v v')(i:Nat):TR G r L (cs.setIfInBounds i v) (cs'.setIfInBounds i v'):=by refine⟨by simpa using h.1,λj h1 a b=>?_⟩;rw[Array.size_setIfInBounds]at h1 a;rw[Array.getElem_setIfInBounds h1,Array.getElem_setIfInBounds a];split;(·exact c);·exact h.2 j h1 a b
theorem TR.cases{G:Nat}{r:Rn}(h:TR G r L cs cs')(i:Nat)(b:L i=true):(cs[i]?=none/\cs'[i]?=none)\/∃v v',cs[i]?=some v/\cs'[i]?=some v'/\VR G r v v':=by by_cases hi:i<cs.size;(·(have a:i<cs'.size:=by rw[<-h.1];exact hi);exact .inr ⟨_,_,Array.getElem?_eq_getElem hi,Array.getElem?_eq_getElem a,h.2 i hi a b⟩);·exact .inl ⟨Array.getElem?_eq_none HU,Array.getElem?_eq_none (by rw[<-h.1];omega)⟩
theorem AR.append{G:Nat}{r:Rn}{b b':DS}(h:AR G r a a')(k:AR G r b b'):AR G r (a++b) (a'++b'):=by refine⟨by simp[h.1,k.1],λj h1 f=>?_⟩;by_cases hj:j<a.size;(·(have c:j<a'.size:=by rw[<-h.1];exact hj);rw[Array.getElem_append_left hj,Array.getElem_append_left c];exact h.2 j hj c);·(have c:¬j<a'.size:=by rw[<-h.1];exact hj);rw[Array.getElem_append_right HU,Array.getElem_append_right HU];(have e:j-a'.size=j-a.size:=by rw[h.1]);rw[Array.size_append]at h1;have d:j-a.size<b.size:=HU;have:=k.2 (j-a.size) d (by rw[<-k.1];exact d);simpa[e]using this
theorem AR.extract{G:Nat}{r:Rn}(h:AR G r a a')(i j:Nat):AR G r (a.extract i j) (a'.extract i j):=by refine⟨by simp[h.1],λk h1 b=>?_⟩;rw[Array.getElem_extract,Array.getElem_extract];exact h.2 _ _ _
theorem VR.cells{G:Nat}{r:Rn}(h:VR G r v v'):AR G r v.cells v'.cells:=by have one:∀{v v':HH},VR G r v v'->AR G r #[v] #[v']:=λh=>⟨rfl,λi h1 g=>by(have:i=0:=by simpa using h1);subst this;exact h⟩;cases h with|agg e h=>exact⟨e,h⟩|bool b=>exact one (.bool b)|int k n=>exact one (.int k n)|string x=>exact one (.string x)|cK=>exact one .cK|ptr a b h d=>exact one (.ptr a b h d)|cT l c=>exact one (.cT l c)|sl a b l c h d=>exact one (.sl a b l c h d)|fn f=>exact one (.fn f)|nilFunc=>exact one .nilFunc|nilIface=>exact one .nilIface|iface t h=>exact one (.iface t h)|tuple e h=>exact one (.tuple e h)
inductive cW:HH->Prop|bool(b:Bool):cW (.bool b)|int(k:IntKind)(n:Int):cW (.int k n)|string(s:HM):cW (.string s)|cK:cW (.pointer none)|cT(l c:Nat):cW (.slice none l c)|fn(f:Fn):cW (.func f #[] #[])|nilFunc:cW .nilFunc|nilIface:cW .nilIface|iface(t:TypeId){v:HH}(h:cW v):cW (.iface t v)|agg{cs:DS}(h:∀(i:Nat)(h1:i<cs.size),cW cs[i]):cW (.agg cs)|tuple{cs:DS}(h:∀(i:Nat)(h1:i<cs.size),cW cs[i]):cW (.tuple cs)
theorem cW.vr(h:cW v)(G:Nat)(r:Rn):VR G r v v:=by induction h with|bool b=>exact .bool b|int k n=>exact .int k n|string x=>exact .string x|cK=>exact .cK|cT l c=>exact .cT l c|fn f=>exact .fn f|nilFunc=>exact .nilFunc|nilIface=>exact .nilIface|iface t _ a=>exact .iface t a|agg _ a=>exact .agg rfl λi h1 _=>a i h1|tuple _ a=>exact .tuple rfl λi h1 _=>a i h1
theorem run_bind(f:α->Sem β):∀(s:Sem α)(w:HA),(s.bind f).run P w=match s.run P w with|.ok a w'=>(f a).run P w'|.halt h w'=>.halt h w':=by intro s;induction s with|pure a|halt h=>intro w;rfl|load m a k b=>(intro w;simp only[Sem.bind,Sem.run];cases w.cell? a with|some v=>exact b v w|none=>cases w.farLoad P a (m==.atomic)with|error h=>rfl|ok x=>exact b _ w)|store m a v k b=>(intro w;(have i:∀(d:(∀x,v≠.agg x)/\∀x,v≠.tuple x),((Sem.store m a v k).bind f).run P w=match(Sem.store m a v k).run P w with|.ok a w'=>(f a).run P w'|.halt h w'=>.halt h w':=by intro d;(have e:∀{g:Type}(k:Sem g),(Sem.store m a v k).run P w=match w.cell? a with|some _=>if w.frozen? a then .halt (.unsupported (.unsafePointer "a write to bytes that a string shares")) w else k.run P (w.setCell a v)|none=>match w.farStore P a v (m==.atomic)with|.ok (w,_)=>k.run P w|.error h=>.halt h w:=by intro g k;cases v with|agg x=>exact absurd rfl (d.1 x)|tuple x=>exact absurd rfl (d.2 x)|_=>rfl);show(Sem.store m a v (k.bind f)).run P w=_;rw[e,e];cases w.cell? a with|some _=>dsimp only;split;(·rfl);·exact b _|none=>dsimp only;cases w.farStore P a v (m==.atomic)with|error h=>rfl|ok x=>exact b _);cases v with|agg x|tuple x=>rfl|_=>exact i ⟨(λx h=>by cases h),(λx h=>by cases h)⟩)|new o k b|shape a k b|frozen a k b|sys c k b|program k b=>intro w;exact b _ _|freeze a n k b|mark m k b=>intro w;exact b _|getObj a k b=>(intro w;simp only[Sem.bind,Sem.run];cases w.heap[a]? with|none=>rfl|some o=>cases o<;>first|rfl|exact b _ _)|setObj a o k b=>(intro w;simp only[Sem.bind,Sem.run];cases w.heap[a]? with|none=>rfl|some o=>cases o<;>first|rfl|exact b _)|choose q k b=>intro w;simp only[Sem.bind,Sem.run];split;(·exact b _ _);·exact b _ _
def aT(w:HA):Prop:=(∀(k:Nat)(c:DS)(e:TypeId),w.heap[k]?≠some (Obj.pending c e))/\∃(c:DS)(e:TypeId)(fz:Nat×Nat),w.heap[0]?=some (Obj.cells c e fz)
def Plain:Halt->Prop|.panic _|.stuck _=>True|.unsupported (.initOrder _)=>False|.unsupported _=>True|_=>False
def dm(P:Program)(s:Sem α):Prop:=∀w,aT w->match s.run P w with|.ok _ w'=>aT w'|.halt h w'=>Plain h/\aT w'
def dY(P:Program)(s:Sem α):Prop:=(∀w a w',s.run P w≠.ok a w')/\dm P s
theorem dm.bind{s:Sem α}{f:α->Sem β}(h:dm P s)(k:∀a,dm P (f a)):dm P (s.bind f):=by intro w c;rw[run_bind];have h1:=h w c;cases b:s.run P w with|ok a w'=>rw[b]at h1;exact k a w' h1|halt x w'=>rw[b]at h1;exact h1
theorem dY.bind{s:Sem α}{f:α->Sem β}(h:dm P s)(k:∀a,dY P (f a)):dY P (s.bind f):=by refine⟨λw b w' e=>?_,h.bind λa=>(k a).2⟩;rw[run_bind]at e;split at e;(·exact(k _).1 _ _ _ e);·cases e
theorem dY.left{s:Sem α}(f:α->Sem β)(h:dY P s):dY P (s.bind f):=by refine⟨λw b w' e=>?_,λw d=>?_⟩;(·rw[run_bind]at e;split at e;(·rename_i a1 w1 e1;exact h.1 _ _ _ e1);·cases e);·rw[run_bind];have h1:=h.2 w d;cases c:s.run P w with|ok a w'=>exact absurd c (h.1 _ _ _)|halt x w'=>rw[c]at h1;exact h1
def CH(K:Cm)(w:HA):Prop:=∀g,K.V g=true->w.heap[g]?=some (.cells #[] 0 (0,0))
def sA(P:Program)(K:Cm)(s:Sem α):Prop:=∀w,CH K w->match s.run P w with|.ok _ _=>False|.halt h w'=>Plain h/\w'=w
theorem sA.left{K:Cm}{s:Sem α}(f:α->Sem β)(h:sA P K s):sA P K (s.bind f):=by intro w c;have h1:=h w c;rw[run_bind];cases b:s.run P w with|ok a w'=>rw[b]at h1;exact h1.elim|halt x w'=>rw[b]at h1;exact h1
def DR(G:Nat)(r:Rn)(a a':Addr):Prop:=∃b,r a.block b/\Gk G a.block b/\a'={a with block:=b}
def iS(P:Program)(t:TypeId):Prop:=∀d off x,plainCell P d t off=some x->(∃b,x=.bool b)\/∃k n,x=.int k n
inductive SR(P:Program)(K:Cm){α β:Type}(A:Rn->α->β->Prop):Rn->Sem α->Sem β->Prop|pure{r:Rn}{a:α}{b:β}(h:A r a b):SR P K A r (.pure a) (.pure b)|dead{r:Rn}{s:Sem α}(h:dY P s)(s':Sem β):SR P K A r s s'|po{r:Rn}{s:Sem α}(h:sA P K s)(s':Sem β):SR P K A r s s'|load{r:Rn}(a:Addr)(b:Nat){k:HH->Sem α}{k':HH->Sem β}(h:r a.block b)(hk:∀v v',VR P.globals.size r v v'->SR P K A r (k v) (k' v')):SR P K A r (.load .plain a k) (.load .plain {a with block:=b} k')|store{r:Rn}(a:Addr)(b:Nat){v v':HH}{k:Sem α}{k':Sem β}(h:r a.block b)(hv:VR P.globals.size r v v')(hk:SR P K A r k k'):SR P K A r (.store .plain a v k) (.store .plain {a with block:=b} v' k')|new{r:Rn}(cs cs':DS)(e:TypeId)(fz:Nat×Nat){k:Nat->Sem α}{k':Nat->Sem β}(h:AR P.globals.size r cs cs')(hk:∀n n',P.globals.size<=n->SR P K A (r.add n n') (k n) (k' n')):SR P K A r (.new (.cells cs e fz) k) (.new (.cells cs' e fz) k')|shape{r:Rn}(a b:Nat){k:Option (TypeId×Nat)->Sem α}{k':Option (TypeId×Nat)->Sem β}(h:r a b)(hk:∀x,SR P K A r (k x) (k' x)):SR P K A r (.shape a k) (.shape b k')|getObj{r:Rn}(a b:Nat){k:Obj->Sem α}{k':Obj->Sem β}(h:r a b)(hk:∀x x' lost,DR P.globals.size r x x'->SR P K A r (k (.number x lost)) (k' (.number x' lost)))(hv:∀x x' t,DR P.globals.size r x x'->iS P t->SR P K A r (k (.view x t)) (k' (.view x' t)))(hi:∀s n,SR P K A r (k (.stringIter s n)) (k' (.stringIter s n))):SR P K A r (.getObj a k) (.getObj b k')|iter{r:Rn}(s:HM)(p:Nat){k:Nat->Sem α}{k':Nat->Sem β}(hk:∀n n',P.globals.size<=n->SR P K A (r.add n n') (k n) (k' n')):SR P K A r (.new (.stringIter s p) k) (.new (.stringIter s p) k')|setIter{r:Rn}(hx:K.x=true)(a b:Nat)(s:HM)(p:Nat){k:Sem α}{k':Sem β}(h:r a b)(hk:SR P K A r k k'):SR P K A r (.setObj a (.stringIter s p) k) (.setObj b (.stringIter s p) k')|number{r:Rn}(x x':Addr)(lost:Bool){k:Nat->Sem α}{k':Nat->Sem β}(h:DR P.globals.size r x x')(hk:∀n n',P.globals.size<=n->SR P K A (r.add n n') (k n) (k' n')):SR P K A r (.new (.number x lost) k) (.new (.number x' lost) k')|view{r:Rn}(x x':Addr)(t:TypeId){k:Nat->Sem α}{k':Nat->Sem β}(h:DR P.globals.size r x x')(hn:iS P t)(hk:∀n n',P.globals.size<=n->SR P K A (r.add n n') (k n) (k' n')):SR P K A r (.new (.view x t) k) (.new (.view x' t) k')|freeze{r:Rn}(a:Addr)(b n:Nat){k:Sem α}{k':Sem β}(h:r a.block b)(hk:SR P K A r k k'):SR P K A r (.freeze a n k) (.freeze {a with block:=b} n k')|choose{r:Rn}(q:Question){k:Nat->Sem α}{k':Nat->Sem β}(hk:∀n,SR P K A r (k n) (k' n)):SR P K A r (.choose q k) (.choose q k')|program{r:Rn}{k:Program->Sem α}{k':Program->Sem β}(hk:SR P K A r (k P) (k' (aF P K.F))):SR P K A r (.program k) (.program k')|frozen{r:Rn}(hx:K.x=true)(a:Addr)(b:Nat){k:Bool->Sem α}{k':Bool->Sem β}(h:r a.block b)(hk:∀x,SR P K A r (k x) (k' x)):SR P K A r (.frozen a k) (.frozen {a with block:=b} k')|test{r:Rn}{a b a' b':Addr}(ha:DR P.globals.size r a a')(hb:DR P.globals.size r b b'){k:Bool->Sem α}{k':Bool->Sem β}(hk:∀x,SR P K A r (k x) (k' x)):SR P K A r (k (a==b)) (k' (a'==b'))|pU{r:Rn}{a b a' b':Nat}(ha:r a a')(hb:r b b'){k:Bool->Sem α}{k':Bool->Sem β}(hk:∀x,SR P K A r (k x) (k' x)):SR P K A r (k (a==b)) (k' (a'==b'))|extern{r:Rn}(f:FuncId){k:Sem α}{k':Sem β}(hk:SR P K A r k k'):SR P K A r (.mark (.extern f) k) (.mark (.extern f) k')|noRoom{r:Rn}{k:Sem α}{k':Sem β}(hk:SR P K A r k k'):SR P K A r (.mark .noRoom k) (.mark .noRoom k')
theorem SR.bind{K:Cm}{w z:Type}{A:Rn->α->β->Prop}{B:Rn->w->z->Prop}{f:α->Sem w}{y:β->Sem z}{r:Rn}{s:Sem α}{s':Sem β}(h:SR P K A r s s'):(∀r1 a b,r.le r1->A r1 a b->SR P K B r1 (f a) (y b))->SR P K B r (s.bind f) (s'.bind y):=by induction h with|pure h=>exactλc=>c _ _ _ (Rn.le_refl _) h|dead h s'=>exactλ_=>.dead (h.left _) _|po h s'=>exactλ_=>.po (h.left _) _|load a b h _ d=>exactλc=>.load a b h λv v' u=>d v v' u c|store a b h u _ d=>exactλc=>.store a b h u (d c)|new cs cs' e fz h _ d=>exactλc=>.new cs cs' e fz h λn i g=>d n i g λr1 a b l=>c r1 a b (Rn.le_trans (Rn.oe _ _ _) l)|number x x' lost h _ d=>exactλc=>.number x x' lost h λn i g=>d n i g λr1 a b l=>c r1 a b (Rn.le_trans (Rn.oe _ _ _) l)|view x x' t h g _ d=>exactλc=>.view x x' t h g λn i g=>d n i g λr1 a b l=>c r1 a b (Rn.le_trans (Rn.oe _ _ _) l)|getObj a b h _ _ _ d C D=>exactλc=>.getObj a b h (λx x' lost j=>d x x' lost j c) (λx x' t j g=>C x x' t j g c) λs n=>D s n c|iter s p _ d=>exactλc=>.iter s p λn i g=>d n i g λr1 a b l=>c r1 a b (Rn.le_trans (Rn.oe _ _ _) l)|setIter j a b s p h _ d=>exactλc=>.setIter j a b s p h (d c)|shape a b h _ d=>exactλc=>.shape a b h λs=>d s c|freeze a b n h _ d=>exactλc=>.freeze a b n h (d c)|choose q _ d=>exactλc=>.choose q λn=>d n c|program _ d=>exactλc=>.program (d c)|frozen j a b h _ d=>exactλc=>.frozen j a b h λx=>d x c|test o m _ d=>exactλc=>.test (k:=λx=>Sem.bind _ _) (k':=λx=>Sem.bind _ _) o m λx=>d x c|pU o m _ d=>exactλc=>.pU (k:=λx=>Sem.bind _ _) (k':=λx=>Sem.bind _ _) o m λx=>d x c|extern f _ d=>exactλc=>.extern f (d c)|noRoom _ d=>exactλc=>.noRoom (d c)
end Co
