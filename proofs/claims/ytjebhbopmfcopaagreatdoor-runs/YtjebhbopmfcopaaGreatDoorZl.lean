/- Runs, a part. -/
import Derived.Test.YtjebhbopmfcopaaGreatDoorZk
set_option maxRecDepth 100000
namespace Go.Proofs.YtjebhbopmfcopaaGreatDoor
open Go.Proofs Tryz
noncomputable section
variable{ops:Array Oper}{g:Dm}{i:Nat}{V V':Nat->Fi}{o:Oper}
namespace Km
open Conc Kw Kl Ph
set_option maxRecDepth 100000
noncomputable def XT:Code:=match f35.body with|some (.seq _ t)=>t|_=>.skip
noncomputable def E0(a b c:Fi)(cs:B8):Dm:=R (Frame.enter prog 35 #[a,b,c] .normal) cs
noncomputable def B0(a b c:Fi)(cs:B8):Dm:=tl 5 20 (E0 a b c cs)
theorem Ip(a b c:Fi)(cs:B8):semAt (B0 a b c cs)=some (do pure (.value (<-Instr.box 45 c))):=by kernel_rfl
noncomputable def B1(a b c:Fi)(cs:B8)(p:Fi):Dm:=tl 7 20 (fin (B0 a b c cs) p)
theorem Gg(a b c:Fi)(cs:B8)(p:Fi):semAt (B1 a b c cs p)=some (do pure (.value (<-Instr.alloc 39 true (.tuple #[])))):=by kernel_rfl
noncomputable def B2(a b c p5 p7:Fi)(cs:B8):Dm:=R ⟨35,#[a,b,c,undef,undef,p5,.slice none 0 0,p7,undef,undef,undef,undef,undef,undef,undef,undef,undef,undef,undef,undef,undef,undef,undef,undef,undef,undef,undef,undef,undef,undef,undef,undef,undef,undef,undef,undef,undef,undef,undef,undef,undef,undef,undef],[.code XT],[],.run,.normal,none⟩ cs
theorem Ws(a b c p5 p7:Fi)(cs:B8):th 1 (fin (B1 a b c cs p5) p7)=B2 a b c p5 p7 cs:=by kernel_rfl
noncomputable def uQ:Code:=match f35.body with|some (.seq _ (.seq _ (.seq _ t)))=>t|_=>.skip
set_option maxRecDepth 100000
def xo(g:Dm)(ops:Array Oper)(V:Nat->Fi)(i:Nat):Option (Sem Next):=(ops[i]?).map λo=>execOp (bG g ops V).frame.eval o
theorem ym{b:Array Operand}(e:sound ops=true)(h:(ops[i]?).map (·.op.operands)=some b)(d:∀x∈b,(bG g ops V).frame.eval x=(bG g ops V').frame.eval x):xo g ops V i=xo g ops V' i:=by unfold xo;cases a:ops[i]? with|none=>rfl|some o=>rw[a]at h;simp only[Option.map_some,Option.some.injEq]at h;simp only[Option.map_some];rw[execOp_congr o (ri e a).Dv λx c=>d x (h▸c)]
theorem Ax{D:Array Bool}{rest:List Nat}(f:da g=some ops)(c:g.frame.kind=.normal)(d:sound ops=true)(a:ops[i]?=some o)(b:∀e∈o.after,Region.binds .any e=true->D.getD e.on false=true):semAt (stA g ops V D (i::rest))=xo g ops V i:=by rw[jC f (by rw[c];simp) d a b];unfold xo;rw[a];rfl
def dH(ops:Array Oper)(i j:Nat):Bool:=((ops[i]?).map λo=>o.after.any λe=>Region.binds .any e&&e.on==j)==some true
theorem zc{D:Array Bool}{j:Nat}(h:dH ops i j=true)(b:ops[i]?=some o)(c:∀e∈o.after,Region.binds .any e=true->D.getD e.on false=true):D.getD j false=true:=by unfold dH at h;rw[b]at h;simp only[Option.map_some,beq_iff_eq,Option.some.injEq]at h;obtain⟨e,d,a⟩:=Array.any_eq_true'.1 h;simp only[Bool.and_eq_true,beq_iff_eq]at a;have:=c e d a.1;rw[a.2]at this;exact this
structure Tw where
 ga:Option Addr
 an:Nat
 ac:Nat
 ra:Option Addr
 N:Nat
 rc:Nat
 s:Fi
 B5:Nat
 B7:Nat
 ix:Option Addr:=none
 e:Fi:=undef
 cs:B8
abbrev Tw.a(q:Tw):Fi:=.slice q.ga q.an q.ac
abbrev Tw.b(q:Tw):Fi:=.slice q.ra q.N q.rc
abbrev Tw.p5(q:Tw):Fi:=.pointer (some ⟨q.B5,0,none⟩)
abbrev Tw.p7(q:Tw):Fi:=.pointer (some ⟨q.B7,0,none⟩)
abbrev Tw.px(q:Tw):Fi:=.pointer q.ix
abbrev Tw.T(q:Tw):Fi:=.tuple #[q.px,q.e]
noncomputable def D0(q:Tw):Dm:=tl 14 20 (B2 q.a q.b q.s q.p5 q.p7 q.cs)
theorem RR(q:Tw):bQ prog (D0 q)=some (R (Frame.enter prog 26 #[q.a] .normal) ((D0 q).frame::q.cs)):=by kernel_rfl
theorem YS(q:Tw):D0 q=R (D0 q).frame q.cs:=by kernel_rfl
noncomputable def E2:Code:=match f35.body with|some (.seq _ (.seq _ (.seq r _)))=>r|_=>.skip
noncomputable def cq:Array Oper:=match E2 with|.region _ ops _=>ops|_=>#[]
noncomputable def D1(q:Tw):Dm:=R ⟨35,#[q.a,q.b,q.s,undef,undef,q.p5,.slice none 0 0,q.p7,q.px,q.e,undef,undef,q.T,q.a,q.T,q.px,q.e,undef,undef,undef,undef,undef,undef,undef,undef,undef,undef,undef,undef,undef,undef,undef,undef,undef,undef,undef,undef,undef,undef,undef,undef,undef,undef],[.code E2,.code uQ],[],.run,.normal,none⟩ q.cs
theorem aeN(q:Tw):th 7 (fin (D0 q) q.T)=D1 q:=by kernel_rfl
theorem yy(q:Tw):da (D1 q)=some cq:=by kernel_rfl
theorem ER(q:Tw):(D1 q).frame.kind=.normal:=by kernel_rfl
theorem Aa:cq.size=12:=by kernel_rfl
theorem sC:sound cq=true:=by kernel_rfl
noncomputable def x2(q:Tw)(V:Nat->Fi)(i:Nat):Option (Sem Next):=xo (D1 q) cq V i
theorem adg(q:Tw)(V:Nat->Fi):(x2 q V 0).map (calm? prog)=some (some (.value q.a)):=by kernel_rfl
theorem ah2(q:Tw)(V:Nat->Fi):(x2 q V 1).map (calm? prog)=some (some (.value q.px)):=by kernel_rfl
theorem aeE(q:Tw)(V:Nat->Fi):(x2 q V 2).map (calm? prog)=some (some (.value q.b)):=by kernel_rfl
theorem Sf(q:Tw)(V:Nat->Fi):(x2 q V 3).map (calm? prog)=some (some (.value q.p5)):=by kernel_rfl
theorem adm(q:Tw)(V:Nat->Fi):x2 q V 4=some (do pure (.value (<-Instr.loadAt 3 (V 3)))):=by kernel_rfl
theorem MP(q:Tw)(V:Nat->Fi):(x2 q V 5).map (calm? prog)=some (some (.value q.b)):=by kernel_rfl
theorem BF(q:Tw){a:Array Operand}(h:(cq[i]?).map (·.op.operands)=some a)(b:∀x∈a,(bG (D1 q) cq V).frame.eval x=(bG (D1 q) cq V').frame.eval x):x2 q V i=x2 q V' i:=ym sC h b
theorem TE:(cq[6]?).map (·.op.operands)=some #[.tmp 22]:=by kernel_rfl
theorem Sz:(cq[8]?).map (·.op.operands)=some #[.tmp 17,.tmp 18,.tmp 19,.tmp 21,.tmp 24]:=by kernel_rfl
theorem EQ(q:Tw)(V:Nat->Fi):(bG (D1 q) cq V).frame.eval (.tmp 22)=V 5:=by kernel_rfl
theorem F3(q:Tw)(V:Nat->Fi):(bG (D1 q) cq V).frame.eval (.tmp 17)=V 0:=by kernel_rfl
theorem Hu(q:Tw)(V:Nat->Fi):(bG (D1 q) cq V).frame.eval (.tmp 18)=V 1:=by kernel_rfl
theorem C8(q:Tw)(V:Nat->Fi):(bG (D1 q) cq V).frame.eval (.tmp 19)=V 2:=by kernel_rfl
theorem E'(q:Tw)(V:Nat->Fi):(bG (D1 q) cq V).frame.eval (.tmp 21)=V 4:=by kernel_rfl
theorem CS(q:Tw)(V:Nat->Fi):(bG (D1 q) cq V).frame.eval (.tmp 24)=V 7:=by kernel_rfl
theorem UN(q:Tw)(V:Nat->Fi):x2 q V 6=x2 q (λ_=>V 5) 6:=BF q TE λx a=>by simp only[List.mem_toArray,List.mem_cons,List.not_mem_nil,or_false]at a;subst a;rw[EQ,EQ]
theorem aau(q:Tw):(x2 q (λ_=>q.b) 6).map (calm? prog)=some (some (.value (.int .i64 q.N))):=by kernel_rfl
theorem aaW(q:Tw)(V:Nat->Fi):x2 q V 7=some (do pure (.value (<-Instr.makeSlice 46 (V 6) (V 6)))):=by kernel_rfl
def pk(v0 v1 b a v7:Fi)(j:Nat):Fi:=match j with|0=>v0|1=>v1|2=>b|4=>a|_=>v7
theorem LK(q:Tw)(V:Nat->Fi):x2 q V 8=x2 q (pk (V 0) (V 1) (V 2) (V 4) (V 7)) 8:=BF q Sz λx a=>by
 simp only[List.mem_toArray,List.mem_cons,List.not_mem_nil,or_false]at a;rcases a with rfl|rfl|rfl|rfl|rfl;·rw[F3,F3];rfl
 ·rw[Hu,Hu];rfl
 ·rw[C8,C8];rfl
 ·rw[E',E'];rfl
 ·rw[CS,CS];rfl
def fA(q:Tw)(bd:Int)(g:Nat):B6:=#[q.a,q.px,q.b,.int .i64 bd,.slice (some ⟨g,0,none⟩) q.N q.N,.int .i32 0,.int .u32 0,.int .i64 0,.int .i64 0,.int .i64 0,.int .i64 0,.int .i64 0,.int .i64 0,.int .i64 0,.int .i64 0,.int .i64 0,.int .i64 0,.int .i64 0,.int .i64 0]
theorem VU(q:Tw)(bd:Int)(g:Nat):(x2 q (pk q.a q.px q.b (.int .i64 bd) (.slice (some ⟨g,0,none⟩) q.N q.N)) 8).map (calm? prog)=some (some (.value (.agg (fA q bd g)))):=by kernel_rfl
theorem X5(q:Tw)(V:Nat->Fi):x2 q V 9=some (do pure (.value (<-Instr.box 138 (V 8)))):=by kernel_rfl
theorem Yo(q:Tw)(V:Nat->Fi):x2 q V 10=some (do pure (.value (<-Instr.alloc 129 true (.tuple #[])))):=by kernel_rfl
theorem NA(q:Tw)(V:Nat->Fi):x2 q V 11=some (do Instr.storeAt 129 (V 10) (V 9);pure .skip):=by kernel_rfl
theorem ab6:dH cq 4 3=true:=by kernel_rfl
theorem Wi:dH cq 6 5=true:=by kernel_rfl
theorem YT:dH cq 7 6=true:=by kernel_rfl
theorem YJ:dH cq 8 0=true:=by kernel_rfl
theorem Ts:dH cq 8 1=true:=by kernel_rfl
theorem aaw:dH cq 8 2=true:=by kernel_rfl
theorem aeL:dH cq 8 4=true:=by kernel_rfl
theorem FF:dH cq 8 7=true:=by kernel_rfl
theorem ID:dH cq 9 8=true:=by kernel_rfl
theorem NV:dH cq 11 9=true:=by kernel_rfl
theorem Ut:dH cq 11 10=true:=by kernel_rfl
noncomputable def D2(q:Tw)(V:Nat->Fi):Dm:=R ⟨35,#[q.a,q.b,q.s,undef,undef,q.p5,.slice none 0 0,q.p7,q.px,q.e,V 10,undef,q.T,q.a,q.T,q.px,q.e,V 0,V 1,V 2,V 3,V 4,V 5,V 6,V 7,V 8,V 9,undef,undef,undef,undef,undef,undef,undef,undef,undef,undef,undef,undef,undef,undef,undef,undef],[.code uQ],[],.run,.normal,none⟩ q.cs
theorem J5(q:Tw)(V:Nat->Fi):bG (D1 q) cq V=D2 q V:=by kernel_rfl
set_option maxRecDepth 100000
structure Ru where
 F:Fi
 Q:Fi
 b:Int
 k:Int
 p5:Nat
 p7:Nat
 cv:Fi
 e1:Int
 n1:Int
 rv:Fi
 e2:Int
 n2:Int
 eL:Fi
 cn:B6
 dD:Nat
 tx:Fi
 te:Fi
 cs:B8
abbrev Ru.S(q:Ru):Fi:=.agg #[.int .i64 q.b,.int .i64 q.k]
abbrev Ru.P5(q:Ru):Fi:=.pointer (some ⟨q.p5,0,none⟩)
abbrev Ru.P7(q:Ru):Fi:=.pointer (some ⟨q.p7,0,none⟩)
abbrev Ru.JN(q:Ru):Fi:=.pointer (some ⟨q.dD,0,none⟩)
noncomputable def tr(d n:Nat)(g:Dm):Dm:=aK prog 17 d n g
noncomputable def RE(q:Ru):Dm:=R (Frame.enter prog 17 #[q.F,q.Q,q.S] .normal) q.cs
noncomputable def R0(q:Ru):Dm:=tr 5 20 (RE q)
theorem uD(q:Ru):semAt (R0 q)=some (do pure (.value (<-Instr.box 45 q.S))):=by kernel_rfl
noncomputable def R1(q:Ru):Dm:=tr 7 20 (fin (R0 q) q.P5)
theorem uS(q:Ru):semAt (R1 q)=some (do pure (.value (<-Instr.alloc 39 true (.tuple #[])))):=by kernel_rfl
noncomputable def R2(q:Ru):Dm:=tr 18 20 (fin (R1 q) q.P7)
theorem wD(q:Ru):semAt (R2 q)=some (do pure (.value (<-Instr.loadAt 45 q.P5))):=by kernel_rfl
noncomputable def R3(q:Ru):Dm:=tr 19 20 (fin (R2 q) q.S)
theorem X8(q:Ru):bQ prog (R3 q)=some (R (Frame.enter prog 32 #[q.S] .normal) ((R3 q).frame::q.cs)):=by kernel_rfl
theorem PR(q:Ru):R3 q=R (R3 q).frame q.cs:=by kernel_rfl
noncomputable def iV:B6:=#[.int .i64 0,.int .i64 0,.int .i64 0,.int .i64 0,.int .i64 0,.int .i64 0,.int .i64 0,.int .i64 0,.int .i64 0,.int .i64 0,.int .i64 0]
noncomputable def M0(q:Ru):Dm:=aM prog 40 (fin (R3 q) (.bool false))
theorem ag3(q:Ru):semAt (M0 q)=some (do Instr.storeAt 39 q.P7 (.agg iV);pure .skip):=by kernel_rfl
noncomputable def M1(q:Ru):Dm:=aM prog 4 (fin (M0 q) undef)
noncomputable def cY(g:Dm):B6:=g.frame.tmps
noncomputable def lm(g:Dm):List Item:=g.frame.todo
theorem acU(q:Ru):M1 q=R ⟨17,cY (M1 q),lm (M1 q),[],.returning,.normal,none⟩ q.cs:=by kernel_rfl
theorem aax(q:Ru):(cY (M1 q)).getD 6 undef=.string ⟨#[]⟩/\(cY (M1 q)).getD 7 undef=q.P7/\(cY (M1 q)).getD 8 undef=.int .i64 1/\(cY (M1 q)).getD 9 undef=.int .i64 0:=⟨by kernel_rfl,by kernel_rfl,by kernel_rfl,by kernel_rfl⟩
noncomputable def R4(q:Ru):Dm:=tr 24 40 (fin (R3 q) (.bool true))
theorem Mb(q:Ru):bQ prog (R4 q)=some (R (Frame.enter prog 33 #[q.F] .normal) ((R4 q).frame::q.cs)):=by kernel_rfl
theorem N6(q:Ru):R4 q=R (R4 q).frame q.cs:=by kernel_rfl
noncomputable def K4(q:Ru):Dm:=tr 29 40 (fin (R4 q) (.tuple #[q.cv,.int .i64 q.e1,.int .i64 q.n1]))
theorem Ff(q:Ru):semAt (K4 q)=some (do pure (.value (<-Go.binOp .neq 40 (.int .i64 q.e1) (.int .i64 0)))):=by kernel_rfl
noncomputable def M2(q:Ru):Dm:=aM prog 40 (fin (K4 q) (.bool true))
theorem xT(q:Ru):semAt (M2 q)=some (do Instr.storeAt 39 q.P7 (.agg iV);pure .skip):=by kernel_rfl
noncomputable def M3(q:Ru):Dm:=aM prog 4 (fin (M2 q) undef)
theorem ZA(q:Ru):M3 q=R ⟨17,cY (M3 q),lm (M3 q),[],.returning,.normal,none⟩ q.cs:=by kernel_rfl
theorem ahQ(q:Ru):(cY (M3 q)).getD 6 undef=.string ⟨#[]⟩/\(cY (M3 q)).getD 7 undef=q.P7/\(cY (M3 q)).getD 8 undef=.int .i64 q.e1/\(cY (M3 q)).getD 9 undef=.int .i64 q.n1:=⟨by kernel_rfl,by kernel_rfl,by kernel_rfl,by kernel_rfl⟩
noncomputable def R5(q:Ru):Dm:=tr 35 40 (fin (K4 q) (.bool false))
theorem agY(q:Ru):bQ prog (R5 q)=some (R (Frame.enter prog 34 #[q.Q] .normal) ((R5 q).frame::q.cs)):=by kernel_rfl
theorem Zx(q:Ru):R5 q=R (R5 q).frame q.cs:=by kernel_rfl
noncomputable def K5(q:Ru):Dm:=tr 40 40 (fin (R5 q) (.tuple #[q.rv,.int .i64 q.e2,.int .i64 q.n2]))
theorem Iz(q:Ru):semAt (K5 q)=some (do pure (.value (<-Go.binOp .neq 40 (.int .i64 q.e2) (.int .i64 0)))):=by kernel_rfl
noncomputable def M4(q:Ru):Dm:=aM prog 40 (fin (K5 q) (.bool true))
theorem ad3(q:Ru):semAt (M4 q)=some (do Instr.storeAt 39 q.P7 (.agg iV);pure .skip):=by kernel_rfl
noncomputable def M5(q:Ru):Dm:=aM prog 4 (fin (M4 q) undef)
theorem RD(q:Ru):M5 q=R ⟨17,cY (M5 q),lm (M5 q),[],.returning,.normal,none⟩ q.cs:=by kernel_rfl
theorem ada(q:Ru):(cY (M5 q)).getD 6 undef=.string ⟨#[]⟩/\(cY (M5 q)).getD 7 undef=q.P7/\(cY (M5 q)).getD 8 undef=.int .i64 q.e2/\(cY (M5 q)).getD 9 undef=.int .i64 q.n2:=⟨by kernel_rfl,by kernel_rfl,by kernel_rfl,by kernel_rfl⟩
noncomputable def R6(q:Ru):Dm:=tr 47 40 (fin (K5 q) (.bool false))
theorem Mx(q:Ru):semAt (R6 q)=some (do pure (.value (<-Instr.loadAt 45 q.P5))):=by kernel_rfl
noncomputable def R7(q:Ru):Dm:=tr 48 20 (fin (R6 q) q.S)
theorem adM(q:Ru):bQ prog (R7 q)=some (R (Frame.enter prog 35 #[q.cv,q.rv,q.S] .normal) ((R7 q).frame::q.cs)):=by kernel_rfl
theorem MZ(q:Ru):R7 q=R (R7 q).frame q.cs:=by kernel_rfl
noncomputable def R8(q:Ru):Dm:=tr 15 40 (fin (R7 q) (.tuple #[q.eL,.agg q.cn]))
theorem abq(q:Ru):semAt (R8 q)=some (do pure (.value (<-Instr.alloc 39 true (.tuple #[])))):=by kernel_rfl
noncomputable def R9(q:Ru):Dm:=aM prog 1 (fin (R8 q) q.JN)
theorem ahB(q:Ru):semAt (R9 q)=some (do Instr.storeAt 39 q.JN (.agg q.cn);pure .skip):=by kernel_rfl
noncomputable def gP(q:Ru):Dm:=tr 53 40 (fin (R9 q) undef)
theorem afk(q:Ru):bQ prog (gP q)=some (R (Frame.enter prog 19 #[q.eL] .normal) ((gP q).frame::q.cs)):=by kernel_rfl
theorem Lx(q:Ru):gP q=R (gP q).frame q.cs:=by kernel_rfl
set_option maxRecDepth 100000
structure Ra where
 o:B6
 p1:Nat
 s:Fo
 t:Fo
 dS:Int
 b:Int
 k:Int
 F:Fi
 Q:Fi
 p5:Nat
 tx:Fo
 cn:B6
 e:Int
 n:Int
 p7:Nat
 aD:Nat
 cs:B8
abbrev Ra.S(q:Ra):Fi:=.agg #[.int .i64 q.b,.int .i64 q.k]
abbrev Ra.P(q:Ra)(i:Nat):Fi:=.pointer (some ⟨q.p1,i,none⟩)
abbrev Ra.P5(q:Ra):Fi:=.pointer (some ⟨q.p5,0,none⟩)
abbrev Ra.P7(q:Ra):Fi:=.pointer (some ⟨q.p7,0,none⟩)
abbrev Ra.AU(q:Ra):Fi:=.pointer (some ⟨q.aD,0,none⟩)
abbrev Ra.A(q:Ra):Fi:=.tuple #[.string q.tx,.agg q.cn,.int .i64 q.e,.int .i64 q.n]
noncomputable def tz(d n:Nat)(g:Dm):Dm:=aK prog 52 d n g
noncomputable def AE(o:B6)(cs:B8):Dm:=R (Frame.enter prog 52 #[.agg o] .normal) cs
noncomputable def A0(q:Ra):Dm:=tz 1 20 (AE q.o q.cs)
theorem vD(q:Ra):semAt (A0 q)=some (do pure (.value (<-Instr.box 70 (.agg q.o)))):=by kernel_rfl
noncomputable def A1(q:Ra):Dm:=tz 17 20 (fin (A0 q) (q.P 0))
theorem nR(q:Ra):semAt (A1 q)=some (do pure (.value (<-Instr.loadAt 9 (q.P 4)))):=by kernel_rfl
noncomputable def A2(q:Ra):Dm:=tz 19 20 (fin (A1 q) (.string q.s))
theorem wm(q:Ra):semAt (A2 q)=some (do pure (.value (<-Instr.loadAt 3 (q.P 3)))):=by kernel_rfl
noncomputable def A3(q:Ra):Dm:=tz 20 20 (fin (A2 q) (.int .i64 q.dS))
theorem aas(q:Ra):bQ prog (A3 q)=some (R (Frame.enter prog 92 #[.string q.s,.int .i64 q.dS] .normal) ((A3 q).frame::q.cs)):=by kernel_rfl
theorem aev(q:Ra):A3 q=R (A3 q).frame q.cs:=by kernel_rfl
noncomputable def A4(q:Ra):Dm:=tz 22 20 (fin (A3 q) q.F)
theorem agl(q:Ra):semAt (A4 q)=some (do pure (.value (<-Instr.loadAt 9 (q.P 5)))):=by kernel_rfl
noncomputable def A5(q:Ra):Dm:=tz 24 20 (fin (A4 q) (.string q.t))
theorem ae6(q:Ra):semAt (A5 q)=some (do pure (.value (<-Instr.loadAt 3 (q.P 3)))):=by kernel_rfl
noncomputable def A6(q:Ra):Dm:=tz 25 20 (fin (A5 q) (.int .i64 q.dS))
theorem UQ(q:Ra):bQ prog (A6 q)=some (R (Frame.enter prog 92 #[.string q.t,.int .i64 q.dS] .normal) ((A6 q).frame::q.cs)):=by kernel_rfl
theorem Rb(q:Ra):A6 q=R (A6 q).frame q.cs:=by kernel_rfl
noncomputable def A7(q:Ra):Dm:=tz 27 20 (fin (A6 q) q.Q)
theorem Mu(q:Ra):semAt (A7 q)=some (do pure (.value (<-Instr.loadAt 3 (q.P 1)))):=by kernel_rfl
noncomputable def A8(q:Ra):Dm:=tz 29 20 (fin (A7 q) (.int .i64 q.b))
theorem TR(q:Ra):semAt (A8 q)=some (do pure (.value (<-Instr.loadAt 3 (q.P 2)))):=by kernel_rfl
noncomputable def A9(q:Ra):Dm:=tz 5 20 (fin (A8 q) (.int .i64 q.k))
theorem afc(q:Ra):semAt (A9 q)=some (do pure (.value (<-Instr.alloc 45 true (.tuple #[])))):=by kernel_rfl
noncomputable def oA(q:Ra):Dm:=aM prog 0 (fin (A9 q) q.P5)
theorem acC(q:Ra):semAt (oA q)=some (do Instr.storeAt 45 q.P5 q.S;pure .skip):=by kernel_rfl
noncomputable def py(q:Ra):Dm:=tz 34 20 (fin (oA q) undef)
theorem ag2(q:Ra):semAt (py q)=some (do pure (.value (<-Instr.loadAt 45 q.P5))):=by kernel_rfl
noncomputable def lp(q:Ra):Dm:=tz 35 20 (fin (py q) q.S)
theorem VN(q:Ra):bQ prog (lp q)=some (R (Frame.enter prog 17 #[q.F,q.Q,q.S] .normal) ((lp q).frame::q.cs)):=by kernel_rfl
theorem U5(q:Ra):lp q=R (lp q).frame q.cs:=by kernel_rfl
noncomputable def nI(q:Ra):Dm:=tz 7 40 (fin (lp q) q.A)
theorem WC(q:Ra):semAt (nI q)=some (do pure (.value (<-Instr.alloc 39 true (.tuple #[])))):=by kernel_rfl
noncomputable def oM(q:Ra):Dm:=aM prog 1 (fin (nI q) q.P7)
theorem ahD(q:Ra):semAt (oM q)=some (do Instr.storeAt 39 q.P7 (.agg q.cn);pure .skip):=by kernel_rfl
noncomputable def iw(q:Ra):Dm:=tz 42 20 (fin (oM q) undef)
theorem xA(q:Ra):semAt (iw q)=some (do pure (.value (<-Instr.loadAt 9 (q.P 4)))):=by kernel_rfl
noncomputable def fL(q:Ra):Dm:=tz 44 20 (fin (iw q) (.string q.s))
theorem xV(q:Ra):semAt (fL q)=some (do pure (.value (<-Instr.loadAt 9 (q.P 5)))):=by kernel_rfl
noncomputable def pI(q:Ra):Dm:=tz 45 20 (fin (fL q) (.string q.t))
theorem Y5(q:Ra):semAt (pI q)=some (do pure (.value (<-Instr.loadAt 45 q.P5))):=by kernel_rfl
noncomputable def kz(q:Ra):Dm:=tz 46 20 (fin (pI q) q.S)
theorem J8(q:Ra):bQ prog (kz q)=some (R (Frame.enter prog 110 #[.string q.s,.string q.t,q.S] .normal) ((kz q).frame::q.cs)):=by kernel_rfl
theorem afI(q:Ra):kz q=R (kz q).frame q.cs:=by kernel_rfl
noncomputable def nX(q:Ra):Dm:=tz 11 40 (fin (kz q) q.A)
theorem Yy(q:Ra):semAt (nX q)=some (do pure (.value (<-Instr.alloc 39 true (.tuple #[])))):=by kernel_rfl
noncomputable def oU(q:Ra):Dm:=aM prog 1 (fin (nX q) q.AU)
theorem WS(q:Ra):semAt (oU q)=some (do Instr.storeAt 39 q.AU (.agg q.cn);pure .skip):=by kernel_rfl
noncomputable def pf(q:Ra):Dm:=tz 53 20 (fin (oU q) undef)
theorem UH(q:Ra):semAt (pf q)=some (do pure (.value (<-Instr.loadAt 9 (q.P 4)))):=by kernel_rfl
noncomputable def kY(q:Ra):Dm:=tz 54 20 (fin (pf q) (.string q.s))
theorem LL(q:Ra):bQ prog (kY q)=some (R (Frame.enter prog 94 #[q.F,.string q.s] .normal) ((kY q).frame::q.cs)):=by kernel_rfl
theorem XW(q:Ra):kY q=R (kY q).frame q.cs:=by kernel_rfl
noncomputable def pi(q:Ra):Dm:=tz 57 20 (fin (kY q) (.bool true))
theorem Pg(q:Ra):semAt (pi q)=some (do pure (.value (<-Instr.loadAt 9 (q.P 5)))):=by kernel_rfl
noncomputable def kW(q:Ra):Dm:=tz 58 20 (fin (pi q) (.string q.t))
theorem MN(q:Ra):bQ prog (kW q)=some (R (Frame.enter prog 94 #[q.Q,.string q.t] .normal) ((kW q).frame::q.cs)):=by kernel_rfl
theorem ah4(q:Ra):kW q=R (kW q).frame q.cs:=by kernel_rfl
noncomputable def pd(q:Ra):Dm:=tz 61 20 (fin (kW q) (.bool true))
theorem aha(q:Ra):semAt (pd q)=some (do pure (.value (<-Go.binOp .eql 9 (.string q.tx) (.string q.tx)))):=by kernel_rfl
noncomputable def pw(q:Ra):Dm:=tz 63 20 (fin (pd q) (.bool true))
theorem TC(q:Ra):semAt (pw q)=some (do pure (.value (<-Instr.loadAt 39 q.P7))):=by kernel_rfl
noncomputable def oR(q:Ra):Dm:=tz 64 20 (fin (pw q) (.agg q.cn))
theorem Nq(q:Ra):semAt (oR q)=some (do pure (.value (<-Instr.loadAt 39 q.AU))):=by kernel_rfl
noncomputable def mO(q:Ra):Dm:=tz 65 20 (fin (oR q) (.agg q.cn))
noncomputable def rr(x y:Fi):Option (Sem Next):=some (execOp (λo=>match o with|.tmp 63=>x|_=>y) {dst:=some 65,op:=.binOp .eql 39 (.tmp 63) (.tmp 64) 39,type:=4,pos:= "",after:=#[],guard:=none})
theorem Lh(q:Ra):semAt (mO q)=rr (.agg q.cn) (.agg q.cn):=by kernel_rfl
noncomputable def pS(q:Ra):Dm:=tz 70 20 (fin (mO q) (.bool true))
theorem afD(q:Ra):semAt (pS q)=some (do pure (.value (<-Go.binOp .eql 40 (.int .i64 q.e) (.int .i64 q.e)))):=by kernel_rfl
noncomputable def ox(q:Ra):Dm:=tz 75 20 (fin (pS q) (.bool true))
theorem Wj(q:Ra):semAt (ox q)=some (do pure (.value (<-Go.binOp .eql 3 (.int .i64 q.n) (.int .i64 q.n)))):=by kernel_rfl
noncomputable def lX(q:Ra):Dm:=aM prog 10 (fin (ox q) (.bool true))
theorem Lz(q:Ra):lX q=R ⟨52,cY (lX q),lm (lX q),[],.returning,.normal,none⟩ q.cs:=by kernel_rfl
theorem adS(q:Ra):(cY (lX q)).getD 2 undef=.bool true:=by kernel_rfl
end Km
end
end Go.Proofs.YtjebhbopmfcopaaGreatDoor
