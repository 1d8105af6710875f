/- Agree, a part. -/
import Derived.Test.YtjebhbopmfcopaaGreatDoorZU
set_option maxRecDepth 100000
namespace Go.Proofs.YtjebhbopmfcopaaGreatDoor
open Go.Proofs Tryz
noncomputable section
variable{ops:Array Oper}{a':DS}{g:Gq}{i:Nat}{O:Nat->Prop}{V V':Nat->HH}{o:Oper}{P:Program}{v' x:HH}{v v1 v1' v2 v2' w w' w1:HA}
namespace Km
open Conc Kw Kl Ph
noncomputable def abh:Code:=match f35.body with|some (.seq _ t)=>t|_=>.skip
noncomputable def E0(a b c:HH)(cs:Fi):Gq:=R (Frame.enter prog 35 #[a,b,c] .normal) cs
noncomputable def B0(a b c:HH)(cs:Fi):Gq:=tl 5 20 (E0 a b c cs)
theorem DH(a b c:HH)(cs:Fi):semAt (B0 a b c cs)=some (do pure (.value (<-Instr.box 45 c))):=HW
noncomputable def B1(a b c:HH)(cs:Fi)(p:HH):Gq:=tl 7 20 (fin (B0 a b c cs) p)
theorem wS(a b c:HH)(cs:Fi)(p:HH):semAt (B1 a b c cs p)=some (do pure (.value (<-Instr.alloc 39 true (.tuple #[])))):=HW
noncomputable def B2(a b c p5 p7:HH)(cs:Fi):Gq:=R ⟨35,#[a,b,c,undef,undef,p5,.slice none 0 0,p7,undef,undef,undef,undef,undef,undef,undef,undef,undef,undef,undef,undef,undef,undef,undef,undef,undef,undef,undef,undef,undef,undef,undef,undef,undef,undef,undef,undef,undef,undef,undef,undef,undef,undef,undef],[.code abh],[],.run,.normal,none⟩ cs
theorem TE(a b c p5 p7:HH)(cs:Fi):th 1 (fin (B1 a b c cs p5) p7)=B2 a b c p5 p7 cs:=HW
noncomputable def uo:Code:=match f35.body with|some (.seq _ (.seq _ (.seq _ t)))=>t|_=>.skip
def xo(g:Gq)(ops:Array Oper)(V:Nat->HH)(i:Nat):Option (Sem Next):=(ops[i]?).map λo=>execOp (bz g ops V).frame.eval o
theorem yl{b:Array Operand}(e:sound ops=true)(h:(ops[i]?).map (·.op.operands)=some b)(d:∀x∈b,(bz g ops V).frame.eval x=(bz g ops V').frame.eval x):xo g ops V i=xo g ops V' i:=by unfold xo;cases a:ops[i]? with|none=>rfl|some o=>rw[a]at h;simp only[Option.map_some,Option.some.injEq]at h;simp only[Option.map_some];rw[execOp_congr o (sJ e a).Hu λx c=>d x (h▸c)]
theorem xT{D:Array Bool}{rest:List Nat}(f:da g=some ops)(c:g.frame.kind=.normal)(d:sound ops=true)(a:ops[i]?=some o)(b:∀e∈o.after,Region.binds .any e=true->D.getD e.on false=true):semAt (stA g ops V D (i::rest))=xo g ops V i:=by rw[jO f (by rw[c];simp) d a b];unfold xo;rw[a];rfl
def dG(ops:Array Oper)(i j:Nat):Bool:=((ops[i]?).map λo=>o.after.any λe=>Region.binds .any e&&e.on==j)==some true
theorem zv{D:Array Bool}{j:Nat}(h:dG ops i j=true)(b:ops[i]?=some o)(c:∀e∈o.after,Region.binds .any e=true->D.getD e.on false=true):D.getD j false=true:=by unfold dG at h;rw[b]at h;simp only[Option.map_some,beq_iff_eq,Option.some.injEq]at h;obtain⟨e,d,a⟩:=Array.any_eq_true'.1 h;simp only[Bool.and_eq_true,beq_iff_eq]at a;have:=c e d a.1;rw[a.2]at this;exact this
structure Tw where
 ga:Option Addr
 an:Nat
 ac:Nat
 ra:Option Addr
 N:Nat
 rc:Nat
 s:HH
 B5:Nat
 B7:Nat
 ix:Option Addr:=none
 e:HH:=undef
 cs:Fi
abbrev Tw.a(q:Tw):HH:=.slice q.ga q.an q.ac
abbrev Tw.b(q:Tw):HH:=.slice q.ra q.N q.rc
abbrev Tw.p5(q:Tw):HH:=.pointer (some ⟨q.B5,0,none⟩)
abbrev Tw.p7(q:Tw):HH:=.pointer (some ⟨q.B7,0,none⟩)
abbrev Tw.px(q:Tw):HH:=.pointer q.ix
abbrev Tw.T(q:Tw):HH:=.tuple #[q.px,q.e]
noncomputable def D0(q:Tw):Gq:=tl 14 20 (B2 q.a q.b q.s q.p5 q.p7 q.cs)
theorem Uz(q:Tw):bY prog (D0 q)=some (R (Frame.enter prog 26 #[q.a] .normal) ((D0 q).frame::q.cs)):=HW
theorem aaX(q:Tw):D0 q=R (D0 q).frame q.cs:=HW
noncomputable def Ex:Code:=match f35.body with|some (.seq _ (.seq _ (.seq r _)))=>r|_=>.skip
noncomputable def cB:Array Oper:=match Ex with|.region _ ops _=>ops|_=>#[]
noncomputable def D1(q:Tw):Gq:=R ⟨35,#[q.a,q.b,q.s,undef,undef,q.p5,.slice none 0 0,q.p7,q.px,q.e,undef,undef,q.T,q.a,q.T,q.px,q.e,undef,undef,undef,undef,undef,undef,undef,undef,undef,undef,undef,undef,undef,undef,undef,undef,undef,undef,undef,undef,undef,undef,undef,undef,undef,undef],[.code Ex,.code uo],[],.run,.normal,none⟩ q.cs
theorem acO(q:Tw):th 7 (fin (D0 q) q.T)=D1 q:=HW
theorem AC(q:Tw):da (D1 q)=some cB:=HW
theorem EF(q:Tw):(D1 q).frame.kind=.normal:=HW
theorem A':cB.size=12:=HW
theorem tn:sound cB=true:=HW
noncomputable def x2(q:Tw)(V:Nat->HH)(i:Nat):Option (Sem Next):=xo (D1 q) cB V i
theorem ahx(q:Tw)(V:Nat->HH):(x2 q V 0).map (calm? prog)=some (some (.value q.a)):=HW
theorem Ri(q:Tw)(V:Nat->HH):(x2 q V 1).map (calm? prog)=some (some (.value q.px)):=HW
theorem aiT(q:Tw)(V:Nat->HH):(x2 q V 2).map (calm? prog)=some (some (.value q.b)):=HW
theorem afP(q:Tw)(V:Nat->HH):(x2 q V 3).map (calm? prog)=some (some (.value q.p5)):=HW
theorem aht(q:Tw)(V:Nat->HH):x2 q V 4=some (do pure (.value (<-Instr.loadAt 3 (V 3)))):=HW
theorem P3(q:Tw)(V:Nat->HH):(x2 q V 5).map (calm? prog)=some (some (.value q.b)):=HW
theorem Dd(q:Tw){a:Array Operand}(h:(cB[i]?).map (·.op.operands)=some a)(b:∀x∈a,(bz (D1 q) cB V).frame.eval x=(bz (D1 q) cB V').frame.eval x):x2 q V i=x2 q V' i:=yl tn h b
theorem afw:(cB[6]?).map (·.op.operands)=some #[.tmp 22]:=HW
theorem R':(cB[8]?).map (·.op.operands)=some #[.tmp 17,.tmp 18,.tmp 19,.tmp 21,.tmp 24]:=HW
theorem EO(q:Tw)(V:Nat->HH):(bz (D1 q) cB V).frame.eval (.tmp 22)=V 5:=HW
theorem Ff(q:Tw)(V:Nat->HH):(bz (D1 q) cB V).frame.eval (.tmp 17)=V 0:=HW
theorem BP(q:Tw)(V:Nat->HH):(bz (D1 q) cB V).frame.eval (.tmp 18)=V 1:=HW
theorem Ec(q:Tw)(V:Nat->HH):(bz (D1 q) cB V).frame.eval (.tmp 19)=V 2:=HW
theorem Gn(q:Tw)(V:Nat->HH):(bz (D1 q) cB V).frame.eval (.tmp 21)=V 4:=HW
theorem GD(q:Tw)(V:Nat->HH):(bz (D1 q) cB V).frame.eval (.tmp 24)=V 7:=HW
theorem aiF(q:Tw)(V:Nat->HH):x2 q V 6=x2 q (λ_=>V 5) 6:=Dd q afw λx a=>by simp only[List.mem_toArray,List.mem_cons,List.not_mem_nil,or_false]at a;subst a;rw[EO,EO]
theorem Tb(q:Tw):(x2 q (λ_=>q.b) 6).map (calm? prog)=some (some (.value (.int .i64 q.N))):=HW
theorem VC(q:Tw)(V:Nat->HH):x2 q V 7=some (do pure (.value (<-Instr.makeSlice 46 (V 6) (V 6)))):=HW
def pk(v0 v1 v2 a v7:HH)(j:Nat):HH:=match j with|0=>v0|1=>v1|2=>v2|4=>a|_=>v7
theorem ajw(q:Tw)(V:Nat->HH):x2 q V 8=x2 q (pk (V 0) (V 1) (V 2) (V 4) (V 7)) 8:=Dd q R' λx a=>by
 simp only[List.mem_toArray,List.mem_cons,List.not_mem_nil,or_false]at a;rcases a with rfl|rfl|rfl|rfl|rfl;·rw[Ff,Ff];rfl
 ·rw[BP,BP];rfl
 ·rw[Ec,Ec];rfl
 ·rw[Gn,Gn];rfl
 ·rw[GD,GD];rfl
def fL(q:Tw)(bd:Int)(g:Nat):DS:=#[q.a,q.px,q.b,.int .i64 bd,.slice (some ⟨g,0,none⟩) q.N q.N,.int .i32 0,.int .u32 0,.int .i64 0,.int .i64 0,.int .i64 0,.int .i64 0,.int .i64 0,.int .i64 0,.int .i64 0,.int .i64 0,.int .i64 0,.int .i64 0,.int .i64 0,.int .i64 0]
theorem Vt(q:Tw)(bd:Int)(g:Nat):(x2 q (pk q.a q.px q.b (.int .i64 bd) (.slice (some ⟨g,0,none⟩) q.N q.N)) 8).map (calm? prog)=some (some (.value (.agg (fL q bd g)))):=HW
theorem Qq(q:Tw)(V:Nat->HH):x2 q V 9=some (do pure (.value (<-Instr.box 138 (V 8)))):=HW
theorem aiK(q:Tw)(V:Nat->HH):x2 q V 10=some (do pure (.value (<-Instr.alloc 129 true (.tuple #[])))):=HW
theorem ajy(q:Tw)(V:Nat->HH):x2 q V 11=some (do Instr.storeAt 129 (V 10) (V 9);pure .skip):=HW
theorem afI:dG cB 4 3=true:=HW
theorem ai0:dG cB 6 5=true:=HW
theorem ae2:dG cB 7 6=true:=HW
theorem X5:dG cB 8 0=true:=HW
theorem Om:dG cB 8 1=true:=HW
theorem adE:dG cB 8 2=true:=HW
theorem YQ:dG cB 8 4=true:=HW
theorem Dc:dG cB 8 7=true:=HW
theorem DL:dG cB 9 8=true:=HW
theorem Yj:dG cB 11 9=true:=HW
theorem Od:dG cB 11 10=true:=HW
noncomputable def D2(q:Tw)(V:Nat->HH):Gq:=R ⟨35,#[q.a,q.b,q.s,undef,undef,q.p5,.slice none 0 0,q.p7,q.px,q.e,V 10,undef,q.T,q.a,q.T,q.px,q.e,V 0,V 1,V 2,V 3,V 4,V 5,V 6,V 7,V 8,V 9,undef,undef,undef,undef,undef,undef,undef,undef,undef,undef,undef,undef,undef,undef,undef,undef],[.code uo],[],.run,.normal,none⟩ q.cs
theorem TS(q:Tw)(V:Nat->HH):bz (D1 q) cB V=D2 q V:=HW
structure Ru where
 F:HH
 Q:HH
 b:Int
 k:Int
 p5:Nat
 p7:Nat
 cv:HH
 e1:Int
 n1:Int
 rv:HH
 e2:Int
 n2:Int
 eO:HH
 cn:DS
 dI:Nat
 tx:HH
 te:HH
 cs:Fi
abbrev Ru.S(q:Ru):HH:=.agg #[.int .i64 q.b,.int .i64 q.k]
abbrev Ru.P5(q:Ru):HH:=.pointer (some ⟨q.p5,0,none⟩)
abbrev Ru.P7(q:Ru):HH:=.pointer (some ⟨q.p7,0,none⟩)
abbrev Ru.CN(q:Ru):HH:=.pointer (some ⟨q.dI,0,none⟩)
noncomputable def tr(d n:Nat)(g:Gq):Gq:=aL prog 17 d n g
noncomputable def RE(q:Ru):Gq:=R (Frame.enter prog 17 #[q.F,q.Q,q.S] .normal) q.cs
noncomputable def R0(q:Ru):Gq:=tr 5 20 (RE q)
theorem wX(q:Ru):semAt (R0 q)=some (do pure (.value (<-Instr.box 45 q.S))):=HW
noncomputable def R1(q:Ru):Gq:=tr 7 20 (fin (R0 q) q.P5)
theorem vb(q:Ru):semAt (R1 q)=some (do pure (.value (<-Instr.alloc 39 true (.tuple #[])))):=HW
noncomputable def R2(q:Ru):Gq:=tr 18 20 (fin (R1 q) q.P7)
theorem vE(q:Ru):semAt (R2 q)=some (do pure (.value (<-Instr.loadAt 45 q.P5))):=HW
noncomputable def R3(q:Ru):Gq:=tr 19 20 (fin (R2 q) q.S)
theorem aib(q:Ru):bY prog (R3 q)=some (R (Frame.enter prog 32 #[q.S] .normal) ((R3 q).frame::q.cs)):=HW
theorem Zn(q:Ru):R3 q=R (R3 q).frame q.cs:=HW
noncomputable def jw:DS:=#[.int .i64 0,.int .i64 0,.int .i64 0,.int .i64 0,.int .i64 0,.int .i64 0,.int .i64 0,.int .i64 0,.int .i64 0,.int .i64 0,.int .i64 0]
noncomputable def M0(q:Ru):Gq:=aN prog 40 (fin (R3 q) (.bool false))
theorem ajW(q:Ru):semAt (M0 q)=some (do Instr.storeAt 39 q.P7 (.agg jw);pure .skip):=HW
noncomputable def M1(q:Ru):Gq:=aN prog 4 (fin (M0 q) undef)
noncomputable def fg(g:Gq):DS:=g.frame.tmps
noncomputable def yw(g:Gq):List Item:=g.frame.todo
theorem afL(q:Ru):M1 q=R ⟨17,fg (M1 q),yw (M1 q),[],.returning,.normal,none⟩ q.cs:=HW
theorem Oh(q:Ru):(fg (M1 q)).getD 6 undef=.string ⟨#[]⟩/\(fg (M1 q)).getD 7 undef=q.P7/\(fg (M1 q)).getD 8 undef=.int .i64 1/\(fg (M1 q)).getD 9 undef=.int .i64 0:=⟨HW,HW,HW,HW⟩
noncomputable def R4(q:Ru):Gq:=tr 24 40 (fin (R3 q) (.bool true))
theorem aa8(q:Ru):bY prog (R4 q)=some (R (Frame.enter prog 33 #[q.F] .normal) ((R4 q).frame::q.cs)):=HW
theorem agq(q:Ru):R4 q=R (R4 q).frame q.cs:=HW
noncomputable def K4(q:Ru):Gq:=tr 29 40 (fin (R4 q) (.tuple #[q.cv,.int .i64 q.e1,.int .i64 q.n1]))
theorem G9(q:Ru):semAt (K4 q)=some (do pure (.value (<-Go.binOp .neq 40 (.int .i64 q.e1) (.int .i64 0)))):=HW
noncomputable def M2(q:Ru):Gq:=aN prog 40 (fin (K4 q) (.bool true))
theorem zF(q:Ru):semAt (M2 q)=some (do Instr.storeAt 39 q.P7 (.agg jw);pure .skip):=HW
noncomputable def M3(q:Ru):Gq:=aN prog 4 (fin (M2 q) undef)
theorem Oc(q:Ru):M3 q=R ⟨17,fg (M3 q),yw (M3 q),[],.returning,.normal,none⟩ q.cs:=HW
theorem QB(q:Ru):(fg (M3 q)).getD 6 undef=.string ⟨#[]⟩/\(fg (M3 q)).getD 7 undef=q.P7/\(fg (M3 q)).getD 8 undef=.int .i64 q.e1/\(fg (M3 q)).getD 9 undef=.int .i64 q.n1:=⟨HW,HW,HW,HW⟩
noncomputable def R5(q:Ru):Gq:=tr 35 40 (fin (K4 q) (.bool false))
theorem UB(q:Ru):bY prog (R5 q)=some (R (Frame.enter prog 34 #[q.Q] .normal) ((R5 q).frame::q.cs)):=HW
theorem ZV(q:Ru):R5 q=R (R5 q).frame q.cs:=HW
noncomputable def K5(q:Ru):Gq:=tr 40 40 (fin (R5 q) (.tuple #[q.rv,.int .i64 q.e2,.int .i64 q.n2]))
theorem Gy(q:Ru):semAt (K5 q)=some (do pure (.value (<-Go.binOp .neq 40 (.int .i64 q.e2) (.int .i64 0)))):=HW
noncomputable def M4(q:Ru):Gq:=aN prog 40 (fin (K5 q) (.bool true))
theorem O4(q:Ru):semAt (M4 q)=some (do Instr.storeAt 39 q.P7 (.agg jw);pure .skip):=HW
noncomputable def M5(q:Ru):Gq:=aN prog 4 (fin (M4 q) undef)
theorem aem(q:Ru):M5 q=R ⟨17,fg (M5 q),yw (M5 q),[],.returning,.normal,none⟩ q.cs:=HW
theorem Pw(q:Ru):(fg (M5 q)).getD 6 undef=.string ⟨#[]⟩/\(fg (M5 q)).getD 7 undef=q.P7/\(fg (M5 q)).getD 8 undef=.int .i64 q.e2/\(fg (M5 q)).getD 9 undef=.int .i64 q.n2:=⟨HW,HW,HW,HW⟩
noncomputable def R6(q:Ru):Gq:=tr 47 40 (fin (K5 q) (.bool false))
theorem ahm(q:Ru):semAt (R6 q)=some (do pure (.value (<-Instr.loadAt 45 q.P5))):=HW
noncomputable def R7(q:Ru):Gq:=tr 48 20 (fin (R6 q) q.S)
theorem ac7(q:Ru):bY prog (R7 q)=some (R (Frame.enter prog 35 #[q.cv,q.rv,q.S] .normal) ((R7 q).frame::q.cs)):=HW
theorem XU(q:Ru):R7 q=R (R7 q).frame q.cs:=HW
noncomputable def R8(q:Ru):Gq:=tr 15 40 (fin (R7 q) (.tuple #[q.eO,.agg q.cn]))
theorem ab8(q:Ru):semAt (R8 q)=some (do pure (.value (<-Instr.alloc 39 true (.tuple #[])))):=HW
noncomputable def R9(q:Ru):Gq:=aN prog 1 (fin (R8 q) q.CN)
theorem MC(q:Ru):semAt (R9 q)=some (do Instr.storeAt 39 q.CN (.agg q.cn);pure .skip):=HW
noncomputable def gB(q:Ru):Gq:=tr 53 40 (fin (R9 q) undef)
theorem QT(q:Ru):bY prog (gB q)=some (R (Frame.enter prog 19 #[q.eO] .normal) ((gB q).frame::q.cs)):=HW
theorem QH(q:Ru):gB q=R (gB q).frame q.cs:=HW
end Km
namespace Ag9
open Conc Km Kw Kl Ph
structure Ag where
 a0:HH
 a1:HH
 a2:HH
 i3:Int
 i4:Int
 i5:Int
 i6:Int
 cv:HH
 bx:Nat
 qv:HH
 kk:Int
 wd:Int
 f:HM
 g:HM
noncomputable def ci(d n:Nat)(g:Gq):Gq:=aL prog 9 d n g
noncomputable def sC(q:Ag):Gq:=R (Frame.enter prog 9 #[q.a0,q.a1,q.a2,.int .i64 q.i3,.int .i64 q.i4,.int .i64 q.i5,.int .i64 q.i6] .normal) []
noncomputable def A1(q:Ag):Gq:=ci 39 20 (sC q)
theorem Vx(q:Ag):bY prog (A1 q)=some (R (Frame.enter prog 11 #[q.a0] .normal) [(A1 q).frame]):=HW
theorem ajq(q:Ag):A1 q=R (A1 q).frame []:=HW
noncomputable def A2(q:Ag):Gq:=ci 41 20 (fin (A1 q) q.cv)
theorem aaL(q:Ag):bY prog (A2 q)=some (R (Frame.enter prog 12 #[q.cv] .normal) [(A2 q).frame]):=HW
theorem S3(q:Ag):A2 q=R (A2 q).frame []:=HW
noncomputable def A3(q:Ag):Gq:=ci 47 40 (fin (A2 q) (.pointer (some ⟨q.bx,0,none⟩)))
theorem aeI(q:Ag):bY prog (A3 q)=some (R (Frame.enter prog 13 #[q.cv,q.a1,q.a2] .normal) [(A3 q).frame]):=HW
theorem WG(q:Ag):A3 q=R (A3 q).frame []:=HW
noncomputable def A4(q:Ag):Gq:=ci 49 20 (fin (A3 q) q.qv)
theorem Mh(q:Ag):bY prog (A4 q)=some (R (Frame.enter prog 14 #[.int .i64 q.i4,.int .i64 4] .normal) [(A4 q).frame]):=HW
theorem ad7(q:Ag):A4 q=R (A4 q).frame []:=HW
noncomputable def A5(q:Ag):Gq:=ci 52 20 (fin (A4 q) (.int .i64 q.kk))
theorem SS(q:Ag):bY prog (A5 q)=some (R (Frame.enter prog 14 #[.int .i64 q.i3,.int .i64 80] .normal) [(A5 q).frame]):=HW
theorem QX(q:Ag):A5 q=R (A5 q).frame []:=HW
noncomputable def A6(q:Ag):Gq:=ci 54 20 (fin (A5 q) (.int .i64 q.wd))
theorem Zm(q:Ag):bY prog (A6 q)=some (R (Frame.enter prog 15 #[q.cv,.int .i64 (IntKind.i64.wrap (1+q.wd))] .normal) [(A6 q).frame]):=HW
theorem Yi(q:Ag):A6 q=R (A6 q).frame []:=HW
noncomputable def A7(q:Ag):Gq:=ci 56 20 (fin (A6 q) (.string q.f))
theorem aei(q:Ag):bY prog (A7 q)=some (R (Frame.enter prog 16 #[q.qv] .normal) [(A7 q).frame]):=HW
theorem af3(q:Ag):A7 q=R (A7 q).frame []:=HW
noncomputable def A8(q:Ag):Gq:=ci 59 20 (fin (A7 q) (.string q.g))
theorem Xi(q:Ag):semAt (A8 q)=some (do pure (.value (<-convert 9 43 (.string q.f)))):=HW
end Ag9
namespace Co
open Conc ConcN Ph Kw
section
variable{P:Program}{Q:HH->HA->Prop}
theorem WR.at{K:Cm}{r:Rn}(h:WR K P r v w)(d:Nat):WR K P r v (w.at d):=⟨h.bG,h.inj,h.one,h.low,h.bB⟩
def cH(Sh:Loc->Prop)(w:HA):Prop:=∀l,Sh l->∃ad:Addr,l=.cell ad/\ad.block<w.heap.size
def kP(Sh:Loc->Prop)(r:Rn):Prop:=∀a b,r a b->∀ad:Addr,ad.block=b->¬Sh (.cell ad)
theorem vV{K:Cm}{Sh:Loc->Prop}{r1:Rn}(k:WR K P r1 v1 w1)(m:kP Sh r1)(o:cH Sh w){e:Event}(i:jx K r1 v e):EvM Sh w1.heap.size e:=by
 obtain⟨i,q⟩:=i;obtain⟨s,wt,t⟩:=e;rcases i with⟨a,b,g,d,j,_⟩|⟨f,h⟩|h|⟨a,b,g,d,j,l,_⟩;·dsimp only at d j;subst d j;refine⟨λy c=>?_,by simp,by simp,by simp⟩;cases wt<;>(simp[MemAct.ofEvent,MemAct.touch?]at c;subst c;exact⟨m _ _ g _ rfl,(k.lt g).2⟩)
 ·exact absurd h (q f)
 ·dsimp only at h;subst h;exact⟨λy c=>by simp[MemAct.ofEvent,MemAct.touch?]at c,by simp,by simp,by simp⟩
 ·dsimp only at d l;subst d l;(have p:¬Sh (.obj b):=λn=>by obtain⟨ad,r,_⟩:=o _ n;cases r);refine⟨λy c=>?_,by simp,by simp,by simp⟩;cases wt<;>(simp[MemAct.ofEvent,MemAct.touch?]at c;subst c;exact⟨p,(k.lt g).2⟩)
theorem kP.dT{Sh:Loc->Prop}{r r1:Rn}(h:kP Sh r)(g:cH Sh w)(e:Eff r r1 v w w1):kP Sh r1:=by intro a b f ad d c;rcases e.new a b f with h1|⟨_,j⟩;(·exact h a b h1 ad d c);·obtain⟨i,e1,e2⟩:=g _ c;cases e1;omega
theorem cH.mono{Sh:Loc->Prop}(h:cH Sh w)(k:w.heap.size<=w1.heap.size):cH Sh w1:=λl a=>let⟨ad,e1,e2⟩:=h l a;⟨ad,e1,HU⟩
end
end Co
namespace Co
def qX(f:Nat):Bool:=f==188||f==189
section
variable{K:Cm}{S:FuncId->Bool}{r:Rn}
theorem GN:∀(n t:Nat)(a:DS),bL a->bL (Extern.BytealgMakeNoZero.digits n t a)|0,_,_,h=>h|n+1,t,a,h=>GN n (t/256) _ (by intro i b;rw[Array.getElem_push];split;(·exact h i _);·exact .int _ _)
theorem mZ{f:FuncId}{fn:Func}{e:DS->Sem HH}(h1:P.funcs[f]?=some fn)(c:K.F[f]?=some fn)(d:(fn.name== "runtime.NumGoroutine")=false)(g:fn.body.isNone=true)(h:(Extern.findNext fn).isNone=true)(i:Extern.find fn=some e){a:DS}(j:SR P K (VR P.globals.size) r (e a) (e a')):SR P K (NR K P.globals.size S) r (callFunc f a) (callFunc f a'):=by unfold callFunc;refine SR.program ?_;show SR P K _ r (Sem.bind (Sem.pure P) _) (Sem.bind (Sem.pure (aF P K.F)) _);simp only[Sem.bind];have k:(aF P K.F).funcs[f]?=some fn:=c;rw[h1,k];(have b:Extern.findNext fn=none:=by simpa using h);simp only[d,g,b,i,Bool.false_eq_true,if_false,if_true];refine SR.extern f ?_;exact dF j
theorem Ca{P:Program}:∀(n:Nat){r:Rn}{a a':Addr}(b:HM),DR P.globals.size r a a'->SR P K aO r (Extern.Bytes.loadBytes a n b) (Extern.Bytes.loadBytes a' n b)|0,_,_,_,_,_=>af rfl|n+1,r,a,a',b,h=>by unfold Extern.Bytes.loadBytes;refine ae (rz h) ?_;intro r1 v v' d c;cases c with|int k m=>(cases k<;>first|exact Ca n _ ((h.mono d).add 1)|exact ak _ _)|_=>exact ak _ _
theorem tZ{v:HH}(h:VR P.globals.size r v v'):SR P K aO r (Extern.Bytes.bytesOf v) (Extern.Bytes.bytesOf v'):=by cases h with|string s|cT l c=>exact af rfl|sl a b l c e f=>have d:DR P.globals.size r a {a with block:=b}:=⟨b,e,f,rfl⟩;exact Ca _ _ d|_=>exact ak _ _
theorem Kg{v:HH}(h:VR P.globals.size r v v'):SR P K aO r (Extern.Bytes.asByte v) (Extern.Bytes.asByte v'):=by cases h with|int k m=>(cases k<;>first|exact af rfl|exact ak _ _)|_=>exact ak _ _
theorem Tc{E:Sem HH}(h:(∃k n,E=pure (.int k n))\/dY P E):SR P K (VR P.globals.size) r E E:=by rcases h with⟨k,n,rfl⟩|h;(·exact af (.int k n));·exact .dead h _
theorem Ae{A:Rn->HH->HH->Prop}{F:HH->HH->Sem HH}{G:DS->Sem HH}{m:String}(c:∀x y,G #[x,y]=F x y)(h0:G ⟨[]⟩=stuck m)(h1:∀x,G ⟨[x]⟩=stuck m)(e:∀x y z l,G ⟨x::y::z::l⟩=stuck m)(f:∀{x x' y b},VR P.globals.size r x x'->VR P.globals.size r y b->SR P K A r (F x y) (F x' b)){a:DS}(h:AR P.globals.size r a a'):SR P K A r (G a) (G a'):=by have g:=h.toList;obtain⟨l⟩:=a;obtain⟨l'⟩:=a';cases g with|nil=>rw[h0];exact ak _ _|cons i k=>cases k with|nil=>rw[h1];exact ak _ _|cons d k=>cases k with|nil=>have:=f i d;rw[<-c,<-c]at this;exact this|cons _ _=>rw[e];exact ak _ _
theorem ajh{a:DS}(h:AR P.globals.size r a a'):SR P K (VR P.globals.size) r (Extern.BytealgCount.count a) (Extern.BytealgCount.count a'):=by refine Ae (G:=Extern.BytealgCount.count) (λx y=>rfl) rfl (λ_=>rfl) (λ_ _ _ _=>rfl) (λ{x x' y f}d e=>?_) h;refine ae (tZ d) ?_;rintro r1 s _ b rfl;refine ae (Kg (e.mono b)) ?_;rintro r2 c _ _ rfl;exact af (.int _ _)
theorem aao{a:DS}(h:AR P.globals.size r a a'):SR P K (VR P.globals.size) r (Extern.BytealgIndexByte.indexByte a) (Extern.BytealgIndexByte.indexByte a'):=by refine Ae (G:=Extern.BytealgIndexByte.indexByte) (λx y=>rfl) rfl (λ_=>rfl) (λ_ _ _ _=>rfl) (λ{x x' y f}d e=>?_) h;refine ae (tZ d) ?_;rintro r1 s _ b rfl;refine ae (Kg (e.mono b)) ?_;rintro r2 c _ _ rfl;split<;>exact af (.int _ _)
theorem ado{g:Nat}(k:P.globals.findIdx? (·.name== "internal/bytealg.MaxLen")=some g)(e:r g g){a:DS}(h:AR P.globals.size r a a'):SR P K (VR P.globals.size) r (Extern.BytealgIndex.index a) (Extern.BytealgIndex.index a'):=by
 refine Ae (G:=Extern.BytealgIndex.index) (λx y=>rfl) rfl (λ_=>rfl) (λ_ _ _ _=>rfl) (λ{x x' y t}i j=>?_) h;refine ae (tZ i) ?_;rintro r1 s _ b rfl;refine ae (tZ (j.mono b)) ?_;rintro r2 c _ l rfl;have f:SR P K aO r2 Extern.BytealgIndex.maxLen Extern.BytealgIndex.maxLen:=by unfold Extern.BytealgIndex.maxLen globalAddr;refine ae (A:=λ_(x y:Addr)=>x=⟨g,0,none⟩/\y=⟨g,0,none⟩) (ae gr ?_) ?_;(·rintro r3 p q _⟨rfl,rfl⟩;have:(aF p K.F).globals=p.globals:=rfl;rw[this,k];exact af ⟨rfl,rfl⟩);·rintro r3 _ _ o⟨rfl,rfl⟩;have n:DR P.globals.size r3 ⟨g,0,none⟩ ⟨g,0,none⟩:=⟨g,o _ _ (l _ _ (b _ _ e)),.inr rfl,rfl⟩;refine ae (rz n) ?_;intro u v v' w d;exact nt d
 refine ae f ?_;rintro r3 m _ _ rfl;refine Tc ?_;repeat' split
 all_goals first|exact .inr (fQ (h:=.unsupported _) trivial)|exact .inl ⟨_,_,rfl⟩
theorem Fa{a:DS}(h:AR P.globals.size r a a'):SR P K (VR P.globals.size) r (Extern.AbiNoEscape.same a) (Extern.AbiNoEscape.same a'):=by have c:=h.toList;obtain⟨l⟩:=a;obtain⟨l'⟩:=a';cases c with|nil=>exact ak _ _|cons b k=>cases k with|nil=>exact af b|cons _ _=>exact ak _ _
theorem GV(ps rs:Array TypeId){a:DS}(h:AR P.globals.size r a a'):SR P K (VR P.globals.size) r (Extern.BytealgMakeNoZero.makeNoZero ps rs a) (Extern.BytealgMakeNoZero.makeNoZero ps rs a'):=by have f:=h.toList;obtain⟨l⟩:=a;obtain⟨l'⟩:=a';cases f with|nil=>exact ak _ _|cons b k=>cases k with|cons _ _=>(cases b<;>first|exact ak _ _|(rename_i k _;cases k<;>exact ak _ _))|nil=>cases b with|int k n=>(cases k with|i64=>(unfold Extern.BytealgMakeNoZero.makeNoZero;cases rs[0]? with|none=>exact ak _ _|some t=>refine ae (bW t) ?_;rintro r1 d _ m⟨rfl,_⟩;cases d with|slice elem=>by_cases hn:(decide (n<0)||decide (n>2^48))=true;(·simp only[hn,if_true];exact db (im _) _);·simp only[hn];refine ae (pb _) ?_;rintro r2 cap _ s rfl;refine ae (AH _) ?_;rintro r3 _ _ o _;refine ae (pb _) ?_;rintro g e _ q rfl;refine ae (oh elem ((GN cap e #[] (λi j=>absurd j HY)).ar _ g)) ?_;intro u p v w c;exact af (c.sl _ _)|_=>exact ak _ _)|_=>exact ak _ _)|_=>exact ak _ _
end
noncomputable def okF(K:Cm)(S:FuncId->Bool)(f:Nat):Bool:=match(prog.funcs[f]?).bind (·.body)with|some c=>fF prog K S (K.L f) c|none=>true
theorem Hl(fn:Func):oI (λ_=>true) fn=true:=by unfold oI;rw[Array.all_eq_true_iff_forall_mem];intro x _;cases x<;>rfl
theorem qT{K:Cm}{l:List Nat}(i:K.L=λ_ _=>true)(k:K.F=prog.funcs)(d:K.E=λ_=>false)(j:∀f,K.X f=true->∀(r:Rn)(a a':DS),(∀g,K.G g=true->r g g)->AR prog.globals.size r a a'->SR prog K (NR K prog.globals.size λf=>l.contains f) r (callFunc f a) (callFunc f a'))(h:(l.all λf=>okF K (λf=>l.contains f) f)=true):Closed prog K λf=>l.contains f:=by refine⟨⟨⟨λf b=>by rw[k],λf b=>(by rw[d]at b;cases b),j,λf _=>by rw[i];cases prog.funcs[f]? with|none=>rfl|some fn=>exact Hl fn⟩,λf fn c b m e=>?_⟩,λf=>by rw[d]⟩;have:=List.all_eq_true.1 h f (by simpa using b);unfold okF at this;rw[m]at this;simp only[Option.bind_some,e]at this;exact this
def yq:List Nat:=[191,220,192,151,91,43,90,42,88,89,87,190,149,102,48,117,157,150,77,86,99,120,98,46,85,41,20]
def SA(f:FuncId):Bool:=yq.contains f
noncomputable def KA:Cm:=⟨prog.funcs,false,λ_=>false,λ_=>false,λ_=>false,λ_ _=>true,λ_=>false,λ_=>false⟩
theorem aef:(yq.all λf=>okF KA (λf=>yq.contains f) f)=true:=HW
theorem wJ:Closed prog KA SA:=qT rfl rfl rfl (λf a=>by cases a) aef
def zR:List Nat:=[157,77,102,48,117,60,59,120,98,58,26]
def SN(f:FuncId):Bool:=zR.contains f
noncomputable def KN:Cm:=⟨prog.funcs,true,λ_=>false,λ_=>false,λ_=>false,λ_ _=>true,λ_=>false,λ_=>false⟩
theorem acX:(zR.all λf=>okF KN (λf=>zR.contains f) f)=true:=HW
theorem aiP:Closed prog KN SN:=qT rfl rfl rfl (λf a=>by cases a) acX
def yP:List Nat:=[21,22,32,33,34,62,63,64,65,66,67,77,92,119,120]
def SF(f:FuncId):Bool:=yP.contains f
theorem aiZ:(yP.all λf=>okF KN (λf=>yP.contains f) f)=true:=HW
theorem CC:Closed prog KN SF:=qT rfl rfl rfl (λf a=>by cases a) aiZ
def qG(g:Nat):Bool:=[0,1,5,8,9].contains g
noncomputable def KC:Cm:=⟨prog.funcs,true,λ_=>false,qX,qG,λ_ _=>true,λ_=>false,λ_=>false⟩
def zD:List Nat:=[19,38,39,40,62,76,77,78,79,80,81,82,83,84,93,94,96,98,100,101,103,104,106,110,116,119,120,146,147,148,152,153,154,155,156,158,159,160,163,164,165,166,167,168,187,193,194,195,196,197,198,200,201,202,216,217,218,219,221,222,230,231,232,233,234,244,245]
def SC(f:FuncId):Bool:=zD.contains f
theorem Pb:(zD.all λf=>okF KC (λf=>zD.contains f) f)=true:=HW
theorem n188:(f188.name== "runtime.NumGoroutine")=false:=HW
theorem B9:f188.body.isNone=true:=HW
theorem BE:(Extern.findNext f188).isNone=true:=HW
theorem IU:Extern.find f188=some Extern.AbiNoEscape.same:=HW
theorem n189:(f189.name== "runtime.NumGoroutine")=false:=HW
theorem Dz:f189.body.isNone=true:=HW
theorem Hz:(Extern.findNext f189).isNone=true:=HW
theorem G4:Extern.find f189=some (Extern.BytealgMakeNoZero.makeNoZero f189.params f189.resultTypes):=HW
theorem QQ{S:FuncId->Bool}:∀f,KC.X f=true->∀(r:Rn)(a a':DS),(∀g,KC.G g=true->r g g)->AR prog.globals.size r a a'->SR prog KC (NR KC prog.globals.size S) r (callFunc f a) (callFunc f a'):=by intro f c r a a' _ b;simp only[KC,qX,Bool.or_eq_true,beq_iff_eq]at c;rcases c with rfl|rfl;(·exact mZ func188 func188 n188 B9 BE IU (Fa b));·exact mZ func189 func189 n189 Dz Hz G4 (GV _ _ b)
theorem afC:Closed prog KC SC:=qT rfl rfl rfl QQ Pb
theorem Lf(P:Program):aF P P.funcs=P:=rfl
theorem BQ:aF prog KA.F=prog:=Lf _
end Co
namespace Un
open Co
def Io:List Nat:=[220,191,192,190,99,157,151,149,150,77,46,102,91,90,88,89,87,86,85,48,120,118,43,42,41,117,98,61,20,60,59,58,31,29,30,28,27,26,25,16,15,14,13,12,11]
def SU(f:FuncId):Bool:=Io.contains f
noncomputable def Jm(f:FuncId):Bool:=match prog.funcs[f]? with|some fn=>(match fn.body with|some c=>eL prog SU c|none=>true)|none=>true
theorem abj:(Io.all Jm)=true:=HW
theorem adx:prog.follows .staticDataAhead=true:=HW
theorem LU:(prog.funcs.toList.all λf=>match f.body with|some c=>(readies c).all λg=>decide (g<prog.globals.size)|none=>true)=true:=HW
theorem ab5(g:Nat)(h:prog.globals.size<=g):prog.stepOf g=none:=by unfold Program.stepOf;rw[Array.findIdx?_eq_none_iff];intro f d;have a:=List.all_eq_true.1 LU f (by simpa using d);cases e:f.body with|none=>rfl|some c=>rw[e]at a;dsimp only at a;simp only[Option.map_some,Option.any_some];cases b:(readies c).contains g with|false=>rfl|true=>have:=of_decide_eq_true (List.all_eq_true.1 a g (by simpa using b));omega
theorem nj:Shut prog SU:=by refine⟨λf fn c b d a=>?_,adx,ab5⟩;have:=List.all_eq_true.1 abj f (by simpa[SU]using b);unfold Jm at this;rw[d]at this;dsimp only at this;rw[a]at this;exact this
end Un
namespace Co
open Ph Kw
section
variable{C:Cx}{RO:Nat->Prop}
structure uL(C:Cx)(RO:Nat->Prop):Prop where
 low:∀b,RO b->b<C.low/\b≠C.Cw/\b≠C.Wg/\b≠C.Rc
 sh:∀b,RO b->∀a:Addr,a.block=b->¬C.iF (.cell a)
 cw:C.Cw<C.low
 rc:C.Rc<C.low
def lp(RO:Nat->Prop)(v:HA):Prop:=∀a:Addr,RO a.block->v.frozen? a=false
def nC(RO:Nat->Prop)(v:HA):Prop:=∀b,RO b->∃(c:DS)(t:TypeId)(fz:Nat×Nat),v.heap[b]?=some (.cells c t fz)/\yG c.size fz/\0<c.size
structure j6(RO O:Nat->Prop)(r:Rn):Prop where
 own:∀a b,r a b->RO b\/O b
 ro:∀b,RO b->r b b
theorem nC.grow{v':HA}(h:nC RO v)(g:aZ v v'):nC RO v':=by intro b d;obtain⟨c,t,fz,h1,e,f⟩:=h b d;obtain⟨l,j,i,g2,_,k⟩:=g.row b c t fz h1;obtain⟨rfl,a⟩:=k e;exact⟨_,t,j,i,a,f⟩
theorem aeV{K:Cm}{r1 i r2 u:Rn}(S:WR K P r1 v1 w)(x:WR K P i v1' w')(T:WR K P r2 v2 w)(X:WR K P u v2' w')(k:r1.le i)(z:r2.le u)(E:aZ v1 v1')(g2:aZ v2 v2')(G:nC RO v1)(R:lp RO v2)(D:lp RO v2'){b:Nat}(l:RO b)(s1:r1 b b)(m:r2 b b):w'.heap[b]?=w.heap[b]?:=by obtain⟨c,t,fz,h1,Q,q⟩:=G b l;obtain⟨c',a7,k1,k2,_,C⟩:=E.row b c t fz h1;obtain⟨rfl,k5⟩:=C Q;obtain⟨o,o',a1,a2,a3⟩:=S.bG b b s1;obtain⟨p,p',r,j,b3⟩:=x.bG b b (k _ _ s1);obtain⟨o2,a4,d1,d2,d3⟩:=T.bG b b m;obtain⟨p2,a5,e1,e2,F⟩:=X.bG b b (z _ _ m);rw[h1]at a1;cases a1;rw[k1]at r;cases r;rw[a2]at d2;cases d2;rw[j]at e2;cases e2;cases a3 with|@cells _ cw _ _ fw f _=>cases b3 with|@cells _ H _ _ a0 I _=>have J:H=cw:=Bg x.one I (f.mono k);subst J;cases d3 with|@cells c2 _ _ f2 _ L M=>cases F with|@cells A _ _ a6 _ u1 N=>(have n2:0<c2.size:=by rw[L.1,<-f.1];exact q);(have B:0<A.size:=by rw[u1.1,<-f.1];exact q);(have v:∀{n:Nat}{cc:DS}{s:TypeId}{a e:Nat×Nat}{g:HA},g.heap[b]?=some (.cells cc s a)->0<n->lp RO g->nW K n a e->a=e/\¬a.1<a.2:=by intro n cc s a e g U O W h;(have y:∀off,(decide (a.1<=off)&&decide (off<a.2))=false:=λoff=>by have:=W ⟨b,off,none⟩ l;simp only[World.frozen?,U]at this;exact this);refine⟨h.elim id λh=>?_,λa8=>?_⟩;(·have h0:=h.2 0 O;have:=y 0;simp at this;omega);·have:=y a.1;simp at this;omega);obtain⟨V,q2⟩:=v d1 n2 R M;obtain⟨Y,Z⟩:=v e1 B D N;obtain⟨c3,f3,m1,_,d,_⟩:=g2.row b _ _ _ d1;rw[e1]at m1;cases m1;rw[a2,j,<-V,<-Y];rcases d with d|d;(·rw[d]);·exact absurd d Z
theorem WR.rl{K:Cm}{r:Rn}{g:HA}{own:Bool}{ag:Option Nat}(R:uL C RO)(h:WR K P r v w)(d:j6 RO O r)(k:Rl C O own ag w g):WR K P r v g:=by refine⟨λa b f=>?_,h.inj,h.one,h.low,h.bB⟩;obtain⟨o,l,h1,e,j⟩:=h.bG a b f;refine⟨o,l,h1,?_,j⟩;rcases d.own a b f with c|c;(·obtain⟨l1,m,n,i⟩:=R.low b c;rw[k.low b l1 m n i];exact e);·rw[k.mine b c];exact e
theorem FK{r1 q r2 A:Rn}{K:Cm}{wr:Option Nat}{es:Array Event}(R:uL C RO)(M:WR K P r1 v1 w)(s:WR K P q v1' w')(T:WR K P r2 v2 w)(H:WR K P A v2' w')(f1:Eff r1 q v1 w w')(f2:Eff r2 A v2 w w')(g1:aZ v1 v1')(g2:aZ v2 v2')(z:nC RO v1)(N:lp RO v2)(S:lp RO v2')(d1:j6 RO O r1)(d2:j6 RO O r2)(V:∀b,O b->C.low<=b)(hl:C.low<=w.heap.size)(U:∀e∈es,jx K q v1 e)(J:K.x=false):(∀b,b<C.low->w'.heap[b]?=w.heap[b]?)/\Dn C O (λb=>O b\/(w.heap.size<=b/\b<w'.heap.size)) false false wr w w' es/\j6 RO (λb=>O b\/(w.heap.size<=b/\b<w'.heap.size)) q/\j6 RO (λb=>O b\/(w.heap.size<=b/\b<w'.heap.size)) A:=by
 have G:∀{r u:Rn}{v v':HA},WR K P u v' w'->Eff r u v w w'->j6 RO O r->j6 RO (λb=>O b\/(w.heap.size<=b/\b<w'.heap.size)) u:=by intro r u v v' L f d;refine⟨λa b j=>?_,λb i=>f.le _ _ (d.ro b i)⟩;rcases f.new a b j with h|h;(·exact(d.own a b h).elim .inl λh=>.inr (.inl h));·exact .inr (.inr ⟨h.2,(L.lt j).2⟩)
 have D1:=G s f1 d1;have D2:=G H f2 d2;have keep:∀b,b<w.heap.size->¬O b->w'.heap[b]?=w.heap[b]?:=by intro b i B;by_cases y:∃a,r1 a b;(·obtain⟨a,E⟩:=y;rcases d1.own a b E with h|h;(·exact aeV M s T H f1.le f2.le g1 g2 z N S h (d1.ro b h) (d2.ro b h));·exact absurd h B);·exact f1.keep b i λa E=>y ⟨a,E⟩
 have lo:∀b,b<C.low->w'.heap[b]?=w.heap[b]?:=λb i=>keep b HU λh=>by have:=V b h;omega
 refine⟨lo,⟨f1.tape,f1.output,f1.os,f1.size,λb=>Iff.rfl,λb i B _ _=>keep b i B,λx m g o=>⟨g,?_,λ_=>rfl⟩,λcs o=>⟨cs,?_,λ_ _=>rfl⟩,λe D=>?_,λh=>by cases h⟩,D1,D2⟩;·exact⟨(lo _ R.cw).trans o.1,o.2⟩
 ·exact⟨(lo _ R.rc).trans o.1,o.2⟩
 ·obtain⟨D,I⟩:=U e D;obtain⟨a0,wt,sy⟩:=e;rcases D with⟨a,b,j,n,k,p⟩|⟨f,y⟩|h|⟨a,b,j,n,k,p,W⟩;(·dsimp only at n k p;subst n k;refine .inr (.inl ⟨_,wt,rfl,?_⟩);rcases D1.own a.block b j with i|i;(·right;left;have F:a.block=b:=s.inj _ _ _ j (D1.ro b i);obtain⟨l1,Y,Z,X⟩:=R.low b i;refine⟨?_,l1,Z,X,λh=>absurd h Y,R.sh b i _ rfl⟩;cases wt with|false=>rfl|true=>exfalso;obtain⟨k1,k2⟩:=p rfl;obtain⟨c,t,fz,l,Q,_⟩:=z b i;rw[<-F]at l;have:=Q _ (k2 _ _ _ l);simp only[World.frozen?,l]at k1;simp at k1;omega);·exact .inl i);(·exact absurd y (I f));(·exact .inl h);·dsimp only at n k p;(have k:wt=false:=k.elim id λh=>by rw[J]at h;cases h);subst n k p;refine .inr (.inr ⟨b,rfl,?_⟩);rcases D1.own a b j with i|i;(·have F:a=b:=s.inj _ _ _ j (D1.ro b i);obtain⟨c,t,fz,l,_⟩:=z b i;rw[<-F]at l;exact absurd l (W _ _ _));·exact i
end
theorem yT{G:Nat}{r:Rn}{y:HH}(h:cW x)(k:VR G r x y):y=x:=by induction h generalizing y with|bool b|int k' n|string s|cK|cT l c|fn f|nilFunc|nilIface=>cases k;rfl|iface t h e=>(cases k with|iface _ d=>rw[e d])|agg h e=>(cases k with|agg g d=>congr 1;exact Array.ext g.symm λi a b=>e i b (d i b a))|tuple h e=>cases k with|tuple g d=>congr 1;exact Array.ext g.symm λi a b=>e i b (d i b a)
section
variable{C:Cx}{P:Program}{K:Cm}{RO:Nat->Prop}{S:FuncId->Bool}{Q1 Q2:HH->HA->Prop}{I:HA->Prop}{X:HH}{c:Frame}{cs:Fi}{ag wr:Option Nat}{Stop:(Nat->Prop)->Gq->HA->Prop}
structure Kept(C:Cx)(ag:Option Nat)(I:HA->Prop):Prop where
 low:∀w,I w->C.low<=w.heap.size
 rl:∀O w w₁,I w->Rl C O false ag w w₁->I w₁
 dn:∀w w',I w->w.heap.size<=w'.heap.size->(∀b,b<C.low->w'.heap[b]?=w.heap[b]?)->I w'
theorem AF(j:iA P K S){r:Rn}{fr fr':Frame}(a:FR P K S r fr fr')(f:WR K P r v w)(s:fr.leaving P v (.returned x))(m':Bool)(c:Frame)(cs:Fi):∃x' w1 r1 es,stepG (aF P K.F) m' (VG fr' (c::cs)) w=.go (VG (c.finish x') cs) w1 es/\VR P.globals.size r1 x x'/\WR K P r1 v w1/\Eff r r1 v w w1/\∀e∈es,jx K r1 v e:=by obtain⟨h1,C,F,fn,i,u⟩:=s;have y:WR K P r (aD v w.tape w.drawn) w:=⟨f.bG,f.inj,f.one,f.low,f.bB⟩;have A:TW (aD v w.tape w.drawn) w:=λ_ _=>rfl;have h:=Sem.runT_fst P (results fn fr.tmps) v #[];rw[u]at h;cases l:(results fn fr.tmps).runT P v #[]with|mk bT es=>rw[l]at h;dsimp only at h;subst h;obtain⟨D,g2,g3⟩:=(kp (P:=P) (K:=K) fn (j.live a.fn.2 i) a.tmps).tape v w #[] x v es f l;have n:=g3 w.tape w.drawn (λk q H=>by omega);rw[Nat.sub_self,Nat.add_zero]at n;obtain⟨⟨b,w1,new,r1,k1,t,g,G,d,p⟩,E⟩:=(kp (P:=P) (K:=K) fn (j.live a.fn.2 i) a.tmps).mW (aD v w.tape w.drawn) w #[] #[] x _ _ y A n;rw[Array.empty_append]at k1;refine⟨b,w1,r1,seen (aF P K.F) fr'.fn new,?_,t,⟨g.bG,g.inj,g.one,g.low,g.bB⟩,⟨d.tape,d.output,d.os,d.size,d.keep,d.new,d.le⟩,λe m=>⟨p e (fv m),wY m⟩⟩;have m1:fr'.mode=.returning:=a.mode.trans h1;have z:=a.defers.2;have B:=a.kind.2;(have o:(aF P K.F).funcs[fr'.fn]?=some fn:=by rw[a.fn.1];exact(j.same _ a.fn.2).trans i);simp only[stepG,m1,unwind,z,o,k1,doReturn,B,GStep.after,Array.append_empty]
theorem Ends.Qv(a0:K.x=false)(hP:C.P=aF P K.F)(y:Closed P K S)(R:uL C RO)(Kp:Kept C ag I)(a9:∀x v',Q1 x v'->x=X)(hX:cW X)(Y:∀x v',Q2 x v'->lp RO v')(k:∀O' d,(∀b,O' b->C.low<=b)->I d->av C false false false ag wr Stop O' (VG (c.finish X) cs) d){H:Frame}{l1:Fi}(a7:Ends P (Bs P) Q1 H l1 v1):∀{j fr':Frame}{A l':Fi}{v2 w:HA}{r1 r2:Rn}{O:Nat->Prop},Ends P (Bs P) Q2 j A v2->FR P K S r1 H fr'->KR P K S r1 (Bs P) (c::cs) l1 l'->WR K P r1 v1 w->aT v1->(H.mode=.run\/H.mode=.returning)->FR P K S r2 j fr'->KR P K S r2 (Bs P) (c::cs) A l'->WR K P r2 v2 w->aT v2->nC RO v1->j6 RO O r1->j6 RO O r2->(∀b,O b->C.low<=b)->I w->av C false false false ag wr Stop O (VG fr' l') w:=by have a1:∀{O:Nat->Prop}{w w':HA},(∀b,O b->C.low<=b)->I w->∀b,(O b\/(w.heap.size<=b/\b<w'.heap.size))->C.low<=b:=λm F b r=>r.elim (m b) λh=>Nat.le_trans (Kp.low _ F) h.1;induction a7 with|@hH fr v x h D=>(intro j fr' A l' v2 w r1 r2 O U q z i a4 N o s g T J d1 d2 m F;(have a8:l'=c::cs:=by generalize W:Bs P=B at z;cases z with|base=>rfl|cons hf _ k=>exfalso;obtain⟨aI,t1,_⟩:=k.aI;have:=congrArg List.length W;rw[t1]at this;simp[Bs]at this);subst a8;have ah:A=Bs P:=s.Ky rfl;subst ah;(have G:j.mode=.returning:=by rw[<-o.mode,q.mode];exact h.1);cases U with|step r _ _ _ _ _=>exact absurd ⟨G,rfl⟩ r|@hH _ _ x2 t a2=>have hx:=a9 _ _ D;subst hx;refine .step rfl λd n=>?_;have p:=Kp.rl _ _ _ F n;have i:=i.rl R d1 n;have g:=g.rl R d2 n;obtain⟨x',w',ab,es,s1,s2,s3,s4,s5⟩:=AF y.toiA q i h false c cs;obtain⟨al,ai,aj,a6,p1,V,L,E,p5⟩:=AF y.toiA o g t false c cs;rw[s1]at p1;simp only[GStep.go.injEq]at p1;obtain⟨_,rfl,rfl⟩:=p1;have M:=Y _ _ a2;obtain⟨t1,t2,t3,t4⟩:=FK (wr:=wr) R i s3 g L s4 E (aZ.refl _) (aZ.refl _) J M M d1 d2 m (Kp.low _ p) s5 a0;have aa:=yT hX s2;subst aa;exact⟨_,w',es,_,by rw[hP];exact s1,t2,rfl,k _ w' (a1 m p) (Kp.dn _ _ p s4.size t1)⟩)|@step fr l v r f kk u h e ih=>intro j fr' A l' v2 w r1 r2 O U q z i a4 N o s g T J d1 d2 m F;(have G:j.mode=.run\/j.mode=.returning:=by rw[<-o.mode,q.mode];exact N);cases U with|@hH _ _ x2 t a2=>(exfalso;apply r;refine⟨by rw[<-q.mode,o.mode];exact t.1,z.Ky ?_⟩;generalize W:Bs P=B at s;cases s with|base=>rfl|cons hf _ k=>exfalso;obtain⟨aI,t1,_⟩:=k.aI;have:=congrArg List.length W;rw[t1]at this;simp[Bs]at this)|step a3 f2 ac u2 t e2=>refine .step rfl λd n=>?_;have p:=Kp.rl _ _ _ F n;have i:=i.rl R d1 n;have g:=g.rl R d2 n;have M:lp RO v2:=Cf y (RO:=RO) (Q:=Q2) (λx v' D a Z=>Y x v' D a Z) (.step a3 f2 ac u2 t e2) o s g T G;obtain⟨ak,ad⟩:=h d.tape d.drawn;obtain⟨a6,ae⟩:=t d.tape d.drawn;obtain⟨n1,m1,ab,am,aq,w',af,q1,q2,q3,q4,q5,q6,q7⟩:=qN (m':=false) y r ad (q9 (e d.tape d.drawn)) q z i a4 N;obtain⟨n2,m2,aj,an,ao,ai,ap,p1,V,L,E,p5,p6,p7⟩:=qN (m':=false) y a3 ae (q9 (e2 d.tape d.drawn)) o s g T G;rw[q1]at p1;simp only[GStep.go.injEq,Goroutine.mk.injEq,and_true]at p1;obtain⟨⟨rfl,rfl⟩,rfl,rfl⟩:=p1;have a5:lp RO (u2 d.tape d.drawn):=Cf y (RO:=RO) (Q:=Q2) (λx v' D a Z=>Y x v' D a Z) (e2 d.tape d.drawn) V L E n2 m2;obtain⟨t1,t2,t3,t4⟩:=FK (wr:=wr) R i q4 g E q5 p5 q6 p6 J M a5 d1 d2 m (Kp.low _ p) q7 a0;exact⟨_,w',af,_,by rw[hP];exact q1,t2,rfl,ih d.tape d.drawn (e2 d.tape d.drawn) q2 q3 q4 n1 m1 V L E n2 (J.grow q6) t3 t4 (a1 m p) (Kp.dn _ _ p q5.size t1)⟩
end
end Co
