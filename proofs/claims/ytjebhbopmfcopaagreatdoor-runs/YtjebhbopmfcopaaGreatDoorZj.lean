/- Runs, a part. -/
import Derived.Test.YtjebhbopmfcopaaGreatDoorZe
import Derived.Test.YtjebhbopmfcopaaGreatDoorZi
set_option maxRecDepth 100000
namespace Go.Proofs.YtjebhbopmfcopaaGreatDoor
open Go.Proofs Tryz
noncomputable section
variable{r:Int}
namespace Kd
open Conc Kw Kl
set_option maxRecDepth 100000
def qH(a b:Int):Int:=IntKind.u64.wrap (BitVec.ofInt 64 a&&&BitVec.ofInt 64 b).toNat
def gw(cnt wt:Nat):Int:=(cnt:Int)*4294967296+wt
def GO(p:Nat->Nat->Bool):Bool:=(List.range 64).all λa=>(List.range 2).all λb=>p a b
theorem mG{p:Nat->Nat->Bool}(h:GO p=true){a b:Nat}(ha:a<=63)(hb:b<=1):p a b=true:=by unfold GO at h;simp only[List.all_eq_true,List.mem_range]at h;exact h a (by omega) b (by omega)
section
variable{a b:Nat}(ha:a<=63)(hb:b<=1)
include ha hb
theorem Ao:qH (gw a b) 2147483648=0:=eq_of_beq (mG (p:=λa b=>qH (gw a b) 2147483648==0) (by kernel_rfl) ha hb)
theorem xK:qH (gw a b) 2147483647=b:=eq_of_beq (mG (p:=λa b=>qH (gw a b) 2147483647==b) (by kernel_rfl) ha hb)
theorem yt:(gw a b).fdiv (2^32)=a:=eq_of_beq (mG (p:=λa b=>(gw a b).fdiv (2^32)==a) (by kernel_rfl) ha hb)
theorem ze:IntKind.i32.wrap (a:Int)=a:=eq_of_beq (mG (p:=λa _=>IntKind.i32.wrap (a:Int)==a) (by kernel_rfl) ha hb)
theorem RZ:IntKind.u32.wrap (b:Int)=b:=eq_of_beq (mG (p:=λ_ b=>IntKind.u32.wrap (b:Int)==b) (by kernel_rfl) ha hb)
theorem VY(h1:1<=a):IntKind.u64.wrap (gw a b+18446744069414584320)=gw (a-1) b:=by have:=mG (p:=λa b=>a==0||IntKind.u64.wrap (gw a b+18446744069414584320)==gw (a-1) b) (by kernel_rfl) ha hb;(have h0:¬a=0:=by omega);simpa[h0]using this
end
section
variable{P:Program}{t:TypeId}{a b:Int}
theorem pT(h:qH a b=r):calm? (α:=Next) P (do pure (.value (<-Go.binOp .and t (.int .u64 a) (.int .u64 b))))=some (.value (.int .u64 r)):=by subst h;rfl
theorem wO(h:a.fdiv (2^32)=r):calm? (α:=Next) P (do pure (.value (<-Go.binOp .shr t (.int .u64 a) (.int .i64 32))))=some (.value (.int .u64 r)):=by subst h;rfl
theorem Jv(k:IntKind){r:Bool}(h:decide (a<b)=r):calm? (α:=Next) P (do pure (.value (<-Go.binOp .lss t (.int k a) (.int k b))))=some (.value (.bool r)):=by subst h;cases k<;>rfl
end
end Kd
namespace Ko
open Conc Kw Kl
set_option maxRecDepth 100000
structure Wk where
 b:Nat
 wg:Nat
 cb:Nat
 vc:Fi
 px:Fi
 ra:Option Addr
 N:Nat
 rc:Nat
 bd:Int
 Rc:Nat
 n:Int:=0
 ok:Bool:=false
 ar:Addr:=default
 rd:B6:=#[]
 am:Addr:=default
 aI:B6:=#[]
 er:Int:=0
 J:Nat->Fi:=λ_=>undef
abbrev Wk.p(q:Wk)(o:Nat):Fi:=.pointer (some ⟨q.b,o,none⟩)
abbrev Wk.cm(q:Wk):Fi:=.slice (some ⟨q.Rc,0,none⟩) q.N q.N
noncomputable def bs:Frame:={(default:Frame)with fn:=prog.funcs.size,mode:=.panicking [goexitEntry]}
noncomputable def jO(q:Wk):Dm:=R (Frame.enter prog 69 #[.pointer (some ⟨q.wg,0,none⟩),.pointer (some ⟨q.cb,0,none⟩)] .deferred) [bs]
noncomputable def j6(q:Wk):Dm:=aK prog 69 2 20 (jO q)
theorem Qc(q:Wk):semAt (j6 q)=some (do pure (.value (<-Instr.loadAt 129 (.pointer (some ⟨q.cb,0,none⟩))))):=by kernel_rfl
noncomputable def lz(q:Wk):Dm:=aK prog 69 3 20 (fin (j6 q) (q.p 0))
def cl(q:Wk):Frame:=(lz q).frame
noncomputable def oe(q:Wk):Dm:=R (Frame.enter prog 71 #[q.p 0] .normal) [cl q,bs]
theorem abN(q:Wk):bQ prog (lz q)=some (oe q):=by kernel_rfl
noncomputable def tw(d n:Nat)(g:Dm):Dm:=aK prog 71 d n g
def tk(q:Wk)(c:Frame):Kt.Tk:={b:=q.b,c:=c,cs:=[cl q,bs],ra:=q.ra,N:=q.N,rc:=q.rc,n:=0}
def W0(q:Wk):Dm:=tw 6 20 (oe q)
theorem abW(q:Wk):bQ prog (W0 q)=some (Kt.ju (tk q (W0 q).frame)):=by kernel_rfl
def X2(q:Wk):B6:=#[q.p 0,q.J 1,.int .i64 q.n,.bool q.ok,q.J 4,q.J 5,q.J 6,q.J 7,q.J 8,q.J 9,q.J 10,q.J 11,q.J 12,q.J 13,q.J 14,q.J 15,q.J 16,q.J 17,q.J 18,q.J 19,q.J 20,q.J 21,q.J 22,q.J 23,q.J 24,q.J 25,q.J 26,q.J 27,q.J 28,q.J 29,q.J 30,q.J 31,q.J 32,q.J 33,q.J 34,q.J 35,q.J 36,q.J 37,q.J 38,q.J 39,q.J 40,q.J 41,q.J 42,q.J 43,q.J 44,q.J 45,q.J 46,q.J 47,q.J 48,q.J 49,q.J 50,q.J 51,q.J 52]
def WH(q:Wk):Dm:=eG (tw 9 60 (R ((W0 q).frame.finish (.tuple #[.int .i64 0,.bool true])) [cl q,bs])) (X2 q)
theorem QH(q:Wk)(n:Int)(k:Bool):tw 9 60 (R ((W0 q).frame.finish (.tuple #[.int .i64 n,.bool k])) [cl q,bs])=WH {q with n:=n,ok:=k,J:=ak (tw 9 60 (R ((W0 q).frame.finish (.tuple #[.int .i64 n,.bool k])) [cl q,bs]))}:=by kernel_rfl
noncomputable def Wz(q:Wk):Dm:=aK prog 68 12 90 (WH {q with ok:=false})
def cz(q:Wk):Frame:=(Wz q).callers.getD 1 default
theorem RS(q:Wk):Wz q=Kd.Wv ⟨q.wg,cz q,[bs]⟩:=by kernel_rfl
theorem Vo(q:Wk)(w:DS):stepG prog false (R {cz q with mode:=.returning} [bs]) w=.go (R bs []) w #[]:=by kernel_rfl
theorem Sg(w:DS):stepG prog false (R bs []) w=.go {R bs []with status:=.finished} w #[]:=by kernel_rfl
noncomputable def Wg(q:Wk):Dm:=aM prog 40 (WH {q with ok:=true})
def KO:Wk:={b:=0,wg:=0,cb:=0,vc:=undef,px:=undef,ra:=none,N:=0,rc:=0,bd:=0,Rc:=0}
def fM:Array Oper:=(da (Wg KO)).getD #[]
theorem sn(q:Wk):da (Wg q)=some fM:=by kernel_rfl
theorem kA:sound fM=true:=by kernel_rfl
theorem sA:fM.size=30:=by kernel_rfl
theorem ahf(q:Wk):(Wg q).frame.kind=.normal:=by kernel_rfl
def V7(q:Wk)(i:Nat):Fi:=match i with|2=>q.p 4|3=>q.cm|4|17=>.int .i64 q.n|8=>q.vc|11=>q.p 1|12=>q.px|15=>q.p 2|16=>.slice q.ra q.N q.rc|18=>.pointer (some q.ar)|19=>.agg q.rd|22=>q.p 3|23=>.int .i64 q.bd|24|25=>.tuple #[.agg q.aI,.int .i64 q.er]|26=>.agg q.aI|27=>.int .i64 q.er|28=>.pointer (some q.am)|29=>undef|_=>q.p 0
def E7(q:Wk):Dm:=bG (Wg q) fM (V7 q)
def x7(q:Wk)(i:Nat):Option (Sem Next):=(fM[i]?).map λo=>execOp (E7 q).frame.eval o
theorem V1(q:Wk):(x7 q 0).map (calm? prog)=some (some (.value (V7 q 0))):=by kernel_rfl
theorem K9(q:Wk):(x7 q 1).map (calm? prog)=some (some (.value (V7 q 1))):=by kernel_rfl
theorem Wb(q:Wk):(x7 q 2).map (calm? prog)=some (some (.value (V7 q 2))):=by kernel_rfl
theorem PG(q:Wk):(x7 q 4).map (calm? prog)=some (some (.value (V7 q 4))):=by kernel_rfl
theorem agx(q:Wk):(x7 q 5).map (calm? prog)=some (some (.value (V7 q 5))):=by kernel_rfl
theorem RP(q:Wk):(x7 q 6).map (calm? prog)=some (some (.value (V7 q 6))):=by kernel_rfl
theorem RY(q:Wk):(x7 q 7).map (calm? prog)=some (some (.value (V7 q 7))):=by kernel_rfl
theorem abU(q:Wk):(x7 q 9).map (calm? prog)=some (some (.value (V7 q 9))):=by kernel_rfl
theorem Qy(q:Wk):(x7 q 10).map (calm? prog)=some (some (.value (V7 q 10))):=by kernel_rfl
theorem L8(q:Wk):(x7 q 11).map (calm? prog)=some (some (.value (V7 q 11))):=by kernel_rfl
theorem afi(q:Wk):(x7 q 13).map (calm? prog)=some (some (.value (V7 q 13))):=by kernel_rfl
theorem ahg(q:Wk):(x7 q 14).map (calm? prog)=some (some (.value (V7 q 14))):=by kernel_rfl
theorem PM(q:Wk):(x7 q 15).map (calm? prog)=some (some (.value (V7 q 15))):=by kernel_rfl
theorem agE(q:Wk):(x7 q 17).map (calm? prog)=some (some (.value (V7 q 17))):=by kernel_rfl
theorem afp(q:Wk):(x7 q 20).map (calm? prog)=some (some (.value (V7 q 20))):=by kernel_rfl
theorem Ya(q:Wk):(x7 q 21).map (calm? prog)=some (some (.value (V7 q 21))):=by kernel_rfl
theorem acT(q:Wk):(x7 q 22).map (calm? prog)=some (some (.value (V7 q 22))):=by kernel_rfl
theorem acm(q:Wk):(x7 q 25).map (calm? prog)=some (some (.value (V7 q 25))):=by kernel_rfl
theorem Wm(q:Wk):(x7 q 26).map (calm? prog)=some (some (.value (V7 q 26))):=by kernel_rfl
theorem aaV(q:Wk):(x7 q 27).map (calm? prog)=some (some (.value (V7 q 27))):=by kernel_rfl
theorem LZ(q:Wk):x7 q 3=some (do pure (.value (<-Instr.loadAt 46 (q.p 4)))):=by kernel_rfl
theorem Pw(q:Wk):x7 q 8=some (do pure (.value (<-Instr.loadAt 29 (q.p 0)))):=by kernel_rfl
theorem TN(q:Wk):x7 q 12=some (do pure (.value (<-Instr.loadAt 31 (q.p 1)))):=by kernel_rfl
theorem Qu(q:Wk):x7 q 16=some (do pure (.value (<-Instr.loadAt 88 (q.p 2)))):=by kernel_rfl
theorem ahY(q:Wk):x7 q 23=some (do pure (.value (<-Instr.loadAt 3 (q.p 3)))):=by kernel_rfl
theorem Qr(q:Wk):x7 q 18=some (do pure (.value (<-Instr.indexAt 88 (.slice q.ra q.N q.rc) (.int .i64 q.n)))):=by kernel_rfl
theorem Tz(q:Wk):x7 q 19=some (do pure (.value (<-Instr.loadAt 56 (.pointer (some q.ar))))):=by kernel_rfl
theorem ZI(q:Wk):(x7 q 24).map (calm? prog)=some (some (.enter 20 #[q.vc,q.px,.agg q.rd,.int .i64 q.bd])):=by kernel_rfl
theorem Sx(q:Wk):x7 q 28=some (do pure (.value (<-Instr.indexAt 46 q.cm (.int .i64 q.n)))):=by kernel_rfl
theorem abC(q:Wk):x7 q 29=some (do Instr.storeAt 52 (.pointer (some q.am)) (.agg q.aI);pure .skip):=by kernel_rfl
theorem M6:(fM[29]?).map (·.dst)=some none:=by kernel_rfl
def W4(q:Wk):Dm:=tw 48 40 (E7 q)
theorem vb(q:Wk):semAt (W4 q)=some (do pure (.value (<-Instr.loadAt 46 (q.p 4)))):=by kernel_rfl
def W5(q:Wk):Dm:=tw 50 20 (fin (W4 q) q.cm)
theorem SU(q:Wk):semAt (W5 q)=some (do pure (.value (<-Instr.indexAt 46 q.cm (.int .i64 q.n)))):=by kernel_rfl
def W6(q:Wk):Dm:=tw 51 20 (fin (W5 q) (.pointer (some q.am)))
theorem KW(q:Wk):semAt (W6 q)=some (do pure (.value (<-Instr.loadAt 52 (.pointer (some q.am))))):=by kernel_rfl
def W7(q:Wk):Dm:=tw 52 20 (fin (W6 q) (.agg q.aI))
def cn(q:Wk)(v:Int)(s:Fo)(rb:Nat):Kc.Cn:={b:=q.b,c:=(W7 q).frame,cs:=[cl q,bs],r:=q.aI,v:=v,s:=s,rb:=rb}
theorem Yt(q:Wk)(v:Int)(s:Fo)(rb:Nat):bQ prog (W7 q)=some (Kc.od (cn q v s rb)):=by kernel_rfl
def W8(q:Wk):Dm:=tw 12 40 (R ((W7 q).frame.finish (.tuple #[])) [cl q,bs])
theorem X0(q:Wk):bQ prog (W8 q)=some (Kt.ju (tk q (W8 q).frame)):=by kernel_rfl
theorem YK(q:Wk)(n:Int)(k:Bool):tw 9 60 (R ((W8 q).frame.finish (.tuple #[.int .i64 n,.bool k])) [cl q,bs])=WH {q with n:=n,ok:=k,J:=ak (tw 9 60 (R ((W8 q).frame.finish (.tuple #[.int .i64 n,.bool k])) [cl q,bs]))}:=by kernel_rfl
end Ko
end
end Go.Proofs.YtjebhbopmfcopaaGreatDoor
