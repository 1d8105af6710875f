/- Agree, a part. -/
import Derived.Test.YtjebhbopmfcopaaGreatDoorZR
import Derived.Test.YtjebhbopmfcopaaGreatDoorZS
set_option maxRecDepth 100000
namespace Go.Proofs.YtjebhbopmfcopaaGreatDoor
open Go.Proofs Tryz
noncomputable section
variable{r:Int}
namespace Ko
open Conc Kw Kl
structure Wk where
 b:Nat
 wg:Nat
 cb:Nat
 vc:HH
 px:HH
 ra:Option Addr
 N:Nat
 rc:Nat
 bd:Int
 Rc:Nat
 n:Int:=0
 ok:Bool:=false
 ar:Addr:=default
 rd:DS:=#[]
 am:Addr:=default
 aJ:DS:=#[]
 er:Int:=0
 J:Nat->HH:=λ_=>undef
abbrev Wk.p(q:Wk)(o:Nat):HH:=.pointer (some ⟨q.b,o,none⟩)
abbrev Wk.aU(q:Wk):HH:=.slice (some ⟨q.Rc,0,none⟩) q.N q.N
noncomputable def bs:Frame:={(default:Frame)with fn:=prog.funcs.size,mode:=.panicking [goexitEntry]}
noncomputable def jK(q:Wk):Gq:=R (Frame.enter prog 69 #[.pointer (some ⟨q.wg,0,none⟩),.pointer (some ⟨q.cb,0,none⟩)] .deferred) [bs]
noncomputable def kI(q:Wk):Gq:=aL prog 69 2 20 (jK q)
theorem WT(q:Wk):semAt (kI q)=some (do pure (.value (<-Instr.loadAt 129 (.pointer (some ⟨q.cb,0,none⟩))))):=HW
noncomputable def mI(q:Wk):Gq:=aL prog 69 3 20 (fin (kI q) (q.p 0))
def cl(q:Wk):Frame:=(mI q).frame
noncomputable def nR(q:Wk):Gq:=R (Frame.enter prog 71 #[q.p 0] .normal) [cl q,bs]
theorem aeh(q:Wk):bY prog (mI q)=some (nR q):=HW
noncomputable def tw(d n:Nat)(g:Gq):Gq:=aL prog 71 d n g
def tk(q:Wk)(c:Frame):Kt.Tk:={b:=q.b,c:=c,cs:=[cl q,bs],ra:=q.ra,N:=q.N,rc:=q.rc,n:=0}
def W0(q:Wk):Gq:=tw 6 20 (nR q)
theorem OM(q:Wk):bY prog (W0 q)=some (Kt.ji (tk q (W0 q).frame)):=HW
def abP(q:Wk):DS:=#[q.p 0,q.J 1,.int .i64 q.n,.bool q.ok,q.J 4,q.J 5,q.J 6,q.J 7,q.J 8,q.J 9,q.J 10,q.J 11,q.J 12,q.J 13,q.J 14,q.J 15,q.J 16,q.J 17,q.J 18,q.J 19,q.J 20,q.J 21,q.J 22,q.J 23,q.J 24,q.J 25,q.J 26,q.J 27,q.J 28,q.J 29,q.J 30,q.J 31,q.J 32,q.J 33,q.J 34,q.J 35,q.J 36,q.J 37,q.J 38,q.J 39,q.J 40,q.J 41,q.J 42,q.J 43,q.J 44,q.J 45,q.J 46,q.J 47,q.J 48,q.J 49,q.J 50,q.J 51,q.J 52]
def WH(q:Wk):Gq:=eM (tw 9 60 (R ((W0 q).frame.finish (.tuple #[.int .i64 0,.bool true])) [cl q,bs])) (abP q)
theorem N1(q:Wk)(n:Int)(k:Bool):tw 9 60 (R ((W0 q).frame.finish (.tuple #[.int .i64 n,.bool k])) [cl q,bs])=WH {q with n:=n,ok:=k,J:=au (tw 9 60 (R ((W0 q).frame.finish (.tuple #[.int .i64 n,.bool k])) [cl q,bs]))}:=HW
noncomputable def Wz(q:Wk):Gq:=aL prog 68 12 90 (WH {q with ok:=false})
def cz(q:Wk):Frame:=(Wz q).callers.getD 1 default
theorem QJ(q:Wk):Wz q=Kd.Wv ⟨q.wg,cz q,[bs]⟩:=HW
theorem Rs(q:Wk)(w:HA):stepG prog false (R {cz q with mode:=.returning} [bs]) w=.go (R bs []) w #[]:=HW
theorem aau(w:HA):stepG prog false (R bs []) w=.go {R bs []with status:=.finished} w #[]:=HW
noncomputable def Wg(q:Wk):Gq:=aN prog 40 (WH {q with ok:=true})
def q00:Wk:={b:=0,wg:=0,cb:=0,vc:=undef,px:=undef,ra:=none,N:=0,rc:=0,bd:=0,Rc:=0}
def fO:Array Oper:=(da (Wg q00)).getD #[]
theorem sK(q:Wk):da (Wg q)=some fO:=HW
theorem kX:sound fO=true:=HW
theorem qu:fO.size=30:=HW
theorem VE(q:Wk):(Wg q).frame.kind=.normal:=HW
def V7(q:Wk)(i:Nat):HH:=match i with|2=>q.p 4|3=>q.aU|4|17=>.int .i64 q.n|8=>q.vc|11=>q.p 1|12=>q.px|15=>q.p 2|16=>.slice q.ra q.N q.rc|18=>.pointer (some q.ar)|19=>.agg q.rd|22=>q.p 3|23=>.int .i64 q.bd|24|25=>.tuple #[.agg q.aJ,.int .i64 q.er]|26=>.agg q.aJ|27=>.int .i64 q.er|28=>.pointer (some q.am)|29=>undef|_=>q.p 0
def E7(q:Wk):Gq:=bz (Wg q) fO (V7 q)
def x7(q:Wk)(i:Nat):Option (Sem Next):=(fO[i]?).map λo=>execOp (E7 q).frame.eval o
theorem ML(q:Wk):(x7 q 0).map (calm? prog)=some (some (.value (V7 q 0))):=HW
theorem abN(q:Wk):(x7 q 1).map (calm? prog)=some (some (.value (V7 q 1))):=HW
theorem aez(q:Wk):(x7 q 2).map (calm? prog)=some (some (.value (V7 q 2))):=HW
theorem aeF(q:Wk):(x7 q 4).map (calm? prog)=some (some (.value (V7 q 4))):=HW
theorem aeW(q:Wk):(x7 q 5).map (calm? prog)=some (some (.value (V7 q 5))):=HW
theorem N8(q:Wk):(x7 q 6).map (calm? prog)=some (some (.value (V7 q 6))):=HW
theorem aep(q:Wk):(x7 q 7).map (calm? prog)=some (some (.value (V7 q 7))):=HW
theorem aiX(q:Wk):(x7 q 9).map (calm? prog)=some (some (.value (V7 q 9))):=HW
theorem Ve(q:Wk):(x7 q 10).map (calm? prog)=some (some (.value (V7 q 10))):=HW
theorem aed(q:Wk):(x7 q 11).map (calm? prog)=some (some (.value (V7 q 11))):=HW
theorem adu(q:Wk):(x7 q 13).map (calm? prog)=some (some (.value (V7 q 13))):=HW
theorem L3(q:Wk):(x7 q 14).map (calm? prog)=some (some (.value (V7 q 14))):=HW
theorem Oa(q:Wk):(x7 q 15).map (calm? prog)=some (some (.value (V7 q 15))):=HW
theorem agQ(q:Wk):(x7 q 17).map (calm? prog)=some (some (.value (V7 q 17))):=HW
theorem ajk(q:Wk):(x7 q 20).map (calm? prog)=some (some (.value (V7 q 20))):=HW
theorem ajo(q:Wk):(x7 q 21).map (calm? prog)=some (some (.value (V7 q 21))):=HW
theorem Uu(q:Wk):(x7 q 22).map (calm? prog)=some (some (.value (V7 q 22))):=HW
theorem ajz(q:Wk):(x7 q 25).map (calm? prog)=some (some (.value (V7 q 25))):=HW
theorem Zu(q:Wk):(x7 q 26).map (calm? prog)=some (some (.value (V7 q 26))):=HW
theorem aia(q:Wk):(x7 q 27).map (calm? prog)=some (some (.value (V7 q 27))):=HW
theorem Pg(q:Wk):x7 q 3=some (do pure (.value (<-Instr.loadAt 46 (q.p 4)))):=HW
theorem XF(q:Wk):x7 q 8=some (do pure (.value (<-Instr.loadAt 29 (q.p 0)))):=HW
theorem OO(q:Wk):x7 q 12=some (do pure (.value (<-Instr.loadAt 31 (q.p 1)))):=HW
theorem PG(q:Wk):x7 q 16=some (do pure (.value (<-Instr.loadAt 88 (q.p 2)))):=HW
theorem afv(q:Wk):x7 q 23=some (do pure (.value (<-Instr.loadAt 3 (q.p 3)))):=HW
theorem aap(q:Wk):x7 q 18=some (do pure (.value (<-Instr.indexAt 88 (.slice q.ra q.N q.rc) (.int .i64 q.n)))):=HW
theorem ahb(q:Wk):x7 q 19=some (do pure (.value (<-Instr.loadAt 56 (.pointer (some q.ar))))):=HW
theorem PZ(q:Wk):(x7 q 24).map (calm? prog)=some (some (.enter 20 #[q.vc,q.px,.agg q.rd,.int .i64 q.bd])):=HW
theorem afk(q:Wk):x7 q 28=some (do pure (.value (<-Instr.indexAt 46 q.aU (.int .i64 q.n)))):=HW
theorem aiz(q:Wk):x7 q 29=some (do Instr.storeAt 52 (.pointer (some q.am)) (.agg q.aJ);pure .skip):=HW
theorem ajZ:(fO[29]?).map (·.dst)=some none:=HW
def W4(q:Wk):Gq:=tw 48 40 (E7 q)
theorem wz(q:Wk):semAt (W4 q)=some (do pure (.value (<-Instr.loadAt 46 (q.p 4)))):=HW
def W5(q:Wk):Gq:=tw 50 20 (fin (W4 q) q.aU)
theorem ahI(q:Wk):semAt (W5 q)=some (do pure (.value (<-Instr.indexAt 46 q.aU (.int .i64 q.n)))):=HW
def W6(q:Wk):Gq:=tw 51 20 (fin (W5 q) (.pointer (some q.am)))
theorem Wj(q:Wk):semAt (W6 q)=some (do pure (.value (<-Instr.loadAt 52 (.pointer (some q.am))))):=HW
def W7(q:Wk):Gq:=tw 52 20 (fin (W6 q) (.agg q.aJ))
def cn(q:Wk)(v:Int)(s:HM)(rb:Nat):Kc.Cn:={b:=q.b,c:=(W7 q).frame,cs:=[cl q,bs],r:=q.aJ,v:=v,s:=s,rb:=rb}
theorem adK(q:Wk)(v:Int)(s:HM)(rb:Nat):bY prog (W7 q)=some (Kc.og (cn q v s rb)):=HW
def W8(q:Wk):Gq:=tw 12 40 (R ((W7 q).frame.finish (.tuple #[])) [cl q,bs])
theorem adX(q:Wk):bY prog (W8 q)=some (Kt.ji (tk q (W8 q).frame)):=HW
theorem ahz(q:Wk)(n:Int)(k:Bool):tw 9 60 (R ((W8 q).frame.finish (.tuple #[.int .i64 n,.bool k])) [cl q,bs])=WH {q with n:=n,ok:=k,J:=au (tw 9 60 (R ((W8 q).frame.finish (.tuple #[.int .i64 n,.bool k])) [cl q,bs]))}:=HW
end Ko
namespace Kd
open Conc Kw Kl
def su(a b:Int):Int:=IntKind.u64.wrap (BitVec.ofInt 64 a&&&BitVec.ofInt 64 b).toNat
def gw(cnt wt:Nat):Int:=(cnt:Int)*4294967296+wt
def Ir(p:Nat->Nat->Bool):Bool:=(List.range 64).all λa=>(List.range 2).all λb=>p a b
theorem lL{p:Nat->Nat->Bool}(h:Ir p=true){a b:Nat}(ha:a<=63)(hb:b<=1):p a b=true:=by unfold Ir at h;simp only[List.all_eq_true,List.mem_range]at h;exact h a HU b HU
section
variable{a b:Nat}(ha:a<=63)(hb:b<=1)
include ha hb
theorem yD:su (gw a b) 2147483648=0:=eq_of_beq (lL (p:=λa b=>su (gw a b) 2147483648==0) HW ha hb)
theorem zC:su (gw a b) 2147483647=b:=eq_of_beq (lL (p:=λa b=>su (gw a b) 2147483647==b) HW ha hb)
theorem yH:(gw a b).fdiv (2^32)=a:=eq_of_beq (lL (p:=λa b=>(gw a b).fdiv (2^32)==a) HW ha hb)
theorem Bj:IntKind.i32.wrap (a:Int)=a:=eq_of_beq (lL (p:=λa _=>IntKind.i32.wrap (a:Int)==a) HW ha hb)
theorem ako:IntKind.u32.wrap (b:Int)=b:=eq_of_beq (lL (p:=λ_ b=>IntKind.u32.wrap (b:Int)==b) HW ha hb)
theorem ahE(h1:1<=a):IntKind.u64.wrap (gw a b+18446744069414584320)=gw (a-1) b:=by have:=lL (p:=λa b=>a==0||IntKind.u64.wrap (gw a b+18446744069414584320)==gw (a-1) b) HW ha hb;have h0:¬a=0:=HU;simpa[h0]using this
end
section
variable{P:Program}{t:TypeId}{a b:Int}
theorem ov(h:su a b=r):calm? (α:=Next) P (do pure (.value (<-Go.binOp .and t (.int .u64 a) (.int .u64 b))))=some (.value (.int .u64 r)):=by subst h;rfl
theorem zg(h:a.fdiv (2^32)=r):calm? (α:=Next) P (do pure (.value (<-Go.binOp .shr t (.int .u64 a) (.int .i64 32))))=some (.value (.int .u64 r)):=by subst h;rfl
theorem Fp(k:IntKind){r:Bool}(h:decide (a<b)=r):calm? (α:=Next) P (do pure (.value (<-Go.binOp .lss t (.int k a) (.int k b))))=some (.value (.bool r)):=by subst h;cases k<;>rfl
end
end Kd
