/- Runs, a part. -/
import Derived.Test.YtjebhbopmfcopaaGreatDoorZl
set_option maxRecDepth 100000
namespace Go.Proofs.YtjebhbopmfcopaaGreatDoor
open Go.Proofs Tryz
noncomputable section
namespace Km
open Conc Kw Kl Ph
set_option maxRecDepth 100000
structure Sp where
 p:Fi
 o:B6
 p3:Nat
 cs:B8
abbrev Sp.P(q:Sp)(i:Nat):Fi:=.pointer (some ⟨q.p3,i,none⟩)
noncomputable def ts(d n:Nat)(g:Dm):Dm:=aK prog 23 d n g
noncomputable def SE(q:Sp):Dm:=R (Frame.enter prog 23 #[q.p,.agg q.o] .normal) q.cs
def S0(q:Sp):Dm:=ts 3 20 (SE q)
theorem AQ(q:Sp):semAt (S0 q)=some (do pure (.value (<-Instr.box 70 (.agg q.o)))):=by kernel_rfl
def S1(q:Sp):Dm:=ts 15 20 (fin (S0 q) (q.P 0))
theorem nY(q:Sp):semAt (S1 q)=some (do pure (.value (<-Instr.loadAt 3 (q.P 0)))):=by kernel_rfl
def S2(q:Sp):Dm:=ts 93 200 (fin (S1 q) (.int .i64 10))
theorem zZ(q:Sp):semAt (S2 q)=some (do pure (.value (<-Instr.loadAt 70 (q.P 0)))):=by kernel_rfl
def S3(q:Sp):Dm:=ts 94 20 (fin (S2 q) (.agg q.o))
theorem ac9(q:Sp):bQ prog (S3 q)=some (R (Frame.enter prog 52 #[.agg q.o] .normal) ((S3 q).frame::q.cs)):=by kernel_rfl
theorem aao(q:Sp):S3 q=R (S3 q).frame q.cs:=by kernel_rfl
noncomputable def S4(q:Sp):Dm:=aM prog 3 (fin (S3 q) (.bool true))
theorem adj(q:Sp):S4 q=R ⟨23,cY (S4 q),lm (S4 q),[],.returning,.normal,none⟩ q.cs:=by kernel_rfl
theorem ahh(q:Sp):(cY (S4 q)).getD 4 undef=.bool true:=by kernel_rfl
theorem My:f23.results=#[.tmp 4]:=by kernel_rfl
structure Lk where
 g:Nat
 cs:B8
abbrev Lk.P(q:Lk)(i:Nat):Fi:=.pointer (some ⟨q.g,i,none⟩)
noncomputable def tk(d n:Nat)(g:Dm):Dm:=aK prog 24 d n g
noncomputable def rY(q:Lk):Dm:=R (Frame.enter prog 24 #[q.P 2] .normal) q.cs
def pK(q:Lk):Dm:=tk 18 40 (rY q)
theorem YQ(q:Lk):semAt (pK q)=some (do pure (.value (<-Instr.loadAt 22 (q.P 2)))):=by kernel_rfl
def qh(q:Lk):Dm:=tk 54 60 (fin (pK q) (.slice none 0 0))
theorem aa5(q:Lk):semAt (qh q)=some (do pure (.value (<-Instr.loadAt 62 (q.P 3)))):=by kernel_rfl
def o8(q:Lk):Dm:=tk 90 60 (fin (qh q) (.slice none 0 0))
theorem afo(q:Lk):semAt (o8 q)=some (do pure (.value (<-Instr.loadAt 63 (q.P 4)))):=by kernel_rfl
def oO(q:Lk):Dm:=tk 126 60 (fin (o8 q) (.slice none 0 0))
theorem Qv(q:Lk):semAt (oO q)=some (do pure (.value (<-Instr.loadAt 64 (q.P 5)))):=by kernel_rfl
noncomputable def nU:Nat->Dm->Dm|0,g=>g|n+1,g=>match g.frame.mode with|.returning=>g|_=>match bQ prog g with|some g'=>nU n g'|none=>g
def lx(q:Lk):Dm:=nU 60 (fin (oO q) (.slice none 0 0))
theorem agw(q:Lk):lx q=R ⟨24,cY (lx q),lm (lx q),[],.returning,.normal,none⟩ q.cs:=by kernel_rfl
theorem abc(q:Lk):(cY (lx q)).getD 2 undef=.bool true:=by kernel_rfl
theorem afE:f24.results=#[.tmp 2]:=by kernel_rfl
theorem Fw(n:Nat):∀g,aa prog g (nU n g):=by induction n with|zero=>exactλg=>aV prog 0 g|succ n b=>intro g;rw[nU];split;(·exact aV prog 0 g);·cases a:bQ prog g with|none=>exact aV prog 0 g|some g'=>exact(cU a).trans (b g')
set_option maxRecDepth 100000
noncomputable def tp(d n:Nat)(g:Dm):Dm:=aK prog 10 d n g
structure Pa where
 rf:Fi
 sc:Fi
 kd:Fi
 f0:Fi
 f1:Fi
 c1:Nat
 r1:Nat
 r2:Nat
 n2:Nat
 c2:Nat
 g9:Nat
 cs:B8
abbrev Pa.f2(q:Pa):Fi:=.slice (some ⟨q.r2,0,none⟩) q.n2 q.c2
noncomputable def PE(q:Pa):Dm:=R (Frame.enter prog 10 #[q.rf,q.sc,q.kd] .normal) q.cs
def P0(q:Pa):Dm:=tp 15 20 (PE q)
theorem ahs(q:Pa):bQ prog (P0 q)=some (R (Frame.enter prog 21 #[] .normal) ((P0 q).frame::q.cs)):=by kernel_rfl
theorem ad5(q:Pa):P0 q=R (P0 q).frame q.cs:=by kernel_rfl
def P1(q:Pa):Dm:=tp 18 20 (fin (P0 q) q.f0)
theorem Zn(q:Pa):semAt (P1 q)=some (do pure (.value (<-Builtin.append_ #[23,23] 23 #[q.f0,q.sc]))):=by kernel_rfl
def P2(q:Pa):Dm:=tp 20 20 (fin (P1 q) q.f1)
def P3(q:Pa):Dm:=tp 21 20 (fin (P2 q) (.slice (some ⟨q.c1,0,none⟩) 1 1))
def P4(q:Pa):Dm:=tp 24 20 (fin (P3 q) (.slice (some ⟨q.r1,0,none⟩) 1 1))
theorem MB(q:Pa):semAt (P4 q)=some (do pure (.value (<-Builtin.append_ #[22,22] 22 #[.slice (some ⟨q.r1,0,none⟩) 1 1,q.rf]))):=by kernel_rfl
def P5(q:Pa):Dm:=tp 27 20 (fin (P4 q) q.f2)
theorem ab0(q:Pa):semAt (P5 q)=some (do pure (.value (<-Instr.box 68 (.agg #[q.f2,.slice none 0 0,.slice none 0 0,.slice none 0 0,.slice none 0 0,.slice none 0 0])))):=by kernel_rfl
structure Pq where
 J:Nat->Fi
 kd:Fi
 g7:Nat
 n:Nat
 cp:Nat
 g9:Nat
 i:Int
 o:B6
 aD:Nat
 kn:Int
 cs:B8
abbrev Pq.ops(q:Pq):Fi:=.slice (some ⟨q.g7,0,none⟩) q.n q.cp
abbrev Pq.P(q:Pq)(i:Nat):Fi:=.pointer (some ⟨q.aD,i,none⟩)
def Yd:List Item:=(tp 31 60 (fin (P5 ⟨undef,undef,undef,undef,.slice (some ⟨0,0,none⟩) 1 1,0,0,0,1,1,0,[]⟩) (.pointer (some ⟨0,0,none⟩)))).frame.todo
def PH(q:Pq):Dm:=R ⟨10,#[q.J 0,q.J 1,q.kd,q.J 3,q.J 4,q.J 5,q.J 6,q.ops,q.J 8,.pointer (some ⟨q.g9,0,none⟩),.int .i64 q.i,q.J 11,q.J 12,q.J 13,q.J 14,q.J 15,q.J 16,q.J 17,q.J 18,q.J 19,q.J 20,q.J 21,q.J 22,q.J 23,q.J 24,q.J 25,q.J 26,q.J 27,.int .i64 q.i,q.ops,.int .i64 q.n,q.J 31,q.J 32,q.J 33,q.J 34,q.J 35,q.J 36,q.J 37,q.J 38,q.J 39,q.J 40,q.J 41,q.J 42,q.J 43,q.J 44,q.J 45,q.J 46,q.J 47,q.J 48,q.J 49,q.J 50,q.J 51,q.J 52,q.J 53,q.J 54,q.J 55,q.J 56,q.J 57,q.J 58,q.J 59,q.J 60],Yd,[],.run,.normal,none⟩ q.cs
theorem DC(q:Pq):semAt (PH q)=some (do pure (.value (<-Go.binOp .lss 3 (.int .i64 q.i) (.int .i64 q.n)))):=by kernel_rfl
theorem NU(q:Pa)(g7 n cp:Nat)(h:q.f1=.slice (some ⟨g7,0,none⟩) n cp):tp 31 60 (fin (P5 q) (.pointer (some ⟨q.g9,0,none⟩)))=PH {J:=ak (tp 31 60 (fin (P5 q) (.pointer (some ⟨q.g9,0,none⟩)))),kd:=q.kd,g7:=g7,n:=n,cp:=cp,g9:=q.g9,i:=0,o:=#[],aD:=0,kn:=0,cs:=q.cs}:=by obtain⟨rf,sc,kd,f0,f1,c1,r1,r2,n2,c2,g9,cs⟩:=q;simp only at h;subst h;kernel_rfl
def Q1(q:Pq):Dm:=tp 34 20 (fin (PH q) (.bool true))
theorem UG(q:Pq):semAt (Q1 q)=some (do pure (.value (<-Go.binOp .lss 3 (.int .i64 q.i) (.int .i64 144115188075855872)))):=by kernel_rfl
def Q2(q:Pq):Dm:=tp 40 40 (fin (Q1 q) (.bool true))
theorem Ps(q:Pq):semAt (Q2 q)=some (do pure (.value (<-Instr.indexAt 23 q.ops (.int .i64 q.i)))):=by kernel_rfl
def Q3(q:Pq)(j:Nat):Dm:=tp 41 20 (fin (Q2 q) (.pointer (some ⟨q.g7,j,none⟩)))
theorem agi(q:Pq)(j:Nat):semAt (Q3 q j)=some (do pure (.value (<-Instr.loadAt 70 (.pointer (some ⟨q.g7,j,none⟩))))):=by kernel_rfl
def Q4(q:Pq)(j:Nat):Dm:=tp 11 20 (fin (Q3 q j) (.agg q.o))
theorem ZF(q:Pq)(j:Nat):semAt (Q4 q j)=some (do pure (.value (<-Instr.alloc 70 true (.tuple #[])))):=by kernel_rfl
def Q5(q:Pq)(j:Nat):Dm:=fin (Q4 q j) (q.P 0)
theorem acD(q:Pq)(j:Nat):semAt (Q5 q j)=some (do Instr.storeAt 70 (q.P 0) (.agg q.o);pure .skip):=by kernel_rfl
def Q6(q:Pq)(j:Nat):Dm:=tp 44 40 (fin (Q5 q j) undef)
theorem QV(q:Pq)(j:Nat):semAt (Q6 q j)=some (do pure (.value (<-Instr.loadAt 3 (q.P 0)))):=by kernel_rfl
def Q7(q:Pq)(j:Nat):Dm:=tp 45 20 (fin (Q6 q j) (.int .i64 q.kn))
theorem afK(q:Pq)(j:Nat):bQ prog (Q7 q j)=some (R (Frame.enter prog 22 #[q.kd,.int .i64 q.kn] .normal) ((Q7 q j).frame::q.cs)):=by kernel_rfl
theorem Ke(q:Pq)(j:Nat):Q7 q j=R (Q7 q j).frame q.cs:=by kernel_rfl
theorem abR(q:Pq)(j:Nat):tp 31 80 (fin (Q7 q j) (.bool false))=PH {q with i:=IntKind.i64.wrap (q.i+1),J:=ak (tp 31 80 (fin (Q7 q j) (.bool false)))}:=by kernel_rfl
def Q8(q:Pq)(j:Nat):Dm:=tp 49 40 (fin (Q7 q j) (.bool true))
theorem Tn(q:Pq)(j:Nat):semAt (Q8 q j)=some (do pure (.value (<-Instr.loadAt 70 (q.P 0)))):=by kernel_rfl
def Q9(q:Pq)(j:Nat):Dm:=tp 50 20 (fin (Q8 q j) (.agg q.o))
theorem ahG(q:Pq)(j:Nat):bQ prog (Q9 q j)=some (R (Frame.enter prog 23 #[.pointer (some ⟨q.g9,0,none⟩),.agg q.o] .normal) ((Q9 q j).frame::q.cs)):=by kernel_rfl
theorem afz(q:Pq)(j:Nat):Q9 q j=R (Q9 q j).frame q.cs:=by kernel_rfl
def iO(q:Pq)(j:Nat):Dm:=tp 54 40 (fin (Q9 q j) (.bool true))
theorem Rm(q:Pq)(j:Nat):bQ prog (iO q j)=some (R (Frame.enter prog 24 #[.pointer (some ⟨q.g9,2,none⟩)] .normal) ((iO q j).frame::q.cs)):=by kernel_rfl
theorem KQ(q:Pq)(j:Nat):iO q j=R (iO q j).frame q.cs:=by kernel_rfl
theorem Ve(q:Pq)(j:Nat):tp 31 80 (fin (iO q j) (.bool true))=PH {q with i:=IntKind.i64.wrap (q.i+1),J:=ak (tp 31 80 (fin (iO q j) (.bool true)))}:=by kernel_rfl
def QE(q:Pq):Dm:=nU 60 (fin (PH q) (.bool false))
theorem Wa(q:Pq):QE q=R ⟨10,cY (QE q),lm (QE q),[],.returning,.normal,none⟩ q.cs:=by kernel_rfl
theorem WW(q:Pq):(cY (QE q)).getD 6 undef=.bool true:=by kernel_rfl
theorem agK:f10.results=#[.tmp 6]:=by kernel_rfl
end Km
end
end Go.Proofs.YtjebhbopmfcopaaGreatDoor
