/- Agree, a part. -/
import Derived.Test.YtjebhbopmfcopaaGreatDoorZf
set_option maxRecDepth 100000
namespace Go.Proofs.YtjebhbopmfcopaaGreatDoor
open Go.Proofs Tryz
noncomputable section
namespace Ag9
open Conc Km Kw Kl Ph
structure Ah where
 q:Ag
 v59:HH
 bD:HH
 w1:Int
 T:HM
 C:DS
 cO:Nat
 dj:HH
 v76:HH
 w2:Int
 gn:Nat
abbrev Ah.AB(h:Ah):HH:=.pointer (some ⟨h.cO,0,none⟩)
abbrev Ah.AD(h:Ah):HH:=.pointer (some ⟨h.gn,0,none⟩)
abbrev Ah.Eu(h:Ah):HH:=.tuple #[.string h.T,.agg h.C,.int .i64 0,.int .i64 0]
noncomputable def B1(h:Ah):Gq:=ci 61 20 (fin (A8 h.q) h.v59)
theorem wS(h:Ah):semAt (B1 h)=some (do pure (.value (<-convert 9 43 (.string h.q.g)))):=HW
noncomputable def B2(h:Ah):Gq:=ci 64 20 (fin (B1 h) h.bD)
theorem ZO(h:Ah):bY prog (B2 h)=some (R (Frame.enter prog 14 #[.int .i64 h.q.i5,.int .i64 16] .normal) [(B2 h).frame]):=HW
theorem WM(h:Ah):B2 h=R (B2 h).frame []:=HW
noncomputable def B3(h:Ah):Gq:=ci 67 20 (fin (B2 h) (.int .i64 h.w1))
theorem aba(h:Ah):bY prog (B3 h)=some (R (Frame.enter prog 17 #[h.v59,h.bD,.agg #[.int .i64 h.q.kk,.int .i64 (IntKind.i64.wrap (1+h.w1))]] .normal) [(B3 h).frame]):=HW
theorem aal(h:Ah):B3 h=R (B3 h).frame []:=HW
noncomputable def B4(h:Ah):Gq:=ci 22 40 (fin (B3 h) h.Eu)
theorem OV(h:Ah):semAt (B4 h)=some (do pure (.value (<-Instr.alloc 39 true (.tuple #[])))):=HW
noncomputable def B5(h:Ah):Gq:=aN prog 1 (fin (B4 h) h.AB)
theorem QZ(h:Ah):semAt (B5 h)=some (do Instr.storeAt 39 h.AB (.agg h.C);pure .skip):=HW
noncomputable def C1(h:Ah):Gq:=ci 74 40 (fin (B5 h) undef)
theorem vR(h:Ah):semAt (C1 h)=some (do pure (.value (<-convert 9 43 (.string h.q.f)))):=HW
noncomputable def C2(h:Ah):Gq:=ci 76 20 (fin (C1 h) h.dj)
theorem vM(h:Ah):semAt (C2 h)=some (do pure (.value (<-convert 9 43 (.string h.q.g)))):=HW
noncomputable def C3(h:Ah):Gq:=ci 79 20 (fin (C2 h) h.v76)
theorem Nl(h:Ah):bY prog (C3 h)=some (R (Frame.enter prog 14 #[.int .i64 h.q.i6,.int .i64 16] .normal) [(C3 h).frame]):=HW
theorem aaq(h:Ah):C3 h=R (C3 h).frame []:=HW
noncomputable def C4(h:Ah):Gq:=ci 82 20 (fin (C3 h) (.int .i64 h.w2))
theorem Yb(h:Ah):bY prog (C4 h)=some (R (Frame.enter prog 17 #[h.dj,h.v76,.agg #[.int .i64 h.q.kk,.int .i64 (IntKind.i64.wrap (1+h.w2))]] .normal) [(C4 h).frame]):=HW
theorem Si(h:Ah):C4 h=R (C4 h).frame []:=HW
noncomputable def C5(h:Ah):Gq:=ci 26 40 (fin (C4 h) h.Eu)
theorem acQ(h:Ah):semAt (C5 h)=some (do pure (.value (<-Instr.alloc 39 true (.tuple #[])))):=HW
noncomputable def C6(h:Ah):Gq:=aN prog 1 (fin (C5 h) h.AD)
theorem Ug(h:Ah):semAt (C6 h)=some (do Instr.storeAt 39 h.AD (.agg h.C);pure .skip):=HW
noncomputable def pG:Code:=match f9.body with|some (.seq _ (.seq _ (.seq _ (.seq _ (.seq _ (.seq _ (.seq _ (.seq _ (.seq _ (.seq _ t))))))))))=>t|_=>.skip
noncomputable def D0(h:Ah):Gq:=aN prog 3 (fin (C6 h) undef)
theorem ace(h:Ah):D0 h=R ⟨9,fg (D0 h),[.code pG],[],.run,.normal,none⟩ []:=HW
def pB(l:FV):FV:=l.zipIdx.map λx=>if Co.qx x.2 then undef else x.1
theorem NN(h:Ah):pB (fg (D0 h)).toList=List.replicate 14 undef++([.bool false,h.q.cv,.pointer (some ⟨h.q.bx,0,none⟩),h.q.qv,.int .i64 h.q.kk,undef,undef,.string h.T,h.AB,.int .i64 0,undef,.string h.T,h.AD,.int .i64 0,undef]++List.replicate 185 undef):=HW
theorem Mp:Co.fF prog Co.KE Co.SP (Co.KE.L 9) pG=true:=HW
def SG(f:FuncId):Bool:=[14].contains f
theorem abW:([14].all λf=>Co.okF Co.KN (λf=>[14].contains f) f)=true:=HW
theorem afU:Co.Closed prog Co.KN SG:=Co.qT rfl rfl rfl (λf a=>by cases a) abW
theorem NV:(Co.oH.all λf=>(prog.inits.idxOf? f).isNone)=true:=HW
theorem aeK:prog.inits.idxOf? 9=none:=HW
end Ag9
