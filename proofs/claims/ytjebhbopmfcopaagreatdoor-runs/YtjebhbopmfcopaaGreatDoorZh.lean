/- Runs, a part. -/
import Derived.Test.YtjebhbopmfcopaaGreatDoorZa
set_option maxRecDepth 100000
namespace Go.Proofs.YtjebhbopmfcopaaGreatDoor
open Go.Proofs Tryz
noncomputable section
variable{v:Fi}
namespace Kl
open Conc Kw
set_option maxRecDepth 100000
structure Ul where
 b:Nat
 o:Nat
 c:Frame
 cs:B8
 x:Int:=0
 n:Int:=0
 old:Int:=0
 v1:Fi:=undef
 J:Nat->Fi:=λ_=>undef
abbrev Ul.m(q:Ul):Fi:=.pointer (some ⟨q.b,q.o,none⟩)
def ab5(q:Ul):B6:=#[q.m,q.v1,q.J 2,q.J 3,.int .i32 q.old,q.J 5,q.J 6,q.J 7,q.J 8,q.J 9,q.J 10,q.J 11,q.J 12,q.J 13,q.J 14,q.J 15,q.J 16,q.J 17,q.J 18,q.J 19,q.J 20,q.J 21,q.J 22,q.J 23,q.J 24,q.J 25,q.J 26,q.J 27,q.J 28,q.J 29,q.J 30,q.J 31,q.J 32,q.J 33,q.J 34,q.J 35,q.J 36,q.J 37,q.J 38,q.J 39,q.J 40,q.J 41,q.J 42]
noncomputable def VV(q:Ul):Dm:=R (Frame.enter prog 174 #[q.m] .deferred) ({q.c with mode:=.returning}::q.cs)
noncomputable def wz(d n:Nat)(g:Dm):Dm:=aK prog 204 d n g
noncomputable def tu(d n:Nat)(g:Dm):Dm:=aK prog 226 d n g
def Um(q:Ul):Dm:=wz 6 50 (VV q)
theorem abY(q:Ul):semAt (Um q)=some (do pure (.value (<-Instr.loadAt 21 q.m))):=by kernel_rfl
def Uv(q:Ul):Dm:=wz 8 20 (fin (Um q) (.int .i32 q.x))
theorem aak(q:Ul):semAt (Uv q)=some (do pure (.value (<-convert 263 189 q.m))):=by kernel_rfl
theorem KS(q:Ul):aa prog (fin (Um q) (.int .i32 q.x)) (Uv q):=ay prog 204 8 20 _
def Ur(q:Ul):Dm:=wz 9 10 (fin (Uv q) q.m)
theorem Gs(q:Ul):semAt (Ur q)=some (callFunc 121 #[q.m]):=by kernel_rfl
theorem abf(q:Ul):aa prog (fin (Uv q) q.m) (Ur q):=ay prog 204 9 10 _
def Ud(q:Ul):Dm:=wz 10 10 (fin (Ur q) (.tuple #[]))
theorem Gj(q:Ul):semAt (Ud q)=some (callFunc 122 #[]):=by kernel_rfl
theorem OY(q:Ul):aa prog (fin (Ur q) (.tuple #[])) (Ud q):=ay prog 204 10 10 _
def U0(q:Ul):Dm:=wz 14 20 (fin (Ud q) (.tuple #[]))
theorem GK(q:Ul):semAt (U0 q)=some (callFunc 225 #[q.m,.int .i32 (-1)]):=by kernel_rfl
theorem aeX(q:Ul):aa prog (fin (Ud q) (.tuple #[])) (U0 q):=ay prog 204 14 20 _
def im(q:Ul):Dm:=wz 16 20 (fin (U0 q) (.int .i32 q.n))
theorem Uh(q:Ul):semAt (im q)=some (do pure (.value (<-Go.binOp .neq 21 (.int .i32 q.n) (.int .i32 0)))):=by kernel_rfl
theorem Em(q:Ul)(a:calm? (α:=Next) prog (do pure (.value (<-Go.binOp .neq 21 (.int .i32 q.n) (.int .i32 0))))=some (.value v)):aa prog (fin (U0 q) (.int .i32 q.n)) (fin (im q) v):=ah (fn:=204) (d:=16) (n:=20) (Uh q) a
def u0(q:Ul):Dm:=wz 20 20 (fin (im q) (.bool false))
def Ue(q:Ul)(ts:B6):Dm:=eG (u0 q) ts
theorem Jk(q:Ul)(ts:B6):semAt (Ue q ts)=some (callFunc 123 #[]):=by kernel_rfl
theorem UE(q:Ul):wz 20 20 (fin (im q) (.bool false))=Ue q (wz 20 20 (fin (im q) (.bool false))).frame.tmps:=by kernel_rfl
theorem aif(q:Ul):aa prog (fin (im q) (.bool false)) (Ue q (wz 20 20 (fin (im q) (.bool false))).frame.tmps):=UE q▸ay prog 204 20 20 _
def V6(q:Ul):Dm:=tu 6 30 (fin (im q) (.bool true))
theorem adW(q:Ul):semAt (V6 q)=some (do pure (.value (<-Go.binOp .add 21 (.int .i32 q.n) (.int .i32 1)))):=by kernel_rfl
theorem ah8(q:Ul)(a:calm? (α:=Next) prog (do pure (.value (<-Go.binOp .add 21 (.int .i32 q.n) (.int .i32 1))))=some (.value v)):aa prog (fin (im q) (.bool true)) (fin (V6 q) v):=ah (fn:=226) (d:=6) (n:=30) (adW q) a
def V7(q:Ul)(z:Int):Dm:=tu 7 10 (fin (V6 q) (.int .i32 z))
theorem ahM(q:Ul)(z:Int):semAt (V7 q z)=some (do pure (.value (<-Go.binOp .and 21 (.int .i32 z) (.int .i32 1)))):=by kernel_rfl
theorem Yh(q:Ul)(z:Int)(a:calm? (α:=Next) prog (do pure (.value (<-Go.binOp .and 21 (.int .i32 z) (.int .i32 1))))=some (.value v)):aa prog (fin (V6 q) (.int .i32 z)) (fin (V7 q z) v):=ah (fn:=226) (d:=7) (n:=10) (ahM q z) a
def V8(q:Ul)(z a:Int):Dm:=tu 8 10 (fin (V7 q z) (.int .i32 a))
theorem ahk(q:Ul)(z a:Int):semAt (V8 q z a)=some (do pure (.value (<-Go.binOp .eql 21 (.int .i32 a) (.int .i32 0)))):=by kernel_rfl
theorem ab7(q:Ul)(z a:Int)(b:calm? (α:=Next) prog (do pure (.value (<-Go.binOp .eql 21 (.int .i32 a) (.int .i32 0))))=some (.value v)):aa prog (fin (V7 q z) (.int .i32 a)) (fin (V8 q z a) v):=ah (fn:=226) (d:=8) (n:=10) (ahk q z a) b
def oh(q:Ul)(z a:Int):Dm:=tu 11 20 (fin (V8 q z a) (.bool false))
theorem aht(q:Ul)(z a:Int):semAt (oh q z a)=some (do pure (.value (<-Go.binOp .and 21 (.int .i32 q.n) (.int .i32 4)))):=by kernel_rfl
theorem UT(q:Ul)(z a:Int)(b:calm? (α:=Next) prog (do pure (.value (<-Go.binOp .and 21 (.int .i32 q.n) (.int .i32 4))))=some (.value v)):aa prog (fin (V8 q z a) (.bool false)) (fin (oh q z a) v):=ah (fn:=226) (d:=11) (n:=20) (aht q z a) b
def iM(q:Ul)(z b a:Int):Dm:=tu 12 10 (fin (oh q z b) (.int .i32 a))
theorem UC(q:Ul)(z b a:Int):semAt (iM q z b a)=some (do pure (.value (<-Go.binOp .eql 21 (.int .i32 a) (.int .i32 0)))):=by kernel_rfl
theorem Ed(q:Ul)(z b a:Int)(c:calm? (α:=Next) prog (do pure (.value (<-Go.binOp .eql 21 (.int .i32 a) (.int .i32 0))))=some (.value v)):aa prog (fin (oh q z b) (.int .i32 a)) (fin (iM q z b a) v):=ah (fn:=226) (d:=12) (n:=10) (UC q z b a) c
def jr(q:Ul)(z b a:Int):Dm:=tu 42 20 (fin (iM q z b a) (.bool false))
theorem Du(q:Ul)(z b a:Int):semAt (jr q z b a)=some (callFunc 241 #[.pointer (some ⟨q.b,q.o+1,none⟩),.bool true,.int .i64 2]):=by kernel_rfl
theorem PK(q:Ul)(z b a:Int):aa prog (fin (iM q z b a) (.bool false)) (jr q z b a):=ay prog 226 42 20 _
theorem Ry(q:Ul)(z b a:Int):wz 20 40 (fin (jr q z b a) (.tuple #[]))=Ue q (wz 20 40 (fin (jr q z b a) (.tuple #[]))).frame.tmps:=by kernel_rfl
theorem LJ(q:Ul)(z b a:Int):aa prog (fin (jr q z b a) (.tuple #[])) (Ue q (wz 20 40 (fin (jr q z b a) (.tuple #[]))).frame.tmps):=Ry q z b a▸ay prog 204 20 40 _
def g0(q:Ul):Dm:=tu 14 30 (fin (iM q 0 0 0) (.bool true))
def G(q:Ul):Dm:=eG (g0 q) (ab5 q)
theorem ahe(q:Ul)(z b a:Int):tu 14 30 (fin (iM q z b a) (.bool true))=G {q with old:=q.n,v1:=.int .i32 q.n,J:=ak (tu 14 30 (fin (iM q z b a) (.bool true)))}:=by kernel_rfl
theorem QU(q:Ul)(z b a:Int):aa prog (fin (iM q z b a) (.bool true)) (G {q with old:=q.n,v1:=.int .i32 q.n,J:=ak (tu 14 30 (fin (iM q z b a) (.bool true)))}):=ahe q z b a▸ay prog 226 14 30 _
def ng(q:Ul):Dm:=tu 15 10 (G q)
theorem KP(q:Ul):semAt (ng q)=some (do pure (.value (<-Go.binOp .shr 21 (.int .i32 q.old) (.int .i64 3)))):=by kernel_rfl
theorem X7(q:Ul)(a:calm? (α:=Next) prog (do pure (.value (<-Go.binOp .shr 21 (.int .i32 q.old) (.int .i64 3))))=some (.value v)):aa prog (G q) (fin (ng q) v):=ah (fn:=226) (d:=15) (n:=10) (KP q) a
def iZ(q:Ul)(z:Int):Dm:=tu 16 10 (fin (ng q) (.int .i32 z))
theorem aam(q:Ul)(z:Int):semAt (iZ q z)=some (do pure (.value (<-Go.binOp .eql 21 (.int .i32 z) (.int .i32 0)))):=by kernel_rfl
theorem Gf(q:Ul)(z:Int)(a:calm? (α:=Next) prog (do pure (.value (<-Go.binOp .eql 21 (.int .i32 z) (.int .i32 0))))=some (.value v)):aa prog (fin (ng q) (.int .i32 z)) (fin (iZ q z) v):=ah (fn:=226) (d:=16) (n:=10) (aam q z) a
theorem Le(q:Ul)(z:Int):wz 20 60 (fin (iZ q z) (.bool true))=Ue q (wz 20 60 (fin (iZ q z) (.bool true))).frame.tmps:=by kernel_rfl
theorem aa1(q:Ul)(z:Int):aa prog (fin (iZ q z) (.bool true)) (Ue q (wz 20 60 (fin (iZ q z) (.bool true))).frame.tmps):=Le q z▸ay prog 204 20 60 _
def nv(q:Ul)(z:Int):Dm:=tu 19 10 (fin (iZ q z) (.bool false))
theorem abb(q:Ul)(z:Int):semAt (nv q z)=some (do pure (.value (<-Go.binOp .and 21 (.int .i32 q.old) (.int .i32 7)))):=by kernel_rfl
theorem Qb(q:Ul)(z:Int)(a:calm? (α:=Next) prog (do pure (.value (<-Go.binOp .and 21 (.int .i32 q.old) (.int .i32 7))))=some (.value v)):aa prog (fin (iZ q z) (.bool false)) (fin (nv q z) v):=ah (fn:=226) (d:=19) (n:=10) (abb q z) a
def jl(q:Ul)(z a:Int):Dm:=tu 20 10 (fin (nv q z) (.int .i32 a))
theorem NI(q:Ul)(z a:Int):semAt (jl q z a)=some (do pure (.value (<-Go.binOp .neq 21 (.int .i32 a) (.int .i32 0)))):=by kernel_rfl
theorem BD(q:Ul)(z a:Int)(b:calm? (α:=Next) prog (do pure (.value (<-Go.binOp .neq 21 (.int .i32 a) (.int .i32 0))))=some (.value v)):aa prog (fin (nv q z) (.int .i32 a)) (fin (jl q z a) v):=ah (fn:=226) (d:=20) (n:=10) (NI q z a) b
theorem LY(q:Ul)(z a:Int):wz 20 60 (fin (jl q z a) (.bool true))=Ue q (wz 20 60 (fin (jl q z a) (.bool true))).frame.tmps:=by kernel_rfl
theorem Pk(q:Ul)(z a:Int):aa prog (fin (jl q z a) (.bool true)) (Ue q (wz 20 60 (fin (jl q z a) (.bool true))).frame.tmps):=LY q z a▸ay prog 204 20 60 _
def nh(q:Ul)(z a:Int):Dm:=tu 23 20 (fin (jl q z a) (.bool false))
theorem YD(q:Ul)(z a:Int):semAt (nh q z a)=some (do pure (.value (<-Go.binOp .sub 21 (.int .i32 q.old) (.int .i32 8)))):=by kernel_rfl
theorem agd(q:Ul)(z a:Int)(b:calm? (α:=Next) prog (do pure (.value (<-Go.binOp .sub 21 (.int .i32 q.old) (.int .i32 8))))=some (.value v)):aa prog (fin (jl q z a) (.bool false)) (fin (nh q z a) v):=ah (fn:=226) (d:=23) (n:=20) (YD q z a) b
def nj(q:Ul)(z b a:Int):Dm:=tu 24 10 (fin (nh q z b) (.int .i32 a))
theorem abj(q:Ul)(z b a:Int):semAt (nj q z b a)=some (do pure (.value (<-Go.binOp .or 21 (.int .i32 a) (.int .i32 2)))):=by kernel_rfl
theorem WQ(q:Ul)(z b a:Int)(c:calm? (α:=Next) prog (do pure (.value (<-Go.binOp .or 21 (.int .i32 a) (.int .i32 2))))=some (.value v)):aa prog (fin (nh q z b) (.int .i32 a)) (fin (nj q z b a) v):=ah (fn:=226) (d:=24) (n:=10) (abj q z b a) c
def Uc(q:Ul)(z b c a:Int):Dm:=tu 30 20 (fin (nj q z b c) (.int .i32 a))
theorem Ca(q:Ul)(z b c a:Int):semAt (Uc q z b c a)=some (callFunc 223 #[q.m,.int .i32 q.old,.int .i32 a]):=by kernel_rfl
theorem aa3(q:Ul)(z b c a:Int):aa prog (fin (nj q z b c) (.int .i32 a)) (Uc q z b c a):=ay prog 226 30 20 _
def jb(q:Ul)(z b c a:Int):Dm:=tu 34 20 (fin (Uc q z b c a) (.bool true))
theorem JG(q:Ul)(z b c a:Int):semAt (jb q z b c a)=some (callFunc 241 #[.pointer (some ⟨q.b,q.o+1,none⟩),.bool false,.int .i64 2]):=by kernel_rfl
theorem Pd(q:Ul)(z b c a:Int):aa prog (fin (Uc q z b c a) (.bool true)) (jb q z b c a):=ay prog 226 34 20 _
theorem OT(q:Ul)(z b c a:Int):wz 20 60 (fin (jb q z b c a) (.tuple #[]))=Ue q (wz 20 60 (fin (jb q z b c a) (.tuple #[]))).frame.tmps:=by kernel_rfl
theorem NJ(q:Ul)(z b c a:Int):aa prog (fin (jb q z b c a) (.tuple #[])) (Ue q (wz 20 60 (fin (jb q z b c a) (.tuple #[]))).frame.tmps):=OT q z b c a▸ay prog 204 20 60 _
def Ux(q:Ul)(z b c a:Int):Dm:=tu 38 20 (fin (Uc q z b c a) (.bool false))
theorem JH(q:Ul)(z b c a:Int):semAt (Ux q z b c a)=some (do pure (.value (<-Instr.loadAt 21 q.m))):=by kernel_rfl
theorem aid(q:Ul)(z b c a:Int):aa prog (fin (Uc q z b c a) (.bool false)) (Ux q z b c a):=ay prog 226 38 20 _
theorem agF(q:Ul)(z b c a y:Int):tu 14 40 (fin (Ux q z b c a) (.int .i32 y))=G {q with old:=y,v1:=.int .i32 a,J:=ak (tu 14 40 (fin (Ux q z b c a) (.int .i32 y)))}:=by kernel_rfl
theorem aie(q:Ul)(z b c a y:Int):aa prog (fin (Ux q z b c a) (.int .i32 y)) (G {q with old:=y,v1:=.int .i32 a,J:=ak (tu 14 40 (fin (Ux q z b c a) (.int .i32 y)))}):=agF q z b c a y▸ay prog 226 14 40 _
theorem WM(q:Ul)(ts:B6):aM prog 6 (fin (Ue q ts) (.tuple #[]))=R {q.c with mode:=.returning} q.cs:=by kernel_rfl
end Kl
namespace Kl
open Conc Kw Ph
set_option maxRecDepth 100000
theorem Nc(q:Ul)(y:Int):U0 {q with n:=y}=U0 q:=by kernel_rfl
theorem afP(q:Ul)(ts:B6):aa prog (fin (Ue q ts) (.tuple #[])) (R {q.c with mode:=.returning} q.cs):=WM q ts▸aV prog 6 _
section
variable(b o:Nat)(c:Frame)(cs:B8)
structure Ub(q:Ul):Prop where
 b:q.b=b
 o:q.o=o
 c:q.c=c
 cs:q.cs=cs
def ew(T:Th)(g:Dm):Prop:=match T.pc with|.ur=>∃q,Ub b o c cs q/\g=Ur q|.ud=>∃q,Ub b o c cs q/\g=Ud q|.u0=>∃q,Ub b o c cs q/\g=U0 q|.uc=>∃q z d a,Ub b o c cs q/\q.old=T.old.val/\g=Uc q z d a ({T.old with k:=1,w:=T.old.w-1}:Wd).val|.ux=>∃q z d a e,Ub b o c cs q/\g=Ux q z d a e|.us=>∃q,Ub b o c cs q/\((∃z d a e,g=jb q z d a e)\/∃z d a,g=jr q z d a)|.ue=>∃q ts,Ub b o c cs q/\g=Ue q ts|_=>False
def nQ(g:Dm)(T:Th):Prop:=∃g',aa prog g g'/\ew b o c cs T g'
end
section
variable{b o:Nat}{c:Frame}{cs:B8}{T:Th}{q:Ul}
attribute[local irreducible]Um Uv Ur Ud U0 im Ue V6 V7 V8 oh iM jr G ng iZ nv jl nh nj Uc jb Ux fin tu wz aK
theorem nQ.pre{g a:Dm}(h:aa prog g a)(k:nQ b o c cs a T):nQ b o c cs g T:=let⟨g',k1,d⟩:=k;⟨g',h.trans k1,d⟩
theorem BJ(f:T.old.ok)(d:Ub b o c cs q)(a:q.old=T.old.val):nQ b o c cs (G q) (cG T):=by have h:=fG f;obtain⟨l,k,j,n⟩:=f;have e1:=X7 q (tJ (r:=T.old.w) (by rw[a];exact vg h));unfold cG;by_cases hw:T.old.w=0;(·rw[if_pos (.inl hw)];have e2:=Gf q T.old.w (cJ .i32 (r:=true) (by rw[hw];rfl));exact⟨_,e1.trans (e2.trans (aa1 q _)),q,_,d,rfl⟩);·have e2:=Gf q T.old.w (cJ .i32 (r:=false) (by simp;omega));have g:=Qb q T.old.w (gu (r:=T.old.l+2*T.old.k+4*T.old.s) (by rw[a];exact XP h));by_cases hc:T.old.l=1\/T.old.k=1\/T.old.s=1;(·rw[if_pos (.inr hc)];have e:=BD q T.old.w (T.old.l+2*T.old.k+4*T.old.s) (dO .i32 (r:=true) (by simp;omega));exact⟨_,e1.trans (e2.trans (g.trans (e.trans (Pk q _ _)))),q,_,d,rfl⟩);·rw[if_neg (by omega)];have e:=BD q T.old.w (T.old.l+2*T.old.k+4*T.old.s) (dO .i32 (r:=false) (by simp;omega));have m:=agd q T.old.w (T.old.l+2*T.old.k+4*T.old.s) (yC .i32 (r:=({T.old with w:=T.old.w-1}:Wd).val) (by rw[a];exact Ny h (by omega)));have i:=WQ q T.old.w (T.old.l+2*T.old.k+4*T.old.s) ({T.old with w:=T.old.w-1}:Wd).val (tX (JJ (x:={T.old with w:=T.old.w-1}) ⟨l,k,j,by dsimp only;omega⟩));exact⟨_,e1.trans (e2.trans (g.trans (e.trans (m.trans (i.trans (aa3 q _ _ _ _)))))),q,_,_,_,d,a,rfl⟩
theorem JV{x:Wd}(i:x.ok)(m:x.l=0)(a:Ub b o c cs q):nQ b o c cs (fin (U0 q) (.int .i32 x.val)) (dv T x):=by have h:=fG i;have g:Ub b o c cs {q with n:=x.val}:=⟨a.b,a.o,a.c,a.cs⟩;rw[<-Nc q x.val];unfold dv;by_cases h0:x=⟨0,0,0,0⟩;(·rw[if_pos h0];have e1:=Em {q with n:=x.val} (dO .i32 (r:=false) (by rw[h0];rfl));exact⟨_,e1.trans (aif {q with n:=x.val}),_,_,g,rfl⟩);·rw[if_neg h0];have e1:=Em {q with n:=x.val} (dO .i32 (r:=true) (by have:¬x.val=0:=λe=>h0 (val_inj h ⟨by decide,by decide,by decide,by decide⟩ e);simpa using this));have e2:=ah8 {q with n:=x.val} (xg .i32 rfl);have p:=Yh {q with n:=x.val} (IntKind.i32.wrap (x.val+1)) (gu (aei h m));have k:=ab7 {q with n:=x.val} (IntKind.i32.wrap (x.val+1)) 1 (cJ .i32 (r:=false) rfl);have l:=UT {q with n:=x.val} (IntKind.i32.wrap (x.val+1)) 1 (gu (wu h));have e:=e1.trans (e2.trans (p.trans (k.trans l)));have s:=h.2.2.1;rcases(show x.s=0\/x.s=1 by omega)with d|d;(·rw[if_pos d];have f:=Ed {q with n:=x.val} (IntKind.i32.wrap (x.val+1)) 1 (4*x.s) (cJ .i32 (r:=true) (by rw[d];rfl));have j:=QU {q with n:=x.val} (IntKind.i32.wrap (x.val+1)) 1 (4*x.s);exact .pre (e.trans (f.trans j)) (BJ (T:={T with old:=x}) i ⟨a.b,a.o,a.c,a.cs⟩ rfl));·rw[if_neg (by omega)];have f:=Ed {q with n:=x.val} (IntKind.i32.wrap (x.val+1)) 1 (4*x.s) (cJ .i32 (r:=false) (by rw[d];rfl));exact⟨_,e.trans (f.trans (PK _ _ _ _)),_,g,.inr ⟨_,_,_,rfl⟩⟩
end
end Kl
end
end Go.Proofs.YtjebhbopmfcopaaGreatDoor
