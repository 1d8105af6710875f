/- Runs, a part. -/
import Derived.Conc.Beside
import Derived.Conc.HoldsTime
import Derived.Conc.LockJoin
import Derived.Conc.LoneCalls
import Derived.Test.YtjebhbopmfcopaaGreatDoorZa
import Derived.Test.YtjebhbopmfcopaaGreatDoorZq
namespace Go.Proofs.YtjebhbopmfcopaaGreatDoor
open Go.Proofs
noncomputable section
variable{b:Addr}{ops:Array Oper}{c fr fr' fr1 fr2:Frame}{fn:FuncId}{a g1:Dm}{cs' l l':B8}{rest:List Nat}{B' J N g i n r:Nat}{pos:String}{v v1 v2:DS}
namespace Co
def uj(s:GStep):Prop:=(∃g1 v1 a,s=.go g1 v1 a)\/∃o v1 a,s=.ended o v1 a
section
variable{P:Program}{K:Cm}{S:FuncId->Bool}{r:Rn}{cs cs' l l':B8}{m m':Bool}{v w:DS}
theorem aa9{tmps:B6}{k:List Item}(c:WR K P r v w)(o:aW v){s s':Sem Next}(j:SR P K (NR K P.globals.size S) r s s'):uj (stepG.apply P true ⟨fn,tmps,.inRegion ops (i::rest)::k,[],.run,.normal,none⟩ l none s v):=by unfold stepG.apply;simp only[if_true];cases e:s.runT P v #[]with|mk cB p=>cases cB with|halt m w0=>(have d:=j.nA v w c o;have h:=Sem.runT_fst P s v #[];rw[e]at h;rw[<-h]at d;dsimp only at d⊢;cases m with|panic x=>exact .inl ⟨_,_,_,rfl⟩|stuck x=>exact .inr ⟨_,_,_,rfl⟩|unsupported u=>(cases u with|initOrder g=>cases d.1|_=>exact .inr ⟨_,_,_,rfl⟩)|_=>cases d.1)|ok a v2=>obtain⟨⟨b,w1,new,r1,_,n,_⟩,_⟩:=j.pW v (aG w (λi q=>v.tape (v.drawn+i) q) 0) #[] #[] _ v2 p ⟨c.cy,c.inj,c.one,c.low,c.eu⟩ (λk q=>(by show v.tape (v.drawn+k) q=v.tape (v.drawn+(0+k)) q;rw[Nat.zero_add])) e;cases n with|value t|skip|enter f t y=>exact .inl ⟨_,_,_,rfl⟩
theorem Xs(I:oq P K S)(J:FR P K S r fr fr')(C:fr.mode=.run)(B:WR K P r v w)(L:aW v):uj (stepG P m ⟨fr,l,.running,none,none⟩ v):=by obtain⟨fn,tmps,todo,defers,mode,kind,U⟩:=fr;obtain⟨E,G,H,R,Q,T,V⟩:=fr';obtain⟨⟨h1,_⟩,p,q,e,⟨s,t⟩,j,⟨y,z⟩,⟨A,u⟩⟩:=J;dsimp only at h1 p q e s t j y z A u C;subst h1 q s t j y z A u C;cases H with|nil=>exact .inl ⟨_,_,_,rfl⟩|cons it k=>simp only[List.all_cons,Bool.and_eq_true]at e;cases it with|inBlock g|inLoop f|inScope f=>exact .inl ⟨_,_,_,rfl⟩|inRegion ops todo=>(cases todo with|nil=>exact .inl ⟨_,_,_,rfl⟩|cons i rest=>simp only[stepG,stepG.exec];split;(·simp only[stepG.oper,Frame.oper?];cases M:ops[i]? with|none=>exact .inr ⟨_,_,_,rfl⟩|some o=>dsimp only;have D:=e.1;simp only[fc]at D;have h:jT P K S o=true:=Array.all_eq_true_iff_forall_mem.1 D o (Array.mem_of_getElem? M);simp only[jT,Bool.and_eq_true]at h;have N:=vS (P:=P) (K:=K) (S:=S) (r:=r) I B.eu (fr:=⟨E,tmps,.inRegion ops (i::rest)::k,[],.run,.normal,none⟩) (fr':=⟨E,G,.inRegion ops (i::rest)::k,[],.run,.normal,none⟩) p h.1 (λx O=>Array.all_eq_true_iff_forall_mem.1 h.2 x O);exact aa9 B L N);·exact .inl ⟨_,_,_,rfl⟩)|code c=>(cases c with|skip|label n|ret|seq a b|block g f|loop f|scope f=>exact .inl ⟨_,_,_,rfl⟩|refuse W=>exact .inr ⟨_,_,_,rfl⟩|rangeFunc a b c d=>cases e.1|cond c X Y=>simp only[stepG,stepG.exec];split;(·exact .inl ⟨_,_,_,rfl⟩);·exact .inr ⟨_,_,_,rfl⟩|exit g=>(simp only[stepG,stepG.exec];cases exitTo g k with|none=>exact .inr ⟨_,_,_,rfl⟩|some k1=>exact .inl ⟨_,_,_,rfl⟩)|goto n=>(simp only[stepG,stepG.exec];cases gotoIn n k with|none=>exact .inr ⟨_,_,_,rfl⟩|some k1=>exact .inl ⟨_,_,_,rfl⟩)|region g ops F=>cases F with|false|true=>exact .inl ⟨_,_,_,rfl⟩)|_=>cases e.1
theorem J6(q:FR P K S r fr fr')(d:fr.mode=.returning):uj (stepG P m ⟨fr,c::l,.running,none,none⟩ v):=by obtain⟨fn,tmps,todo,defers,mode,kind,w⟩:=fr;obtain⟨s,C,x,y,z,A,B⟩:=fr';obtain⟨⟨h1,_⟩,p,e,t,⟨f,g⟩,h,⟨b,j⟩,⟨i,k⟩⟩:=q;dsimp only at h1 p e t f g h b j i k d;subst h1 e f g h b j i k d;cases n:P.funcs[s]? with|none=>simp only[stepG,unwind,n,doReturn];exact .inl ⟨_,_,_,rfl⟩|some u=>simp only[stepG,unwind,n];cases D:(results u tmps).runT P v #[]with|mk cB E=>cases cB with|halt o w0=>cases o<;>exact .inr ⟨_,_,_,rfl⟩|ok a v2=>exact .inl ⟨_,_,_,rfl⟩
end
def gd(g:Dm):FuncId:=((g.callers.getLast?).getD g.frame).fn
theorem UZ(e fr:Frame)(l:B8)(s:GoStatus)(d:Option Dying)(o:Option (Array CommCase×CommShape)):gd ⟨e,fr::l,s,d,o⟩=((l.getLast?).getD fr).fn:=by simp only[gd,List.getLast?_cons,Option.getD_some]
theorem Hp(h:fr1.fn=fr.fn)(l:B8):((l.getLast?).getD fr1).fn=((l.getLast?).getD fr).fn:=by cases l.getLast? with|none=>exact h|some c=>rfl
theorem rX(h:fr1.fn=fr.fn)(l:B8):gd ⟨fr1,l,.running,none,none⟩=((l.getLast?).getD fr).fn:=Hp h l
theorem sS(fr:Frame)(x:Fi):(fr.finish x).fn=fr.fn:=by unfold Frame.finish;split<;>rfl
theorem Yk(fr:Frame)(x:List PanicEntry):(fr.raise x).fn=fr.fn:=by unfold Frame.raise;split<;>rfl
section
variable{P:Program}{K:Cm}{S:FuncId->Bool}{r:Rn}{cs cs' l l':B8}{m m':Bool}{v w:DS}
theorem aaQ{k:List Item}(y:fr=⟨fr.fn,fr.tmps,.inRegion ops (i::rest)::k,[],.run,.normal,none⟩)(c:WR K P r v w)(o:aW v){s s':Sem Next}(m:SR P K (NR K P.globals.size S) r s s'){p:Array Event}(h:stepG.apply P true fr l none s v=.go g1 v1 p):gd g1=((l.getLast?).getD fr).fn/\g1=VG g1.frame g1.callers:=by rw[y]at h⊢;unfold stepG.apply at h;simp only[if_true]at h;cases e:s.runT P v #[]with|mk cB n=>rw[e]at h;cases cB with|halt t w0=>(have d:=m.nA v w c o;have j:=Sem.runT_fst P s v #[];rw[e]at j;rw[<-j]at d;dsimp only at d h;cases t with|panic x=>simp only[GStep.after,GStep.go.injEq]at h;obtain⟨rfl,_⟩:=h;exact⟨rX (Yk _ _) l,rfl⟩|stuck x=>cases h|unsupported u=>(cases u with|initOrder g=>cases d.1|_=>cases h)|_=>cases d.1)|ok a v2=>obtain⟨⟨b,w1,new,r1,_,z,_⟩,_⟩:=m.pW v (aG w (λi q=>v.tape (v.drawn+i) q) 0) #[] #[] _ v2 n ⟨c.cy,c.inj,c.one,c.low,c.eu⟩ (λk q=>(by show v.tape (v.drawn+k) q=v.tape (v.drawn+(0+k)) q;rw[Nat.zero_add])) e;cases z with|value A|skip=>simp only[GStep.after,GStep.go.injEq]at h;obtain⟨rfl,_⟩:=h;exact⟨rX (sS _ _) l,rfl⟩|enter f A B=>simp only[GStep.after,GStep.go.injEq]at h;obtain⟨rfl,_⟩:=h;exact⟨UZ _ _ _ _ _ _,rfl⟩
theorem TO(R:oq P K S)(O:FR P K S r fr fr')(G:fr.mode=.run)(y:WR K P r v w)(Q:aW v){T:Array Event}(e:stepG P m ⟨fr,l,.running,none,none⟩ v=.go g1 v1 T):gd g1=((l.getLast?).getD fr).fn/\g1=VG g1.frame g1.callers:=by obtain⟨fn,tmps,todo,defers,mode,kind,X⟩:=fr;obtain⟨f,N,H,W,a3,a2,Y⟩:=fr';obtain⟨⟨h1,_⟩,I,J,j,⟨A,z⟩,u,⟨B,C⟩,⟨D,E⟩⟩:=O;dsimp only at h1 I J j A z u B C D E G;subst h1 J A z u B C D E G;have same:∀fr1:Frame,fr1.fn=f->gd ⟨fr1,l,.running,none,none⟩=((l.getLast?).getD ⟨f,tmps,H,[],.run,.normal,none⟩).fn:=λfr1 h=>Hp h l;cases H with|nil=>simp only[stepG,stepG.exec]at e;obtain⟨rfl,_⟩:=e;exact⟨same _ rfl,rfl⟩|cons it k=>simp only[List.all_cons,Bool.and_eq_true]at j;cases it with|inBlock g|inLoop q|inScope q=>simp only[stepG,stepG.exec,GStep.go.injEq]at e;obtain⟨rfl,_⟩:=e;exact⟨same _ rfl,rfl⟩|inRegion ops todo=>(cases todo with|nil=>simp only[stepG,stepG.exec,GStep.go.injEq]at e;obtain⟨rfl,_⟩:=e;exact⟨same _ rfl,rfl⟩|cons i rest=>simp only[stepG,stepG.exec]at e;split at e;(·simp only[stepG.oper,Frame.oper?]at e;cases s:ops[i]? with|none=>rw[s]at e;cases e|some o=>rw[s]at e;dsimp only at e;have F:=j.1;simp only[fc]at F;have t:jT P K S o=true:=Array.all_eq_true_iff_forall_mem.1 F o (Array.mem_of_getElem? s);simp only[jT,Bool.and_eq_true]at t;have M:=vS (P:=P) (K:=K) (S:=S) (r:=r) R y.eu (fr:=⟨f,tmps,.inRegion ops (i::rest)::k,[],.run,.normal,none⟩) (fr':=⟨f,N,.inRegion ops (i::rest)::k,[],.run,.normal,none⟩) I t.1 (λx U=>Array.all_eq_true_iff_forall_mem.1 t.2 x U);exact aaQ rfl y Q M e);·simp only[GStep.go.injEq]at e;obtain⟨rfl,_⟩:=e;exact⟨same _ (sS _ _),rfl⟩)|code c=>(cases c with|skip|label n|seq a b|block g q|loop q|scope q=>simp only[stepG,stepG.exec,GStep.go.injEq]at e;obtain⟨rfl,_⟩:=e;exact⟨same _ rfl,rfl⟩|ret=>simp only[stepG,stepG.exec]at e;obtain⟨rfl,_⟩:=e;exact⟨same _ rfl,rfl⟩|refuse Z=>simp only[stepG,stepG.exec]at e;cases e|rangeFunc a b c d=>cases j.1|cond c a0 a1=>simp only[stepG,stepG.exec]at e;split at e;(·simp only[GStep.go.injEq]at e;obtain⟨rfl,_⟩:=e;exact⟨same _ rfl,rfl⟩);·cases e|exit g=>(simp only[stepG,stepG.exec]at e;cases p:exitTo g k with|none=>rw[p]at e;simp at e|some k1=>rw[p]at e;simp only[Option.elim,GStep.go.injEq]at e;obtain⟨rfl,_⟩:=e;exact⟨same _ rfl,rfl⟩)|goto n=>(simp only[stepG,stepG.exec]at e;cases p:gotoIn n k with|none=>rw[p]at e;simp at e|some k1=>rw[p]at e;simp only[Option.elim,GStep.go.injEq]at e;obtain⟨rfl,_⟩:=e;exact⟨same _ rfl,rfl⟩)|region g ops V=>have L:∀x:DS,(choose (.order f g)).run P x=.ok (x.tape x.drawn (.order f g)) {x with drawn:=x.drawn+1}:=λx=>rfl;cases V with|false=>simp only[stepG,stepG.exec,Bool.not_false,if_true,GStep.go.injEq]at e;obtain⟨rfl,_⟩:=e;exact⟨same _ rfl,rfl⟩|true=>simp only[stepG,stepG.exec,Bool.not_true,Bool.false_eq_true,if_false,L,GStep.go.injEq]at e;obtain⟨rfl,_⟩:=e;exact⟨same _ rfl,rfl⟩)|_=>cases j.1
theorem aaf(t:FR P K S r fr fr')(e:fr.mode=.returning){q:Array Event}(b:stepG P m ⟨fr,c::l,.running,none,none⟩ v=.go g1 v1 q):gd g1=(((c::l).getLast?).getD fr).fn/\g1=VG g1.frame g1.callers:=by obtain⟨fn,tmps,todo,defers,mode,kind,E⟩:=fr;obtain⟨x,F,A,B,C,D,z⟩:=fr';obtain⟨⟨h1,_⟩,s,f,u,⟨g,h⟩,d,⟨j,k⟩,⟨i,n⟩⟩:=t;dsimp only at h1 s f u g h d j k i n e;subst h1 f g h d j k i n e;rw[List.getLast?_cons,Option.getD_some];cases o:P.funcs[x]? with|none=>simp only[stepG,unwind,o,doReturn,GStep.go.injEq]at b;obtain⟨rfl,_⟩:=b;exact⟨rX (sS _ _) l,rfl⟩|some w=>simp only[stepG,unwind,o]at b;cases y:(results w tmps).runT P v #[]with|mk cB G=>rw[y]at b;cases cB with|halt p w0=>cases p<;>cases b|ok a v2=>simp only[doReturn,GStep.after,GStep.go.injEq]at b;obtain⟨rfl,_⟩:=b;exact⟨rX (sS _ _) l,rfl⟩
end
end Co
namespace Co
open Conc
section
variable{P:Program}{K:Cm}{S:FuncId->Bool}{Q:Fi->DS->Prop}
theorem rT{c:Array Event}(b:a.status=.running)(h:stepG P true a v=.go g1 v1 c):runN P (n+1) (solo a v)=runN P n (solo g1 v1):=by simp only[runN,step_solo_go b h]
theorem runN_ended{o:Outcome}{c:Array Event}{m:Machine}(b:a.status=.running)(h:stepG P true a v=.ended o v1 c):runN P (n+1) (solo a v)≠.next m:=by(have:step P (solo a v)=.ended o v1:=by rw[step,stepT_solo b];simp[runT,solo,Array.swapAt!,Array.swapAt,h]);simp only[runN,this];exactλh=>by cases h
theorem uf{b:B8}(h:runN P 0 (solo (VG fr l) v)=.next (solo (VG fr2 b) v2)):fr=fr2/\l=b/\v=v2:=by simp only[runN,Stepped.next.injEq,solo,Machine.mk.injEq]at h;obtain⟨h1,a,_⟩:=h;simp at a;exact⟨a.1,a.2,h1⟩
theorem zJ(q:aW v)(k:fr.defers=[⟨.collected 0,#[]⟩])(p:fr.roundOf=none)(r:fr.todo=[]):∀n,runN P n (solo (VG fr []) v)≠.next (solo (VG fr2 (Bs P)) v2):=by
 have g:(Instr.takeDeferred 0).runT P v #[]=(.halt (.stuck "getObj: a row of cells") v,#[]):=by obtain⟨c,e,fz,h0⟩:=q.2;show((getObj 0).bind _).runT P v #[]=_;simp only[getObj,Sem.bind,Sem.runT,h0]
 have j:∀(f:Frame),f.defers=[⟨.collected 0,#[]⟩]->f.mode≠.run->∀n,runN P n (solo (VG f []) v)≠.next (solo (VG fr2 (Bs P)) v2):=by intro f d m n;(have b:∃o i,stepG P true (VG f []) v=.ended o v i:=by cases a:f.mode with|run=>exact absurd a m|returning|panicking c=>simp only[stepG,a,unwind,d,g,GStep.after];exact⟨_,_,rfl⟩);cases n with|zero=>intro h;have:=(uf h).2.1;cases this|succ n=>obtain⟨o,i,b⟩:=b;exact runN_ended rfl b
 intro n;by_cases hrun:fr.mode=.run;·cases n with|zero=>intro h;have:=(uf h).2.1;cases this|succ n=>(have l:stepG P true (VG fr []) v=.go (VG {fr with mode:=.returning} []) v #[]:=by simp[stepG,hrun,stepG.exec,r,p]);rw[rT rfl l];exact j {fr with mode:=.returning} k (λh=>FrameMode.noConfusion h) n
 ·exact j fr k hrun n
theorem JZ:∀(n:Nat)(fr:Frame)(l:B8)(v:DS)(fr2:Frame)(v2:DS),aW v->mL (Bs P) (VG fr l)->runN P n (solo (VG fr l) v)=.next (solo (VG fr2 (Bs P)) v2)->fr2.mode≠.returning:=by intro n;induction n with|zero=>rintro fr l v fr2 v2 _⟨c,bq,h1,_⟩h f;obtain⟨rfl,_⟩:=uf h;rw[show fr.mode=.panicking c from h1]at f;cases f|succ n r=>intro fr l v fr2 v2 e b h;have q:=b;obtain⟨c,bq,h1,j,i,u⟩:=q;have m:fr.mode=.panicking c:=h1;have p:fr.defers=[]:=j;have k:l=bq++Bs P:=i;(have a:(∃fr1 l1,stepG P true (VG fr l) v=.go (VG fr1 l1) v #[])\/∃o g,stepG P true (VG fr l) v=.ended o v g:=by simp only[stepG,unwind,m,p,k];split;(·exact .inr ⟨_,_,rfl⟩);·cases bq with|nil|cons d bq=>exact .inl ⟨_,_,rfl⟩);rcases a with⟨fr1,l1,a⟩|⟨o,g,a⟩;(·rw[rT rfl a]at h;obtain⟨_,s|⟨t,rfl,rfl⟩⟩:=AK b a;(·exact r _ _ _ _ _ e s h);·intro _;exact zJ e rfl rfl rfl n h);·exact absurd h (runN_ended rfl a)
theorem PA(i:Closed P K S):∀(n:Nat)(fr:Frame)(l:B8)(v:DS)(fr2:Frame)(v2:DS),Fits P K S (Bs P) fr l v->fr2.mode=.returning->runN P n (solo (VG fr l) v)=.next (solo (VG fr2 (Bs P)) v2)->∃k,kw P (Bs P) k fr l v fr2 v2:=by intro n;induction n with|zero=>intro fr l v fr2 v2 _ _ h;obtain⟨rfl,rfl,rfl⟩:=uf h;exact⟨0,.done _ _⟩|succ n B=>intro fr l v fr2 v2 x y h;have C:=x;obtain⟨r,cs',fr',l',w,d,g,m,f,c⟩:=C;by_cases hb:fr.mode=.returning/\l=Bs P;(·exfalso;obtain⟨p,rfl⟩:=hb;have j:=d.defers.1;have t:=d.kind.1;cases q:P.funcs[fr.fn]? with|none=>(have b:stepG P true (VG fr (Bs P)) v=.go (VG ((pA P).finish (fr.tmps.getD 0 undef)) []) v #[]:=by simp only[stepG,p,unwind,j,q,doReturn,t]);rw[rT rfl b]at h;exact zJ f rfl rfl rfl n h|some fn=>cases s:(results fn fr.tmps).runT P v #[]with|mk cB N=>cases cB with|halt F w0=>(have b:∃o v1 e,stepG P true (VG fr (Bs P)) v=.ended o v1 e:=by simp only[stepG,p,unwind,j,q,s];cases F<;>exact⟨_,_,_,rfl⟩);obtain⟨o,v1,e,b⟩:=b;exact runN_ended rfl b h|ok a D=>have u:=(nf (P:=P) (K:=K) fn d.tmps).nA v w m f;have z:=Sem.runT_fst P (results fn fr.tmps) v #[];rw[s]at z;rw[<-z]at u;(have b:∃e,stepG P true (VG fr (Bs P)) v=.go (VG ((pA P).finish a) []) D e:=by simp only[stepG,p,unwind,j,q,s,doReturn,t,GStep.after];exact⟨_,rfl⟩);obtain⟨e,b⟩:=b;rw[rT rfl b]at h;exact zJ u rfl rfl rfl n h);·(have G:uj (stepG P true (VG fr l) v):=by rcases c with c|c;(·exact Xs i.tooq d c m f);·cases g with|base=>exact absurd ⟨c,rfl⟩ hb|cons H I g=>exact J6 d c);rcases G with⟨g1,v1,e,b⟩|⟨o,v1,e,b⟩;(·rw[rT rfl b]at h;rcases zo i x hb b with⟨A,L⟩|⟨fr1,l1,rfl,J,_⟩;(·(have M:g1=VG g1.frame g1.callers:=by rcases c with c|c;(·exact(TO i.tooq d c m f b).2);·cases g with|base=>exact absurd ⟨c,rfl⟩ hb|cons H I g=>exact(aaf d c b).2);rw[M]at h A;exact absurd y (JZ n _ _ _ _ _ L A h));·obtain⟨k,E⟩:=B _ _ _ _ _ J y h;exact⟨k+1,.step hb b E⟩);·exact absurd h (runN_ended rfl b)
theorem ends_of_calls(b:Closed P K S)(k:mJ Q){f:FuncId}{args:B6}(a:Fits P K S (Bs P) (Frame.enter P f args .normal) (Bs P) v)(h:∀T d,Calls P f args (aG v T d) λe v'=>∃x,e=.returned x/\Q x v'):Ends P (Bs P) Q (Frame.enter P f args .normal) (Bs P) v:=by refine aeT b k a λT d=>?_;obtain⟨e,v2,fr2,⟨x,rfl,i⟩,⟨n,j⟩,_,c⟩:=h T d (Bs P);obtain⟨l,g⟩:=PA b n _ _ _ _ _ (a.aG T d) c.1 j;exact⟨l,fr2,v2,x,g,c,i⟩
end
end Co
namespace Ph
def En(p:Pc):Bool:=match p with|.sq|.c1|.r1|.c2|.r3|.uc=>false|_=>true
theorem mh{T:Th}(h:En T.pc=true)(b:T.old.ok):TW T:=by
 have ne:∀p,En p=false->T.pc≠p:=λp a e=>by rw[e,a]at h;cases h
 refine⟨b,λe=>absurd e (ne _ rfl),λe=>absurd e (ne _ rfl),λe=>absurd e (ne _ rfl),?_,?_,λe=>absurd e (ne _ rfl),?_⟩;·rintro(e|e)<;>exact absurd e (ne _ rfl)
 ·rintro(e|e|e|e|e)<;>exact absurd e (ne _ rfl)
 ·rintro(e|e)<;>exact absurd e (ne _ rfl)
theorem vy{T:Th}(b:T.old.ok)(h1:T.aw=true->T.old.k=1)(c:T.sv=true->T.aw=true)(a:T.it<=4):TW (head T):=by unfold head;split;(·rename_i h;exact⟨b,λ_=>⟨h.1,h.2,a⟩,(by simp),(by simp),λ_=>h1,λ_=>c,(by simp),λ_=>a⟩);·exact⟨b,(by simp),(by simp),(by simp),λ_=>h1,λ_=>c,(by simp),λ_=>a⟩
theorem Bq{T:Th}(a:T.old.ok):TW (cG T):=by unfold cG;split;(·exact mh rfl a);·rename_i h;obtain⟨h1,c,d,b⟩:=a;exact⟨⟨h1,c,d,b⟩,(by simp),(by simp),(by simp),(by simp),(by simp),λ_=>(by dsimp only;omega),(by simp)⟩
theorem yR:Wd.ok ⟨0,0,0,0⟩:=by simp[Wd.ok]
theorem NK{T T':Th}{s s':Sh}(h:Mv N n T s T' s')(a:TW T)(c:s.word.ok)(f:aU T=1->s.word.k=1)(l:s.word.s=0->aQ T=0):TW T':=by have b:=a.mK;cases h with|r0 h=>exact vy c (by simp) (by simp) (by simp)|kS h k=>obtain⟨s1,s2,t⟩:=a.sq h;split;(·rename_i j;exact⟨b,(by simp),λ_=>⟨s1,s2,j.2.1,(by dsimp only;omega),j.1,k⟩,(by simp),(by simp),λ_=>a.jX (.inl h),(by simp),(by simp)⟩);·exact⟨b,(by simp),(by simp),λ_=>k,(by simp),λ_=>a.jX (.inl h),(by simp),(by simp)⟩|sP h=>exact⟨b,(by simp),(by simp),(by simp),λ_=>a.mC (.inl h),λ_=>a.jX (.inl h),(by simp),λ_=>(a.sq h).2.2⟩|nl h e=>exact⟨b,(by simp),(by simp),λ_=>(a.c1 h).2.2.2.2.2,(by simp),λ_ _=>rfl,(by simp),(by simp)⟩|rF h e=>exact⟨b,(by simp),(by simp),λ_=>(a.c1 h).2.2.2.2.2,(by simp),λ_=>a.jX (.inr (.inl h)),(by simp),(by simp)⟩|r1 h=>refine vy c (λg=>f ?_) (λd=>a.jX (.inr (.inr (.inl h))) d) (a.r1 h);have i:T.aw=true:=g;simp[aU,h,i]|qJ h e=>exact⟨b,(by simp),(by simp),(by simp),(by simp),λ_=>a.jX (.inr (.inr (.inr (.inl h)))),(by simp),λ_=>a.FW (.inl h)⟩|r3 h=>refine vy c (λg=>f ?_) (λd=>a.jX (.inr (.inr (.inr (.inr h)))) d) (a.FW (.inr h));have i:T.aw=true:=g;simp[aU,h,i]|kg h d=>refine vy c (λ_=>f ?_) (λ_=>rfl) (by simp);have:=l d;simp only[aQ,h]at this;simp only[aU,h];revert this;cases T.bt<;>simp|u0 h=>obtain⟨h1,q,m,r⟩:=c;unfold dv;split;(·exact mh rfl b);·split;(·exact Bq ⟨(by dsimp only;omega),q,m,r⟩);·exact mh rfl b|ux h=>exact Bq c|ue h=>unfold next;split;(·exact mh rfl yR);·split<;>exact mh rfl yR|jm p h o e h0=>rcases o with rfl|rfl<;>exact mh rfl b|_=>exact mh rfl b
theorem Xu{T T':Th}{s s':Sh}(h:Mv N n T s T' s')(d:TW T)(c:s.word.s=1)(f:aQ T=0)(e:aS T=0)(b:2<=s.word.w):2<=s'.word.w:=by cases h with|rI h a=>rw[a]at b;simp at b|nl h a=>rw[a]at c;have:=(d.c1 h).2.1;omega|mT h a h0=>rw[a]at c;omega|jm p h g a h0=>rw[a]at b;simp only[fZ];split<;>omega|a1 h=>simp[aQ,h]at f|u0 h=>simp[aS,h]at e|rE h a=>rw[a]at c;have:=(d.uc h).2.2.1;omega|_=>exact b
theorem QC{T T':Th}{s s':Sh}(h:Mv N n T s T' s')(h1:s.word.s=1->1<=s.word.w):T'.pc=.a1->T'.ex=false->T.pc=.r2/\s'.word=s.word/\2<=s.word.w:=by intro a c;cases h with|vn h d=>refine⟨h,rfl,?_⟩;have:=h1 d;simp only[Bool.or_eq_false_iff,decide_eq_false_iff_not]at c;omega|r0 h|r1 h|r3 h|kg h=>unfold head at a;split at a<;>cases a|kS h=>split at a<;>cases a|ux h=>unfold cG at a;split at a<;>cases a|u0 h=>unfold dv at a;split at a;(·cases a);·split at a;(·unfold cG at a;split at a<;>cases a);·cases a|ue h=>unfold next at a;split at a;(·cases a);·split at a<;>cases a|jm p h b=>dsimp only at a;rcases b with rfl|rfl<;>cases a|_=>cases a
def Wd.lone(x:Wd):Prop:=x.l=0/\x.k=0/\x.s=0/\1<=x.w
theorem JU{T T':Th}{s s':Sh}(h:Mv N n T s T' s')(k:s'.word.lone):(s'.word=s.word/\¬(T.pc=.uc/\T.old=s.word))\/(T'.pc=.uc/\T'.old=s'.word):=by obtain⟨h1,f,c,j⟩:=k;have d:∀p,T.pc=p->p≠.uc->¬(T.pc=.uc/\T.old=s.word):=λp e l b=>l (e▸b.1);cases h with|rI h a|a1 h=>simp at h1|nl h a|rE h a=>simp at f|mT h a h0=>simp[fZ,h0.2]at h1|jm p h m a h0=>simp only[fZ]at h1 c;split at h1;(·omega);·split at c;(·omega);·omega|qK h a=>exact .inl ⟨rfl,λb=>a b.2.symm⟩|u0 h=>right;dsimp only at h1 f c j;unfold dv;rw[if_neg (by simp only[Wd.mk.injEq];omega),if_pos (by dsimp only;omega)];unfold cG;rw[if_neg (by dsimp only;omega)];exact⟨rfl,rfl⟩|_=>rename_i h;exact .inl ⟨rfl,by first|exact d _ h (by simp)|(rename_i g;exact d _ g (by simp))|(rename_i g i;exact d _ i (by simp))⟩
def db(p:Pc)(aw:Bool):Nat:=match p with|.ld=>50|.l0=>49|.r0=>48|.sq|.c1|.r1|.c2|.r3=>if aw then 40 else 48|.t1=>36|.s1=>35|.t2=>44|.r2=>43|.a1=>39|.le=>30|.la=>29|.ur=>28|.ud=>27|.u0=>26|.uc|.ux=>24|.us=>23|.ue=>12|.wr=>9|.wd=>8|.d1=>7|.d2=>6|.d3=>5|.d4=>4|.quit=>0
def tail(p:Pc):Bool:=match p with|.wr|.wd|.d1|.d2|.d3|.d4|.quit=>true|_=>false
def phi(T:Th):Nat:=db T.pc T.aw+if tail T.pc then 0 else if T.ct then 60 else if T.af.isSome then 110 else 10
def ey(N n:Nat)(T:Th)(s:Sh):Nat:=phi T+10*s.ms+s.ws+100*(N-n)
def dW(T:Th)(x:Wd):Nat:=match T.pc with|.r0|.r3=>20|.r1=>4*(4-T.it)+1|.c1=>4*(4-T.it)+2|.sq=>if T.old=x then 4*(4-T.it)+3 else 22|.c2=>if T.old=x then 2 else 21|.uc=>if T.old=x then 1 else 3|.ux=>2|_=>0
def gB(N n:Nat)(T:Th):Nat:=if T.pc=.la/\T.ct=false/\n<N then n+1 else n
theorem Af(T:Th):dW (head T) T.old<=4*(4-T.it)+3:=by unfold head;split;(·simp[dW]);·simp[dW]
theorem vY{T:Th}:phi (head T)=(if T.aw then 40 else 48)+(if T.ct then 60 else if T.af.isSome then 110 else 10):=by unfold head;split<;>simp[phi,db,tail]
theorem af5{T T':Th}{s s':Sh}(h:Mv N n T s T' s')(f:TW T)(k:T.pc=.la->T.ct=false->T.af=none):ey N (gB N n T) T' s'<ey N n T s\/(phi T'=phi T/\s'=s/\gB N n T=n/\dW T' s.word<dW T s.word):=by(have a:∀p,T.pc=p->p≠.la->gB N n T=n:=λp e m=>by unfold gB;rw[if_neg (by rw[e];exactλb=>m b.1)]);cases h with|r0 h=>right;refine⟨by rw[vY];simp[phi,db,tail,h],rfl,a _ h (by simp),?_⟩;have:=Af {T with old:=s.word,aw:=false,sv:=false,it:=0};simp only[dW,h]at this⊢;omega|kS h t=>right;(have i:∀p,(p=.c1\/p=.r1)->phi {T with pc:=p}=phi T:=by rintro p(rfl|rfl)<;>simp[phi,db,tail,h]);split;(·exact⟨i _ (.inl rfl),rfl,a _ h (by simp),by simp only[dW,h];split<;>omega⟩);·exact⟨i _ (.inr rfl),rfl,a _ h (by simp),by simp only[dW,h];split<;>omega⟩|sP h=>right;exact⟨by simp[phi,db,tail,h],rfl,a _ h (by simp),by simp only[dW,h];split<;>omega⟩|rF h c=>right;exact⟨by simp[phi,db,tail,h],rfl,a _ h (by simp),by simp only[dW,h];omega⟩|r1 h=>right;have q:=f.r1 h;refine⟨by rw[vY];simp[phi,db,tail,h],rfl,a _ h (by simp),?_⟩;have:=Af {T with old:=s.word,it:=T.it+1};simp only[dW,h]at this⊢;omega|qJ h c|qK h c=>right;exact⟨by simp[phi,db,tail,h],rfl,a _ h (by simp),by simp only[dW,h];rw[if_neg (λe=>c e.symm)];omega⟩|r3 h=>right;refine⟨by rw[vY];simp[phi,db,tail,h],rfl,a _ h (by simp),?_⟩;have:=Af {T with old:=s.word};simp only[dW,h]at this⊢;omega|ux h=>unfold cG;split;(·left;rw[a _ h (by simp)];simp[ey,phi,db,tail,h]);·right;exact⟨by simp[phi,db,tail,h],rfl,a _ h (by simp),by simp[dW,h]⟩|sg h b=>left;have g:=k h b;by_cases hn:n<N;(·simp only[gB,h,b,hn,and_self,if_true,ey,phi,db,tail,g];simp;omega);·simp only[gB,h,b,hn,and_false,if_false,ey,phi,db,tail,g];simp|sW h b=>left;simp[gB,h,b,ey,phi,db,tail]|kg h o=>left;rw[a _ h (by simp)];simp only[ey,vY];simp[phi,db,tail,h]|nl h c=>left;rw[a _ h (by simp)];have:=(f.c1 h).2.2.2.2.1;simp[ey,phi,db,tail,h,this]|mT h c h0=>left;rw[a _ h (by simp)];simp only[ey,phi,db,tail,h];cases T.aw<;>simp|jm p h l c h0=>left;rw[a _ h (by simp)];rcases l with rfl|rfl<;>simp only[ey,phi,db,tail,h]<;>cases T.aw<;>simp|s1 h r|us h=>left;rw[a _ h (by simp)];simp only[ey,phi,db,tail,h];omega|u0 h=>left;rw[a _ h (by simp)];unfold dv;split;(·simp[ey,phi,db,tail,h]);·split;(·unfold cG;split<;>simp[ey,phi,db,tail,h]);·simp[ey,phi,db,tail,h]|ue h=>(left;rw[a _ h (by simp)];unfold next;cases b:T.ct with|true=>simp[ey,phi,db,tail,h,b]|false=>cases j:T.af with|none|some x=>simp[ey,phi,db,tail,h,b,j])|d4 h=>left;rw[a _ h (by simp)];simp only[ey,phi,db,tail,h];simp;omega|_=>rename_i h;left;first|(rw[a _ h (by simp)];simp[ey,phi,db,tail,h])|(rename_i d;rw[a _ d (by simp)];simp[ey,phi,db,tail,d])
end Ph
namespace Ph
open Conc ConcN ConcM
theorem de{a:Array Event}{op:MemOp}(h:op∈MemOp.ofEvents g fn pos a):∃e∈a,op={g,fn,pos,act:=.ofEvent e}:=by rw[ofEvents_eq]at h;obtain⟨e,b,rfl⟩:=Array.mem_map.1 h;exact⟨e,b,rfl⟩
def jJ(Sh:Loc->Prop)(t:Trace)(i:Nat)(x:Touch):Prop:=Sh x.loc/\x.kind=.atomic/\¬t.heard i
theorem jJ.app{Sh:Loc->Prop}{t:Trace}{x:Touch}(h:jJ Sh t i x)(b:i<t.size)(u:Trace):jJ Sh (t++u) i x:=⟨h.1,h.2.1,λa=>h.2.2 ((heard_old b).1 a)⟩
theorem lt_of_touch{t:Trace}{x:Touch}(h:touchAt t i=some x):i<t.size:=by obtain⟨op,a,_⟩:=touch_of h;exact lt_size_of_getElem? a
def gR(t:Trace):Prop:=∀op∈t,∀a,op.act≠.mark (.release a)
theorem gR.one{t:Trace}(h:gR t)(a:Addr):NoRelease a t:=λi b=>by obtain⟨op,c,d⟩:=Option.map_eq_some_iff.1 b;exact h op (Array.mem_of_getElem? c) a d
theorem gR.app{t u:Trace}(h:gR t)(a:gR u):gR (t++u):=λop ah=>(Array.mem_append.1 ah).elim (h op) (a op)
def jg(B:Nat)(t:Trace):Prop:=∀i x,touchAt t i=some x->x.loc.low B
theorem jg.mono{B:Nat}(h:B<=B'){t:Trace}(k:jg B t):jg B' t:=λi x a=>Loc.low_mono h (k i x a)
theorem jg.app{B:Nat}{t u:Trace}(h:jg B t)(e:∀op∈u,∀x,op.act.touch?=some x->x.loc.low B):jg B (t++u):=by intro i x c;obtain⟨op,d,a⟩:=touch_of c;rcases getElem?_append_cases d with⟨_,f⟩|⟨_,b⟩;(·exact h i x (by rw[touchAt_of f];exact a));·exact e op b x a
structure fp(Sh:Loc->Prop)(J B:Nat)(t:Trace):Prop where
 quiet:Quiet Sh t
 qj:∀i x,touchAt t i=some x->Knows t 0 i\/jJ Sh t i x
 nr:∀said,¬Race said t
 gs:∀(i:Nat)(op:MemOp),t[i]?=some op->op.g<J
 low:jg B t
 nt:gR t
 hear:Deaf t 0=0
def EvM(Sh:Loc->Prop)(B:Nat)(e:Event):Prop:=(∀x,(MemAct.ofEvent e).touch?=some x->¬Sh x.loc/\x.loc.low B)/\e.loc≠.mark .disable/\e.loc≠.mark .enable/\∀a,e.loc≠.mark (.release a)
theorem pj{e:Event}{a:Addr}(h:MemAct.ofEvent e=.mark (.release a)):e.loc=.mark (.release a):=by obtain⟨l,x,y⟩:=e;cases l with|obj c=>cases x<;>cases y<;>simp[MemAct.ofEvent]at h|mark m=>simpa[MemAct.ofEvent]using h|_=>simp[MemAct.ofEvent]at h
theorem jJ.RU{Sh:Loc->Prop}{t:Trace}{x b:Touch}{c:Bool}(h:jJ Sh t i x)(d:x.conflicts c b)(f:Sh b.loc->b.kind≠.plain):False:=by
 obtain⟨h1,g,_⟩:=h;obtain⟨e,_,_,a⟩:=d;rw[g]at a;rcases a with a|a|⟨_,a,_⟩;·cases a
 ·exact f (e▸h1) a
 ·cases a
theorem fp.own{Sh:Loc->Prop}{B:Nat}{t:Trace}(h:fp Sh J B t)(v:0<J)(A:B<=B'){g:Array Event}(j:∀e∈g,EvM Sh B' e):fp Sh J B' (t++MemOp.ofEvents 0 fn pos g):=by
 have g0:∀op∈MemOp.ofEvents 0 fn pos g,op.g=0:=λop ah=>by obtain⟨e,_,rfl⟩:=de ah;rfl
 have k:∀op∈MemOp.ofEvents 0 fn pos g,∀x,op.act.touch?=some x->¬Sh x.loc/\x.loc.low B':=λop ah x c=>by obtain⟨e,f,rfl⟩:=de ah;exact(j e f).1 x c
 refine⟨h.quiet.app λop ah x c m=>absurd m (k op ah x c).1,λi x c=>?_,λs=>noRace_append (h.nr s) g0 λi a p op ah b q r=>?_,λi op u=>?_,(h.low.mono A).app λop ah x c=>(k op ah x c).2,h.nt.app λop ah a e=>?_,?_⟩;·obtain⟨op,n,w⟩:=touch_of c;rcases getElem?_append_cases n with⟨y,z⟩|⟨_,l⟩;(·exact(h.qj i x (by rw[touchAt_of z];exact w)).imp (·.app _) (λd=>d.app y _));·have:=knows_own n;rw[g0 op l]at this;exact .inl this
 ·rcases h.qj i a p with C|D;(·exact C);·exact(D.RU r λm=>absurd m (k op ah b q).1).elim
 ·rcases getElem?_append_cases u with⟨_,o⟩|⟨_,l⟩;(·exact h.gs i op o);·rw[g0 op l];exact v
 ·obtain⟨x,f,rfl⟩:=de ah;exact(j x f).2.2.2 a (pj e)
 ·rw[Deaf_own,deafBehind_still (λe f=>⟨(j e f).2.1,(j e f).2.2.1⟩)];exact h.hear
theorem Hf{e:Event}(h:e.mute=true)(a:Addr):MemAct.ofEvent e≠.mark (.release a):=by intro x;rw[Event.mute.eq_def]at h;have:=pj x;obtain⟨l,p,q⟩:=e;simp only at this;subst this;simp at h
theorem fp.mute{Sh:Loc->Prop}{B:Nat}{t:Trace}(h:fp Sh J B t)(y:i≠0)(u:i<J){f:Array Event}(o:∀e∈f,e.mute=true):fp Sh J B (t++MemOp.ofEvents i fn pos f):=by
 have g0:∀op∈MemOp.ofEvents i fn pos f,op.g=i:=λop ah=>by obtain⟨e,_,rfl⟩:=de ah;rfl
 have g:∀op∈MemOp.ofEvents i fn pos f,op.act.touch?=none:=λop ah=>by obtain⟨e,j,rfl⟩:=de ah;exact touch_mute (o e j)
 refine⟨h.quiet.app λop ah x c=>(by rw[g op ah]at c;cases c),λk x c=>?_,λq=>noRace_append (h.nr q) g0 λ_ a _ op ah b n _=>(by rw[g op ah]at n;cases n),λk op r=>?_,h.low.app λop ah x c=>(by rw[g op ah]at c;cases c),h.nt.app λop ah a e=>?_,?_⟩;·obtain⟨op,s,m⟩:=touch_of c;rcases getElem?_append_cases s with⟨v,w⟩|⟨_,l⟩;(·exact(h.qj k x (by rw[touchAt_of w];exact m)).imp (·.app _) (λd=>d.app v _));·rw[g op l]at m;cases m
 ·rcases getElem?_append_cases r with⟨_,p⟩|⟨_,l⟩;(·exact h.gs k op p);·rw[g0 op l];exact u
 ·obtain⟨x,j,rfl⟩:=de ah;exact Hf (o x j) a e
 ·rw[Deaf_other t y _ g0];exact h.hear
theorem fp.over{Sh:Loc->Prop}{B:Nat}{t:Trace}(h:fp Sh J B t):t.HandedOver:=by intro i g c l f;obtain⟨x,k,n,a⟩:=f;rcases h.qj i x k with⟨q,z,e,d,b⟩|⟨_,m,j⟩;(·refine⟨q,by simp[Trace.g?,e,d],?_⟩;rcases b with rfl|b;(·simp only[Trace.g?,e,Option.map_some,Option.some.injEq]at c;exact absurd (c.symm.trans d) l);·exact b);·rcases a with a|a;(·exact absurd m a);·exact absurd a j
theorem fp.nil(Sh:Loc->Prop)(J B:Nat):fp Sh J B #[]:=by refine⟨λi op x d=>(by simp at d),λi x c=>absurd (lt_of_touch c) (by simp),λf=>?_,λi op d=>(by simp at d),λi x c=>absurd (lt_of_touch c) (by simp),λop ah=>(by simp at ah),rfl⟩;rintro⟨i,j,_,⟨a,b,e,_⟩,_⟩;exact absurd (lt_of_touch (t:=#[]) e) (by simp)
section
variable{Sh Pr:Loc->Prop}{Own Own' Rd:Nat->Loc->Prop}{a:Addr}{t:Trace}{j:Nat}{o:Option Nat}
theorem C'(h:LT Sh Pr Own Rd a t j o)(e:∀k l,Own k l->Own' k l)(f:∀k l,1<=k->k<=j->Own' k l->Own k l\/Perm t k l):LT Sh Pr Own' Rd a t j o:=by refine⟨h.quiet,λk k1 b l g=>?_,h.rd,λl h1 d c=>h.free l h1 d λk k1 b=>⟨λx=>(c k k1 b).1 (e k l x),(c k k1 b).2⟩,λl h1 d c=>h.mine l h1 d λk k1 b x=>c k k1 b (e k l x),h.tok,h.norel,h.nr,h.gs⟩;rcases f k l k1 b g with x|x;(·exact h.own k k1 b l x);·exact x
def Un(t:Trace)(l:Loc):Prop:=∀i x,touchAt t i=some x->x.loc≠l
theorem Un.perm{l:Loc}(h:Un t l)(k:Nat):Perm t k l:=λi x a e=>absurd e (h i x a)
theorem acM{Sn:Loc->Prop}{B:Nat}(h:fp Sh (j+1) B t)(m:J=j)(p:∀l,Sn l->Un t l)(q:∀l,Pr l->Un t l)(r:∀k l,k<=j->¬Own k l)(s:∀k l,k<=j->¬Rd k l):LT (λl=>Sh l\/Sn l) Pr Own Rd a t J none:=by
 subst m;have kn:∀l,¬(Sh l\/Sn l)->Perm t 0 l:=λl b i x c e=>by rcases h.qj i x c with n|o;(·exact n);·exact absurd (.inl (e▸o.1)) b
 refine⟨λi op x f c d=>?_,λk _ g l b=>absurd b (r k l g),λk _ g l b=>absurd b (s k l g),λl h1 _ _=>kn l h1,λl h1 _ _=>PermW.of (kn l h1),λl b i x c e=>absurd e (q l b i x c),h.nt.one a,h.nr,λi op f=>Nat.le_of_lt_succ (h.gs i op f)⟩;rcases d with d|d;·exact h.quiet i op x f c d
 ·exact absurd rfl (p _ d i x (by rw[touchAt_of f];exact c))
end
structure RelB(Sh:Loc->Prop)(b:Addr)(t:Trace)(i r:Nat):Prop where
 act:t.act? r=some (.mark (.releaseMerge b))
 g:t.g? r=some i
 heard:t.heard r
 after:∀k x,r<k->t.g? k=some i->touchAt t k=some x->jJ Sh t k x
theorem RelB.app{Sh:Loc->Prop}{t:Trace}(h:RelB Sh b t i r){u:Trace}(j:∀k x,t.size<=k->(t++u).g? k=some i->touchAt (t++u) k=some x->jJ Sh (t++u) k x):RelB Sh b (t++u) i r:=by have c:r<t.size:=lt_of_act? h.act;refine⟨by rw[act?_old c];exact h.act,by rw[g?_old c];exact h.g,(heard_old c).2 h.heard,λk x g e d=>?_⟩;rcases Nat.lt_or_ge k t.size with a|f;(·exact(h.after k x g (by rw[<-g?_old (u:=u) a];exact e) (by rw[<-touchAt_old (u:=u) a];exact d)).app a u);·exact j k x f e d
theorem RelB.other{Sh:Loc->Prop}{t:Trace}(h:RelB Sh b t i r){u:Trace}(c:∀op∈u,op.g=g)(d:g≠i):RelB Sh b (t++u) i r:=h.app λk x m a _=>by obtain⟨op,e,f⟩:=Option.map_eq_some_iff.1 a;rcases getElem?_append_cases e with⟨l,_⟩|⟨_,j⟩;(·omega);·exact absurd ((c op j).symm.trans f) d
theorem RelB.new{Sh:Loc->Prop}{t:Trace}{y:MemOp}(d:Deaf t i=0)(a:y.g=i)(e:y.act=.mark (.releaseMerge b)):RelB Sh b (t++#[y]) i t.size:=by(have f:(t++#[y])[t.size]?=some y:=by simp);refine⟨by rw[act?_of f,e],by simp[Trace.g?,a],⟨i,by simp[Trace.g?,a],by rw[deaf_old (Nat.le_refl _)];exact d⟩,λk x h g _=>?_⟩;obtain⟨op,c,_⟩:=Option.map_eq_some_iff.1 g;have:=lt_size_of_getElem? c;simp at this;omega
theorem RelB.Yj{Sh:Loc->Prop}{t:Trace}(h:RelB Sh b t i r)(fn:FuncId)(pos:String)(a:Array Event)(w:∀j e,a[j]?=some e->(MemAct.ofEvent e).touch?=none\/(∃ad wr,e=⟨.cell ad,wr,true⟩/\Sh (.cell ad))/\0<deafBehind (Deaf t i) (a.extract 0 j)):RelB Sh b (t++MemOp.ofEvents i fn pos a) i r:=by
 refine h.app λk x p _ s=>?_;obtain⟨op,f,c⟩:=touch_of s;have l:(MemOp.ofEvents i fn pos a)[k-t.size]?=some op:=by rw[Array.getElem?_append]at f;simpa[Nat.not_lt.2 p]using f
 rw[ofEvents_eq,Array.getElem?_map]at l;obtain⟨e,d,rfl⟩:=Option.map_eq_some_iff.1 l;have q:k-t.size<=a.size:=by rcases Nat.lt_or_ge (k-t.size) a.size with m|m;(·omega);·rw[Array.getElem?_eq_none m]at d;cases d
 rcases w _ e d with h0|⟨⟨ad,wr,rfl,u⟩,z⟩;·simp only at c;rw[h0]at c;cases c
 ·(have n:x=⟨.cell ad,wr,.atomic⟩:=by simp[MemAct.ofEvent,MemAct.touch?]at c;exact c.symm);refine⟨by rw[n];exact u,by rw[n],λ⟨g,o,y⟩=>?_⟩;(have v:g=i:=by simp[Trace.g?,f]at o;exact o.symm);subst v;have:=deaf_inside t g fn pos a (k-t.size) q;rw[show t.size+(k-t.size)=k by omega,y]at this;omega
theorem ME{Sh:Loc->Prop}{Pr:Loc->Prop}{Own Rd:Nat->Loc->Prop}{a:Addr}{t:Trace}{j c B:Nat}{o:Option Nat}(A:ApartL Sh Pr Own Rd)(h:LT Sh Pr Own Rd a t j o)(H:jg B t)(I:gR t)(C:Deaf t 0=0)(old:∀i x g,touchAt t i=some x->t.g? i=some g->g<c->Knows t 0 i\/jJ Sh t i x)(rel:∀g,c<=g->g<=j->∃r,RelB Sh b t g r){z:MemOp}(n:z.g=0)(f:z.act=.mark (.acquire b)):fp Sh (j+1) B (t++#[z]):=by
 have s:z.act.touch?=none:=by rw[f];rfl
 have w:=h.still A (z:=z) (by rw[n];exact Nat.zero_le _) s (by rw[f];simp);have q:(t++#[z])[t.size]?=some z:=by simp
 have D:gR (t++#[z]):=I.app λop ah x=>by simp at ah;subst ah;rw[f];simp
 refine⟨w.quiet,λi x m=>?_,w.nr,λi op J=>Nat.lt_succ_of_le (w.gs i op J),H.app λop ah x m=>(by simp at ah;subst ah;rw[s]at m;cases m),D,?_⟩;·have l:=old_touch s m;have u:=lt_of_touch l;obtain⟨y,E,L⟩:=touch_of l;(have v:t.g? i=some y.g:=by simp[Trace.g?,E]);by_cases hc:y.g<c;(·exact(old i x y.g l v hc).imp (·.app _) (λd=>d.app u _));·obtain⟨r,e⟩:=rel y.g (Nat.le_of_not_lt hc) (h.gs i y E);have p:=lt_of_act? e.act;have F:HappensBefore (t++#[z]) r t.size:=.single (.inr ⟨.marked p (.inr (by rw[act?_old p];exact e.act)) (by rw[act?_of q,f]) (λk _ _=>D.one b k),(heard_old p).2 e.heard,⟨0,by simp[Trace.g?,n],by rw[deaf_old (Nat.le_refl _)];exact C⟩⟩);rcases Nat.lt_trichotomy i r with K|rfl|G;(·refine .inl ⟨t.size,z,q,n,.inr (.trans (.single (.inl ⟨K,y.g,?_,?_⟩)) F)⟩;(·rw[g?_old u];exact v);·rw[g?_old p];exact e.g);(·exact .inl ⟨t.size,z,q,n,.inr F⟩);·exact .inr ((e.after i x G v l).app u _)
 ·rw[Deaf_push];simp[deafStep,f,C]
end Ph
namespace Ph
open Conc ConcN ConcM Kw
structure Cx where
 P:Program
 Cw:Nat
 Wg:Nat
 Rc:Nat
 low:Nat
 tC:TypeId
 tW:TypeId
 tR:TypeId
 aN:CL
 N:Nat
 n:Nat
 c0:Nat
 aI:Nat->CL
 bj:Nat->Nat->Int
 iq:Loc->Prop
 qb:Nat
 w0:DS
structure GC where
 n:Nat
 c:Nat->Int
def fR(y:GC):CL:=.int .i64 y.n::(List.range 11).map λi=>.int .i64 (y.c i)
section
variable(C:Cx)
def muA:Addr:=⟨C.Cw,C.aN.length,none⟩
def msA:Addr:=⟨C.Cw,C.aN.length+1,none⟩
def dC:Addr:=⟨C.Wg,0,none⟩
def eI:Addr:=⟨C.Wg,1,none⟩
def iR(w:DS)(x:Wd)(ms:Nat)(g:CL):Prop:=w.heap[C.Cw]?=some (.cells (C.aN++.int .i32 x.val::.int .u32 ms::g).toArray C.tC (0,0))/\g.length=12
def WgAt(w:DS)(cnt wt ws:Nat):Prop:=w.heap[C.Wg]?=some (.cells #[.int .u64 ((cnt:Int)*4294967296+wt),.int .u32 ws] C.tW (0,0))
def ShAt(w:DS)(s:Sh)(g:CL):Prop:=iR C w s.word s.ms g/\WgAt C w s.cnt s.wt s.ws
def kZ(w:DS)(cs:B6):Prop:=w.heap[C.Rc]?=some (.cells cs C.tR (0,0))/\cs.size=8*C.N
def hH(m:Nat)(w:DS):Prop:=∀i,i<8->w.cell? ⟨C.Rc,8*m+i,none⟩=(C.aI m)[i]?
def Sh.ok(s:Sh):Prop:=s.word.ok/\s.ms<=60/\s.cnt<=60/\s.wt<=1/\s.ws<=60
def Live(w:DS):Prop:=(∃s g,s.ok/\ShAt C w s g)/\∃cs,kZ C w cs
structure Rl(O:Nat->Prop)(own:Bool)(af:Option Nat)(w w₁:DS):Prop where
 tape:w₁.tape=w.tape
 output:w₁.output=w.output
 os:OsLater w.os w₁.os
 size:w.heap.size<=w₁.heap.size
 low:∀b,b<C.low->b≠C.Cw->b≠C.Wg->b≠C.Rc->w₁.heap[b]?=w.heap[b]?
 mine:∀b,O b->w₁.heap[b]?=w.heap[b]?
 live:Live C w->Live C w₁
 guard:own=true->∀x m g,iR C w x m g->∃x' m',iR C w₁ x' m' g
 aI:∀m,af=some m->∀i,i<8->w₁.cell? ⟨C.Rc,8*m+i,none⟩=w.cell? ⟨C.Rc,8*m+i,none⟩
def Ro(a:Addr):Prop:=a.block<C.low/\a.block≠C.Wg/\a.block≠C.Rc/\(a.block=C.Cw->a.off<C.aN.length)/\¬C.iq (.cell a)
def Gd(a:Addr):Prop:=a.block=C.Cw/\C.aN.length+2<=a.off
def eR(O:Nat->Prop)(own:Bool)(wr:Option Nat)(e:Event):Prop:=e.loc=.mark .noRoom\/(∃a x,e=⟨.cell a,x,false⟩/\(O a.block\/(x=false/\Ro C a)\/(own=true/\Gd C a)\/(a.block=C.Rc/\wr=some (a.off/8))))\/∃b,e=⟨.obj b,false,false⟩/\O b
structure Dn(O O':Nat->Prop)(own mu:Bool)(wr:Option Nat)(w w':DS)(es:Array Event):Prop where
 tape:w'.tape=w.tape
 output:w'.output=w.output
 os:w'.os=w.os
 size:w.heap.size<=w'.heap.size
 grow:∀b,O' b↔(O b\/(w.heap.size<=b/\b<w'.heap.size))
 keep:∀b,b<w.heap.size->¬O b->b≠C.Cw->b≠C.Rc->w'.heap[b]?=w.heap[b]?
 ot:∀x m g,iR C w x m g->∃g',iR C w' x m g'/\(own=false->g'=g)
 aI:∀cs,kZ C w cs->∃cs',kZ C w' cs'/\∀off,wr≠some (off/8)->cs'[off]?=cs[off]?
 jU:∀e∈es,eR C O' own wr e
 mute:mu=true->es=#[]
inductive Tr where|leaf|node(f:DS->Tr)
def j9(main own mu:Bool)(af wr:Option Nat)(Stop:(Nat->Prop)->Dm->DS->Prop):Tr->(Nat->Prop)->Dm->DS->Prop|.leaf,O,g,w=>∀w₁,Rl C O own af w w₁->Stop O g w₁|.node f,O,g,w=>(∀w₁,Rl C O own af w w₁->Stop O g w₁)\/(g.status=.running/\∀w₁,Rl C O own af w w₁->∃g' w' b a,stepG C.P main g w₁=.go g' w' b/\Dn C O a own mu wr w₁ w' b/\g'.status=.running/\j9 main own mu af wr Stop (f w₁) a g' w')
end
section
variable{C:Cx}{O:Nat->Prop}{own main mu:Bool}{af wr:Option Nat}{w w₁ w₂:DS}
theorem Rl.refl(O:Nat->Prop)(own:Bool)(af:Option Nat)(w:DS):Rl C O own af w w:=⟨rfl,rfl,.refl _,Nat.le_refl _,λ_ _ _ _ _=>rfl,λ_ _=>rfl,id,λ_ x m _ h=>⟨x,m,h⟩,λ_ _ _ _=>rfl⟩
theorem Rl.trans(h:Rl C O own af w w₁)(k:Rl C O own af w₁ w₂):Rl C O own af w w₂:=⟨k.tape.trans h.tape,k.output.trans h.output,h.os.trans k.os,Nat.le_trans h.size k.size,λb h1 c d e=>(k.low b h1 c d e).trans (h.low b h1 c d e),λb j=>(k.mine b j).trans (h.mine b j),λl=>k.live (h.live l),λo x m g p=>let⟨x',m',n⟩:=h.guard o x m g p;k.guard o x' m' g n,λm f i a=>(k.aI m f i a).trans (h.aI m f i a)⟩
theorem Rl.at(O:Nat->Prop)(own:Bool)(af:Option Nat)(w:DS)(d:Nat):Rl C O own af w (w.at d):=⟨rfl,rfl,.refl _,Nat.le_refl _,λ_ _ _ _ _=>rfl,λ_ _=>rfl,id,λ_ x m _ h=>⟨x,m,h⟩,λ_ _ _ _=>rfl⟩
variable{Stop:(Nat->Prop)->Dm->DS->Prop}{g:Dm}
theorem j9.rely{tr:Tr}(h:j9 C main own mu af wr Stop tr O g w)(r:Rl C O own af w w₁):j9 C main own mu af wr Stop tr O g w₁:=by cases tr with|leaf=>exactλw₂ a=>h w₂ (r.trans a)|node f=>rcases h with h|⟨h1,b⟩;(·exact .inl λw₂ a=>h w₂ (r.trans a));·exact .inr ⟨h1,λw₂ a=>b w₂ (r.trans a)⟩
theorem j9.running(a:∀O g w,Stop O g w->g.status=.running){tr:Tr}(h:j9 C main own mu af wr Stop tr O g w):g.status=.running:=by cases tr with|leaf=>exact a _ _ _ (h w (Rl.refl _ _ _ _))|node f=>rcases h with h|⟨h1,_⟩;(·exact a _ _ _ (h w (Rl.refl _ _ _ _)));·exact h1
def av(C:Cx)(main own mu:Bool)(af wr:Option Nat)(Stop:(Nat->Prop)->Dm->DS->Prop)(O:Nat->Prop)(g:Dm)(w:DS):Prop:=∃tr,j9 C main own mu af wr Stop tr O g w
theorem av.stop(h:∀w₁,Rl C O own af w w₁->Stop O g w₁):av C main own mu af wr Stop O g w:=⟨.leaf,h⟩
theorem av.step(d:g.status=.running)(h:∀w₁,Rl C O own af w w₁->∃g' w' b a,stepG C.P main g w₁=.go g' w' b/\Dn C O a own mu wr w₁ w' b/\g'.status=.running/\av C main own mu af wr Stop a g' w'):av C main own mu af wr Stop O g w:=by(have e:∀w₁,∃tr,Rl C O own af w w₁->∃g' w' b a,stepG C.P main g w₁=.go g' w' b/\Dn C O a own mu wr w₁ w' b/\g'.status=.running/\j9 C main own mu af wr Stop tr a g' w':=by intro w₁;by_cases hw:Rl C O own af w w₁;(·obtain⟨g',w',b,a,h1,i,j,tr,k⟩:=h w₁ hw;exact⟨tr,λ_=>⟨g',w',b,a,h1,i,j,k⟩⟩);·exact⟨.leaf,λl=>absurd l hw⟩);obtain⟨f,c⟩:=Classical.skolem.1 e;exact⟨.node f,.inr ⟨d,c⟩⟩
theorem av.rely(h:av C main own mu af wr Stop O g w)(r:Rl C O own af w w₁):av C main own mu af wr Stop O g w₁:=let⟨tr,x⟩:=h;⟨tr,x.rely r⟩
theorem Dn.idle(O:Nat->Prop)(own mu:Bool)(wr:Option Nat)(w:DS):Dn C O O own mu wr w w #[]:=⟨rfl,rfl,rfl,Nat.le_refl _,λb=>⟨.inl,λh=>h.elim id λh=>absurd h.2 (Nat.not_lt.2 h.1)⟩,λ_ _ _ _ _=>rfl,λx m g h=>⟨g,h,λ_=>rfl⟩,λcs h=>⟨cs,h,λ_ _=>rfl⟩,by simp,λ_=>rfl⟩
theorem av.aX:∀{g g':Dm}{w:DS},ji C.P n g g'->(∀w₁,Rl C O own af w w₁->av C main own mu af wr Stop O g' w₁)->av C main own mu af wr Stop O g w:=by induction n with|zero=>intro g g' w h k;cases h;exact k w (Rl.refl _ _ _ _)|succ n b=>rintro g g' w⟨g1,⟨h1,c,d⟩,e⟩k;exact .step h1 λw₁ a=>⟨g1,w₁,#[],O,d main w₁,Dn.idle _ _ _ _ _,c,b e λw₂ f=>k w₂ (a.trans f)⟩
theorem av.aT{g':Dm}(h:aa C.P g g')(k:∀w₁,Rl C O own af w w₁->av C main own mu af wr Stop O g' w₁):av C main own mu af wr Stop O g w:=let⟨_,x⟩:=h;.aX x k
end
def Th.own(T:Th):Bool:=decide (T.pc=.ur)
def Th.gone(T:Th):Bool:=match T.pc with|.wd|.d1|.d2|.d3|.d4|.quit=>true|_=>false
def Th.wr(T:Th):Option Nat:=if T.pc=.ld/\T.ct=true then T.af else none
def aL(T:Th):Nat:=match T.pc with|.ld|.la|.ur|.ud|.wr|.wd=>0|_=>1
section
variable(C:Cx)
def fE(a:Addr):Prop:=a.block=C.Wg\/(a.block=C.Cw/\(a.off=C.aN.length\/a.off=C.aN.length+1))
def mk(m:Mark):Event:=⟨.mark m,false,true⟩
def Bk(e:Event):Prop:=e=mk .disable\/e=mk .enable\/∃a x,e=⟨.cell a,x,true⟩/\fE C a
def gQ(d e:Nat)(a:Array Event):Prop:=(∀x∈a,Bk C x)/\deafBehind d a=e/\∀j x,a[j]?=some x->(MemAct.ofEvent x).touch?=none\/0<deafBehind d (a.extract 0 j)
def EvStop(T T':Th)(a:Array Event):Prop:=match T.pc with|.la=>a=#[mk (.acquire (muA C))]|.ur=>a=#[mk (.releaseMerge (muA C))]|.wr=>a=#[mk (.releaseMerge (dC C))]|_=>gQ C (aL T) (aL T') a
structure Eff(w w':DS):Prop where
 tape:w'.tape=w.tape
 output:w'.output=w.output
 os:OsLater w.os w'.os
 size:w'.heap.size=w.heap.size
 block:∀b,b≠C.Cw->b≠C.Wg->w'.heap[b]?=w.heap[b]?
def upd(T:Th)(x:GC):GC:=if T.ct then{x with c:=λi=>x.c i+C.bj (T.af.getD 0) i}else if x.n<C.N then{x with n:=x.n+1}else x
structure fv(T:Th)(s:Sh):Prop where
 tw:TW T
 ok:s.ok
 r2:T.pc=.r2->s.word.s=1->s.word.l=0/\s.word.k=0/\1<=s.word.w
 a1:T.pc=.a1->s.word.l=0/\s.word.s=1/\s.word.k=0/\1<=s.word.w
 u0:T.pc=.u0->s.word.l=1
 d1:T.pc=.d1->1<=s.cnt
 d2:T.pc=.d2->s.cnt=0/\s.wt=1
 wk:aU T=1->s.word.k=1
 tn:s.word.s=0->aQ T=0
variable(At:Th->GC->(Nat->Prop)->Dm->DS->Prop)
def il(T':Th)(y:GC)(O:Nat->Prop)(g':Dm)(w':DS):Prop:=if T'.pc=.quit then∃q,q<=C.qb/\QuitsD C.P q 1 g' else av C false T'.own T'.gone T'.af T'.wr (At T' y) O g' w'
structure jv(T:Th)(y:GC)(O:Nat->Prop)(g:Dm)(w:DS):Prop where
 run:g.status=.running
 off:g.offers=none
 Eg:T.pc=.us\/T.pc=.d4->mayWake C.P g=true
 written:T.pc=.ld->T.ct=true->∀m,T.af=some m->hH C m w
 left:T.pc=.ur->∃x ms,iR C w x ms (fR y)
 wait:∀s g0,ShAt C w s g0->T.pc=.s1->s.ms=0->stepG C.P false g w=.go {g with status:=.blocked} w #[]
 step:∀s g0,ShAt C w s g0->fv T s->¬(T.pc=.s1/\s.ms=0)->∀x:GC,(T.pc=.la->g0=fR x/\x.n<=C.N/\∀i,-1152921504606846976<=x.c i/\x.c i<=1152921504606846976)->∃T' s' g' w' es,Mv C.N x.n T s T' s'/\stepG C.P false g w=.go g' w' es/\ShAt C w' s' g0/\Eff C w w'/\EvStop C T T' es/\(Live C w'->il C At T' (if T.pc=.la then upd C T x else y) O g' w')
end
theorem Eff.refl{C:Cx}(w:DS):Eff C w w:=⟨rfl,rfl,.refl _,rfl,λ_ _ _=>rfl⟩
end Ph
namespace Co
open Ph Kw
section
variable{P:Program}{K:Cm}{S:FuncId->Bool}{Q:Fi->DS->Prop}
theorem tD(n:Closed P K S){m':Bool}{r:Rn}{k1:B8}{f1:Frame}{w u1:DS}{G:Array Event}(C:¬(fr.mode=.returning/\l=Bs P))(q:stepG P true (VG fr l) (aG v w.tape w.drawn)=.go (VG f1 k1) u1 G)(s:aW u1->¬mL (Bs P) (VG f1 k1))(p:FR P K S r fr fr')(j:KR P K S r (Bs P) cs' l l')(m:WR K P r v w)(x:aW v)(a:fr.mode=.run\/fr.mode=.returning):aW u1/\(f1.mode=.run\/f1.mode=.returning)/\∃r1 b h w1 g,stepG (aJ P K.F) m' (VG fr' l') w=.go (VG b h) w1 g/\FR P K S r1 f1 b/\KR P K S r1 (Bs P) cs' k1 h/\WR K P r1 u1 w1/\Eff r r1 v w w1/\bh v u1/\∀e∈g,jR r1 v e:=by
 have o:WR K P r (aG v w.tape w.drawn) w:=⟨m.cy,m.inj,m.one,m.low,m.eu⟩;have z:TW (aG v w.tape w.drawn) w:=λ_ _=>rfl;have fin:aW u1->After P K S r (Bs P) cs' m' (VG fr' l') (aG v w.tape w.drawn) w (VG f1 k1) u1->aW u1/\(f1.mode=.run\/f1.mode=.returning)/\∃r1 b h w1 g,stepG (aJ P K.F) m' (VG fr' l') w=.go (VG b h) w1 g/\FR P K S r1 f1 b/\KR P K S r1 (Bs P) cs' k1 h/\WR K P r1 u1 w1/\Eff r r1 v w w1/\bh v u1/\∀e∈g,jR r1 v e:=λi k=>by obtain⟨r1,fr1,l1,b,h,w1,g,e1,e2,B,A,F,_,d,t,H⟩:=k;simp only[Goroutine.mk.injEq,and_true]at e1;obtain⟨rfl,rfl⟩:=e1;(have D:f1.mode=.run\/f1.mode=.returning:=by cases E:f1.mode with|run=>exact .inl rfl|returning=>exact .inr rfl|panicking c=>obtain⟨bq,t1,t2⟩:=A.bq;exact absurd ⟨c,bq,E,B.defers.1,t1,t2⟩ (s i));exact⟨i,D,r1,b,h,w1,g,e2,B,A,F,⟨d.tape,d.output,d.os,d.size,d.keep,d.new,d.le⟩,⟨t.size,t.sa,t.row⟩,H⟩
 rcases a with a|a;·obtain⟨bq,t1,t2⟩:=j.bq;rcases JE n.tooq p a o x q with⟨c,h1,u,y,I⟩|⟨_,i⟩;(·exact absurd ⟨c,bq,h1,u,y.trans t1,t2⟩ (s I));·rcases Gu (m':=m') n.totI p j a o x z q with⟨c,h1,u,y⟩|k|k;(·exact absurd ⟨c,bq,h1,u,y.trans t1,t2⟩ (s i));(·exact fin i k);·obtain⟨_,f,_,_,_,_,_,_,_,_,h0,_⟩:=k;have h0:=h0.1;rw[n.DF f]at h0;cases h0
 ·cases j with|base=>exact absurd ⟨a,rfl⟩ C|cons J L j=>obtain⟨_,i⟩:=G6 p a o x q;exact fin i (Bv (m':=m') n.tooq p J j a o z q)
theorem GF(j:Closed P K S){RO:Nat->Prop}(d:∀x v',Q x v'->∀a:Addr,RO a.block->v'.frozen? a=false)(g:Ends P (Bs P) Q fr l v):∀{r:Rn}{cs' l':B8}{fr':Frame}{w:DS},FR P K S r fr fr'->KR P K S r (Bs P) cs' l l'->WR K P r v w->aW v->(fr.mode=.run\/fr.mode=.returning)->∀a:Addr,RO a.block->v.frozen? a=false:=by induction g with|gq h i=>intro r cs' l' fr' w _ _ _ _ _ a b;exact d _ _ i a b|@step fr l v m f k u h e n=>intro r cs' l' fr' w o p q s y a b;obtain⟨C,z⟩:=h w.tape w.drawn;obtain⟨n1,m1,r1,D,E,w1,F,_,g1,t,A,_,B,_⟩:=tD (m':=true) j m z (uq (e w.tape w.drawn)) o p q s y;have:=n w.tape w.drawn g1 t A n1 m1 a b;cases c:v.frozen? a with|false=>rfl|true=>rw[B.sa a c]at this;cases this
theorem KR.CZ{r:Rn}{cs:B8}(h:KR P K S r cs cs' l l')(e:l'=cs'):l=cs:=by(have len:∀{l l'},KR P K S r cs cs' l l'->l'.length=(l.length-cs.length)+cs'.length/\cs.length<=l.length:=by intro l l' h;induction h with|base=>exact⟨by omega,Nat.le_refl _⟩|cons _ _ _ b=>exact⟨by simp;omega,by simp;omega⟩);cases h with|base=>rfl|cons c a k=>have h1:=(len k).1;have:=congrArg List.length e;simp at this;omega
theorem VX{G:Nat}{r:Rn}(h1:∀a b b',r a b->r a b'->b=b'){x y m:Fi}(h:VR G r x y):VR G r x m->y=m:=by induction h generalizing m with|bool b|int b n|string s|cQ|cW l c|fn f|nilFunc|nilIface=>intro k;cases k;rfl|ptr a b h o=>(intro k;cases k with|ptr _ b' d _=>rw[h1 _ _ _ h d])|sl a b l c h o=>(intro k;cases k with|sl _ b' _ _ d _=>rw[h1 _ _ _ h d])|iface t h g=>(intro k;cases k with|iface _ d=>rw[g d])|agg e h g=>(intro k;cases k with|agg j d=>congr 1;exact Array.ext (by rw[<-e,<-j]) λi a b=>g i (by rw[e];exact a) a (d i (by rw[e];exact a) b))|tuple e h g=>intro k;cases k with|tuple j d=>congr 1;exact Array.ext (by rw[<-e,<-j]) λi a b=>g i (by rw[e];exact a) a (d i (by rw[e];exact a) b)
theorem Fu{G:Nat}{r:Rn}(h1:∀a b b',r a b->r a b'->b=b'){x y c:B6}(h:AR G r x y)(k:AR G r x c):y=c:=Array.ext (by rw[<-h.1,<-k.1]) λi a b=>VX h1 (h.2 i (by rw[h.1];exact a) a) (k.2 i (by rw[h.1];exact a) b)
end
end Co
end
end Go.Proofs.YtjebhbopmfcopaaGreatDoor
