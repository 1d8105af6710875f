/- Runs, a part. -/
import Derived.Laws.AppendOwnNone
import Derived.Test.YtjebhbopmfcopaaGreatDoorYc
set_option maxRecDepth 100000
set_option maxHeartbeats 1600000
namespace Go.Proofs.YtjebhbopmfcopaaGreatDoor
open Go.Proofs Tryz
noncomputable section
variable{w:DS}
section
open RowKit
abbrev Pr:=B4×B4
def dA(x:Pr):CL:=[.string ⟨x.1.toArray⟩,.string ⟨x.2.toArray⟩]
def aR(l:List Pr):CL:=l.flatMap dA
theorem uX(l:List Pr):(aR l).length=l.length*2:=by induction l with|nil=>rfl|cons o l a=>rw[aR,List.flatMap_cons,List.length_append,<-aR,a,List.length_cons];simp[dA];omega
theorem kl(l:List Pr)(k:Nat)(h:k<l.length)(j:Nat)(b:j<2):(aR l)[k*2+j]?=(dA l[k])[j]?:=by induction l generalizing k with|nil=>simp at h|cons o l a=>rw[aR,List.flatMap_cons];cases k with|zero=>rw[List.getElem?_append_left (by simp[dA];omega)];simp|succ k=>rw[List.getElem?_append_right (by simp[dA];omega)];(have e:(k+1)*2+j-(dA o).length=k*2+j:=by simp[dA];omega);rw[e];have:=a k (by simpa using h);rw[aR]at this;rw[this];simp
theorem yl(l r:List Pr):aR (l++r)=aR l++aR r:=by simp[aR]
theorem Eb{base e n cap g:Nat}{l:List Pr}(h:w.ownsRow base e 2 (.slice (some ⟨g,0,none⟩) n cap) n (aR l))(k:Nat)(a:k<l.length):w.cell? ⟨g,k*2,none⟩=some (.string ⟨l[k].1.toArray⟩)/\w.cell? ⟨g,k*2+1,none⟩=some (.string ⟨l[k].2.toArray⟩):=by
 have b:l.length*2=n*2:=by have:=h.1;rw[uX]at this;exact this
 constructor;·have:=h.cellAt (k*2+0) (by omega);rw[kl l k a 0 (by omega)]at this;simpa[dA]using this
 ·rw[h.cellAt (k*2+1) (by omega),kl l k a 1 (by omega)];simp[dA]
def jd(l:List Pr)(nm:B4):Bool:=l.any (λx=>x.1==nm)
theorem C7(l:List Pr)(nm:B4)(k:Nat)(h:k<l.length)(a:(l[k].1==nm)=true):jd l nm=true:=by rw[jd,List.any_eq_true];exact⟨l[k],List.getElem_mem _,a⟩
theorem Jz(l:List Pr)(nm:B4)(k:Nat)(h:k<l.length)(h0:jd (l.take k) nm=false)(a:(l[k].1==nm)=false):jd (l.take (k+1)) nm=false:=by rw[List.take_succ_eq_append_getElem h];simp only[jd,List.any_append,List.any_cons,List.any_nil,Bool.or_false]at*;rw[h0,a];rfl
theorem Hq(l:List Pr)(nm:B4)(k:Nat)(h:¬k<l.length)(h0:jd (l.take k) nm=false):jd l nm=false:=by rwa[List.take_of_length_le (by omega)]at h0
theorem QY(w:DS)(base n:Nat)(v:Fi)(l:List Pr)(nm:B4)(m:l.length=n)(D:n<=1000)(ai:w.ownsRow base 59 2 v n (aR l)):Calls prog 65 #[v,.string ⟨nm.toArray⟩] w λe w'=>e=.returned (.bool (jd l nm))/\Below w.heap.size w w':=by have j:Hid _:=m;clear m;rcases Nat.eq_zero_or_pos n with h0|A;(·subst h0;have z:l=[]:=List.eq_nil_of_length_eq_zero j.out;subst z;obtain⟨B,cap,h⟩:=eQ ai;subst h;clear ai;go_enter func65,ntmps65;go_wp2;refine wp_loop_rounds 1 ?_;rw[rounds_succ];go_wp2;go_ret;exact⟨rfl,Below.refl _ _⟩);·(obtain⟨g,cap,h,_,d⟩:∃g cap,v=.slice (some ⟨g,0,none⟩) n cap/\base<=g/\g<w.heap.size:=by rcases ai.2 with⟨_,h0⟩|⟨g,cap,C,rfl,x,d,_⟩;(·omega);·exact⟨g,cap,rfl,x,(Array.getElem?_eq_some_iff.1 d).1⟩);subst h;have r:Hid _:=λk(s:k<l.length)=>Eb ai k s;clear ai;go_enter func65,ntmps65;go_wp2;go_loopw[9](λi wr=>∃k:Nat,k<=n/\i=.int .i64 k/\Hid (jd (l.take k) nm=false)/\Below w.heap.size w wr)(λi _=>n-(intOf i).toNat);(case atStart=>exact⟨0,Nat.zero_le _,rfl,rfl,Below.refl _ _⟩);case round=>obtain⟨k,s,rfl,b,a⟩:=hrel;have u:=a.size;by_cases hlt:k<n;(·(have f:k<l.length:=by rw[j.out];exact hlt);have c0:=(a.cell (p:=⟨g,k*2,none⟩) d).trans (r.out k f).1;have c1:=(a.cell (p:=⟨g,k*2+1,none⟩) d).trans (r.out k f).2;(have y:(k:Int)<(n:Int):=by omega);have q:Hid (∀o,Below w.heap.size w (wr.alloc o)):=λo=>a.alloc u o;clear a;cases t:(l[k].1==nm)with|true=>have c:Hid _:=C7 l nm k f t;clear b;go_wp2;go_ret;exact⟨bu c.out.symm,q.out _⟩|false=>have c:Hid _:=Jz l nm k f b.out t;clear b;go_wp2;go_roundw;(case rel=>exact⟨k+1,by omega,by go_num,c,q.out _⟩);case measure=>simp[intOf];omega);·have c:Hid _:=Hq l nm k (by rw[j.out];exact hlt) b.out;(have y:¬(k:Int)<(n:Int):=by omega);clear b;go_wp2;go_ret;exact⟨bu c.out.symm,a⟩
end
namespace Tx
def head(s:Fo)(f p:Nat)(out:List (B4×B4))(a:Nat):bL:=if p<s.size\/p=0 then iQ s p out (λq nm=>dU s f q q nm [] out a)else⟨out,0,0⟩
theorem adf:cap 62=0:=by decide
theorem DH:cap 10=0:=by decide
theorem SI(s:Fo)(f p:Nat)(e b:B4)(out:List (B4×B4))(a:Nat)(k:p<=s.size)(o:s.size+1<=f+p)(u:a<=4096)(l:(p<s.size/\bt s p≠62)\/b=[])(m:aH s p (4096-a)=0\/bt s (p+aH s p (4096-a))≠10):dU s f p p e b out a=bad (wr s (p+aH s p (4096-a)) 2 4) (p+aH s p (4096-a)):=by
 generalize d:aH s p (4096-a)=c at*;have q:c<=4096-a:=by rw[<-d];exact uB _ _ _
 have r:p+c<=s.size:=by rw[<-d];exact adZ _ _ _ k
 rw[Jw s p e out c f p b a (λj t=>zX s (4096-a) p j (by omega)) (by omega) (by omega)];obtain⟨g,n⟩:∃g,f-c=g+1:=⟨f-c-1,by omega⟩;rw[n,dU,wr];by_cases h0:cap (bt s (p+c))≠0;·(have v:c=4096-a:=by by_cases hlt:c<4096-a;(·have:=J0 s (4096-a) p (by omega);rw[d]at this;exact absurd this h0);·omega);rw[if_pos h0,if_pos (by omega),if_pos h0]
 ·rw[if_neg h0,if_neg h0];by_cases hc0:c=0;(·subst hc0;simp only[Nat.add_zero]at*;rw[if_neg (by omega)];by_cases hl:b=[];(·subst hl;rw[if_pos (.inr (by simp[cZ]))]);·rw[if_neg (by simp[cZ,hl])];rcases l with⟨h1,i⟩|h;(·rw[if_pos h1,iQ,if_pos i]);·exact absurd h hl);·rcases m with h|h;(·exact absurd h hc0);·rw[if_neg (λx=>h x.1),if_pos (.inl (by omega))]
theorem agy(s:Fo)(f p:Nat)(b d:B4)(out:List (B4×B4))(a:Nat)(o:s.size+1<=f+p)(r:a<=4096)(e:¬(aH s p (4096-a)=0\/bt s (p+aH s p (4096-a))≠10)):∃g,s.size+1<=g+(p+aH s p (4096-a)+1)/\p+aH s p (4096-a)<s.size/\0<aH s p (4096-a)/\aH s p (4096-a)<=4096-a/\dU s f p p b d out a=dU s g (p+aH s p (4096-a)+1) (p+aH s p (4096-a)+1) b (d++cZ s p (aH s p (4096-a))) out (a+aH s p (4096-a)):=by
 generalize m:aH s p (4096-a)=c at*;have l:c<=4096-a:=by rw[<-m];exact uB _ _ _
 have i:bt s (p+c)=10:=by by_cases h:bt s (p+c)=10;(·exact h);·exact absurd (.inr h) e
 have q:c≠0:=λh=>e (.inl h);have n:p+c<s.size:=fh (by rw[i];decide);refine⟨f-c-1,by omega,n,by omega,l,?_⟩;rw[Jw s p b out c f p d a (λj t=>zX s (4096-a) p j (by omega)) (by omega) (by omega)];obtain⟨g,k⟩:∃g,f-c=g+1:=⟨f-c-1,by omega⟩;rw[k,dU,i,if_neg (by simp[DH]),if_pos ⟨rfl,by omega⟩];rfl
theorem adL(s:Fo)(f p:Nat)(b a:B4)(out:List (B4×B4))(c:Nat)(k:s.size+1<=f+p)(m:p<=s.size)(l:0<p)(i:a≠[])(e:¬(p<s.size/\bt s p≠62)):∃g,s.size<=g+p/\dU s f p p b a out c=head s g p (out++[(b,a)]) c:=by
 obtain⟨g,rfl⟩:∃g,f=g+1:=⟨f-1,by omega⟩;refine⟨g,by omega,?_⟩;have j:cap (bt s p)=0/\bt s p≠10:=by by_cases h:p<s.size;(·(have d:bt s p=62:=by by_cases h2:bt s p=62;(·exact h2);·exact absurd ⟨h,h2⟩ e);rw[d];exact⟨adf,by decide⟩);·rw[gY h];exact⟨nd,by decide⟩
 rw[dU,if_neg (by simp[j.1]),if_neg (by omega),if_neg (by simp[i]),head];by_cases h:p<s.size;·rw[if_pos h,if_pos (.inl h)]
 ·rw[if_neg h,if_neg (by omega)]
theorem FL(s:Fo)(f p:Nat)(out:List (B4×B4))(b:Nat)(h:p<s.size\/p=0)(a:bt s p≠62):head s f p out b=bad 2 p:=by rw[head,if_pos h,iQ,if_pos a]
theorem BL(s:Fo)(f p:Nat)(out:List (B4×B4))(b:Nat)(h:p<s.size\/p=0)(c:bt s p=62)(a:out.length=16):head s f p out b=bad 4 p:=by rw[head,if_pos h,iQ,if_neg (by simp[c]),if_pos a]
theorem Gx(s:Fo)(f p:Nat)(out:List (B4×B4))(b:Nat)(h:p<s.size\/p=0)(c:bt s p=62)(d:out.length≠16)(a:au s (p+1)=p+1\/bt s (au s (p+1))≠10):head s f p out b=bad 2 (au s (p+1)):=by rw[head,if_pos h,iQ,if_neg (by simp[c]),if_neg d,if_pos a]
theorem Ci(s:Fo)(f p:Nat)(out:List (B4×B4))(b:Nat)(h:p<s.size\/p=0)(c:bt s p=62)(d:out.length≠16)(e:¬(au s (p+1)=p+1\/bt s (au s (p+1))≠10))(a:out.any (λx=>x.1==piece s (p+1) (au s (p+1)))=true):head s f p out b=bad 3 (p+1):=by rw[head,if_pos h,iQ,if_neg (by simp[c]),if_neg d,if_neg e,if_pos a]
theorem EH(s:Fo)(f p:Nat)(out:List (B4×B4))(a:Nat)(h:p<s.size\/p=0)(c:bt s p=62)(d:out.length≠16)(e:¬(au s (p+1)=p+1\/bt s (au s (p+1))≠10))(b:out.any (λx=>x.1==piece s (p+1) (au s (p+1)))=false):head s f p out a=dU s f (au s (p+1)+1) (au s (p+1)+1) (piece s (p+1) (au s (p+1))) [] out a:=by rw[head,if_pos h,iQ,if_neg (by simp[c]),if_neg d,if_neg e,if_neg (by simp[b])]
theorem afe(s:Fo)(f p:Nat)(out:List (B4×B4))(a:Nat)(h:¬(p<s.size\/p=0)):head s f p out a=⟨out,0,0⟩:=by rw[head,if_neg h]
theorem Ew(s:Fo):dh s=head s (s.size+1) 0 [] 0:=by rw[head,if_pos (.inr rfl)];rfl
theorem vo{s:Fo}{p:Nat}(b:¬(au s (p+1)=p+1\/bt s (au s (p+1))≠10)):au s (p+1)<s.size/\p+1<=au s (p+1):=by(have a:bt s (au s (p+1))=10:=by by_cases h:bt s (au s (p+1))=10;(·exact h);·exact absurd (.inr h) b);exact⟨fh (by rw[a];decide),by unfold au;omega⟩
end Tx
section
open RowKit
def Src(w:DS)(sv:Fi)(m:Nat)(a:CL):Prop:=(sv=.slice none 0 0/\m=0/\a=[])\/∃ad c,sv=.slice (some ad) m c/\(∀j u,a[j]?=some u->w.cell? (ad.add j)=some u)
theorem Src.mono{w':DS}{sv:Fi}{m:Nat}{a:CL}(h:Src w sv m a)(d:Below w.heap.size w w'):Src w' sv m a:=by rcases h with h|⟨ad,c,rfl,e⟩;(·exact .inl h);·refine .inr ⟨ad,c,rfl,λj u b=>?_⟩;have h0:=e j u b;rw[d.cell (World.block_lt_of_cell? w _ h0)];exact h0
theorem sL{W:DS}{ops:Array Oper}{rest:List Oper}{o:Oper}{a:Act}{Q:Exit->Act->DS->Prop}(B:o.guard=none)(s x:Operand)(t:TypeId)(p:o.op=.call {callee:=.builtin .append,args:=#[s,x],argTypes:=#[t,t]})(base:Nat)(e:TypeId)(z:Fi)(size b:Nat)(l:prog.underlying t=some (.slice e))(C:(prog.info? e).map (λi=>(i.zero,i.size,i.bytes))=some (some z,size,b))(H:z.cells.size=size)(E:0<size)(v:Fi)(n:Nat)(d:CL)(sv:Fi)(m:Nat)(news:CL)(q:a.eval s=v)(r:a.eval x=sv)(ai:w.ownsRow base e size v n d)(I:Src w sv m news)(O:news.length=m*size)(h1:∀u∈news,u.oneCell'=true)(g:Below base W w)(j:base<=w.heap.size)(F:(n+m)*b<=140737488355328)(G:0<b)(h:∀v' w',w'.ownsRow base e size v' (n+m) (d++news)->Below base W w'->w.heap.size<=w'.heap.size->(∀k,k<w.heap.size->some k≠v.ownBlock->w'.heap[k]?=w.heap[k]?)->wpList prog ops Q rest (a.put o.dst v') w'):wpList prog ops Q (o::rest) a w:=by obtain⟨A,y,J,K,L⟩:=info_parts C;have P:(n+m)*1<=(n+m)*b:=Nat.mul_le_mul_left _ G;rcases I with⟨rfl,rfl,rfl⟩|⟨ad,c,rfl,N⟩;(·refine wpList_append_own_none B s x t p base e A size l y v n d q ai r ?_;refine h v w ?_ g (Nat.le_refl _) (λ_ _ _=>rfl);rw[Nat.add_zero,List.append_nil];exact ai);·refine wpList_append_own _ B s x t p base e A z size b l y J K L H E v n d q ai ad m c news r O N h1 ?_ F j ?_;(·unfold maxLen;omega);·intro v' w' M f _;exact h v' w' M (g.grown f j (λk D=>(ai.lt k D).1)) f.size f.block
end
end
end Go.Proofs.YtjebhbopmfcopaaGreatDoor
