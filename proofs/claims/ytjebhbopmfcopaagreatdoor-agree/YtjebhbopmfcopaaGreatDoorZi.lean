/- Agree, a part. -/
import Derived.Deep.RegionHeld3
import Derived.Laws.AppendOwnNone
import Derived.Laws.StructEq
import Derived.Test.YtjebhbopmfcopaaGreatDoorZh
set_option maxRecDepth 100000
set_option maxHeartbeats 1600000
namespace Go.Proofs.YtjebhbopmfcopaaGreatDoor
open Go.Proofs Tryz
noncomputable section
variable{xs:FV}{base e g n:Nat}{c:UInt8}{W w w':HA}
section
open RowKit
abbrev Pr:=Dm×Dm
def dP(x:Pr):FV:=[.string ⟨x.1.toArray⟩,.string ⟨x.2.toArray⟩]
def aS(l:List Pr):FV:=l.flatMap dP
theorem wm(l:List Pr):(aS l).length=l.length*2:=by induction l with|nil=>rfl|cons o l a=>rw[aS,List.flatMap_cons,List.length_append,<-aS,a,List.length_cons];simp[dP];omega
theorem mP(l:List Pr)(k:Nat)(h:k<l.length)(j:Nat)(b:j<2):(aS l)[k*2+j]?=(dP l[k])[j]?:=by induction l generalizing k with|nil=>simp at h|cons o l a=>rw[aS,List.flatMap_cons];cases k with|zero=>rw[List.getElem?_append_left (by simp[dP];omega)];simp|succ k=>rw[List.getElem?_append_right (by simp[dP];omega)];(have e:(k+1)*2+j-(dP o).length=k*2+j:=by simp[dP];omega);rw[e];have:=a k (by simpa using h);rw[aS]at this;rw[this];simp
theorem Hk(l r:List Pr):aS (l++r)=aS l++aS r:=by simp[aS]
theorem Wq{cap:Nat}{l:List Pr}(h:w.ownsRow base e 2 (.slice (some ⟨g,0,none⟩) n cap) n (aS l))(k:Nat)(a:k<l.length):w.cell? ⟨g,k*2,none⟩=some (.string ⟨l[k].1.toArray⟩)/\w.cell? ⟨g,k*2+1,none⟩=some (.string ⟨l[k].2.toArray⟩):=by
 have b:l.length*2=n*2:=by have:=h.1;rw[wm]at this;exact this
 constructor;·have:=h.cellAt (k*2+0) HU;rw[mP l k a 0 HU]at this;simpa[dP]using this
 ·rw[h.cellAt (k*2+1) HU,mP l k a 1 HU];simp[dP]
def jN(l:List Pr)(nm:Dm):Bool:=l.any (λx=>x.1==nm)
theorem afM(l:List Pr)(nm:Dm)(k:Nat)(h:k<l.length)(a:(l[k].1==nm)=true):jN l nm=true:=by rw[jN,List.any_eq_true];exact⟨l[k],List.getElem_mem _,a⟩
theorem O8(l:List Pr)(nm:Dm)(k:Nat)(h:k<l.length)(h0:jN (l.take k) nm=false)(a:(l[k].1==nm)=false):jN (l.take (k+1)) nm=false:=by rw[List.take_succ_eq_append_getElem h];simp only[jN,List.any_append,List.any_cons,List.any_nil,Bool.or_false]at*;rw[h0,a];rfl
theorem YA(l:List Pr)(nm:Dm)(k:Nat)(h:¬k<l.length)(h0:jN (l.take k) nm=false):jN l nm=false:=by rwa[List.take_of_length_le HU]at h0
theorem VS(w:HA)(base n:Nat)(v:HH)(l:List Pr)(nm:Dm)(m:l.length=n)(D:n<=1000)(ai:w.ownsRow base 59 2 v n (aS l)):Calls prog 65 #[v,.string ⟨nm.toArray⟩] w λe w'=>e=.returned (.bool (jN l nm))/\Below w.heap.size w w':=by have j:Hid _:=m;clear m;rcases Nat.eq_zero_or_pos n with h0|A;(·subst h0;have z:l=[]:=List.eq_nil_of_length_eq_zero j.out;subst z;obtain⟨B,cap,h⟩:=eN ai;subst h;clear ai;go_enter func65,ntmps65;go_wp2;refine wp_loop_rounds 1 ?_;rw[rounds_succ];go_wp2;go_ret;exact⟨rfl,Below.refl _ _⟩);·(obtain⟨g,cap,h,_,d⟩:∃g cap,v=.slice (some ⟨g,0,none⟩) n cap/\base<=g/\g<w.heap.size:=by rcases ai.2 with⟨_,h0⟩|⟨g,cap,C,rfl,x,d,_⟩;(·omega);·exact⟨g,cap,rfl,x,(J2.1 d).1⟩);subst h;have r:Hid _:=λk(s:k<l.length)=>Wq ai k s;clear ai;go_enter func65,ntmps65;go_wp2;go_loopw[9](λi wr=>∃k:Nat,k<=n/\i=.int .i64 k/\Hid (jN (l.take k) nm=false)/\Below w.heap.size w wr)(λi _=>n-(intOf i).toNat);(case atStart=>exact⟨0,Nat.zero_le _,rfl,rfl,Below.refl _ _⟩);case round=>obtain⟨k,s,rfl,b,a⟩:=hrel;have u:=a.size;by_cases hlt:k<n;(·(have f:k<l.length:=by rw[j.out];exact hlt);have c0:=(a.cell (p:=⟨g,k*2,none⟩) d).trans (r.out k f).1;have c1:=(a.cell (p:=⟨g,k*2+1,none⟩) d).trans (r.out k f).2;have y:(k:Int)<(n:Int):=HU;have q:Hid (∀o,Below w.heap.size w (wr.alloc o)):=λo=>a.alloc u o;clear a;cases t:(l[k].1==nm)with|true=>have c:Hid _:=afM l nm k f t;clear b;go_wp2;go_ret;exact⟨cQ c.out.symm,q.out _⟩|false=>have c:Hid _:=O8 l nm k f b.out t;clear b;go_wp2;go_roundw;(case rel=>exact⟨k+1,HU,by go_num,c,q.out _⟩);case measure=>simp[intOf];omega);·have c:Hid _:=YA l nm k (by rw[j.out];exact hlt) b.out;have y:¬(k:Int)<(n:Int):=HU;clear b;go_wp2;go_ret;exact⟨cQ c.out.symm,a⟩
end
namespace Tx
def head(s:HM)(f p:Nat)(out:List (Dm×Dm))(a:Nat):bZ:=if p<s.size\/p=0 then jb s p out (λq nm=>dW s f q q nm [] out a)else⟨out,0,0⟩
theorem ad5:cap 62=0:=by decide
theorem rI:cap 10=0:=by decide
theorem TO(s:HM)(f p:Nat)(name b:Dm)(out:List (Dm×Dm))(a:Nat)(n:s.size+1<=f+p)(q:a<=4096)(d:¬(bn s p (4096-a)=0\/bt s (p+bn s p (4096-a))≠10)):∃g,s.size+1<=g+(p+bn s p (4096-a)+1)/\p+bn s p (4096-a)<s.size/\0<bn s p (4096-a)/\bn s p (4096-a)<=4096-a/\dW s f p p name b out a=dW s g (p+bn s p (4096-a)+1) (p+bn s p (4096-a)+1) name (b++dE s p (bn s p (4096-a))) out (a+bn s p (4096-a)):=by
 generalize l:bn s p (4096-a)=c at*;have k:c<=4096-a:=by rw[<-l];exact Cz _ _ _
 have e:bt s (p+c)=10:=by by_cases h:bt s (p+c)=10;(·exact h);·exact absurd (.inr h) d
 have o:c≠0:=λh=>d (.inl h);have m:p+c<s.size:=gI (by rw[e];decide);refine⟨f-c-1,HU,m,HU,k,?_⟩;rw[MW s p name out c f p b a (λj r=>pe s (4096-a) p j HU) HU HU];obtain⟨g,i⟩:∃g,f-c=g+1:=⟨f-c-1,HU⟩;rw[i,dW,e,if_neg (by simp[rI]),if_pos ⟨rfl,HU⟩];rfl
theorem UN(s:HM)(f p:Nat)(name a:Dm)(out:List (Dm×Dm))(b:Nat)(j:s.size+1<=f+p)(l:p<=s.size)(k:0<p)(e:a≠[])(d:¬(p<s.size/\bt s p≠62)):∃g,s.size<=g+p/\dW s f p p name a out b=head s g p (out++[(name,a)]) b:=by
 obtain⟨g,rfl⟩:∃g,f=g+1:=⟨f-1,HU⟩;refine⟨g,HU,?_⟩;have i:cap (bt s p)=0/\bt s p≠10:=by by_cases h:p<s.size;(·(have c:bt s p=62:=by by_cases h2:bt s p=62;(·exact h2);·exact absurd ⟨h,h2⟩ d);rw[c];exact⟨ad5,by decide⟩);·rw[qW h];exact⟨vB,by decide⟩
 rw[dW,if_neg (by simp[i.1]),if_neg HU,if_neg (by simp[e]),head];by_cases h:p<s.size;·rw[if_pos h,if_pos (.inl h)]
 ·rw[if_neg h,if_neg HU]
theorem Sf(s:HM)(f p:Nat)(out:List (Dm×Dm))(b:Nat)(h:p<s.size\/p=0)(a:bt s p≠62):head s f p out b=bad 2 p:=by rw[head,if_pos h,jb,if_pos a]
theorem Ot(s:HM)(f p:Nat)(out:List (Dm×Dm))(b:Nat)(h:p<s.size\/p=0)(c:bt s p=62)(a:out.length=16):head s f p out b=bad 4 p:=by rw[head,if_pos h,jb,if_neg (by simp[c]),if_pos a]
theorem ZY(s:HM)(f p:Nat)(out:List (Dm×Dm))(b:Nat)(h:p<s.size\/p=0)(c:bt s p=62)(d:out.length≠16)(a:ax s (p+1)=p+1\/bt s (ax s (p+1))≠10):head s f p out b=bad 2 (ax s (p+1)):=by rw[head,if_pos h,jb,if_neg (by simp[c]),if_neg d,if_pos a]
theorem Rb(s:HM)(f p:Nat)(out:List (Dm×Dm))(b:Nat)(h:p<s.size\/p=0)(c:bt s p=62)(d:out.length≠16)(e:¬(ax s (p+1)=p+1\/bt s (ax s (p+1))≠10))(a:out.any (λx=>x.1==piece s (p+1) (ax s (p+1)))=true):head s f p out b=bad 3 (p+1):=by rw[head,if_pos h,jb,if_neg (by simp[c]),if_neg d,if_neg e,if_pos a]
theorem Kv(s:HM)(f p:Nat)(out:List (Dm×Dm))(a:Nat)(h:p<s.size\/p=0)(c:bt s p=62)(d:out.length≠16)(e:¬(ax s (p+1)=p+1\/bt s (ax s (p+1))≠10))(b:out.any (λx=>x.1==piece s (p+1) (ax s (p+1)))=false):head s f p out a=dW s f (ax s (p+1)+1) (ax s (p+1)+1) (piece s (p+1) (ax s (p+1))) [] out a:=by rw[head,if_pos h,jb,if_neg (by simp[c]),if_neg d,if_neg e,if_neg (by simp[b])]
theorem adr(s:HM)(f p:Nat)(out:List (Dm×Dm))(a:Nat)(h:¬(p<s.size\/p=0)):head s f p out a=⟨out,0,0⟩:=by rw[head,if_neg h]
theorem Iu(s:HM):eX s=head s (s.size+1) 0 [] 0:=by rw[head,if_pos (.inr rfl)];rfl
theorem DO{s:HM}{p:Nat}(b:¬(ax s (p+1)=p+1\/bt s (ax s (p+1))≠10)):ax s (p+1)<s.size/\p+1<=ax s (p+1):=by(have a:bt s (ax s (p+1))=10:=by by_cases h:bt s (ax s (p+1))=10;(·exact h);·exact absurd (.inr h) b);exact⟨gI (by rw[a];decide),by unfold ax;omega⟩
end Tx
section
open RowKit
def Src(w:HA)(sv:HH)(m:Nat)(xs:FV):Prop:=(sv=.slice none 0 0/\m=0/\xs=[])\/∃ad c,sv=.slice (some ad) m c/\(∀j u,xs[j]?=some u->w.cell? (ad.add j)=some u)
theorem Src.mono{sv:HH}{m:Nat}(h:Src w sv m xs)(b:Below w.heap.size w w'):Src w' sv m xs:=by rcases h with h|⟨ad,c,rfl,d⟩;(·exact .inl h);·refine .inr ⟨ad,c,rfl,λj u a=>?_⟩;have h0:=d j u a;rw[b.cell (World.block_lt_of_cell? w _ h0)];exact h0
theorem Ha{ops:Array Oper}{rest:List Oper}{o:Oper}{a:Act}{Q:Exit->Act->HA->Prop}(g:o.guard=none)(s x:Operand)(t:TypeId)(l:o.op=.call {callee:=.builtin .append,args:=#[s,x],argTypes:=#[t,t]})(base:Nat)(e:TypeId)(z:HH)(size d:Nat)(j:prog.underlying t=some (.slice e))(D:(prog.info? e).map (λi=>(i.zero,i.size,i.bytes))=some (some z,size,d))(E:z.cells.size=size)(H:0<size)(v:HH)(n:Nat)(xs:FV)(sv:HH)(m:Nat)(b:FV)(f:a.eval s=v)(q:a.eval x=sv)(ai:w.ownsRow base e size v n xs)(B:Src w sv m b)(C:b.length=m*size)(h1:∀u∈b,u.oneCell'=true)(p:Below base W w)(r:base<=w.heap.size)(F:(n+m)*d<=140737488355328)(G:0<d)(h:∀v' w',w'.ownsRow base e size v' (n+m) (xs++b)->Below base W w'->w.heap.size<=w'.heap.size->(∀k,k<w.heap.size->some k≠v.ownBlock->w'.heap[k]?=w.heap[k]?)->wpList prog ops Q rest (a.put o.dst v') w'):wpList prog ops Q (o::rest) a w:=by obtain⟨i0,y,I,J,K⟩:=info_parts D;have N:(n+m)*1<=(n+m)*d:=Nat.mul_le_mul_left _ G;rcases B with⟨rfl,rfl,rfl⟩|⟨ad,c,rfl,L⟩;(·refine wpList_append_own_none g s x t l base e i0 size j y v n xs f ai q ?_;refine h v w ?_ p (Nat.le_refl _) (λ_ _ _=>rfl);rw[Nat.add_zero,List.append_nil];exact ai);·refine wpList_append_own _ g s x t l base e i0 z size d j y I J K E H v n xs f ai ad m c b q C L h1 ?_ F r ?_;(·unfold maxLen;omega);·intro v' w' M g2 _;exact h v' w' M (p.grown g2 r (λk A=>(ai.lt k A).1)) g2.size g2.block
theorem Tryz.AQ:(prog.info? 59).map (λi=>(i.zero,i.size,i.bytes))=some (some (.agg #[.string ⟨#[]⟩,.string ⟨#[]⟩]),2,32):=HW
theorem Tryz.Xr:(prog.info? 56).map (λi=>(i.zero,i.size,i.bytes))=some (some (.agg #[.string ⟨#[]⟩,.string ⟨#[]⟩]),2,32):=HW
theorem Yf(l:List Pr):∀u∈aS l,u.oneCell'=true:=by intro u a;obtain⟨o,b,a⟩:=List.mem_flatMap.1 a;simp only[dP,List.mem_cons,List.not_mem_nil,or_false]at a;rcases a with rfl|rfl<;>rfl
theorem Bp(n:Nat)(b:n<256):((c.toNat:Int)!=(n:Int))=true↔c≠UInt8.ofNat n:=by rw[bne_iff_ne];constructor;(·intro h a;exact h (by have:=(Lt.toNat_inj b).2 a;omega));·intro h a;exact h ((Lt.toNat_inj b).1 HU)
theorem ahk(h:c=62):((c.toNat:Int)!=62)=false:=by rw[h];rfl
theorem Zx(h:c≠62):((c.toNat:Int)!=62)=true:=(Bp 62 HU).2 h
theorem gE{size:Nat}{v:HH}(h:w.ownsRow base e size v n xs)(d:Below w.heap.size w w'):w'.ownsRow base e size v n xs:=by refine⟨h.1,?_⟩;rcases h.2 with h0|⟨g,cap,c,rfl,h1,a,b⟩;(·exact .inl h0);·exact .inr ⟨g,cap,c,rfl,h1,by rw[d.block g (J2.1 a).1];exact a,b⟩
theorem D9(p:UInt8->Bool)(s:HM)(k:Nat)(h:k<s.size):(s.data.toList.take (k+1)).all p=((s.data.toList.take k).all p&&p s[k]):=by rw[show s.data.toList.take (k+1)=s.data.toList.take k++[s[k]]from Lt.agD s k h,List.all_append];simp
theorem Cq(p:UInt8->Bool)(s:HM)(k:Nat)(h:k<s.size)(a:p s[k]=false):s.data.toList.all p=false:=by rw[List.all_eq_false];exact⟨s[k],by have:s[k]=s.data.toList[k]'(by simpa using h):=rfl;rw[this];exact List.getElem_mem _,by simp[a]⟩
theorem IL(p:UInt8->Bool)(s:HM)(k:Nat)(h:¬k<s.size)(a:(s.data.toList.take k).all p=true):s.data.toList.all p=true:=by rwa[List.take_of_length_le (by simp;omega)]at a
def Ln.name(l:Dm):Bool:=l.all Tx.nb&&(decide (1<=l.length)&&decide (l.length<=32))
def Ln.gJ(c:UInt8):Bool:=c==46||c==122||c==120||c==104||c==117||c==90||c==88||c==72||c==85
def Ln.calls(l:Dm):Bool:=l.all Ln.gJ
theorem ahq(h:Ln.gJ c=true):(c.toNat:Int)=46\/(c.toNat:Int)=122\/(c.toNat:Int)=120\/(c.toNat:Int)=104\/(c.toNat:Int)=117\/(c.toNat:Int)=90\/(c.toNat:Int)=88\/(c.toNat:Int)=72\/(c.toNat:Int)=85:=Lt.every (p:=λc=>Ln.gJ c=true->(c.toNat:Int)=46\/(c.toNat:Int)=122\/(c.toNat:Int)=120\/(c.toNat:Int)=104\/(c.toNat:Int)=117\/(c.toNat:Int)=90\/(c.toNat:Int)=88\/(c.toNat:Int)=72\/(c.toNat:Int)=85) (by decide+kernel) c h
theorem aav(h:Ln.gJ c=false):(((c.toNat:Int)==46)=false/\((c.toNat:Int)==122)=false/\((c.toNat:Int)==120)=false/\((c.toNat:Int)==104)=false/\((c.toNat:Int)==117)=false)/\(((c.toNat:Int)==90)=false/\((c.toNat:Int)==88)=false/\((c.toNat:Int)==72)=false/\((c.toNat:Int)==85)=false):=Lt.every (p:=λc=>Ln.gJ c=false->(((c.toNat:Int)==46)=false/\((c.toNat:Int)==122)=false/\((c.toNat:Int)==120)=false/\((c.toNat:Int)==104)=false/\((c.toNat:Int)==117)=false)/\(((c.toNat:Int)==90)=false/\((c.toNat:Int)==88)=false/\((c.toNat:Int)==72)=false/\((c.toNat:Int)==85)=false)) (by decide+kernel) c h
def Ln.verdict(n:Int):Dm:=if n==0 then[117,110,109,97,112,112,101,100]else if n==1 then[97,108,105,103,110,101,100]else[97,109,98,105,103,117,111,117,115]
def Ln.eb(n:Int):Dm:=if n==1 then[79,84]else if n==2 then[79,66]else if n==3 then[67,84,79,84]else[67,84,79,66]
def Ln.cX:Nat->Nat->Dm|0,n=>[UInt8.ofNat (48+n)]|f+1,n=>if n<10 then[UInt8.ofNat (48+n)]else Ln.cX f (n/10)++[UInt8.ofNat (48+n%10)]
theorem Ln.JZ(f n:Nat)(h:n<10):Ln.cX f n=[UInt8.ofNat (48+n)]:=by cases f<;>simp[Ln.cX,h]
theorem Ln.sj:∀(f n:Nat),(Ln.cX f n).length<=f+1:=by intro f;induction f with|zero=>intro n;simp[Ln.cX]|succ f a=>intro n;unfold Ln.cX;split;simp;have:=a (n/10);simp;omega
theorem agG(w:HA)(b:Nat)(d:UInt8)(h:w.cell? ⟨b,0,none⟩=some (.int .u8 (d.toNat:Int))):(convert 43 9 (.slice (some ⟨b,0,none⟩) 1 1)).run prog w=.ok (.string ⟨#[d]⟩) w:=run_convert_bytes_back (P:=prog) w 43 9 5 ⟨b,0,none⟩ 1 [d] underlying43 underlying5 underlying9 (λj a=>by match j,a with|0,_=>simpa[Addr.add]using h)
theorem tT(w:HA)(x y:Dm)(h:x.length+y.length<=9223372036854775807):(Op.stringOp .add ⟨x.toArray⟩ ⟨y.toArray⟩).run prog w=.ok (.string ⟨(x++y).toArray⟩) w:=by
 have e:((⟨x.toArray⟩:HM)++⟨y.toArray⟩)=⟨(x++y).toArray⟩:=by apply ByteArray.ext;simp[ByteArray.data_append]
 have b:IntKind.i64.max=9223372036854775807:=by decide
 have a:¬(((⟨x.toArray⟩:HM).size+(⟨y.toArray⟩:HM).size:Nat):Int)>IntKind.i64.max:=by rw[b];simp[ByteArray.size];omega
 simp only[Op.stringOp,if_neg a,e];rfl
structure Rc where
 nm:Dm
 vd:Int
 sd:Int
 ct:Dm
 pl:Int
 mm:Int
 lt:Dm
 cl:Dm
def Rc.aA(r:Rc):DS:=#[.string ⟨r.nm.toArray⟩,.int .i64 r.vd,.int .i64 r.sd,.string ⟨r.ct.toArray⟩,.int .i64 r.pl,.int .i64 r.mm,.string ⟨r.lt.toArray⟩,.string ⟨r.cl.toArray⟩]
def Rc.bare(r:Rc):Bool:=r.sd==0&&(r.ct.isEmpty&&(r.pl==0&&(r.mm==0&&(r.lt.isEmpty&&r.cl.isEmpty))))
theorem aaT(n c l k:Dm)(v s p m:Int)(w:HA):(Op.equalIn 10000 52 (.agg #[.string ⟨n.toArray⟩,.int .i64 v,.int .i64 s,.string ⟨c.toArray⟩,.int .i64 p,.int .i64 m,.string ⟨l.toArray⟩,.string ⟨k.toArray⟩]) (.agg #[.string ⟨n.toArray⟩,.int .i64 v,.int .i64 0,.string ⟨#[]⟩,.int .i64 0,.int .i64 0,.string ⟨#[]⟩,.string ⟨#[]⟩])).run prog w=.ok (s==0&&(c.isEmpty&&(p==0&&(m==0&&(l.isEmpty&&k.isEmpty))))) w:=by simp[go_sem,underlying52,underlying9,underlying3];(repeat' split);all_goals simp_all
theorem YD(n c l k:Dm)(v s p m:Int)(w:HA):(binOp .eql 52 (.agg #[.string ⟨n.toArray⟩,.int .i64 v,.int .i64 s,.string ⟨c.toArray⟩,.int .i64 p,.int .i64 m,.string ⟨l.toArray⟩,.string ⟨k.toArray⟩]) (.agg #[.string ⟨n.toArray⟩,.int .i64 v,.int .i64 0,.string ⟨#[]⟩,.int .i64 0,.int .i64 0,.string ⟨#[]⟩,.string ⟨#[]⟩])).run prog w=.ok (.bool (s==0&&(c.isEmpty&&(p==0&&(m==0&&(l.isEmpty&&k.isEmpty)))))) w:=by rw[run_eql_struct,aaT];rfl
def Rc.full(r:Rc):Bool:=Lt.bh r.sd&&(Ln.name r.ct&&(Lt.aB r.lt&&(Ln.calls r.cl&&(decide (0<=r.pl)&&(decide (r.pl<=4096)&&(decide (1<=(r.lt.length:Int))&&(decide ((r.lt.length:Int)<=128)&&(decide (0<=r.mm)&&(decide (r.mm<=(r.lt.length:Int))&&((r.cl.length:Int)==(r.lt.length:Int)))))))))))
def Rc.right(r:Rc):Bool:=if Ln.name r.nm=false then false else if r.vd<0 then false else if 2<r.vd then false else if r.vd=1 then r.full else r.bare
structure Rc.Small(r:Rc):Prop where
 nm:r.nm.length<=140737488355327
 ct:r.ct.length<=140737488355327
 lt:r.lt.length<=140737488355327
 cl:r.cl.length<=140737488355327
theorem cq(l:Dm):(⟨l.toArray⟩:HM).size=l.length:=by simp[ByteArray.size]
theorem wv{l:Dm}(h:l.length<=140737488355327):(⟨l.toArray⟩:HM).size<=maxLen:=by rw[cq];unfold maxLen;omega
theorem yS{T:TypeId}{a b c d e f p q:HH}(h:W.heap[g]?=some (.cells #[a,b,c,d,e,f,p,q] T (0,0))):W.cell? ⟨g,0,none⟩=some a/\W.cell? ⟨g,1,none⟩=some b/\W.cell? ⟨g,2,none⟩=some c/\W.cell? ⟨g,3,none⟩=some d/\W.cell? ⟨g,4,none⟩=some e/\W.cell? ⟨g,5,none⟩=some f/\W.cell? ⟨g,6,none⟩=some p/\W.cell? ⟨g,7,none⟩=some q/\W.frozen? ⟨g,0,none⟩=false/\W.frozen? ⟨g,1,none⟩=false/\W.frozen? ⟨g,2,none⟩=false/\W.frozen? ⟨g,3,none⟩=false/\W.frozen? ⟨g,4,none⟩=false/\W.frozen? ⟨g,5,none⟩=false/\W.frozen? ⟨g,6,none⟩=false/\W.frozen? ⟨g,7,none⟩=false:=by refine⟨?_,?_,?_,?_,?_,?_,?_,?_,?_,?_,?_,?_,?_,?_,?_,?_⟩;all_goals first|exact cell_of_row _ _ _ _ _ _ h|exact frozen_of_row _ _ _ _ _ h
theorem p9(s:HM)(w:HA)(m:s.size<=maxLen):Calls prog 76 #[.string s] w λe w'=>e=.returned (.bool (Ln.name s.data.toList))/\w'=w:=by
 unfold maxLen at m;have j:s.data.toList.length=s.size:=by simp
 have f:Hid (Ln.name s.data.toList=(s.data.toList.all Tx.nb&&(decide (1<=s.size)&&decide (s.size<=32)))):=by show _=_;rw[Ln.name,j]
 clear j;go_enter func76,ntmps76;go_wp2;go_loop[6](λi=>∃k:Nat,k<=s.size/\i=.int .i64 k/\Hid ((s.data.toList.take k).all Tx.nb=true))(λi=>s.size-(intOf i).toNat);case atStart=>exact⟨0,Nat.zero_le _,rfl,by simp[Hid]⟩
 case round=>obtain⟨k,o,rfl,d⟩:=hrel;by_cases hlt:k<s.size;(·cases a:Tx.nb s[k]with|true=>have g:=D9 Tx.nb s k hlt;rw[d.out,a,Bool.and_self]at g;have l:Hid ((s.data.toList.take (k+1)).all Tx.nb=true):=g;clear g d;have h:Hid _:=a;clear a;go_wp2_with(go_at_call 119;refine(vP _ _).mono ?_;rintro e w'⟨rfl,n⟩;subst w';rw[h.out]);go_round;(case rel=>exact⟨k+1,HU,by go_num,l⟩);case measure=>simp[intOf];omega|false=>have c:Hid _:=Cq Tx.nb s k hlt a;have h:Hid _:=a;clear a d;go_wp2_with(go_at_call 119;refine(vP _ _).mono ?_;rintro e w'⟨rfl,n⟩;subst w';rw[h.out]);go_ret;exact⟨cQ (by rw[f.out,c.out];rfl),rfl⟩);·have c:Hid _:=IL Tx.nb s k hlt d.out;clear d;by_cases h1:1<=s.size;(·by_cases h2:s.size<=32;(·(have b:Hid (Ln.name s.data.toList=true):=by show _=_;rw[f.out,c.out,decide_eq_true h1,decide_eq_true h2];rfl);go_wp2;go_ret;exact⟨cQ (by rw[b.out];simp;try omega),rfl⟩);·(have b:Hid (Ln.name s.data.toList=false):=by show _=_;rw[f.out,c.out,decide_eq_true h1,decide_eq_false h2];rfl);go_wp2;go_ret;exact⟨cQ (by rw[b.out];simp;try omega),rfl⟩);·(have b:Hid (Ln.name s.data.toList=false):=by show _=_;rw[f.out,c.out,decide_eq_false h1];rfl);go_wp2;go_ret;exact⟨cQ (by rw[b.out]),rfl⟩
theorem abp(s:HM)(w:HA)(l:s.size<=maxLen):Calls prog 79 #[.string s] w λe w'=>e=.returned (.bool (Ln.calls s.data.toList))/\w'=w:=by unfold maxLen at l;obtain⟨R,d⟩:∃R,R=Ln.calls s.data.toList:=⟨_,rfl⟩;rw[<-d];have h:Hid (R=s.data.toList.all Ln.gJ):=d;clear d;go_enter func79,ntmps79;go_wp2;go_loop[6](λi=>∃k:Nat,k<=s.size/\i=.int .i64 k/\Hid ((s.data.toList.take k).all Ln.gJ=true))(λi=>s.size-(intOf i).toNat);(case atStart=>exact⟨0,Nat.zero_le _,rfl,by simp[Hid]⟩);case round=>obtain⟨k,n,rfl,c⟩:=hrel;by_cases hlt:k<s.size;(·cases b:Ln.gJ s[k]with|true=>have g:=D9 Ln.gJ s k hlt;rw[c.out,b,Bool.and_self]at g;have j:Hid ((s.data.toList.take (k+1)).all Ln.gJ=true):=g;clear g c;have a:=ahq b;clear b;rcases a with a|a|a|a|a|a|a|a|a;all_goals go_wp2;go_round;(case rel=>exact⟨k+1,HU,by go_num,j⟩);case measure=>simp[intOf];omega|false=>have f:Hid _:=Cq Ln.gJ s k hlt b;obtain⟨⟨n1,n2,o,p,q⟩,r,n7,m,n9⟩:=aav b;clear b c;go_wp2;go_ret;exact⟨cQ (by rw[h.out,f.out]),rfl⟩);·have f:Hid _:=IL Ln.gJ s k hlt c.out;clear c;go_wp2;go_ret;exact⟨cQ (by rw[h.out,f.out]),rfl⟩
theorem Ab(n m:Int)(w:HA):Calls prog 62 #[.int .i64 n,.int .i64 m] w λe w'=>e=.returned (.bool (decide (0<=n)&&decide (n<=m)))/\w'=w:=by by_cases h1:0<=n<;>by_cases h2:n<=m;all_goals go_enter func62,ntmps62;go_wp2;go_ret;exact⟨cQ (by simp[h1,h2]),rfl⟩
theorem Pu(s:HM)(w:HA)(b:s.size<=maxLen):Calls prog 78 #[.string s] w λe w'=>e=.returned (.bool (decide (1<=s.size)&&(decide (s.size<=128)&&Lt.aB s.data.toList)))/\w'=w:=by have d:=b;unfold maxLen at d;obtain⟨A,a⟩:∃A,A=Lt.aB s.data.toList:=⟨_,rfl⟩;rw[<-a];(have c:Hid (∀W,Calls prog 98 #[.string s] W λe w'=>e=.returned (.bool A)/\w'=W):=λW=>by rw[a];exact lF s W b);clear a;by_cases h1:1<=s.size<;>by_cases h2:s.size<=128;all_goals have g:=h1;have h:=h2;go_enter func78,ntmps78;go_wp2_with(go_at_call 98;refine(c.out _).mono ?_;rintro e w'⟨rfl,f⟩;subst w');all_goals go_ret;exact⟨cQ (by simp[h1,h2]),rfl⟩
end
