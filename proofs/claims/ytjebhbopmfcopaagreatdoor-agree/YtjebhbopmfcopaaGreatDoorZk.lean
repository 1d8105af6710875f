/- Agree, a part. -/
import Derived.BigQuiet
import Derived.Deep.QuietTactic
import Derived.LaidLaws
import Derived.Lib.LaidTab
import Derived.Shelf.LaysC
import Derived.Shelf.LaysM
import Derived.Shelf.Strconv.Atoi
import Derived.Shelf.Strconv.AtoiAll
import Derived.Shelf.Strconv.AtoiErrFast
import Derived.Shelf.Strconv.AtoiFail
import Derived.Shelf.Strconv.AtoiInnerAll
import Derived.Shelf.Strconv.AtoiLong
import Derived.Shelf.Strconv.Clone
import Derived.Shelf.Strconv.ErrVarAll
import Derived.Shelf.Strconv.Itoa0
import Derived.Shelf.Strconv.Itoa1
import Derived.Shelf.Strconv.Itoa2
import Derived.Shelf.Strconv.Itoa3
import Derived.Shelf.Strconv.Lower
import Derived.Shelf.Strconv.ParseInt10
import Derived.Shelf.Strconv.ParseIntEmpty
import Derived.Shelf.Strconv.ParseUint10
import Derived.Shelf.Strconv.ParseUint10Any
import Derived.Shelf.Strconv.ParseUint10Empty
import Derived.Shelf.Strconv.RangeError
import Derived.Shelf.Strconv.SyntaxError
import Derived.Shelf.Strconv.ToError
import Derived.Shelf.Strconv.ToErrorRange
import Derived.Shelf.Strings.Builder1
import Derived.Shelf.Strings.Builder2
import Derived.Shelf.Strings.Count
import Derived.Shelf.Strings.Cut
import Derived.Shelf.Strings.Explode
import Derived.Shelf.Strings.OnBuilder
import Derived.Shelf.Strings.RuneCount
import Derived.Shelf.Strings.Search1
import Derived.Shelf.Strings.Search2
import Derived.Shelf.Strings.Search3
import Derived.Shelf.Strings.Shaped
import Derived.Shelf.Strings.Split
import Derived.Shelf.Strings.SplitShaped
import Derived.Shelf.Unicode.Decode
import Derived.Shelf.Unicode.DecodeAny
import Derived.Shelf.Unicode.DecodeSlow
import Derived.Shelf.Utf8.RuneCount
import Derived.Shelf.Vars
import Derived.Stop.LaidErr
import Derived.Test.YtjebhbopmfcopaaGreatDoorZj
set_option maxHeartbeats 400000
namespace Go.Proofs.YtjebhbopmfcopaaGreatDoor
open Go.Proofs Tryz
noncomputable section
variable{ss:List Dm}{l:Dm}{base n:Nat}{P:Program}{e t:TypeId}{c:UInt8}{W w:HA}
section
open RowKit
def Rc.line(r:Rc):Dm:=if r.vd=1 then r.nm++[9]++Ln.verdict r.vd++[9]++Ln.eb r.sd++[9]++r.ct++[9]++Ln.cX 3 r.pl.toNat++[9]++Ln.cX 3 r.mm.toNat++[9]++r.lt++[9]++r.cl++[10]else r.nm++[9]++Ln.verdict r.vd++[10]
theorem Ln.Cr(n:Int):(Ln.verdict n).length<=9:=by unfold Ln.verdict;split;decide;split<;>decide
theorem Ln.Hp(n:Int):(Ln.eb n).length<=4:=by unfold Ln.eb;split;decide;split;decide;split<;>decide
structure Rc.lA(r:Rc):Prop where
 nm:r.nm.length<=32
 ct:r.ct.length<=32
 lt:r.lt.length<=128
 cl:r.cl.length<=128
 p0:0<=r.pl
 p1:r.pl<=4096
 m0:0<=r.mm
 m1:r.mm<=128
theorem Rc.aaD{r:Rc}(h:r.right=true):r.nm.length<=32/\(r.vd=1->r.lA):=by unfold Rc.right at h;split at h;(·simp at h);·next hn=>(have b:Ln.name r.nm=true:=by simpa using hn);(have a:r.nm.length<=32:=by simp only[Ln.name,Bool.and_eq_true,decide_eq_true_eq]at b;exact b.2.2);refine⟨a,λf=>?_⟩;split at h;(·simp at h);·split at h;(·simp at h);·simp only[Rc.full,Ln.name,Bool.and_eq_true,decide_eq_true_eq,beq_iff_eq]at h;obtain⟨_,⟨_,_,e⟩,_,_,h1,c,_,g,d,j,i⟩:=h;exact⟨a,e,HU,HU,h1,c,d,HU⟩
theorem Rc.Po{r:Rc}(h:r.right=true):r.line.length<=400:=by obtain⟨h1,a⟩:=Rc.aaD h;have c:=Ln.Cr r.vd;unfold Rc.line;split;(·next hv1=>obtain⟨s1,d,e,b,_,_,_,_⟩:=a hv1;have:=Ln.Hp r.sd;have:=Ln.sj 3 r.pl.toNat;have:=Ln.sj 3 r.mm.toNat;simp only[List.length_append,List.length_cons,List.length_nil];omega);·simp only[List.length_append,List.length_cons,List.length_nil];omega
def js(r:Rc):FV:=[.string ⟨r.nm.toArray⟩,.int .i64 r.vd,.int .i64 r.sd,.string ⟨r.ct.toArray⟩,.int .i64 r.pl,.int .i64 r.mm,.string ⟨r.lt.toArray⟩,.string ⟨r.cl.toArray⟩]
def dD(l:List Rc):FV:=l.flatMap js
theorem zk(l:List Rc):(dD l).length=l.length*8:=by induction l with|nil=>rfl|cons a l b=>rw[dD,List.flatMap_cons,List.length_append,<-dD,b,List.length_cons];simp[js];omega
theorem Vn(l r:List Rc):dD (l++r)=dD l++dD r:=by simp[dD]
theorem Bq(l:List Rc)(k:Nat)(h:k<l.length)(j:Nat)(b:j<8):(dD l)[k*8+j]?=(js l[k])[j]?:=by induction l generalizing k with|nil=>simp at h|cons o l a=>rw[dD,List.flatMap_cons];cases k with|zero=>rw[List.getElem?_append_left (by simp[js];omega)];simp|succ k=>rw[List.getElem?_append_right (by simp[js];omega)];(have e:(k+1)*8+j-(js o).length=k*8+j:=by simp[js];omega);rw[e];have:=a k (by simpa using h);rw[dD]at this;rw[this];simp
theorem aaZ(l:List Rc):∀u∈dD l,u.oneCell'=true:=by intro u a;obtain⟨o,_,a⟩:=List.mem_flatMap.1 a;simp only[js,List.mem_cons,List.not_mem_nil,or_false]at a;rcases a with rfl|rfl|rfl|rfl|rfl|rfl|rfl|rfl<;>rfl
def Ln.iU(l:List Rc):Int:=if l.all Rc.right then 0 else 9
def Ln.lines(l:List Rc):Dm:=l.flatMap Rc.line
def Ln.render(l:List Rc):Dm:=if l.all Rc.right then Ln.lines l else[]
theorem Ln.sG:∀(l:List Rc),l.all Rc.right=true->(Ln.lines l).length<=l.length*400:=by intro l;induction l with|nil=>intro _;simp[Ln.lines]|cons a l b=>intro h;rw[List.all_cons,Bool.and_eq_true]at h;have h1:=Rc.Po h.1;have c:=b h.2;rw[Ln.lines,List.flatMap_cons,List.length_append,<-Ln.lines,List.length_cons];omega
end
namespace Tx
def fy(s:HM):Nat->Nat->Nat|_,0=>0|p,f+1=>if ql (bt s p)then fy s (p+1) f+1 else 0
def jT(s:HM)(j c:Nat)(k:Nat->bZ):bZ:=if fy s j c<c\/bt s (j+fy s j c)≠10 then bad 6 (j+fy s j c)else k (j+c+1)
def gA(s:HM)(i:Nat)(k:Nat->bZ):bZ:=if bt s i≠10 then bad 5 i else if bt s (i+1)≠43 then bad 5 (i+1)else if bt s (i+2)≠10 then bad 5 (i+2)else k (i+3)
def gy(s:HM)(q:Nat)(k:Nat->Dm->bZ):bZ:=if bn s q 128=0\/bt s (q+bn s q 128)≠10 then bad (wr s (q+bn s q 128) 5 7) (q+bn s q 128)else gA s (q+bn s q 128) (λj=>jT s j (bn s q 128) (λp=>k p (dE s q (bn s q 128))))
def fq(s:HM):Nat->Nat->List (Dm×Dm)->bZ|0,_,_=>bad 0 0|f+1,p,out=>if¬p<s.size then⟨out,0,0⟩else if bt s p≠64 then bad 5 p else if out.length=256 then bad 4 p else if ax s (p+1)=p+1\/bt s (ax s (p+1))≠10 then bad 5 (ax s (p+1))else gy s (ax s (p+1)+1) (λq x=>fq s f q (out++[(piece s (p+1) (ax s (p+1)),x)]))
def fI(s:HM):bZ:=fq s (s.size+1) 0 []
theorem JE(s:HM)(q:Nat)(k:Nat->Dm->bZ)(h:bn s q 128=0\/bt s (q+bn s q 128)≠10):gy s q k=bad (wr s (q+bn s q 128) 5 7) (q+bn s q 128):=by rw[gy,if_pos h]
theorem Ia(s:HM)(q c:Nat)(k:Nat->Dm->bZ)(a:bn s q 128=c)(h0:cap (bt s (q+c))=0)(b:0<c):gy s q k=gA s (q+c) (λj=>jT s j c (λp=>k p (dE s q c))):=by subst a;by_cases h:bt s (q+bn s q 128)=10;(·rw[gy,if_neg (by simp[h];omega)]);·rw[gy,if_pos (.inr h),gA,if_pos h,wr,if_neg (by simp[h0])]
theorem MS(s:HM)(q:Nat)(k:Nat->Dm->bZ)(a:bn s q 128=0)(h0:cap (bt s q)=0):gy s q k=bad 5 q:=by rw[JE s q k (.inl a),a,wr,Nat.add_zero,if_neg (by simp[h0])]
theorem My(s:HM)(q:Nat)(k:Nat->Dm->bZ)(a:bn s q 128=128)(h0:cap (bt s (q+128))≠0):gy s q k=bad 7 (q+128):=by have b:bt s (q+128)≠10:=λh=>h0 (by rw[h];exact rI);rw[JE s q k (.inr (by rw[a];exact b)),a,wr,if_pos h0]
theorem abL(s:HM)(i:Nat)(k:Nat->bZ)(h:bt s i≠10):gA s i k=bad 5 i:=by rw[gA,if_pos h]
theorem QF(s:HM)(i:Nat)(k:Nat->bZ)(h:bt s i=10)(h1:bt s (i+1)≠43):gA s i k=bad 5 (i+1):=by rw[gA,if_neg (by simp[h]),if_pos h1]
theorem Mj(s:HM)(i:Nat)(k:Nat->bZ)(h:bt s i=10)(h1:bt s (i+1)=43)(a:bt s (i+2)≠10):gA s i k=bad 5 (i+2):=by rw[gA,if_neg (by simp[h]),if_neg (by simp[h1]),if_pos a]
theorem Dg(s:HM)(i:Nat)(k:Nat->bZ)(h:bt s i=10)(h1:bt s (i+1)=43)(a:bt s (i+2)=10):gA s i k=k (i+3):=by rw[gA,if_neg (by simp[h]),if_neg (by simp[h1]),if_neg (by simp[a])]
theorem Xu(s:HM)(p m j:Nat)(b:j<m):fy s (p+j) (m-j)=if ql (bt s (p+j))then fy s (p+(j+1)) (m-(j+1))+1 else 0:=by obtain⟨f,a⟩:∃f,m-j=f+1:=⟨m-j-1,HU⟩;rw[a,fy,show m-(j+1)=f by omega,show p+(j+1)=p+j+1 by omega]
theorem yg(s:HM)(f p:Nat)(out:List (Dm×Dm))(h:¬p<s.size):fq s (f+1) p out=⟨out,0,0⟩:=by rw[fq,if_pos h]
theorem agW(s:HM)(f p:Nat)(out:List (Dm×Dm))(h:p<s.size)(a:bt s p≠64):fq s (f+1) p out=bad 5 p:=by rw[fq,if_neg HU,if_pos a]
theorem PT(s:HM)(f p:Nat)(out:List (Dm×Dm))(h:p<s.size)(b:bt s p=64)(a:out.length=256):fq s (f+1) p out=bad 4 p:=by rw[fq,if_neg HU,if_neg (by simp[b]),if_pos a]
theorem abC(s:HM)(f p:Nat)(out:List (Dm×Dm))(h:p<s.size)(b:bt s p=64)(c:out.length≠256)(a:ax s (p+1)=p+1\/bt s (ax s (p+1))≠10):fq s (f+1) p out=bad 5 (ax s (p+1)):=by rw[fq,if_neg HU,if_neg (by simp[b]),if_neg c,if_pos a]
theorem DX(s:HM)(f p:Nat)(out:List (Dm×Dm))(h:p<s.size)(b:bt s p=64)(c:out.length≠256)(a:¬(ax s (p+1)=p+1\/bt s (ax s (p+1))≠10)):fq s (f+1) p out=gy s (ax s (p+1)+1) (λq x=>fq s f q (out++[(piece s (p+1) (ax s (p+1)),x)])):=by rw[fq,if_neg HU,if_neg (by simp[b]),if_neg c,if_neg a]
end Tx
section
open RowKit
theorem ZL(h:c=64):((c.toNat:Int)!=64)=false:=by rw[h];rfl
theorem OC(h:c≠64):((c.toNat:Int)!=64)=true:=(Bp 64 HU).2 h
theorem Yv(h:c=43):((c.toNat:Int)!=43)=false:=by rw[h];rfl
theorem PN(h:c≠43):((c.toNat:Int)!=43)=true:=(Bp 43 HU).2 h
theorem lS(s:HM)(k:Nat)(h:k<s.size)(x:Int)(b:x=(k:Int))(a:HA):(Instr.index 9 (.string s) (.int .i64 x)).run prog a=.ok (.int .u8 (s[k].toNat:Int)) a:=by
 subst b;have h0:(0:Int)<=(k:Int):=by omega
 have h1:(k:Int)<(s.size:Int):=by omega
 go_simp
theorem wrap_small(x:Int)(h0:0<=x)(h1:x<=1000000000000000):IntKind.i64.wrap x=x:=by simp[IntKind.wrap,IntKind.bits,IntKind.signed];omega
def Ln.iw(b:List Dm)(a:Dm):Dm->Option (List Dm×Dm)|[]=>none|c::t=>if c=10 then some (b++[a],t)else if c=9 then Ln.iw (b++[a]) [] t else Ln.iw b (a++[c]) t
def bJ(l:List Dm):FV:=l.map (λx=>.string ⟨x.toArray⟩)
theorem acV(a b:List Dm):bJ (a++b)=bJ a++bJ b:=by simp[bJ]
theorem Tryz.PJ:(prog.info? 9).map (λi=>(i.zero,i.size,i.bytes))=some (some (.string ⟨#[]⟩),1,16):=HW
def Ln.rq(c:UInt8):Bool:=decide (48<=(c.toNat:Int))&&decide ((c.toNat:Int)<=57)
def Ln.nE(l:Dm):Nat:=l.foldl (λn c=>10*n+(c.toNat-48)) 0
def Ln.num(l:Dm):Int:=if l.length=0 then-1 else if 6<l.length then-1 else if l.all Ln.rq=false then-1 else(Ln.nE l:Int)
theorem Xk(l:Dm)(c:UInt8):Ln.nE (l++[c])=10*Ln.nE l+(c.toNat-48):=by simp[Ln.nE,List.foldl_append]
def Ln.wR(y:Dm):Nat->Int|0=>-1|k+1=>if Ln.verdict (k:Int)=y then(k:Int)else Ln.wR y k
def Ln.zO(y:Dm):Nat->Int|0=>0|k+1=>if Ln.eb ((k+1:Nat):Int)=y then((k+1:Nat):Int)else Ln.zO y k
def Ln.wU:List Dm->Rc|[a,b,c,d,e,f,g,h]=>⟨a,Ln.wR b 3,Ln.zO c 4,d,Ln.num e,Ln.num f,g,h⟩|a::b::_=>⟨a,Ln.wR b 3,0,[],0,0,[],[]⟩|_=>⟨[],-1,0,[],0,0,[],[]⟩
theorem xY{e size:Nat}{v:HH}{c:FV}(h:w.ownsRow base e size v n c)(d:0<n):∃g cap,v=.slice (some ⟨g,0,none⟩) n cap/\base<=g/\g<w.heap.size:=by rcases h.2 with⟨_,rfl⟩|⟨g,cap,f,rfl,b,a,_⟩;(·omega);·exact⟨g,cap,rfl,b,(J2.1 a).1⟩
end
section
def Ln.clean(l:Dm):Prop:=∀c∈l,c≠10/\c≠9
theorem Ln.BA:∀(a:Dm),Ln.clean a->∀d b t,Ln.iw d b (a++t)=Ln.iw d (b++a) t:=by intro a;induction a with|nil=>intro _ d b t;simp|cons c a g=>intro h d b t;have e:=h c (List.mem_cons_self ..);rw[List.cons_append,Ln.iw,if_neg e.1,if_neg e.2,g (λx f=>h x (List.mem_cons_of_mem _ f))];simp
theorem Ln.lV(a t:Dm)(h:Ln.clean a)(b:List Dm):Ln.iw b [] (a++([9]++t))=Ln.iw (b++[a]) [] t:=by rw[Ln.BA a h];simp[Ln.iw]
theorem Ln.KQ(a t:Dm)(h:Ln.clean a)(b:List Dm):Ln.iw b [] (a++([10]++t))=some (b++[a],t):=by rw[Ln.BA a h];simp[Ln.iw]
theorem qe{p:UInt8->Bool}(b:∀c,p c=true->c≠10/\c≠9)(h:l.all p=true):Ln.clean l:=by intro c a;exact b c (List.all_eq_true.1 h c a)
theorem Nn(c:UInt8):Tx.nb c=true->c≠10/\c≠9:=Lt.every (p:=λc=>Tx.nb c=true->c≠10/\c≠9) (by decide+kernel) c
theorem Ez(c:UInt8):Lt.dh c=true->c≠10/\c≠9:=Lt.every (p:=λc=>Lt.dh c=true->c≠10/\c≠9) (by decide+kernel) c
theorem EQ(c:UInt8):Ln.gJ c=true->c≠10/\c≠9:=Lt.every (p:=λc=>Ln.gJ c=true->c≠10/\c≠9) (by decide+kernel) c
theorem afS(c:UInt8):Ln.rq c=true->c≠10/\c≠9:=Lt.every (p:=λc=>Ln.rq c=true->c≠10/\c≠9) (by decide+kernel) c
theorem uk(h:Ln.name l=true):Ln.clean l:=by simp only[Ln.name,Bool.and_eq_true]at h;exact qe Nn h.1
theorem JI(n:Int):Ln.clean (Ln.verdict n):=by unfold Ln.verdict Ln.clean;split;(·decide);·split<;>decide
theorem Iq(n:Int):Ln.clean (Ln.eb n):=by unfold Ln.eb Ln.clean;split;(·decide);·split;(·decide);·split<;>decide
theorem Aq(n:Nat)(h:n<10):Ln.rq (UInt8.ofNat (48+n))=true/\(UInt8.ofNat (48+n)).toNat-48=n:=by have:n=0\/n=1\/n=2\/n=3\/n=4\/n=5\/n=6\/n=7\/n=8\/n=9:=HU;rcases this with rfl|rfl|rfl|rfl|rfl|rfl|rfl|rfl|rfl|rfl<;>decide
theorem EM:∀(f n:Nat),n<10^(f+1)->(Ln.cX f n).all Ln.rq=true/\Ln.nE (Ln.cX f n)=n/\0<(Ln.cX f n).length:=by intro f;induction f with|zero=>intro n h;(have a:n<10:=by simpa using h);obtain⟨h1,b⟩:=Aq n a;rw[Ln.JZ 0 n a];refine⟨by rw[List.all_cons,h1];rfl,?_,by simp⟩;simp only[Ln.nE,List.foldl_cons,List.foldl_nil];omega|succ f c=>intro n h;by_cases a:n<10;(·obtain⟨h1,b⟩:=Aq n a;rw[Ln.JZ _ n a];refine⟨by rw[List.all_cons,h1];rfl,?_,by simp⟩;simp only[Ln.nE,List.foldl_cons,List.foldl_nil];omega);·obtain⟨i1,i2,i3⟩:=c (n/10) (by rw[Nat.pow_succ]at h;omega);obtain⟨h1,b⟩:=Aq (n%10) HU;rw[Ln.cX,if_neg a];refine⟨by rw[List.all_append,i1,List.all_cons,h1];rfl,?_,by simp⟩;rw[Xk,i2,b];omega
theorem EB(n:Nat)(h:n<10000):Ln.num (Ln.cX 3 n)=(n:Int):=by obtain⟨h1,a,c⟩:=EM 3 n (by simpa using h);have b:=Ln.sj 3 n;rw[Ln.num,if_neg HU,if_neg HU,h1,a];rfl
theorem uj(n:Nat)(h:n<10000):Ln.clean (Ln.cX 3 n):=qe afS (EM 3 n (by simpa using h)).1
theorem Im(v:Int)(h0:0<=v)(a:v<=2):Ln.wR (Ln.verdict v) 3=v:=by have:v=0\/v=1\/v=2:=HU;rcases this with rfl|rfl|rfl<;>decide
theorem agH(v:Int)(h:Lt.bh v=true):Ln.zO (Ln.eb v) 4=v:=by(have:v=1\/v=2\/v=3\/v=4:=by simp only[Lt.bh,Bool.and_eq_true,decide_eq_true_eq]at h;omega);rcases this with rfl|rfl|rfl|rfl<;>decide
def Rc.fields(r:Rc):List Dm:=if r.vd=1 then[r.nm,Ln.verdict r.vd,Ln.eb r.sd,r.ct,Ln.cX 3 r.pl.toNat,Ln.cX 3 r.mm.toNat,r.lt,r.cl]else[r.nm,Ln.verdict r.vd]
theorem Rc.oP{r:Rc}(h:r.right=true):Ln.name r.nm=true/\0<=r.vd/\r.vd<=2/\(r.vd=1->r.full=true)/\(r.vd≠1->r.bare=true):=by unfold Rc.right at h;split at h;(·simp at h);·next hn=>split at h;(·simp at h);·split at h;(·simp at h);·next h0 h2=>refine⟨by simpa using hn,HU,HU,λa=>?_,λa=>?_⟩;(·rw[if_pos a]at h;exact h);·rw[if_neg a]at h;exact h
theorem Rc.qV{r:Rc}(h:r.full=true):Lt.bh r.sd=true/\Ln.name r.ct=true/\Lt.aB r.lt=true/\Ln.calls r.cl=true/\0<=r.pl/\r.pl<=4096/\0<=r.mm/\r.mm<=128:=by simp only[Rc.full,Bool.and_eq_true,decide_eq_true_eq]at h;obtain⟨h1,b,c,e,a,d,_,i,f,g,_⟩:=h;exact⟨h1,b,c,e,a,d,f,HU⟩
theorem Rc.back(r:Rc)(h:r.right=true)(t:Dm):Ln.iw [] [] (r.line++t)=some (r.fields,t)/\Ln.wU r.fields=r:=by obtain⟨k,h0,b,d,e⟩:=Rc.oP h;have cn:=uk k;have cv:=JI r.vd;by_cases hv:r.vd=1;(·obtain⟨f1,f2,f,c,m,n,o,p⟩:=Rc.qV (d hv);have cs:=Iq r.sd;have cc:=uk f2;have i:=uj r.pl.toNat HU;have g:=uj r.mm.toNat HU;have cl:=qe Ez f;have j:=qe EQ c;constructor;(·rw[Rc.line,if_pos hv,Rc.fields,if_pos hv];simp only[List.append_assoc];rw[Ln.lV _ _ cn,Ln.lV _ _ cv,Ln.lV _ _ cs,Ln.lV _ _ cc,Ln.lV _ _ i,Ln.lV _ _ g,Ln.lV _ _ cl,Ln.KQ _ _ j];rfl);·rw[Rc.fields,if_pos hv];simp only[Ln.wU];rw[Im _ h0 b,agH _ f1,EB _ HU,EB _ HU];rw[show((r.pl.toNat:Nat):Int)=r.pl by omega,show((r.mm.toNat:Nat):Int)=r.mm by omega]);·constructor;(·rw[Rc.line,if_neg hv,Rc.fields,if_neg hv];simp only[List.append_assoc];rw[Ln.lV _ _ cn,Ln.KQ _ _ cv];rfl);·have a:=e hv;simp only[Rc.bare,Bool.and_eq_true,beq_iff_eq,List.isEmpty_iff]at a;obtain⟨q,s,b3,u,v,l⟩:=a;rw[Rc.fields,if_neg hv];simp only[Ln.wU];rw[Im _ h0 b];cases r;simp_all
def Ln.gV(t:Dm)(l:List Rc):Prop:=l.all Rc.right=true/\Ln.lines l=t
theorem Rc.zb(r:Rc):0<r.line.length:=by unfold Rc.line;split<;>(simp;try omega)
theorem Ln.sH{t:Dm}{l:List Rc}(h:Ln.gV t l)(c:t≠[]):∃r l',l=r::l'/\r.right=true/\Ln.iw [] [] t=some (r.fields,Ln.lines l')/\Ln.wU r.fields=r/\t=r.line++Ln.lines l'/\Ln.gV (Ln.lines l') l':=by obtain⟨h1,a⟩:=h;cases l with|nil=>exact absurd a.symm c|cons r l'=>rw[List.all_cons,Bool.and_eq_true]at h1;(have e:t=r.line++Ln.lines l':=by rw[<-a];simp[Ln.lines]);obtain⟨d,b⟩:=Rc.back r h1.1 (Ln.lines l');exact⟨r,l',rfl,h1.1,by rw[e];exact d,b,e,h1.2,rfl⟩
theorem Ln.xD(r:Rc)(l:List Rc):Ln.lines (r::l)=r.line++Ln.lines l:=by simp[Ln.lines]
theorem Ln.afe:∀(l l':List Rc)(t:Dm),Ln.gV t l->Ln.gV t l'->l=l':=by intro l;induction l with|nil=>(intro l' t h a;cases l' with|nil=>rfl|cons r l'=>have h1:=h.2;have f:=a.2;have:=Rc.zb r;(have e:Ln.lines (r::l')=[]:=by rw[f,<-h1];rfl);have:=congrArg List.length e;rw[Ln.xD,List.length_append,List.length_nil]at this;omega)|cons r l d=>intro l' t h a;(have b:t≠[]:=by intro e;have h1:=h.2;rw[e]at h1;have:=Rc.zb r;have:=congrArg List.length h1;rw[Ln.xD,List.length_append,List.length_nil]at this;omega);obtain⟨r1,l1,e1,_,f1,g,_,p1⟩:=Ln.sH h b;obtain⟨r2,i,e2,_,f2,j,_,k⟩:=Ln.sH a b;rw[f1]at f2;simp only[Option.some.injEq,Prod.mk.injEq]at f2;simp only[List.cons.injEq]at e1;obtain⟨rfl,rfl⟩:=e1;(have c:r=r2:=by rw[<-g,<-j,f2.1]);rw[e2,<-c,d i _ p1 (by rw[f2.2];exact k)]
end
section
open Shelf
def Tryz.Hi:Go.Shelf.Ren:=⟨λ|156=>40|165=>82|166=>83|169=>84|240=>147|241=>148|276=>188|277=>189|n=>n,λ|31=>27|9=>9|3=>3|4=>4|0=>0|20=>20|72=>155|76=>158|70=>153|37=>43|75=>157|127=>209|164=>189|5=>5|80=>160|n=>n,λ|n=>n⟩
theorem aiR:Go.Proofs.Lays.n156 prog Tryz.Hi:={mixed:=HW,f156:=func40.trans (congrArg some HW),f165:=func82.trans (congrArg some HW),f166:=func83.trans (congrArg some HW),f169:=func84.trans (congrArg some HW),f240:=func147.trans (congrArg some HW),f241:=func148.trans (congrArg some HW),f276:=func188.trans (congrArg some HW),f277:=func189.trans (congrArg some HW),t0:=underlying0,a0:=isAgg0,z0:=sizeOf0,v0:=zeroValue0,t3:=underlying3,a3:=isAgg3,z3:=sizeOf3,v3:=zeroValue3,t4:=underlying4,a4:=isAgg4,z4:=sizeOf4,v4:=zeroValue4,t9:=underlying9,a9:=isAgg9,z9:=sizeOf9,v9:=zeroValue9,t20:=underlying20,a20:=isAgg20,z20:=sizeOf20,v20:=zeroValue20,t31:=underlying27,a31:=isAgg27,z31:=sizeOf27,v31:=zeroValue27,t37:=underlying43,a37:=isAgg43,z37:=sizeOf43,v37:=zeroValue43,t70:=underlying153,a70:=isAgg153,z70:=sizeOf153,v70:=zeroValue153,t72:=underlying155,a72:=isAgg155,z72:=sizeOf155,v72:=zeroValue155,t75:=underlying157,a75:=isAgg157,z75:=sizeOf157,v75:=zeroValue157,t76:=underlying158,a76:=isAgg158,z76:=sizeOf158,v76:=zeroValue158,t127:=underlying209,a127:=isAgg209,z127:=sizeOf209,v127:=zeroValue209,t164:=underlying189,a164:=isAgg189,z164:=sizeOf189,v164:=zeroValue189}
theorem ai4:Builder.Extra prog Tryz.Hi:={sizeBuilder:=HW,liesBuilder:=HW,t5:=underlying5,a5:=isAgg5,z5:=sizeOf5,v5:=zeroValue5,infoByte:=HW,cellsByte:=HW,sizeByte:=HW,neB5:=by decide}
open Go.RowKit in theorem strings_Join(b o c:Nat)(a:List HM)(d:HM)(w:HA)(g:∀(j:Nat)x,a[j]?=some x->w.cell? ⟨b,o+j,none⟩=some (.string x))(h:b<w.heap.size)(i:a.length<=140737488355328)(k:a.length<=c)(f:(Lib.join (a.map (·.data.toList)) d.data.toList).length<=140737488355328):Calls prog 40 #[.slice (some ⟨b,o,none⟩) a.length c,.string d] w λe w'=>e=.returned (.string ⟨(Lib.join (a.map (·.data.toList)) d.data.toList).toArray⟩)/\Below w.heap.size w w':=Any.strings_Join aiR ai4 b o c a d w g h i k f
def akd:Go.Shelf.Ren:=⟨λ|171=>81|243=>146|246=>187|283=>216|284=>217|285=>218|286=>219|129=>231|317=>230|318=>232|319=>233|320=>234|337=>244|338=>245|n=>n,λ|3=>3|9=>9|2=>2|4=>4|171=>256|0=>0|53=>141|37=>43|5=>5|173=>259|212=>274|51=>132|20=>20|213=>275|46=>194|232=>286|233=>287|n=>n,λ|17=>5|18=>8|19=>9|n=>n⟩
theorem aiq:Go.Proofs.LaysM.n171 prog akd:={mixed:=HW,f129:=func231.trans (congrArg some HW),f171:=func81.trans (congrArg some HW),f243:=func146.trans (congrArg some HW),f246:=func187.trans (congrArg some HW),f283:=func216.trans (congrArg some HW),f284:=func217.trans (congrArg some HW),f285:=func218.trans (congrArg some HW),f286:=func219.trans (congrArg some HW),f317:=func230.trans (congrArg some HW),f318:=func232.trans (congrArg some HW),f319:=func233.trans (congrArg some HW),f320:=func234.trans (congrArg some HW),f337:=func244.trans (congrArg some HW),f338:=func245.trans (congrArg some HW),t0:=underlying0,a0:=isAgg0,z0:=sizeOf0,v0:=zeroValue0,t2:=underlying2,a2:=isAgg2,z2:=sizeOf2,v2:=zeroValue2,t3:=underlying3,a3:=isAgg3,z3:=sizeOf3,v3:=zeroValue3,t4:=underlying4,a4:=isAgg4,z4:=sizeOf4,v4:=zeroValue4,t5:=underlying5,a5:=isAgg5,z5:=sizeOf5,v5:=zeroValue5,t9:=underlying9,a9:=isAgg9,z9:=sizeOf9,v9:=zeroValue9,t20:=underlying20,a20:=isAgg20,z20:=sizeOf20,v20:=zeroValue20,t37:=underlying43,a37:=isAgg43,z37:=sizeOf43,v37:=zeroValue43,t46:=underlying194,a46:=isAgg194,z46:=sizeOf194,v46:=zeroValue194,t51:=underlying132,a51:=isAgg132,z51:=sizeOf132,v51:=zeroValue132,t53:=underlying141,a53:=isAgg141,z53:=sizeOf141,v53:=zeroValue141,t171:=underlying256,a171:=isAgg256,z171:=sizeOf256,v171:=zeroValue256,t173:=underlying259,a173:=isAgg259,z173:=sizeOf259,v173:=zeroValue259,t212:=underlying274,a212:=isAgg274,z212:=sizeOf274,v212:=zeroValue274,t213:=underlying275,a213:=isAgg275,z213:=sizeOf275,t232:=underlying286,a232:=isAgg286,z232:=sizeOf286,v232:=zeroValue286,t233:=underlying287,a233:=isAgg287,z233:=sizeOf287,v233:=zeroValue287,g17:=HW,g18:=HW,g19:=HW,i0:=HW,i2:=HW,i3:=HW,i4:=HW,i5:=HW,i9:=HW,i20:=HW,i37:=HW,i46:=HW,i51:=HW,i53:=HW,i171:=HW,i173:=HW,i212:=HW,i232:=HW,i233:=HW,m17:=HW,m18:=HW,m19:=HW}
open Go.RowKit Go.Sort Go.Lib in theorem strconv_Itoa(n:Int)(h0:-9223372036854775808<=n)(h1:n<=9223372036854775807)(w:HA)(a:Lib.TabIs prog w "internal/strconv.uint64pow10" .u64 Lib.pow10Tab):Calls prog 81 #[.int .i64 n] w λe w'=>e=.returned (.string ⟨(Lib.itoa n).toArray⟩)/\∃k os,w'=grow (w.drewN k) os:=Any.strconv_Itoa aiq n h0 h1 w a
def acU:Go.Shelf.Ren:=⟨λ|172=>143|244=>182|245=>183|247=>208|279=>209|280=>210|281=>211|282=>212|287=>227|316=>90|171=>81|205=>228|321=>242|322=>243|243=>146|246=>187|283=>216|284=>217|285=>218|286=>219|129=>231|317=>230|318=>232|319=>233|320=>234|337=>244|338=>245|n=>n,λ|9=>9|3=>3|75=>157|76=>158|4=>4|5=>5|167=>248|37=>43|0=>0|85=>249|2=>2|168=>251|53=>141|175=>268|46=>194|210=>271|127=>209|145=>280|143=>278|21=>21|171=>256|173=>259|212=>274|51=>132|20=>20|213=>275|232=>286|233=>287|80=>160|n=>n,λ|15=>3|16=>4|17=>5|18=>8|19=>9|n=>n⟩
theorem yo:Go.Proofs.LaysC.n172 prog acU:={mixed:=HW,f129:=func231.trans (congrArg some HW),f171:=func81.trans (congrArg some HW),f172:=func143.trans (congrArg some HW),f205:=func228.trans (congrArg some HW),f243:=func146.trans (congrArg some HW),f244:=func182.trans (congrArg some HW),f245:=func183.trans (congrArg some HW),f246:=func187.trans (congrArg some HW),f247:=func208.trans (congrArg some HW),f279:=func209.trans (congrArg some HW),f280:=func210.trans (congrArg some HW),f281:=func211.trans (congrArg some HW),f282:=func212.trans (congrArg some HW),f283:=func216.trans (congrArg some HW),f284:=func217.trans (congrArg some HW),f285:=func218.trans (congrArg some HW),f286:=func219.trans (congrArg some HW),f287:=func227.trans (congrArg some HW),f316:=func90.trans (congrArg some HW),f317:=func230.trans (congrArg some HW),f318:=func232.trans (congrArg some HW),f319:=func233.trans (congrArg some HW),f320:=func234.trans (congrArg some HW),f321:=func242.trans (congrArg some HW),f322:=func243.trans (congrArg some HW),f337:=func244.trans (congrArg some HW),f338:=func245.trans (congrArg some HW),t0:=underlying0,a0:=isAgg0,z0:=sizeOf0,v0:=zeroValue0,t2:=underlying2,a2:=isAgg2,z2:=sizeOf2,v2:=zeroValue2,t3:=underlying3,a3:=isAgg3,z3:=sizeOf3,v3:=zeroValue3,t4:=underlying4,a4:=isAgg4,z4:=sizeOf4,v4:=zeroValue4,t5:=underlying5,a5:=isAgg5,z5:=sizeOf5,v5:=zeroValue5,t9:=underlying9,a9:=isAgg9,z9:=sizeOf9,v9:=zeroValue9,t20:=underlying20,a20:=isAgg20,z20:=sizeOf20,v20:=zeroValue20,t21:=underlying21,a21:=isAgg21,z21:=sizeOf21,v21:=zeroValue21,t37:=underlying43,a37:=isAgg43,z37:=sizeOf43,v37:=zeroValue43,t46:=underlying194,a46:=isAgg194,z46:=sizeOf194,v46:=zeroValue194,t51:=underlying132,a51:=isAgg132,z51:=sizeOf132,v51:=zeroValue132,t53:=underlying141,a53:=isAgg141,z53:=sizeOf141,v53:=zeroValue141,t75:=underlying157,a75:=isAgg157,z75:=sizeOf157,v75:=zeroValue157,t76:=underlying158,a76:=isAgg158,z76:=sizeOf158,v76:=zeroValue158,t85:=underlying249,a85:=isAgg249,z85:=sizeOf249,v85:=zeroValue249,t127:=underlying209,a127:=isAgg209,z127:=sizeOf209,v127:=zeroValue209,t143:=underlying278,a143:=isAgg278,z143:=sizeOf278,v143:=zeroValue278,t145:=underlying280,a145:=isAgg280,z145:=sizeOf280,v145:=zeroValue280,t167:=underlying248,a167:=isAgg248,z167:=sizeOf248,v167:=zeroValue248,t168:=underlying251,a168:=isAgg251,z168:=sizeOf251,v168:=zeroValue251,t171:=underlying256,a171:=isAgg256,z171:=sizeOf256,v171:=zeroValue256,t173:=underlying259,a173:=isAgg259,z173:=sizeOf259,v173:=zeroValue259,t175:=underlying268,a175:=isAgg268,z175:=sizeOf268,v175:=zeroValue268,t210:=underlying271,a210:=isAgg271,z210:=sizeOf271,v210:=zeroValue271,t212:=underlying274,a212:=isAgg274,z212:=sizeOf274,v212:=zeroValue274,t213:=underlying275,a213:=isAgg275,z213:=sizeOf275,t232:=underlying286,a232:=isAgg286,z232:=sizeOf286,v232:=zeroValue286,t233:=underlying287,a233:=isAgg287,z233:=sizeOf287,v233:=zeroValue287,g15:=HW,g16:=HW,g17:=HW,g18:=HW,g19:=HW,t80:=underlying160,a80:=isAgg160,z80:=sizeOf160,v80:=zeroValue160,i0:=HW,i2:=HW,i3:=HW,i4:=HW,i5:=HW,i9:=HW,i20:=HW,i21:=HW,i37:=HW,i46:=HW,i51:=HW,i53:=HW,i75:=HW,i76:=HW,i80:=HW,i85:=HW,i127:=HW,i143:=HW,i145:=HW,i167:=HW,i168:=HW,i171:=HW,i173:=HW,i175:=HW,i210:=HW,i212:=HW,i232:=HW,i233:=HW,m15:=HW,m16:=HW,m17:=HW,m18:=HW,m19:=HW,c0:=HW,c2:=HW,c3:=HW,c4:=HW,c5:=HW,c9:=HW,c20:=HW,c21:=HW,c37:=HW,c46:=HW,c51:=HW,c53:=HW,c75:=HW,c76:=HW,c80:=HW,c85:=HW,c127:=HW,c143:=HW,c145:=HW,c167:=HW,c168:=HW,c171:=HW,c173:=HW,c175:=HW,c210:=HW,c212:=HW,c213:=HW,c232:=HW,c233:=HW}
open Go.RowKit in theorem strconv_Atoi_ok(s:HM)(a:s.size<=9223372036854775806)(v:Int)(h:Lib.atoiAll s.data.toList=.ok v)(w:HA):Calls prog 143 #[.string s] w λe w'=>e=.returned (.tuple #[.int .i64 v,.nilIface])/\(w'=w\/∃t,w'=Lib.bytesWorld w 5 t):=Any.strconv_Atoi_ok yo s a v h w
def Tryz.VW:Go.Shelf.Ren:=⟨λ|145=>36|220=>73|219=>141|217=>178|225=>179|224=>180|267=>181|266=>206|314=>207|n=>n,λ|9=>9|4=>4|59=>93|3=>3|5=>5|46=>194|146=>246|51=>132|n=>n,λ|1=>2|n=>n⟩
theorem aj5:Go.Proofs.Lays.n145 prog Tryz.VW:={mixed:=HW,f145:=func36.trans (congrArg some HW),f217:=func178.trans (congrArg some HW),f219:=func141.trans (congrArg some HW),f220:=func73.trans (congrArg some HW),f224:=func180.trans (congrArg some HW),f225:=func179.trans (congrArg some HW),f266:=func206.trans (congrArg some HW),f267:=func181.trans (congrArg some HW),f314:=func207.trans (congrArg some HW),t3:=underlying3,a3:=isAgg3,z3:=sizeOf3,v3:=zeroValue3,t4:=underlying4,a4:=isAgg4,z4:=sizeOf4,v4:=zeroValue4,t5:=underlying5,a5:=isAgg5,z5:=sizeOf5,v5:=zeroValue5,t9:=underlying9,a9:=isAgg9,z9:=sizeOf9,v9:=zeroValue9,t46:=underlying194,a46:=isAgg194,z46:=sizeOf194,v46:=zeroValue194,t51:=underlying132,a51:=isAgg132,z51:=sizeOf132,v51:=zeroValue132,t59:=underlying93,a59:=isAgg93,z59:=sizeOf93,v59:=zeroValue93,t146:=underlying246,a146:=isAgg246,z146:=sizeOf246,v146:=zeroValue246,g1:=HW}
open Go.RowKit Go.Lib in theorem strings_Cut(s a:HM)(m:Int)(w:HA)(c:s.size<4294967281)(b:w.cell? ⟨2,0,none⟩=some (.int .i64 m)):Calls prog 36 #[.string s,.string a] w λe w'=>e=.returned (.tuple #[.string ⟨(Lib.cut s.data.toList a.data.toList).1.toArray⟩,.string ⟨(Lib.cut s.data.toList a.data.toList).2.1.toArray⟩,.bool (Lib.cut s.data.toList a.data.toList).2.2])/\∃n,w'=w.drewN n:=Any.strings_Cut aj5 s a m w c b
def aak:Go.Shelf.Ren:=⟨λ|146=>75|221=>145|268=>184|138=>185|143=>186|195=>213|197=>214|218=>215|219=>141|260=>229|217=>178|225=>179|224=>180|267=>181|266=>206|314=>207|n=>n,λ|9=>9|31=>27|3=>3|4=>4|0=>0|105=>254|21=>21|5=>5|46=>194|119=>281|139=>284|138=>283|146=>246|51=>132|n=>n,λ|1=>2|3=>6|4=>7|n=>n⟩
theorem aaM:Go.Proofs.Lays.n146 prog aak:={mixed:=HW,f138:=func185.trans (congrArg some HW),f143:=func186.trans (congrArg some HW),f146:=func75.trans (congrArg some HW),f195:=func213.trans (congrArg some HW),f197:=func214.trans (congrArg some HW),f217:=func178.trans (congrArg some HW),f218:=func215.trans (congrArg some HW),f219:=func141.trans (congrArg some HW),f221:=func145.trans (congrArg some HW),f224:=func180.trans (congrArg some HW),f225:=func179.trans (congrArg some HW),f260:=func229.trans (congrArg some HW),f266:=func206.trans (congrArg some HW),f267:=func181.trans (congrArg some HW),f268:=func184.trans (congrArg some HW),f314:=func207.trans (congrArg some HW),t0:=underlying0,a0:=isAgg0,z0:=sizeOf0,v0:=zeroValue0,t3:=underlying3,a3:=isAgg3,z3:=sizeOf3,v3:=zeroValue3,t4:=underlying4,a4:=isAgg4,z4:=sizeOf4,v4:=zeroValue4,t5:=underlying5,a5:=isAgg5,z5:=sizeOf5,v5:=zeroValue5,t9:=underlying9,a9:=isAgg9,z9:=sizeOf9,v9:=zeroValue9,t21:=underlying21,a21:=isAgg21,z21:=sizeOf21,v21:=zeroValue21,t31:=underlying27,a31:=isAgg27,z31:=sizeOf27,v31:=zeroValue27,t46:=underlying194,a46:=isAgg194,z46:=sizeOf194,v46:=zeroValue194,t51:=underlying132,a51:=isAgg132,z51:=sizeOf132,v51:=zeroValue132,t105:=underlying254,a105:=isAgg254,z105:=sizeOf254,v105:=zeroValue254,t119:=underlying281,a119:=isAgg281,z119:=sizeOf281,t138:=underlying283,a138:=isAgg283,z138:=sizeOf283,v138:=zeroValue283,t139:=underlying284,a139:=isAgg284,z139:=sizeOf284,v139:=zeroValue284,t146:=underlying246,a146:=isAgg246,z146:=sizeOf246,v146:=zeroValue246,g1:=HW,g3:=HW,g4:=HW}
open Go.RowKit Go.Lib in theorem strings_Split(s a:HM)(m:Int)(w:HA)(c:s.size<4294967281)(b:w.cell? ⟨2,0,none⟩=some (.int .i64 m))(h1:1<=a.size):Calls prog 75 #[.string s,.string a] w λe w'=>e=.returned (.slice (some ⟨w.heap.size,0,none⟩) (Lib.countB s a+1) (Lib.countB s a+1))/\w'=w.alloc (.cells ((Lib.splitB a 0 (Lib.countB s a) s).map Value.string).toArray 9):=Any.strings_Split aaM HW s a m w c b h1
end
section
open RowKit
structure bp(w:HA):Prop where
 be:10<=w.heap.size
 vd:∀j:Nat,j<3->w.cell? ⟨0,j,none⟩=some (.string ⟨(Ln.verdict (j:Int)).toArray⟩)
 sd:∀j:Nat,1<=j->j<=4->w.cell? ⟨1,j,none⟩=some (.string ⟨(Ln.eb (j:Int)).toArray⟩)
 s0:w.cell? ⟨1,0,none⟩=some (.string ⟨#[]⟩)
 pH:Lib.TabIs prog w "internal/strconv.uint64pow10" .u64 Lib.pow10Tab
 max:∃m,w.cell? ⟨2,0,none⟩=some (.int .i64 m)
theorem tQ:prog.globalNamed "internal/strconv.uint64pow10"=some 5:=HW
theorem bp.below{B:Nat}{w':HA}(h:bp w)(n:10<=B)(b:Below B w w'):bp w':=by have e:∀(g i:Nat)v,g<10->w.cell? ⟨g,i,none⟩=some v->w'.cell? ⟨g,i,none⟩=some v:=λg i v l k=>(b.cell (p:=⟨g,i,none⟩) (by show g<B;omega)).trans k;refine⟨Nat.le_trans h.be b.size,λj d=>e _ _ _ J1 (h.vd j d),λj h1 f=>e _ _ _ J1 (h.sd j h1 f),e _ _ _ J1 h.s0,?_,?_⟩;(·have a:=h.pH;unfold Lib.TabIs World.var? at a⊢;rw[tQ]at a⊢;simp only[Option.bind_some]at a⊢;rw[b.block 5 (by show 5<B;omega)];exact a);·obtain⟨m,c⟩:=h.max;exact⟨m,e _ _ _ J1 c⟩
theorem Rc.sU(r:Rc):r.line=Lib.join r.fields [9]++[10]:=by unfold Rc.line Rc.fields;split;(·simp[Lib.join,List.intercalate,List.intersperse]);·simp[Lib.join,List.intercalate,List.intersperse]
theorem S4:∀(f n:Nat),n<10^(f+1)->Ln.cX f n=Lib.decDigits n:=by intro f;induction f with|zero=>intro n h;rw[Lib.decDigits,dif_pos (by simpa using h)];rfl|succ f a=>intro n h;rw[Lib.decDigits];unfold Ln.cX;by_cases h10:n<10;(·rw[if_pos h10,dif_pos h10]);·rw[if_neg h10,dif_neg h10,a (n/10) (by rw[Nat.pow_succ]at h;omega)]
theorem BU{n:Int}(h0:0<=n)(h1:n<=4096):Lib.itoa n=Ln.cX 3 n.toNat:=by rw[Lib.itoa,if_neg HU,S4 3 n.toNat HU]
theorem vj(a:List Dm):(a.map (λx=>(⟨x.toArray⟩:HM))).map (·.data.toList)=a:=by rw[List.map_map];(conv=>rhs;rw[<-List.map_id a]);exact List.map_congr_left λx _=>by simp
theorem Fe(d c:Nat)(a:List Dm)(w:HA)(k:∀(j:Nat)x,a[j]?=some x->w.cell? ⟨d,j,none⟩=some (.string ⟨x.toArray⟩))(i:d<w.heap.size)(p:a.length<=100)(l:a.length<=c)(g:(Lib.join a [9]).length<=1000000):Calls prog 80 #[.slice (some ⟨d,0,none⟩) a.length c] w λe w'=>e=.returned (.string ⟨(Lib.join a [9]++[10]).toArray⟩)/\Below w.heap.size w w':=by(have n:Hid (Calls prog 40 #[.slice (some ⟨d,0,none⟩) a.length c,.string ⟨#[9]⟩] w λe w'=>e=.returned (.string ⟨(Lib.join a [9]).toArray⟩)/\Below w.heap.size w w'):=by have h:=strings_Join d 0 c (a.map (λx=>(⟨x.toArray⟩:HM))) ⟨#[9]⟩ w (λj x b=>by rw[List.getElem?_map]at b;rw[Nat.zero_add];cases f:a[j]? with|none=>rw[f]at b;simp at b|some y=>rw[f]at b;simp at b;subst b;exact k j y f) i (by rw[List.length_map];omega) (by rw[List.length_map];omega) (by rw[vj];exact Nat.le_trans g J1);rw[List.length_map,vj]at h;exact h);have q:=λo=>tT o (Lib.join a [9]) [10] (by simp;omega);clear k i l g;generalize Lib.join a [9]=J at*;go_enter func80,ntmps80;go_wp2_with fail;refine n.out.mono ?_;rintro e w1⟨rfl,m⟩;go_wp2;go_ret;exact⟨rfl,m⟩
theorem acf{H:Type}{enc:TypeId×HH->H}{q:Nat->Bool}{o:Bool}{a:Nat}{cs:FV}{p:List MemPlace}(l:P.underlying t=some (.array n e))(y:P.underlying e=some .string)(k:P.cellsOf e=1)(m:P.cellsOf t=n)(h:DataW.trod enc P w base q o a t cs=some (.agg (ss.map λs=>.lit (.string s)),p)):cs=ss.map λs=>Value.string ⟨s.toArray⟩:=by cases a with|zero=>simp[DataW.trod]at h|succ a=>simp only[DataW.trod,l,k,m,Nat.mul_one]at h;split at h;(·rename_i A;obtain⟨c,f,r⟩:=Option.map_eq_some_iff.1 h;(have g:c.map (·.1)=ss.map λs=>(DataW.lit (.string s):DataW H):=by have:=congrArg Prod.fst r;simpa using this);(have B:c.length=n:=by simpa using Lib.mapM_length f);(have C:ss.length=n:=by have:=congrArg List.length g;simp at this;omega);apply List.ext_getElem?;intro i;by_cases hi:i<n;(·obtain⟨b,v,u⟩:=Lib.mapM_at f i i (by simp[hi]);obtain⟨z,x,rfl,_⟩:=DataW.trod_string y u;(have h1:cs[i]?=some (.string z):=by have:=congrArg (·[0]?) x;simpa[List.getElem?_take,List.getElem?_drop]using this);(have d:(c.map (·.1))[i]?=some (DataW.lit (.string z.data.toList):DataW H):=by simp[v]);rw[g]at d;simp only[List.getElem?_map,Option.map_eq_some_iff,DataW.lit.injEq,Lit.string.injEq]at d;obtain⟨D,j,rfl⟩:=d;simp[h1,j]);·rw[List.getElem?_eq_none HU,List.getElem?_eq_none (by simp;omega)]);·cases h
theorem AL{name:String}{rest:List (String×DataW Unit)}{g:Nat}(a:P.globalNamed name=some g)(c:(P.globals[g]?).map (·.type)=some t)(d:P.underlying t=some (.array n e))(f:P.underlying e=some .string)(j:P.cellsOf e=1)(k:P.cellsOf t=n)(h:laidMet P ((name,.agg (ss.map λs=>.lit (.string s)))::rest) W)(i:Nat)(l:i<ss.length):W.cell? ⟨g,i,none⟩=some (.string ⟨(ss.getD i []).toArray⟩):=by obtain⟨ps,⟨g',w,cs,v,p,q,r,o,m,u,_,_⟩,_⟩:=h;obtain rfl:=Option.some.inj (a.symm.trans r);obtain rfl:=Option.some.inj (c.symm.trans o);(have b:W.var? P name=some (ss.map λs=>Value.string ⟨s.toArray⟩).toArray:=by rw[m,<-acf d f j k u]);have:=World.var?_cell a b i;simpa[List.getD,l]using this
theorem RU(b:laidMetH prog py W)(c:W.ShapedOpen prog):bp W:=by
 rw[MakeChecks.laidMetH_plain _ _ _ HW]at b;have d:=b.tail.tail;have a:=d.tail.tail.tail.tail;refine⟨?_,?_,?_,?_,?_,?_⟩;·obtain⟨cs,f,_⟩:=c.1 9 (Array.replicate 64 (.int .u8 0)) 287 (by decide+kernel) HW;have h1:=(J2.1 f).1;omega
 ·intro j e;have:=AL (ss:=[[117,110,109,97,112,112,101,100],[97,108,105,103,110,101,100],[97,109,98,105,103,117,111,117,115]]) (g:=0) HW HW underlying151 underlying9 HW HW a j e;rw[this];match j,e with|0,_=>rfl|1,_=>rfl|2,_=>rfl
 ·intro j i h;have:=AL (ss:=[[],[79,84],[79,66],[67,84,79,84],[67,84,79,66]]) (g:=1) HW HW underlying152 underlying9 HW HW a.tail j (by simp;omega);rw[this];match j,i,h with|1,_,_=>rfl|2,_,_=>rfl|3,_,_=>rfl|4,_,_=>rfl
 ·exact AL (ss:=[[],[79,84],[79,66],[67,84,79,84],[67,84,79,66]]) (g:=1) HW HW underlying152 underlying9 HW HW a.tail 0 J1
 ·exact Lib.tabIs_of_head (g:=5) HW HW underlying274 underlying141 HW HW d
 ·exact cell_of_shapedOpen_int (g:=2) (t:=3) (zero:=#[.int .i64 0]) c (by decide+kernel) HW HW HW HW underlying3
end
section
open Conc ConcM
theorem Zz{H:Type}{enc:TypeId×HH->H}{C:Checked}{os:Os}{f:FuncId}{fn:Func}{s:ChangeSpec}{c:List PathCond}{a:Bool}{X:HA->DS->Prop}(w0:HA)(args:DS)(b:Nat)(h:w0.os=os)(g:(w0.forCall (λ_ _=>0) ⟨#[],args,[]⟩).Shaped C.prog)(d:Input.okWideB C.prog (w0.forCall (λ_ _=>0) ⟨#[],args,[]⟩) f ⟨#[],args,[]⟩=true)(j:s.preB enc C.prog fn c a (w0.forCall (λ_ _=>0) ⟨#[],args,[]⟩).memory args b=true)(k:s.sizedB enc C.prog fn a (w0.forCall (λ_ _=>0) ⟨#[],args,[]⟩).memory args b=true)(e:X (w0.forCall (λ_ _=>0) ⟨#[],args,[]⟩).memory args):∃(w:HA)(tape:Tape)(i:Input),w.os=os/\(w.forCall tape i).Shaped C.prog/\i.vars=[]/\Input.okWide C.prog (w.forCall tape i) .any w.heap.size f i/\((s.pre enc C.prog fn c a (w.forCall tape i).memory i.args/\X (w.forCall tape i).memory i.args)/\sizedMet enc C.prog fn (OpenSpec.ofChange s) a (w.forCall tape i).memory i.args)/\({calm:=true}:Assume).holds C.prog (lone (Frame.enter C.prog f i.args .normal) [] (w.forCall tape i)):=⟨w0,λ_ _=>0,⟨#[],args,[]⟩,h,g,(Input.okWide_of_okWideB (base:=0) d).1,(Input.okWide_of_okWideB d).2,⟨⟨ChangeSpec.pre_of_preB j,e⟩,sizedMet_of_sizedB k⟩,by simp only[Assume.holds];exact⟨by simp,λ_ _ _ _=>rfl,by simp,by simp,by simp⟩⟩
theorem aat(Lk:Looks){p:Pinned}{s:OpenSpec}{c:OpenClaim}(b:List LaidKind)(e:Bool)(a:Bool×String)(d:Bool)(i:c.holds p s)(k:c.wfByText s=true)(l:c.laidByTextAt Lk p b e)(m:c.start=.entering)(n:c.noBlocks=false/\c.again=false)(o:p.checked.prog.mainIs=some (a.1,a.2.toList))(q:(!a.1&&a.2.isEmpty&&!d)=false)(r:∀f fn,p.checked.prog.funcNamed c.func=some f->p.checked.prog.funcs[f]?=some fn->d=p.checked.prog.looks []/\∀(j:Nat)t,fn.params[j]?=some t->p.checked.prog.wantsStandIn t=false)(u:true=c.goesBy p.checked.prog):Claim7.holds p (.plain s) {stood:={row:=c,standIns:=[],harness:=a,looks:=d},kinds:=[],alts:=[],goes:=true,laidByText:=true,laidKinds:=b,laidTests:=e,laidLooks:=Lk}:=by(have v:Claim7.isSixth {stood:={row:=c,standIns:=[],harness:=a,looks:=d},kinds:=[]}=false:=by simpa[Claim7.isSixth]using q);exact⟨Claim7.tied_new_at Lk b e (Claim7.new_of_sixth i a d m n o v r) k,(λD g=>by cases g),l,(λh=>by cases h),u⟩
end
