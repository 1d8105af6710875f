/- Agree, a part. -/
import Derived.Laws.Sem
import Derived.Test.YtjebhbopmfcopaaGreatDoorZD
namespace Go.Proofs.YtjebhbopmfcopaaGreatDoor
open Go.Proofs
noncomputable section
variable{a a' b b':Addr}{ps ps':Array (Nat×HH)}{ts:Array TypeId}{c:DS}{t:TypeId}{v x x' y y':HH}
namespace Co
def sV(P:Program):Bool:=P.types.all λi=>match i.desc with|.named n _=>n != "sync.copyChecker"|_=>true
def od(P:Program)(x:Bool):Nat->TypeId->Bool|0,_=>false|n+1,t=>match P.underlying t with|some .bool|some .string|some (.slice _)|some (.func _ _ _)=>true|some (.int _)=>(match P.info? t with|some i=>(match i.desc with|.named n _=>n != "sync.copyChecker"|_=>true)|none=>true)|some (.pointer _)=>x|some (.struct a)=>a.all λf=>od P x n f.type|some (.array _ e)=>od P x n e|some (.interface _)=>x&&sV P|_=>false
def vu(P:Program)(K:Cm)(t:TypeId):Bool:=od P K.x 20 t
section
variable{P:Program}{K:Cm}{r:Rn}
theorem aiO{j:Type}{f:TypeInfo->Sem j}(h:∀i,P.info? t=some i->dY P (f i)):dY P (typeInfo t>>=f):=by
 have g:∀w,(typeInfo t).run P w=match P.info? t with|some i=>.ok i w|none=>.halt (.stuck "no such type") w:=by intro w;show(Sem.bind (Sem.program Sem.pure) _).run P w=_;simp only[Sem.bind,Sem.run];cases P.info? t<;>rfl
 refine⟨λw b w' e=>?_,λw d=>?_⟩;·have a:((typeInfo t).bind f).run P w=.ok b w':=e;rw[run_bind,g]at a;cases c:P.info? t with|none=>rw[c]at a;cases a|some i=>rw[c]at a;exact(h i c).1 _ _ _ a
 ·(show match((typeInfo t).bind f).run P w with|.ok _ w'=>aT w'|.halt h w'=>Plain h/\aT w');rw[run_bind,g];cases c:P.info? t with|none=>exact⟨trivial,d⟩|some i=>exact(h i c).2 w d
theorem Pm(t:TypeId):dm P (typeStr t):=by unfold typeStr;refine gH (MX t) λi=>?_;show dm P (if i.str.isEmpty=true then _ else _);split;(·exact(eJ _).2);·exact gi _
theorem Kn(d:DR P.globals.size r a a')(c:DR P.globals.size r b b'):SR P K aO r (Op.twoPlaces a b) (Op.twoPlaces a' b'):=by unfold Op.twoPlaces;refine ae gr ?_;rintro r1 p q e⟨g,i⟩;rw[g,i];by_cases hc:(a.block !=b.block||decide (a.block>=P.globals.size))=true;(·rw[if_pos hc];exact db (eJ _) _);·have j:=d;have f:=c;obtain⟨x,h1,l,rfl⟩:=j;obtain⟨y,u,k,rfl⟩:=f;simp only[Bool.or_eq_true,bne_iff_ne,ne_eq,decide_eq_true_eq,not_or,Decidable.not_not]at hc;have o:x=a.block:=l.elim (λh=>absurd h hc.2) id;have t:y=b.block:=k.elim (λh=>absurd (by rw[hc.1];exact h) hc.2) id;subst o t;refine(?_:SR P K aO r1 (if(a.block !=b.block||decide (a.block>=P.globals.size))=true then _ else _) (if(a.block !=b.block||decide (a.block>=P.globals.size))=true then _ else _));rw[if_neg (by simp;exact⟨hc.1,HU⟩)];refine ae (sN (d.mono e)) ?_;rintro r2 m _ s rfl;refine ae (sN ((c.mono e).mono s)) ?_;rintro r3 n _ v rfl;exact af rfl
theorem Xz(k:IntKind)(d:DR P.globals.size r a a')(c:DR P.globals.size r b b'):SR P K (VR P.globals.size) r (Op.addrSub k a b) (Op.addrSub k a' b'):=by unfold Op.addrSub;refine ae (Kn d c) ?_;rintro r1⟨x,y⟩_ e rfl;exact af (.int _ _)
theorem wV(o:BinOp)(d:DR P.globals.size r a a')(c:DR P.globals.size r b b'):SR P K (VR P.globals.size) r (Op.addrCmp o a b) (Op.addrCmp o a' b'):=by unfold Op.addrCmp;refine ae (Kn d c) ?_;rintro r1⟨x,y⟩_ e rfl;cases o<;>first|exact af (.bool _)|exact bw _ _
theorem uP(c:K.x=true)(h:DR P.globals.size r a a'):SR P K aO r (frozen a) (frozen a'):=by obtain⟨b,h1,_,rfl⟩:=h;exact .frozen c a b h1 λ_=>.pure rfl
theorem DR.at{G:Nat}(h:DR G r a a')(n:Nat):DR G r ⟨a.block,n,none⟩ ⟨a'.block,n,none⟩:=by obtain⟨b,h1,c,rfl⟩:=h;exact⟨b,h1,c,rfl⟩
theorem Ik(d:K.x=true)(h:DR P.globals.size r a a'):SR P K aO r (stringish a) (stringish a'):=by unfold stringish;refine ae (uP d h) ?_;rintro r1 f _ c rfl;cases f with|true=>exact af rfl|false=>have g:=h.mono c;obtain⟨b,h1,_,rfl⟩:=h;simp only[Bool.false_eq_true,if_false];refine ae (iQ (c _ _ h1)) ?_;rintro r2 s _ e rfl;cases s with|none=>exact af rfl|some x=>exact uP d ((g.mono e).at x.2)
theorem VU(l:K.x=true)(m:DR P.globals.size r a a')(k:DR P.globals.size r b b'):SR P K aO r (mayBeOne a b) (mayBeOne a' b'):=by unfold mayBeOne;refine ae (Ik l m) ?_;rintro r1 f _ i rfl;refine ae (Ik l (k.mono i)) ?_;rintro r2 g _ j rfl;(have n:∀{r3:Rn}{c e:Addr},DR P.globals.size r3 c e->SR P K aO r3 (do pure ((<-shape c.block)matches some (_,0)):Sem Bool) (do pure ((<-shape e.block)matches some (_,0)):Sem Bool):=by intro r3 c e h;obtain⟨d,h1,_,rfl⟩:=h;refine ae (iQ h1) ?_;rintro o s _ _ rfl;exact af rfl);refine ae (n ((m.mono i).mono j)) ?_;rintro r3 x _ p rfl;refine ae (n (((k.mono i).mono j).mono p)) ?_;rintro o y _ q rfl;exact af rfl
theorem Jz (e : K.x = true) (c : DR P.globals.size r a a') (d : DR P.globals.size r b b') : SR P K aO r (sameAddr a b) (sameAddr a' b') := by
  have v := c
  have u := d
  obtain ⟨x, h1, _, e1⟩ := v
  obtain ⟨y, s, _, e2⟩ := u
  unfold sameAddr
  refine SR.pU (a := a.block) (b := b.block) (a' := a'.block) (b' := b'.block) (by rw [e1]; exact h1) (by rw [e2]; exact s)
    (k := fun t => if t = true then pure (a == b) else do
      if (← frozen a) && (← frozen b) then unsupported .addressObserved
      noView a
      noView b
      if ← mayBeOne a b then return (← choose (.extern "sameAddr.stringBytes" 2)) == 1
      pure false)
    (k' := fun t => if t = true then pure (a' == b') else do
      if (← frozen a') && (← frozen b') then unsupported .addressObserved
      noView a'
      noView b'
      if ← mayBeOne a' b' then return (← choose (.extern "sameAddr.stringBytes" 2)) == 1
      pure false) ?_
  intro t
  cases t with
  | true => exact SR.test c d (k := fun z => pure z) (k' := fun z => pure z) fun z => af rfl
  | false =>
    simp only [Bool.false_eq_true, if_false]
    refine ae (uP e c) ?_
    rintro r1 f _ i rfl
    refine ae (uP e (d.mono i)) ?_
    rintro r2 g _ o rfl
    have rest : ∀ {r3 : Rn}, r2.le r3 → SR P K aO r3 (do
        noView a
        noView b
        if ← mayBeOne a b then return (← choose (.extern "sameAddr.stringBytes" 2)) == 1
        pure false) (do
        noView a'
        noView b'
        if ← mayBeOne a' b' then return (← choose (.extern "sameAddr.stringBytes" 2)) == 1
        pure false) := by
      intro r3 p
      have j := ((c.mono i).mono o).mono p
      have l := ((d.mono i).mono o).mono p
      refine ae (zi j) ?_
      rintro w _ _ h _
      refine ae (zi (l.mono h)) ?_
      rintro A _ _ q _
      refine ae (VU e ((j.mono h).mono q) ((l.mono h).mono q)) ?_
      rintro C m _ D rfl
      cases m with
      | true =>
        refine ae (pb _) ?_
        rintro E n _ _ rfl
        exact af rfl
      | false => exact af rfl
    cases B : (f && g) with
    | true => exact db (eJ _) _
    | false => exact rest (Rn.le_refl _)
theorem FM{d a:Type}{f e:d->a->Sem (ForInStep a)}:∀(l:List d)(r:Rn)(s:a),(∀r1 x s,r.le r1->SR P K aO r1 (f x s) (e x s))->SR P K aO r (forIn l s f) (forIn l s e)|[],r,s,_=>by rw[List.forIn_nil];exact af rfl|x::l,r,s,c=>by rw[List.forIn_cons,List.forIn_cons];refine ae (c r x s (Rn.le_refl _)) ?_;rintro r1 y _ g rfl;cases y with|done b=>exact af rfl|yield b=>exact FM l r1 b λr2 x s h=>c r2 x s (Rn.le_trans g h)
theorem FH{d a:Type}{f e:d->a->Sem (ForInStep a)}:∀(l:List d)(r:Rn)(s:a),(∀r1 x s,x∈l->r.le r1->SR P K aO r1 (f x s) (e x s))->SR P K aO r (forIn l s f) (forIn l s e)|[],r,s,_=>by rw[List.forIn_nil];exact af rfl|x::l,r,s,c=>by rw[List.forIn_cons,List.forIn_cons];refine ae (c r x s HY (Rn.le_refl _)) ?_;rintro r1 y _ g rfl;cases y with|done b=>exact af rfl|yield b=>exact FH l r1 b λr2 x s i h=>c r2 x s (by simp[i]) (Rn.le_trans g h)
theorem afd{b:TypeId->Option TypeInfo}{a:Array Field}{i:TypeInfo}(h:Made.reckonStruct b a=some i):∃out,i.desc=.struct out:=by unfold Made.reckonStruct at h;simp only[Option.bind_eq_bind,Option.bind_eq_some_iff,Option.pure_def]at h;obtain⟨st,_,h⟩:=h;split at h<;>(simp only[Option.some.injEq]at h;subst h;exact⟨_,rfl⟩)
theorem reckon_desc{g:TypeId->Option TypeInfo}{d:TypeDesc}{i:TypeInfo}(h:Made.reckon g d=some i):∀n r,i.desc≠.named n r:=by intro n r e;unfold Made.reckon at h;cases d with|struct o=>obtain⟨out,f⟩:=afd h;rw[f]at e;cases e|pointer t=>simp only[Option.bind_eq_bind,Option.bind_eq_some_iff,Option.pure_def]at h;obtain⟨j,_,h⟩:=h;split at h;(·cases h);(·split at h;(·cases h);·simp only[Option.bind_eq_some_iff,Option.some.injEq]at h;obtain⟨_,_,h⟩:=h;subst h;cases e);·simp only[Option.bind_eq_some_iff,Option.some.injEq]at h;obtain⟨_,_,h⟩:=h;subst h;cases e|slice t|chan l t|array m t=>simp only[Option.bind_eq_bind,Option.bind_eq_some_iff,Option.pure_def,Option.some.injEq]at h;obtain⟨_,_,_,_,h⟩:=h;subst h;cases e|map k t=>simp only[Option.bind_eq_bind,Option.bind_eq_some_iff,Option.pure_def,Option.some.injEq]at h;obtain⟨_,_,_,_,_,_,_,_,h⟩:=h;subst h;cases e|func a b c=>simp only[Option.bind_eq_bind,Option.bind_eq_some_iff,Option.pure_def,Option.some.injEq]at h;obtain⟨_,_,h⟩:=h;subst h;cases e|_=>cases h
theorem OX{P:Program}{i:TypeInfo}{n:String}{r:TypeId}(h:P.info? t=some i)(e:i.desc=.named n r):i∈P.types:=by unfold Tables.info? at h;split at h;(·exact Array.mem_of_getElem? h);·exfalso;rename_i a;unfold Made.depth Made.infoAt at h;rw[if_neg a,Option.bind_eq_some_iff]at h;obtain⟨d,_,h⟩:=h;exact reckon_desc h n r e
theorem Lh : ∀ (d : Nat) {n : Nat} {t : TypeId} {r : Rn} {x x' y y' : HH}, (od P K.x n t = true ∨ (K.x = true ∧ sV P = true)) → VR P.globals.size r x x' → VR P.globals.size r y y' → SR P K aO r (Op.equalIn d t x y) (Op.equalIn d t x' y') := by
  intro d
  induction d with
  | zero => intro n t r x x' y y' _ _ _; exact bw _ _
  | succ d L =>
  intro n t r x x' y y' B j g
  unfold Op.equalIn
  refine ae (bW t) ?_
  rintro r1 dd _ v ⟨rfl, hd⟩
  have F : ∀ {Q : Prop}, (∀ m, (match some dd with
      | some .bool | some .string | some (.slice _) | some (.func _ _ _) => true
      | some (.int _) => match P.info? t with
        | some i => match i.desc with
          | .named n _ => n != "sync.copyChecker"
          | _ => true
        | none => true
      | some (.pointer _) => K.x
      | some (.struct M) => M.all fun f => od P K.x m f.type
      | some (.array _ e) => od P K.x m e
      | some (.interface _) => K.x && sV P
      | _ => false) = true → Q) → (K.x = true ∧ sV P = true → Q) → Q := by
    intro Q h1 o
    rcases B with B | B
    · cases n with
      | zero => cases B
      | succ n =>
        unfold od at B
        rw [hd] at B
        exact h1 n B
    · exact o B
  cases dd with
  | bool | string | slice e | func a b c => cases j <;> cases g <;> first | exact af rfl | exact ak _ _
  | pointer e =>
    cases j with
    | ptr a b h D =>
      cases g with
      | ptr a2 E o U =>
        have a9 : DR P.globals.size r a { a with block := b } := ⟨b, h, D, rfl⟩
        have fc : DR P.globals.size r a2 { a2 with block := E } := ⟨E, o, U, rfl⟩
        refine ae (eP e) ?_
        rintro r2 m _ A rfl
        by_cases hm : m ≠ 0
        · rw [if_pos hm, if_pos hm]
          exact Jz (F (fun _ h => h) fun h => h.1) ((a9.mono v).mono A) ((fc.mono v).mono A)
        · rw [if_neg hm, if_neg hm]
          refine SR.test ((a9.mono v).mono A) ((fc.mono v).mono A) (k := fun t => if t = true then pure true else do pure ((← choose .zeroSizeEq) = 1)) (k' := fun t => if t = true then pure true else do pure ((← choose .zeroSizeEq) = 1)) ?_
          intro t
          cases t with
          | true => exact af rfl
          | false =>
            refine ae (pb _) ?_
            rintro r3 z _ _ rfl
            exact af rfl
      | cK => exact af rfl
      | _ => exact ak _ _
    | cK => cases g <;> first | exact af rfl | exact ak _ _
    | _ => cases g <;> exact ak _ _
  | struct M =>
    cases j with
    | @agg X V a1 a0 =>
      cases g with
      | @agg ys W a3 a4 =>
        have a5 : AR P.globals.size r X V := ⟨a1, a0⟩
        have a6 : AR P.globals.size r ys W := ⟨a3, a4⟩
        dsimp only
        refine ae gr ?_
        rintro r2 p q A ⟨Y, Z⟩
        rw [Y, Z, vD P K.F t]
        have aa : ∀ {r3 : Rn}, r2.le r3 → SR P K aO r3 (do
            for f in M do
              if f.name ≠ "_" then
                if !(← Op.equalIn d f.type (← part f.type X f.offset) (← part f.type ys f.offset)) then return false
            pure true) (do
            for f in M do
              if f.name ≠ "_" then
                if !(← Op.equalIn d f.type (← part f.type V f.offset) (← part f.type W f.offset)) then return false
            pure true) := by
          intro r3 R
          rw [← Array.forIn_toList, ← Array.forIn_toList]
          refine ae (FH M.toList r3 _ ?_) ?_
          · intro G f s hf H
            by_cases C : f.name ≠ "_"
            · rw [if_pos C, if_pos C]
              have O : r.le G := Rn.le_trans v (Rn.le_trans A (Rn.le_trans R H))
              refine ae (pL f.type (a5.mono O) f.offset) ?_
              intro r5 u u' S N
              refine ae (pL f.type ((a6.mono O).mono S) f.offset) ?_
              intro r6 w w' I T
              refine ae (F (Q := SR P K aO _ _ _) (fun m h => L (n := m) (.inl (Array.all_eq_true_iff_forall_mem.1 h f (by simpa using hf))) (N.mono I) T) fun h => L (n := 0) (.inr h) (N.mono I) T) ?_
              rintro r7 z _ _ rfl
              cases z <;> exact af rfl
            · rw [if_neg C, if_neg C]
              exact af rfl
          · rintro G ⟨s, _⟩ _ _ rfl
            cases s <;> exact af rfl
        cases P.stoodInHeld t with
        | true => exact db (eJ _) _
        | false => exact aa (Rn.le_refl _)
      | _ => exact ak _ _
    | _ => cases g <;> exact ak _ _
  | array len e =>
    cases j with
    | @agg X V a1 a0 =>
      cases g with
      | @agg ys W a3 a4 =>
        have a5 : AR P.globals.size r X V := ⟨a1, a0⟩
        have a6 : AR P.globals.size r ys W := ⟨a3, a4⟩
        refine ae (eP e) ?_
        rintro r3 m _ R rfl
        rw [Std.Legacy.Range.forIn_eq_forIn_range', Std.Legacy.Range.forIn_eq_forIn_range']
        refine ae (FM _ r3 _ ?_) ?_
        · intro G i s H
          have O : r.le G := Rn.le_trans v (Rn.le_trans R H)
          refine ae (pL e (a5.mono O) _) ?_
          intro r5 u u' S N
          refine ae (pL e ((a6.mono O).mono S) _) ?_
          intro r6 w w' I T
          refine ae (F (Q := SR P K aO _ _ _) (fun m h => L (n := m) (.inl h) (N.mono I) T) fun h => L (n := 0) (.inr h) (N.mono I) T) ?_
          rintro r7 z _ _ rfl
          cases z <;> exact af rfl
        · rintro G ⟨s, _⟩ _ _ rfl
          cases s <;> exact af rfl
      | _ => exact ak _ _
    | _ => cases g <;> exact ak _ _
  | int k =>
    cases j with
    | int k1 n =>
      cases g with
      | int k2 m =>
        dsimp only
        split
        · exact af rfl
        · exact ak _ _
      | ptr a b h D =>
        rcases n with (_ | n) | n
        · exact af rfl
        · exact bw _ _
        · exact bw _ _
      | cK => exact bw _ _
      | _ => exact ak _ _
    | ptr a b h D =>
      cases g with
      | ptr a2 E o U =>
        refine ae (mC ⟨b, v _ _ h, D, rfl⟩) ?_
        rintro r2 ⟨p, l⟩ ⟨q, m⟩ A ⟨a7, _⟩
        refine ae (mC ⟨E, A _ _ (v _ _ o), U, rfl⟩) ?_
        rintro r3 ⟨p2, l2⟩ ⟨q2, m2⟩ R ⟨a8, _⟩
        refine ae gr ?_
        rintro G pp qq H ⟨Y, Z⟩
        rw [Y, Z]
        dsimp only at a7 a8 ⊢
        by_cases J : (p.block == p2.block && decide (p.block < P.globals.size)) = true
        · have hs : (q.block == q2.block && decide (q.block < P.globals.size)) = true := by
            simp only [Bool.and_eq_true, beq_iff_eq, decide_eq_true_eq] at J ⊢
            obtain ⟨x, _, x2, rfl⟩ := a7
            obtain ⟨y, _, y2, rfl⟩ := a8
            have j : x = p.block := x2.elim (fun h => by omega) id
            have g : y = p2.block := y2.elim (fun h => by omega) id
            subst j g
            exact J
          rw [if_pos J, if_pos hs]
          refine ae (sN ((a7.mono R).mono H)) ?_
          rintro r5 u _ S rfl
          refine ae (sN ((a8.mono H).mono S)) ?_
          rintro r6 w _ I rfl
          exact af rfl
        · refine .dead ?_ _
          rw [if_neg J]
          refine aiO fun i hi => ?_
          split
          · rename_i C
            exfalso
            refine F (fun m h => ?_) fun h => ?_
            · rw [hi] at h
              dsimp only at h
              rw [C] at h
              simp at h
            · have o := h.2
              unfold sV at o
              rw [Array.all_eq_true_iff_forall_mem] at o
              have h3 := o i (OX hi C)
              rw [C] at h3
              simp at h3
          · exact eJ _
      | int k2 m =>
        rcases m with (_ | m) | m
        · exact af rfl
        · exact bw _ _
        · exact bw _ _
      | _ => exact bw _ _
    | cK => cases g <;> exact bw _ _
    | _ => cases g <;> first | exact bw _ _ | exact ak _ _
  | interface ms =>
    cases j with
    | nilIface => cases g <;> first | exact af rfl | exact ak _ _
    | @iface tx vx ab h1 =>
      cases g with
      | nilIface => exact af rfl
      | @iface ty vy ac o =>
        dsimp only
        by_cases e : tx ≠ ty
        · rw [if_pos e, if_pos e]; exact af rfl
        · rw [if_neg e, if_neg e]
          refine ae (ky tx) ?_
          rintro r2 i _ A ⟨rfl, _⟩
          cases J : i.comparable with
          | false =>
            simp only [Bool.not_false, if_true]
            refine .dead ?_ _
            refine gO ph fun p => ?_
            refine gO ph fun q => ?_
            split
            · exact rj (eJ _)
            · exact gO (Pm _) fun _ => im _
          | true =>
            simp only [Bool.not_true, Bool.false_eq_true, if_false]
            exact L (n := 0) (.inr (F (fun _ h => by simpa using h) id)) ((h1.mono v).mono A) ((o.mono v).mono A)
      | _ => exact ak _ _
    | _ => cases g <;> exact ak _ _
  | unsafePointer =>
    cases j with
    | ptr a b h D =>
      cases g with
      | ptr a2 E o U => exact Jz (F (fun _ h => by cases h) fun h => h.1) ⟨b, v _ _ h, D, rfl⟩ ⟨E, v _ _ o, U, rfl⟩
      | cK => exact af rfl
      | _ => exact ak _ _
    | cK => cases g <;> first | exact af rfl | exact ak _ _
    | _ => cases g <;> exact ak _ _
  | _ => cases j <;> cases g <;> exact ak _ _
theorem aaB(b:vu P K t=true)(c:VR P.globals.size r x x')(a:VR P.globals.size r y y'):SR P K aO r (Op.equal t x y) (Op.equal t x' y'):=Lh _ (.inl b) c a
theorem afa{i:BinOp}(H:i=.eql\/i=.neq->vu P K t=true)(D:VR P.globals.size r x x')(u:VR P.globals.size r y y'):SR P K (VR P.globals.size) r (binOp i t x y) (binOp i t x' y'):=by
 have g:(i=.eql\/i=.neq)->SR P K aO r (Op.equal t x y) (Op.equal t x' y'):=λh=>aaB (H h) D u;have j:SR P K aO r (Op.equal t x y) (Op.equal t x' y')->SR P K (VR P.globals.size) r (do pure (.bool (<-Op.equal t x y))) (do pure (.bool (<-Op.equal t x' y'))):=λh=>ae h λr1 a b _ e=>by cases e;exact af (.bool _)
 have l:SR P K aO r (Op.equal t x y) (Op.equal t x' y')->SR P K (VR P.globals.size) r (do pure (.bool (!(<-Op.equal t x y)))) (do pure (.bool (!(<-Op.equal t x' y')))):=λh=>ae h λr1 a b _ e=>by cases e;exact af (.bool _)
 have s:=D;have v:=u;cases D with|int k n=>(cases u with|int Q m=>(unfold binOp;cases i;(all_goals dsimp only);all_goals first|exact T4 _ _ _ _ _|(split<;>first|exact ak _ _|exact IK _ _ _ _|exact ad8 _ _ _ _|exact Cp _ _ _ _|exact ajK _ _ _))|ptr a b h A=>(have z:DR P.globals.size r a {a with block:=b}:=⟨b,h,A,rfl⟩;cases i with|eql=>exact j (g (.inl rfl))|neq=>exact l (g (.inr rfl))|add=>exact ox t v s|and=>exact ae (mC z) λr1 p q _ h=>xH _ h.1 _|_=>exact bw _ _)|cK=>(cases i with|eql=>exact j (g (.inl rfl))|neq=>exact l (g (.inr rfl))|add=>exact ox t v s|_=>exact bw _ _)|_=>cases i with|eql=>exact j (g (.inl rfl))|neq=>exact l (g (.inr rfl))|_=>exact ak _ _)|string a=>(cases u with|string b=>unfold binOp;cases i;all_goals exact Dk _ a b|ptr c d h A|cK=>(cases i with|eql=>exact j (g (.inl rfl))|neq=>exact l (g (.inr rfl))|_=>exact bw _ _)|_=>cases i with|eql=>exact j (g (.inl rfl))|neq=>exact l (g (.inr rfl))|_=>exact ak _ _)|ptr a b h A=>(have z:DR P.globals.size r a {a with block:=b}:=⟨b,h,A,rfl⟩;cases u with|int k n=>(cases i with|eql=>exact j (g (.inl rfl))|neq=>exact l (g (.inr rfl))|add=>(refine ae (bW t) ?_;rintro r1 d _ o⟨rfl,_⟩;cases d with|unsafePointer=>exact Iw t (s.mono o) (v.mono o)|_=>exact ox t (s.mono o) (v.mono o))|sub=>exact ox t s (.int k (-n))|rem|and=>exact ae (mC z) λr1 p q _ h=>xH _ h.1 _|_=>exact bw _ _)|ptr a2 B J L=>(have fc:DR P.globals.size r a2 {a2 with block:=B}:=⟨B,J,L,rfl⟩;(have w:∀(f C:Addr->Addr->Sem HH),(∀{r2:Rn}{p F E G:Addr},DR P.globals.size r2 p F->DR P.globals.size r2 E G->SR P K (VR P.globals.size) r2 (f p E) (C F G))->SR P K (VR P.globals.size) r (do f (<-behindNumber a).1 (<-behindNumber a2).1) (do C (<-behindNumber {a with block:=b}).1 (<-behindNumber {a2 with block:=B}).1):=by intro f C I;refine ae (mC z) ?_;rintro r1 p q o⟨M,_⟩;refine ae (mC (fc.mono o)) ?_;rintro r2 E R O⟨N,_⟩;exact I (M.mono O) N);cases i with|eql=>exact j (g (.inl rfl))|neq=>exact l (g (.inr rfl))|sub=>exact w _ _ λh k=>Xz .u64 h k|lss=>exact w _ _ λh k=>wV .lss h k|leq=>exact w _ _ λh k=>wV .leq h k|gtr=>exact w _ _ λh k=>wV .gtr h k|geq=>exact w _ _ λh k=>wV .geq h k|_=>exact bw _ _)|_=>cases i with|eql=>exact j (g (.inl rfl))|neq=>exact l (g (.inr rfl))|_=>exact bw _ _)|cK=>(cases u with|int k n=>(cases i with|eql=>exact j (g (.inl rfl))|neq=>exact l (g (.inr rfl))|add=>(refine ae (bW t) ?_;rintro r1 d _ o⟨rfl,_⟩;cases d with|unsafePointer=>exact Iw t (s.mono o) (v.mono o)|_=>exact ox t (s.mono o) (v.mono o))|sub=>exact ox t s (.int k (-n))|_=>exact bw _ _)|_=>cases i with|eql=>exact j (g (.inl rfl))|neq=>exact l (g (.inr rfl))|_=>exact bw _ _)|_=>cases u<;>cases i with|eql=>exact j (g (.inl rfl))|neq=>exact l (g (.inr rfl))|_=>first|exact ak _ _|exact bw _ _
theorem P8{c:BinOp}(n:c=.eql\/c=.neq->P.eqGuardType P.depth t=false\/∃ms,P.underlying t=some (.interface ms))(x y:Operand){a a' b b':HH}(l:VR P.globals.size r a a')(k:VR P.globals.size r b b'):SR P K aO r (eqGuard c t x y a b) (eqGuard c t x y a' b'):=by
 have nil:SR P K aO r (Op.eqGuardIn Op.maxDepth t .nilIface .nilIface) (Op.eqGuardIn Op.maxDepth t .nilIface .nilIface):=by unfold Op.maxDepth Op.eqGuardIn;refine ae (bW t) ?_;rintro r1 d _ e⟨rfl,h⟩;cases d<;>exact af rfl
 have j:(c=.eql\/c=.neq)->SR P K aO r (eqGuard .eql t x y a b) (eqGuard .eql t x y a' b'):=by intro m;unfold eqGuard;cases l with|nilIface=>(cases k with|nilIface=>(dsimp only;(repeat' split);all_goals first|exact af rfl|(refine ae nil ?_;rintro r1 b _ e rfl;cases b;(·exact af rfl);·exact bw _ _))|_=>exact af rfl)|agg h1 o=>(cases k with|agg s u=>(dsimp only;refine ae gr ?_;rintro r1 p q e⟨g,i⟩;rw[g,i];refine ae gr ?_;rintro r2 p q v⟨g,i⟩;rw[g,i,afr P K.F,pg P K.F];rcases n m with f|⟨ms,f⟩;(·rw[f];exact af rfl);·cases P.eqGuardType P.depth t with|false=>exact af rfl|true=>simp only[Bool.not_true,Bool.false_eq_true,if_false];unfold Op.maxDepth Op.eqGuardIn;refine ae (A:=aO) (ae (bW t) ?_) ?_;(·rintro r3 d _ e⟨rfl,h⟩;rw[f]at h;cases h;exact af rfl);·rintro r3 b _ e rfl;cases b;(·exact af rfl);·exact bw _ _)|_=>exact af rfl)|_=>exact af rfl
 cases c with|eql=>exact j (.inl rfl)|neq=>exact j (.inr rfl)|_=>exact af rfl
end
def bL(c:DS):Prop:=∀(i:Nat)(h:i<c.size),cW c[i]
theorem bL.ar(h:bL c)(G:Nat)(r:Rn):AR G r c c:=⟨rfl,λi h1 _=>(h i h1).vr G r⟩
theorem cW.cells(h:cW v):bL v.cells:=by(have one:∀{v:HH},cW v->bL #[v]:=λh i a=>by(have:i=0:=by simpa using a);subst this;exact h);cases h with|agg h=>exact h|bool b=>exact one (.bool b)|int k n=>exact one (.int k n)|string x=>exact one (.string x)|cK=>exact one .cK|cT l c=>exact one (.cT l c)|fn f=>exact one (.fn f)|nilFunc=>exact one .nilFunc|nilIface=>exact one .nilIface|iface t h=>exact one (.iface t h)|tuple h=>exact one (.tuple h)
theorem Sd:cW (default:HH):=.bool _
theorem bL.tK(h:bL c)(n:Nat):bL ((Array.range n).map (c[·%c.size]!)):=by intro i a;rw[Array.getElem_map,Array.getElem_range];by_cases hc:i%c.size<c.size;(·rw[getElem!_pos c _ hc];exact h _ hc);·rw[getElem!_neg c _ hc];exact Sd
section
variable{P:Program}{K:Cm}{r:Rn}
theorem Tq{s:TypeId}{f:Nat}(u:∀e c i,P.underlying s=some (.struct e)->e[f]?=some c->P.info? c.type=some i->i.size≠0){v':HH}(h:VR P.globals.size r v v'):SR P K (VR P.globals.size) r (Instr.fieldAt s v f) (Instr.fieldAt s v' f):=by unfold Instr.fieldAt;refine ae (bW s) ?_;rintro r1 d _ k⟨rfl,l⟩;cases d with|struct e=>(dsimp only;cases m:e[f]? with|none=>exact ak _ _|some c=>refine ae (tE (h.mono k)) ?_;intro r2 a a' w p;(have q:SR P K (DR P.globals.size) r2 (fieldPlace a c) (fieldPlace a' c):=by unfold fieldPlace sizeOf;refine ae (ae (B:=λ_ x y=>x=y/\x≠0) (ky c.type) ?_) ?_;(·rintro r3 i _ _⟨rfl,o⟩;exact af ⟨rfl,u e c i l m o⟩);·rintro r3 n _ t⟨rfl,g⟩;rw[if_neg g,if_neg g];exact af ((p.mono t).add _));exact ae q λr3 b b' _ j=>af j.ptr)|_=>exact ak _ _
theorem Z6(p:∀e,P.underlying t=some (.slice e)->ZB P e){l l' c o:HH}(q:VR P.globals.size r l l')(u:VR P.globals.size r c o):SR P K (VR P.globals.size) r (Instr.makeSlice t l c) (Instr.makeSlice t l' o):=by unfold Instr.makeSlice;refine ae (bW t) ?_;rintro r1 d _ j⟨rfl,v⟩;cases d with|slice e=>dsimp only;refine ae (nt (q.mono j)) ?_;rintro r2 n _ s rfl;refine ae (nt ((u.mono j).mono s)) ?_;rintro r3 m _ B rfl;refine ae (ky e) ?_;rintro E i _ F⟨rfl,_⟩;split;(·split;(·exact db (im _) _);·split;(·exact db (im _) _);·exact .dead (gO (GU _) λ_=>rj (im _)) _);·refine ae (AH _) ?_;rintro G _ _ H _;refine ae (eP e) ?_;rintro C sz _ D rfl;split;(·refine ae (af (A:=λ_ x y=>x=y/\bL x) ⟨rfl,λi h=>absurd h HY⟩) ?_;rintro f z _ k⟨rfl,b⟩;exact ae (oh e ((b.tK _).ar _ f)) λw a a' _ g=>af (g.sl _ _));·refine ae (sE (p e v)) ?_;rintro f z _ k⟨rfl,b⟩;refine ae (af (A:=λ_ x y=>x=y/\bL x) ⟨rfl,b.cells⟩) ?_;·rintro f z _ k⟨rfl,b⟩;exact ae (oh e ((b.tK _).ar _ f)) λw a a' _ g=>af (g.sl _ _)|_=>exact ak _ _
inductive jL(G:Nat)(r:Rn):List (Nat×HH)->List (Nat×HH)->Prop|nil:jL G r [] []|cons(i:Nat){v v':HH}{l l':List (Nat×HH)}(h:VR G r v v')(k:jL G r l l'):jL G r ((i,v)::l) ((i,v')::l')
theorem jL.mono{G:Nat}{r s:Rn}(h:r.le s){l l':List (Nat×HH)}(k:jL G r l l'):jL G s l l':=by induction k with|nil=>exact .nil|cons i b _ a=>exact .cons i (b.mono h) a
theorem BD{G:Nat}{r:Rn}(off:Nat):∀(l l':FV)(k:Nat)(cs a:DS),LR G r l l'->AR G r cs a->AR G r ((l.zipIdx k).foldl (λcs(x:HH×Nat)=>cs.setIfInBounds (off+x.2) x.1) cs) ((l'.zipIdx k).foldl (λcs(x:HH×Nat)=>cs.setIfInBounds (off+x.2) x.1) a)|_,_,_,_,_,.nil,h=>h|_,_,k,_,_,.cons c b,h=>BD off _ _ (k+1) _ _ b (h.set c _)
theorem wO {G : Nat} {r : Rn} (e : Nat → Option (Nat × Nat)) : ∀ (l l' : List (Nat × HH)) (cs b : DS), jL G r l l' → AR G r cs b →
    match Instr.fill e cs l with | none => True | some d => ∃ g, Instr.fill e b l' = some g ∧ AR G r d g
  | _, _, cs, b, .nil, h => by
    simp only [Instr.fill]
    exact ⟨b, rfl, h⟩
  | _, _, cs, b, .cons i (v := v) (v' := v') (l := l) (l' := l') m j, h => by
    simp only [Instr.fill]
    cases e i with
    | none => trivial
    | some x =>
      obtain ⟨off, size⟩ := x
      have f := m.cells
      have e1 : v'.cells.size = v.cells.size := f.1.symm
      have e2 : b.size = cs.size := h.1.symm
      dsimp only
      rw [e1, e2]
      by_cases hb : (decide (v.cells.size ≠ size) || decide (off + v.cells.size > cs.size)) = true
      · rw [if_pos hb]
        trivial
      · rw [if_neg hb, if_neg hb]
        have k := BD off v.cells.toList v'.cells.toList 0 cs b f.toList h
        have cv : ∀ (a : DS) (c : DS), a.zipIdx.foldl (fun cs (x : HH × Nat) => cs.setIfInBounds (off + x.2) x.1) c = (a.toList.zipIdx 0).foldl (fun cs (x : HH × Nat) => cs.setIfInBounds (off + x.2) x.1) c := by
          intro a c
          rw [← Array.foldl_toList, Array.toList_zipIdx]
        rw [cv, cv]
        exact wO e l l' _ _ j k
end
section
variable{P:Program}{K:Cm}{r:Rn}
theorem Lu(b:Array Field):SR P K aO r (b.mapM λf=>do pure (f.offset,<-sizeOf f.type)) (b.mapM λf=>do pure (f.offset,<-sizeOf f.type)):=by(have go:∀(l:List Field)(r:Rn)(a:List (Nat×Nat)),SR P K aO r (List.mapM.loop (λf:Field=>(do pure (f.offset,<-sizeOf f.type):Sem (Nat×Nat))) l a) (List.mapM.loop (λf:Field=>(do pure (f.offset,<-sizeOf f.type):Sem (Nat×Nat))) l a):=by intro l;induction l with|nil=>intro r a;exact af rfl|cons f l c=>intro r a;unfold List.mapM.loop;refine ae (ae (B:=aO) (eP f.type) λr1 n _ _ e=>by cases e;exact af rfl) ?_;rintro r1 x _ _ rfl;exact c r1 _);rw[Array.mapM_eq_mapM_toList];refine ae (B:=aO) (go b.toList r []) ?_;rintro r1 x _ _ rfl;exact af rfl
theorem Na(o:ZB P t)(h:jL P.globals.size r ps.toList ps'.toList):SR P K (VR P.globals.size) r (Instr.build t ps) (Instr.build t ps'):=by unfold Instr.build;refine ae (sE o) ?_;rintro r1 z _ m⟨rfl,k⟩;refine ae (bW t) ?_;rintro r2 d _ l⟨rfl,_⟩;cases d with|struct q=>(refine ae (Lu q) ?_;rintro r3 pl _ f rfl;have a:=wO (G:=P.globals.size) (r:=r3) (pl[·]?) ps.toList ps'.toList z.cells z.cells (((h.mono m).mono l).mono f) (k.cells.ar _ r3);cases j:Instr.fill (pl[·]?) z.cells ps.toList with|none=>exact ak _ _|some c=>rw[j]at a;obtain⟨p,g,b⟩:=a;rw[g];exact af (.agg b.1 b.2))|array n e=>(refine ae (eP e) ?_;rintro r3 sz _ f rfl;have a:=wO (G:=P.globals.size) (r:=r3) (λi=>some (i*sz,sz)) ps.toList ps'.toList z.cells z.cells (((h.mono m).mono l).mono f) (k.cells.ar _ r3);cases j:Instr.fill (λi=>some (i*sz,sz)) z.cells ps.toList with|none=>exact ak _ _|some c=>rw[j]at a;obtain⟨p,g,b⟩:=a;rw[g];exact af (.agg b.1 b.2))|_=>exact ak _ _
/-- the end of it -/
def rowsOf (e : TypeId) (len size : Nat) (a : Array (Nat × HH)) (zero : DS) : Sem HH := do
  let some cells := Instr.fill (fun i => some (i * size, size)) ((Array.range (len * size)).map (zero[· % zero.size]!)) a.toList
    | stuck "buildSlice: a part of the wrong size"
  pure (.slice (some (← newRow e cells)) len len)
theorem ZG(n:∀e,P.underlying t=some (.slice e)->ZB P e)(len:Nat)(h:jL P.globals.size r ps.toList ps'.toList):SR P K (VR P.globals.size) r (Instr.buildSlice t len ps) (Instr.buildSlice t len ps'):=by unfold Instr.buildSlice;refine ae (bW t) ?_;rintro r1 d _ q⟨rfl,g⟩;cases d with|slice e=>refine ae (eP e) ?_;rintro r2 sz _ m rfl;(have fin:∀(r3:Rn)(z:DS),r2.le r3->bL z->SR P K (VR P.globals.size) r3 (rowsOf e len sz ps z) (rowsOf e len sz ps' z):=by intro r3 z f b;unfold rowsOf;have j:=wO (G:=P.globals.size) (r:=r3) (λi=>some (i*sz,sz)) ps.toList ps'.toList _ _ (((h.mono q).mono m).mono f) ((b.tK (len*sz)).ar _ r3);cases g:Instr.fill (λi=>some (i*sz,sz)) ((Array.range (len*sz)).map (z[·%z.size]!)) ps.toList with|none=>exact ak _ _|some c=>rw[g]at j;obtain⟨u,p,o⟩:=j;rw[p];exact ae (oh e o) λk a a' _ s=>af (s.sl _ _));by_cases hbig:len*sz>2^24;(·rw[if_pos hbig,if_pos hbig];exact db (eJ _) _);·rw[if_neg hbig,if_neg hbig];split;(·refine ae (af (A:=λ_ x y=>x=y/\bL x) ⟨rfl,λi h=>absurd h HY⟩) ?_;rintro r3 z _ f⟨rfl,b⟩;exact fin r3 z f b);·refine ae (sE (n e g)) ?_;rintro r3 z _ f⟨rfl,b⟩;refine ae (af (A:=λ_ x y=>x=y/\bL x) ⟨rfl,b.cells⟩) ?_;rintro k z _ l⟨rfl,b⟩;exact fin k z (Rn.le_trans f l) b|_=>exact ak _ _
end
section
variable{P:Program}{K:Cm}{r:Rn}
theorem JS{a:Type}{f:HH->a->Sem (ForInStep a)}(c:∀r v v' s,VR P.globals.size r v v'->SR P K aO r (f v s) (f v' s)):∀(l l':FV)(r:Rn)(s:a),LR P.globals.size r l l'->SR P K aO r (forIn l s f) (forIn l' s f)|_,_,r,s,.nil=>by rw[List.forIn_nil];exact af rfl|_,_,r,s,.cons (v:=v) (v':=v') (l:=l) (l':=l') g d=>by rw[List.forIn_cons,List.forIn_cons];refine ae (c r v v' s g) ?_;rintro r1 x _ e rfl;cases x with|done b=>exact af rfl|yield b=>exact JS c l l' r1 b (d.mono e)
theorem Mm(h:VR P.globals.size r x x'):SR P K (VR P.globals.size) r (Conv.bytesToString x) (Conv.bytesToString x'):=by unfold Conv.bytesToString;cases h with|cT l c=>exact af (.string _)|sl a b l c h e=>refine ae (yB ⟨b,h,e,rfl⟩ l) ?_;intro r1 cs f i g;rw[<-Array.forIn_toList,<-Array.forIn_toList];refine ae (JS ?_ cs.toList f.toList r1 _ g.toList) ?_;(·intro r2 v v' s d;cases d with|int k n=>(cases k<;>first|exact af rfl|exact ak _ _)|_=>exact ak _ _);·rintro r2 s _ _ rfl;exact af (.string _)|_=>exact ak _ _
theorem GX(h:DR P.globals.size r a a'):SR P K aO r (markStringish a) (markStringish a'):=by have d:=h;obtain⟨b,h1,f,rfl⟩:=d;unfold markStringish;refine ae (iQ h1) ?_;rintro r1 s _ c rfl;cases s with|none=>exact af rfl|some x=>obtain⟨e,n⟩:=x;exact G5 (a:=⟨a.block,n,none⟩) (a':=⟨b,n,none⟩) ⟨b,c _ _ h1,f,rfl⟩ 1
theorem Bz(e:TypeId)(s:HM):SR P K (VR P.globals.size) r (Conv.stringToBytes e s) (Conv.stringToBytes e s):=by unfold Conv.stringToBytes;refine ae (pb _) ?_;rintro r1 n _ f rfl;refine ae (oh e ((show bL _ from ?_:bL _).ar _ r1)) ?_;(·intro i j;by_cases h:i<(s.data.map λb=>Value.int .u8 b.toNat).size;(·rw[Array.getElem_append_left h,Array.getElem_map];exact .int _ _);·rw[Array.getElem_append_right HU,Array.getElem_replicate];exact .int _ _);·intro r2 a a' g c;refine ae (GX c) ?_;rintro r3 _ _ d _;exact af ((c.mono d).sl _ _)
def AA(P:Program)(src dst:TypeId):Bool:=match P.underlying src,P.underlying dst with|some (.int _),some (.int _)=>true|some .string,some .string=>true|some (.slice e),some .string=>(match P.underlying e with|some (.int .u8)=>true|_=>false)|some .string,some (.slice e)=>(match P.underlying e with|some (.int .u8)=>true|_=>false)|some (.slice _),some (.slice e)=>(src==dst&&match P.underlying e with|some (.int .u8)=>true|_=>false)|_,_=>false
theorem adm(k:IntKind)(n:Int):SR P K (VR P.globals.size) r (Conv.intToInt k n) (Conv.intToInt k n):=af (.int _ _)
theorem LQ{src dst:TypeId}(f:AA P src dst=true)(h:VR P.globals.size r x x'):SR P K (VR P.globals.size) r (convert src dst x) (convert src dst x'):=by unfold convert;refine ae (bW src) ?_;rintro r1 d1 _ o⟨rfl,h1⟩;refine ae (bW dst) ?_;rintro r2 d2 _ w⟨rfl,q⟩;unfold AA at f;rw[h1,q]at f;have j:=(h.mono o).mono w;cases d1 with|int k1=>(cases d2 with|int z=>(cases j<;>first|exact adm _ _|exact bw _ _)|_=>cases f)|string=>(cases d2 with|string=>(cases j with|string s=>exact af (.string s)|int k n=>exact af (.string _)|_=>exact bw _ _)|slice e=>(cases j with|string s=>(refine ae (bW e) ?_;rintro r3 d _ i⟨rfl,g⟩;dsimp only at f;rw[g]at f;cases d with|int k=>(cases k<;>first|exact Bz e s|cases f)|_=>cases f)|_=>exact bw _ _)|_=>cases f)|slice e=>(cases d2 with|string=>((have u:SR P K (VR P.globals.size) r2 (do match<-underlying e with|.int .u8=>Conv.bytesToString x|.int .i32=>Conv.runesToString x|_=>stuck "Convert: a slice of what to string?") (do match<-underlying e with|.int .u8=>Conv.bytesToString x'|.int .i32=>Conv.runesToString x'|_=>stuck "Convert: a slice of what to string?"):=by refine ae (bW e) ?_;rintro r3 d _ i⟨rfl,g⟩;dsimp only at f;rw[g]at f;cases d with|int k=>(cases k<;>first|exact Mm (j.mono i)|cases f)|_=>cases f);cases j with|int k n=>exact af (.string _)|string s=>exact af (.string s)|_=>exact u)|slice e2=>(simp only[Bool.and_eq_true,beq_iff_eq]at f;obtain⟨rfl,f⟩:=f;(have v:∀s:HM,SR P K (VR P.globals.size) r2 (do match<-underlying e2 with|.int .u8=>Conv.stringToBytes e2 s|.int .i32=>Conv.stringToRunes e2 s|_=>stuck "Convert: string to a slice of what?") (do match<-underlying e2 with|.int .u8=>Conv.stringToBytes e2 s|.int .i32=>Conv.stringToRunes e2 s|_=>stuck "Convert: string to a slice of what?"):=by intro s;refine ae (bW e2) ?_;rintro r3 d _ i⟨rfl,g⟩;rw[g]at f;cases d with|int k=>(cases k<;>first|exact Bz e2 s|cases f)|_=>cases f);cases j with|string s=>exact v s|sl a b l c p y=>(have m:DR P.globals.size r2 a {a with block:=b}:=⟨b,p,y,rfl⟩;refine ae (bW e2) ?_;rintro r3 d _ i⟨rfl,g⟩;rw[g]at f;rw[beq_self_eq_true];cases d with|int k=>(cases k<;>first|(refine ae (GX (m.mono i)) ?_;rintro A _ _ t _;exact af (((m.mono i).mono t).sl _ _))|cases f)|_=>cases f)|_=>exact bw _ _)|_=>cases f)|_=>cases f
theorem AR.cases{G:Nat}{a a':DS}(h:AR G r a a')(i:Nat):(a[i]?=none/\a'[i]?=none)\/∃v v',a[i]?=some v/\a'[i]?=some v'/\VR G r v v':=by cases b:a[i]? with|none=>exact .inl ⟨rfl,h.none? b⟩|some v=>obtain⟨v',h1,c⟩:=h.get? b;exact .inr ⟨v,v',rfl,h1,c⟩
def zA(P:Program)(t:TypeId):Bool:=match P.underlying t with|some .string|some (.slice _)|some (.array _ _)=>true|_=>false
theorem WX(g:∀t,ts[0]?=some t->zA P t=true)(u:TypeId){a a':DS}(h:AR P.globals.size r a a'):SR P K (VR P.globals.size) r (Builtin.len_ ts u a) (Builtin.len_ ts u a'):=by unfold Builtin.len_;rcases h.cases 0 with⟨h1,c⟩|⟨v,v',h1,c,l⟩;(·rw[h1,c];cases ts[0]?<;>exact ak _ _);·rw[h1,c];cases i:ts[0]? with|none=>exact ak _ _|some t=>refine ae (bW t) ?_;rintro r1 d _ j⟨rfl,k⟩;have b:=g t i;unfold zA at b;rw[k]at b;have f:=l.mono j;cases d with|string|slice e=>(cases f<;>first|exact af (.int _ _)|exact ak _ _)|array n e=>exact af (.int _ _)|_=>cases b
theorem I6(h:VR P.globals.size r x x'):SR P K aO r (Builtin.lenOf x) (Builtin.lenOf x'):=by cases h<;>first|exact af rfl|exact ak _ _
theorem vT(size n:Nat)(h:VR P.globals.size r x x'):SR P K (AR P.globals.size) r (Builtin.firstCells size n x) (Builtin.firstCells size n x'):=by cases h with|sl a b l c h d=>exact yB ⟨b,h,d,rfl⟩ _|cT l c=>exact af (AR.nil _ r)|string s=>refine af (bL.ar ?_ _ r);intro i e;rw[Array.getElem_map];exact .int _ _|_=>exact ak _ _
theorem OS (u : TypeId) {a a' : DS} (h : AR P.globals.size r a a') : SR P K (VR P.globals.size) r (Builtin.copy_ ts u a) (Builtin.copy_ ts u a') := by
  unfold Builtin.copy_
  cases ts[0]? with
  | none => rcases h.cases 0 with ⟨h1, b⟩ | ⟨v, v', h1, b, w⟩ <;> (rw [h1, b]; exact ak _ _)
  | some t =>
    rcases h.cases 0 with ⟨h1, b⟩ | ⟨v, v', h1, b, w⟩
    · rw [h1, b]; exact ak _ _
    · rcases h.cases 1 with ⟨i, j⟩ | ⟨x, x', i, j, k⟩
      · rw [h1, b, i, j]; exact ak _ _
      · rw [h1, b, i, j]
        refine ae (bW t) ?_
        rintro r1 d _ g ⟨rfl, _⟩
        cases d with
        | slice e =>
          have A := w.mono g
          have s : ∀ (base f : Option Addr) (n : Nat), BR P.globals.size r1 base f → SR P K (VR P.globals.size) r1 (do
              let m := Nat.min (← Builtin.lenOf x) n
              let cells ← Builtin.firstCells (← sizeOf e) m x
              if let some a := base then storeCells a cells.toList
              pure (goInt m)) (do
              let m := Nat.min (← Builtin.lenOf x') n
              let cells ← Builtin.firstCells (← sizeOf e) m x'
              if let some a := f then storeCells a cells.toList
              pure (goInt m)) := by
            intro base f n B
            refine ae (I6 (k.mono g)) ?_
            rintro r2 l _ o rfl
            refine ae (eP e) ?_
            rintro r3 sz _ y rfl
            refine ae (vT sz _ (((k.mono g).mono o).mono y)) ?_
            intro D c G E C
            match base, f, B with
            | none, none, _ => exact af (.int _ _)
            | some p, some H, hd =>
              refine ae (qH _ _ D C.toList (((DR.mono o hd).mono y).mono E) 0) ?_
              rintro I _ _ _ _
              exact af (.int _ _)
          cases A with
          | sl p q l c F z => exact s (some p) (some { p with block := q }) l ⟨q, F, z, rfl⟩
          | cT l c => exact s none none l trivial
          | _ => exact ak _ _
        | _ => exact ak _ _
end
section
variable{P:Program}{K:Cm}{r:Rn}
theorem bL.afT{z:DS}(h:bL z)(n:Nat):bL (Builtin.zeroCells z n):=h.tK _
theorem GY(a:Addr)(n:Nat):dm P (Builtin.holdsCells a n):=by refine gH (P2 _) λs=>?_;cases s with|none|some x=>exact gi _
theorem Sc(size c n:Nat)(base:Option Addr)(x:HH):dm P (Builtin.mayShare size c n base x):=by unfold Builtin.mayShare;(have rest:∀b:Bool,dm P (if !b then return true else match x with|.slice (some b) _ _=>do pure (!(<-Builtin.holdsCells b (n*size))||base.any (·.block==b.block))|_=>pure false:Sem Bool):=by intro b;split;(·exact gi _);·split;(·exact gH (GY _ _) λ_=>gi _);·exact gi _);cases base with|none=>exact gH (gi _) rest|some a=>exact gH (GY _ _) λ_=>gH (afO _) λ_=>gH (gi _) rest
/-- append's end -/
def ru (elem : TypeId) (size : Nat) (base : Option Addr) (c d : Nat) (s x : HH) (n : Nat) : Sem HH := do
  let e : Sem DS := Builtin.firstCells size n x
  let b := c + n
  if b ≤ d then
    let new ← e
    if let some a := base then storeCells (a.add (c * size)) new.toList
    pure (.slice base b d)
  else
    if (b : Int) > IntKind.i64.max ∧ (false = true ∨ (← typeInfo elem).bytes = 0) then runtimePanic (.error "growslice: len out of range")
    if Builtin.nextslicecap b d * (← typeInfo elem).bytes > 2 ^ 48 then (if false = true then runtimePanic (.error "growslice: len out of range") else do
      if !(← Builtin.mayShare size c n base x) then mark .noRoom
      unsupported (.resourceLimit "append: a slice or a string whose bytes no memory bears"))
    let newCap ← choose (.appendCap b d elem)
    askRoom (newCap * (← typeInfo elem).bytes)
    let old ← Builtin.firstCells size c s
    let new ← e
    let rest := Builtin.zeroCells (← zeroValue elem).cells (newCap - b)
    pure (.slice (some (← newRow elem (old ++ new ++ rest))) b newCap)
theorem af1{elem:TypeId}(v:ZB P elem)(size:Nat){base e:Option Addr}(f l:Nat){s s':HH}(n:Nat)(G:BR P.globals.size r base e)(t:VR P.globals.size r s s')(k:VR P.globals.size r x x'):SR P K (VR P.globals.size) r (ru elem size base f l s x n) (ru elem size e f l s' x' n):=by unfold ru;dsimp only;split;(·refine ae (vT size n k) ?_;intro r1 c C d g;match base,e,G with|none,none,_=>exact af (.cT _ _)|some a,some a',hd=>refine ae (qH _ _ r1 g.toList ((DR.mono d hd).add _) 0) ?_;rintro r2 _ _ h _;exact af (((DR.mono d hd).mono h).sl _ _));·refine ae (ky elem) ?_;rintro r1 i _ d⟨rfl,I⟩;split;(·exact db (im _) _);·refine ae (ky elem) ?_;rintro r2 j _ h⟨rfl,Q⟩;split;(·refine .dead ?_ _;simp only[Bool.false_eq_true,if_false];refine rj (gO (Sc _ _ _ _ _) λb=>?_);split;(·exact gO (M9 _) λ_=>eJ _);·exact eJ _);·refine ae (pb _) ?_;rintro r3 M _ w rfl;refine ae (ky elem) ?_;rintro J i4 _ y⟨rfl,_⟩;refine ae (AH _) ?_;rintro A _ _ B _;have m:r.le A:=Rn.le_trans d (Rn.le_trans h (Rn.le_trans w (Rn.le_trans y B)));refine ae (vT size f (t.mono m)) ?_;intro N o O u E;refine ae (vT size n ((k.mono m).mono u)) ?_;intro L c C F g;refine ae (sE v) ?_;rintro D z _ p⟨rfl,H⟩;refine ae (oh elem ((((E.mono F).mono p).append (g.mono p)).append ((H.cells.afT _).ar _ D))) ?_;intro R a a' _ q;exact af (q.sl _ _)
theorem RR(U:∀t e,ts[0]?=some t->P.underlying t=some (.slice e)->ZB P e)(G:∀t,ts[1]?=some t->∀k,P.underlying t≠some (.int k))(u:TypeId){a a':DS}(h:AR P.globals.size r a a'):SR P K (VR P.globals.size) r (Builtin.append_ ts u a) (Builtin.append_ ts u a'):=by unfold Builtin.append_;cases J:ts[0]? with|none=>rcases h.cases 0 with⟨h1,m⟩|⟨v,v',h1,m,H⟩<;>(rw[h1,m];exact ak _ _)|some t=>rcases h.cases 0 with⟨h1,m⟩|⟨v,v',h1,m,H⟩;(·rw[h1,m];exact ak _ _);·rcases h.cases 1 with⟨o,C⟩|⟨x,x',o,C,I⟩;(·rw[h1,m,o,C];exact ak _ _);·rw[h1,m,o,C];refine ae (bW t) ?_;rintro r1 d _ E⟨rfl,N⟩;cases d with|slice e=>(have S:=U t e J N;(have B:∀(r2:Rn)(base j:Option Addr)(i g:Nat)(size:Nat),r1.le r2->BR P.globals.size r2 base j->VR P.globals.size r2 (.slice base i g) (.slice j i g)->SR P K (VR P.globals.size) r2 (Builtin.lenOf x>>=λn=>ru e size base i g (.slice base i g) x n) (Builtin.lenOf x'>>=λn=>ru e size j i g (.slice j i g) x' n):=by intro r2 base j i g size f L T;refine ae (I6 ((I.mono E).mono f)) ?_;rintro r3 n _ b rfl;(have M:BR P.globals.size r3 base j:=by match base,j,L with|none,none,_=>trivial|some p,some V,k=>exact DR.mono b k);exact af1 S size i g n M (T.mono b) (((I.mono E).mono f).mono b));have O:=H.mono E;cases O with|sl p q l c Q R=>(have z:DR P.globals.size r1 p {p with block:=q}:=⟨q,Q,R,rfl⟩;refine ae (eP e) ?_;rintro r2 size _ f rfl;cases D:ts[1]? with|none=>refine ae (af (A:=λ_ x y=>x=false/\y=false) ⟨rfl,rfl⟩) ?_;rintro r3 _ _ b⟨rfl,rfl⟩;exact B r3 _ _ l c size (Rn.le_trans f b) ((z.mono f).mono b) (((z.mono f).mono b).sl _ _)|some w=>refine ae (bW w) ?_;rintro r3 d3 _ b⟨rfl,o⟩;cases d3 with|int k=>exact absurd o (G w D k)|_=>refine ae (af (A:=λ_ x y=>x=false/\y=false) ⟨rfl,rfl⟩) ?_;rintro F _ _ s⟨rfl,rfl⟩;exact B F _ _ l c size (Rn.le_trans f (Rn.le_trans b s)) (((z.mono f).mono b).mono s) ((((z.mono f).mono b).mono s).sl _ _))|cT l c=>(refine ae (eP e) ?_;rintro r2 size _ f rfl;cases D:ts[1]? with|none=>refine ae (af (A:=λ_ x y=>x=false/\y=false) ⟨rfl,rfl⟩) ?_;rintro r3 _ _ b⟨rfl,rfl⟩;exact B r3 none none l c size (Rn.le_trans f b) trivial (.cT _ _)|some w=>refine ae (bW w) ?_;rintro r3 d3 _ b⟨rfl,o⟩;cases d3 with|int k=>exact absurd o (G w D k)|_=>refine ae (af (A:=λ_ x y=>x=false/\y=false) ⟨rfl,rfl⟩) ?_;rintro F _ _ s⟨rfl,rfl⟩;exact B F none none l c size (Rn.le_trans f (Rn.le_trans b s)) trivial (.cT _ _))|_=>exact ak _ _)|_=>exact ak _ _
end
end Co
