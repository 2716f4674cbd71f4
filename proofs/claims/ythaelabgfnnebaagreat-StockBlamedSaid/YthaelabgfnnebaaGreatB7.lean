/- Par5 Par6 Par7 Par8 Par9 Par10 -/
import Derived.Test.YthaelabgfnnebaaGreatB6
set_option maxRecDepth 100000
set_option maxHeartbeats 16000000
set_option linter.unusedVariables false
set_option linter.unusedSectionVars false
namespace Go.cu
section
variable[Inhabited aV]
variable{P:Program}{ρ:Ren}
def nj{α β:Type}:Ren→Option α→Option β→Prop:=fun _ a b=>a=none∧b=none
theorem nT{r r':Nat}(h:ρ r=some r'):SR P lZ ρ (shape r) (shape r'):=⟨_,_,rfl,h,fun x=>⟨x,rfl,rfl⟩⟩
theorem jE{r r':Nat}(h:ρ r=some r'):SR P OR ρ (getObj r) (getObj r'):=⟨_,_,rfl,h,fun _ _ o o' ho=>⟨o',rfl,ho⟩⟩
theorem oG{r r':Nat}(h:ρ r=some r'){o o':Obj}(ho:OR ρ o o'):SR P lZ ρ (setObj r o) (setObj r' o'):=⟨_,_,_,rfl,h,ho,(),rfl,rfl⟩
theorem oq(q:Question):SR P lZ ρ (choose q) (choose q):=⟨_,rfl,fun n=>⟨n,rfl,rfl⟩⟩
theorem yG(hi:dL ρ){r r':Nat}(h:ρ r=some r'):SR P nj ρ (viewAt r) (viewAt r'):=by
 unfold viewAt
 refine(nT h).bind' hi ?_
 intro ρ1 l1 x y e
 cases e
 cases x with
 | some x=>exact SR.pure ⟨rfl,rfl⟩
 | none=>
   refine(jE (l1.1 _ _ h)).bind' l1.2 ?_
   intro ρ2 l2 o o' ho
   cases ho <;> exact SR.pure ⟨rfl,rfl⟩
theorem Kg(hi:dL ρ){a a':Addr}(h:AR ρ a a'):SR P lZ ρ (noView a) (noView a'):=by
 unfold noView
 refine(yG hi h.1).bind' hi ?_
 rintro ρ1 l1 x y ⟨rfl,rfl⟩
 exact SR.pure rfl
def BW:Ren→Option (Addr × Bool)→Option (Addr × Bool)→Prop:=fun ρ x y=>(x=none∧y=none)∨∃a a' l,x=some (a,l)∧y=some (a',l)∧AR ρ a a'
theorem rQ(hi:dL ρ){r r':Nat}(h:ρ r=some r'):SR P BW ρ (numberAt r) (numberAt r'):=by
 unfold numberAt
 refine(nT h).bind' hi ?_
 intro ρ1 l1 x y e
 cases e
 cases x with
 | some x=>exact SR.pure (.inl ⟨rfl,rfl⟩)
 | none=>
   refine(jE (l1.1 _ _ h)).bind' l1.2 ?_
   intro ρ2 l2 o o' ho
   cases ho with
   | cells e h f=>exact SR.pure (.inl ⟨rfl,rfl⟩)
   | map k h=>exact SR.pure (.inl ⟨rfl,rfl⟩)
   | number l h=>exact SR.pure (.inr ⟨_,_,_,rfl,rfl,h⟩)
   | loop h=>exact SR.pure (.inl ⟨rfl,rfl⟩)
   | defs h=>exact SR.pure (.inl ⟨rfl,rfl⟩)
def VC:Ren→Addr × Bool→Addr × Bool→Prop:=fun ρ x y=>AR ρ x.1 y.1∧x.2=y.2
theorem aZ(hi:dL ρ){a a':Addr}(h:AR ρ a a'):SR P VC ρ (behindNumber a) (behindNumber a'):=by
 unfold behindNumber
 refine(rQ hi h.1).bind' hi ?_
 rintro ρ1 l1 x y (⟨rfl,rfl⟩|⟨b,b',l,rfl,rfl,hb⟩)
 ·exact SR.pure ⟨h.mono l1.1,rfl⟩
 ·exact SR.pure ⟨hb,rfl⟩
theorem Du{a a':Addr}(h:AR ρ a a')(l:Bool)(hi:dL ρ):SR P VR ρ (asNumber a l) (asNumber a' l):=by
 unfold asNumber
 have:SR P (fun ρ r r'=>ρ r=some r') ρ (newObj (.number a l)) (newObj (.number a' l)):=⟨_,_,rfl,.number l h,fun _ _ r r' hr=>⟨r',rfl,hr⟩⟩
 refine this.bind' hi ?_
 intro ρ1 l1 r r' hr
 exact SR.pure (.ptr ⟨hr,rfl,rfl⟩)
theorem qw(hi:dL ρ){a a':Addr}(h:AR ρ a a'):SR P lZ ρ (byteOf a) (byteOf a'):=by
 unfold byteOf
 rw[h.2.2,h.2.1]
 cases a.spot with
 | some s=>exact SR.pure rfl
 | none=>
   dsimp only
   refine iH.bind' hi ?_
   rintro ρ1 l1 p p' ⟨rfl,rfl⟩
   refine(Kg l1.2 (h.mono l1.1)).bind' l1.2 ?_
   intro ρ2 l2 _ _ _
   refine(nT (l2.1 _ _ (l1.1 _ _ h.1))).bind' l2.2 ?_
   intro ρ3 l3 x y e
   cases e
   cases x with
   | none=>exact trivial
   | some x=>
     obtain⟨e,n⟩:=x
     dsimp only
     by_cases hs:p'.cellsOf e=0
     ·simp only[if_pos hs];exact SR.pure rfl
     ·simp only[if_neg hs]
      cases byteOfCell p' p'.depth e (a.off % p'.cellsOf e) with
      | none=>exact trivial
      | some b=>exact SR.pure rfl
theorem Kt(hi:dL ρ){a a':Addr}(h:AR ρ a a')(cells bytes:Nat):SR P AR ρ (partAt a cells bytes) (partAt a' cells bytes):=by
 unfold partAt
 refine(qw hi h).bind' hi ?_
 intro ρ1 l1 b b' e
 cases e
 have hp:AR ρ1 {block:=a.block,off:=a.off+cells } {block:=a'.block,off:=a'.off+cells }:=⟨l1.1 _ _ h.1,by simp[h.2.1],rfl⟩
 refine(qw l1.2 hp).bind' l1.2 ?_
 intro ρ2 l2 c c' e
 cases e
 have hp2:=hp.mono l2.1
 dsimp only
 split
 ·exact SR.pure hp2
 ·exact SR.pure ⟨hp2.1,hp2.2.1,rfl⟩
theorem wN(hi:dL ρ){a a':Addr}(h:AR ρ a a')(f:Field):SR P AR ρ (fieldPlace a f) (fieldPlace a' f):=by
 unfold fieldPlace
 refine(aX hi f.type).bind' hi ?_
 intro ρ1 l1 n m e
 cases e
 split
 ·exact Kt l1.2 (h.mono l1.1) _ _
 ·exact SR.pure ((h.mono l1.1).add _)
theorem FX(hi:dL ρ)(t:TypeId){v v':Value}(h:VR ρ v v')(i:Nat):SR P VR ρ (Instr.fieldAt t v i) (Instr.fieldAt t v' i):=by
 unfold Instr.fieldAt
 refine(aL t).bind' hi ?_
 intro ρ1 l1 x y e
 cases e
 cases x with
 | struct fs=>
   dsimp only
   cases fs[i]? with
   | none=>exact trivial
   | some f=>
     dsimp only
     refine(gU (h.mono l1.1)).bind' l1.2 ?_
     intro ρ2 l2 a a' ha
     refine(wN l2.2 ha f).bind' l2.2 ?_
     intro ρ3 l3 b b' hb
     exact SR.pure (.ptr hb)
 | _=>exact trivial
theorem kD{v v':Value}(h:VR ρ v v'):SR P lZ ρ (asIntOf v) (asIntOf v'):=by
 cases h <;> first|exact SR.pure rfl|exact trivial
theorem Bt(hi:dL ρ){v v':Value}(h:VR ρ v v'):SR P lZ ρ (asInt v) (asInt v'):=
 (kD h).bind' hi fun _ _ _ _ e=>by cases e;exact SR.pure rfl
theorem Jh{v v':Value}(h:VR ρ v v'):SR P lZ ρ (asBool v) (asBool v'):=by
 cases h <;> first|exact SR.pure rfl|exact trivial
theorem aR{α β:Type}{Q:Ren→α→β→Prop}{e:RuntimeError}(he:∀a b c d,e≠.typeAssertion a b c d)(hp:e≠.panicNil):SR P Q ρ (runtimePanic e) (runtimePanic e):=by
 refine⟨_,rfl,?_⟩
 cases e <;> first|exact trivial|exact absurd rfl (he _ _ _ _)|exact absurd rfl hp
theorem eT{α β:Type}{Q:Ren→α→β→Prop}(hi:dL ρ)(k:IntKind)(x y:Int)(c:BoundsCode):SR P Q ρ (boundsPanic k x y c) (boundsPanic k x y c):=by
 unfold boundsPanic
 dsimp only
 split
 ·refine SR.bind' (Q:=lZ) hi ⟨_,rfl,fun n=>⟨_,rfl,rfl⟩⟩ ?_
  intro ρ1 l1 a b e
  cases e
  exact aR zs zs
 ·exact aR (e:=.bounds _ _ _ _) zs zs
def D6(t:TypeId)(k:IntKind)(n:Int)(x:Option Addr × Nat × TypeId):Sem Value:=do
 let d ← underlying t
 match x.1 with
 | some a=>
   if 0≤n∧n<x.2.1 then do
    let m ← sizeOf x.2.2
    pure (.pointer (some (a.add (n.toNat * m))))
   else if (decide (x.2.1≤1) && match d with| .array ..=>true|_=>false)=true then unsupported (.noEntry Lk)
   else boundsPanic k n x.2.1 .index
 | none=>boundsPanic k n 0 .index
def EY(ρ:Ren)(x y:Option Addr):Prop:=(x=none∧y=none)∨∃a a',x=some a∧y=some a'∧AR ρ a a'
theorem EY.mono{ρ':Ren}(l:Le ρ ρ'){x y:Option Addr}(h:EY ρ x y):EY ρ' x y:=by
 rcases h with h|⟨a,a',e1,e2,h⟩
 ·exact .inl h
 ·exact .inr ⟨a,a',e1,e2,h.mono l⟩
theorem nJ(hi:dL ρ)(t:TypeId)(k:IntKind)(n:Int){b b':Option Addr}(h:EY ρ b b')(len:Nat)(e:TypeId):SR P VR ρ (D6 t k n (b,len,e)) (D6 t k n (b',len,e)):=by
 unfold D6
 refine(aL t).bind' hi ?_
 intro ρ1 l1 d d' ed
 cases ed
 rcases h with⟨rfl,rfl⟩|⟨a,a',rfl,rfl,ha⟩
 ·exact eT l1.2 _ _ _ _
 ·dsimp only
  by_cases hc:0≤n∧n<len
  ·rw[if_pos hc,if_pos hc]
   refine(aX l1.2 e).bind' l1.2 ?_
   intro ρ4 l4 m m' e
   cases e
   exact SR.pure (.ptr ((ha.mono (l1.1.trans l4.1)).add _))
  ·rw[if_neg hc,if_neg hc]
   cases (decide (len≤1) && match d with| .array ..=>true|_=>false) with
   | true=>exact trivial
   | false=>exact eT l1.2 _ _ _ _
theorem Gn(hi:dL ρ)(t:TypeId){x x' i i':Value}(hx:VR ρ x x')(h:VR ρ i i'):SR P VR ρ (Instr.indexAt t x i) (Instr.indexAt t x' i'):=by
 unfold Instr.indexAt
 refine(kD h).bind' hi ?_
 intro ρ1 l1 p p' e
 cases e
 obtain⟨k,n⟩:=p
 dsimp only
 refine(aL t).bind' l1.2 ?_
 intro ρ2 l2 d d' e
 cases e
 have hx2:=hx.mono (l1.1.trans l2.1)
 cases d with
 | array len e=>
   refine(gU hx2).bind' l2.2 ?_
   intro ρ3 l3 a a' ha
   exact nJ l3.2 t k n (.inr ⟨a,a',rfl,rfl,ha⟩) len e
 | slice e=>
   cases hx2 with
   | xQ l c=>exact nJ l2.2 t k n (.inl ⟨rfl,rfl⟩) l e
   | sl l c ha=>exact nJ l2.2 t k n (.inr ⟨_,_,rfl,rfl,ha⟩) l e
   | _=>exact trivial
 | _=>exact trivial
theorem Oi(hi:dL ρ)(t:TypeId){x x' i i':Value}(hx:VR ρ x x')(h:VR ρ i i'):SR P VR ρ (Instr.index t x i) (Instr.index t x' i'):=by
 unfold Instr.index
 refine(kD h).bind' hi ?_
 intro ρ1 l1 p p' e
 cases e
 obtain⟨k,n⟩:=p
 dsimp only
 refine(aL t).bind' l1.2 ?_
 intro ρ2 l2 d d' e
 cases e
 have hx2:=hx.mono (l1.1.trans l2.1)
 cases d with
 | array len e=>
   cases hx2 with
   | agg es hs=>
     dsimp only
     by_cases hc:0≤n∧n<len
     ·rw[if_pos hc,if_pos hc]
      refine(aX l2.2 e).bind' l2.2 ?_
      intro ρ4 l4 m m' em
      cases em
      exact GU l4.2 e (dY.mono l4.1 ⟨es,hs⟩) _
     ·rw[if_neg hc,if_neg hc]
      exact eT l2.2 _ _ _ _
   | _=>exact trivial
 | string=>
   cases hx2 with
   | string s=>
     dsimp only
     cases (if 0≤n then s[n.toNat]? else none) with
     | none=>exact eT l2.2 _ _ _ _
     | some b=>exact SR.pure (.int _ _)
   | _=>exact trivial
 | _=>exact trivial
theorem fO(hi:dL ρ){v v':Value}(h:VR ρ v v')(y:Nat)(c:BoundsCode):SR P lZ ρ (Instr.sliceBound v y c) (Instr.sliceBound v' y c):=by
 unfold Instr.sliceBound
 refine(kD h).bind' hi ?_
 intro ρ1 l1 p p' e
 cases e
 obtain⟨k,n⟩:=p
 dsimp only
 split
 ·exact SR.pure rfl
 ·exact eT l1.2 _ _ _ _
def ql(ρ:Ren)(x y:Option Value):Prop:=(x=none∧y=none)∨∃a a',x=some a∧y=some a'∧VR ρ a a'
theorem ql.mono{ρ':Ren}(l:Le ρ ρ'){x y:Option Value}(h:ql ρ x y):ql ρ' x y:=by
 rcases h with h|⟨a,a',e1,e2,h⟩
 ·exact .inl h
 ·exact .inr ⟨a,a',e1,e2,h.mono l⟩
theorem Zj(hi:dL ρ){x y:Option Value}(h:ql ρ x y)(len:Nat)(c:BoundsCode)(d:Nat):
 SR P lZ ρ (match x with|some v=>Instr.sliceBound v len c|none=>pure d) (match y with|some v=>Instr.sliceBound v len c|none=>pure d):=by
 rcases h with⟨rfl,rfl⟩|⟨a,a',rfl,rfl,ha⟩
 ·exact SR.pure rfl
 ·exact fO hi ha _ _
theorem SR.aN{α γ δ:Type}{R:Ren→γ→δ→Prop}{s s':Sem α}{f:α→Sem γ}{f':α→Sem δ}(hi:dL ρ)(h:SR P lZ ρ s s')(hf:∀ρ',Ext ρ ρ'→∀a,SR P R ρ' (f a) (f' a)):SR P R ρ (s >>= f) (s' >>= f'):=
 h.bind' hi fun ρ' l a b e=>by cases e;exact hf ρ' l a
def sd(x:Option Value)(h m:Nat)(c:BoundsCode):Sem (Nat × Nat × Nat):=match x with|some v=>(do let l ← Instr.sliceBound v h c;pure (l,h,m))|none=>(do let l ← pure 0;pure (l,h,m))
theorem Ef(hi:dL ρ){x x':Option Value}(hx:ql ρ x x')(h m:Nat)(c:BoundsCode):SR P lZ ρ (sd x h m c) (sd x' h m c):=by
 rcases hx with⟨rfl,rfl⟩|⟨v,v',rfl,rfl,hv⟩
 ·exact SR.pure rfl
 ·exact(fO hi hv _ _).aN hi fun _ _ _=>SR.pure rfl
theorem eY(hi:dL ρ)(s:Bool)(len cap:Nat){x x' y y' z z':Option Value}(hx:ql ρ x x')(hy:ql ρ y y')(hz:ql ρ z z'):SR P lZ ρ (Instr.sliceBounds s len cap x y z) (Instr.sliceBounds s len cap x' y' z'):=by
 unfold Instr.sliceBounds
 dsimp only
 rcases hz with⟨rfl,rfl⟩|⟨vz,vz',rfl,rfl,T0⟩
 ·dsimp only
  refine SR.aN hi (SR.pure rfl) fun ρ1 l1 m=>?_
  rcases hy with⟨rfl,rfl⟩|⟨vy,vy',rfl,rfl,Hs⟩
  ·dsimp only
   exact SR.aN l1.2 (SR.pure rfl) fun ρ2 l2 h=>Ef l2.2 (hx.mono (l1.1.trans l2.1)) _ _ _
  ·dsimp only
   exact SR.aN l1.2 (fO l1.2 (Hs.mono l1.1) _ _) fun ρ2 l2 h=>Ef l2.2 (hx.mono (l1.1.trans l2.1)) _ _ _
 ·dsimp only
  refine SR.aN hi (fO hi T0 _ _) fun ρ1 l1 m=>?_
  rcases hy with⟨rfl,rfl⟩|⟨vy,vy',rfl,rfl,Hs⟩
  ·exact trivial
  ·dsimp only
   exact SR.aN l1.2 (fO l1.2 (Hs.mono l1.1) _ _) fun ρ2 l2 h=>Ef l2.2 (hx.mono (l1.1.trans l2.1)) _ _ _
theorem wm{v v':Value}(h:VR ρ v v'):SR P AR ρ (asAddr v) (asAddr v'):=by
 cases h with
 | ptr h=>exact SR.pure h
 | xH=>exact aR (e:=.nilDeref) zs zs
 | _=>exact trivial
theorem OZ(hi:dL ρ)(t:TypeId){v v':Value}(hv:VR ρ v v'){x x' y y' z z':Option Value}(hx:ql ρ x x')(hy:ql ρ y y')(hz:ql ρ z z'):SR P VR ρ (Instr.slice t v x y z) (Instr.slice t v' x' y' z'):=by
 unfold Instr.slice
 refine(aL t).aN hi fun ρ1 l1 d=>?_
 have hv1:=hv.mono l1.1
 have hx1:=hx.mono l1.1
 have hy1:=hy.mono l1.1
 have hz1:=hz.mono l1.1
 cases d with
 | string=>
   cases hv1 with
   | string s=>
     dsimp only
     rcases hz1 with⟨rfl,rfl⟩|⟨vz,vz',rfl,rfl,T0⟩
     ·exact(eY l1.2 false s.size s.size hx1 hy1 (.inl ⟨rfl,rfl⟩)).aN l1.2 fun _ _ p=>SR.pure (.string _)
     ·exact trivial
   | _=>exact trivial
 | slice e=>
   cases hv1 with
   | xQ len cap=>
     refine(eY l1.2 true len cap hx1 hy1 hz1).aN l1.2 fun ρ2 l2 p=>?_
     refine(aX l2.2 e).aN l2.2 fun ρ3 l3 m=>?_
     refine SR.pure ?_
     simp only[Option.map_none,ite_self]
     exact .xQ _ _
   | sl len cap ha=>
     refine(eY l1.2 true len cap hx1 hy1 hz1).aN l1.2 fun ρ2 l2 p=>?_
     refine(aX l2.2 e).aN l2.2 fun ρ3 l3 m=>?_
     refine SR.pure ?_
     have Zu:=ha.mono (l2.1.trans l3.1)
     split
     ·exact .sl _ _ Zu
     ·exact .sl _ _ (Zu.add _)
   | _=>exact trivial
 | pointer arr=>
   refine(wm hv1).bind' l1.2 fun ρ2 l2 a a' ha=>?_
   refine(aL arr).aN l2.2 fun ρ3 l3 d=>?_
   cases d with
   | array n e=>
     refine(eY l3.2 false n n (hx1.mono (l2.1.trans l3.1)) (hy1.mono (l2.1.trans l3.1)) (hz1.mono (l2.1.trans l3.1))).aN l3.2 fun ρ4 l4 p=>?_
     refine(aX l4.2 e).aN l4.2 fun ρ5 l5 m=>?_
     refine SR.pure ?_
     have Zu:=ha.mono (l3.1.trans (l4.1.trans l5.1))
     split
     ·exact .sl _ _ Zu
     ·exact .sl _ _ (Zu.add _)
   | _=>exact trivial
 | _=>exact trivial
theorem Hf(hi:dL ρ)(t:TypeId){v v':Value}(hv:VR ρ v v'){x x' y y' z z':Option Value}(hx:ql ρ x x')(hy:ql ρ y y')(hz:ql ρ z z'):SR P VR ρ (Instr.sliceAt t v x y z) (Instr.sliceAt t v' x' y' z'):=by
 unfold Instr.sliceAt
 refine(aL t).aN hi fun ρ1 l1 d=>?_
 have hv1:=hv.mono l1.1
 have hx1:=hx.mono l1.1
 have hy1:=hy.mono l1.1
 have hz1:=hz.mono l1.1
 cases d with
 | array n e=>
   refine(gU hv1).bind' l1.2 fun ρ2 l2 a a' ha=>?_
   refine(eY l2.2 false n n (hx1.mono l2.1) (hy1.mono l2.1) (hz1.mono l2.1)).aN l2.2 fun ρ4 l4 p=>?_
   refine(aX l4.2 e).aN l4.2 fun ρ5 l5 m=>?_
   refine SR.pure ?_
   have Zu:=ha.mono (l4.1.trans l5.1)
   split
   ·exact .sl _ _ Zu
   ·exact .sl _ _ (Zu.add _)
 | _=>exact OZ l1.2 t hv1 hx1 hy1 hz1
theorem JO(op:BinOp)(k:IntKind)(x y:Int):SR P VR ρ (Op.intDiv op k x y) (Op.intDiv op k x y):=by
 unfold Op.intDiv
 split
 ·exact aR (e:=.error _) zs zs
 ·split
  ·exact SR.pure (.int _ _)
  ·exact SR.pure (.int _ _)
  ·exact trivial
theorem OY(op:BinOp)(k yk:IntKind)(x y:Int):SR P VR ρ (Op.shift op k x yk y) (Op.shift op k x yk y):=by
 unfold Op.shift
 split
 ·exact aR (e:=.error _) zs zs
 ·dsimp only
  split
  ·exact SR.pure (.int _ _)
  ·exact SR.pure (.int _ _)
  ·exact trivial
theorem JM(op:BinOp)(x y:Int):SR P VR ρ (Op.intCmp op x y) (Op.intCmp op x y):=by
 unfold Op.intCmp
 split <;> first|exact SR.pure (.bool _)|exact trivial
theorem D7(op:BinOp)(k:IntKind)(x y:Int):SR P VR ρ (Op.intArith op k x y) (Op.intArith op k x y):=by
 unfold Op.intArith
 split <;> first|exact SR.pure (.int _ _)|exact trivial
theorem Gp(op:BinOp)(k:IntKind)(x y:Int):SR P VR ρ (Op.intBits op k x y) (Op.intBits op k x y):=by
 unfold Op.intBits
 dsimp only
 split <;> first|exact SR.pure (.int _ _)|exact trivial
theorem uY(hi:dL ρ)(op:BinOp)(k:FloatKind)(x y:Nat):SR P VR ρ (Op.floatArith op k x y) (Op.floatArith op k x y):=by
 unfold Op.floatArith
 have tail:∀ {ρ':Ren} (r:Option Nat),SR P VR ρ' (match r with|some r=>pure (.float k r)|none=>do pure (.float k (← choose (.nanBits k x y))):Sem Value) (match r with|some r=>pure (.float k r)|none=>do pure (.float k (← choose (.nanBits k x y))):Sem Value):=by
  intro ρ' r
  cases r with
  | some r=>exact SR.pure (.float _ _)
  | none=>exact⟨_,rfl,fun n=>⟨_,rfl,.float _ _⟩⟩
 cases op <;> first|exact trivial|exact tail _
theorem Ae(op:BinOp)(k:FloatKind)(x y:Nat):SR P VR ρ (Op.floatCmp op k x y) (Op.floatCmp op k x y):=by
 unfold Op.floatCmp
 cases op <;> first|exact trivial|exact SR.pure (.bool _)
theorem kY(op:BinOp)(x y:ByteArray):SR P VR ρ (Op.stringOp op x y) (Op.stringOp op x y):=by
 unfold Op.stringOp
 cases op <;> dsimp only <;> first|exact trivial|exact SR.pure (.bool _)|(split <;> first|exact trivial|exact SR.pure (.string _))
def Cl{α:Type}(P:Program)(s:Sem α):Prop:=∀ {ρ:Ren},dL ρ→SR P lZ ρ s s
theorem Cl.pure{α:Type}(a:α):Cl P (Pure.pure a:Sem α):=fun _=>SR.pure rfl
theorem Cl.bind{α β:Type}{s:Sem α}{f:α→Sem β}(h:Cl P s)(hf:∀a,Cl P (f a)):Cl P (s >>= f):=fun hi=>(h hi).aN hi fun _ l a=>hf a l.2
theorem Cl.stuck{α:Type}(w:String):Cl P (Go.stuck w:Sem α):=fun _=>trivial
theorem Cl.choose(q:Question):Cl P (Go.choose q):=fun _=>oq q
theorem Cl.ite{α:Type}{c:Prop}[Decidable c]{s t:Sem α}(h:Cl P s)(k:Cl P t):Cl P (if c then s else t):=by split <;> assumption
theorem Ab(op:BinOp)(k:FloatKind)(x y:Nat):Cl P (Op.floatArith op k x y):=by
 unfold Op.floatArith
 have tail:∀ (r:Option Nat),Cl P (match r with|some r=>Pure.pure (.float k r)|none=>do Pure.pure (.float k (← Go.choose (.nanBits k x y))):Sem Value):=by
  intro r
  cases r with
  | some r=>exact Cl.pure _
  | none=>exact Cl.bind (Cl.choose _) fun _=>Cl.pure _
 cases op <;> first|exact(fun{_} _=>trivial)|exact(fun{_} hi=>tail _ hi)
theorem FD(op:BinOp)(k:FloatKind)(x y:Nat):Cl P (Op.floatCmp op k x y):=by
 unfold Op.floatCmp
 cases op <;> first|exact(fun{_} _=>trivial)|exact Cl.pure _
theorem cE(s:FloatKind)(x:Nat)(d:FloatKind):Cl P (Conv.floatToFloat s x d):=by
 unfold Conv.floatToFloat
 split
 ·exact Cl.pure _
 ·split
  ·exact Cl.bind (Cl.choose _) fun _=>Cl.pure _
  ·exact Cl.pure _
  ·dsimp only
   split
   ·exact Cl.bind (Cl.choose _) fun _=>Cl.pure _
   ·exact Cl.pure _
theorem ru(op:BinOp)(k:FloatKind)(x y:Nat):Cl P (Op.Complex.arith op k x y):=by
 unfold Op.Complex.arith
 refine Cl.bind (Ab _ _ _ _) fun v=>?_
 cases v <;> first|exact Cl.pure _|exact(fun{_} _=>trivial)
theorem Jt(op:BinOp)(k:FloatKind)(x y:Nat):Cl P (Op.Complex.cmp op k x y):=by
 unfold Op.Complex.cmp
 refine Cl.bind (FD _ _ _ _) fun v=>?_
 cases v <;> first|exact Cl.pure _|exact(fun{_} _=>trivial)
theorem Wh(s:FloatKind)(x:Nat)(d:FloatKind):Cl P (Op.Complex.conv s x d):=by
 unfold Op.Complex.conv
 split
 ·exact Cl.pure _
 ·refine Cl.bind (cE _ _ _) fun v=>?_
  cases v <;> first|exact Cl.pure _|exact(fun{_} _=>trivial)
theorem Ju(a b c d:Nat):Cl P (Op.Complex.product a b c d):=by
 unfold Op.Complex.product
 repeat first|exact Cl.pure _|refine Cl.bind (ru _ _ _ _) fun _=>?_
theorem DC(s a b c d:Nat):Cl P (Op.Complex.corrected s a b c d):=by
 unfold Op.Complex.corrected
 repeat first|exact Cl.pure _|refine Cl.bind (ru _ _ _ _) fun _=>?_
theorem FE(a b c d:Nat):Cl P (Op.Complex.quotient a b c d):=by
 unfold Op.Complex.quotient
 dsimp only
 refine Cl.bind (Jt _ _ _ _) fun x=>?_
 repeat' first
  | (with_reducible exact Cl.pure _)
  | (with_reducible exact DC _ _ _ _ _)
  | (with_reducible refine Cl.bind (ru _ _ _ _) fun _=>?_)
  | (with_reducible refine Cl.bind (Jt _ _ _ _) fun _=>?_)
  | (with_reducible refine Cl.bind (Cl.pure _) fun _=>?_)
  | (with_reducible refine Cl.ite ?_ ?_)
  | split
  | dsimp only
def vL(P:Program)(t:TypeId):Bool:=match P.info? t with
 | some i=>(match i.desc with| .named "sync.copyChecker" _=>false|_=>true)
 | none=>true
theorem gT{α β:Type}{R:Ren→α→β→Prop}{t:TypeId}{f:TypeDesc→Sem α}{f':TypeDesc→Sem β}(hR:∀d,P.underlying t=some d→SR P R ρ (f d) (f' d)):SR P R ρ (underlying t >>= f) (underlying t >>= f'):=by
 refine⟨_,rfl,?_⟩
 have e:∀o,P.underlying t=o→SR P R ρ (Sem.bind (match o with|some d=>pure d|none=>stuck "no such type") f) (Sem.bind (match o with|some d=>pure d|none=>stuck "no such type") f'):=by
  intro o ho
  cases o with
  | none=>exact trivial
  | some d=>exact hR d ho
 exact e _ rfl
theorem XW{α β:Type}{R:Ren→α→β→Prop}{t:TypeId}{f:TypeInfo→Sem α}{f':TypeInfo→Sem β}(hR:∀d,P.info? t=some d→SR P R ρ (f d) (f' d)):SR P R ρ (typeInfo t >>= f) (typeInfo t >>= f'):=by
 refine⟨_,rfl,?_⟩
 have e:∀o,P.info? t=o→SR P R ρ (Sem.bind (match o with|some d=>pure d|none=>stuck "no such type") f) (Sem.bind (match o with|some d=>pure d|none=>stuck "no such type") f'):=by
  intro o ho
  cases o with
  | none=>exact trivial
  | some d=>exact hR d ho
 exact e _ rfl
theorem xg(op:BinOp)(t:TypeId)(k k':IntKind)(a b:Int):SR P VR ρ (binOp op t (.int k a) (.int k' b)) (binOp op t (.int k a) (.int k' b)):=by
 cases op <;> (unfold binOp;dsimp only) <;> first
  | exact OY _ _ _ _ _
  | (split <;> first|exact trivial|exact D7 _ _ _ _|exact JO _ _ _ _|exact Gp _ _ _ _|exact JM _ _ _)
theorem qB(hi:dL ρ)(op:BinOp)(t:TypeId)(k k':FloatKind)(a b:Nat):SR P VR ρ (binOp op t (.float k a) (.float k' b)) (binOp op t (.float k a) (.float k' b)):=by
 cases op <;> (unfold binOp;dsimp only) <;> first
  | exact trivial
  | (split <;> first|exact trivial|exact uY hi _ _ _ _|exact Ae _ _ _ _)
def bG:BinOp→Bool
 | .eql| .neq=>false
 | _=>true
def Ba(P:Program)(s:Sem Value):Prop:=∀ρ:Ren,dL ρ→SR P VR ρ s s
theorem Ba.bind{α:Type}{s:Sem α}{f:α→Sem Value}(h:Cl P s)(hf:∀a,Ba P (f a)):Ba P (s >>= f):=fun _ hi=>(h hi).aN hi fun _ l a=>hf a _ l.2
theorem Ba.ite{c:Prop}[Decidable c]{s t:Sem Value}(h:Ba P s)(k:Ba P t):Ba P (if c then s else t):=by split <;> assumption
theorem Ba.complex(k:FloatKind)(a b:Nat):Ba P (Pure.pure (.complex k a b):Sem Value):=fun _ _=>SR.pure (.complex _ _ _)
theorem Ba.bool(b:Bool):Ba P (Pure.pure (.bool b):Sem Value):=fun _ _=>SR.pure (.bool _)
theorem nE(op:BinOp)(k:FloatKind)(a b c d:Nat):Ba P (Op.complexOp op k a b c d):=by
 unfold Op.complexOp
 cases op <;> dsimp only <;> first
  | exact(fun _ _=>trivial)
  | (repeat' first
   | (with_reducible exact Ba.complex _ _ _)
   | (with_reducible exact Ba.bool _)
   | (with_reducible refine Ba.bind (ru _ _ _ _) fun _=>?_)
   | (with_reducible refine Ba.bind (Jt _ _ _ _) fun _=>?_)
   | (with_reducible refine Ba.bind (Wh _ _ _) fun _=>?_)
   | (with_reducible refine Ba.bind (Ju _ _ _ _) fun _=>?_)
   | (with_reducible refine Ba.bind (FE _ _ _ _) fun _=>?_)
   | (with_reducible refine Ba.ite ?_ ?_))
theorem iO(hi:dL ρ){ts:Array TypeId}{t:TypeId}{x x' y y':Value}(hx:VR ρ x x')(hy:VR ρ y y'):SR P VR ρ (Builtin.unsafeAdd_ ts t #[x,y]) (Builtin.unsafeAdd_ ts t #[x',y']):=by
 unfold Builtin.unsafeAdd_
 cases hx with
 | xH=>
   dsimp only
   refine(Bt hi hy).aN hi fun ρ1 l1 n=>?_
   split
   ·exact trivial
   ·split <;> exact trivial
 | ptr ha=>
   dsimp only
   refine(Bt hi hy).aN hi fun ρ1 l1 n=>?_
   split
   ·refine(yG l1.2 (l1.1 _ _ ha.1)).bind' l1.2 ?_
    rintro ρ2 l2 u v ⟨rfl,rfl⟩
    exact SR.pure (.ptr (ha.mono (l1.1.trans l2.1)))
   ·split
    ·exact trivial
    ·refine(nT (l1.1 _ _ ha.1)).aN l1.2 fun ρ2 l2 u=>?_
     cases u with
     | none=>exact trivial
     | some u=>
       obtain⟨e,c⟩:=u
       dsimp only
       refine iH.bind' l2.2 ?_
       rintro ρ3 l3 Q Q' ⟨rfl,rfl⟩
       rw[ha.2.1]
       cases cellAtBytes Q' Q'.depth e (c / Q'.cellsOf e) _ n with
       | none=>exact trivial
       | some o=>exact SR.pure (.ptr ⟨l3.1 _ _ (l2.1 _ _ (l1.1 _ _ ha.1)),rfl,ha.2.2⟩)
 | _=>exact trivial
theorem dM(hi:dL ρ)(t:TypeId){x x' y y':Value}(hx:VR ρ x x')(hy:VR ρ y y'):SR P VR ρ (movedNumber t x y) (movedNumber t x' y'):=by
 unfold movedNumber
 refine(aL t).aN hi fun ρ1 l1 d=>?_
 dsimp only
 have rest:SR P VR ρ1 (do
  let .pointer (some n):=x|Builtin.unsafeAdd_ #[] t #[x,y]
  let (a,lost) ← behindNumber n
  match ← Builtin.unsafeAdd_ #[] t #[.pointer (some a),y] with
  | .pointer (some b)=>asNumber b lost
  | v=>pure v) (do
  let .pointer (some n):=x'|Builtin.unsafeAdd_ #[] t #[x',y']
  let (a,lost) ← behindNumber n
  match ← Builtin.unsafeAdd_ #[] t #[.pointer (some a),y'] with
  | .pointer (some b)=>asNumber b lost
  | v=>pure v):=by
  have hy1:=hy.mono l1.1
  have hx1:=hx.mono l1.1
  have hu:=iO (P:=P) l1.2 (ts:=#[]) (t:=t) hx1 hy1
  cases hx1 with
  | ptr ha=>
    dsimp only
    refine(aZ l1.2 ha).bind' l1.2 ?_
    rintro ρ2 l2 p p' ⟨hp,e⟩
    obtain⟨p,b⟩:=p
    obtain⟨p',b'⟩:=p'
    cases e
    dsimp only
    refine(iO l2.2 (.ptr hp) (hy1.mono l2.1)).bind' l2.2 ?_
    intro ρ3 l3 v v' hv
    cases hv with
    | ptr hb=>exact Du hb _ l3.2
    | _=>exact SR.pure (by constructor <;> assumption)
  | _=>exact hu
 cases d <;> first|exact rest|exact trivial
theorem lI(hi:dL ρ)(t:TypeId){x x' y y':Value}(hx:VR ρ x x')(hy:VR ρ y y'):SR P VR ρ (movedPointer t x y) (movedPointer t x' y'):=by
 unfold movedPointer
 have hu:=iO (P:=P) hi (ts:=#[]) (t:=t) hx hy
 cases hx with
 | ptr ha=>
   dsimp only
   refine(rQ hi ha.1).bind' hi ?_
   rintro ρ1 l1 p p' (⟨rfl,rfl⟩|⟨b,b',l,rfl,rfl,hb⟩)
   ·exact iO (ts:=#[]) (t:=t) l1.2 (.ptr (ha.mono l1.1)) (hy.mono l1.1)
   ·exact trivial
 | _=>exact hu
theorem ug(hi:dL ρ)(k:IntKind){a a':Addr}(ha:AR ρ a a')(n:Int):SR P VR ρ (Op.addrMod k a n) (Op.addrMod k a' n):=by
 unfold Op.addrMod
 refine(nT ha.1).aN hi fun ρ1 l1 u=>?_
 cases u with
 | none=>exact trivial
 | some u=>
   obtain⟨e,c⟩:=u
   dsimp only
   refine(fZ e).aN l1.2 fun ρ2 l2 i=>?_
   split
   ·exact trivial
   ·exact(qw l2.2 (ha.mono (l1.1.trans l2.1))).aN l2.2 fun _ _ b=>SR.pure (.int _ _)
theorem p8(hg:P.globals.size=0)(hi:dL ρ)(a b a' b':Addr):SR P (fun _ _ _=>False) ρ (Op.twoPlaces a b) (Op.twoPlaces a' b'):=by
 unfold Op.twoPlaces
 refine iH.bind' hi ?_
 rintro ρ1 l1 Q Q' ⟨rfl,rfl⟩
 have e:∀ (a b:Addr),(a.block != b.block || decide (a.block≥Q'.globals.size))=true:=fun a b=>by simp[hg]
 dsimp only
 simp only[e,if_true]
 exact trivial
theorem Fe(hg:P.globals.size=0)(hi:dL ρ)(k:IntKind)(a b a' b':Addr):SR P VR ρ (Op.addrSub k a b) (Op.addrSub k a' b'):=(p8 hg hi a b a' b').bind' hi fun _ _ _ _ h=>h.elim
theorem Fb(hg:P.globals.size=0)(hi:dL ρ)(op:BinOp)(a b a' b':Addr):SR P VR ρ (Op.addrCmp op a b) (Op.addrCmp op a' b'):=(p8 hg hi a b a' b').bind' hi fun _ _ _ _ h=>h.elim
theorem Np(hg:P.globals.size=0)(hi:dL ρ)(op:BinOp)(ho:bG op=true)(t:TypeId){x x' y y':Value}(hx:VR ρ x x')(hy:VR ρ y y'):SR P VR ρ (binOp op t x y) (binOp op t x' y'):=by
 cases hx with
 | int k n=>
   cases hy with
   | int k' n'=>exact xg op t k k' n n'
   | ptr hb=>cases op <;> first|exact trivial|exact dM hi t (.ptr hb) (.int k n)|exact(aZ hi hb).bind' hi fun _ l _ _ hp=>ug l.2 _ hp.1 _|simp[bG] at ho
   | xH=>cases op <;> first|exact trivial|exact dM hi t .xH (.int k n)|simp[bG] at ho
   | _=>cases op <;> first|exact trivial|simp[bG] at ho
 | float k n=>
   cases hy with
   | float k' n'=>exact qB hi op t k k' n n'
   | _=>cases op <;> first|exact trivial|simp[bG] at ho
 | complex k m n=>
   cases hy with
   | complex k' m' n'=>
     cases op <;> (unfold binOp;dsimp only) <;> (split <;> first|exact trivial|exact nE _ _ _ _ _ _ _ hi)
   | _=>cases op <;> first|exact trivial|simp[bG] at ho
 | string s=>
   cases hy with
   | string s'=>cases op <;> (unfold binOp;dsimp only;exact kY _ _ _)
   | _=>cases op <;> first|exact trivial|simp[bG] at ho
 | ptr ha=>
   cases hy with
   | int k n=>cases op <;> first
    | exact trivial
    | (refine(aL t).aN hi fun ρ1 l1 d=>?_
       cases d <;> first|exact dM l1.2 t (.ptr (ha.mono l1.1)) (.int k n)|exact lI l1.2 t (.ptr (ha.mono l1.1)) (.int k n))
    | exact dM hi t (.ptr ha) (.int k _)
    | exact(aZ hi ha).bind' hi fun _ l _ _ hp=>ug l.2 _ hp.1 _
    | simp[bG] at ho
   | ptr hb=>cases op <;> first
    | exact trivial
    | exact(aZ hi ha).bind' hi fun _ l _ _ hp=>(aZ l.2 (hb.mono l.1)).bind' l.2 fun _ l2 _ _ hq=>Fe hg l2.2 _ _ _ _ _
    | exact(aZ hi ha).bind' hi fun _ l _ _ hp=>(aZ l.2 (hb.mono l.1)).bind' l.2 fun _ l2 _ _ hq=>Fb hg l2.2 _ _ _ _ _
    | simp[bG] at ho
   | _=>cases op <;> first|exact trivial|simp[bG] at ho
 | xH=>
   cases hy with
   | int k n=>cases op <;> first
    | exact trivial
    | (refine(aL t).aN hi fun ρ1 l1 d=>?_
       cases d <;> first|exact dM l1.2 t .xH (.int k n)|exact lI l1.2 t .xH (.int k n))
    | exact dM hi t .xH (.int k _)
    | simp[bG] at ho
   | _=>cases op <;> first|exact trivial|simp[bG] at ho
 | _=>cases hy <;> cases op <;> first|exact trivial|simp[bG] at ho
theorem iL{op:BinOp}(ho:bG op=true)(t:TypeId)(x y:Operand)(a b:Value):eqGuard op t x y a b=pure ():=by
 cases op <;> first|rfl|simp[bG] at ho
structure Di(P:Program)(t:TypeId):Prop where
 und:∃k,P.underlying t=some (.int k)
 copy:vL P t=true
 guard:P.eqGuardType P.depth t=false
theorem F7{t:TypeId}{k:IntKind}(h:P.underlying t=some (.int k))(hi:dL ρ)(d:Nat)(a b:Value):SR P (fun _ x y=>x=false∧y=false) ρ (Op.eqGuardIn (d+1) t a b) (Op.eqGuardIn (d+1) t a b):=by
 unfold Op.eqGuardIn
 refine gT fun u hu=>?_
 rw[h] at hu
 cases hu
 exact⟨_,rfl,rfl,rfl⟩
theorem FQ{t:TypeId}(hT:Di P t)(hi:dL ρ)(op:BinOp)(x y:Operand){a a' b b':Value}(ha:VR ρ a a')(hb:VR ρ b b'):SR P lZ ρ (eqGuard op t x y a b) (eqGuard op t x y a' b'):=by
 obtain⟨k,hk⟩:=hT.und
 have e1:SR P lZ ρ (do if ← Op.eqGuardIn Op.maxDepth t .nilIface .nilIface then unsupported (.noEntry tf)) (do if ← Op.eqGuardIn Op.maxDepth t .nilIface .nilIface then unsupported (.noEntry tf)):=by
  refine(F7 hk hi 9999 _ _).bind' hi ?_
  rintro ρ1 l1 u v ⟨rfl,rfl⟩
  exact SR.pure rfl
 have one:∀op,bG op=false→SR P lZ ρ (eqGuard op t x y a b) (eqGuard op t x y a' b'):=by
  intro op ho
  cases op <;> first|(simp[bG] at ho;done)|skip
  all_goals
   unfold eqGuard
   cases ha with
   | nilIface=>
     cases hb with
     | nilIface=>
       dsimp only
       cases x <;> cases y <;> first|exact SR.pure rfl|exact e1
     | _=>exact SR.pure rfl
   | agg e h=>
     cases hb with
     | agg e h=>
       dsimp only
       refine iH.bind' hi ?_
       rintro ρ1 l1 Q Q' ⟨rfl,rfl⟩
       refine iH.bind' l1.2 ?_
       rintro ρ2 l2 Q Q2 ⟨rfl,rfl⟩
       simp only[hT.guard]
       exact SR.pure rfl
     | _=>exact SR.pure rfl
   | _=>exact SR.pure rfl
 cases ho:bG op with
 | true=>rw[iL ho,iL ho];exact SR.pure rfl
 | false=>exact one op ho
theorem P7{x x':Value}(hx:VR ρ x x'):SR P VR ρ (Op.unary .not x) (Op.unary .not x'):=by
 cases hx <;> first|exact SR.pure (.bool _)|exact trivial
theorem pq(hg:P.globals.size=0){t:TypeId}(hT:Di P t)(hi:dL ρ){x x' y y':Value}(hx:VR ρ x x')(hy:VR ρ y y'):SR P lZ ρ (Op.equal t x y) (Op.equal t x' y'):=by
 obtain⟨k,hk⟩:=hT.und
 have h:=hT.copy
 show SR P lZ ρ (Op.equalIn (9999+1) t x y) (Op.equalIn (9999+1) t x' y')
 unfold Op.equalIn
 refine gT fun u hu=>?_
 rw[hk] at hu
 cases hu
 cases hx with
 | int k1 n1=>
   cases hy with
   | int k2 n2=>dsimp only;split <;> first|exact SR.pure rfl|exact trivial
   | ptr ha=>cases n1 with
     | ofNat m=>cases m with
       | zero=>exact SR.pure rfl
       | succ m=>exact trivial
     | negSucc m=>exact trivial
   | _=>exact trivial
 | ptr ha=>
   cases hy with
   | int k2 n2=>cases n2 with
     | ofNat m=>cases m with
       | zero=>exact SR.pure rfl
       | succ m=>exact trivial
     | negSucc m=>exact trivial
   | ptr hb=>
     dsimp only
     refine(aZ hi ha).bind' hi ?_
     intro ρ1 l1 p p' hp
     refine(aZ l1.2 (hb.mono l1.1)).bind' l1.2 ?_
     intro ρ2 l2 q q' hq
     refine iH.bind' l2.2 ?_
     rintro ρ3 l3 Q Q' ⟨rfl,rfl⟩
     have e1:∀ (a b:Addr),(a.block == b.block && decide (a.block<Q'.globals.size))=false:=fun a b=>by simp[hg]
     simp only[e1,Bool.false_eq_true,if_false]
     refine XW fun i hti=>?_
     replace h:vL Q' t=true:=h
     unfold vL at h
     rw[hti] at h
     dsimp only at h
     split
     ·rename_i he
      rw[he] at h
      simp at h
     ·exact trivial
   | _=>exact trivial
 | _=>cases hy <;> exact trivial
theorem Jj(hg:P.globals.size=0){t:TypeId}(hT:Di P t)(hi:dL ρ){x x' y y':Value}(hx:VR ρ x x')(hy:VR ρ y y'):SR P VR ρ (binOp .eql t x y) (binOp .eql t x' y'):=by
 have h1:SR P VR ρ (do pure (.bool (← Op.equal t x y))) (do pure (.bool (← Op.equal t x' y'))):=(pq hg hT hi hx hy).aN hi fun _ _ b=>SR.pure (.bool _)
 cases hx with
 | int k n=>cases hy with
   | int k' n'=>exact xg _ t k k' n n'
   | _=>exact h1
 | float k n=>cases hy with
   | float k' n'=>exact qB hi _ t k k' n n'
   | _=>exact h1
 | complex k m n=>cases hy with
   | complex k' m' n'=>unfold binOp;dsimp only;(split <;> first|exact trivial|exact nE _ _ _ _ _ _ _ hi)
   | _=>exact h1
 | string a=>cases hy with
   | string b=>unfold binOp;dsimp only;exact kY _ _ _
   | _=>exact h1
 | _=>exact h1
theorem Jk(hg:P.globals.size=0){t:TypeId}(hT:Di P t)(hi:dL ρ){x x' y y':Value}(hx:VR ρ x x')(hy:VR ρ y y'):SR P VR ρ (binOp .neq t x y) (binOp .neq t x' y'):=by
 have h1:SR P VR ρ (do pure (.bool (!(← Op.equal t x y)))) (do pure (.bool (!(← Op.equal t x' y')))):=(pq hg hT hi hx hy).aN hi fun _ _ b=>SR.pure (.bool _)
 cases hx with
 | int k n=>cases hy with
   | int k' n'=>exact xg _ t k k' n n'
   | _=>exact h1
 | float k n=>cases hy with
   | float k' n'=>exact qB hi _ t k k' n n'
   | _=>exact h1
 | complex k m n=>cases hy with
   | complex k' m' n'=>unfold binOp;dsimp only;(split <;> first|exact trivial|exact nE _ _ _ _ _ _ _ hi)
   | _=>exact h1
 | string a=>cases hy with
   | string b=>unfold binOp;dsimp only;exact kY _ _ _
   | _=>exact h1
 | _=>exact h1
theorem Nn(hg:P.globals.size=0){t:TypeId}(hT:Di P t)(hi:dL ρ)(op:BinOp)(ho:bG op=false){x x' y y':Value}(hx:VR ρ x x')(hy:VR ρ y y'):SR P VR ρ (binOp op t x y) (binOp op t x' y'):=by
 cases op <;> first|exact Jj hg hT hi hx hy|exact Jk hg hT hi hx hy|simp[bG] at ho
end
end Go.cu
