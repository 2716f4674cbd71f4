/- Par4 Par5 Par6 Par7 Par8 Par9 -/
import Derived.Test.YthaelabgfnnebaaGreatB8
import Derived.Laws.Sem
set_option maxRecDepth 100000
set_option maxHeartbeats 16000000
set_option linter.unusedVariables false
set_option linter.unusedSectionVars false
namespace Go.cu
section
variable[Inhabited aS]
variable{P:Program}{ρ:Ren}
theorem wB{f:Array Value→Value × Nat→Array Value}{off:Nat}(hf:∀cs c j,f cs (c,j)=cs.setIfInBounds (off+j) c):∀ {l l':List Value},LR ρ l l'→∀ (k:Nat) {c c':Array Value},dU ρ c c'→dU ρ ((l.zipIdx k).foldl f c) ((l'.zipIdx k).foldl f c'):=by
 intro l l' h
 induction h with
 | nil=>exact fun _ _ _ h=>h
 | cons hv _ ih=>
   intro k c c' hc
   simp only[List.zipIdx_cons,List.foldl_cons,hf]
   exact ih (k+1) (hc.set _ hv)
inductive jG (ρ:Ren):List (Nat × Value)→List (Nat × Value)→Prop
 | nil:jG ρ [] []
 | cons (i:Nat) {v v':Value} {l l':List (Nat × Value)}:VR ρ v v'→jG ρ l l'→jG ρ ((i,v) :: l) ((i,v') :: l')
theorem vZ(place:Nat→Option (Nat × Nat)):∀ {l l':List (Nat × Value)},jG ρ l l'→∀ {c c':Array Value},dU ρ c c'→
 (Instr.fill place c l=none∧Instr.fill place c' l'=none)∨∃x x',Instr.fill place c l=some x∧Instr.fill place c' l'=some x'∧dU ρ x x':=by
 intro l l' h
 induction h with
 | nil=>exact fun hc=>.inr ⟨_,_,rfl,rfl,hc⟩
 | cons i hv _ ih=>
   rename_i v v' l l' _
   intro c c' hc
   unfold Instr.fill
   cases place i with
   | none=>exact .inl ⟨rfl,rfl⟩
   | some p=>
     obtain⟨off,size⟩:=p
     have hcv:=hv.cells
     dsimp only
     rw[← hcv.1,← hc.1]
     cases (decide (v.cells.size≠size) || decide (off+v.cells.size > c.size)) with
     | true=>exact .inl ⟨rfl,rfl⟩
     | false=>
       refine ih ?_
       have:=wB (ρ:=ρ) (f:=fun cs x=>cs.setIfInBounds (off+x.2) x.1) (off:=off) (fun _ _ _=>rfl) hcv.list 0 hc
       rw[← Array.foldl_toList,← Array.foldl_toList,Array.toList_zipIdx,Array.toList_zipIdx]
       exact this
theorem JB{α β:Type}(f:α→Sem β)(hf:∀a {ρ:Ren},dI ρ→SR P lW ρ (f a) (f a)):∀l:List α,∀ {ρ:Ren},dI ρ→SR P lW ρ (l.mapM f) (l.mapM f):=by
 intro l
 induction l with
 | nil=>intro ρ hi;simp only[List.mapM_nil];exact SR.pure rfl
 | cons a l ih=>
   intro ρ hi
   simp only[List.mapM_cons]
   refine(hf a hi).bind' hi ?_
   intro ρ1 l1 x y e
   cases e
   refine(ih l1.2).bind' l1.2 ?_
   intro ρ2 l2 x y e
   cases e
   exact SR.pure rfl
theorem NG{α β:Type}(f:α→Sem β)(hf:∀a {ρ:Ren},dI ρ→SR P lW ρ (f a) (f a))(xs:Array α)(hi:dI ρ):SR P lW ρ (xs.mapM f) (xs.mapM f):=by
 rw[Array.mapM_eq_mapM_toList]
 have e:∀ (s:Sem (List β)),(Functor.map List.toArray s)=(s >>= fun l=>pure l.toArray):=fun s=>rfl
 rw[e]
 refine(JB f hf xs.toList hi).bind' hi ?_
 intro ρ1 l1 x y e
 cases e
 exact SR.pure rfl
theorem MJ(hi:dI ρ){t:TypeId}(hz:Mw P t){l l':Array (Nat × Value)}(h:jG ρ l.toList l'.toList)(hm:∀ {ρ'},Le ρ ρ'→jG ρ' l.toList l'.toList):SR P VR ρ (Instr.build t l) (Instr.build t l'):=by
 unfold Instr.build
 refine(iL hi hz).bind' hi ?_
 intro ρ1 l1 z z' hzz
 refine(aK t).bind' l1.2 ?_
 intro ρ2 l2 d d' e
 cases e
 cases d with
 | struct fs=>
   dsimp only
   refine(NG _ (fun f {ρ'} hi'=>(aT hi' f.type).bind' hi' fun _ _ _ _ e=>by cases e;exact SR.pure rfl) fs l2.2).bind' l2.2 ?_
   intro ρ3 l3 p p' e
   cases e
   rcases vZ (ρ:=ρ3) (p[·]?) (hm (l1.1.trans (l2.1.trans l3.1))) (hzz.mono (l2.1.trans l3.1)).cells with⟨e1,e2⟩|⟨x,x',e1,e2,hx⟩
   ·simp only[e1,e2];exact trivial
   ·simp only[e1,e2];exact SR.pure (.agg hx.1 hx.2)
 | array n el=>
   dsimp only
   refine(aT l2.2 el).bind' l2.2 ?_
   intro ρ3 l3 p p' e
   cases e
   rcases vZ (ρ:=ρ3) (fun i=>some (i * p,p)) (hm (l1.1.trans (l2.1.trans l3.1))) (hzz.mono (l2.1.trans l3.1)).cells with⟨e1,e2⟩|⟨x,x',e1,e2,hx⟩
   ·simp only[e1,e2];exact trivial
   ·simp only[e1,e2];exact SR.pure (.agg hx.1 hx.2)
 | _=>exact trivial
def kv{α β:Type}:Ren→Option α→Option β→Prop:=fun _ a b=>a=none∧b=none
theorem nO{r r':Nat}(h:ρ r=some r'):SR P lW ρ (shape r) (shape r'):=⟨_,_,rfl,h,fun x=>⟨x,rfl,rfl⟩⟩
theorem jy{r r':Nat}(h:ρ r=some r'):SR P OR ρ (getObj r) (getObj r'):=⟨_,_,rfl,h,fun _ _ o o' ho=>⟨o',rfl,ho⟩⟩
theorem oo{r r':Nat}(h:ρ r=some r'){o o':Obj}(ho:OR ρ o o'):SR P lW ρ (setObj r o) (setObj r' o'):=⟨_,_,_,rfl,h,ho,(),rfl,rfl⟩
theorem nX(q:Question):SR P lW ρ (choose q) (choose q):=⟨_,rfl,fun n=>⟨n,rfl,rfl⟩⟩
theorem xP(hi:dI ρ){r r':Nat}(h:ρ r=some r'):SR P kv ρ (viewAt r) (viewAt r'):=by
 unfold viewAt
 refine(nO h).bind' hi ?_
 intro ρ1 l1 x y e
 cases e
 cases x with
 | some x=>exact SR.pure ⟨rfl,rfl⟩
 | none=>
   refine(jy (l1.1 _ _ h)).bind' l1.2 ?_
   intro ρ2 l2 o o' ho
   cases ho <;> exact SR.pure ⟨rfl,rfl⟩
theorem JG(hi:dI ρ){a a':Addr}(h:AR ρ a a'):SR P lW ρ (noView a) (noView a'):=by
 unfold noView
 refine(xP hi h.1).bind' hi ?_
 rintro ρ1 l1 x y ⟨rfl,rfl⟩
 exact SR.pure rfl
def xc:Ren→Option (Addr × Bool)→Option (Addr × Bool)→Prop:=fun ρ x y=>(x=none∧y=none)∨∃a a' l,x=some (a,l)∧y=some (a',l)∧AR ρ a a'
theorem rF(hi:dI ρ){r r':Nat}(h:ρ r=some r'):SR P xc ρ (numberAt r) (numberAt r'):=by
 unfold numberAt
 refine(nO h).bind' hi ?_
 intro ρ1 l1 x y e
 cases e
 cases x with
 | some x=>exact SR.pure (.inl ⟨rfl,rfl⟩)
 | none=>
   refine(jy (l1.1 _ _ h)).bind' l1.2 ?_
   intro ρ2 l2 o o' ho
   cases ho with
   | cells e h f=>exact SR.pure (.inl ⟨rfl,rfl⟩)
   | map k h=>exact SR.pure (.inl ⟨rfl,rfl⟩)
   | number l h=>exact SR.pure (.inr ⟨_,_,_,rfl,rfl,h⟩)
   | loop h=>exact SR.pure (.inl ⟨rfl,rfl⟩)
   | defs h=>exact SR.pure (.inl ⟨rfl,rfl⟩)
def Pu:Ren→Addr × Bool→Addr × Bool→Prop:=fun ρ x y=>AR ρ x.1 y.1∧x.2=y.2
theorem aV(hi:dI ρ){a a':Addr}(h:AR ρ a a'):SR P Pu ρ (behindNumber a) (behindNumber a'):=by
 unfold behindNumber
 refine(rF hi h.1).bind' hi ?_
 rintro ρ1 l1 x y (⟨rfl,rfl⟩|⟨b,b',l,rfl,rfl,hb⟩)
 ·exact SR.pure ⟨h.mono l1.1,rfl⟩
 ·exact SR.pure ⟨hb,rfl⟩
theorem CO{a a':Addr}(h:AR ρ a a')(l:Bool)(hi:dI ρ):SR P VR ρ (asNumber a l) (asNumber a' l):=by
 unfold asNumber
 have:SR P (fun ρ r r'=>ρ r=some r') ρ (newObj (.number a l)) (newObj (.number a' l)):=⟨_,_,rfl,.number l h,fun _ _ r r' hr=>⟨r',rfl,hr⟩⟩
 refine this.bind' hi ?_
 intro ρ1 l1 r r' hr
 exact SR.pure (.ptr ⟨hr,rfl,rfl⟩)
theorem qj(hi:dI ρ){a a':Addr}(h:AR ρ a a'):SR P lW ρ (byteOf a) (byteOf a'):=by
 unfold byteOf
 rw[h.2.2,h.2.1]
 cases a.spot with
 | some s=>exact SR.pure rfl
 | none=>
   dsimp only
   refine iF.bind' hi ?_
   rintro ρ1 l1 p p' ⟨rfl,rfl⟩
   refine(JG l1.2 (h.mono l1.1)).bind' l1.2 ?_
   intro ρ2 l2 _ _ _
   refine(nO (l2.1 _ _ (l1.1 _ _ h.1))).bind' l2.2 ?_
   intro ρ3 l3 x y e
   cases e
   cases x with
   | none=>exact trivial
   | some x=>
     obtain⟨e,n⟩:=x
     dsimp only
     by_cases hs:p'.cellsOf e=0
     ·simp only[if_pos hs];exact SR.pure rfl
     ·simp only[if_neg hs]
      cases byteOfCell p' p'.depth e (a.off % p'.cellsOf e) with
      | none=>exact trivial
      | some b=>exact SR.pure rfl
theorem JW(hi:dI ρ){a a':Addr}(h:AR ρ a a')(cells bytes:Nat):SR P AR ρ (partAt a cells bytes) (partAt a' cells bytes):=by
 unfold partAt
 refine(qj hi h).bind' hi ?_
 intro ρ1 l1 b b' e
 cases e
 have hp:AR ρ1 {block:=a.block,off:=a.off+cells } {block:=a'.block,off:=a'.off+cells }:=⟨l1.1 _ _ h.1,by simp[h.2.1],rfl⟩
 refine(qj l1.2 hp).bind' l1.2 ?_
 intro ρ2 l2 c c' e
 cases e
 have hp2:=hp.mono l2.1
 dsimp only
 split
 ·exact SR.pure hp2
 ·exact SR.pure ⟨hp2.1,hp2.2.1,rfl⟩
theorem vY(hi:dI ρ){a a':Addr}(h:AR ρ a a')(f:Field):SR P AR ρ (fieldPlace a f) (fieldPlace a' f):=by
 unfold fieldPlace
 refine(aT hi f.type).bind' hi ?_
 intro ρ1 l1 n m e
 cases e
 split
 ·exact JW l1.2 (h.mono l1.1) _ _
 ·exact SR.pure ((h.mono l1.1).add _)
theorem Fg(hi:dI ρ)(t:TypeId){v v':Value}(h:VR ρ v v')(i:Nat):SR P VR ρ (Instr.fieldAt t v i) (Instr.fieldAt t v' i):=by
 unfold Instr.fieldAt
 refine(aK t).bind' hi ?_
 intro ρ1 l1 x y e
 cases e
 cases x with
 | struct fs=>
   dsimp only
   cases fs[i]? with
   | none=>exact trivial
   | some f=>
     dsimp only
     refine(gQ (h.mono l1.1)).bind' l1.2 ?_
     intro ρ2 l2 a a' ha
     refine(vY l2.2 ha f).bind' l2.2 ?_
     intro ρ3 l3 b b' hb
     exact SR.pure (.ptr hb)
 | _=>exact trivial
theorem kg{v v':Value}(h:VR ρ v v'):SR P lW ρ (asIntOf v) (asIntOf v'):=by
 cases h <;> first|exact SR.pure rfl|exact trivial
theorem Al(hi:dI ρ){v v':Value}(h:VR ρ v v'):SR P lW ρ (asInt v) (asInt v'):=
 (kg h).bind' hi fun _ _ _ _ e=>by cases e;exact SR.pure rfl
theorem IC{v v':Value}(h:VR ρ v v'):SR P lW ρ (asBool v) (asBool v'):=by
 cases h <;> first|exact SR.pure rfl|exact trivial
theorem aP{α β:Type}{Q:Ren→α→β→Prop}{e:RuntimeError}(he:∀a b c d,e≠.typeAssertion a b c d)(hp:e≠.panicNil):SR P Q ρ (runtimePanic e) (runtimePanic e):=by
 refine⟨_,rfl,?_⟩
 cases e <;> first|exact trivial|exact absurd rfl (he _ _ _ _)|exact absurd rfl hp
theorem eH{α β:Type}{Q:Ren→α→β→Prop}(hi:dI ρ)(k:IntKind)(x y:Int)(c:BoundsCode):SR P Q ρ (boundsPanic k x y c) (boundsPanic k x y c):=by
 unfold boundsPanic
 dsimp only
 split
 ·refine SR.bind' (Q:=lW) hi ⟨_,rfl,fun n=>⟨_,rfl,rfl⟩⟩ ?_
  intro ρ1 l1 a b e
  cases e
  exact aP zs zs
 ·exact aP (e:=.bounds _ _ _ _) zs zs
def Dl(t:TypeId)(k:IntKind)(n:Int)(x:Option Addr × Nat × TypeId):Sem Value:=do
 let d ← underlying t
 match x.1 with
 | some a=>
   if 0≤n∧n<x.2.1 then do
    let m ← sizeOf x.2.2
    pure (.pointer (some (a.add (n.toNat * m))))
   else if (decide (x.2.1≤1) && match d with| .array ..=>true|_=>false)=true then unsupported (.noEntry Ek)
   else boundsPanic k n x.2.1 .index
 | none=>boundsPanic k n 0 .index
def Eu(ρ:Ren)(x y:Option Addr):Prop:=(x=none∧y=none)∨∃a a',x=some a∧y=some a'∧AR ρ a a'
theorem Eu.mono{ρ':Ren}(l:Le ρ ρ'){x y:Option Addr}(h:Eu ρ x y):Eu ρ' x y:=by
 rcases h with h|⟨a,a',e1,e2,h⟩
 ·exact .inl h
 ·exact .inr ⟨a,a',e1,e2,h.mono l⟩
theorem nE(hi:dI ρ)(t:TypeId)(k:IntKind)(n:Int){b b':Option Addr}(h:Eu ρ b b')(len:Nat)(e:TypeId):SR P VR ρ (Dl t k n (b,len,e)) (Dl t k n (b',len,e)):=by
 unfold Dl
 refine(aK t).bind' hi ?_
 intro ρ1 l1 d d' ed
 cases ed
 rcases h with⟨rfl,rfl⟩|⟨a,a',rfl,rfl,ha⟩
 ·exact eH l1.2 _ _ _ _
 ·dsimp only
  by_cases hc:0≤n∧n<len
  ·rw[if_pos hc,if_pos hc]
   refine(aT l1.2 e).bind' l1.2 ?_
   intro ρ4 l4 m m' e
   cases e
   exact SR.pure (.ptr ((ha.mono (l1.1.trans l4.1)).add _))
  ·rw[if_neg hc,if_neg hc]
   cases (decide (len≤1) && match d with| .array ..=>true|_=>false) with
   | true=>exact trivial
   | false=>exact eH l1.2 _ _ _ _
theorem FK(hi:dI ρ)(t:TypeId){x x' i i':Value}(hx:VR ρ x x')(h:VR ρ i i'):SR P VR ρ (Instr.indexAt t x i) (Instr.indexAt t x' i'):=by
 unfold Instr.indexAt
 refine(kg h).bind' hi ?_
 intro ρ1 l1 p p' e
 cases e
 obtain⟨k,n⟩:=p
 dsimp only
 refine(aK t).bind' l1.2 ?_
 intro ρ2 l2 d d' e
 cases e
 have hx2:=hx.mono (l1.1.trans l2.1)
 cases d with
 | array len e=>
   refine(gQ hx2).bind' l2.2 ?_
   intro ρ3 l3 a a' ha
   exact nE l3.2 t k n (.inr ⟨a,a',rfl,rfl,ha⟩) len e
 | slice e=>
   cases hx2 with
   | wW l c=>exact nE l2.2 t k n (.inl ⟨rfl,rfl⟩) l e
   | sl l c ha=>exact nE l2.2 t k n (.inr ⟨_,_,rfl,rfl,ha⟩) l e
   | _=>exact trivial
 | _=>exact trivial
theorem Ns(hi:dI ρ)(t:TypeId){x x' i i':Value}(hx:VR ρ x x')(h:VR ρ i i'):SR P VR ρ (Instr.index t x i) (Instr.index t x' i'):=by
 unfold Instr.index
 refine(kg h).bind' hi ?_
 intro ρ1 l1 p p' e
 cases e
 obtain⟨k,n⟩:=p
 dsimp only
 refine(aK t).bind' l1.2 ?_
 intro ρ2 l2 d d' e
 cases e
 have hx2:=hx.mono (l1.1.trans l2.1)
 cases d with
 | array len e=>
   cases hx2 with
   | agg es hs=>
     dsimp only
     by_cases hc:0≤n∧n<len
     ·rw[if_pos hc,if_pos hc]
      refine(aT l2.2 e).bind' l2.2 ?_
      intro ρ4 l4 m m' em
      cases em
      exact Gd l4.2 e (dU.mono l4.1 ⟨es,hs⟩) _
     ·rw[if_neg hc,if_neg hc]
      exact eH l2.2 _ _ _ _
   | _=>exact trivial
 | string=>
   cases hx2 with
   | string s=>
     dsimp only
     cases (if 0≤n then s[n.toNat]? else none) with
     | none=>exact eH l2.2 _ _ _ _
     | some b=>exact SR.pure (.int _ _)
   | _=>exact trivial
 | _=>exact trivial
theorem fG(hi:dI ρ){v v':Value}(h:VR ρ v v')(y:Nat)(c:BoundsCode):SR P lW ρ (Instr.sliceBound v y c) (Instr.sliceBound v' y c):=by
 unfold Instr.sliceBound
 refine(kg h).bind' hi ?_
 intro ρ1 l1 p p' e
 cases e
 obtain⟨k,n⟩:=p
 dsimp only
 split
 ·exact SR.pure rfl
 ·exact eH l1.2 _ _ _ _
def pR(ρ:Ren)(x y:Option Value):Prop:=(x=none∧y=none)∨∃a a',x=some a∧y=some a'∧VR ρ a a'
theorem pR.mono{ρ':Ren}(l:Le ρ ρ'){x y:Option Value}(h:pR ρ x y):pR ρ' x y:=by
 rcases h with h|⟨a,a',e1,e2,h⟩
 ·exact .inl h
 ·exact .inr ⟨a,a',e1,e2,h.mono l⟩
theorem Yr(hi:dI ρ){x y:Option Value}(h:pR ρ x y)(len:Nat)(c:BoundsCode)(d:Nat):
 SR P lW ρ (match x with|some v=>Instr.sliceBound v len c|none=>pure d) (match y with|some v=>Instr.sliceBound v len c|none=>pure d):=by
 rcases h with⟨rfl,rfl⟩|⟨a,a',rfl,rfl,ha⟩
 ·exact SR.pure rfl
 ·exact fG hi ha _ _
theorem SR.aN{α γ δ:Type}{R:Ren→γ→δ→Prop}{s s':Sem α}{f:α→Sem γ}{f':α→Sem δ}(hi:dI ρ)(h:SR P lW ρ s s')(hf:∀ρ',Ext ρ ρ'→∀a,SR P R ρ' (f a) (f' a)):SR P R ρ (s >>= f) (s' >>= f'):=
 h.bind' hi fun ρ' l a b e=>by cases e;exact hf ρ' l a
def oT(x:Option Value)(h m:Nat)(c:BoundsCode):Sem (Nat × Nat × Nat):=match x with|some v=>(do let l ← Instr.sliceBound v h c;pure (l,h,m))|none=>(do let l ← pure 0;pure (l,h,m))
theorem Dx(hi:dI ρ){x x':Option Value}(hx:pR ρ x x')(h m:Nat)(c:BoundsCode):SR P lW ρ (oT x h m c) (oT x' h m c):=by
 rcases hx with⟨rfl,rfl⟩|⟨v,v',rfl,rfl,hv⟩
 ·exact SR.pure rfl
 ·exact(fG hi hv _ _).aN hi fun _ _ _=>SR.pure rfl
theorem eT(hi:dI ρ)(s:Bool)(len cap:Nat){x x' y y' z z':Option Value}(hx:pR ρ x x')(hy:pR ρ y y')(hz:pR ρ z z'):SR P lW ρ (Instr.sliceBounds s len cap x y z) (Instr.sliceBounds s len cap x' y' z'):=by
 unfold Instr.sliceBounds
 dsimp only
 rcases hz with⟨rfl,rfl⟩|⟨vz,vz',rfl,rfl,N'⟩
 ·dsimp only
  refine SR.aN hi (SR.pure rfl) fun ρ1 l1 m=>?_
  rcases hy with⟨rfl,rfl⟩|⟨vy,vy',rfl,rfl,BT⟩
  ·dsimp only
   exact SR.aN l1.2 (SR.pure rfl) fun ρ2 l2 h=>Dx l2.2 (hx.mono (l1.1.trans l2.1)) _ _ _
  ·dsimp only
   exact SR.aN l1.2 (fG l1.2 (BT.mono l1.1) _ _) fun ρ2 l2 h=>Dx l2.2 (hx.mono (l1.1.trans l2.1)) _ _ _
 ·dsimp only
  refine SR.aN hi (fG hi N' _ _) fun ρ1 l1 m=>?_
  rcases hy with⟨rfl,rfl⟩|⟨vy,vy',rfl,rfl,BT⟩
  ·exact trivial
  ·dsimp only
   exact SR.aN l1.2 (fG l1.2 (BT.mono l1.1) _ _) fun ρ2 l2 h=>Dx l2.2 (hx.mono (l1.1.trans l2.1)) _ _ _
theorem vL{v v':Value}(h:VR ρ v v'):SR P AR ρ (asAddr v) (asAddr v'):=by
 cases h with
 | ptr h=>exact SR.pure h
 | wP=>exact aP (e:=.nilDeref) zs zs
 | _=>exact trivial
theorem Oi(hi:dI ρ)(t:TypeId){v v':Value}(hv:VR ρ v v'){x x' y y' z z':Option Value}(hx:pR ρ x x')(hy:pR ρ y y')(hz:pR ρ z z'):SR P VR ρ (Instr.slice t v x y z) (Instr.slice t v' x' y' z'):=by
 unfold Instr.slice
 refine(aK t).aN hi fun ρ1 l1 d=>?_
 have hv1:=hv.mono l1.1
 have hx1:=hx.mono l1.1
 have hy1:=hy.mono l1.1
 have hz1:=hz.mono l1.1
 cases d with
 | string=>
   cases hv1 with
   | string s=>
     dsimp only
     rcases hz1 with⟨rfl,rfl⟩|⟨vz,vz',rfl,rfl,N'⟩
     ·exact(eT l1.2 false s.size s.size hx1 hy1 (.inl ⟨rfl,rfl⟩)).aN l1.2 fun _ _ p=>SR.pure (.string _)
     ·exact trivial
   | _=>exact trivial
 | slice e=>
   cases hv1 with
   | wW len cap=>
     refine(eT l1.2 true len cap hx1 hy1 hz1).aN l1.2 fun ρ2 l2 p=>?_
     refine(aT l2.2 e).aN l2.2 fun ρ3 l3 m=>?_
     refine SR.pure ?_
     simp only[Option.map_none,ite_self]
     exact .wW _ _
   | sl len cap ha=>
     refine(eT l1.2 true len cap hx1 hy1 hz1).aN l1.2 fun ρ2 l2 p=>?_
     refine(aT l2.2 e).aN l2.2 fun ρ3 l3 m=>?_
     refine SR.pure ?_
     have YD:=ha.mono (l2.1.trans l3.1)
     split
     ·exact .sl _ _ YD
     ·exact .sl _ _ (YD.add _)
   | _=>exact trivial
 | pointer arr=>
   refine(vL hv1).bind' l1.2 fun ρ2 l2 a a' ha=>?_
   refine(aK arr).aN l2.2 fun ρ3 l3 d=>?_
   cases d with
   | array n e=>
     refine(eT l3.2 false n n (hx1.mono (l2.1.trans l3.1)) (hy1.mono (l2.1.trans l3.1)) (hz1.mono (l2.1.trans l3.1))).aN l3.2 fun ρ4 l4 p=>?_
     refine(aT l4.2 e).aN l4.2 fun ρ5 l5 m=>?_
     refine SR.pure ?_
     have YD:=ha.mono (l3.1.trans (l4.1.trans l5.1))
     split
     ·exact .sl _ _ YD
     ·exact .sl _ _ (YD.add _)
   | _=>exact trivial
 | _=>exact trivial
theorem Gn(hi:dI ρ)(t:TypeId){v v':Value}(hv:VR ρ v v'){x x' y y' z z':Option Value}(hx:pR ρ x x')(hy:pR ρ y y')(hz:pR ρ z z'):SR P VR ρ (Instr.sliceAt t v x y z) (Instr.sliceAt t v' x' y' z'):=by
 unfold Instr.sliceAt
 refine(aK t).aN hi fun ρ1 l1 d=>?_
 have hv1:=hv.mono l1.1
 have hx1:=hx.mono l1.1
 have hy1:=hy.mono l1.1
 have hz1:=hz.mono l1.1
 cases d with
 | array n e=>
   refine(gQ hv1).bind' l1.2 fun ρ2 l2 a a' ha=>?_
   refine(eT l2.2 false n n (hx1.mono l2.1) (hy1.mono l2.1) (hz1.mono l2.1)).aN l2.2 fun ρ4 l4 p=>?_
   refine(aT l4.2 e).aN l4.2 fun ρ5 l5 m=>?_
   refine SR.pure ?_
   have YD:=ha.mono (l4.1.trans l5.1)
   split
   ·exact .sl _ _ YD
   ·exact .sl _ _ (YD.add _)
 | _=>exact Oi l1.2 t hv1 hx1 hy1 hz1
theorem Jq(op:BinOp)(k:IntKind)(x y:Int):SR P VR ρ (Op.intDiv op k x y) (Op.intDiv op k x y):=by
 unfold Op.intDiv
 split
 ·exact aP (e:=.error _) zs zs
 ·split
  ·exact SR.pure (.int _ _)
  ·exact SR.pure (.int _ _)
  ·exact trivial
theorem Oh(op:BinOp)(k yk:IntKind)(x y:Int):SR P VR ρ (Op.shift op k x yk y) (Op.shift op k x yk y):=by
 unfold Op.shift
 split
 ·exact aP (e:=.error _) zs zs
 ·dsimp only
  split
  ·exact SR.pure (.int _ _)
  ·exact SR.pure (.int _ _)
  ·exact trivial
theorem Jp(op:BinOp)(x y:Int):SR P VR ρ (Op.intCmp op x y) (Op.intCmp op x y):=by
 unfold Op.intCmp
 split <;> first|exact SR.pure (.bool _)|exact trivial
theorem Dn(op:BinOp)(k:IntKind)(x y:Int):SR P VR ρ (Op.intArith op k x y) (Op.intArith op k x y):=by
 unfold Op.intArith
 split <;> first|exact SR.pure (.int _ _)|exact trivial
theorem FN(op:BinOp)(k:IntKind)(x y:Int):SR P VR ρ (Op.intBits op k x y) (Op.intBits op k x y):=by
 unfold Op.intBits
 dsimp only
 split <;> first|exact SR.pure (.int _ _)|exact trivial
theorem uI(hi:dI ρ)(op:BinOp)(k:FloatKind)(x y:Nat):SR P VR ρ (Op.floatArith op k x y) (Op.floatArith op k x y):=by
 unfold Op.floatArith
 have tail:∀ {ρ':Ren} (r:Option Nat),SR P VR ρ' (match r with|some r=>pure (.float k r)|none=>do pure (.float k (← choose (.nanBits k x y))):Sem Value) (match r with|some r=>pure (.float k r)|none=>do pure (.float k (← choose (.nanBits k x y))):Sem Value):=by
  intro ρ' r
  cases r with
  | some r=>exact SR.pure (.float _ _)
  | none=>exact⟨_,rfl,fun n=>⟨_,rfl,.float _ _⟩⟩
 cases op <;> first|exact trivial|exact tail _
theorem yF(op:BinOp)(k:FloatKind)(x y:Nat):SR P VR ρ (Op.floatCmp op k x y) (Op.floatCmp op k x y):=by
 unfold Op.floatCmp
 cases op <;> first|exact trivial|exact SR.pure (.bool _)
theorem kU(op:BinOp)(x y:ByteArray):SR P VR ρ (Op.stringOp op x y) (Op.stringOp op x y):=by
 unfold Op.stringOp
 cases op <;> dsimp only <;> first|exact trivial|exact SR.pure (.bool _)|(split <;> first|exact trivial|exact SR.pure (.string _))
def Cl{α:Type}(P:Program)(s:Sem α):Prop:=∀ {ρ:Ren},dI ρ→SR P lW ρ s s
theorem Cl.pure{α:Type}(a:α):Cl P (Pure.pure a:Sem α):=fun _=>SR.pure rfl
theorem Cl.bind{α β:Type}{s:Sem α}{f:α→Sem β}(h:Cl P s)(hf:∀a,Cl P (f a)):Cl P (s >>= f):=fun hi=>(h hi).aN hi fun _ l a=>hf a l.2
theorem Cl.stuck{α:Type}(w:String):Cl P (Go.stuck w:Sem α):=fun _=>trivial
theorem Cl.choose(q:Question):Cl P (Go.choose q):=fun _=>nX q
theorem Cl.ite{α:Type}{c:Prop}[Decidable c]{s t:Sem α}(h:Cl P s)(k:Cl P t):Cl P (if c then s else t):=by split <;> assumption
theorem yD(op:BinOp)(k:FloatKind)(x y:Nat):Cl P (Op.floatArith op k x y):=by
 unfold Op.floatArith
 have tail:∀ (r:Option Nat),Cl P (match r with|some r=>Pure.pure (.float k r)|none=>do Pure.pure (.float k (← Go.choose (.nanBits k x y))):Sem Value):=by
  intro r
  cases r with
  | some r=>exact Cl.pure _
  | none=>exact Cl.bind (Cl.choose _) fun _=>Cl.pure _
 cases op <;> first|exact(fun{_} _=>trivial)|exact(fun{_} hi=>tail _ hi)
theorem EP(op:BinOp)(k:FloatKind)(x y:Nat):Cl P (Op.floatCmp op k x y):=by
 unfold Op.floatCmp
 cases op <;> first|exact(fun{_} _=>trivial)|exact Cl.pure _
theorem ZX(s:FloatKind)(x:Nat)(d:FloatKind):Cl P (Conv.floatToFloat s x d):=by
 unfold Conv.floatToFloat
 split
 ·exact Cl.pure _
 ·split
  ·exact Cl.bind (Cl.choose _) fun _=>Cl.pure _
  ·exact Cl.pure _
  ·dsimp only
   split
   ·exact Cl.bind (Cl.choose _) fun _=>Cl.pure _
   ·exact Cl.pure _
theorem qV(op:BinOp)(k:FloatKind)(x y:Nat):Cl P (Op.Complex.arith op k x y):=by
 unfold Op.Complex.arith
 refine Cl.bind (yD _ _ _ _) fun v=>?_
 cases v <;> first|exact Cl.pure _|exact(fun{_} _=>trivial)
theorem IY(op:BinOp)(k:FloatKind)(x y:Nat):Cl P (Op.Complex.cmp op k x y):=by
 unfold Op.Complex.cmp
 refine Cl.bind (EP _ _ _ _) fun v=>?_
 cases v <;> first|exact Cl.pure _|exact(fun{_} _=>trivial)
theorem Vk(s:FloatKind)(x:Nat)(d:FloatKind):Cl P (Op.Complex.conv s x d):=by
 unfold Op.Complex.conv
 split
 ·exact Cl.pure _
 ·refine Cl.bind (ZX _ _ _) fun v=>?_
  cases v <;> first|exact Cl.pure _|exact(fun{_} _=>trivial)
theorem IZ(a b c d:Nat):Cl P (Op.Complex.product a b c d):=by
 unfold Op.Complex.product
 repeat first|exact Cl.pure _|refine Cl.bind (qV _ _ _ _) fun _=>?_
theorem CX(s a b c d:Nat):Cl P (Op.Complex.corrected s a b c d):=by
 unfold Op.Complex.corrected
 repeat first|exact Cl.pure _|refine Cl.bind (qV _ _ _ _) fun _=>?_
theorem ER(a b c d:Nat):Cl P (Op.Complex.quotient a b c d):=by
 unfold Op.Complex.quotient
 dsimp only
 refine Cl.bind (IY _ _ _ _) fun x=>?_
 repeat' first
  | (with_reducible exact Cl.pure _)
  | (with_reducible exact CX _ _ _ _ _)
  | (with_reducible refine Cl.bind (qV _ _ _ _) fun _=>?_)
  | (with_reducible refine Cl.bind (IY _ _ _ _) fun _=>?_)
  | (with_reducible refine Cl.bind (Cl.pure _) fun _=>?_)
  | (with_reducible refine Cl.ite ?_ ?_)
  | split
  | dsimp only
def vk(P:Program)(t:TypeId):Bool:=match P.info? t with
 | some i=>(match i.desc with| .named "sync.copyChecker" _=>false|_=>true)
 | none=>true
theorem gP{α β:Type}{R:Ren→α→β→Prop}{t:TypeId}{f:TypeDesc→Sem α}{f':TypeDesc→Sem β}(hR:∀d,P.underlying t=some d→SR P R ρ (f d) (f' d)):SR P R ρ (underlying t >>= f) (underlying t >>= f'):=by
 refine⟨_,rfl,?_⟩
 have e:∀o,P.underlying t=o→SR P R ρ (Sem.bind (match o with|some d=>pure d|none=>stuck "no such type") f) (Sem.bind (match o with|some d=>pure d|none=>stuck "no such type") f'):=by
  intro o ho
  cases o with
  | none=>exact trivial
  | some d=>exact hR d ho
 exact e _ rfl
theorem Xd{α β:Type}{R:Ren→α→β→Prop}{t:TypeId}{f:TypeInfo→Sem α}{f':TypeInfo→Sem β}(hR:∀d,P.info? t=some d→SR P R ρ (f d) (f' d)):SR P R ρ (typeInfo t >>= f) (typeInfo t >>= f'):=by
 refine⟨_,rfl,?_⟩
 have e:∀o,P.info? t=o→SR P R ρ (Sem.bind (match o with|some d=>pure d|none=>stuck "no such type") f) (Sem.bind (match o with|some d=>pure d|none=>stuck "no such type") f'):=by
  intro o ho
  cases o with
  | none=>exact trivial
  | some d=>exact hR d ho
 exact e _ rfl
theorem wF(op:BinOp)(t:TypeId)(k k':IntKind)(a b:Int):SR P VR ρ (binOp op t (.int k a) (.int k' b)) (binOp op t (.int k a) (.int k' b)):=by
 cases op <;> (unfold binOp;dsimp only) <;> first
  | exact Oh _ _ _ _ _
  | (split <;> first|exact trivial|exact Dn _ _ _ _|exact Jq _ _ _ _|exact FN _ _ _ _|exact Jp _ _ _)
theorem qo(hi:dI ρ)(op:BinOp)(t:TypeId)(k k':FloatKind)(a b:Nat):SR P VR ρ (binOp op t (.float k a) (.float k' b)) (binOp op t (.float k a) (.float k' b)):=by
 cases op <;> (unfold binOp;dsimp only) <;> first
  | exact trivial
  | (split <;> first|exact trivial|exact uI hi _ _ _ _|exact yF _ _ _ _)
def bE:BinOp→Bool
 | .eql| .neq=>false
 | _=>true
def Ac(P:Program)(s:Sem Value):Prop:=∀ρ:Ren,dI ρ→SR P VR ρ s s
theorem Ac.bind{α:Type}{s:Sem α}{f:α→Sem Value}(h:Cl P s)(hf:∀a,Ac P (f a)):Ac P (s >>= f):=fun _ hi=>(h hi).aN hi fun _ l a=>hf a _ l.2
theorem Ac.ite{c:Prop}[Decidable c]{s t:Sem Value}(h:Ac P s)(k:Ac P t):Ac P (if c then s else t):=by split <;> assumption
theorem Ac.complex(k:FloatKind)(a b:Nat):Ac P (Pure.pure (.complex k a b):Sem Value):=fun _ _=>SR.pure (.complex _ _ _)
theorem Ac.bool(b:Bool):Ac P (Pure.pure (.bool b):Sem Value):=fun _ _=>SR.pure (.bool _)
theorem nA(op:BinOp)(k:FloatKind)(a b c d:Nat):Ac P (Op.complexOp op k a b c d):=by
 unfold Op.complexOp
 cases op <;> dsimp only <;> first
  | exact(fun _ _=>trivial)
  | (repeat' first
   | (with_reducible exact Ac.complex _ _ _)
   | (with_reducible exact Ac.bool _)
   | (with_reducible refine Ac.bind (qV _ _ _ _) fun _=>?_)
   | (with_reducible refine Ac.bind (IY _ _ _ _) fun _=>?_)
   | (with_reducible refine Ac.bind (Vk _ _ _) fun _=>?_)
   | (with_reducible refine Ac.bind (IZ _ _ _ _) fun _=>?_)
   | (with_reducible refine Ac.bind (ER _ _ _ _) fun _=>?_)
   | (with_reducible refine Ac.ite ?_ ?_))
theorem iJ(hi:dI ρ){ts:Array TypeId}{t:TypeId}{x x' y y':Value}(hx:VR ρ x x')(hy:VR ρ y y'):SR P VR ρ (Builtin.unsafeAdd_ ts t #[x,y]) (Builtin.unsafeAdd_ ts t #[x',y']):=by
 unfold Builtin.unsafeAdd_
 cases hx with
 | wP=>
   dsimp only
   refine(Al hi hy).aN hi fun ρ1 l1 n=>?_
   split
   ·exact trivial
   ·split <;> exact trivial
 | ptr ha=>
   dsimp only
   refine(Al hi hy).aN hi fun ρ1 l1 n=>?_
   split
   ·refine(xP l1.2 (l1.1 _ _ ha.1)).bind' l1.2 ?_
    rintro ρ2 l2 u v ⟨rfl,rfl⟩
    exact SR.pure (.ptr (ha.mono (l1.1.trans l2.1)))
   ·split
    ·exact trivial
    ·refine(nO (l1.1 _ _ ha.1)).aN l1.2 fun ρ2 l2 u=>?_
     cases u with
     | none=>exact trivial
     | some u=>
       obtain⟨e,c⟩:=u
       dsimp only
       refine iF.bind' l2.2 ?_
       rintro ρ3 l3 Q Q' ⟨rfl,rfl⟩
       rw[ha.2.1]
       cases cellAtBytes Q' Q'.depth e (c / Q'.cellsOf e) _ n with
       | none=>exact trivial
       | some o=>exact SR.pure (.ptr ⟨l3.1 _ _ (l2.1 _ _ (l1.1 _ _ ha.1)),rfl,ha.2.2⟩)
 | _=>exact trivial
theorem dJ(hi:dI ρ)(t:TypeId){x x' y y':Value}(hx:VR ρ x x')(hy:VR ρ y y'):SR P VR ρ (movedNumber t x y) (movedNumber t x' y'):=by
 unfold movedNumber
 refine(aK t).aN hi fun ρ1 l1 d=>?_
 dsimp only
 have rest:SR P VR ρ1 (do
  let .pointer (some n):=x|Builtin.unsafeAdd_ #[] t #[x,y]
  let (a,lost) ← behindNumber n
  match ← Builtin.unsafeAdd_ #[] t #[.pointer (some a),y] with
  | .pointer (some b)=>asNumber b lost
  | v=>pure v) (do
  let .pointer (some n):=x'|Builtin.unsafeAdd_ #[] t #[x',y']
  let (a,lost) ← behindNumber n
  match ← Builtin.unsafeAdd_ #[] t #[.pointer (some a),y'] with
  | .pointer (some b)=>asNumber b lost
  | v=>pure v):=by
  have hy1:=hy.mono l1.1
  have hx1:=hx.mono l1.1
  have hu:=iJ (P:=P) l1.2 (ts:=#[]) (t:=t) hx1 hy1
  cases hx1 with
  | ptr ha=>
    dsimp only
    refine(aV l1.2 ha).bind' l1.2 ?_
    rintro ρ2 l2 p p' ⟨hp,e⟩
    obtain⟨p,b⟩:=p
    obtain⟨p',b'⟩:=p'
    cases e
    dsimp only
    refine(iJ l2.2 (.ptr hp) (hy1.mono l2.1)).bind' l2.2 ?_
    intro ρ3 l3 v v' hv
    cases hv with
    | ptr hb=>exact CO hb _ l3.2
    | _=>exact SR.pure (by constructor <;> assumption)
  | _=>exact hu
 cases d <;> first|exact rest|exact trivial
theorem lD(hi:dI ρ)(t:TypeId){x x' y y':Value}(hx:VR ρ x x')(hy:VR ρ y y'):SR P VR ρ (movedPointer t x y) (movedPointer t x' y'):=by
 unfold movedPointer
 have hu:=iJ (P:=P) hi (ts:=#[]) (t:=t) hx hy
 cases hx with
 | ptr ha=>
   dsimp only
   refine(rF hi ha.1).bind' hi ?_
   rintro ρ1 l1 p p' (⟨rfl,rfl⟩|⟨b,b',l,rfl,rfl,hb⟩)
   ·exact iJ (ts:=#[]) (t:=t) l1.2 (.ptr (ha.mono l1.1)) (hy.mono l1.1)
   ·exact trivial
 | _=>exact hu
theorem tK(hi:dI ρ)(k:IntKind){a a':Addr}(ha:AR ρ a a')(n:Int):SR P VR ρ (Op.addrMod k a n) (Op.addrMod k a' n):=by
 unfold Op.addrMod
 refine(nO ha.1).aN hi fun ρ1 l1 u=>?_
 cases u with
 | none=>exact trivial
 | some u=>
   obtain⟨e,c⟩:=u
   dsimp only
   refine(fT e).aN l1.2 fun ρ2 l2 i=>?_
   split
   ·exact trivial
   ·exact(qj l2.2 (ha.mono (l1.1.trans l2.1))).aN l2.2 fun _ _ b=>SR.pure (.int _ _)
theorem pJ(hg:P.globals.size=0)(hi:dI ρ)(a b a' b':Addr):SR P (fun _ _ _=>False) ρ (Op.twoPlaces a b) (Op.twoPlaces a' b'):=by
 unfold Op.twoPlaces
 refine iF.bind' hi ?_
 rintro ρ1 l1 Q Q' ⟨rfl,rfl⟩
 have e:∀ (a b:Addr),(a.block != b.block || decide (a.block≥Q'.globals.size))=true:=fun a b=>by simp[hg]
 dsimp only
 simp only[e,if_true]
 exact trivial
theorem EC(hg:P.globals.size=0)(hi:dI ρ)(k:IntKind)(a b a' b':Addr):SR P VR ρ (Op.addrSub k a b) (Op.addrSub k a' b'):=(pJ hg hi a b a' b').bind' hi fun _ _ _ _ h=>h.elim
theorem EB(hg:P.globals.size=0)(hi:dI ρ)(op:BinOp)(a b a' b':Addr):SR P VR ρ (Op.addrCmp op a b) (Op.addrCmp op a' b'):=(pJ hg hi a b a' b').bind' hi fun _ _ _ _ h=>h.elim
theorem MH(hg:P.globals.size=0)(hi:dI ρ)(op:BinOp)(ho:bE op=true)(t:TypeId){x x' y y':Value}(hx:VR ρ x x')(hy:VR ρ y y'):SR P VR ρ (binOp op t x y) (binOp op t x' y'):=by
 cases hx with
 | int k n=>
   cases hy with
   | int k' n'=>exact wF op t k k' n n'
   | ptr hb=>cases op <;> first|exact trivial|exact dJ hi t (.ptr hb) (.int k n)|exact(aV hi hb).bind' hi fun _ l _ _ hp=>tK l.2 _ hp.1 _|simp[bE] at ho
   | wP=>cases op <;> first|exact trivial|exact dJ hi t .wP (.int k n)|simp[bE] at ho
   | _=>cases op <;> first|exact trivial|simp[bE] at ho
 | float k n=>
   cases hy with
   | float k' n'=>exact qo hi op t k k' n n'
   | _=>cases op <;> first|exact trivial|simp[bE] at ho
 | complex k m n=>
   cases hy with
   | complex k' m' n'=>
     cases op <;> (unfold binOp;dsimp only) <;> (split <;> first|exact trivial|exact nA _ _ _ _ _ _ _ hi)
   | _=>cases op <;> first|exact trivial|simp[bE] at ho
 | string s=>
   cases hy with
   | string s'=>cases op <;> (unfold binOp;dsimp only;exact kU _ _ _)
   | _=>cases op <;> first|exact trivial|simp[bE] at ho
 | ptr ha=>
   cases hy with
   | int k n=>cases op <;> first
    | exact trivial
    | (refine(aK t).aN hi fun ρ1 l1 d=>?_
       cases d <;> first|exact dJ l1.2 t (.ptr (ha.mono l1.1)) (.int k n)|exact lD l1.2 t (.ptr (ha.mono l1.1)) (.int k n))
    | exact dJ hi t (.ptr ha) (.int k _)
    | exact(aV hi ha).bind' hi fun _ l _ _ hp=>tK l.2 _ hp.1 _
    | simp[bE] at ho
   | ptr hb=>cases op <;> first
    | exact trivial
    | exact(aV hi ha).bind' hi fun _ l _ _ hp=>(aV l.2 (hb.mono l.1)).bind' l.2 fun _ l2 _ _ hq=>EC hg l2.2 _ _ _ _ _
    | exact(aV hi ha).bind' hi fun _ l _ _ hp=>(aV l.2 (hb.mono l.1)).bind' l.2 fun _ l2 _ _ hq=>EB hg l2.2 _ _ _ _ _
    | simp[bE] at ho
   | _=>cases op <;> first|exact trivial|simp[bE] at ho
 | wP=>
   cases hy with
   | int k n=>cases op <;> first
    | exact trivial
    | (refine(aK t).aN hi fun ρ1 l1 d=>?_
       cases d <;> first|exact dJ l1.2 t .wP (.int k n)|exact lD l1.2 t .wP (.int k n))
    | exact dJ hi t .wP (.int k _)
    | simp[bE] at ho
   | _=>cases op <;> first|exact trivial|simp[bE] at ho
 | _=>cases hy <;> cases op <;> first|exact trivial|simp[bE] at ho
theorem iI{op:BinOp}(ho:bE op=true)(t:TypeId)(x y:Operand)(a b:Value):eqGuard op t x y a b=pure ():=by
 cases op <;> first|rfl|simp[bE] at ho
structure Cu(P:Program)(t:TypeId):Prop where
 und:∃k,P.underlying t=some (.int k)
 copy:vk P t=true
 guard:P.eqGuardType P.depth t=false
theorem Fu{t:TypeId}{k:IntKind}(h:P.underlying t=some (.int k))(hi:dI ρ)(d:Nat)(a b:Value):SR P (fun _ x y=>x=false∧y=false) ρ (Op.eqGuardIn (d+1) t a b) (Op.eqGuardIn (d+1) t a b):=by
 unfold Op.eqGuardIn
 refine gP fun u hu=>?_
 rw[h] at hu
 cases hu
 exact⟨_,rfl,rfl,rfl⟩
theorem E8{t:TypeId}(hT:Cu P t)(hi:dI ρ)(op:BinOp)(x y:Operand){a a' b b':Value}(ha:VR ρ a a')(hb:VR ρ b b'):SR P lW ρ (eqGuard op t x y a b) (eqGuard op t x y a' b'):=by
 obtain⟨k,hk⟩:=hT.und
 have e1:SR P lW ρ (do if ← Op.eqGuardIn Op.maxDepth t .nilIface .nilIface then unsupported (.noEntry pM)) (do if ← Op.eqGuardIn Op.maxDepth t .nilIface .nilIface then unsupported (.noEntry pM)):=by
  refine(Fu hk hi 9999 _ _).bind' hi ?_
  rintro ρ1 l1 u v ⟨rfl,rfl⟩
  exact SR.pure rfl
 have one:∀op,bE op=false→SR P lW ρ (eqGuard op t x y a b) (eqGuard op t x y a' b'):=by
  intro op ho
  cases op <;> first|(simp[bE] at ho;done)|skip
  all_goals
   unfold eqGuard
   cases ha with
   | nilIface=>
     cases hb with
     | nilIface=>
       dsimp only
       cases x <;> cases y <;> first|exact SR.pure rfl|exact e1
     | _=>exact SR.pure rfl
   | agg e h=>
     cases hb with
     | agg e h=>
       dsimp only
       refine iF.bind' hi ?_
       rintro ρ1 l1 Q Q' ⟨rfl,rfl⟩
       refine iF.bind' l1.2 ?_
       rintro ρ2 l2 Q Q2 ⟨rfl,rfl⟩
       simp only[hT.guard]
       exact SR.pure rfl
     | _=>exact SR.pure rfl
   | _=>exact SR.pure rfl
 cases ho:bE op with
 | true=>rw[iI ho,iI ho];exact SR.pure rfl
 | false=>exact one op ho
end
end Go.cu
