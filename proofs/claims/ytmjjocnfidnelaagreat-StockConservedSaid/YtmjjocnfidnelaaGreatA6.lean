/- Par3 Par4 Par5 Par6 Par7 Par8 Par9 Par10 -/
import Derived.Test.YtmjjocnfidnelaaGreatA5
import Derived.Laws.Sem
set_option maxRecDepth 100000
set_option maxHeartbeats 16000000
set_option linter.unusedVariables false
set_option linter.unusedSectionVars false
namespace Go.cZ
section
variable[Inhabited aZ]
variable{P:Program}{ρ:Ren}
def mF{α:Type}:Ren→α→α→Prop:=fun _ a b=>a=b
theorem XM{α:Type}:pf (mF (α:=α)):=fun _ _ _ _ _ h=>h
theorem Ih{α β:Type}{Q:Ren→α→β→Prop}(why:String)(s':Sem β):SR P Q ρ (stuck why) s':=trivial
theorem yI{α β:Type}{Q:Ren→α→β→Prop}(u:Unsupported)(s':Sem β)(hu:tH (.unsupported u):=by trivial):SR P Q ρ (unsupported u) s':=hu
theorem iI:SR P (fun ρ' a b=>a=P∧b=P) ρ program program:=⟨_,rfl,_,rfl,rfl,rfl⟩
theorem aK(t:TypeId):SR P mF ρ (underlying t) (underlying t):=by
 refine⟨_,rfl,?_⟩
 show SR P mF ρ (match P.underlying t with|some d=>pure d|none=>stuck "no such type") (match P.underlying t with|some d=>pure d|none=>stuck "no such type")
 cases P.underlying t with
 | none=>exact Ih _ _
 | some d=>exact SR.pure rfl
theorem gq(t:TypeId):SR P mF ρ (typeInfo t) (typeInfo t):=by
 refine⟨_,rfl,?_⟩
 show SR P mF ρ (match P.info? t with|some d=>pure d|none=>stuck "no such type") (match P.info? t with|some d=>pure d|none=>stuck "no such type")
 cases P.info? t with
 | none=>exact Ih _ _
 | some d=>exact SR.pure rfl
theorem aX(hi:dP ρ)(t:TypeId):SR P mF ρ (sizeOf t) (sizeOf t):=
 (gq t).bind' hi fun _ _ a b e=>by cases e;exact SR.pure rfl
theorem yD(hi:dP ρ)(t:TypeId):SR P mF ρ (isAgg t) (isAgg t):=
 (aK t).bind' hi fun _ _ a b e=>by
  cases e
  cases a <;> exact SR.pure rfl
def NA(P:Program)(t:TypeId):Prop:=∀i z,P.info? t=some i→i.zero=some z→∀ρ,VR ρ z z
theorem iQ(hi:dP ρ){t:TypeId}(hz:NA P t):SR P VR ρ (zeroValue t) (zeroValue t):=by
 refine⟨_,rfl,?_⟩
 have e:∀ (o:Option TypeInfo),P.info? t=o→SR P VR ρ (Sem.bind (match o with|some d=>pure d|none=>stuck "no such type") fun i=>(match i.zero with|some v=>pure v|none=>unsupported (.resourceLimit sQ15):Sem Value))
  (Sem.bind (match o with|some d=>pure d|none=>stuck "no such type") fun i=>(match i.zero with|some v=>pure v|none=>unsupported (.resourceLimit sQ15):Sem Value)):=by
  intro o ho
  cases o with
  | none=>exact trivial
  | some i=>
    show SR P VR ρ (match i.zero with|some v=>pure v|none=>unsupported (.resourceLimit sQ15)) (match i.zero with|some v=>pure v|none=>unsupported (.resourceLimit sQ15))
    cases hz0:i.zero with
    | none=>exact yI _ _
    | some z=>exact SR.pure (hz i z ho hz0 ρ)
 exact e _ rfl
theorem AR.add{a a':Addr}(h:AR ρ a a')(n:Nat):AR ρ (a.add n) (a'.add n):=by
 unfold Addr.add
 split
 ·exact h
 ·exact⟨h.1,by simp[h.2.1],rfl⟩
inductive LR (ρ:Ren):List Value→List Value→Prop
 | nil:LR ρ [] []
 | cons {v v':Value} {l l':List Value}:VR ρ v v'→LR ρ l l'→LR ρ (v :: l) (v' :: l')
theorem LR.mono{ρ':Ren}(l:Le ρ ρ'){x x':List Value}(h:LR ρ x x'):LR ρ' x x':=by
 induction h with
 | nil=>exact .nil
 | cons h _ ih=>exact .cons (h.mono l) ih
theorem LR.of:∀ {l l':List Value},l.length=l'.length→(∀ (i:Nat) (h:i<l.length) (h':i<l'.length),VR ρ l[i] l'[i])→LR ρ l l'
 | [],[],_,_=>.nil
 | v :: l,v' :: l',e,h=>.cons (h 0 zs zs) (LR.of (by simpa using e) fun i a b=>h (i+1) (by simpa using a) (by simpa using b))
 | [],_ :: _,e,_=>by simp at e
 | _ :: _,[],e,_=>by simp at e
theorem dZ.list{x x':Array Value}(h:dZ ρ x x'):LR ρ x.toList x'.toList:=
 LR.of (by simpa using h.1) fun i a b=>by simpa using h.2 i (by simpa using a) (by simpa using b)
theorem GI{a a':Addr}(h:AR ρ a a'):SR P VR ρ (load a) (load a'):=⟨_,_,rfl,rfl,h,fun _ _ v v' hv=>⟨v',rfl,hv⟩⟩
theorem PK{a a':Addr}(h:AR ρ a a'){v v':Value}(hv:VR ρ v v'):SR P mF ρ (store a v) (store a' v'):=⟨_,_,_,rfl,rfl,h,hv,(),rfl,rfl⟩
theorem sj{a a':Addr}(n:Nat):∀ {ρ:Ren},dP ρ→AR ρ a a'→∀ (i:Nat) {acc acc':Array Value},dZ ρ acc acc'→SR P dZ ρ (loadCellsFrom a i n acc) (loadCellsFrom a' i n acc'):=by
 induction n with
 | zero=>exact fun _ _ i _ _ h=>SR.pure h
 | succ n ih=>exact fun hi ha i _ _ h=>(GI (ha.add i)).bind' hi fun ρ' l v v' hv=>ih l.2 (ha.mono l.1) (i+1) ((h.mono l.1).push hv)
theorem pQ(hi:dP ρ){a a':Addr}(ha:AR ρ a a')(n:Nat):SR P dZ ρ (loadCells a n) (loadCells a' n):=sj n hi ha 0 (.nil ρ)
theorem oo{a a':Addr}(hi:dP ρ)(ha:AR ρ a a'){l l':List Value}(h:LR ρ l l')(i:Nat:=0):SR P mF ρ (storeCells a l i) (storeCells a' l' i):=by
 induction h generalizing i with
 | nil=>exact SR.pure rfl
 | cons hv _ ih=>exact(PK (ha.add i) hv).bind' hi fun ρ' l _ _ _=>(ih (i+1)).mono XM l.1
theorem uX(hi:dP ρ)(t:TypeId){a a':Addr}(ha:AR ρ a a'):SR P VR ρ (loadVar t a) (loadVar t a'):=by
 unfold loadVar
 refine(yD hi t).bind' hi ?_
 intro ρ1 l1 x y e
 cases e
 cases x with
 | false=>exact GI (ha.mono l1.1)
 | true=>
   refine(aX l1.2 t).bind' l1.2 ?_
   intro ρ2 l2 m n e
   cases e
   refine(pQ l2.2 (ha.mono (l1.1.trans l2.1)) m).bind' l2.2 ?_
   intro ρ3 _ c c' hc
   exact SR.pure (.agg hc.1 hc.2)
theorem EF(hi:dP ρ)(t:TypeId){a a':Addr}(ha:AR ρ a a'){v v':Value}(hv:VR ρ v v'):SR P mF ρ (storeVar t a v) (storeVar t a' v'):=by
 unfold storeVar
 refine(aX hi t).bind' hi ?_
 intro ρ1 l1 m n e
 cases e
 have hc:=(hv.mono l1.1).cells
 by_cases hm:v.cells.size≠m
 ·have hm':v'.cells.size≠m:=by rw[← hc.1];exact hm
  simp only[if_pos hm,if_pos hm']
  exact trivial
 ·have hm':¬ v'.cells.size≠m:=by rw[← hc.1];exact hm
  simp only[if_neg hm,if_neg hm']
  exact oo l1.2 (ha.mono l1.1) hc.list
theorem qU(t:TypeId){c c':Array Value}(h:dZ ρ c c'):SR P AR ρ (newRow t c) (newRow t c'):=
 ⟨_,_,rfl,.cells t h (fun o h1 h2=>by simp at h2),fun _ _ r r' hr=>⟨_,rfl,hr,rfl,rfl⟩⟩
theorem xX(t:TypeId){v v':Value}(h:VR ρ v v'):SR P AR ρ (newVar t v) (newVar t v'):=qU t h.cells
theorem gV{v v':Value}(h:VR ρ v v'):SR P AR ρ (Instr.sureAddr v) (Instr.sureAddr v'):=by
 cases h with
 | ptr h=>exact SR.pure h
 | _=>exact trivial
theorem Kn(hi:dP ρ)(t:TypeId){v v':Value}(h:VR ρ v v'):SR P VR ρ (Instr.loadAt t v) (Instr.loadAt t v'):=
 (gV h).bind' hi fun _ l _ _ ha=>uX l.2 t ha
theorem Im(hi:dP ρ)(t:TypeId){a a' v v':Value}(h:VR ρ a a')(hv:VR ρ v v'):SR P mF ρ (Instr.storeAt t a v) (Instr.storeAt t a' v'):=
 (gV h).bind' hi fun _ l _ _ ha=>EF l.2 t ha (hv.mono l.1)
theorem ND(hi:dP ρ){t:TypeId}(hz:NA P t){v v':Value}:SR P VR ρ (Instr.alloc t true v) (Instr.alloc t true v'):=
 (iQ hi hz).bind' hi fun ρ1 l1 z z' h=>(xX t h).bind' l1.2 fun _ _ _ _ ha=>SR.pure (.ptr ha)
theorem WC(hi:dP ρ)(t:TypeId){v v':Value}(h:VR ρ v v'):SR P VR ρ (Instr.box t v) (Instr.box t v'):=
 (xX t h).bind' hi fun _ _ _ _ ha=>SR.pure (.ptr ha)
theorem Hf(hi:dP ρ)(t:TypeId){c c':Array Value}(h:dZ ρ c c')(off:Nat):SR P VR ρ (part t c off) (part t c' off):=by
 unfold part
 refine(yD hi t).bind' hi ?_
 intro ρ1 l1 x y e
 cases e
 cases x with
 | true=>
   refine(aX l1.2 t).bind' l1.2 ?_
   intro ρ2 l2 m n e
   cases e
   have:=(h.mono (l1.1.trans l2.1)).extract off (off+m)
   exact SR.pure (.agg this.1 this.2)
 | false=>
   rcases(h.mono l1.1).get? off with⟨e1,e2⟩|⟨v,v',e1,e2,hv⟩
   ·simp only[e1,e2];exact trivial
   ·simp only[e1,e2];exact SR.pure hv
theorem NG{v v':Value}(h:VR ρ v v'):SR P dZ ρ (asAgg v) (asAgg v'):=by
 cases h with
 | agg e h=>exact SR.pure ⟨e,h⟩
 | _=>exact trivial
theorem Ov(hi:dP ρ)(t:TypeId){v v':Value}(h:VR ρ v v')(i:Nat):SR P VR ρ (Instr.field t v i) (Instr.field t v' i):=by
 unfold Instr.field
 refine(aK t).bind' hi ?_
 intro ρ1 l1 x y e
 cases e
 cases x with
 | struct fs=>
   dsimp only
   cases fs[i]? with
   | none=>exact trivial
   | some f=>exact(NG (h.mono l1.1)).bind' l1.2 fun _ l2 _ _ hc=>Hf l2.2 f.type hc f.offset
 | _=>exact trivial
theorem Ga{v v':Value}(h:VR ρ v v')(i:Nat):SR P VR ρ (Instr.extract v i) (Instr.extract v' i):=by
 cases h with
 | tuple e h=>
   rename_i x x'
   simp only[Instr.extract]
   rcases(dZ.get? ⟨e,h⟩ i:(x[i]? =none∧x'[i]? =none)∨_) with⟨e1,e2⟩|⟨w,w',e1,e2,hv⟩
   ·simp only[e1,e2];exact trivial
   ·simp only[e1,e2];exact SR.pure hv
 | _=>exact trivial
theorem xK{f:Array Value→Value × Nat→Array Value}{off:Nat}(hf:∀cs c j,f cs (c,j)=cs.setIfInBounds (off+j) c):∀ {l l':List Value},LR ρ l l'→∀ (k:Nat) {c c':Array Value},dZ ρ c c'→dZ ρ ((l.zipIdx k).foldl f c) ((l'.zipIdx k).foldl f c'):=by
 intro l l' h
 induction h with
 | nil=>exact fun _ _ _ h=>h
 | cons hv _ ih=>
   intro k c c' hc
   simp only[List.zipIdx_cons,List.foldl_cons,hf]
   exact ih (k+1) (hc.set _ hv)
inductive jI (ρ:Ren):List (Nat × Value)→List (Nat × Value)→Prop
 | nil:jI ρ [] []
 | cons (i:Nat) {v v':Value} {l l':List (Nat × Value)}:VR ρ v v'→jI ρ l l'→jI ρ ((i,v) :: l) ((i,v') :: l')
theorem xG(place:Nat→Option (Nat × Nat)):∀ {l l':List (Nat × Value)},jI ρ l l'→∀ {c c':Array Value},dZ ρ c c'→
 (Instr.fill place c l=none∧Instr.fill place c' l'=none)∨∃x x',Instr.fill place c l=some x∧Instr.fill place c' l'=some x'∧dZ ρ x x':=by
 intro l l' h
 induction h with
 | nil=>exact fun hc=>.inr ⟨_,_,rfl,rfl,hc⟩
 | cons i hv _ ih=>
   rename_i v v' l l' _
   intro c c' hc
   unfold Instr.fill
   cases place i with
   | none=>exact .inl ⟨rfl,rfl⟩
   | some p=>
     obtain⟨off,size⟩:=p
     have hcv:=hv.cells
     dsimp only
     rw[← hcv.1,← hc.1]
     cases (decide (v.cells.size≠size) || decide (off+v.cells.size > c.size)) with
     | true=>exact .inl ⟨rfl,rfl⟩
     | false=>
       refine ih ?_
       have:=xK (ρ:=ρ) (f:=fun cs x=>cs.setIfInBounds (off+x.2) x.1) (off:=off) (fun _ _ _=>rfl) hcv.list 0 hc
       rw[← Array.foldl_toList,← Array.foldl_toList,Array.toList_zipIdx,Array.toList_zipIdx]
       exact this
theorem Kq{α β:Type}(f:α→Sem β)(hf:∀a {ρ:Ren},dP ρ→SR P mF ρ (f a) (f a)):∀l:List α,∀ {ρ:Ren},dP ρ→SR P mF ρ (l.mapM f) (l.mapM f):=by
 intro l
 induction l with
 | nil=>intro ρ hi;simp only[List.mapM_nil];exact SR.pure rfl
 | cons a l ih=>
   intro ρ hi
   simp only[List.mapM_cons]
   refine(hf a hi).bind' hi ?_
   intro ρ1 l1 x y e
   cases e
   refine(ih l1.2).bind' l1.2 ?_
   intro ρ2 l2 x y e
   cases e
   exact SR.pure rfl
theorem OY{α β:Type}(f:α→Sem β)(hf:∀a {ρ:Ren},dP ρ→SR P mF ρ (f a) (f a))(xs:Array α)(hi:dP ρ):SR P mF ρ (xs.mapM f) (xs.mapM f):=by
 rw[Array.mapM_eq_mapM_toList]
 have e:∀ (s:Sem (List β)),(Functor.map List.toArray s)=(s >>= fun l=>pure l.toArray):=fun s=>rfl
 rw[e]
 refine(Kq f hf xs.toList hi).bind' hi ?_
 intro ρ1 l1 x y e
 cases e
 exact SR.pure rfl
theorem NP(hi:dP ρ){t:TypeId}(hz:NA P t){l l':Array (Nat × Value)}(h:jI ρ l.toList l'.toList)(hm:∀ {ρ'},Le ρ ρ'→jI ρ' l.toList l'.toList):SR P VR ρ (Instr.build t l) (Instr.build t l'):=by
 unfold Instr.build
 refine(iQ hi hz).bind' hi ?_
 intro ρ1 l1 z z' hzz
 refine(aK t).bind' l1.2 ?_
 intro ρ2 l2 d d' e
 cases e
 cases d with
 | struct fs=>
   dsimp only
   refine(OY _ (fun f {ρ'} hi'=>(aX hi' f.type).bind' hi' fun _ _ _ _ e=>by cases e;exact SR.pure rfl) fs l2.2).bind' l2.2 ?_
   intro ρ3 l3 p p' e
   cases e
   rcases xG (ρ:=ρ3) (p[·]?) (hm (l1.1.trans (l2.1.trans l3.1))) (hzz.mono (l2.1.trans l3.1)).cells with⟨e1,e2⟩|⟨x,x',e1,e2,hx⟩
   ·simp only[e1,e2];exact trivial
   ·simp only[e1,e2];exact SR.pure (.agg hx.1 hx.2)
 | array n el=>
   dsimp only
   refine(aX l2.2 el).bind' l2.2 ?_
   intro ρ3 l3 p p' e
   cases e
   rcases xG (ρ:=ρ3) (fun i=>some (i * p,p)) (hm (l1.1.trans (l2.1.trans l3.1))) (hzz.mono (l2.1.trans l3.1)).cells with⟨e1,e2⟩|⟨x,x',e1,e2,hx⟩
   ·simp only[e1,e2];exact trivial
   ·simp only[e1,e2];exact SR.pure (.agg hx.1 hx.2)
 | _=>exact trivial
def pg{α β:Type}:Ren→Option α→Option β→Prop:=fun _ a b=>a=none∧b=none
theorem oh{r r':Nat}(h:ρ r=some r'):SR P mF ρ (shape r) (shape r'):=⟨_,_,rfl,h,fun x=>⟨x,rfl,rfl⟩⟩
theorem jD{r r':Nat}(h:ρ r=some r'):SR P OR ρ (getObj r) (getObj r'):=⟨_,_,rfl,h,fun _ _ o o' ho=>⟨o',rfl,ho⟩⟩
theorem oL{r r':Nat}(h:ρ r=some r'){o o':Obj}(ho:OR ρ o o'):SR P mF ρ (setObj r o) (setObj r' o'):=⟨_,_,_,rfl,h,ho,(),rfl,rfl⟩
theorem oF(q:Question):SR P mF ρ (choose q) (choose q):=⟨_,rfl,fun n=>⟨n,rfl,rfl⟩⟩
theorem Af(hi:dP ρ){r r':Nat}(h:ρ r=some r'):SR P pg ρ (viewAt r) (viewAt r'):=by
 unfold viewAt
 refine(oh h).bind' hi ?_
 intro ρ1 l1 x y e
 cases e
 cases x with
 | some x=>exact SR.pure ⟨rfl,rfl⟩
 | none=>
   refine(jD (l1.1 _ _ h)).bind' l1.2 ?_
   intro ρ2 l2 o o' ho
   cases ho <;> exact SR.pure ⟨rfl,rfl⟩
theorem Ky(hi:dP ρ){a a':Addr}(h:AR ρ a a'):SR P mF ρ (noView a) (noView a'):=by
 unfold noView
 refine(Af hi h.1).bind' hi ?_
 rintro ρ1 l1 x y ⟨rfl,rfl⟩
 exact SR.pure rfl
def FG:Ren→Option (Addr × Bool)→Option (Addr × Bool)→Prop:=fun ρ x y=>(x=none∧y=none)∨∃a a' l,x=some (a,l)∧y=some (a',l)∧AR ρ a a'
theorem sF(hi:dP ρ){r r':Nat}(h:ρ r=some r'):SR P FG ρ (numberAt r) (numberAt r'):=by
 unfold numberAt
 refine(oh h).bind' hi ?_
 intro ρ1 l1 x y e
 cases e
 cases x with
 | some x=>exact SR.pure (.inl ⟨rfl,rfl⟩)
 | none=>
   refine(jD (l1.1 _ _ h)).bind' l1.2 ?_
   intro ρ2 l2 o o' ho
   cases ho with
   | cells e h f=>exact SR.pure (.inl ⟨rfl,rfl⟩)
   | map k h=>exact SR.pure (.inl ⟨rfl,rfl⟩)
   | number l h=>exact SR.pure (.inr ⟨_,_,_,rfl,rfl,h⟩)
   | loop h=>exact SR.pure (.inl ⟨rfl,rfl⟩)
   | defs h=>exact SR.pure (.inl ⟨rfl,rfl⟩)
def AbR:Ren→Addr × Bool→Addr × Bool→Prop:=fun ρ x y=>AR ρ x.1 y.1∧x.2=y.2
theorem bf(hi:dP ρ){a a':Addr}(h:AR ρ a a'):SR P AbR ρ (behindNumber a) (behindNumber a'):=by
 unfold behindNumber
 refine(sF hi h.1).bind' hi ?_
 rintro ρ1 l1 x y (⟨rfl,rfl⟩|⟨b,b',l,rfl,rfl,hb⟩)
 ·exact SR.pure ⟨h.mono l1.1,rfl⟩
 ·exact SR.pure ⟨hb,rfl⟩
theorem DN{a a':Addr}(h:AR ρ a a')(l:Bool)(hi:dP ρ):SR P VR ρ (asNumber a l) (asNumber a' l):=by
 unfold asNumber
 have:SR P (fun ρ r r'=>ρ r=some r') ρ (newObj (.number a l)) (newObj (.number a' l)):=⟨_,_,rfl,.number l h,fun _ _ r r' hr=>⟨r',rfl,hr⟩⟩
 refine this.bind' hi ?_
 intro ρ1 l1 r r' hr
 exact SR.pure (.ptr ⟨hr,rfl,rfl⟩)
theorem qI(hi:dP ρ){a a':Addr}(h:AR ρ a a'):SR P mF ρ (byteOf a) (byteOf a'):=by
 unfold byteOf
 rw[h.2.2,h.2.1]
 cases a.spot with
 | some s=>exact SR.pure rfl
 | none=>
   dsimp only
   refine iI.bind' hi ?_
   rintro ρ1 l1 p p' ⟨rfl,rfl⟩
   refine(Ky l1.2 (h.mono l1.1)).bind' l1.2 ?_
   intro ρ2 l2 _ _ _
   refine(oh (l2.1 _ _ (l1.1 _ _ h.1))).bind' l2.2 ?_
   intro ρ3 l3 x y e
   cases e
   cases x with
   | none=>exact trivial
   | some x=>
     obtain⟨e,n⟩:=x
     dsimp only
     by_cases hs:p'.cellsOf e=0
     ·simp only[if_pos hs];exact SR.pure rfl
     ·simp only[if_neg hs]
      cases byteOfCell p' p'.depth e (a.off % p'.cellsOf e) with
      | none=>exact trivial
      | some b=>exact SR.pure rfl
theorem KL(hi:dP ρ){a a':Addr}(h:AR ρ a a')(cells bytes:Nat):SR P AR ρ (partAt a cells bytes) (partAt a' cells bytes):=by
 unfold partAt
 refine(qI hi h).bind' hi ?_
 intro ρ1 l1 b b' e
 cases e
 have hp:AR ρ1 {block:=a.block,off:=a.off+cells } {block:=a'.block,off:=a'.off+cells }:=⟨l1.1 _ _ h.1,by simp[h.2.1],rfl⟩
 refine(qI l1.2 hp).bind' l1.2 ?_
 intro ρ2 l2 c c' e
 cases e
 have hp2:=hp.mono l2.1
 dsimp only
 split
 ·exact SR.pure hp2
 ·exact SR.pure ⟨hp2.1,hp2.2.1,rfl⟩
theorem xE(hi:dP ρ){a a':Addr}(h:AR ρ a a')(f:Field):SR P AR ρ (fieldPlace a f) (fieldPlace a' f):=by
 unfold fieldPlace
 refine(aX hi f.type).bind' hi ?_
 intro ρ1 l1 n m e
 cases e
 split
 ·exact KL l1.2 (h.mono l1.1) _ _
 ·exact SR.pure ((h.mono l1.1).add _)
theorem Gd(hi:dP ρ)(t:TypeId){v v':Value}(h:VR ρ v v')(i:Nat):SR P VR ρ (Instr.fieldAt t v i) (Instr.fieldAt t v' i):=by
 unfold Instr.fieldAt
 refine(aK t).bind' hi ?_
 intro ρ1 l1 x y e
 cases e
 cases x with
 | struct fs=>
   dsimp only
   cases fs[i]? with
   | none=>exact trivial
   | some f=>
     dsimp only
     refine(gV (h.mono l1.1)).bind' l1.2 ?_
     intro ρ2 l2 a a' ha
     refine(xE l2.2 ha f).bind' l2.2 ?_
     intro ρ3 l3 b b' hb
     exact SR.pure (.ptr hb)
 | _=>exact trivial
theorem kG{v v':Value}(h:VR ρ v v'):SR P mF ρ (asIntOf v) (asIntOf v'):=by
 cases h <;> first|exact SR.pure rfl|exact trivial
theorem BZ(hi:dP ρ){v v':Value}(h:VR ρ v v'):SR P mF ρ (asInt v) (asInt v'):=
 (kG h).bind' hi fun _ _ _ _ e=>by cases e;exact SR.pure rfl
theorem Js{v v':Value}(h:VR ρ v v'):SR P mF ρ (asBool v) (asBool v'):=by
 cases h <;> first|exact SR.pure rfl|exact trivial
theorem aS{α β:Type}{Q:Ren→α→β→Prop}{e:RuntimeError}(he:∀a b c d,e≠.typeAssertion a b c d)(hp:e≠.panicNil):SR P Q ρ (runtimePanic e) (runtimePanic e):=by
 refine⟨_,rfl,?_⟩
 cases e <;> first|exact trivial|exact absurd rfl (he _ _ _ _)|exact absurd rfl hp
theorem eZ{α β:Type}{Q:Ren→α→β→Prop}(hi:dP ρ)(k:IntKind)(x y:Int)(c:BoundsCode):SR P Q ρ (boundsPanic k x y c) (boundsPanic k x y c):=by
 unfold boundsPanic
 dsimp only
 split
 ·refine SR.bind' (Q:=mF) hi ⟨_,rfl,fun n=>⟨_,rfl,rfl⟩⟩ ?_
  intro ρ1 l1 a b e
  cases e
  exact aS zs zs
 ·exact aS (e:=.bounds _ _ _ _) zs zs
def Eh(t:TypeId)(k:IntKind)(n:Int)(x:Option Addr × Nat × TypeId):Sem Value:=do
 let d ← underlying t
 match x.1 with
 | some a=>
   if 0≤n∧n<x.2.1 then do
    let m ← sizeOf x.2.2
    pure (.pointer (some (a.add (n.toNat * m))))
   else if (decide (x.2.1≤1) && match d with| .array ..=>true|_=>false)=true then unsupported (.noEntry sQ16)
   else boundsPanic k n x.2.1 .index
 | none=>boundsPanic k n 0 .index
def Fh(ρ:Ren)(x y:Option Addr):Prop:=(x=none∧y=none)∨∃a a',x=some a∧y=some a'∧AR ρ a a'
theorem Fh.mono{ρ':Ren}(l:Le ρ ρ'){x y:Option Addr}(h:Fh ρ x y):Fh ρ' x y:=by
 rcases h with h|⟨a,a',e1,e2,h⟩
 ·exact .inl h
 ·exact .inr ⟨a,a',e1,e2,h.mono l⟩
theorem nR(hi:dP ρ)(t:TypeId)(k:IntKind)(n:Int){b b':Option Addr}(h:Fh ρ b b')(len:Nat)(e:TypeId):SR P VR ρ (Eh t k n (b,len,e)) (Eh t k n (b',len,e)):=by
 unfold Eh
 refine(aK t).bind' hi ?_
 intro ρ1 l1 d d' ed
 cases ed
 rcases h with⟨rfl,rfl⟩|⟨a,a',rfl,rfl,ha⟩
 ·exact eZ l1.2 _ _ _ _
 ·dsimp only
  by_cases hc:0≤n∧n<len
  ·rw[if_pos hc,if_pos hc]
   refine(aX l1.2 e).bind' l1.2 ?_
   intro ρ4 l4 m m' e
   cases e
   exact SR.pure (.ptr ((ha.mono (l1.1.trans l4.1)).add _))
  ·rw[if_neg hc,if_neg hc]
   cases (decide (len≤1) && match d with| .array ..=>true|_=>false) with
   | true=>exact trivial
   | false=>exact eZ l1.2 _ _ _ _
theorem Gw(hi:dP ρ)(t:TypeId){x x' i i':Value}(hx:VR ρ x x')(h:VR ρ i i'):SR P VR ρ (Instr.indexAt t x i) (Instr.indexAt t x' i'):=by
 unfold Instr.indexAt
 refine(kG h).bind' hi ?_
 intro ρ1 l1 p p' e
 cases e
 obtain⟨k,n⟩:=p
 dsimp only
 refine(aK t).bind' l1.2 ?_
 intro ρ2 l2 d d' e
 cases e
 have hx2:=hx.mono (l1.1.trans l2.1)
 cases d with
 | array len e=>
   refine(gV hx2).bind' l2.2 ?_
   intro ρ3 l3 a a' ha
   exact nR l3.2 t k n (.inr ⟨a,a',rfl,rfl,ha⟩) len e
 | slice e=>
   cases hx2 with
   | yF l c=>exact nR l2.2 t k n (.inl ⟨rfl,rfl⟩) l e
   | sl l c ha=>exact nR l2.2 t k n (.inr ⟨_,_,rfl,rfl,ha⟩) l e
   | _=>exact trivial
 | _=>exact trivial
theorem OH(hi:dP ρ)(t:TypeId){x x' i i':Value}(hx:VR ρ x x')(h:VR ρ i i'):SR P VR ρ (Instr.index t x i) (Instr.index t x' i'):=by
 unfold Instr.index
 refine(kG h).bind' hi ?_
 intro ρ1 l1 p p' e
 cases e
 obtain⟨k,n⟩:=p
 dsimp only
 refine(aK t).bind' l1.2 ?_
 intro ρ2 l2 d d' e
 cases e
 have hx2:=hx.mono (l1.1.trans l2.1)
 cases d with
 | array len e=>
   cases hx2 with
   | agg es hs=>
     dsimp only
     by_cases hc:0≤n∧n<len
     ·rw[if_pos hc,if_pos hc]
      refine(aX l2.2 e).bind' l2.2 ?_
      intro ρ4 l4 m m' em
      cases em
      exact Hf l4.2 e (dZ.mono l4.1 ⟨es,hs⟩) _
     ·rw[if_neg hc,if_neg hc]
      exact eZ l2.2 _ _ _ _
   | _=>exact trivial
 | string=>
   cases hx2 with
   | string s=>
     dsimp only
     cases (if 0≤n then s[n.toNat]? else none) with
     | none=>exact eZ l2.2 _ _ _ _
     | some b=>exact SR.pure (.int _ _)
   | _=>exact trivial
 | _=>exact trivial
theorem fT(hi:dP ρ){v v':Value}(h:VR ρ v v')(y:Nat)(c:BoundsCode):SR P mF ρ (Instr.sliceBound v y c) (Instr.sliceBound v' y c):=by
 unfold Instr.sliceBound
 refine(kG h).bind' hi ?_
 intro ρ1 l1 p p' e
 cases e
 obtain⟨k,n⟩:=p
 dsimp only
 split
 ·exact SR.pure rfl
 ·exact eZ l1.2 _ _ _ _
def qz(ρ:Ren)(x y:Option Value):Prop:=(x=none∧y=none)∨∃a a',x=some a∧y=some a'∧VR ρ a a'
theorem qz.mono{ρ':Ren}(l:Le ρ ρ'){x y:Option Value}(h:qz ρ x y):qz ρ' x y:=by
 rcases h with h|⟨a,a',e1,e2,h⟩
 ·exact .inl h
 ·exact .inr ⟨a,a',e1,e2,h.mono l⟩
theorem ZT(hi:dP ρ){x y:Option Value}(h:qz ρ x y)(len:Nat)(c:BoundsCode)(d:Nat):
 SR P mF ρ (match x with|some v=>Instr.sliceBound v len c|none=>pure d) (match y with|some v=>Instr.sliceBound v len c|none=>pure d):=by
 rcases h with⟨rfl,rfl⟩|⟨a,a',rfl,rfl,ha⟩
 ·exact SR.pure rfl
 ·exact fT hi ha _ _
theorem SR.aO{α γ δ:Type}{R:Ren→γ→δ→Prop}{s s':Sem α}{f:α→Sem γ}{f':α→Sem δ}(hi:dP ρ)(h:SR P mF ρ s s')(hf:∀ρ',Ext ρ ρ'→∀a,SR P R ρ' (f a) (f' a)):SR P R ρ (s >>= f) (s' >>= f'):=
 h.bind' hi fun ρ' l a b e=>by cases e;exact hf ρ' l a
def tP(x:Option Value)(h m:Nat)(c:BoundsCode):Sem (Nat × Nat × Nat):=match x with|some v=>(do let l ← Instr.sliceBound v h c;pure (l,h,m))|none=>(do let l ← pure 0;pure (l,h,m))
theorem Es(hi:dP ρ){x x':Option Value}(hx:qz ρ x x')(h m:Nat)(c:BoundsCode):SR P mF ρ (tP x h m c) (tP x' h m c):=by
 rcases hx with⟨rfl,rfl⟩|⟨v,v',rfl,rfl,hv⟩
 ·exact SR.pure rfl
 ·exact(fT hi hv _ _).aO hi fun _ _ _=>SR.pure rfl
theorem fq(hi:dP ρ)(s:Bool)(len cap:Nat){x x' y y' z z':Option Value}(hx:qz ρ x x')(hy:qz ρ y y')(hz:qz ρ z z'):SR P mF ρ (Instr.sliceBounds s len cap x y z) (Instr.sliceBounds s len cap x' y' z'):=by
 unfold Instr.sliceBounds
 dsimp only
 rcases hz with⟨rfl,rfl⟩|⟨vz,vz',rfl,rfl,hvz⟩
 ·dsimp only
  refine SR.aO hi (SR.pure rfl) fun ρ1 l1 m=>?_
  rcases hy with⟨rfl,rfl⟩|⟨vy,vy',rfl,rfl,Mb⟩
  ·dsimp only
   exact SR.aO l1.2 (SR.pure rfl) fun ρ2 l2 h=>Es l2.2 (hx.mono (l1.1.trans l2.1)) _ _ _
  ·dsimp only
   exact SR.aO l1.2 (fT l1.2 (Mb.mono l1.1) _ _) fun ρ2 l2 h=>Es l2.2 (hx.mono (l1.1.trans l2.1)) _ _ _
 ·dsimp only
  refine SR.aO hi (fT hi hvz _ _) fun ρ1 l1 m=>?_
  rcases hy with⟨rfl,rfl⟩|⟨vy,vy',rfl,rfl,Mb⟩
  ·exact trivial
  ·dsimp only
   exact SR.aO l1.2 (fT l1.2 (Mb.mono l1.1) _ _) fun ρ2 l2 h=>Es l2.2 (hx.mono (l1.1.trans l2.1)) _ _ _
theorem wT{v v':Value}(h:VR ρ v v'):SR P AR ρ (asAddr v) (asAddr v'):=by
 cases h with
 | ptr h=>exact SR.pure h
 | yu=>exact aS (e:=.nilDeref) zs zs
 | _=>exact trivial
theorem PE(hi:dP ρ)(t:TypeId){v v':Value}(hv:VR ρ v v'){x x' y y' z z':Option Value}(hx:qz ρ x x')(hy:qz ρ y y')(hz:qz ρ z z'):SR P VR ρ (Instr.slice t v x y z) (Instr.slice t v' x' y' z'):=by
 unfold Instr.slice
 refine(aK t).aO hi fun ρ1 l1 d=>?_
 have hv1:=hv.mono l1.1
 have hx1:=hx.mono l1.1
 have hy1:=hy.mono l1.1
 have hz1:=hz.mono l1.1
 cases d with
 | string=>
   cases hv1 with
   | string s=>
     dsimp only
     rcases hz1 with⟨rfl,rfl⟩|⟨vz,vz',rfl,rfl,hvz⟩
     ·exact(fq l1.2 false s.size s.size hx1 hy1 (.inl ⟨rfl,rfl⟩)).aO l1.2 fun _ _ p=>SR.pure (.string _)
     ·exact trivial
   | _=>exact trivial
 | slice e=>
   cases hv1 with
   | yF len cap=>
     refine(fq l1.2 true len cap hx1 hy1 hz1).aO l1.2 fun ρ2 l2 p=>?_
     refine(aX l2.2 e).aO l2.2 fun ρ3 l3 m=>?_
     refine SR.pure ?_
     simp only[Option.map_none,ite_self]
     exact .yF _ _
   | sl len cap ha=>
     refine(fq l1.2 true len cap hx1 hy1 hz1).aO l1.2 fun ρ2 l2 p=>?_
     refine(aX l2.2 e).aO l2.2 fun ρ3 l3 m=>?_
     refine SR.pure ?_
     have Z8:=ha.mono (l2.1.trans l3.1)
     split
     ·exact .sl _ _ Z8
     ·exact .sl _ _ (Z8.add _)
   | _=>exact trivial
 | pointer arr=>
   refine(wT hv1).bind' l1.2 fun ρ2 l2 a a' ha=>?_
   refine(aK arr).aO l2.2 fun ρ3 l3 d=>?_
   cases d with
   | array n e=>
     refine(fq l3.2 false n n (hx1.mono (l2.1.trans l3.1)) (hy1.mono (l2.1.trans l3.1)) (hz1.mono (l2.1.trans l3.1))).aO l3.2 fun ρ4 l4 p=>?_
     refine(aX l4.2 e).aO l4.2 fun ρ5 l5 m=>?_
     refine SR.pure ?_
     have Z8:=ha.mono (l3.1.trans (l4.1.trans l5.1))
     split
     ·exact .sl _ _ Z8
     ·exact .sl _ _ (Z8.add _)
   | _=>exact trivial
 | _=>exact trivial
theorem Ib(hi:dP ρ)(t:TypeId){v v':Value}(hv:VR ρ v v'){x x' y y' z z':Option Value}(hx:qz ρ x x')(hy:qz ρ y y')(hz:qz ρ z z'):SR P VR ρ (Instr.sliceAt t v x y z) (Instr.sliceAt t v' x' y' z'):=by
 unfold Instr.sliceAt
 refine(aK t).aO hi fun ρ1 l1 d=>?_
 have hv1:=hv.mono l1.1
 have hx1:=hx.mono l1.1
 have hy1:=hy.mono l1.1
 have hz1:=hz.mono l1.1
 cases d with
 | array n e=>
   refine(gV hv1).bind' l1.2 fun ρ2 l2 a a' ha=>?_
   refine(fq l2.2 false n n (hx1.mono l2.1) (hy1.mono l2.1) (hz1.mono l2.1)).aO l2.2 fun ρ4 l4 p=>?_
   refine(aX l4.2 e).aO l4.2 fun ρ5 l5 m=>?_
   refine SR.pure ?_
   have Z8:=ha.mono (l4.1.trans l5.1)
   split
   ·exact .sl _ _ Z8
   ·exact .sl _ _ (Z8.add _)
 | _=>exact PE l1.2 t hv1 hx1 hy1 hz1
theorem Kc(op:BinOp)(k:IntKind)(x y:Int):SR P VR ρ (Op.intDiv op k x y) (Op.intDiv op k x y):=by
 unfold Op.intDiv
 split
 ·exact aS (e:=.error _) zs zs
 ·split
  ·exact SR.pure (.int _ _)
  ·exact SR.pure (.int _ _)
  ·exact trivial
theorem PD(op:BinOp)(k yk:IntKind)(x y:Int):SR P VR ρ (Op.shift op k x yk y) (Op.shift op k x yk y):=by
 unfold Op.shift
 split
 ·exact aS (e:=.error _) zs zs
 ·dsimp only
  split
  ·exact SR.pure (.int _ _)
  ·exact SR.pure (.int _ _)
  ·exact trivial
theorem Ka(op:BinOp)(x y:Int):SR P VR ρ (Op.intCmp op x y) (Op.intCmp op x y):=by
 unfold Op.intCmp
 split <;> first|exact SR.pure (.bool _)|exact trivial
theorem Ei(op:BinOp)(k:IntKind)(x y:Int):SR P VR ρ (Op.intArith op k x y) (Op.intArith op k x y):=by
 unfold Op.intArith
 split <;> first|exact SR.pure (.int _ _)|exact trivial
theorem Gx(op:BinOp)(k:IntKind)(x y:Int):SR P VR ρ (Op.intBits op k x y) (Op.intBits op k x y):=by
 unfold Op.intBits
 dsimp only
 split <;> first|exact SR.pure (.int _ _)|exact trivial
theorem vQ(hi:dP ρ)(op:BinOp)(k:FloatKind)(x y:Nat):SR P VR ρ (Op.floatArith op k x y) (Op.floatArith op k x y):=by
 unfold Op.floatArith
 have tail:∀ {ρ':Ren} (r:Option Nat),SR P VR ρ' (match r with|some r=>pure (.float k r)|none=>do pure (.float k (← choose (.nanBits k x y))):Sem Value) (match r with|some r=>pure (.float k r)|none=>do pure (.float k (← choose (.nanBits k x y))):Sem Value):=by
  intro ρ' r
  cases r with
  | some r=>exact SR.pure (.float _ _)
  | none=>exact⟨_,rfl,fun n=>⟨_,rfl,.float _ _⟩⟩
 cases op <;> first|exact trivial|exact tail _
theorem AQ(op:BinOp)(k:FloatKind)(x y:Nat):SR P VR ρ (Op.floatCmp op k x y) (Op.floatCmp op k x y):=by
 unfold Op.floatCmp
 cases op <;> first|exact trivial|exact SR.pure (.bool _)
theorem lD(op:BinOp)(x y:ByteArray):SR P VR ρ (Op.stringOp op x y) (Op.stringOp op x y):=by
 unfold Op.stringOp
 cases op <;> dsimp only <;> first|exact trivial|exact SR.pure (.bool _)|(split <;> first|exact trivial|exact SR.pure (.string _))
def Cl{α:Type}(P:Program)(s:Sem α):Prop:=∀ {ρ:Ren},dP ρ→SR P mF ρ s s
theorem Cl.pure{α:Type}(a:α):Cl P (Pure.pure a:Sem α):=fun _=>SR.pure rfl
theorem Cl.bind{α β:Type}{s:Sem α}{f:α→Sem β}(h:Cl P s)(hf:∀a,Cl P (f a)):Cl P (s >>= f):=fun hi=>(h hi).aO hi fun _ l a=>hf a l.2
theorem Cl.stuck{α:Type}(w:String):Cl P (Go.stuck w:Sem α):=fun _=>trivial
theorem Cl.choose(q:Question):Cl P (Go.choose q):=fun _=>oF q
theorem Cl.ite{α:Type}{c:Prop}[Decidable c]{s t:Sem α}(h:Cl P s)(k:Cl P t):Cl P (if c then s else t):=by split <;> assumption
theorem AJ(op:BinOp)(k:FloatKind)(x y:Nat):Cl P (Op.floatArith op k x y):=by
 unfold Op.floatArith
 have tail:∀ (r:Option Nat),Cl P (match r with|some r=>Pure.pure (.float k r)|none=>do Pure.pure (.float k (← Go.choose (.nanBits k x y))):Sem Value):=by
  intro r
  cases r with
  | some r=>exact Cl.pure _
  | none=>exact Cl.bind (Cl.choose _) fun _=>Cl.pure _
 cases op <;> first|exact(fun{_} _=>trivial)|exact(fun{_} hi=>tail _ hi)
theorem FQ(op:BinOp)(k:FloatKind)(x y:Nat):Cl P (Op.floatCmp op k x y):=by
 unfold Op.floatCmp
 cases op <;> first|exact(fun{_} _=>trivial)|exact Cl.pure _
theorem ey(s:FloatKind)(x:Nat)(d:FloatKind):Cl P (Conv.floatToFloat s x d):=by
 unfold Conv.floatToFloat
 split
 ·exact Cl.pure _
 ·split
  ·exact Cl.bind (Cl.choose _) fun _=>Cl.pure _
  ·exact Cl.pure _
  ·dsimp only
   split
   ·exact Cl.bind (Cl.choose _) fun _=>Cl.pure _
   ·exact Cl.pure _
theorem rR(op:BinOp)(k:FloatKind)(x y:Nat):Cl P (Op.Complex.arith op k x y):=by
 unfold Op.Complex.arith
 refine Cl.bind (AJ _ _ _ _) fun v=>?_
 cases v <;> first|exact Cl.pure _|exact(fun{_} _=>trivial)
theorem JC(op:BinOp)(k:FloatKind)(x y:Nat):Cl P (Op.Complex.cmp op k x y):=by
 unfold Op.Complex.cmp
 refine Cl.bind (FQ _ _ _ _) fun v=>?_
 cases v <;> first|exact Cl.pure _|exact(fun{_} _=>trivial)
theorem WO(s:FloatKind)(x:Nat)(d:FloatKind):Cl P (Op.Complex.conv s x d):=by
 unfold Op.Complex.conv
 split
 ·exact Cl.pure _
 ·refine Cl.bind (ey _ _ _) fun v=>?_
  cases v <;> first|exact Cl.pure _|exact(fun{_} _=>trivial)
theorem JD(a b c d:Nat):Cl P (Op.Complex.product a b c d):=by
 unfold Op.Complex.product
 repeat first|exact Cl.pure _|refine Cl.bind (rR _ _ _ _) fun _=>?_
theorem DY(s a b c d:Nat):Cl P (Op.Complex.corrected s a b c d):=by
 unfold Op.Complex.corrected
 repeat first|exact Cl.pure _|refine Cl.bind (rR _ _ _ _) fun _=>?_
theorem FR(a b c d:Nat):Cl P (Op.Complex.quotient a b c d):=by
 unfold Op.Complex.quotient
 dsimp only
 refine Cl.bind (JC _ _ _ _) fun x=>?_
 repeat' first
  | (with_reducible exact Cl.pure _)
  | (with_reducible exact DY _ _ _ _ _)
  | (with_reducible refine Cl.bind (rR _ _ _ _) fun _=>?_)
  | (with_reducible refine Cl.bind (JC _ _ _ _) fun _=>?_)
  | (with_reducible refine Cl.bind (Cl.pure _) fun _=>?_)
  | (with_reducible refine Cl.ite ?_ ?_)
  | split
  | dsimp only
def wH(P:Program)(t:TypeId):Bool:=match P.info? t with
 | some i=>(match i.desc with| .named "sync.copyChecker" _=>false|_=>true)
 | none=>true
theorem gU{α β:Type}{R:Ren→α→β→Prop}{t:TypeId}{f:TypeDesc→Sem α}{f':TypeDesc→Sem β}(hR:∀d,P.underlying t=some d→SR P R ρ (f d) (f' d)):SR P R ρ (underlying t >>= f) (underlying t >>= f'):=by
 refine⟨_,rfl,?_⟩
 have e:∀o,P.underlying t=o→SR P R ρ (Sem.bind (match o with|some d=>pure d|none=>stuck "no such type") f) (Sem.bind (match o with|some d=>pure d|none=>stuck "no such type") f'):=by
  intro o ho
  cases o with
  | none=>exact trivial
  | some d=>exact hR d ho
 exact e _ rfl
theorem Yz{α β:Type}{R:Ren→α→β→Prop}{t:TypeId}{f:TypeInfo→Sem α}{f':TypeInfo→Sem β}(hR:∀d,P.info? t=some d→SR P R ρ (f d) (f' d)):SR P R ρ (typeInfo t >>= f) (typeInfo t >>= f'):=by
 refine⟨_,rfl,?_⟩
 have e:∀o,P.info? t=o→SR P R ρ (Sem.bind (match o with|some d=>pure d|none=>stuck "no such type") f) (Sem.bind (match o with|some d=>pure d|none=>stuck "no such type") f'):=by
  intro o ho
  cases o with
  | none=>exact trivial
  | some d=>exact hR d ho
 exact e _ rfl
theorem xR(op:BinOp)(t:TypeId)(k k':IntKind)(a b:Int):SR P VR ρ (binOp op t (.int k a) (.int k' b)) (binOp op t (.int k a) (.int k' b)):=by
 cases op <;> (unfold binOp;dsimp only) <;> first
  | exact PD _ _ _ _ _
  | (split <;> first|exact trivial|exact Ei _ _ _ _|exact Kc _ _ _ _|exact Gx _ _ _ _|exact Ka _ _ _)
theorem qN(hi:dP ρ)(op:BinOp)(t:TypeId)(k k':FloatKind)(a b:Nat):SR P VR ρ (binOp op t (.float k a) (.float k' b)) (binOp op t (.float k a) (.float k' b)):=by
 cases op <;> (unfold binOp;dsimp only) <;> first
  | exact trivial
  | (split <;> first|exact trivial|exact vQ hi _ _ _ _|exact AQ _ _ _ _)
def bJ:BinOp→Bool
 | .eql| .neq=>false
 | _=>true
def BJ(P:Program)(s:Sem Value):Prop:=∀ρ:Ren,dP ρ→SR P VR ρ s s
theorem BJ.bind{α:Type}{s:Sem α}{f:α→Sem Value}(h:Cl P s)(hf:∀a,BJ P (f a)):BJ P (s >>= f):=fun _ hi=>(h hi).aO hi fun _ l a=>hf a _ l.2
theorem BJ.ite{c:Prop}[Decidable c]{s t:Sem Value}(h:BJ P s)(k:BJ P t):BJ P (if c then s else t):=by split <;> assumption
theorem BJ.complex(k:FloatKind)(a b:Nat):BJ P (Pure.pure (.complex k a b):Sem Value):=fun _ _=>SR.pure (.complex _ _ _)
theorem BJ.bool(b:Bool):BJ P (Pure.pure (.bool b):Sem Value):=fun _ _=>SR.pure (.bool _)
theorem nO(op:BinOp)(k:FloatKind)(a b c d:Nat):BJ P (Op.complexOp op k a b c d):=by
 unfold Op.complexOp
 cases op <;> dsimp only <;> first
  | exact(fun _ _=>trivial)
  | (repeat' first
   | (with_reducible exact BJ.complex _ _ _)
   | (with_reducible exact BJ.bool _)
   | (with_reducible refine BJ.bind (rR _ _ _ _) fun _=>?_)
   | (with_reducible refine BJ.bind (JC _ _ _ _) fun _=>?_)
   | (with_reducible refine BJ.bind (WO _ _ _) fun _=>?_)
   | (with_reducible refine BJ.bind (JD _ _ _ _) fun _=>?_)
   | (with_reducible refine BJ.bind (FR _ _ _ _) fun _=>?_)
   | (with_reducible refine BJ.ite ?_ ?_))
theorem iP(hi:dP ρ){ts:Array TypeId}{t:TypeId}{x x' y y':Value}(hx:VR ρ x x')(hy:VR ρ y y'):SR P VR ρ (Builtin.unsafeAdd_ ts t #[x,y]) (Builtin.unsafeAdd_ ts t #[x',y']):=by
 unfold Builtin.unsafeAdd_
 cases hx with
 | yu=>
   dsimp only
   refine(BZ hi hy).aO hi fun ρ1 l1 n=>?_
   split
   ·exact trivial
   ·split <;> exact trivial
 | ptr ha=>
   dsimp only
   refine(BZ hi hy).aO hi fun ρ1 l1 n=>?_
   split
   ·refine(Af l1.2 (l1.1 _ _ ha.1)).bind' l1.2 ?_
    rintro ρ2 l2 u v ⟨rfl,rfl⟩
    exact SR.pure (.ptr (ha.mono (l1.1.trans l2.1)))
   ·split
    ·exact trivial
    ·refine(oh (l1.1 _ _ ha.1)).aO l1.2 fun ρ2 l2 u=>?_
     cases u with
     | none=>exact trivial
     | some u=>
       obtain⟨e,c⟩:=u
       dsimp only
       refine iI.bind' l2.2 ?_
       rintro ρ3 l3 Q Q' ⟨rfl,rfl⟩
       rw[ha.2.1]
       cases cellAtBytes Q' Q'.depth e (c / Q'.cellsOf e) _ n with
       | none=>exact trivial
       | some o=>exact SR.pure (.ptr ⟨l3.1 _ _ (l2.1 _ _ (l1.1 _ _ ha.1)),rfl,ha.2.2⟩)
 | _=>exact trivial
theorem dQ(hi:dP ρ)(t:TypeId){x x' y y':Value}(hx:VR ρ x x')(hy:VR ρ y y'):SR P VR ρ (movedNumber t x y) (movedNumber t x' y'):=by
 unfold movedNumber
 refine(aK t).aO hi fun ρ1 l1 d=>?_
 dsimp only
 have rest:SR P VR ρ1 (do
  let .pointer (some n):=x|Builtin.unsafeAdd_ #[] t #[x,y]
  let (a,lost) ← behindNumber n
  match ← Builtin.unsafeAdd_ #[] t #[.pointer (some a),y] with
  | .pointer (some b)=>asNumber b lost
  | v=>pure v) (do
  let .pointer (some n):=x'|Builtin.unsafeAdd_ #[] t #[x',y']
  let (a,lost) ← behindNumber n
  match ← Builtin.unsafeAdd_ #[] t #[.pointer (some a),y'] with
  | .pointer (some b)=>asNumber b lost
  | v=>pure v):=by
  have hy1:=hy.mono l1.1
  have hx1:=hx.mono l1.1
  have hu:=iP (P:=P) l1.2 (ts:=#[]) (t:=t) hx1 hy1
  cases hx1 with
  | ptr ha=>
    dsimp only
    refine(bf l1.2 ha).bind' l1.2 ?_
    rintro ρ2 l2 p p' ⟨hp,e⟩
    obtain⟨p,b⟩:=p
    obtain⟨p',b'⟩:=p'
    cases e
    dsimp only
    refine(iP l2.2 (.ptr hp) (hy1.mono l2.1)).bind' l2.2 ?_
    intro ρ3 l3 v v' hv
    cases hv with
    | ptr hb=>exact DN hb _ l3.2
    | _=>exact SR.pure (by constructor <;> assumption)
  | _=>exact hu
 cases d <;> first|exact rest|exact trivial
theorem lU(hi:dP ρ)(t:TypeId){x x' y y':Value}(hx:VR ρ x x')(hy:VR ρ y y'):SR P VR ρ (movedPointer t x y) (movedPointer t x' y'):=by
 unfold movedPointer
 have hu:=iP (P:=P) hi (ts:=#[]) (t:=t) hx hy
 cases hx with
 | ptr ha=>
   dsimp only
   refine(sF hi ha.1).bind' hi ?_
   rintro ρ1 l1 p p' (⟨rfl,rfl⟩|⟨b,b',l,rfl,rfl,hb⟩)
   ·exact iP (ts:=#[]) (t:=t) l1.2 (.ptr (ha.mono l1.1)) (hy.mono l1.1)
   ·exact trivial
 | _=>exact hu
theorem uM(hi:dP ρ)(k:IntKind){a a':Addr}(ha:AR ρ a a')(n:Int):SR P VR ρ (Op.addrMod k a n) (Op.addrMod k a' n):=by
 unfold Op.addrMod
 refine(oh ha.1).aO hi fun ρ1 l1 u=>?_
 cases u with
 | none=>exact trivial
 | some u=>
   obtain⟨e,c⟩:=u
   dsimp only
   refine(gq e).aO l1.2 fun ρ2 l2 i=>?_
   split
   ·exact trivial
   ·exact(qI l2.2 (ha.mono (l1.1.trans l2.1))).aO l2.2 fun _ _ b=>SR.pure (.int _ _)
theorem qp(hg:P.globals.size=0)(hi:dP ρ)(a b a' b':Addr):SR P (fun _ _ _=>False) ρ (Op.twoPlaces a b) (Op.twoPlaces a' b'):=by
 unfold Op.twoPlaces
 refine iI.bind' hi ?_
 rintro ρ1 l1 Q Q' ⟨rfl,rfl⟩
 have e:∀ (a b:Addr),(a.block != b.block || decide (a.block≥Q'.globals.size))=true:=fun a b=>by simp[hg]
 dsimp only
 simp only[e,if_true]
 exact trivial
theorem Fx(hg:P.globals.size=0)(hi:dP ρ)(k:IntKind)(a b a' b':Addr):SR P VR ρ (Op.addrSub k a b) (Op.addrSub k a' b'):=(qp hg hi a b a' b').bind' hi fun _ _ _ _ h=>h.elim
theorem Fw(hg:P.globals.size=0)(hi:dP ρ)(op:BinOp)(a b a' b':Addr):SR P VR ρ (Op.addrCmp op a b) (Op.addrCmp op a' b'):=(qp hg hi a b a' b').bind' hi fun _ _ _ _ h=>h.elim
theorem NK(hg:P.globals.size=0)(hi:dP ρ)(op:BinOp)(ho:bJ op=true)(t:TypeId){x x' y y':Value}(hx:VR ρ x x')(hy:VR ρ y y'):SR P VR ρ (binOp op t x y) (binOp op t x' y'):=by
 cases hx with
 | int k n=>
   cases hy with
   | int k' n'=>exact xR op t k k' n n'
   | ptr hb=>cases op <;> first|exact trivial|exact dQ hi t (.ptr hb) (.int k n)|exact(bf hi hb).bind' hi fun _ l _ _ hp=>uM l.2 _ hp.1 _|simp[bJ] at ho
   | yu=>cases op <;> first|exact trivial|exact dQ hi t .yu (.int k n)|simp[bJ] at ho
   | _=>cases op <;> first|exact trivial|simp[bJ] at ho
 | float k n=>
   cases hy with
   | float k' n'=>exact qN hi op t k k' n n'
   | _=>cases op <;> first|exact trivial|simp[bJ] at ho
 | complex k m n=>
   cases hy with
   | complex k' m' n'=>
     cases op <;> (unfold binOp;dsimp only) <;> (split <;> first|exact trivial|exact nO _ _ _ _ _ _ _ hi)
   | _=>cases op <;> first|exact trivial|simp[bJ] at ho
 | string s=>
   cases hy with
   | string s'=>cases op <;> (unfold binOp;dsimp only;exact lD _ _ _)
   | _=>cases op <;> first|exact trivial|simp[bJ] at ho
 | ptr ha=>
   cases hy with
   | int k n=>cases op <;> first
    | exact trivial
    | (refine(aK t).aO hi fun ρ1 l1 d=>?_
       cases d <;> first|exact dQ l1.2 t (.ptr (ha.mono l1.1)) (.int k n)|exact lU l1.2 t (.ptr (ha.mono l1.1)) (.int k n))
    | exact dQ hi t (.ptr ha) (.int k _)
    | exact(bf hi ha).bind' hi fun _ l _ _ hp=>uM l.2 _ hp.1 _
    | simp[bJ] at ho
   | ptr hb=>cases op <;> first
    | exact trivial
    | exact(bf hi ha).bind' hi fun _ l _ _ hp=>(bf l.2 (hb.mono l.1)).bind' l.2 fun _ l2 _ _ hq=>Fx hg l2.2 _ _ _ _ _
    | exact(bf hi ha).bind' hi fun _ l _ _ hp=>(bf l.2 (hb.mono l.1)).bind' l.2 fun _ l2 _ _ hq=>Fw hg l2.2 _ _ _ _ _
    | simp[bJ] at ho
   | _=>cases op <;> first|exact trivial|simp[bJ] at ho
 | yu=>
   cases hy with
   | int k n=>cases op <;> first
    | exact trivial
    | (refine(aK t).aO hi fun ρ1 l1 d=>?_
       cases d <;> first|exact dQ l1.2 t .yu (.int k n)|exact lU l1.2 t .yu (.int k n))
    | exact dQ hi t .yu (.int k _)
    | simp[bJ] at ho
   | _=>cases op <;> first|exact trivial|simp[bJ] at ho
 | _=>cases hy <;> cases op <;> first|exact trivial|simp[bJ] at ho
theorem iN{op:BinOp}(ho:bJ op=true)(t:TypeId)(x y:Operand)(a b:Value):eqGuard op t x y a b=pure ():=by
 cases op <;> first|rfl|simp[bJ] at ho
structure Dx(P:Program)(t:TypeId):Prop where
 und:∃k,P.underlying t=some (.int k)
 copy:wH P t=true
 guard:P.eqGuardType P.depth t=false
theorem Gi{t:TypeId}{k:IntKind}(h:P.underlying t=some (.int k))(hi:dP ρ)(d:Nat)(a b:Value):SR P (fun _ x y=>x=false∧y=false) ρ (Op.eqGuardIn (d+1) t a b) (Op.eqGuardIn (d+1) t a b):=by
 unfold Op.eqGuardIn
 refine gU fun u hu=>?_
 rw[h] at hu
 cases hu
 exact⟨_,rfl,rfl,rfl⟩
theorem F6{t:TypeId}(hT:Dx P t)(hi:dP ρ)(op:BinOp)(x y:Operand){a a' b b':Value}(ha:VR ρ a a')(hb:VR ρ b b'):SR P mF ρ (eqGuard op t x y a b) (eqGuard op t x y a' b'):=by
 obtain⟨k,hk⟩:=hT.und
 have e1:SR P mF ρ (do if ← Op.eqGuardIn Op.maxDepth t .nilIface .nilIface then unsupported (.noEntry sQ17)) (do if ← Op.eqGuardIn Op.maxDepth t .nilIface .nilIface then unsupported (.noEntry sQ17)):=by
  refine(Gi hk hi 9999 _ _).bind' hi ?_
  rintro ρ1 l1 u v ⟨rfl,rfl⟩
  exact SR.pure rfl
 have one:∀op,bJ op=false→SR P mF ρ (eqGuard op t x y a b) (eqGuard op t x y a' b'):=by
  intro op ho
  cases op <;> first|(simp[bJ] at ho;done)|skip
  all_goals
   unfold eqGuard
   cases ha with
   | nilIface=>
     cases hb with
     | nilIface=>
       dsimp only
       cases x <;> cases y <;> first|exact SR.pure rfl|exact e1
     | _=>exact SR.pure rfl
   | agg e h=>
     cases hb with
     | agg e h=>
       dsimp only
       refine iI.bind' hi ?_
       rintro ρ1 l1 Q Q' ⟨rfl,rfl⟩
       refine iI.bind' l1.2 ?_
       rintro ρ2 l2 Q Q2 ⟨rfl,rfl⟩
       simp only[hT.guard]
       exact SR.pure rfl
     | _=>exact SR.pure rfl
   | _=>exact SR.pure rfl
 cases ho:bJ op with
 | true=>rw[iN ho,iN ho];exact SR.pure rfl
 | false=>exact one op ho
theorem Qm{x x':Value}(hx:VR ρ x x'):SR P VR ρ (Op.unary .not x) (Op.unary .not x'):=by
 cases hx <;> first|exact SR.pure (.bool _)|exact trivial
theorem pK(hg:P.globals.size=0){t:TypeId}(hT:Dx P t)(hi:dP ρ){x x' y y':Value}(hx:VR ρ x x')(hy:VR ρ y y'):SR P mF ρ (Op.equal t x y) (Op.equal t x' y'):=by
 obtain⟨k,hk⟩:=hT.und
 have h:=hT.copy
 show SR P mF ρ (Op.equalIn (9999+1) t x y) (Op.equalIn (9999+1) t x' y')
 unfold Op.equalIn
 refine gU fun u hu=>?_
 rw[hk] at hu
 cases hu
 cases hx with
 | int k1 n1=>
   cases hy with
   | int k2 n2=>dsimp only;split <;> first|exact SR.pure rfl|exact trivial
   | ptr ha=>cases n1 with
     | ofNat m=>cases m with
       | zero=>exact SR.pure rfl
       | succ m=>exact trivial
     | negSucc m=>exact trivial
   | _=>exact trivial
 | ptr ha=>
   cases hy with
   | int k2 n2=>cases n2 with
     | ofNat m=>cases m with
       | zero=>exact SR.pure rfl
       | succ m=>exact trivial
     | negSucc m=>exact trivial
   | ptr hb=>
     dsimp only
     refine(bf hi ha).bind' hi ?_
     intro ρ1 l1 p p' hp
     refine(bf l1.2 (hb.mono l1.1)).bind' l1.2 ?_
     intro ρ2 l2 q q' hq
     refine iI.bind' l2.2 ?_
     rintro ρ3 l3 Q Q' ⟨rfl,rfl⟩
     have e1:∀ (a b:Addr),(a.block == b.block && decide (a.block<Q'.globals.size))=false:=fun a b=>by simp[hg]
     simp only[e1,Bool.false_eq_true,if_false]
     refine Yz fun i hti=>?_
     replace h:wH Q' t=true:=h
     unfold wH at h
     rw[hti] at h
     dsimp only at h
     split
     ·rename_i he
      rw[he] at h
      simp at h
     ·exact trivial
   | _=>exact trivial
 | _=>cases hy <;> exact trivial
theorem Ju(hg:P.globals.size=0){t:TypeId}(hT:Dx P t)(hi:dP ρ){x x' y y':Value}(hx:VR ρ x x')(hy:VR ρ y y'):SR P VR ρ (binOp .eql t x y) (binOp .eql t x' y'):=by
 have h1:SR P VR ρ (do pure (.bool (← Op.equal t x y))) (do pure (.bool (← Op.equal t x' y'))):=(pK hg hT hi hx hy).aO hi fun _ _ b=>SR.pure (.bool _)
 cases hx with
 | int k n=>cases hy with
   | int k' n'=>exact xR _ t k k' n n'
   | _=>exact h1
 | float k n=>cases hy with
   | float k' n'=>exact qN hi _ t k k' n n'
   | _=>exact h1
 | complex k m n=>cases hy with
   | complex k' m' n'=>unfold binOp;dsimp only;(split <;> first|exact trivial|exact nO _ _ _ _ _ _ _ hi)
   | _=>exact h1
 | string a=>cases hy with
   | string b=>unfold binOp;dsimp only;exact lD _ _ _
   | _=>exact h1
 | _=>exact h1
theorem Jv(hg:P.globals.size=0){t:TypeId}(hT:Dx P t)(hi:dP ρ){x x' y y':Value}(hx:VR ρ x x')(hy:VR ρ y y'):SR P VR ρ (binOp .neq t x y) (binOp .neq t x' y'):=by
 have h1:SR P VR ρ (do pure (.bool (!(← Op.equal t x y)))) (do pure (.bool (!(← Op.equal t x' y')))):=(pK hg hT hi hx hy).aO hi fun _ _ b=>SR.pure (.bool _)
 cases hx with
 | int k n=>cases hy with
   | int k' n'=>exact xR _ t k k' n n'
   | _=>exact h1
 | float k n=>cases hy with
   | float k' n'=>exact qN hi _ t k k' n n'
   | _=>exact h1
 | complex k m n=>cases hy with
   | complex k' m' n'=>unfold binOp;dsimp only;(split <;> first|exact trivial|exact nO _ _ _ _ _ _ _ hi)
   | _=>exact h1
 | string a=>cases hy with
   | string b=>unfold binOp;dsimp only;exact lD _ _ _
   | _=>exact h1
 | _=>exact h1
theorem NJ(hg:P.globals.size=0){t:TypeId}(hT:Dx P t)(hi:dP ρ)(op:BinOp)(ho:bJ op=false){x x' y y':Value}(hx:VR ρ x x')(hy:VR ρ y y'):SR P VR ρ (binOp op t x y) (binOp op t x' y'):=by
 cases op <;> first|exact Ju hg hT hi hx hy|exact Jv hg hT hi hx hy|simp[bJ] at ho
end
end Go.cZ
