/- Par10 Par11b Par12 -/
import Derived.Test.YthaelabgfnnebaaGreatB9
set_option maxRecDepth 100000
set_option maxHeartbeats 16000000
set_option linter.unusedVariables false
set_option linter.unusedSectionVars false
namespace Go.cu
section
variable[Inhabited aS]
variable{P:Program}{ρ:Ren}
theorem OY{x x':Value}(hx:VR ρ x x'):SR P VR ρ (Op.unary .not x) (Op.unary .not x'):=by
 cases hx <;> first|exact SR.pure (.bool _)|exact trivial
theorem oU(hg:P.globals.size=0){t:TypeId}(hT:Cu P t)(hi:dI ρ){x x' y y':Value}(hx:VR ρ x x')(hy:VR ρ y y'):SR P lW ρ (Op.equal t x y) (Op.equal t x' y'):=by
 obtain⟨k,hk⟩:=hT.und
 have h:=hT.copy
 show SR P lW ρ (Op.equalIn (9999+1) t x y) (Op.equalIn (9999+1) t x' y')
 unfold Op.equalIn
 refine gP fun u hu=>?_
 rw[hk] at hu
 cases hu
 cases hx with
 | int k1 n1=>
   cases hy with
   | int k2 n2=>dsimp only;split <;> first|exact SR.pure rfl|exact trivial
   | ptr ha=>cases n1 with
     | ofNat m=>cases m with
       | zero=>exact SR.pure rfl
       | succ m=>exact trivial
     | negSucc m=>exact trivial
   | _=>exact trivial
 | ptr ha=>
   cases hy with
   | int k2 n2=>cases n2 with
     | ofNat m=>cases m with
       | zero=>exact SR.pure rfl
       | succ m=>exact trivial
     | negSucc m=>exact trivial
   | ptr hb=>
     dsimp only
     refine(aV hi ha).bind' hi ?_
     intro ρ1 l1 p p' hp
     refine(aV l1.2 (hb.mono l1.1)).bind' l1.2 ?_
     intro ρ2 l2 q q' hq
     refine iF.bind' l2.2 ?_
     rintro ρ3 l3 Q Q' ⟨rfl,rfl⟩
     have e1:∀ (a b:Addr),(a.block == b.block && decide (a.block<Q'.globals.size))=false:=fun a b=>by simp[hg]
     simp only[e1,Bool.false_eq_true,if_false]
     refine Xd fun i hti=>?_
     replace h:vk Q' t=true:=h
     unfold vk at h
     rw[hti] at h
     dsimp only at h
     split
     ·rename_i he
      rw[he] at h
      simp at h
     ·exact trivial
   | _=>exact trivial
 | _=>cases hy <;> exact trivial
theorem IG(hg:P.globals.size=0){t:TypeId}(hT:Cu P t)(hi:dI ρ){x x' y y':Value}(hx:VR ρ x x')(hy:VR ρ y y'):SR P VR ρ (binOp .eql t x y) (binOp .eql t x' y'):=by
 have h1:SR P VR ρ (do pure (.bool (← Op.equal t x y))) (do pure (.bool (← Op.equal t x' y'))):=(oU hg hT hi hx hy).aN hi fun _ _ b=>SR.pure (.bool _)
 cases hx with
 | int k n=>cases hy with
   | int k' n'=>exact wF _ t k k' n n'
   | _=>exact h1
 | float k n=>cases hy with
   | float k' n'=>exact qo hi _ t k k' n n'
   | _=>exact h1
 | complex k m n=>cases hy with
   | complex k' m' n'=>unfold binOp;dsimp only;(split <;> first|exact trivial|exact nA _ _ _ _ _ _ _ hi)
   | _=>exact h1
 | string a=>cases hy with
   | string b=>unfold binOp;dsimp only;exact kU _ _ _
   | _=>exact h1
 | _=>exact h1
theorem II(hg:P.globals.size=0){t:TypeId}(hT:Cu P t)(hi:dI ρ){x x' y y':Value}(hx:VR ρ x x')(hy:VR ρ y y'):SR P VR ρ (binOp .neq t x y) (binOp .neq t x' y'):=by
 have h1:SR P VR ρ (do pure (.bool (!(← Op.equal t x y)))) (do pure (.bool (!(← Op.equal t x' y')))):=(oU hg hT hi hx hy).aN hi fun _ _ b=>SR.pure (.bool _)
 cases hx with
 | int k n=>cases hy with
   | int k' n'=>exact wF _ t k k' n n'
   | _=>exact h1
 | float k n=>cases hy with
   | float k' n'=>exact qo hi _ t k k' n n'
   | _=>exact h1
 | complex k m n=>cases hy with
   | complex k' m' n'=>unfold binOp;dsimp only;(split <;> first|exact trivial|exact nA _ _ _ _ _ _ _ hi)
   | _=>exact h1
 | string a=>cases hy with
   | string b=>unfold binOp;dsimp only;exact kU _ _ _
   | _=>exact h1
 | _=>exact h1
theorem MG(hg:P.globals.size=0){t:TypeId}(hT:Cu P t)(hi:dI ρ)(op:BinOp)(ho:bE op=false){x x' y y':Value}(hx:VR ρ x x')(hy:VR ρ y y'):SR P VR ρ (binOp op t x y) (binOp op t x' y'):=by
 cases op <;> first|exact IG hg hT hi hx hy|exact II hg hT hi hx hy|simp[bE] at ho
theorem El{z z':Array Value}(hz:dU ρ z z')(n:Nat):dU ρ ((Array.range n).map (z[· % z.size]!)) ((Array.range n).map (z'[· % z'.size]!)):=by
 refine⟨zs,fun i h h'=>?_⟩
 simp only[Array.getElem_map,Array.getElem_range]
 rw[← hz.1]
 rcases hz.get? (i % z.size) with⟨a,b⟩|⟨v,v',a,b,c⟩
 ·simp only[Array.getElem!_eq_getD,Array.getD_eq_getD_getElem?,a,b,Option.getD_none]
  exact .bool false
 ·simp only[Array.getElem!_eq_getD,Array.getD_eq_getD_getElem?,a,b,Option.getD_some]
  exact c
theorem vQ(hi:dI ρ){t:TypeId}(hz:∀e,P.underlying t=some (.slice e)→Mw P e)(n:Nat){l l':Array (Nat × Value)}(hm:∀ {ρ'},Le ρ ρ'→jG ρ' l.toList l'.toList):SR P VR ρ (Instr.buildSlice t n l) (Instr.buildSlice t n l'):=by
 unfold Instr.buildSlice
 refine gP fun d hd=>?_
 cases d with
 | slice el=>
   dsimp only
   refine(aT hi el).aN hi fun ρ1 l1 size=>?_
   have tail:∀ {ρ2:Ren} (l2:Ext ρ ρ2) {z z':Array Value} (hzz:dU ρ2 z z'),SR P VR ρ2
    (match Instr.fill (fun i=>some (i * size,size)) ((Array.range (n * size)).map (z[· % z.size]!)) l.toList with|some cells=>do pure (.slice (some (← newRow el cells)) n n)|_=>stuck Pa)
    (match Instr.fill (fun i=>some (i * size,size)) ((Array.range (n * size)).map (z'[· % z'.size]!)) l'.toList with|some cells=>do pure (.slice (some (← newRow el cells)) n n)|_=>stuck Pa):=by
    intro ρ2 l2 z z' hzz
    rcases vZ (ρ:=ρ2) (fun i=>some (i * size,size)) (hm l2.1) (El hzz (n * size)) with⟨e1,e2⟩|⟨x,x',e1,e2,hx⟩
    ·simp only[e1,e2];exact trivial
    ·simp only[e1,e2];exact(qx el hx).bind' l2.2 fun _ _ a a' ha=>SR.pure (.sl n n ha)
   by_cases c:n * size > 2 ^ 24
   ·simp only[c,if_true];exact trivial
   ·simp only[c,if_false]
    by_cases c2:n * size=0
    ·simp only[c2,if_true]
     have:=tail l1 (dU.nil ρ1)
     simp only[c2] at this
     exact this
    ·simp only[c2,if_false]
     exact(iL l1.2 (hz el hd)).bind' l1.2 fun ρ2 l2 z z' h=>tail (l1.trans l2) h.cells
 | _=>exact trivial
structure PD(P:Program)(s d:TypeId):Prop where
 src:∃k,P.underlying s=some (.int k)
 dst:∃k,P.underlying d=some (.int k)
theorem EX{s d:TypeId}(hT:PD P s d){x x':Value}(hx:VR ρ x x'):SR P VR ρ (convert s d x) (convert s d x'):=by
 unfold convert
 refine gP fun a ha=>gP fun b hb=>?_
 obtain⟨k,hk⟩:=hT.src
 obtain⟨j,hj⟩:=hT.dst
 rw[hk] at ha
 rw[hj] at hb
 cases ha
 cases hb
 cases hx with
 | int q n=>exact SR.pure (.int _ _)
 | float q n=>
   show SR P VR ρ (Conv.floatToInt q n j) (Conv.floatToInt q n j)
   unfold Conv.floatToInt
   dsimp only
   have any:SR P VR ρ (do pure (.int j (j.wrap (← choose (.floatToInt q n j)))):Sem Value) (do pure (.int j (j.wrap (← choose (.floatToInt q n j))))):=⟨_,rfl,fun m=>⟨_,rfl,.int _ _⟩⟩
   split
   ·split
    ·exact SR.pure (.int _ _)
    ·exact any
   ·exact any
 | _=>exact trivial
theorem rE(t:TypeId){x x':Value}(hx:VR ρ x x'):SR P VR ρ (Instr.makeInterface t x) (Instr.makeInterface t x'):=by
 unfold Instr.makeInterface
 refine gP fun d hd=>?_
 cases d <;> first|exact trivial|exact SR.pure (.iface t hx)
theorem iP(hi:dI ρ){l l':Nat}(h:ρ l=some l'):SR P tJ ρ (Instr.getLoop l) (Instr.getLoop l'):=by
 unfold Instr.getLoop
 refine(jy h).bind' hi fun ρ1 l1 o o' ho=>?_
 cases ho with
 | loop hr=>exact SR.pure hr
 | _=>exact trivial
def iZ(r:Nat):Deferred:={target:=.collected r,args:=#[] }
def dO(ρ:Ren)(a b:List Deferred):Prop:=∃x x':List Nat,a=x.map iZ∧b=x'.map iZ∧x.length=x'.length∧∀ (i:Nat) (r:Nat),x[i]? =some r→∃r',x'[i]? =some r'∧ρ r=some r'
theorem dO.nil(ρ:Ren):dO ρ [] []:=⟨[],[],rfl,rfl,rfl,fun i r h=>by simp at h⟩
theorem dO.cons{r r':Nat}{a b:List Deferred}(h:ρ r=some r')(k:dO ρ a b):dO ρ (iZ r :: a) (iZ r' :: b):=by
 obtain⟨x,x',rfl,rfl,h1,h2⟩:=k
 refine⟨r :: x,r' :: x',rfl,rfl,by simp[h1],fun i q hq=>?_⟩
 cases i with
 | zero=>simp only[List.getElem?_cons_zero,Option.some.injEq] at hq;subst hq;exact⟨r',zs,h⟩
 | succ i=>simp only[List.getElem?_cons_succ] at hq⊢;exact h2 i q hq
theorem dO.mono{ρ':Ren}(l:Le ρ ρ'){a b:List Deferred}(h:dO ρ a b):dO ρ' a b:=by
 obtain⟨x,x',h0,h1,h2,h3⟩:=h
 exact⟨x,x',h0,h1,h2,fun i r hr=>let ⟨r',e1,e2⟩:=h3 i r hr;⟨r',e1,l _ _ e2⟩⟩
theorem dO.cases{a b:List Deferred}(h:dO ρ a b):(a=[]∧b=[])∨∃r r' a' b',a=iZ r :: a'∧b=iZ r' :: b'∧ρ r=some r'∧dO ρ a' b':=by
 obtain⟨x,x',rfl,rfl,h1,h2⟩:=h
 cases x with
 | nil=>
   cases x' with
   | nil=>exact .inl ⟨rfl,rfl⟩
   | cons _ _=>simp at h1
 | cons r x=>
   cases x' with
   | nil=>simp at h1
   | cons r' x'=>
     obtain⟨q,e,hq⟩:=h2 0 r zs
     simp only[List.getElem?_cons_zero,Option.some.injEq] at e
     subst e
     exact .inr ⟨r,r',_,_,rfl,rfl,hq,x,x',rfl,rfl,by simpa using h1,fun i s hs=>by simpa using h2 (i+1) s (by simpa using hs)⟩
theorem dO.append{a b c d:List Deferred}(h:dO ρ a b)(k:dO ρ c d):dO ρ (a ++ c) (b ++ d):=by
 obtain⟨x,x',rfl,rfl,h1,h2⟩:=h
 obtain⟨y,y',rfl,rfl,k1,k2⟩:=k
 refine⟨x ++ y,x' ++ y',zs,zs,by simp[h1,k1],fun i r hr=>?_⟩
 rw[List.getElem?_append] at hr⊢
 rw[← h1]
 split at hr
 ·rename_i hl;rw[if_pos hl];exact h2 i r hr
 ·rename_i hl;rw[if_neg hl];exact k2 _ r hr
def im(ρ:Ren)(x x':Nat × List Deferred):Prop:=ρ x.1=some x'.1∧dO ρ x.2 x'.2
theorem Bh{o o':Obj}(h:OR ρ o o'):SR P (fun ρ r r'=>ρ r=some r') ρ (newObj o) (newObj o'):=⟨_,_,rfl,h,fun _ _ r r' hr=>⟨r',rfl,hr⟩⟩
theorem oQ(hi:dI ρ){fn:FuncId}{tmps uz:Array Value}(ht:dU ρ tmps uz)(params:Array Tmp){assign body:Code}(h1:jc fn assign)(h2:jc fn body){around CJ:Option Nat}(ha:(around=none∧CJ=none)∨∃l l',around=some l∧CJ=some l'∧ρ l=some l'):
 SR P im ρ (Instr.enterLoop fn tmps params assign body around) (Instr.enterLoop fn uz params assign body CJ):=by
 unfold Instr.enterLoop
 have fin:∀ {ρ1:Ren} (l1:Ext ρ ρ1) {d d':Nat} (hd:ρ1 d=some d') {m m':List Deferred} (hm:dO ρ1 m m'),SR P im ρ1 (do pure (← newObj (.loop {state:=.ready,pending:=none,fn,tmps,params,assign,body,defers:=d }),m):Sem (Nat × List Deferred)) (do pure (← newObj (.loop {state:=.ready,pending:=none,fn,tmps:=uz,params,assign,body,defers:=d' }),m')):=by
  intro ρ1 l1 d d' hd m m' hm
  refine(Bh (.loop ⟨rfl,ht.mono l1.1,hd,⟨h1,h2,fun j hj=>by cases hj⟩⟩)).bind' l1.2 fun ρ2 l2 r r' hr=>SR.pure ⟨hr,hm.mono l2.1⟩
 rcases ha with⟨rfl,rfl⟩|⟨l,l',rfl,rfl,hl⟩
 ·dsimp only
  exact(Bh (.defs (.inr rfl))).bind' hi fun ρ1 l1 r r' hr=>fin l1 hr (.cons hr (.nil ρ1))
 ·dsimp only
  exact(iP hi hl).bind' hi fun ρ1 l1 r r' hr=>fin l1 hr.defers (.nil ρ1)
theorem tJ.turn{r r':Loop}(h:tJ ρ r r')(s:LoopState)(p:Option Code)(hp:∀j,p=some j→jc r.fn j):tJ ρ {r with state:=s,pending:=p } {r' with state:=s,pending:=p }:=
 ⟨by rw[h.eq],h.tmps,h.defers,⟨h.ok.assign,h.ok.body,hp⟩⟩
theorem ny(hi:dI ρ){l l':Nat}(h:ρ l=some l'):SR P lW ρ (Instr.beginRound l) (Instr.beginRound l'):=by
 unfold Instr.beginRound
 refine(iP hi h).bind' hi fun ρ1 l1 r r' hr=>?_
 have hs:r'.state=r.state:=by rw[hr.eq]
 refine(oo (l1.1 _ _ h) (.loop (by rw[show r'.pending=r.pending by rw[hr.eq]];exact(hr.turn .busy r.pending hr.ok.pending)))).aN l1.2 fun ρ2 l2 _=>?_
 rw[hs]
 cases r.state with
 | ready=>exact SR.pure rfl
 | _=>exact aP (e:=.error _) zs zs
theorem C8(hi:dI ρ){l l':Nat}(h:ρ l=some l')(jump:Option Code)(hj:∀r:Loop,Qt r→∀j,jump=some j→jc r.fn j):SR P VR ρ (Instr.endRound l jump) (Instr.endRound l' jump):=by
 unfold Instr.endRound
 refine(iP hi h).bind' hi fun ρ1 l1 r r' hr=>?_
 refine(oo (l1.1 _ _ h) (.loop (hr.turn _ jump (hj r hr.ok)))).aN l1.2 fun ρ2 l2 _=>SR.pure (.bool _)
theorem tN(hi:dI ρ){l l':Nat}(h:ρ l=some l'):SR P (fun _ a b=>a=b∧∀j,a=some j→∃f,jc f j) ρ (Instr.endLoop l) (Instr.endLoop l'):=by
 unfold Instr.endLoop
 refine(iP hi h).bind' hi fun ρ1 l1 r r' hr=>?_
 have hs:r'.state=r.state:=by rw[hr.eq]
 have hp:r'.pending=r.pending:=by rw[hr.eq]
 rw[hs]
 have fin:∀ {ρ2:Ren} (l2:Ext ρ1 ρ2),SR P (fun _ a b=>a=b∧∀j,a=some j→∃f,jc f j) ρ2 (do setObj l (.loop {r with state:=.exhausted });pure r.pending) (do setObj l' (.loop {r' with state:=.exhausted });pure r'.pending):=by
  intro ρ2 l2
  refine(oo ((l1.trans l2).1 _ _ h) (.loop (by rw[hp];exact(hr.mono l2.1).turn .exhausted r.pending hr.ok.pending))).aN l2.2 fun ρ3 l3 _=>SR.pure ⟨hp.symm,fun j e=>⟨_,hr.ok.pending j e⟩⟩
 cases r.state == LoopState.busy with
 | true=>exact aP (e:=.error _) zs zs
 | false=>exact fin (.refl l1.2)
theorem sW(hi:dI ρ){l l':Nat}(h:ρ l=some l'):SR P (fun _ a b=>a=[]∧b=[]) ρ (Instr.takeDeferred l) (Instr.takeDeferred l'):=by
 unfold Instr.takeDeferred
 refine(jy h).bind' hi fun ρ1 l1 o o' ho=>?_
 cases ho with
 | defs hd=>
   rcases hd with rfl|rfl
   ·exact trivial
   ·exact(oo (l1.1 _ _ h) (.defs (.inl rfl))).aN l1.2 fun _ _ _=>SR.pure ⟨rfl,rfl⟩
 | _=>exact trivial
theorem yG{p:Array Tmp}:∀ {a a':Array Value},dU ρ a a'→∀ {t t':Array Value},dU ρ t t'→dU ρ ((p.zip a).foldl (fun t (i,v)=>t.setIfInBounds i v) t) ((p.zip a').foldl (fun t (i,v)=>t.setIfInBounds i v) t'):=by
 intro a a' ha t t' ht
 rw[← Array.foldl_toList,← Array.foldl_toList,Array.toList_zip,Array.toList_zip]
 have hl:=ha.list
 generalize a.toList=x at hl
 generalize a'.toList=x' at hl
 generalize p.toList=q
 clear ha
 induction hl generalizing q t t' with
 | nil=>simp;exact ht
 | cons hv _ ih=>
   cases q with
   | nil=>simp;exact ht
   | cons i q=>simp only[List.zip_cons_cons,List.foldl_cons];exact ih (ht.set i hv) q
def ZH(ρ:Ren):Next→Next→Prop
 | .round l f t a b,n=>∃l' t',n=.round l' f t' a b∧ρ l=some l'∧dU ρ t t'∧jc f a∧jc f b
 | _,_=>False
theorem Ce(hi:dI ρ){l l':Nat}(h:ρ l=some l'){a a':Array Value}(ha:dU ρ a a'):SR P ZH ρ (Instr.yield l a) (Instr.yield l' a'):=by
 unfold Instr.yield
 refine(iP hi h).bind' hi fun ρ1 l1 r r' hr=>?_
 have e1:r'.params=r.params:=by rw[hr.eq]
 have e2:r'.fn=r.fn:=by rw[hr.eq]
 have e3:r'.assign=r.assign:=by rw[hr.eq]
 have e4:r'.body=r.body:=by rw[hr.eq]
 rw[e1,e2,e3,e4,← ha.1]
 by_cases c:a.size=r.params.size
 ·simp only[c,ne_eq,not_true_eq_false,if_false]
  exact SR.pure ⟨l',_,rfl,l1.1 _ _ h,yG (ha.mono l1.1) hr.tmps,hr.ok.assign,hr.ok.body⟩
 ·simp only[ne_eq,c,not_false_eq_true,if_true]
  exact trivial
theorem VW(hi:dI ρ)(ts:Array TypeId)(t:TypeId){x x':Value}(hx:VR ρ x x'):SR P VR ρ (Builtin.len_ ts t #[x]) (Builtin.len_ ts t #[x']):=by
 unfold Builtin.len_
 cases ts[0]? with
 | none=>exact trivial
 | some u=>
   show SR P VR ρ (underlying u >>= _) (underlying u >>= _)
   refine(aK u).aN hi fun ρ1 l1 d=>?_
   have hx1:=hx.mono l1.1
   cases d with
   | string=>cases hx1 <;> first|exact SR.pure (.int _ _)|exact trivial
   | array n e=>exact SR.pure (.int _ _)
   | pointer a=>
     refine(aK a).aN l1.2 fun ρ2 l2 d=>?_
     cases d <;> first|exact SR.pure (.int _ _)|exact trivial
   | slice e=>cases hx1 <;> first|exact SR.pure (.int _ _)|exact trivial
   | map k e=>
     cases hx1 with
     | Wd=>exact SR.pure (.int _ _)
     | map hr=>
       refine(jy hr).bind' l1.2 fun ρ2 l2 o o' ho=>?_
       cases ho with
       | map c hm=>exact SR.pure (by rw[hm.1];exact .int _ _)
       | _=>exact trivial
     | _=>exact trivial
   | chan k e=>
     cases hx1 with
     | Vm=>exact SR.pure (.int _ _)
     | chan hr=>
       refine(jy hr).bind' l1.2 fun ρ2 l2 o o' ho=>?_
       cases ho <;> exact trivial
     | _=>exact trivial
   | _=>exact trivial
theorem Si(hi:dI ρ){x x' y y':Value}(hx:VR ρ x x')(hy:VR ρ y y'):SR P VR ρ (Builtin.min2 x y) (Builtin.min2 x' y'):=by
 unfold Builtin.min2
 cases hx with
 | int k n=>cases hy <;> first|exact SR.pure (.int _ _)|exact trivial
 | float k n=>
   cases hy with
   | float k' n'=>
     dsimp only
     cases k.format.order n n' with
     | none=>exact(nX _).aN hi fun _ _ _=>SR.pure (.float _ _)
     | some o=>cases o <;> exact SR.pure (.float _ _)
   | _=>exact trivial
 | string a=>
   cases hy with
   | string b=>exact SR.pure (.string _)
   | _=>exact trivial
 | _=>cases hy <;> exact trivial
theorem Fp:∀ {l l':List Value} {ρ:Ren},LR ρ l l'→dI ρ→∀ {v v':Value},VR ρ v v'→SR P VR ρ (l.foldlM Builtin.min2 v) (l'.foldlM Builtin.min2 v'):=by
 intro l
 induction l with
 | nil=>intro l' ρ h;cases h;exact fun _ _ _ hv=>SR.pure hv
 | cons x l ih=>
   intro l' ρ h
   cases h with
   | cons h hl=>
     intro hi v v' hv
     simp only[List.foldlM_cons]
     exact(Si hi hv h).bind' hi fun ρ1 l1 a a' ha=>ih (hl.mono l1.1) l1.2 ha
theorem V5(hi:dI ρ)(ts:Array TypeId)(t:TypeId){x x':Array Value}(hx:dU ρ x x'):SR P VR ρ (Builtin.min_ ts t x) (Builtin.min_ ts t x'):=by
 unfold Builtin.min_
 have h:=hx.list
 generalize x.toList=l at h⊢
 generalize x'.toList=l' at h⊢
 cases h with
 | nil=>exact trivial
 | cons hv hl=>exact Fp hl hi hv
theorem Nw{x x':Value}(h:VR ρ x x'):SR P lW ρ (Builtin.lenOf x) (Builtin.lenOf x'):=by
 cases h <;> first|exact SR.pure rfl|exact trivial
theorem nC(hi:dI ρ)(s n:Nat){x x':Value}(h:VR ρ x x'):SR P dU ρ (Builtin.firstCells s n x) (Builtin.firstCells s n x'):=by
 cases h with
 | wW l c=>exact SR.pure (.nil ρ)
 | sl l c ha=>exact oW hi ha _
 | string s=>exact SR.pure ⟨rfl,fun i h h'=>by simp only[Array.getElem_map];exact .int _ _⟩
 | _=>exact trivial
def KO(e:TypeId)(size n:Nat)(zeros:Bool)(x:Value):Sem (Array Value):=
 if !zeros then Builtin.firstCells size n x
 else if n * size=0 then pure #[]
 else do pure (Builtin.zeroCells (← zeroValue e).cells n)
def Cz(e:TypeId)(size sLen sCap n:Nat)(zeros:Bool)(s x:Value):Sem Value:=do
 let newCap ← choose (.appendCap (sLen+n) sCap e)
 askRoom (newCap * (← typeInfo e).bytes)
 let old ← Builtin.firstCells size sLen s
 let new ← KO e size n zeros x
 let rest:=Builtin.zeroCells (← zeroValue e).cells (newCap - (sLen+n))
 pure (.slice (some (← newRow e (old ++ new ++ rest))) (sLen+n) newCap)
def CF(e:TypeId)(size sLen sCap n:Nat)(zeros:Bool)(base:Option Addr)(s x:Value):Sem Value:=do
 if Builtin.nextslicecap (sLen+n) sCap * (← typeInfo e).bytes > 2 ^ 48 then(if zeros then runtimePanic (.error pH) else do
  if !(← Builtin.mayShare size sLen n base x) then mark .noRoom
  unsupported (.resourceLimit pL))
 Cz e size sLen sCap n zeros s x
def vJ(e:TypeId)(size sLen sCap n:Nat)(zeros:Bool)(base:Option Addr)(s x:Value):Sem Value:=do
 if sLen+n≤sCap then
  let new ← KO e size n zeros x
  if let some a:=base then storeCells (a.add (sLen * size)) new.toList
  pure (.slice base (sLen+n) sCap)
 else
  if ((sLen+n:Nat):Int) > IntKind.i64.max∧(zeros∨(← typeInfo e).bytes=0) then runtimePanic (.error pH)
  CF e size sLen sCap n zeros base s x
theorem Ak(hi:dI ρ)(e:TypeId)(size n:Nat){x x':Value}(hx:VR ρ x x'):SR P dU ρ (KO e size n false x) (KO e size n false x'):=nC hi size n hx
theorem Ab{z z':Array Value}(h:dU ρ z z')(n:Nat):dU ρ (Builtin.zeroCells z n) (Builtin.zeroCells z' n):=by
 unfold Builtin.zeroCells
 rw[h.1]
 refine⟨zs,fun i a b=>?_⟩
 simp only[Array.getElem_map,Array.getElem_range]
 have hs:0<z'.size:=by
  rcases Nat.eq_zero_or_pos z'.size with h0|h0
  ·simp[h0] at a
  ·exact h0
 have h1:i % z'.size<z'.size:=Nat.mod_lt _ hs
 have h2:i % z'.size<z.size:=by rw[h.1];exact h1
 rw[getElem!_pos z _ h2,getElem!_pos z' _ h1]
 exact h.2 _ _ _
theorem EF(n:Nat):SR P lW ρ (askRoom n) (askRoom n):=by
 unfold askRoom
 split
 ·exact⟨_,rfl,rfl,(),rfl,rfl⟩
 ·exact SR.pure rfl
theorem Iw(hi:dI ρ){e:TypeId}(hz:Mw P e)(size sLen sCap n:Nat){s s' x x':Value}(hs:VR ρ s s')(hx:VR ρ x x'):SR P VR ρ (Cz e size sLen sCap n false s x) (Cz e size sLen sCap n false s' x'):=by
 unfold Cz
 refine(nX _).aN hi fun ρ1 l1 newCap=>?_
 refine(fT e).aN l1.2 fun ρ2 l2 ti=>?_
 refine(EF _).aN l2.2 fun ρ3 l3 _=>?_
 have l13:=l1.1.trans (l2.1.trans l3.1)
 refine(nC l3.2 size sLen (hs.mono l13)).bind' l3.2 fun ρ4 l4 old old' ho=>?_
 refine(Ak l4.2 e size n (hx.mono (l13.trans l4.1))).bind' l4.2 fun ρ5 l5 new new' hn=>?_
 refine(iL l5.2 hz).bind' l5.2 fun ρ6 l6 z z' hzz=>?_
 refine(qx e (((ho.mono (l5.1.trans l6.1)).append (hn.mono l6.1)).append (Ab hzz.cells _))).bind' l6.2 fun ρ7 l7 a a' ha=>?_
 exact SR.pure (.sl _ _ ha)
def kE{α:Type}(c:Bool)(u:String):Sem α:=do
 if !c then mark .noRoom
 unsupported (.resourceLimit u)
theorem nM{γ δ:Type}{Q:Ren→γ→δ→Prop}(c:Bool)(u:String):SR P Q ρ (kE c u) (kE c u):=by
 cases c
 ·exact⟨_,rfl,rfl,trivial⟩
 ·exact trivial
theorem jl{α:Type}(c:Bool)(u:String):Dead (kE c u:Sem α):=by
 cases c <;> exact trivial
def iC(size n:Nat)(b:Option Addr)(x:Value)(there:Bool):Sem Bool:=do
 if !there then return true
 match x with
 | .slice (some b1) _ _=>do pure (!(← Builtin.holdsCells b1 (n * size)) || b.any (·.block == b1.block))
 | _=>pure false
theorem Bq{α:Type}(size n:Nat)(b:Option Addr)(x:Value)(there:Bool)(u:String):Dead (iC size n b x there >>= fun c=>(kE c u:Sem α)):=by
 unfold iC
 cases there with
 | false=>exact jl true u
 | true=>
   cases x with
   | slice o l c=>
     cases o with
     | none=>exact jl false u
     | some b1=>
       intro r
       cases r <;> (dsimp only[Sem.bind,bind,pure];exact jl _ u)
   | _=>exact jl false u
theorem SN{γ δ:Type}{Q:Ren→γ→δ→Prop}(size n:Nat){x x':Value}(hx:VR ρ x x')(u:String):
 SR P Q ρ (iC size n none x true >>= fun c=>kE c u) (iC size n none x' true >>= fun c=>kE c u):=by
 unfold iC
 cases hx with
 | sl l c ha=>
   refine⟨_,_,rfl,ha.1,fun r=>?_⟩
   have e1:=ha.2.1
   have e2:=ha.2.2
   cases r with
   | none=>dsimp only[Sem.bind,bind,pure];exact nM (!false || false) u
   | some r=>dsimp only[Sem.bind,bind,pure];rw[e1,e2];exact nM _ u
 | _=>exact nM false u
theorem tZ(size sLen n:Nat)(b:Option Addr)(x:Value):Builtin.mayShare size sLen n b x=(match b with
 | none=>iC size n none x true
 | some a=>Builtin.holdsCells a (sLen * size) >>= fun h=>frozen (a.add (sLen / 2 * size)) >>= fun z=>iC size n (some a) x (h && !z)):=by
 cases b <;> rfl
theorem Gj{γ δ:Type}{Q:Ren→γ→δ→Prop}(size sLen n:Nat){b b':Option Addr}(hb:Eu ρ b b'){x x':Value}(hx:VR ρ x x')(u:String):
 SR P Q ρ (Builtin.mayShare size sLen n b x >>= fun c=>kE c u) (Builtin.mayShare size sLen n b' x' >>= fun c=>kE c u):=by
 rw[tZ,tZ]
 rcases hb with⟨rfl,rfl⟩|⟨a,a',rfl,rfl,ha⟩
 ·exact SN size n hx u
 ·refine⟨_,_,rfl,ha.1,fun r=>?_⟩
  cases r with
  | none=>exact fun z=>Bq size n (some a) x (false && !z) u
  | some r=>
    obtain⟨t,m⟩:=r
    exact fun z=>Bq size n (some a) x ((a.spot.isNone && decide (a.off+sLen * size≤m)) && !z) u
theorem Iy(hi:dI ρ){e:TypeId}(hz:Mw P e)(size sLen sCap n:Nat){b b':Option Addr}(hb:Eu ρ b b'){s s' x x':Value}(hs:VR ρ s s')(hx:VR ρ x x'):SR P VR ρ (CF e size sLen sCap n false b s x) (CF e size sLen sCap n false b' s' x'):=by
 unfold CF
 refine(fT e).aN hi fun ρ1 l1 ti=>?_
 split
 ·have:=Gj (P:=P) (Q:=fun _ (_ _:Unit)=>False) size sLen n (hb.mono l1.1) (hx.mono l1.1) pL
  exact SR.bind' l1.2 this fun _ _ _ _ h=>h.elim
 ·exact Iw l1.2 hz size sLen sCap n (hs.mono l1.1) (hx.mono l1.1)
theorem Iz(hi:dI ρ){e:TypeId}(hz:Mw P e)(size sLen sCap n:Nat){b b':Option Addr}(hb:Eu ρ b b'){s s' x x':Value}(hs:VR ρ s s')(hx:VR ρ x x'):SR P VR ρ (vJ e size sLen sCap n false b s x) (vJ e size sLen sCap n false b' s' x'):=by
 unfold vJ
 split
 ·refine(Ak hi e size n hx).bind' hi fun ρ1 l1 new new' hn=>?_
  rcases hb with⟨rfl,rfl⟩|⟨a,a',rfl,rfl,ha⟩
  ·exact SR.pure (.wW _ _)
  ·have ha1:=ha.mono l1.1
   exact(nP l1.2 (ha1.add (sLen * size)) hn.list).aN l1.2 fun ρ2 l2 _=>SR.pure (.sl _ _ (ha1.mono l2.1))
 ·refine(fT e).aN hi fun ρ1 l1 ti=>?_
  split
  ·exact SR.bind' (Q:=fun _ (_ _:Unit)=>False) l1.2 (aP zs zs) fun _ _ _ _ h=>h.elim
  ·exact Iy l1.2 hz size sLen sCap n (hb.mono l1.1) (hs.mono l1.1) (hx.mono l1.1)
structure Uy(P:Program)(ts:Array TypeId):Prop where
 zero:∀t e,ts[0]? =some t→P.underlying t=some (.slice e)→Mw P e
 plain:∀t k,ts[1]? =some t→P.underlying t≠some (.int k)
theorem IB(hi:dI ρ)(ts:Array TypeId)(t:TypeId)(hT:Uy P ts){x x' y y':Value}(hx:VR ρ x x')(hy:VR ρ y y'):SR P VR ρ (Builtin.append_ ts t #[x,y]) (Builtin.append_ ts t #[x',y']):=by
 unfold Builtin.append_
 cases ht:ts[0]? with
 | none=>exact trivial
 | some u=>
   show SR P VR ρ (underlying u >>= _) (underlying u >>= _)
   refine gP fun d hd=>?_
   cases d with
   | slice e=>
     have hz:=hT.zero u e ht hd
     have go:∀ {ρ1:Ren},Ext ρ ρ1→∀ (size sLen sCap:Nat) {b b':Option Addr},Eu ρ1 b b'→VR ρ1 x x'→SR P VR ρ1 (Builtin.lenOf y >>= fun n=>vJ e size sLen sCap n false b x y) (Builtin.lenOf y' >>= fun n=>vJ e size sLen sCap n false b' x' y'):=fun l size sLen sCap b b' hb hx=>
      (Nw (hy.mono l.1)).aN l.2 fun ρ2 l2 n=>Iz l2.2 hz size sLen sCap n (hb.mono l2.1) (hx.mono l2.1) (hy.mono (l.1.trans l2.1))
     cases hx with
     | wW l c=>
       show SR P VR ρ (sizeOf e >>= _) (sizeOf e >>= _)
       refine(aT hi e).aN hi fun ρ1 l1 size=>?_
       cases ht1:ts[1]? with
       | none=>exact go l1 size l c (.inl ⟨rfl,rfl⟩) (.wW l c)
       | some xt=>
         show SR P VR ρ1 (underlying xt >>= _) (underlying xt >>= _)
         refine gP fun d hd1=>?_
         have hp:=hT.plain xt
         cases d with
         | int k=>exact absurd hd1 (hp k ht1)
         | _=>exact go l1 size l c (.inl ⟨rfl,rfl⟩) (.wW l c)
     | sl l c ha=>
       show SR P VR ρ (sizeOf e >>= _) (sizeOf e >>= _)
       refine(aT hi e).aN hi fun ρ1 l1 size=>?_
       cases ht1:ts[1]? with
       | none=>exact go l1 size l c (.inr ⟨_,_,rfl,rfl,ha.mono l1.1⟩) (.sl l c (ha.mono l1.1))
       | some xt=>
         show SR P VR ρ1 (underlying xt >>= _) (underlying xt >>= _)
         refine gP fun d hd1=>?_
         have hp:=hT.plain xt
         cases d with
         | int k=>exact absurd hd1 (hp k ht1)
         | _=>exact go l1 size l c (.inr ⟨_,_,rfl,rfl,ha.mono l1.1⟩) (.sl l c (ha.mono l1.1))
     | _=>exact trivial
   | _=>exact trivial
def NR(F:FuncId→Prop)(ρ:Ren):Next→Next→Prop
 | .value v,n=>∃v',n=.value v'∧VR ρ v v'
 | .skip,n=>n=.skip
 | .enter f a,n=>∃a',n=.enter f a'∧dU ρ a a'∧F f
 | .round l f t a b,n=>∃l' t',n=.round l' f t' a b∧ρ l=some l'∧dU ρ t t'∧jc f a∧jc f b
 | _,_=>False
def ZF(P:Program)(F:FuncId→Prop)(v:Value):Prop:=∀g first cap,v=.func (.func g) first cap→∃f c,F g∧P.funcs[g]? =some f∧f.body=some c∧(f.name == "runtime.NumGoroutine")=false
def Sup(P:Program)(F:FuncId→Prop)(ev:Operand→Value)(o:Oper):Prop:=
 match o.op with
 | .move _| .assign _| .pick _ _ _| .box _ _| .load _ _| .store _ _ _| .slice _ _ _ _ _| .fieldAddr _ _ _| .field _ _ _| .indexAddr _ _ _| .index _ _ _| .extract _ _=>True
 | .alloc t| .build t _=>Mw P t
 | .buildSlice t _ _=>∀e,P.underlying t=some (.slice e)→Mw P e
 | .convert s d _=>PD P s d
 | .makeInterface _ _=>True
 | .binOp op t _ _ _=>bE op=true∨Cu P t
 | .unOp op _ _=>op=.not
 | .makeFunc fn _ _=>∃g,fn=.func g
 | .call c=>match c.callee with
   | .builtin b=>(b=.len∧c.args.size=1)∨b=.min∨(b=.append∧c.args.size=2∧Uy P c.argTypes)
   | .value f=>ZF P F (ev f)
   | .invoke _ _=>False
 | _=>False
theorem Dy{ev ev':Operand→Value}{xs:Array Operand}(h:∀x∈xs,VR ρ (ev x) (ev' x)):dU ρ (xs.map ev) (xs.map ev'):=
 ⟨zs,fun i a b=>by simp only[Array.getElem_map];exact h _ (Array.getElem_mem _)⟩
theorem wO{ev ev':Operand→Value}{xs:Array (Nat × Operand)}(h:∀x∈xs,VR ρ (ev x.2) (ev' x.2)):jG ρ (xs.map fun(i,x)=>(i,ev x)).toList (xs.map fun(i,x)=>(i,ev' x)).toList:=by
 obtain⟨l⟩:=xs
 simp only[List.map_toArray]
 have h':∀x∈l,VR ρ (ev x.2) (ev' x.2):=fun x hx=>h x (by simpa using hx)
 clear h
 induction l with
 | nil=>exact .nil
 | cons a l ih=>exact .cons _ (h' a zs) (ih fun x hx=>h' x (by simp[hx]))
theorem jG.mono{ρ':Ren}(l:Le ρ ρ'){x x':List (Nat × Value)}(h:jG ρ x x'):jG ρ' x x':=by
 induction h with
 | nil=>exact .nil
 | cons i h _ ih=>exact .cons i (h.mono l) ih
theorem JU{ev ev':Operand→Value}{x:Option Operand}(h:∀y∈x,VR ρ (ev y) (ev' y)):pR ρ (x.map ev) (x.map ev'):=by
 cases x with
 | none=>exact .inl ⟨rfl,rfl⟩
 | some y=>exact .inr ⟨_,_,rfl,rfl,h y rfl⟩
theorem eG{F:FuncId→Prop}(hi:dI ρ){s s':Sem Value}(h:SR P VR ρ s s'):SR P (NR F) ρ (do pure (.value (← s))) (do pure (.value (← s'))):=h.bind' hi fun _ _ _ _ hv=>SR.pure ⟨_,rfl,hv⟩
theorem XY{F:FuncId→Prop}(hi:dI ρ){s s':Sem Unit}(h:SR P lW ρ s s'):SR P (NR F) ρ (do s;pure .skip) (do s';pure .skip):=h.bind' hi fun _ _ _ _ _=>SR.pure rfl
theorem Am{F:FuncId→Prop}(hi:dI ρ){v v':Value}(hl:ZF P F v)(hv:VR ρ v v'){a a':Array Value}(ha:dU ρ a a'):SR P (NR F) ρ (do let d ← Deferred.ofValue v a;invoke d.target d.args) (do let d ← Deferred.ofValue v' a';invoke d.target d.args):=by
 cases hv with
 | func g e1 h1 e2 h2=>
   obtain⟨f,c,hF,hg,hb,hn⟩:=hl _ _ _ rfl
   have key:∀ (x y:Array Value),(do let d ← Deferred.ofValue (.func (.func g) x y) a;invoke d.target d.args:Sem Next)=callFunc g ((x ++ a) ++ y):=fun _ _=>rfl
   have key':∀ (x y:Array Value),(do let d ← Deferred.ofValue (.func (.func g) x y) a';invoke d.target d.args:Sem Next)=callFunc g ((x ++ a') ++ y):=fun _ _=>rfl
   rw[key,key']
   have hbn:f.body.isNone=false:=by rw[hb];rfl
   have hargs:=(dU.append (ρ:=ρ) (dU.append ⟨e1,h1⟩ ha) ⟨e2,h2⟩)
   unfold callFunc
   refine⟨_,rfl,?_⟩
   show SR P (NR F) ρ (match P.funcs[g]? with|none=>_|some fn=>_) (match P.funcs[g]? with|none=>_|some fn=>_)
   rw[hg]
   simp only[hn,hbn,Bool.false_eq_true,if_false]
   exact SR.pure ⟨_,rfl,hargs,hF⟩
 | yield hr=>
   show SR P (NR F) ρ (Instr.yield _ (#[] ++ a)) (Instr.yield _ (#[] ++ a'))
   rw[Array.empty_append,Array.empty_append]
   refine SR.imp (fun ρ1 n n' h=>?_) hi (Ce hi hr ha)
   cases n <;> first|exact h.elim|exact h
 | nilFunc=>exact aP (e:=.nilDeref) zs zs
 | _=>exact trivial
theorem cY{α:Type}(a:Array α)(h:a.size=1):∃x,a=#[x]:=by
 obtain⟨l⟩:=a
 rcases l with _|⟨x,_|⟨y,l⟩⟩
 ·simp at h
 ·exact⟨x,rfl⟩
 ·simp at h
theorem fb{α:Type}(a:Array α)(h:a.size=2):∃x y,a=#[x,y]:=by
 obtain⟨l⟩:=a
 rcases l with _|⟨x,_|⟨y,_|⟨z,l⟩⟩⟩
 ·simp at h
 ·simp at h
 ·exact⟨x,y,rfl⟩
 ·simp at h
theorem vW(hg:P.globals.size=0){F:FuncId→Prop}(hi:dI ρ){ev ev':Operand→Value}{o:Oper}(hs:Sup P F ev o)(he:∀x∈o.op.operands,VR ρ (ev x) (ev' x)):SR P (NR F) ρ (execOp ev o) (execOp ev' o):=by
 unfold Sup at hs
 unfold execOp
 cases hop:o.op <;> rw[hop] at hs <;> simp only at hs
 all_goals (rw[hop] at he;dsimp only)
 case move x=>exact SR.pure ⟨_,rfl,he x (by simp[Op.operands])⟩
 case assign x=>exact SR.pure ⟨_,rfl,he x (by simp[Op.operands])⟩
 case pick c a b=>
  refine(IC (he c (by simp[Op.operands]))).aN hi fun ρ1 l1 x=>SR.pure ⟨_,rfl,?_⟩
  cases x
  ·exact(he b (by simp[Op.operands])).mono l1.1
  ·exact(he a (by simp[Op.operands])).mono l1.1
 case alloc t=>exact eG hi (MB hi hs)
 case box t x=>exact eG hi (Vd hi t (he x (by simp[Op.operands])))
 case build t ps=>
  have hp:∀x∈ps,VR ρ (ev x.2) (ev' x.2):=fun x hx=>he x.2 (by simp only[Op.operands];simp;exact⟨x.1,by simpa using hx⟩)
  exact eG hi (MJ hi hs (wO hp) (fun l=>(wO hp).mono l))
 case buildSlice t n ps=>
  have hp:∀x∈ps,VR ρ (ev x.2) (ev' x.2):=fun x hx=>he x.2 (by simp only[Op.operands];simp;exact⟨x.1,by simpa using hx⟩)
  exact eG hi (vQ hi hs n (fun l=>(wO hp).mono l))
 case convert s d x=>exact eG hi (EX hs (he x (by simp[Op.operands])))
 case makeInterface t x=>exact eG hi (rE t (he x (by simp[Op.operands])))
 case load t a=>exact eG hi (Jz hi t (he a (by simp[Op.operands])))
 case store t a v=>exact XY hi (Gy hi t (he a (by simp[Op.operands])) (he v (by simp[Op.operands])))
 case binOp op t x y u=>
  have hx:=he x (by simp[Op.operands])
  have hy:=he y (by simp[Op.operands])
  refine eG hi ?_
  cases ho:bE op with
  | true=>
    rw[iI ho,iI ho]
    exact MH hg hi op ho t hx hy
  | false=>
    rw[ho] at hs
    have hT:Cu P t:=by rcases hs with h|h;cases h;exact h
    exact(E8 hT hi op x y hx hy).aN hi fun ρ1 l1 _=>MG hg hT l1.2 op ho (hx.mono l1.1) (hy.mono l1.1)
 case unOp op t x=>subst hs;exact eG hi (OY (he x (by simp[Op.operands])))
 case makeFunc fn a b=>
  refine eG hi (SR.pure ?_)
  have h1:=Dy (ρ:=ρ) (ev:=ev) (ev':=ev') (xs:=a) fun x hx=>he x (by simp[Op.operands,hx])
  have h2:=Dy (ρ:=ρ) (ev:=ev) (ev':=ev') (xs:=b) fun x hx=>he x (by simp[Op.operands,hx])
  obtain⟨g,rfl⟩:=hs
  exact .func g h1.1 h1.2 h2.1 h2.2
 case slice t x a b c=>
  exact eG hi (Gn hi t (he x (by simp[Op.operands])) (JU fun y hy=>he y (by cases hy;simp[Op.operands])) (JU fun y hy=>he y (by cases hy;simp[Op.operands])) (JU fun y hy=>he y (by cases hy;simp[Op.operands])))
 case fieldAddr t x i=>exact eG hi (Fg hi t (he x (by simp[Op.operands])) i)
 case field t x i=>exact eG hi (Nh hi t (he x (by simp[Op.operands])) i)
 case indexAddr t x i=>exact eG hi (FK hi t (he x (by simp[Op.operands])) (he i (by simp[Op.operands])))
 case index t x i=>exact eG hi (Ns hi t (he x (by simp[Op.operands])) (he i (by simp[Op.operands])))
 case extract x i=>exact eG hi (Fb (he x (by simp[Op.operands])) i)
 case call c=>
  have hargs:dU ρ (c.args.map ev) (c.args.map ev'):=Dy fun x hx=>he x (by simp only[Op.operands,Call.operands];exact Array.mem_append.2 (.inr hx))
  unfold resolve
  cases hc:c.callee with
  | invoke r n=>rw[hc] at hs;exact hs.elim
  | value f=>
    rw[hc] at hs
    have hf:=he f (by simp[Op.operands,Call.operands,hc])
    exact Am hi hs hf hargs
  | builtin b=>
    rw[hc] at hs
    rcases hs with⟨rfl,h1⟩|rfl|⟨rfl,h1,hT⟩
    ·obtain⟨x,hx⟩:∃x,c.args=#[x]:=cY _ h1
     have hv:=he x (by simp[Op.operands,Call.operands,hx])
     have e:∀f:Operand→Value,Array.map f c.args=#[f x]:=fun f=>by rw[hx];simp
     have:=eG (F:=F) hi (VW (P:=P) hi c.argTypes o.type hv)
     rw[← e ev,← e ev'] at this
     exact this
    ·exact eG hi (V5 hi c.argTypes o.type hargs)
    ·obtain⟨x,y,hx⟩:∃x y,c.args=#[x,y]:=fb _ h1
     have hv:=he x (by simp[Op.operands,Call.operands,hx])
     have hw:=he y (by simp[Op.operands,Call.operands,hx])
     have e:∀f:Operand→Value,Array.map f c.args=#[f x,f y]:=fun f=>by rw[hx];simp
     have:=eG (F:=F) hi (IB (P:=P) hi c.argTypes o.type hT hv hw)
     rw[← e ev,← e ev'] at this
     exact this
end
end Go.cu
