/- Par11b Par12 Par13 -/
import Derived.Test.YthaelabgfnnebaaGreatB7
import Derived.Conc.Own4
set_option maxRecDepth 100000
set_option maxHeartbeats 16000000
set_option linter.unusedVariables false
set_option linter.unusedSectionVars false
namespace Go.cu
section
variable[Inhabited aV]
variable{P:Program}{ρ:Ren}
theorem EP{z z':Array Value}(hz:dY ρ z z')(n:Nat):dY ρ ((Array.range n).map (z[· % z.size]!)) ((Array.range n).map (z'[· % z'.size]!)):=by
 refine⟨zs,fun i h h'=>?_⟩
 simp only[Array.getElem_map,Array.getElem_range]
 rw[← hz.1]
 rcases hz.get? (i % z.size) with⟨a,b⟩|⟨v,v',a,b,c⟩
 ·simp only[Array.getElem!_eq_getD,Array.getD_eq_getD_getElem?,a,b,Option.getD_none]
  exact .bool false
 ·simp only[Array.getElem!_eq_getD,Array.getD_eq_getD_getElem?,a,b,Option.getD_some]
  exact c
theorem wE(hi:dL ρ){t:TypeId}(hz:∀e,P.underlying t=some (.slice e)→Nf P e)(n:Nat){l l':Array (Nat × Value)}(hm:∀ {ρ'},Le ρ ρ'→jJ ρ' l.toList l'.toList):SR P VR ρ (Instr.buildSlice t n l) (Instr.buildSlice t n l'):=by
 unfold Instr.buildSlice
 refine gT fun d hd=>?_
 cases d with
 | slice el=>
   dsimp only
   refine(aX hi el).aN hi fun ρ1 l1 size=>?_
   have tail:∀ {ρ2:Ren} (l2:Ext ρ ρ2) {z z':Array Value} (hzz:dY ρ2 z z'),SR P VR ρ2
    (match Instr.fill (fun i=>some (i * size,size)) ((Array.range (n * size)).map (z[· % z.size]!)) l.toList with|some cells=>do pure (.slice (some (← newRow el cells)) n n)|_=>stuck Up)
    (match Instr.fill (fun i=>some (i * size,size)) ((Array.range (n * size)).map (z'[· % z'.size]!)) l'.toList with|some cells=>do pure (.slice (some (← newRow el cells)) n n)|_=>stuck Up):=by
    intro ρ2 l2 z z' hzz
    rcases wO (ρ:=ρ2) (fun i=>some (i * size,size)) (hm l2.1) (EP hzz (n * size)) with⟨e1,e2⟩|⟨x,x',e1,e2,hx⟩
    ·simp only[e1,e2];exact trivial
    ·simp only[e1,e2];exact(qG el hx).bind' l2.2 fun _ _ a a' ha=>SR.pure (.sl n n ha)
   by_cases c:n * size > 2 ^ 24
   ·simp only[c,if_true];exact trivial
   ·simp only[c,if_false]
    by_cases c2:n * size=0
    ·simp only[c2,if_true]
     have:=tail l1 (dY.nil ρ1)
     simp only[c2] at this
     exact this
    ·simp only[c2,if_false]
     exact(iQ l1.2 (hz el hd)).bind' l1.2 fun ρ2 l2 z z' h=>tail (l1.trans l2) h.cells
 | _=>exact trivial
structure Qs(P:Program)(s d:TypeId):Prop where
 src:∃k,P.underlying s=some (.int k)
 dst:∃k,P.underlying d=some (.int k)
theorem FJ{s d:TypeId}(hT:Qs P s d){x x':Value}(hx:VR ρ x x'):SR P VR ρ (convert s d x) (convert s d x'):=by
 unfold convert
 refine gT fun a ha=>gT fun b hb=>?_
 obtain⟨k,hk⟩:=hT.src
 obtain⟨j,hj⟩:=hT.dst
 rw[hk] at ha
 rw[hj] at hb
 cases ha
 cases hb
 cases hx with
 | int q n=>exact SR.pure (.int _ _)
 | float q n=>
   show SR P VR ρ (Conv.floatToInt q n j) (Conv.floatToInt q n j)
   unfold Conv.floatToInt
   dsimp only
   have any:SR P VR ρ (do pure (.int j (j.wrap (← choose (.floatToInt q n j)))):Sem Value) (do pure (.int j (j.wrap (← choose (.floatToInt q n j))))):=⟨_,rfl,fun m=>⟨_,rfl,.int _ _⟩⟩
   split
   ·split
    ·exact SR.pure (.int _ _)
    ·exact any
   ·exact any
 | _=>exact trivial
theorem rO(t:TypeId){x x':Value}(hx:VR ρ x x'):SR P VR ρ (Instr.makeInterface t x) (Instr.makeInterface t x'):=by
 unfold Instr.makeInterface
 refine gT fun d hd=>?_
 cases d <;> first|exact trivial|exact SR.pure (.iface t hx)
theorem iV(hi:dL ρ){l l':Nat}(h:ρ l=some l'):SR P uf ρ (Instr.getLoop l) (Instr.getLoop l'):=by
 unfold Instr.getLoop
 refine(jE h).bind' hi fun ρ1 l1 o o' ho=>?_
 cases ho with
 | loop hr=>exact SR.pure hr
 | _=>exact trivial
def jg(r:Nat):Deferred:={target:=.collected r,args:=#[] }
def dU(ρ:Ren)(a b:List Deferred):Prop:=∃x x':List Nat,a=x.map jg∧b=x'.map jg∧x.length=x'.length∧∀ (i:Nat) (r:Nat),x[i]? =some r→∃r',x'[i]? =some r'∧ρ r=some r'
theorem dU.nil(ρ:Ren):dU ρ [] []:=⟨[],[],rfl,rfl,rfl,fun i r h=>by simp at h⟩
theorem dU.cons{r r':Nat}{a b:List Deferred}(h:ρ r=some r')(k:dU ρ a b):dU ρ (jg r :: a) (jg r' :: b):=by
 obtain⟨x,x',rfl,rfl,h1,h2⟩:=k
 refine⟨r :: x,r' :: x',rfl,rfl,by simp[h1],fun i q hq=>?_⟩
 cases i with
 | zero=>simp only[List.getElem?_cons_zero,Option.some.injEq] at hq;subst hq;exact⟨r',zs,h⟩
 | succ i=>simp only[List.getElem?_cons_succ] at hq⊢;exact h2 i q hq
theorem dU.mono{ρ':Ren}(l:Le ρ ρ'){a b:List Deferred}(h:dU ρ a b):dU ρ' a b:=by
 obtain⟨x,x',h0,h1,h2,h3⟩:=h
 exact⟨x,x',h0,h1,h2,fun i r hr=>let ⟨r',e1,e2⟩:=h3 i r hr;⟨r',e1,l _ _ e2⟩⟩
theorem dU.cases{a b:List Deferred}(h:dU ρ a b):(a=[]∧b=[])∨∃r r' a' b',a=jg r :: a'∧b=jg r' :: b'∧ρ r=some r'∧dU ρ a' b':=by
 obtain⟨x,x',rfl,rfl,h1,h2⟩:=h
 cases x with
 | nil=>
   cases x' with
   | nil=>exact .inl ⟨rfl,rfl⟩
   | cons _ _=>simp at h1
 | cons r x=>
   cases x' with
   | nil=>simp at h1
   | cons r' x'=>
     obtain⟨q,e,hq⟩:=h2 0 r zs
     simp only[List.getElem?_cons_zero,Option.some.injEq] at e
     subst e
     exact .inr ⟨r,r',_,_,rfl,rfl,hq,x,x',rfl,rfl,by simpa using h1,fun i s hs=>by simpa using h2 (i+1) s (by simpa using hs)⟩
theorem dU.append{a b c d:List Deferred}(h:dU ρ a b)(k:dU ρ c d):dU ρ (a ++ c) (b ++ d):=by
 obtain⟨x,x',rfl,rfl,h1,h2⟩:=h
 obtain⟨y,y',rfl,rfl,k1,k2⟩:=k
 refine⟨x ++ y,x' ++ y',zs,zs,by simp[h1,k1],fun i r hr=>?_⟩
 rw[List.getElem?_append] at hr⊢
 rw[← h1]
 split at hr
 ·rename_i hl;rw[if_pos hl];exact h2 i r hr
 ·rename_i hl;rw[if_neg hl];exact k2 _ r hr
def lO(ρ:Ren)(x x':Nat × List Deferred):Prop:=ρ x.1=some x'.1∧dU ρ x.2 x'.2
theorem Cg{o o':Obj}(h:OR ρ o o'):SR P (fun ρ r r'=>ρ r=some r') ρ (newObj o) (newObj o'):=⟨_,_,rfl,h,fun _ _ r r' hr=>⟨r',rfl,hr⟩⟩
theorem o9(hi:dL ρ){fn:FuncId}{tmps uR:Array Value}(ht:dY ρ tmps uR)(params:Array Tmp){assign body:Code}(h1:jh fn assign)(h2:jh fn body){around Dt:Option Nat}(ha:(around=none∧Dt=none)∨∃l l',around=some l∧Dt=some l'∧ρ l=some l'):
 SR P lO ρ (Instr.enterLoop fn tmps params assign body around) (Instr.enterLoop fn uR params assign body Dt):=by
 unfold Instr.enterLoop
 have fin:∀ {ρ1:Ren} (l1:Ext ρ ρ1) {d d':Nat} (hd:ρ1 d=some d') {m m':List Deferred} (hm:dU ρ1 m m'),SR P lO ρ1 (do pure (← newObj (.loop {state:=.ready,pending:=none,fn,tmps,params,assign,body,defers:=d }),m):Sem (Nat × List Deferred)) (do pure (← newObj (.loop {state:=.ready,pending:=none,fn,tmps:=uR,params,assign,body,defers:=d' }),m')):=by
  intro ρ1 l1 d d' hd m m' hm
  refine(Cg (.loop ⟨rfl,ht.mono l1.1,hd,⟨h1,h2,fun j hj=>by cases hj⟩⟩)).bind' l1.2 fun ρ2 l2 r r' hr=>SR.pure ⟨hr,hm.mono l2.1⟩
 rcases ha with⟨rfl,rfl⟩|⟨l,l',rfl,rfl,hl⟩
 ·dsimp only
  exact(Cg (.defs (.inr rfl))).bind' hi fun ρ1 l1 r r' hr=>fin l1 hr (.cons hr (.nil ρ1))
 ·dsimp only
  exact(iV hi hl).bind' hi fun ρ1 l1 r r' hr=>fin l1 hr.defers (.nil ρ1)
theorem uf.turn{r r':Loop}(h:uf ρ r r')(s:LoopState)(p:Option Code)(hp:∀j,p=some j→jh r.fn j):uf ρ {r with state:=s,pending:=p } {r' with state:=s,pending:=p }:=
 ⟨by rw[h.eq],h.tmps,h.defers,⟨h.ok.assign,h.ok.body,hp⟩⟩
theorem nA(hi:dL ρ){l l':Nat}(h:ρ l=some l'):SR P lZ ρ (Instr.beginRound l) (Instr.beginRound l'):=by
 unfold Instr.beginRound
 refine(iV hi h).bind' hi fun ρ1 l1 r r' hr=>?_
 have hs:r'.state=r.state:=by rw[hr.eq]
 refine(oG (l1.1 _ _ h) (.loop (by rw[show r'.pending=r.pending by rw[hr.eq]];exact(hr.turn .busy r.pending hr.ok.pending)))).aN l1.2 fun ρ2 l2 _=>?_
 rw[hs]
 cases r.state with
 | ready=>exact SR.pure rfl
 | _=>exact aR (e:=.error _) zs zs
theorem DI(hi:dL ρ){l l':Nat}(h:ρ l=some l')(jump:Option Code)(hj:∀r:Loop,Q5 r→∀j,jump=some j→jh r.fn j):SR P VR ρ (Instr.endRound l jump) (Instr.endRound l' jump):=by
 unfold Instr.endRound
 refine(iV hi h).bind' hi fun ρ1 l1 r r' hr=>?_
 refine(oG (l1.1 _ _ h) (.loop (hr.turn _ jump (hj r hr.ok)))).aN l1.2 fun ρ2 l2 _=>SR.pure (.bool _)
theorem um(hi:dL ρ){l l':Nat}(h:ρ l=some l'):SR P (fun _ a b=>a=b∧∀j,a=some j→∃f,jh f j) ρ (Instr.endLoop l) (Instr.endLoop l'):=by
 unfold Instr.endLoop
 refine(iV hi h).bind' hi fun ρ1 l1 r r' hr=>?_
 have hs:r'.state=r.state:=by rw[hr.eq]
 have hp:r'.pending=r.pending:=by rw[hr.eq]
 rw[hs]
 have fin:∀ {ρ2:Ren} (l2:Ext ρ1 ρ2),SR P (fun _ a b=>a=b∧∀j,a=some j→∃f,jh f j) ρ2 (do setObj l (.loop {r with state:=.exhausted });pure r.pending) (do setObj l' (.loop {r' with state:=.exhausted });pure r'.pending):=by
  intro ρ2 l2
  refine(oG ((l1.trans l2).1 _ _ h) (.loop (by rw[hp];exact(hr.mono l2.1).turn .exhausted r.pending hr.ok.pending))).aN l2.2 fun ρ3 l3 _=>SR.pure ⟨hp.symm,fun j e=>⟨_,hr.ok.pending j e⟩⟩
 cases r.state == LoopState.busy with
 | true=>exact aR (e:=.error _) zs zs
 | false=>exact fin (.refl l1.2)
theorem tT(hi:dL ρ){l l':Nat}(h:ρ l=some l'):SR P (fun _ a b=>a=[]∧b=[]) ρ (Instr.takeDeferred l) (Instr.takeDeferred l'):=by
 unfold Instr.takeDeferred
 refine(jE h).bind' hi fun ρ1 l1 o o' ho=>?_
 cases ho with
 | defs hd=>
   rcases hd with rfl|rfl
   ·exact trivial
   ·exact(oG (l1.1 _ _ h) (.defs (.inl rfl))).aN l1.2 fun _ _ _=>SR.pure ⟨rfl,rfl⟩
 | _=>exact trivial
theorem Af{p:Array Tmp}:∀ {a a':Array Value},dY ρ a a'→∀ {t t':Array Value},dY ρ t t'→dY ρ ((p.zip a).foldl (fun t (i,v)=>t.setIfInBounds i v) t) ((p.zip a').foldl (fun t (i,v)=>t.setIfInBounds i v) t'):=by
 intro a a' ha t t' ht
 rw[← Array.foldl_toList,← Array.foldl_toList,Array.toList_zip,Array.toList_zip]
 have hl:=ha.list
 generalize a.toList=x at hl
 generalize a'.toList=x' at hl
 generalize p.toList=q
 clear ha
 induction hl generalizing q t t' with
 | nil=>simp;exact ht
 | cons hv _ ih=>
   cases q with
   | nil=>simp;exact ht
   | cons i q=>simp only[List.zip_cons_cons,List.foldl_cons];exact ih (ht.set i hv) q
def b6(ρ:Ren):Next→Next→Prop
 | .round l f t a b,n=>∃l' t',n=.round l' f t' a b∧ρ l=some l'∧dY ρ t t'∧jh f a∧jh f b
 | _,_=>False
theorem CX(hi:dL ρ){l l':Nat}(h:ρ l=some l'){a a':Array Value}(ha:dY ρ a a'):SR P b6 ρ (Instr.yield l a) (Instr.yield l' a'):=by
 unfold Instr.yield
 refine(iV hi h).bind' hi fun ρ1 l1 r r' hr=>?_
 have e1:r'.params=r.params:=by rw[hr.eq]
 have e2:r'.fn=r.fn:=by rw[hr.eq]
 have e3:r'.assign=r.assign:=by rw[hr.eq]
 have e4:r'.body=r.body:=by rw[hr.eq]
 rw[e1,e2,e3,e4,← ha.1]
 by_cases c:a.size=r.params.size
 ·simp only[c,ne_eq,not_true_eq_false,if_false]
  exact SR.pure ⟨l',_,rfl,l1.1 _ _ h,Af (ha.mono l1.1) hr.tmps,hr.ok.assign,hr.ok.body⟩
 ·simp only[ne_eq,c,not_false_eq_true,if_true]
  exact trivial
theorem Xd(hi:dL ρ)(ts:Array TypeId)(t:TypeId){x x':Value}(hx:VR ρ x x'):SR P VR ρ (Builtin.len_ ts t #[x]) (Builtin.len_ ts t #[x']):=by
 unfold Builtin.len_
 cases ts[0]? with
 | none=>exact trivial
 | some u=>
   show SR P VR ρ (underlying u >>= _) (underlying u >>= _)
   refine(aL u).aN hi fun ρ1 l1 d=>?_
   have hx1:=hx.mono l1.1
   cases d with
   | string=>cases hx1 <;> first|exact SR.pure (.int _ _)|exact trivial
   | array n e=>exact SR.pure (.int _ _)
   | pointer a=>
     refine(aL a).aN l1.2 fun ρ2 l2 d=>?_
     cases d <;> first|exact SR.pure (.int _ _)|exact trivial
   | slice e=>cases hx1 <;> first|exact SR.pure (.int _ _)|exact trivial
   | map k e=>
     cases hx1 with
     | Xi=>exact SR.pure (.int _ _)
     | map hr=>
       refine(jE hr).bind' l1.2 fun ρ2 l2 o o' ho=>?_
       cases ho with
       | map c hm=>exact SR.pure (by rw[hm.1];exact .int _ _)
       | _=>exact trivial
     | _=>exact trivial
   | chan k e=>
     cases hx1 with
     | Wi=>exact SR.pure (.int _ _)
     | chan hr=>
       refine(jE hr).bind' l1.2 fun ρ2 l2 o o' ho=>?_
       cases ho <;> exact trivial
     | _=>exact trivial
   | _=>exact trivial
theorem Tk(hi:dL ρ){x x' y y':Value}(hx:VR ρ x x')(hy:VR ρ y y'):SR P VR ρ (Builtin.min2 x y) (Builtin.min2 x' y'):=by
 unfold Builtin.min2
 cases hx with
 | int k n=>cases hy <;> first|exact SR.pure (.int _ _)|exact trivial
 | float k n=>
   cases hy with
   | float k' n'=>
     dsimp only
     cases k.format.order n n' with
     | none=>exact(oq _).aN hi fun _ _ _=>SR.pure (.float _ _)
     | some o=>cases o <;> exact SR.pure (.float _ _)
   | _=>exact trivial
 | string a=>
   cases hy with
   | string b=>exact SR.pure (.string _)
   | _=>exact trivial
 | _=>cases hy <;> exact trivial
theorem F5:∀ {l l':List Value} {ρ:Ren},LR ρ l l'→dL ρ→∀ {v v':Value},VR ρ v v'→SR P VR ρ (l.foldlM Builtin.min2 v) (l'.foldlM Builtin.min2 v'):=by
 intro l
 induction l with
 | nil=>intro l' ρ h;cases h;exact fun _ _ _ hv=>SR.pure hv
 | cons x l ih=>
   intro l' ρ h
   cases h with
   | cons h hl=>
     intro hi v v' hv
     simp only[List.foldlM_cons]
     exact(Tk hi hv h).bind' hi fun ρ1 l1 a a' ha=>ih (hl.mono l1.1) l1.2 ha
theorem Xh(hi:dL ρ)(ts:Array TypeId)(t:TypeId){x x':Array Value}(hx:dY ρ x x'):SR P VR ρ (Builtin.min_ ts t x) (Builtin.min_ ts t x'):=by
 unfold Builtin.min_
 have h:=hx.list
 generalize x.toList=l at h⊢
 generalize x'.toList=l' at h⊢
 cases h with
 | nil=>exact trivial
 | cons hv hl=>exact F5 hl hi hv
theorem Ot{x x':Value}(h:VR ρ x x'):SR P lZ ρ (Builtin.lenOf x) (Builtin.lenOf x'):=by
 cases h <;> first|exact SR.pure rfl|exact trivial
theorem nG(hi:dL ρ)(s n:Nat){x x':Value}(h:VR ρ x x'):SR P dY ρ (Builtin.firstCells s n x) (Builtin.firstCells s n x'):=by
 cases h with
 | xQ l c=>exact SR.pure (.nil ρ)
 | sl l c ha=>exact pG hi ha _
 | string s=>exact SR.pure ⟨rfl,fun i h h'=>by simp only[Array.getElem_map];exact .int _ _⟩
 | _=>exact trivial
def Lm(e:TypeId)(size n:Nat)(zeros:Bool)(x:Value):Sem (Array Value):=
 if !zeros then Builtin.firstCells size n x
 else if n * size=0 then pure #[]
 else do pure (Builtin.zeroCells (← zeroValue e).cells n)
def Dp(e:TypeId)(size sLen sCap n:Nat)(zeros:Bool)(s x:Value):Sem Value:=do
 let newCap ← choose (.appendCap (sLen+n) sCap e)
 askRoom (newCap * (← typeInfo e).bytes)
 let old ← Builtin.firstCells size sLen s
 let new ← Lm e size n zeros x
 let rest:=Builtin.zeroCells (← zeroValue e).cells (newCap - (sLen+n))
 pure (.slice (some (← newRow e (old ++ new ++ rest))) (sLen+n) newCap)
def Dq(e:TypeId)(size sLen sCap n:Nat)(zeros:Bool)(base:Option Addr)(s x:Value):Sem Value:=do
 if Builtin.nextslicecap (sLen+n) sCap * (← typeInfo e).bytes > 2 ^ 48 then(if zeros then runtimePanic (.error ta) else do
  if !(← Builtin.mayShare size sLen n base x) then mark .noRoom
  unsupported (.resourceLimit te))
 Dp e size sLen sCap n zeros s x
def vZ(e:TypeId)(size sLen sCap n:Nat)(zeros:Bool)(base:Option Addr)(s x:Value):Sem Value:=do
 if sLen+n≤sCap then
  let new ← Lm e size n zeros x
  if let some a:=base then storeCells (a.add (sLen * size)) new.toList
  pure (.slice base (sLen+n) sCap)
 else
  if ((sLen+n:Nat):Int) > IntKind.i64.max∧(zeros∨(← typeInfo e).bytes=0) then runtimePanic (.error ta)
  Dq e size sLen sCap n zeros base s x
theorem Br(hi:dL ρ)(e:TypeId)(size n:Nat){x x':Value}(hx:VR ρ x x'):SR P dY ρ (Lm e size n false x) (Lm e size n false x'):=nG hi size n hx
theorem A8{z z':Array Value}(h:dY ρ z z')(n:Nat):dY ρ (Builtin.zeroCells z n) (Builtin.zeroCells z' n):=by
 unfold Builtin.zeroCells
 rw[h.1]
 refine⟨zs,fun i a b=>?_⟩
 simp only[Array.getElem_map,Array.getElem_range]
 have hs:0<z'.size:=by
  rcases Nat.eq_zero_or_pos z'.size with h0|h0
  ·simp[h0] at a
  ·exact h0
 have h1:i % z'.size<z'.size:=Nat.mod_lt _ hs
 have h2:i % z'.size<z.size:=by rw[h.1];exact h1
 rw[getElem!_pos z _ h2,getElem!_pos z' _ h1]
 exact h.2 _ _ _
theorem Fh(n:Nat):SR P lZ ρ (askRoom n) (askRoom n):=by
 unfold askRoom
 split
 ·exact⟨_,rfl,rfl,(),rfl,rfl⟩
 ·exact SR.pure rfl
theorem Jd(hi:dL ρ){e:TypeId}(hz:Nf P e)(size sLen sCap n:Nat){s s' x x':Value}(hs:VR ρ s s')(hx:VR ρ x x'):SR P VR ρ (Dp e size sLen sCap n false s x) (Dp e size sLen sCap n false s' x'):=by
 unfold Dp
 refine(oq _).aN hi fun ρ1 l1 newCap=>?_
 refine(fZ e).aN l1.2 fun ρ2 l2 ti=>?_
 refine(Fh _).aN l2.2 fun ρ3 l3 _=>?_
 have l13:=l1.1.trans (l2.1.trans l3.1)
 refine(nG l3.2 size sLen (hs.mono l13)).bind' l3.2 fun ρ4 l4 old old' ho=>?_
 refine(Br l4.2 e size n (hx.mono (l13.trans l4.1))).bind' l4.2 fun ρ5 l5 new new' hn=>?_
 refine(iQ l5.2 hz).bind' l5.2 fun ρ6 l6 z z' hzz=>?_
 refine(qG e (((ho.mono (l5.1.trans l6.1)).append (hn.mono l6.1)).append (A8 hzz.cells _))).bind' l6.2 fun ρ7 l7 a a' ha=>?_
 exact SR.pure (.sl _ _ ha)
def kL{α:Type}(c:Bool)(u:String):Sem α:=do
 if !c then mark .noRoom
 unsupported (.resourceLimit u)
theorem nR{γ δ:Type}{Q:Ren→γ→δ→Prop}(c:Bool)(u:String):SR P Q ρ (kL c u) (kL c u):=by
 cases c
 ·exact⟨_,rfl,rfl,trivial⟩
 ·exact trivial
theorem jm{α:Type}(c:Bool)(u:String):Dead (kL c u:Sem α):=by
 cases c <;> exact trivial
def iE(size n:Nat)(b:Option Addr)(x:Value)(there:Bool):Sem Bool:=do
 if !there then return true
 match x with
 | .slice (some b1) _ _=>do pure (!(← Builtin.holdsCells b1 (n * size)) || b.any (·.block == b1.block))
 | _=>pure false
theorem Cm{α:Type}(size n:Nat)(b:Option Addr)(x:Value)(there:Bool)(u:String):Dead (iE size n b x there >>= fun c=>(kL c u:Sem α)):=by
 unfold iE
 cases there with
 | false=>exact jm true u
 | true=>
   cases x with
   | slice o l c=>
     cases o with
     | none=>exact jm false u
     | some b1=>
       intro r
       cases r <;> (dsimp only[Sem.bind,bind,pure];exact jm _ u)
   | _=>exact jm false u
theorem TL{γ δ:Type}{Q:Ren→γ→δ→Prop}(size n:Nat){x x':Value}(hx:VR ρ x x')(u:String):
 SR P Q ρ (iE size n none x true >>= fun c=>kL c u) (iE size n none x' true >>= fun c=>kL c u):=by
 unfold iE
 cases hx with
 | sl l c ha=>
   refine⟨_,_,rfl,ha.1,fun r=>?_⟩
   have e1:=ha.2.1
   have e2:=ha.2.2
   cases r with
   | none=>dsimp only[Sem.bind,bind,pure];exact nR (!false || false) u
   | some r=>dsimp only[Sem.bind,bind,pure];rw[e1,e2];exact nR _ u
 | _=>exact nR false u
theorem uG(size sLen n:Nat)(b:Option Addr)(x:Value):Builtin.mayShare size sLen n b x=(match b with
 | none=>iE size n none x true
 | some a=>Builtin.holdsCells a (sLen * size) >>= fun h=>frozen (a.add (sLen / 2 * size)) >>= fun z=>iE size n (some a) x (h && !z)):=by
 cases b <;> rfl
theorem G6{γ δ:Type}{Q:Ren→γ→δ→Prop}(size sLen n:Nat){b b':Option Addr}(hb:EY ρ b b'){x x':Value}(hx:VR ρ x x')(u:String):
 SR P Q ρ (Builtin.mayShare size sLen n b x >>= fun c=>kL c u) (Builtin.mayShare size sLen n b' x' >>= fun c=>kL c u):=by
 rw[uG,uG]
 rcases hb with⟨rfl,rfl⟩|⟨a,a',rfl,rfl,ha⟩
 ·exact TL size n hx u
 ·refine⟨_,_,rfl,ha.1,fun r=>?_⟩
  cases r with
  | none=>exact fun z=>Cm size n (some a) x (false && !z) u
  | some r=>
    obtain⟨t,m⟩:=r
    exact fun z=>Cm size n (some a) x ((a.spot.isNone && decide (a.off+sLen * size≤m)) && !z) u
theorem Je(hi:dL ρ){e:TypeId}(hz:Nf P e)(size sLen sCap n:Nat){b b':Option Addr}(hb:EY ρ b b'){s s' x x':Value}(hs:VR ρ s s')(hx:VR ρ x x'):SR P VR ρ (Dq e size sLen sCap n false b s x) (Dq e size sLen sCap n false b' s' x'):=by
 unfold Dq
 refine(fZ e).aN hi fun ρ1 l1 ti=>?_
 split
 ·have:=G6 (P:=P) (Q:=fun _ (_ _:Unit)=>False) size sLen n (hb.mono l1.1) (hx.mono l1.1) te
  exact SR.bind' l1.2 this fun _ _ _ _ h=>h.elim
 ·exact Jd l1.2 hz size sLen sCap n (hs.mono l1.1) (hx.mono l1.1)
theorem Jf(hi:dL ρ){e:TypeId}(hz:Nf P e)(size sLen sCap n:Nat){b b':Option Addr}(hb:EY ρ b b'){s s' x x':Value}(hs:VR ρ s s')(hx:VR ρ x x'):SR P VR ρ (vZ e size sLen sCap n false b s x) (vZ e size sLen sCap n false b' s' x'):=by
 unfold vZ
 split
 ·refine(Br hi e size n hx).bind' hi fun ρ1 l1 new new' hn=>?_
  rcases hb with⟨rfl,rfl⟩|⟨a,a',rfl,rfl,ha⟩
  ·exact SR.pure (.xQ _ _)
  ·have ha1:=ha.mono l1.1
   exact(nV l1.2 (ha1.add (sLen * size)) hn.list).aN l1.2 fun ρ2 l2 _=>SR.pure (.sl _ _ (ha1.mono l2.1))
 ·refine(fZ e).aN hi fun ρ1 l1 ti=>?_
  split
  ·exact SR.bind' (Q:=fun _ (_ _:Unit)=>False) l1.2 (aR zs zs) fun _ _ _ _ h=>h.elim
  ·exact Je l1.2 hz size sLen sCap n (hb.mono l1.1) (hs.mono l1.1) (hx.mono l1.1)
structure Vo(P:Program)(ts:Array TypeId):Prop where
 zero:∀t e,ts[0]? =some t→P.underlying t=some (.slice e)→Nf P e
 plain:∀t k,ts[1]? =some t→P.underlying t≠some (.int k)
theorem Jg(hi:dL ρ)(ts:Array TypeId)(t:TypeId)(hT:Vo P ts){x x' y y':Value}(hx:VR ρ x x')(hy:VR ρ y y'):SR P VR ρ (Builtin.append_ ts t #[x,y]) (Builtin.append_ ts t #[x',y']):=by
 unfold Builtin.append_
 cases ht:ts[0]? with
 | none=>exact trivial
 | some u=>
   show SR P VR ρ (underlying u >>= _) (underlying u >>= _)
   refine gT fun d hd=>?_
   cases d with
   | slice e=>
     have hz:=hT.zero u e ht hd
     have go:∀ {ρ1:Ren},Ext ρ ρ1→∀ (size sLen sCap:Nat) {b b':Option Addr},EY ρ1 b b'→VR ρ1 x x'→SR P VR ρ1 (Builtin.lenOf y >>= fun n=>vZ e size sLen sCap n false b x y) (Builtin.lenOf y' >>= fun n=>vZ e size sLen sCap n false b' x' y'):=fun l size sLen sCap b b' hb hx=>
      (Ot (hy.mono l.1)).aN l.2 fun ρ2 l2 n=>Jf l2.2 hz size sLen sCap n (hb.mono l2.1) (hx.mono l2.1) (hy.mono (l.1.trans l2.1))
     cases hx with
     | xQ l c=>
       show SR P VR ρ (sizeOf e >>= _) (sizeOf e >>= _)
       refine(aX hi e).aN hi fun ρ1 l1 size=>?_
       cases ht1:ts[1]? with
       | none=>exact go l1 size l c (.inl ⟨rfl,rfl⟩) (.xQ l c)
       | some xt=>
         show SR P VR ρ1 (underlying xt >>= _) (underlying xt >>= _)
         refine gT fun d hd1=>?_
         have hp:=hT.plain xt
         cases d with
         | int k=>exact absurd hd1 (hp k ht1)
         | _=>exact go l1 size l c (.inl ⟨rfl,rfl⟩) (.xQ l c)
     | sl l c ha=>
       show SR P VR ρ (sizeOf e >>= _) (sizeOf e >>= _)
       refine(aX hi e).aN hi fun ρ1 l1 size=>?_
       cases ht1:ts[1]? with
       | none=>exact go l1 size l c (.inr ⟨_,_,rfl,rfl,ha.mono l1.1⟩) (.sl l c (ha.mono l1.1))
       | some xt=>
         show SR P VR ρ1 (underlying xt >>= _) (underlying xt >>= _)
         refine gT fun d hd1=>?_
         have hp:=hT.plain xt
         cases d with
         | int k=>exact absurd hd1 (hp k ht1)
         | _=>exact go l1 size l c (.inr ⟨_,_,rfl,rfl,ha.mono l1.1⟩) (.sl l c (ha.mono l1.1))
     | _=>exact trivial
   | _=>exact trivial
def NR(F:FuncId→Prop)(ρ:Ren):Next→Next→Prop
 | .value v,n=>∃v',n=.value v'∧VR ρ v v'
 | .skip,n=>n=.skip
 | .enter f a,n=>∃a',n=.enter f a'∧dY ρ a a'∧F f
 | .round l f t a b,n=>∃l' t',n=.round l' f t' a b∧ρ l=some l'∧dY ρ t t'∧jh f a∧jh f b
 | _,_=>False
def bu(P:Program)(F:FuncId→Prop)(v:Value):Prop:=∀g first cap,v=.func (.func g) first cap→∃f c,F g∧P.funcs[g]? =some f∧f.body=some c∧(f.name == "runtime.NumGoroutine")=false
def Sup(P:Program)(F:FuncId→Prop)(ev:Operand→Value)(o:Oper):Prop:=
 match o.op with
 | .move _| .assign _| .pick _ _ _| .box _ _| .load _ _| .store _ _ _| .slice _ _ _ _ _| .fieldAddr _ _ _| .field _ _ _| .indexAddr _ _ _| .index _ _ _| .extract _ _=>True
 | .alloc t| .build t _=>Nf P t
 | .buildSlice t _ _=>∀e,P.underlying t=some (.slice e)→Nf P e
 | .convert s d _=>Qs P s d
 | .makeInterface _ _=>True
 | .binOp op t _ _ _=>bG op=true∨Di P t
 | .unOp op _ _=>op=.not
 | .makeFunc fn _ _=>∃g,fn=.func g
 | .call c=>match c.callee with
   | .builtin b=>(b=.len∧c.args.size=1)∨b=.min∨(b=.append∧c.args.size=2∧Vo P c.argTypes)
   | .value f=>bu P F (ev f)
   | .invoke _ _=>False
 | _=>False
theorem Eh{ev ev':Operand→Value}{xs:Array Operand}(h:∀x∈xs,VR ρ (ev x) (ev' x)):dY ρ (xs.map ev) (xs.map ev'):=
 ⟨zs,fun i a b=>by simp only[Array.getElem_map];exact h _ (Array.getElem_mem _)⟩
theorem xG{ev ev':Operand→Value}{xs:Array (Nat × Operand)}(h:∀x∈xs,VR ρ (ev x.2) (ev' x.2)):jJ ρ (xs.map fun(i,x)=>(i,ev x)).toList (xs.map fun(i,x)=>(i,ev' x)).toList:=by
 obtain⟨l⟩:=xs
 simp only[List.map_toArray]
 have h':∀x∈l,VR ρ (ev x.2) (ev' x.2):=fun x hx=>h x (by simpa using hx)
 clear h
 induction l with
 | nil=>exact .nil
 | cons a l ih=>exact .cons _ (h' a zs) (ih fun x hx=>h' x (by simp[hx]))
theorem jJ.mono{ρ':Ren}(l:Le ρ ρ'){x x':List (Nat × Value)}(h:jJ ρ x x'):jJ ρ' x x':=by
 induction h with
 | nil=>exact .nil
 | cons i h _ ih=>exact .cons i (h.mono l) ih
theorem Kq{ev ev':Operand→Value}{x:Option Operand}(h:∀y∈x,VR ρ (ev y) (ev' y)):ql ρ (x.map ev) (x.map ev'):=by
 cases x with
 | none=>exact .inl ⟨rfl,rfl⟩
 | some y=>exact .inr ⟨_,_,rfl,rfl,h y rfl⟩
theorem eH{F:FuncId→Prop}(hi:dL ρ){s s':Sem Value}(h:SR P VR ρ s s'):SR P (NR F) ρ (do pure (.value (← s))) (do pure (.value (← s'))):=h.bind' hi fun _ _ _ _ hv=>SR.pure ⟨_,rfl,hv⟩
theorem YO{F:FuncId→Prop}(hi:dL ρ){s s':Sem Unit}(h:SR P lZ ρ s s'):SR P (NR F) ρ (do s;pure .skip) (do s';pure .skip):=h.bind' hi fun _ _ _ _ _=>SR.pure rfl
theorem Bu{F:FuncId→Prop}(hi:dL ρ){v v':Value}(hl:bu P F v)(hv:VR ρ v v'){a a':Array Value}(ha:dY ρ a a'):SR P (NR F) ρ (do let d ← Deferred.ofValue v a;invoke d.target d.args) (do let d ← Deferred.ofValue v' a';invoke d.target d.args):=by
 cases hv with
 | func g e1 h1 e2 h2=>
   obtain⟨f,c,hF,hg,hb,hn⟩:=hl _ _ _ rfl
   have key:∀ (x y:Array Value),(do let d ← Deferred.ofValue (.func (.func g) x y) a;invoke d.target d.args:Sem Next)=callFunc g ((x ++ a) ++ y):=fun _ _=>rfl
   have key':∀ (x y:Array Value),(do let d ← Deferred.ofValue (.func (.func g) x y) a';invoke d.target d.args:Sem Next)=callFunc g ((x ++ a') ++ y):=fun _ _=>rfl
   rw[key,key']
   have hbn:f.body.isNone=false:=by rw[hb];rfl
   have hargs:=(dY.append (ρ:=ρ) (dY.append ⟨e1,h1⟩ ha) ⟨e2,h2⟩)
   unfold callFunc
   refine⟨_,rfl,?_⟩
   show SR P (NR F) ρ (match P.funcs[g]? with|none=>_|some fn=>_) (match P.funcs[g]? with|none=>_|some fn=>_)
   rw[hg]
   simp only[hn,hbn,Bool.false_eq_true,if_false]
   exact SR.pure ⟨_,rfl,hargs,hF⟩
 | yield hr=>
   show SR P (NR F) ρ (Instr.yield _ (#[] ++ a)) (Instr.yield _ (#[] ++ a'))
   rw[Array.empty_append,Array.empty_append]
   refine SR.imp (fun ρ1 n n' h=>?_) hi (CX hi hr ha)
   cases n <;> first|exact h.elim|exact h
 | nilFunc=>exact aR (e:=.nilDeref) zs zs
 | _=>exact trivial
theorem ft{α:Type}(a:Array α)(h:a.size=1):∃x,a=#[x]:=by
 obtain⟨l⟩:=a
 rcases l with _|⟨x,_|⟨y,l⟩⟩
 ·simp at h
 ·exact⟨x,rfl⟩
 ·simp at h
theorem ie{α:Type}(a:Array α)(h:a.size=2):∃x y,a=#[x,y]:=by
 obtain⟨l⟩:=a
 rcases l with _|⟨x,_|⟨y,_|⟨z,l⟩⟩⟩
 ·simp at h
 ·simp at h
 ·exact⟨x,y,rfl⟩
 ·simp at h
theorem wL(hg:P.globals.size=0){F:FuncId→Prop}(hi:dL ρ){ev ev':Operand→Value}{o:Oper}(hs:Sup P F ev o)(he:∀x∈o.op.operands,VR ρ (ev x) (ev' x)):SR P (NR F) ρ (execOp ev o) (execOp ev' o):=by
 unfold Sup at hs
 unfold execOp
 cases hop:o.op <;> rw[hop] at hs <;> simp only at hs
 all_goals (rw[hop] at he;dsimp only)
 case move x=>exact SR.pure ⟨_,rfl,he x (by simp[Op.operands])⟩
 case assign x=>exact SR.pure ⟨_,rfl,he x (by simp[Op.operands])⟩
 case pick c a b=>
  refine(Jh (he c (by simp[Op.operands]))).aN hi fun ρ1 l1 x=>SR.pure ⟨_,rfl,?_⟩
  cases x
  ·exact(he b (by simp[Op.operands])).mono l1.1
  ·exact(he a (by simp[Op.operands])).mono l1.1
 case alloc t=>exact eH hi (Ni hi hs)
 case box t x=>exact eH hi (VU hi t (he x (by simp[Op.operands])))
 case build t ps=>
  have hp:∀x∈ps,VR ρ (ev x.2) (ev' x.2):=fun x hx=>he x.2 (by simp only[Op.operands];simp;exact⟨x.1,by simpa using hx⟩)
  exact eH hi (Nr hi hs (xG hp) (fun l=>(xG hp).mono l))
 case buildSlice t n ps=>
  have hp:∀x∈ps,VR ρ (ev x.2) (ev' x.2):=fun x hx=>he x.2 (by simp only[Op.operands];simp;exact⟨x.1,by simpa using hx⟩)
  exact eH hi (wE hi hs n (fun l=>(xG hp).mono l))
 case convert s d x=>exact eH hi (FJ hs (he x (by simp[Op.operands])))
 case makeInterface t x=>exact eH hi (rO t (he x (by simp[Op.operands])))
 case load t a=>exact eH hi (JY hi t (he a (by simp[Op.operands])))
 case store t a v=>exact YO hi (Ib hi t (he a (by simp[Op.operands])) (he v (by simp[Op.operands])))
 case binOp op t x y u=>
  have hx:=he x (by simp[Op.operands])
  have hy:=he y (by simp[Op.operands])
  refine eH hi ?_
  cases ho:bG op with
  | true=>
    rw[iL ho,iL ho]
    exact Np hg hi op ho t hx hy
  | false=>
    rw[ho] at hs
    have hT:Di P t:=by rcases hs with h|h;cases h;exact h
    exact(FQ hT hi op x y hx hy).aN hi fun ρ1 l1 _=>Nn hg hT l1.2 op ho (hx.mono l1.1) (hy.mono l1.1)
 case unOp op t x=>subst hs;exact eH hi (P7 (he x (by simp[Op.operands])))
 case makeFunc fn a b=>
  refine eH hi (SR.pure ?_)
  have h1:=Eh (ρ:=ρ) (ev:=ev) (ev':=ev') (xs:=a) fun x hx=>he x (by simp[Op.operands,hx])
  have h2:=Eh (ρ:=ρ) (ev:=ev) (ev':=ev') (xs:=b) fun x hx=>he x (by simp[Op.operands,hx])
  obtain⟨g,rfl⟩:=hs
  exact .func g h1.1 h1.2 h2.1 h2.2
 case slice t x a b c=>
  exact eH hi (Hf hi t (he x (by simp[Op.operands])) (Kq fun y hy=>he y (by cases hy;simp[Op.operands])) (Kq fun y hy=>he y (by cases hy;simp[Op.operands])) (Kq fun y hy=>he y (by cases hy;simp[Op.operands])))
 case fieldAddr t x i=>exact eH hi (FX hi t (he x (by simp[Op.operands])) i)
 case field t x i=>exact eH hi (NV hi t (he x (by simp[Op.operands])) i)
 case indexAddr t x i=>exact eH hi (Gn hi t (he x (by simp[Op.operands])) (he i (by simp[Op.operands])))
 case index t x i=>exact eH hi (Oi hi t (he x (by simp[Op.operands])) (he i (by simp[Op.operands])))
 case extract x i=>exact eH hi (FU (he x (by simp[Op.operands])) i)
 case call c=>
  have hargs:dY ρ (c.args.map ev) (c.args.map ev'):=Eh fun x hx=>he x (by simp only[Op.operands,Call.operands];exact Array.mem_append.2 (.inr hx))
  unfold resolve
  cases hc:c.callee with
  | invoke r n=>rw[hc] at hs;exact hs.elim
  | value f=>
    rw[hc] at hs
    have hf:=he f (by simp[Op.operands,Call.operands,hc])
    exact Bu hi hs hf hargs
  | builtin b=>
    rw[hc] at hs
    rcases hs with⟨rfl,h1⟩|rfl|⟨rfl,h1,hT⟩
    ·obtain⟨x,hx⟩:∃x,c.args=#[x]:=ft _ h1
     have hv:=he x (by simp[Op.operands,Call.operands,hx])
     have e:∀f:Operand→Value,Array.map f c.args=#[f x]:=fun f=>by rw[hx];simp
     have:=eH (F:=F) hi (Xd (P:=P) hi c.argTypes o.type hv)
     rw[← e ev,← e ev'] at this
     exact this
    ·exact eH hi (Xh hi c.argTypes o.type hargs)
    ·obtain⟨x,y,hx⟩:∃x y,c.args=#[x,y]:=ie _ h1
     have hv:=he x (by simp[Op.operands,Call.operands,hx])
     have hw:=he y (by simp[Op.operands,Call.operands,hx])
     have e:∀f:Operand→Value,Array.map f c.args=#[f x,f y]:=fun f=>by rw[hx];simp
     have:=eH (F:=F) hi (Jg (P:=P) hi c.argTypes o.type hT hv hw)
     rw[← e ev,← e ev'] at this
     exact this
end
section
variable[Inhabited aV]
open Go.Conc
variable{P:Program}{ρ:Ren}
def qj:Operand→Prop
 | .const v=>∀ρ,VR ρ v v
 | .global _=>False
 | _=>True
def qh(P:Program)(o:Oper):Prop:=(∀x∈o.op.operands,qj x)∧
 match o.op with
 | .move _| .assign _| .pick _ _ _| .box _ _| .load _ _| .store _ _ _| .slice _ _ _ _ _| .fieldAddr _ _ _| .field _ _ _| .indexAddr _ _ _| .index _ _ _| .extract _ _| .makeInterface _ _| .panic _=>True
 | .alloc t| .build t _=>Nf P t
 | .buildSlice t _ _=>∀e,P.underlying t=some (.slice e)→Nf P e
 | .convert s d _=>Qs P s d
 | .binOp op t _ _ _=>bG op=true∨Di P t
 | .unOp op _ _=>op=.not
 | .makeFunc fn _ _=>∃g,fn=.func g
 | .call c=>match c.callee with
   | .builtin b=>(b=.len∧c.args.size=1)∨b=.min∨(b=.append∧c.args.size=2∧Vo P c.argTypes)
   | .value f=>True
   | .invoke _ _=>False
 | _=>False
def gK(P:Program):Code→Prop
 | .skip| .exit _| .ret| .label _| .refuse _=>True
 | .region _ ops _=>∀o∈ops,qh P o
 | .seq a b=>gK P a∧gK P b
 | .cond c a b=>qj c∧gK P a∧gK P b
 | .block _ b| .loop b| .scope b=>gK P b
 | .rangeFunc f _ a b=>qj f∧gK P a∧gK P b
 | .goto _=>False
def kQ(P:Program):Item→Prop
 | .code c| .inLoop c| .inScope c=>gK P c
 | .inBlock _| .inRangeFunc _| .endRangeFunc _| .beginRound=>True
 | .inRegion ops _=>∀o∈ops,qh P o
 | _=>False
structure gJ(P:Program)(F:FuncId→Prop):Prop where
 sv:∀g,F g→∃f c,P.funcs[g]? =some f∧f.body=some c∧(f.name == "runtime.NumGoroutine")=false∧gK P c
 env:∀f c,jh f c↔F f∧gK P c
structure jH(P:Program)(F:FuncId→Prop)(fr:Frame):Prop where
 fn:F fr.fn
 todo:∀i∈fr.todo,kQ P i
 defers:∃x:List Nat,fr.defers=x.map jg
 mode:fr.mode=.run∨fr.mode=.returning
 kind:fr.kind=.normal
def kV(fr:Frame)(L:List Frame)(jump:Option Code):Sem (Frame × List Frame):=
 match fr.roundOf with
 | none=>match jump with
   | none|some .ret=>pure ({fr with mode:=.returning },L)
   | _=>stuck tj
 | some l=>match L with
   | c :: rest=>do
     let v ← Instr.endRound l jump
     pure (c.finish v,rest)
   | []=>stuck "a round without a caller"
def oW(v:Value)(a:Array Value):Sem Next:=do
 let d ← Deferred.ofValue v a
 invoke d.target d.args
def uH(P:Program)(fr:Frame)(L:List Frame):Next→Sem (Frame × List Frame)
 | .value v=>pure (fr.finish v,L)
 | .skip=>pure (fr.finish undef,L)
 | .enter f args=>pure (Frame.enter P f args .normal,fr :: L)
 | .round l g t a b=>pure (Frame.round l g t a b .normal,fr :: L)
 | _=>stuck "another end of an operation"
def uD(P:Program)(fr:Frame)(L:List Frame):Next→Sem (Frame × List Frame)
 | .enter f args=>pure (Frame.enter P f args .normal,fr :: L)
 | .round l g t a b=>pure (Frame.round l g t a b .normal,fr :: L)
 | _=>stuck Kx
def rF:Op→Bool
 | .panic _=>true
 | _=>false
def fT(P:Program)(fr:Frame)(L:List Frame):Sem (Frame × List Frame):=
 match fr.mode with
 | .panicking _=>stuck "panicking"
 | .returning=>
   match fr.defers with
   | {target:=.collected r,.. } :: ds=>do
     let calls ← Instr.takeDeferred r
     pure ({fr with defers:=calls ++ ds },L)
   | _ :: _=>stuck "a deferred call"
   | []=>
     match P.funcs[fr.fn]?,L with
     | some fn,c :: rest=>do
       let v ← results fn fr.tmps
       pure (c.finish v,rest)
     | _,_=>stuck "the last return"
 | .run=>
   match fr.todo with
   | []=>kV fr L none
   | .code .ret :: _=>kV fr L (some .ret)
   | .code .skip :: k| .code (.label _) :: k| .inBlock _ :: k| .inScope _ :: k=>pure ({fr with todo:=k },L)
   | .code (.seq a b) :: k=>pure ({fr with todo:=.code a :: .code b :: k },L)
   | .code (.cond c thn els) :: k=>
     match fr.eval c with
     | .bool b=>pure ({fr with todo:=.code (if b then thn else els) :: k },L)
     | _=>stuck KB
   | .code (.block id body) :: k=>pure ({fr with todo:=.code body :: .inBlock id :: k },L)
   | .code (.loop body) :: k| .inLoop body :: k=>pure ({fr with todo:=.code body :: .inLoop body :: k },L)
   | .code (.scope body) :: k=>pure ({fr with todo:=.code body :: .inScope body :: k },L)
   | .code (.exit id) :: k=>
     match exitTo id k with
     | some k'=>pure ({fr with todo:=k' },L)
     | none=>kV fr L (some (.exit id))
   | .code (.rangeFunc f params assign body) :: k=>do
     let e ← Instr.enterLoop fr.fn fr.tmps params assign body fr.roundOf
     let n ← oW (fr.eval f) #[.func (.yield e.1) #[] #[]]
     uD P {fr with todo:=.inRangeFunc e.1 :: k,defers:=e.2 ++ fr.defers } L n
   | .beginRound :: _=>
     match fr.roundOf with
     | none=>stuck lk
     | some l=>do
       Instr.beginRound l
       pure (fr.finish undef,L)
   | .endRangeFunc l :: k=>do
     let jump ← Instr.endLoop l
     pure ({fr with todo:=(jump.map Item.code).toList ++ k },L)
   | .code (.region id ops draw) :: k=>
     if !draw then pure ({fr with todo:=.inRegion ops (List.range ops.size) :: k },L)
     else do
      let t ← choose (.order fr.fn id)
      pure ({fr with todo:=.inRegion ops (Region.schedule (P.follows .mixedOrders) ops t) :: k },L)
   | .inRegion _ [] :: k=>pure ({fr with todo:=k },L)
   | .inRegion ops (i :: _) :: _=>
     if ((ops[i]?).map (Region.wanted · (yielded ops fr.tmps))).getD false then
      match ops[i]? with
      | none=>stuck "no operation here"
      | some o=>
        if rF o.op then stuck "a panic" else do
         let n ← execOp fr.eval o
         uH P fr L n
     else pure (fr.finish undef,L)
   | _=>stuck "not served"
theorem Ky{α:Type}(s:Sem α):∀ (w:World) (es:Array Event),s.runT P w es=((s.runT P w #[]).1,es ++ (s.runT P w #[]).2):=by
 have push:∀ (es:Array Event) (e:Event) (x:Array Event),es.push e ++ x=es ++ (#[].push e ++ x):=fun es e x=>by
  rw[Array.push_eq_append,Array.append_assoc];rfl
 induction s with
 | pure a=>intro w es;simp[Sem.runT,-Sem.runT_eq]
 | load m a k ih=>
   intro w es
   simp only[Sem.runT]
   cases w.cell? a with
   | some v=>
     simp only
     rw[ih v w (es.push _),ih v w (#[].push _)]
     dsimp only;rw[push]
   | none=>
     simp only
     cases w.farLoad P a (m == .atomic) with
     | ok r=>
       obtain⟨v,touched⟩:=r
       simp only
       rw[ih v w (es ++ _),ih v w (#[] ++ _)]
       simp[Array.append_assoc,-Sem.runT_eq]
     | error h=>simp
 | store m a v k ih=>
   intro w es
   have key:∀v:Value,(∀c,v≠.agg c)→(∀c,v≠.tuple c)→(Sem.store m a v k).runT P w es=(((Sem.store m a v k).runT P w #[]).1,es ++ ((Sem.store m a v k).runT P w #[]).2):=by
    intro v h1 h2
    have e:∀es:Array Event,(Sem.store m a v k).runT P w es=match w.cell? a with
     | some _=>
       if w.frozen? a then(.halt (.unsupported (.unsafePointer "a write to bytes that a string shares")) w,es)
       else k.runT P (w.setCell a v) (es.push ⟨.cell a,true,m == .atomic⟩)
     | none=>match w.farStore P a v (m == .atomic) with
       | .ok (w,touched)=>k.runT P w (es ++ touched.toArray.map (⟨.cell ·,true,m == .atomic⟩))
       | .error h=>(.halt h w,es):=by
     intro es
     cases v <;> first|rfl|exact absurd rfl (h1 _)|exact absurd rfl (h2 _)
    rw[e,e]
    cases w.cell? a with
    | some v0=>
      simp only
      split
      ·simp
      ·rw[ih _ (es.push _),ih _ (#[].push _)]
       dsimp only;rw[push]
    | none=>
      simp only
      cases w.farStore P a v (m == .atomic) with
      | ok r=>
        obtain⟨w1,touched⟩:=r
        simp only
        rw[ih w1 (es ++ _),ih w1 (#[] ++ _)]
        simp[Array.append_assoc,-Sem.runT_eq]
      | error h=>simp
   by_cases h1:∀c,v≠.agg c
   ·by_cases h2:∀c,v≠.tuple c
    ·exact key v h1 h2
    ·simp only[ne_eq,Classical.not_forall,Classical.not_not] at h2
     obtain⟨c,rfl⟩:=h2
     simp[Sem.runT,-Sem.runT_eq]
   ·simp only[ne_eq,Classical.not_forall,Classical.not_not] at h1
    obtain⟨c,rfl⟩:=h1
    simp[Sem.runT,-Sem.runT_eq]
 | new o k ih=>intro w es;simp only[Sem.runT];exact ih _ _ _
 | shape r k ih=>intro w es;simp only[Sem.runT];exact ih _ _ _
 | freeze a n k ih=>intro w es;simp only[Sem.runT];exact ih _ _
 | frozen a k ih=>intro w es;simp only[Sem.runT];exact ih _ _ _
 | getObj r k ih=>
   intro w es
   simp only[Sem.runT]
   cases w.heap[r]? with
   | none=>simp
   | some o=>
     cases o <;> first
      | (simp;done)
      | (simp only
         rw[ih _ w (es.push _),ih _ w (#[].push _)]
         dsimp only;rw[push])
 | setObj r o k ih=>
   intro w es
   simp only[Sem.runT]
   cases w.heap[r]? with
   | none=>simp
   | some o'=>
     cases o' <;> first
      | (simp;done)
      | (simp only
         rw[ih _ (es.push _),ih _ (#[].push _)]
         dsimp only;rw[push])
 | choose q k ih=>
   intro w es
   simp only[Sem.runT]
   split
   ·exact ih _ _ _
   ·exact ih _ _ _
 | sys c k ih=>
   intro w es
   simp only[Sem.runT]
   rw[ih _ _ (es.push _),ih _ _ (#[].push _)]
   dsimp only;rw[push]
 | program k ih=>intro w es;simp only[Sem.runT];exact ih _ _ _
 | mark m k ih=>
   intro w es
   simp only[Sem.runT]
   rw[ih _ (es.push _),ih _ (#[].push _)]
   dsimp only;rw[push]
 | halt h=>intro w es;simp[Sem.runT,-Sem.runT_eq]
end
end Go.cu
