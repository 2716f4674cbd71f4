/- Far3 Far4 Far5 Far6 -/
import Derived.Test.YthaelabgfnnebaaGreatC8
set_option maxRecDepth 100000
set_option maxHeartbeats 16000000
set_option linter.unusedVariables false
set_option linter.unusedSectionVars false
namespace Go.dS
section
variable{P:Program}{Z:Env}
theorem uQ{α:Type}{Q:α→Prop}(m:String):Tm P Z Q (unsupported (.noEntry m):Sem α):=trivial
theorem Uy{α:Type}{Q:α→Prop}(m:String):Tm P Z Q (unsupported (.resourceLimit m):Sem α):=trivial
theorem ED{α:Type}{Q:α→Prop}:Tm P Z Q (unsupported .addressObserved:Sem α):=trivial
theorem gC{α:Type}{Q:α→Prop}(m:String):Tm P Z Q (unsupported (.unsafePointer m):Sem α):=trivial
theorem jq{α:Type}{Q:α→Prop}{a:α}(h:Q a):Tm P Z Q (pure a:Sem α):=h
theorem Yp{α β:Type}{f:α→Sem β}(l:List α)(h:∀a∈l,T P Z (f a)):T P Z (l.mapM f):=by
 induction l with
 | nil=>simp only[List.mapM_nil];exact av _
 | cons a l ih=>
   simp only[List.mapM_cons]
   exact tb (h a zs) fun _=>tb (ih fun b hb=>h b (by simp[hb])) fun _=>av _
theorem Uu{α β:Type}{f:α→Sem β}(l:Array α)(h:∀a,T P Z (f a)):T P Z (l.mapM f):=by
 rw[Array.mapM_eq_mapM_toList]
 exact ZN (Yp _ fun a _=>h a)
theorem Im{α β:Type}{f:α→β→Sem (ForInStep β)}(l:List α)(h:∀a∈l,∀b,T P Z (f a b)):∀b,T P Z (forIn l b f):=by
 induction l with
 | nil=>intro b;simp only[List.forIn_nil];exact av _
 | cons a l ih=>
   intro b
   simp only[List.forIn_cons]
   refine tb (h a zs b) fun r=>?_
   cases r with
   | done b=>exact av _
   | yield b=>exact ih (fun c hc=>h c (by simp[hc])) b
theorem yj{α β:Type}{f:α→β→Sem (ForInStep β)}(l:Array α)(b:β)(h:∀a∈l,∀b,T P Z (f a b)):T P Z (forIn l b f):=by
 rw[← Array.forIn_toList]
 exact Im _ (fun a ha=>h a (by simpa using ha)) b
theorem yu{β:Type}{f:Nat→β→Sem (ForInStep β)}(n:Nat)(b:β)(h:∀a b,T P Z (f a b)):T P Z (forIn [0:n] b f):=by
 rw[Std.Legacy.Range.forIn_eq_forIn_range']
 exact Im _ (fun a _=>h a) b
theorem CG{α β:Type}{f:β→α→Sem β}(l:List α)(h:∀b a,T P Z (f b a)):∀b,T P Z (l.foldlM f b):=by
 induction l with
 | nil=>intro b;exact av _
 | cons a l ih=>intro b;simp only[List.foldlM_cons];exact tb (h b a) fun c=>ih c
def IC(P:Program):Nat→TypeId→Bool
 | 0,_=>true
 | d+1,t=>match P.underlying t with
   | none|some .bool|some .string|some (.float _)|some (.complex _)|some (.slice _)|some (.map _ _)|some (.func _ _ _)|some (.chan _ _)=>true
   | some (.int _)=>match P.info? t with
     | some i=>match i.desc with| .named n _=>n != "sync.copyChecker" |_=>true
     | none=>true
   | some (.struct fs)=>fs.all fun f=>f.name == "_" || IC P d f.type
   | some (.array _ e)=>IC P d e
   | _=>false
theorem Uq(hg:P.globals.size=0){t:TypeId}(ht:∀i,P.info? t=some i→∀n u,i.desc=.named n u→n≠ "sync.copyChecker")(a b:Addr)(f:Addr × Bool→Addr × Bool→Sem Bool)
 (hf:∀x y,f x y=(do
  if x.1.block == y.1.block && x.1.block<(← program).globals.size then return (← byteOf x.1) == (← byteOf y.1)
  let .named "sync.copyChecker" _:=(← typeInfo t).desc|unsupported .addressObserved
  if x.1 == y.1 then pure true else unsupported .addressObserved)):T P Z (do let x ← behindNumber a;let y ← behindNumber b;f x y):=by
 have lost:∀x y,Dm P (f x y):=fun x y=>by
  rw[hf]
  show Dm P (if (x.1.block == y.1.block && decide (x.1.block<P.globals.size))=true then _ else _)
  rw[hg]
  simp only[Nat.not_lt_zero,decide_false,Bool.and_false,Bool.false_eq_true,if_false]
  show Dm P (Sem.bind (match P.info? t with|some i=>pure i|none=>stuck "no such type") _)
  cases hi:P.info? t with
  | none=>exact trivial
  | some i=>
    show Dm P (match i.desc with
     | .named "sync.copyChecker" _=>if x.1 == y.1 then pure true else unsupported .addressObserved
     | _=>unsupported .addressObserved)
    split
    ·rename_i u hu
     exact absurd rfl (ht i hi _ _ hu)
    ·exact trivial
 have np:∀c w es v w',((behindNumber c).runT P w es).1≠.halt (.panic v) w'∧((behindNumber c).runT P w es).1≠.halt .goexit w':=fun c w es v w'=>by
  have e:behindNumber c=(do let x ← numberAt c.block;pure (x.getD (c,false))):=rfl
  rw[e]
  simp only[numberAt,shape,getObj,bind,Sem.bind,pure,Sem.runT]
  cases hs:w.shape? c.block with
  | some x=>simp[Sem.bind,Sem.runT,-Sem.runT_eq]
  | none=>
    simp only[Option.isSome_none,Bool.false_eq_true,if_false,Sem.bind,Sem.runT]
    cases hh:w.heap[c.block]? with
    | none=>simp
    | some o=>cases o <;> simp[Sem.bind,Sem.runT,-Sem.runT_eq]
 have all:Bd P Z (do let x ← behindNumber a;let y ← behindNumber b;f x y):=by
  intro w es hl hgood
  show False
  have h1:=np a w es
  replace hgood:fC (((behindNumber a).bind fun x=>(behindNumber b).bind fun y=>f x y).runT P w es).1:=hgood
  rw[Sem.runT_bind'] at hgood
  generalize (behindNumber a).runT P w es=r at h1 hgood
  obtain⟨r,es1⟩:=r
  cases r with
  | halt e w1=>
    cases e <;> first|exact hgood|skip
    ·exact(h1 _ w1).1 rfl
    ·exact(h1 undef w1).2 rfl
  | ok x w1=>
    dsimp only at hgood
    rw[Sem.runT_bind'] at hgood
    have h2:=np b w1 es1
    generalize (behindNumber b).runT P w1 es1=r at h2 hgood
    obtain⟨r,es2⟩:=r
    cases r with
    | halt e w2=>
      cases e <;> first|exact hgood|skip
      ·exact(h2 _ w2).1 rfl
      ·exact(h2 undef w2).2 rfl
    | ok y w2=>exact(lost x y).run _ _ hgood
 exact .inl all
theorem Pw(hg:P.globals.size=0):∀ (d:Nat) (t:TypeId),IC P d t=true→∀x y,T P Z (Op.equalIn d t x y):=by
 intro d
 induction d with
 | zero=>exact fun t _ x y=>trivial
 | succ d ih=>
   intro t ht x y
   unfold Op.equalIn
   refine tq (bV t) fun td htd=>?_
   unfold IC at ht
   rw[htd] at ht
   split
   all_goals first
    | exact trivial
    | (dsimp only at ht;cases ht;done)
    | (split <;> exact trivial)
    | skip
   ·rename_i k a b
    refine Uq hg (fun i hi n u hd hn=>?_) a b _ fun x y=>rfl
    dsimp only at ht
    rw[hi] at ht
    dsimp only at ht
    rw[hd,hn] at ht
    simp at ht
   ·rename_i fields xs ys
    dsimp only at ht
    rw[Array.all_eq_true_iff_forall_mem] at ht
    refine tb lU fun p=>?_
    dsimp only
    split
    ·exact trivial
    ·refine tb (yj _ _ fun f hf b=>?_) fun r=>?_
     ·split
      ·rename_i hn
       have h1:=ht f hf
       simp only[Bool.or_eq_true,beq_iff_eq] at h1
       refine tb (gW _ _ _) fun _=>tb (gW _ _ _) fun _=>tb (ih _ (h1.resolve_left hn) _ _) fun _=>?_
       split <;> exact trivial
      ·exact trivial
     ·split <;> exact trivial
   ·rename_i len elem xs ys
    dsimp only at ht
    refine tb (bZ _) fun n=>?_
    refine tb (yu _ _ fun i b=>?_) fun r=>?_
    ·refine tb (gW _ _ _) fun _=>tb (gW _ _ _) fun _=>tb (ih _ ht _ _) fun _=>?_
     split <;> exact trivial
    ·dsimp only;split <;> exact trivial
theorem Ez(hg:P.globals.size=0){t:TypeId}(ht:IC P 10000 t=true)(x y:Value):T P Z (Op.equal t x y):=Pw hg 10000 t ht x y
theorem Ik:∀ (d:Nat) (t:TypeId) x y,T P Z (Op.eqGuardIn d t x y):=by
 intro d
 induction d with
 | zero=>exact fun t x y=>trivial
 | succ d ih=>
   intro t x y
   unfold Op.eqGuardIn
   refine tb (cO t) fun td=>?_
   split
   ·exact trivial
   ·refine tb (yj _ _ fun f hf b=>?_) fun r=>?_
    ·split
     ·refine tb (gW _ _ _) fun _=>tb (gW _ _ _) fun _=>tb (ih _ _ _) fun _=>?_
      split <;> exact trivial
     ·exact trivial
    ·dsimp only;split <;> exact trivial
   ·refine tb (bZ _) fun _=>?_
    refine tb (yu _ _ fun i b=>?_) fun r=>?_
    ·refine tb (gW _ _ _) fun _=>tb (gW _ _ _) fun _=>tb (ih _ _ _) fun _=>?_
     split <;> exact trivial
    ·dsimp only;split <;> exact trivial
   ·exact trivial
theorem Pv(op:BinOp)(t:TypeId)(x y:Operand)(a b:Value):T P Z (eqGuard op t x y a b):=by
 unfold eqGuard
 repeat' with_reducible first
  | exact av _
  | exact uQ _
  | refine tb lU fun _=>?_
  | refine tb (Ik _ _ _ _) fun _=>?_
  | split
theorem jT(e:Bool):∀ (n:Nat) (t:TypeId) v,T P Z (Instr.checkKey e n t v):=by
 intro n
 induction n with
 | zero=>exact fun t v=>trivial
 | succ n ih=>
   intro t v
   unfold Instr.checkKey
   refine tb (cO t) fun td=>?_
   split
   ·refine tb (dJ _) fun i=>?_
    dsimp only
    split
    ·split
     ·exact tb (aD _) fun _=>tb (CJ _) fun _=>tb (aD _) fun _=>ih _ _
     ·exact tb (CJ _) fun _=>tb (aD _) fun _=>ih _ _
    ·exact ih _ _
   ·refine tb (yu _ _ fun i b=>?_) fun r=>trivial
    exact tb (bZ _) fun _=>tb (gW _ _ _) fun _=>tb (ih _ _) fun _=>trivial
   ·refine tb (yj _ _ fun f hf b=>?_) fun r=>trivial
    split
    ·exact tb (gW _ _ _) fun _=>tb (ih _ _) fun _=>trivial
    ·exact trivial
   ·exact trivial
   ·exact trivial
   ·exact trivial
   ·exact trivial
   ·exact trivial
theorem EA(hg:P.globals.size=0){t:TypeId}(ht:IC P 10000 t=true)(k:Value):∀ (es:List MapEntry) (i:Nat),T P Z (Instr.findAsking t k es i):=by
 intro es
 induction es with
 | nil=>exact fun _=>trivial
 | cons e es ih=>
   intro i
   refine tb (Ez hg ht _ _) fun b=>?_
   split
   ·exact trivial
   ·exact ih _
theorem oJ(hg:P.globals.size=0){t:TypeId}(ht:IC P 10000 t=true)(k:Value)(es:List MapEntry):T P Z (Instr.findKey t k es):=by
 unfold Instr.findKey
 refine tb (cO t) fun td=>?_
 split
 ·exact trivial
 ·exact EA hg ht _ _ _
theorem bF{β:Type}{R:β→Prop}{r:Nat}{f:Obj→Sem β}(h1:¬ Z r→∀o,Plain Z o→Tm P Z R (f o))(h2:Z r→Bd P Z (f (X0 r))):Tm P Z R (getObj r >>= f):=⟨h1,h2⟩
theorem dG{β:Type}{R:β→Prop}{r:Nat}{o:Obj}{f:Unit→Sem β}(hz:¬ Z r)(ho:Plain Z o)(h:Tm P Z R (f ())):Tm P Z R (setObj r o >>= f):=⟨hz,ho,h⟩
theorem yA{r:Nat}{o:Obj}(hz:¬ Z r)(ho:Plain Z o):T P Z (setObj r o):=⟨hz,ho,trivial⟩
theorem Rq{α:Type}(m:String):Bd P Z (stuck m:Sem α):=Dm.bd trivial
theorem Yf(e:TypeId)(b:Bool)(o:Value):T P Z (Instr.alloc e b o):=by
 unfold Instr.alloc
 refine tb (dB _) fun z=>?_
 split
 ·exact tb (yB _ _ _) fun _=>av _
 ·exact tb (yx _ _) fun _=>av _
theorem tp(e:TypeId)(v:Value):T P Z (Instr.box e v):=tb (yx _ _) fun _=>av _
theorem Yi(t:TypeId)(ps:Array (Nat × Value)):T P Z (Instr.build t ps):=by
 unfold Instr.build
 refine tb (dB _) fun z=>tb (cO _) fun d=>?_
 split
 ·refine tb (Uu _ fun f=>tb (bZ _) fun _=>av _) fun places=>?_
  split
  ·exact av _
  ·exact au _
 ·refine tb (bZ _) fun n=>?_
  split
  ·exact av _
  ·exact au _
 ·exact au _
theorem Ew(t:TypeId)(len:Nat)(ps:Array (Nat × Value)):T P Z (Instr.buildSlice t len ps):=by
 unfold Instr.buildSlice
 refine tb (cO _) fun d=>?_
 repeat' with_reducible first
  | exact av _
  | exact au _
  | refine tb (av _) fun _=>?_
  | refine tb (bZ _) fun _=>?_
  | refine tb (dB _) fun _=>?_
  | refine tb (sw _ _) fun _=>?_
  | refine tb (Uy _) fun _=>?_
  | split
  | dsimp only
theorem Us(t:TypeId)(a:Value):T P Z (Instr.loadAt t a):=tb (jV _) fun _=>oK _ _
theorem PN(t:TypeId)(a v:Value):T P Z (Instr.storeAt t a v):=tb (jV _) fun _=>yB _ _ _
theorem Py(s:TypeId)(a:Value)(f:Nat):T P Z (Instr.fieldAt s a f):=by
 unfold Instr.fieldAt
 refine tb (cO _) fun d=>?_
 repeat' with_reducible first
  | exact av _
  | exact au _
  | refine tb (jV _) fun _=>?_
  | refine tb (rY _ _) fun _=>?_
  | split
  | dsimp only
theorem Pz(t:TypeId)(x i:Value):T P Z (Instr.indexAt t x i):=by
 unfold Instr.indexAt
 refine tb (oI _) fun⟨k,i⟩=>tb (cO _) fun d=>?_
 repeat' with_reducible first
  | exact av _
  | exact au _
  | exact uQ _
  | exact kZ _ _ _ _
  | refine tb (av _) fun _=>?_
  | refine tb (au _) fun _=>?_
  | refine tb (jV _) fun _=>?_
  | refine tb (cO _) fun _=>?_
  | refine tb (bZ _) fun _=>?_
  | split
  | dsimp only
theorem Yu(t:TypeId)(x:Value)(l h m:Option Value):T P Z (Instr.slice t x l h m):=by
 unfold Instr.slice
 refine tb (cO _) fun d=>?_
 repeat' with_reducible first
  | exact av _
  | exact au _
  | refine tb (av _) fun _=>?_
  | refine tb (au _) fun _=>?_
  | refine tb (rW _) fun _=>?_
  | refine tb (cO _) fun _=>?_
  | refine tb (bZ _) fun _=>?_
  | refine tb (pW _ _ _ _ _ _) fun _=>?_
  | split
  | dsimp only
theorem PK(t:TypeId)(x:Value)(l h m:Option Value):T P Z (Instr.sliceAt t x l h m):=by
 unfold Instr.sliceAt
 refine tb (cO _) fun d=>?_
 split
 ·exact tb (jV _) fun _=>tb (pW _ _ _ _ _ _) fun _=>tb (bZ _) fun _=>av _
 ·exact Yu _ _ _ _ _
theorem Yn(t:TypeId)(x:Value)(f:Nat):T P Z (Instr.field t x f):=by
 unfold Instr.field
 refine tb (cO _) fun d=>?_
 repeat' with_reducible first
  | exact au _
  | exact gW _ _ _
  | refine tb (Yg _) fun _=>?_
  | split
  | dsimp only
theorem Yo(t:TypeId)(x i:Value):T P Z (Instr.index t x i):=by
 unfold Instr.index
 refine tb (oI _) fun⟨k,i⟩=>tb (cO _) fun d=>?_
 repeat' with_reducible first
  | exact av _
  | exact au _
  | exact gW _ _ _
  | exact kZ _ _ _ _
  | refine tb (bZ _) fun _=>?_
  | split
  | dsimp only
theorem PD(t:TypeId)(r:Option Value):T P Z (Instr.makeMap t r):=by
 unfold Instr.makeMap
 have fin:T P Z (do pure (.map (some (← newObj (.map #[] 0)))):Sem Value):=tb (lT (by trivial)) fun _=>av _
 repeat' with_reducible first
  | exact fin
  | exact av _
  | refine tb (au _) fun _=>?_
  | refine tb (cO _) fun _=>?_
  | refine tb (oH _) fun _=>?_
  | split
  | dsimp only
theorem Ip(t:TypeId)(l c:Value):T P Z (Instr.makeSlice t l c):=by
 unfold Instr.makeSlice
 refine tb (cO _) fun d=>?_
 repeat' with_reducible first
  | exact av _
  | exact au _
  | refine tb (av _) fun _=>?_
  | refine tb (oH _) fun _=>?_
  | refine tb (dJ _) fun _=>?_
  | refine tb (aD _) fun _=>?_
  | refine tb (dQ _) fun _=>?_
  | refine tb (CF _) fun _=>?_
  | refine tb (bZ _) fun _=>?_
  | refine tb (dB _) fun _=>?_
  | refine tb (sw _ _) fun _=>?_
  | split
  | dsimp only
theorem Px(v:Value)(i:Nat):T P Z (Instr.extract v i):=by
 unfold Instr.extract
 split
 ·split
  ·exact av _
  ·exact au _
 ·exact au _
theorem vC(t:TypeId)(x:Value):T P Z (Instr.makeInterface t x):=tb (cO _) fun d=>by
 split
 ·exact au _
 ·exact av _
theorem Tm.ite{α:Type}{Q:α→Prop}{c:Prop}[Decidable c]{a b:Sem α}(h1:Tm P Z Q a)(h2:Tm P Z Q b):Tm P Z Q (if c then a else b):=by
 split
 ·exact h1
 ·exact h2
theorem dK{α:Type}{s:Sem α}(h:Dm P s):Bd P Z s:=h.bd
theorem Yt(t:TypeId)(x:Value):T P Z (Instr.range t x):=by
 unfold Instr.range
 refine tb (cO _) fun d=>?_
 have fin:∀it,Plain Z it→T P Z (do pure (.pointer (some ⟨← newObj it,0,none⟩)):Sem Value):=fun it h=>tb (lT h) fun _=>av _
 split
 ·exact tq (Q:=Plain Z) (by exact trivial) fun it h=>fin it h
 ·exact tq (Q:=Plain Z) (by exact trivial) fun it h=>fin it h
 ·refine bF (fun hz o ho=>?_) fun hz=>dK (by exact trivial)
  split
  ·exact tq (Q:=Plain Z) (by exact trivial) fun it h=>fin it h
  ·exact tq (Q:=Plain Z) (au _) fun it h=>fin it h
 ·exact tq (Q:=Plain Z) (au _) fun it h=>fin it h
theorem gz(it:Value)(s:Bool)(t:TypeId):T P Z (Instr.next it s t):=by
 unfold Instr.next
 dsimp only
 split
 ·rename_i r _
  refine bF (fun hz o ho=>?_) fun hz=>dK (by exact trivial)
  split
  ·split
   ·exact dG hz trivial (av _)
   ·exact av _
  ·exact av _
  ·refine bF (fun hz2 o2 ho2=>?_) fun hz=>dK (by exact trivial)
   have fin:∀ (n:Nat) (c:Array (Option MapEntry)) (m since clock:Nat) (seen:Array Nat),T P Z (match c[n]? with
    | some (some e)=>do
      setObj r (.mapIter (some m) since (seen.push e.born) clock)
      pure (.tuple #[.bool true,e.key,e.val])
    | some none=>pure (.tuple #[.bool false])
    | none=>stuck sQ8:Sem Value):=fun n c m since clock seen=>by
    split
    ·exact dG hz trivial (av _)
    ·exact av _
    ·exact au _
   cases o2 <;> first|exact au _|skip
   dsimp only
   refine Tm.ite ?_ ?_
   ·exact tb (uQ _) fun _=>tb (dQ _) fun n=>fin _ _ _ _ _ _
   ·exact tb (dQ _) fun n=>fin _ _ _ _ _ _
  ·exact au _
 ·exact au _
theorem Ut(hg:P.globals.size=0){t:TypeId}(ht:∀k e,P.underlying t=some (.map k e)→IC P 10000 k=true)(x i:Value)(ok:Bool):T P Z (Instr.lookup t x i ok):=by
 unfold Instr.lookup
 refine tq (bV _) fun d hd=>?_
 cases d with
 | map k e=>
   dsimp only
   have hk:=ht k e hd
   repeat' with_reducible first
    | exact av _
    | exact au _
    | exact Rq _
    | refine tb (av _) fun _=>?_
    | refine tb (au _) fun _=>?_
    | refine tb (jT _ _ _ _) fun _=>?_
    | refine tb (oJ hg hk _ _) fun _=>?_
    | refine tb (dB _) fun _=>?_
    | (refine bF (fun hz o ho=>?_) fun hz=>?_
       rotate_left
       ·with_unfolding_all (refine dK ?_;exact trivial))
    | split
    | dsimp only
 | _=>exact au _
theorem nX(a b:Value):T P Z (Instr.keyThatStays a b):=by
 unfold Instr.keyThatStays
 split
 ·exact av _
 ·exact tb (dQ _) fun _=>av _
theorem uP(hg:P.globals.size=0){t:TypeId}(ht:∀k e,P.underlying t=some (.map k e)→IC P 10000 k=true)(m k v:Value):T P Z (Instr.mapUpdate t m k v):=by
 unfold Instr.mapUpdate
 refine tq (bV _) fun d hd=>?_
 split
 ·rename_i kt e
  split
  ·exact aD _
  ·refine bF (fun hz o ho=>?_) fun hz=>dK (by exact trivial)
   split
   ·refine tb (jT _ _ _ _) fun _=>tb (oJ hg (ht kt e hd) _ _) fun r=>?_
    split
    ·exact tb (nX _ _) fun _=>yA hz trivial
    ·exact yA hz trivial
   ·exact au _
  ·exact au _
 ·exact au _
theorem KO(hg:P.globals.size=0){t:TypeId}(ht:∀k e,P.underlying t=some (.map k e)→IC P 10000 k=true)(m k:Value):T P Z (Instr.mapEntry t m k):=by
 unfold Instr.mapEntry
 refine tq (bV _) fun d hd=>?_
 split
 ·rename_i kt e
  split
  ·exact aD _
  ·refine bF (fun hz o ho=>?_) fun hz=>dK (by exact trivial)
   split
   ·refine tb (jT _ _ _ _) fun _=>tb (oJ hg (ht kt e hd) _ _) fun r=>?_
    split
    ·exact tb (nX _ _) fun _=>dG hz trivial (av _)
    ·exact tb (dB _) fun _=>dG hz trivial (av _)
   ·exact au _
  ·exact au _
 ·exact au _
theorem Ey(t:TypeId)(m s v:Value):T P Z (Instr.entryStore t m s v):=by
 unfold Instr.entryStore
 split
 ·refine bF (fun hz o ho=>?_) fun hz=>dK (by exact trivial)
  split
  ·refine tb (oH _) fun b=>?_
   split
   ·exact yA hz trivial
   ·exact uQ _
  ·exact au _
 ·exact au _
theorem tx(ts:Array TypeId)(t:TypeId)(args:Array Value):T P Z (Builtin.len_ ts t args):=by
 unfold Builtin.len_
 split
 ·refine tb (cO _) fun d=>?_
  split
  ·exact av _
  ·exact av _
  ·refine tb (cO _) fun d=>?_
   split
   ·exact av _
   ·exact au _
  ·exact av _
  ·exact av _
  ·exact av _
  ·refine bF (fun hz o ho=>?_) fun hz=>dK (by exact trivial)
   split
   ·exact av _
   ·exact au _
  ·refine bF (fun hz o ho=>?_) fun hz=>dK (by exact trivial)
   split
   ·exact av _
   ·exact au _
  ·exact au _
 ·exact au _
theorem tt(ts:Array TypeId)(t:TypeId)(args:Array Value):T P Z (Builtin.cap_ ts t args):=by
 unfold Builtin.cap_
 split
 ·refine tb (cO _) fun d=>?_
  split
  ·exact av _
  ·refine tb (cO _) fun d=>?_
   split
   ·exact av _
   ·exact au _
  ·exact av _
  ·exact av _
  ·refine bF (fun hz o ho=>?_) fun hz=>dK (by exact trivial)
   split
   ·exact av _
   ·exact au _
  ·exact au _
 ·exact au _
theorem MQ(v:Value):T P Z (Builtin.lenOf v):=by
 unfold Builtin.lenOf
 split <;> exact trivial
theorem rZ(s n:Nat)(v:Value):T P Z (Builtin.firstCells s n v):=by
 unfold Builtin.firstCells
 split
 ·exact uO _ _
 ·exact av _
 ·exact av _
 ·exact au _
theorem Yl(ts:Array TypeId)(t:TypeId)(args:Array Value):T P Z (Builtin.close_ ts t args):=by
 obtain⟨l⟩:=args
 rcases l with _|⟨a,_|⟨b,l⟩⟩
 ·exact au _
 ·cases a with
  | chan c=>
    cases c with
    | none=>unfold Builtin.close_;exact aD _
    | some r=>
      unfold Builtin.close_
      dsimp only
      refine bF (fun hz o ho=>?_) fun hz=>dK (by exact trivial)
      cases o with
      | chan room buf closed sent received timer=>
        dsimp only
        refine Tm.ite ?_ ?_
        ·exact tb (aD _) fun _=>dG hz trivial (av _)
        ·exact dG hz trivial (av _)
      | _=>exact au _
  | _=>exact au _
 ·exact au _
theorem Um(hg:P.globals.size=0)(ts:Array TypeId)(t:TypeId)(args:Array Value)(ht:∀m k e,ts[0]? =some m→P.underlying m=some (.map k e)→IC P 10000 k=true):T P Z (Builtin.delete_ ts t args):=by
 unfold Builtin.delete_
 cases h0:ts[0]? with
 | none=>exact au _
 | some mt=>
   cases h1:args[0]? with
   | none=>exact au _
   | some m=>
     cases h2:args[1]? with
     | none=>exact au _
     | some k=>
       dsimp only
       refine tq (bV _) fun d hd=>?_
       cases d with
       | map kt e=>
         dsimp only
         have hk:=ht mt kt e h0 hd
         split
         ·exact tb (jT _ _ _ _) fun _=>av _
         ·refine bF (fun hz o ho=>?_) fun hz=>dK (by exact trivial)
          cases o with
          | map es clock=>
            dsimp only
            refine tb (jT _ _ _ _) fun _=>tb (oJ hg hk _ _) fun r=>?_
            split
            ·exact dG hz trivial (av _)
            ·exact dG hz trivial (av _)
          | _=>exact tb (au _) fun _=>av _
         ·exact tb (au _) fun _=>av _
       | _=>exact au _
def Calm(P:Program){α:Type}(s:Sem α):Prop:=∀w es,∃a es',s.runT P w es=(.ok a w,es')
theorem Calm.bind{α β:Type}{s:Sem α}{f:α→Sem β}(h:Calm P s)(hf:∀a,Calm P (f a)):Calm P (s >>= f):=fun w es=>by
 obtain⟨a,es1,e⟩:=h w es
 obtain⟨b,es2,e2⟩:=hf a w es1
 refine⟨b,es2,?_⟩
 show(s.bind f).runT P w es=_
 rw[Sem.runT_bind',e]
 exact e2
theorem Calm.pure{α:Type}(a:α):Calm P (pure a:Sem α):=fun w es=>⟨a,es,rfl⟩
theorem Jq(r:Nat):Calm P (shape r):=fun w es=>⟨w.shape? r,es,rfl⟩
theorem Fu(a:Addr):Calm P (frozen a):=fun w es=>⟨w.frozen? a,es,rfl⟩
theorem wG(a:Addr)(n:Nat):Calm P (Builtin.holdsCells a n):=(Jq _).bind fun x=>by
 split <;> exact Calm.pure _
theorem Calm.bd{α β:Type}{s:Sem α}{f:α→Sem β}(h:Calm P s)(hf:∀a,Dm P (f a)):Bd P Z (s >>= f):=fun w es hl hg=>by
 obtain⟨a,es1,e⟩:=h w es
 have:(s >>= f).runT P w es=(f a).runT P w es1:=by
  show(s.bind f).runT P w es=_
  rw[Sem.runT_bind',e]
 rw[this] at hg
 exact(hf a).run _ _ hg
theorem yw{β:Type}{R:β→Prop}(size sLen n:Nat)(base:Option Addr)(x:Value){g:Bool→Sem β}(h1:∀b,Dm P (g b))(h2:∀b,Tm P Z R (g b)):Tm P Z R (Builtin.mayShare size sLen n base x >>= g):=by
 have calm:Calm P (Builtin.mayShare size sLen n base x):=by
  unfold Builtin.mayShare
  have fin:∀b:Bool,Calm P (if (!b)=true then pure true else
   match x with
   | .slice (some c) _ _=>do pure (!(← Builtin.holdsCells c (n * size)) || base.any (·.block == c.block))
   | _=>pure false:Sem Bool):=fun b=>by
   split
   ·exact Calm.pure _
   ·split
    ·exact(wG _ _).bind fun _=>Calm.pure _
    ·exact Calm.pure _
  cases base with
  | none=>exact(Calm.pure _).bind fin
  | some a=>exact(wG _ _).bind fun _=>(Fu _).bind fun _=>(Calm.pure _).bind fin
 have all:Bd P Z (Builtin.mayShare size sLen n base x >>= g):=calm.bd h1
 cases base with
 | some a=>exact .inl all
 | none=>
   cases x with
   | slice b l c=>
     cases b with
     | some b=>exact .inl all
     | none=>exact h2 _
   | _=>exact h2 _
theorem cU{α β:Type}{R:β→Prop}(e:RuntimeError)(f:α→Sem β):Tm P Z R (runtimePanic e >>= f):=tq (Q:=fun _=>False) (aD e) fun _ h=>h.elim
theorem ou{α β:Type}{R:β→Prop}(m:String)(f:α→Sem β):Tm P Z R (stuck m >>= f):=trivial
theorem cX{α β:Type}{R:β→Prop}(m:String)(f:α→Sem β):Tm P Z R (unsupported (.resourceLimit m) >>= f):=trivial
theorem ot{α β:Type}(u:Unsupported)(f:α→Sem β):Dm P (unsupported u >>= f):=trivial
theorem CR{α:Type}(u:Unsupported):Dm P (unsupported u:Sem α):=trivial
theorem cN{β:Type}(m:Mark){f:Unit→Sem β}(h:Dm P (f ())):Dm P (mark m >>= f):=h
theorem YD{β:Type}{R:β→Prop}{f:Unit→Sem β}(h:Tm P Z R (f ())):Tm P Z R (mark .noRoom >>= f):=⟨rfl,h⟩
theorem Uk(ts:Array TypeId)(t:TypeId)(args:Array Value):T P Z (Builtin.append_ ts t args):=by
 unfold Builtin.append_
 repeat' with_reducible first
  | exact av _
  | exact au _
  | exact cU _ _
  | exact ou _ _
  | exact cX _ _
  | exact ot _ _
  | exact CR _
  | exact Uy _
  | refine cN _ ?_
  | refine YD ?_
  | refine tb (av _) fun _=>?_
  | refine tb (cO _) fun _=>?_
  | refine tb (bZ _) fun _=>?_
  | refine tb (oH _) fun _=>?_
  | refine tb (dJ _) fun _=>?_
  | refine tb (dQ _) fun _=>?_
  | refine tb (CF _) fun _=>?_
  | refine tb (dB _) fun _=>?_
  | refine tb (tb (dB _) fun _=>av _) fun _=>?_
  | refine tb (sw _ _) fun _=>?_
  | refine tb (MQ _) fun _=>?_
  | refine tb (rZ _ _ _) fun _=>?_
  | refine tb (jo _ _ _) fun _=>?_
  | refine Tm.ite ?_ ?_
  | refine yw _ _ _ _ _ (fun b=>?_) (fun b=>?_)
  | refine tq (Q:=fun _=>False) (yw _ _ _ _ _ (fun b=>?_) (fun b=>?_)) fun _ h=>h.elim
  | split
  | dsimp only
theorem gr(ts:Array TypeId)(t:TypeId)(args:Array Value):T P Z (Builtin.copy_ ts t args):=by
 unfold Builtin.copy_
 repeat' with_reducible first
  | exact av _
  | exact au _
  | refine tb (av _) fun _=>?_
  | refine tb (cO _) fun _=>?_
  | refine tb (bZ _) fun _=>?_
  | refine tb (MQ _) fun _=>?_
  | refine tb (rZ _ _ _) fun _=>?_
  | refine tb (jo _ _ _) fun _=>?_
  | split
  | dsimp only
theorem Yk(ts:Array TypeId)(t:TypeId)(args:Array Value):T P Z (Builtin.clear_ ts t args):=by
 unfold Builtin.clear_
 cases h0:ts[0]? with
 | none=>exact au _
 | some mt=>
   cases h1:args[0]? with
   | none=>exact au _
   | some m=>
     dsimp only
     refine tb (cO _) fun d=>?_
     repeat' with_reducible first
      | exact av _
      | exact ou _ _
      | refine tb (av _) fun _=>?_
      | refine tb (dB _) fun _=>?_
      | refine tb (jo _ _ _) fun _=>?_
      | refine dG (by assumption) (by with_unfolding_all exact trivial) ?_
      | (refine bF (fun hz o ho=>?_) fun hz=>?_
         rotate_left
         ·with_unfolding_all (refine dK ?_;exact trivial))
      | split
      | dsimp only
theorem mM(op:BinOp)(k:IntKind)(x y:Int):T P Z (Op.intArith op k x y):=by unfold Op.intArith;split <;> exact trivial
theorem Io(op:BinOp)(k:IntKind)(x y:Int):T P Z (Op.intDiv op k x y):=by
 unfold Op.intDiv
 split
 ·exact aD _
 ·split <;> exact trivial
theorem lS(op:BinOp)(k:IntKind)(x y:Int):T P Z (Op.intBits op k x y):=by unfold Op.intBits;dsimp only;split <;> exact trivial
theorem Uo(op:BinOp)(x y:Int):T P Z (Op.intCmp op x y):=by unfold Op.intCmp;split <;> exact trivial
theorem MR(op:BinOp)(k:IntKind)(x:Int)(yk:IntKind)(y:Int):T P Z (Op.shift op k x yk y):=by
 unfold Op.shift
 split
 ·exact aD _
 ·dsimp only;split <;> exact trivial
theorem qO(op:BinOp)(x y:ByteArray):T P Z (Op.stringOp op x y):=by
 unfold Op.stringOp
 dsimp only
 split
 ·split <;> exact trivial
 all_goals exact trivial
theorem gV(op:BinOp)(k:FloatKind)(x y:Nat):T P Z (Op.floatArith op k x y):=by
 unfold Op.floatArith
 repeat' with_reducible first
  | exact av _
  | exact ou _ _
  | refine tb (av _) fun _=>?_
  | refine tb (dQ _) fun _=>?_
  | split
  | dsimp only
theorem xZ(op:BinOp)(k:FloatKind)(x y:Nat):T P Z (Op.floatCmp op k x y):=by unfold Op.floatCmp;dsimp only;split <;> exact trivial
theorem yh(s:FloatKind)(x:Nat)(d:FloatKind):T P Z (Conv.floatToFloat s x d):=by
 unfold Conv.floatToFloat
 repeat' with_reducible first
  | exact av _
  | exact au _
  | exact ou _ _
  | refine tb (av _) fun _=>?_
  | refine tb (dQ _) fun _=>?_
  | split
  | dsimp only
theorem nW(op:BinOp)(k:FloatKind)(x y:Nat):T P Z (Op.Complex.arith op k x y):=tb (gV _ _ _ _) fun _=>by split <;> exact trivial
theorem Ul(op:BinOp)(k:FloatKind)(x y:Nat):T P Z (Op.Complex.cmp op k x y):=tb (xZ _ _ _ _) fun _=>rX _
theorem Yj(s:FloatKind)(x:Nat)(d:FloatKind):T P Z (Op.Complex.conv s x d):=by
 unfold Op.Complex.conv
 split
 ·exact av _
 ·exact tb (yh _ _ _) fun _=>by split <;> exact trivial
theorem KI(x y:Nat):T P Z (Op.Complex.add x y):=nW _ _ _ _
theorem KJ(x y:Nat):T P Z (Op.Complex.sub x y):=nW _ _ _ _
theorem jU(x y:Nat):T P Z (Op.Complex.mul x y):=nW _ _ _ _
theorem gv(x y:Nat):T P Z (Op.Complex.quo x y):=nW _ _ _ _
theorem PE(a b c d:Nat):T P Z (Op.Complex.product a b c d):=
 tb (jU _ _) fun _=>tb (jU _ _) fun _=>tb (KJ _ _) fun _=>tb (jU _ _) fun _=>tb (jU _ _) fun _=>tb (KI _ _) fun _=>av _
theorem Ii(s a b c d:Nat):T P Z (Op.Complex.corrected s a b c d):=
 tb (jU _ _) fun _=>tb (jU _ _) fun _=>tb (KI _ _) fun _=>tb (jU _ _) fun _=>tb (jU _ _) fun _=>tb (jU _ _) fun _=>tb (KJ _ _) fun _=>tb (jU _ _) fun _=>av _
theorem KQ(a b c d:Nat):T P Z (Op.Complex.quotient a b c d):=by
 unfold Op.Complex.quotient
 dsimp only
 repeat' with_reducible first
  | exact av _
  | exact Ii _ _ _ _ _
  | refine tb (av _) fun _=>?_
  | refine tb (jU _ _) fun _=>?_
  | refine tb (KI _ _) fun _=>?_
  | refine tb (KJ _ _) fun _=>?_
  | refine tb (gv _ _) fun _=>?_
  | refine tb (Ul _ _ _ _) fun _=>?_
  | refine Tm.ite ?_ ?_
  | split
  | dsimp only
theorem Ih(op:BinOp)(k:FloatKind)(a b c d:Nat):T P Z (Op.complexOp op k a b c d):=by
 unfold Op.complexOp
 repeat' with_reducible first
  | exact av _
  | exact au _
  | refine tb (av _) fun _=>?_
  | refine tb (nW _ _ _ _) fun _=>?_
  | refine tb (Yj _ _ _) fun _=>?_
  | refine tb (Ul _ _ _ _) fun _=>?_
  | refine tb (PE _ _ _ _) fun _=>?_
  | refine tb (KQ _ _ _ _) fun _=>?_
  | refine Tm.ite ?_ ?_
  | split
  | dsimp only
theorem Yw(op:UnOp)(x:Value):T P Z (Op.unary op x):=by
 unfold Op.unary
 split
 ·exact mM _ _ _ _
 ·exact lS _ _ _ _
 all_goals exact trivial
theorem gx(x y:Value):T P Z (Builtin.min2 x y):=by
 unfold Builtin.min2
 repeat' with_reducible first
  | exact av _
  | exact au _
  | exact ED
  | refine tb (dQ _) fun _=>?_
  | refine tb (qO _ _ _) fun _=>?_
  | refine tb (rX _) fun _=>?_
  | split
theorem gw(x y:Value):T P Z (Builtin.max2 x y):=by
 unfold Builtin.max2
 repeat' with_reducible first
  | exact av _
  | exact au _
  | exact ED
  | refine tb (dQ _) fun _=>?_
  | refine tb (qO _ _ _) fun _=>?_
  | refine tb (rX _) fun _=>?_
  | split
theorem tA(ts:Array TypeId)(t:TypeId)(args:Array Value):T P Z (Builtin.min_ ts t args):=by
 unfold Builtin.min_
 split
 ·exact au _
 ·exact CG _ (fun b a=>gx b a) _
theorem tz(ts:Array TypeId)(t:TypeId)(args:Array Value):T P Z (Builtin.max_ ts t args):=by
 unfold Builtin.max_
 split
 ·exact au _
 ·exact CG _ (fun b a=>gw b a) _
theorem lQ(l:Nat):Tm P Z (fun r=>¬ Z l∧Z.loop r) (Instr.getLoop l):=by
 unfold Instr.getLoop
 refine bF (fun hz o ho=>?_) fun hz=>dK (by exact trivial)
 split
 ·exact⟨hz,ho⟩
 ·exact trivial
theorem Ij(fn:FuncId)(tmps:Array Value)(ps:Array Tmp)(a b:Code)(r:Option Nat)(ha:Z.jh fn a)(hb:Z.jh fn b):Tm P Z (fun x=>∀d∈x.2,∃c,d.target=.collected c) (Instr.enterLoop fn tmps ps a b r):=by
 unfold Instr.enterLoop
 have hl:∀st d,Z.loop {state:=st,pending:=none,fn:=fn,tmps:=tmps,params:=ps,assign:=a,body:=b,defers:=d }:=fun st d=>⟨ha,hb,fun j e=>by cases e⟩
 cases r with
 | some l=>exact tq (lQ l) fun lp hz=>And.intro (hl _ _) fun _ _=>(by simp:∀d∈([]:List Deferred),∃c,d.target=.collected c)
 | none=>
   refine tb (lT (by exact rfl)) fun r=>?_
   exact And.intro (hl _ _) fun _ _=>(by simp:∀d∈[({target:=.collected r,args:=#[] }:Deferred)],∃c,d.target=.collected c)
theorem Yx(l:Nat)(args:Array Value):Tm P Z (fun n=>∃f tmps a b,n=.round l f tmps a b∧Z.jh f a∧Z.jh f b) (Instr.yield l args):=by
 unfold Instr.yield
 refine tq (lQ l) fun r hr=>?_
 dsimp only
 split
 ·exact trivial
 ·exact⟨_,_,_,_,rfl,hr.2.1,hr.2.2.1⟩
theorem Ev(l:Nat):T P Z (Instr.beginRound l):=by
 unfold Instr.beginRound
 refine tq (lQ l) fun r hz=>dG hz.1 (by exact hz.2) ?_
 split
 ·exact av _
 all_goals exact aD _
theorem KL(l:Nat)(j:Option Code)(hj:∀c f c0,j=some c→Z.jh f c0→Z.jh f c):T P Z (Instr.endRound l j):=by
 unfold Instr.endRound
 exact tq (lQ l) fun r hz=>dG hz.1 ⟨hz.2.1,hz.2.2.1,fun c e=>hj c _ _ e hz.2.1⟩ (av _)
theorem Pq(l:Nat):Tm P Z (fun j=>∀c,j=some c→∃f,Z.jh f c) (Instr.endLoop l):=by
 unfold Instr.endLoop
 refine tq (lQ l) fun r hz=>?_
 dsimp only
 refine Tm.ite ?_ ?_
 ·exact cU _ _
 ·exact dG hz.1 (by exact hz.2) (jq fun c e=>⟨_,hz.2.2.2 c e⟩)
theorem yD(b:Nat):Tm P Z (fun ds=>ds=[]) (Instr.takeDeferred b):=by
 unfold Instr.takeDeferred
 refine bF (fun hz o ho=>?_) fun hz=>dK (by exact trivial)
 split
 ·exact dG hz trivial (jq ho)
 ·exact au _
theorem PI(fn:Func)(tmps:Array Value):T P Z (results fn tmps):=by
 unfold results
 refine tb (Uu _ fun r=>?_) fun vs=>av _
 split
 ·exact av _
 ·exact tb (rW _) fun _=>oK _ _
end
end Go.dS
