/- Far4 Far5 Far6 Far7 Far8 Far9 -/
import Derived.Test.YtmjjocnfidnelaaGreatB6
import Derived.Fence
set_option maxRecDepth 100000
set_option maxHeartbeats 16000000
set_option linter.unusedVariables false
set_option linter.unusedSectionVars false
namespace Go.dU
section
variable{P:Program}{Z:Env}
theorem bI{β:Type}{R:β→Prop}{r:Nat}{f:Obj→Sem β}(h1:¬ Z r→∀o,Plain Z o→Tm P Z R (f o))(h2:Z r→Bd P Z (f (X0 r))):Tm P Z R (getObj r >>= f):=⟨h1,h2⟩
theorem dF{β:Type}{R:β→Prop}{r:Nat}{o:Obj}{f:Unit→Sem β}(hz:¬ Z r)(ho:Plain Z o)(h:Tm P Z R (f ())):Tm P Z R (setObj r o >>= f):=⟨hz,ho,h⟩
theorem Aa{r:Nat}{o:Obj}(hz:¬ Z r)(ho:Plain Z o):T P Z (setObj r o):=⟨hz,ho,trivial⟩
theorem RJ{α:Type}(m:String):Bd P Z (stuck m:Sem α):=Dm.bd trivial
theorem YI(e:TypeId)(b:Bool)(o:Value):T P Z (Instr.alloc e b o):=by
 unfold Instr.alloc
 refine tb (dB _) fun z=>?_
 split
 ·exact tb (Ab _ _ _) fun _=>av _
 ·exact tb (yZ _ _) fun _=>av _
theorem vi(e:TypeId)(v:Value):T P Z (Instr.box e v):=tb (yZ _ _) fun _=>av _
theorem YL(t:TypeId)(ps:Array (Nat × Value)):T P Z (Instr.build t ps):=by
 unfold Instr.build
 refine tb (dB _) fun z=>tb (cO _) fun d=>?_
 split
 ·refine tb (UY _ fun f=>tb (cu _) fun _=>av _) fun places=>?_
  split
  ·exact av _
  ·exact aj _
 ·refine tb (cu _) fun n=>?_
  split
  ·exact av _
  ·exact aj _
 ·exact aj _
theorem EH(t:TypeId)(len:Nat)(ps:Array (Nat × Value)):T P Z (Instr.buildSlice t len ps):=by
 unfold Instr.buildSlice
 refine tb (cO _) fun d=>?_
 repeat' with_reducible first
  | exact av _
  | exact aj _
  | refine tb (av _) fun _=>?_
  | refine tb (cu _) fun _=>?_
  | refine tb (dB _) fun _=>?_
  | refine tb (sP _ _) fun _=>?_
  | refine tb (Vd _) fun _=>?_
  | split
  | dsimp only
theorem UU(t:TypeId)(a:Value):T P Z (Instr.loadAt t a):=tb (jX _) fun _=>oQ _ _
theorem Qe(t:TypeId)(a v:Value):T P Z (Instr.storeAt t a v):=tb (jX _) fun _=>Ab _ _ _
theorem P6(s:TypeId)(a:Value)(f:Nat):T P Z (Instr.fieldAt s a f):=by
 unfold Instr.fieldAt
 refine tb (cO _) fun d=>?_
 repeat' with_reducible first
  | exact av _
  | exact aj _
  | refine tb (jX _) fun _=>?_
  | refine tb (sN _ _) fun _=>?_
  | split
  | dsimp only
theorem P7(t:TypeId)(x i:Value):T P Z (Instr.indexAt t x i):=by
 unfold Instr.indexAt
 refine tb (oN _) fun⟨k,i⟩=>tb (cO _) fun d=>?_
 repeat' with_reducible first
  | exact av _
  | exact aj _
  | exact vH _
  | exact lG _ _ _ _
  | refine tb (av _) fun _=>?_
  | refine tb (aj _) fun _=>?_
  | refine tb (jX _) fun _=>?_
  | refine tb (cO _) fun _=>?_
  | refine tb (cu _) fun _=>?_
  | split
  | dsimp only
theorem YX(t:TypeId)(x:Value)(l h m:Option Value):T P Z (Instr.slice t x l h m):=by
 unfold Instr.slice
 refine tb (cO _) fun d=>?_
 repeat' with_reducible first
  | exact av _
  | exact aj _
  | refine tb (av _) fun _=>?_
  | refine tb (aj _) fun _=>?_
  | refine tb (sK _) fun _=>?_
  | refine tb (cO _) fun _=>?_
  | refine tb (cu _) fun _=>?_
  | refine tb (qo _ _ _ _ _ _) fun _=>?_
  | split
  | dsimp only
theorem Qc(t:TypeId)(x:Value)(l h m:Option Value):T P Z (Instr.sliceAt t x l h m):=by
 unfold Instr.sliceAt
 refine tb (cO _) fun d=>?_
 split
 ·exact tb (jX _) fun _=>tb (qo _ _ _ _ _ _) fun _=>tb (cu _) fun _=>av _
 ·exact YX _ _ _ _ _
theorem YQ(t:TypeId)(x:Value)(f:Nat):T P Z (Instr.field t x f):=by
 unfold Instr.field
 refine tb (cO _) fun d=>?_
 repeat' with_reducible first
  | exact aj _
  | exact gX _ _ _
  | refine tb (YJ _) fun _=>?_
  | split
  | dsimp only
theorem YR(t:TypeId)(x i:Value):T P Z (Instr.index t x i):=by
 unfold Instr.index
 refine tb (oN _) fun⟨k,i⟩=>tb (cO _) fun d=>?_
 repeat' with_reducible first
  | exact av _
  | exact aj _
  | exact gX _ _ _
  | exact lG _ _ _ _
  | refine tb (cu _) fun _=>?_
  | split
  | dsimp only
theorem P8(t:TypeId)(r:Option Value):T P Z (Instr.makeMap t r):=by
 unfold Instr.makeMap
 have fin:T P Z (do pure (.map (some (← newObj (.map #[] 0)))):Sem Value):=tb (l9 (by trivial)) fun _=>av _
 repeat' with_reducible first
  | exact fin
  | exact av _
  | refine tb (aj _) fun _=>?_
  | refine tb (cO _) fun _=>?_
  | refine tb (oM _) fun _=>?_
  | split
  | dsimp only
theorem IE(t:TypeId)(l c:Value):T P Z (Instr.makeSlice t l c):=by
 unfold Instr.makeSlice
 refine tb (cO _) fun d=>?_
 repeat' with_reducible first
  | exact av _
  | exact aj _
  | refine tb (av _) fun _=>?_
  | refine tb (oM _) fun _=>?_
  | refine tb (dK _) fun _=>?_
  | refine tb (aB _) fun _=>?_
  | refine tb (dR _) fun _=>?_
  | refine tb (Da _) fun _=>?_
  | refine tb (cu _) fun _=>?_
  | refine tb (dB _) fun _=>?_
  | refine tb (sP _ _) fun _=>?_
  | split
  | dsimp only
theorem P5(v:Value)(i:Nat):T P Z (Instr.extract v i):=by
 unfold Instr.extract
 split
 ·split
  ·exact av _
  ·exact aj _
 ·exact aj _
theorem vW(t:TypeId)(x:Value):T P Z (Instr.makeInterface t x):=tb (cO _) fun d=>by
 split
 ·exact aj _
 ·exact av _
theorem Tm.ite{α:Type}{Q:α→Prop}{c:Prop}[Decidable c]{a b:Sem α}(h1:Tm P Z Q a)(h2:Tm P Z Q b):Tm P Z Q (if c then a else b):=by
 split
 ·exact h1
 ·exact h2
theorem dO{α:Type}{s:Sem α}(h:Dm P s):Bd P Z s:=h.bd
theorem YV(t:TypeId)(x:Value):T P Z (Instr.range t x):=by
 unfold Instr.range
 refine tb (cO _) fun d=>?_
 have fin:∀it,Plain Z it→T P Z (do pure (.pointer (some ⟨← newObj it,0,none⟩)):Sem Value):=fun it h=>tb (l9 h) fun _=>av _
 split
 ·exact tq (Q:=Plain Z) (by exact trivial) fun it h=>fin it h
 ·exact tq (Q:=Plain Z) (by exact trivial) fun it h=>fin it h
 ·refine bI (fun hz o ho=>?_) fun hz=>dO (by exact trivial)
  split
  ·exact tq (Q:=Plain Z) (by exact trivial) fun it h=>fin it h
  ·exact tq (Q:=Plain Z) (aj _) fun it h=>fin it h
 ·exact tq (Q:=Plain Z) (aj _) fun it h=>fin it h
theorem kh(it:Value)(s:Bool)(t:TypeId):T P Z (Instr.next it s t):=by
 unfold Instr.next
 dsimp only
 split
 ·rename_i r _
  refine bI (fun hz o ho=>?_) fun hz=>dO (by exact trivial)
  split
  ·split
   ·exact dF hz trivial (av _)
   ·exact av _
  ·exact av _
  ·refine bI (fun hz2 o2 ho2=>?_) fun hz=>dO (by exact trivial)
   have fin:∀ (n:Nat) (c:Array (Option MapEntry)) (m since clock:Nat) (seen:Array Nat),T P Z (match c[n]? with
    | some (some e)=>do
      setObj r (.mapIter (some m) since (seen.push e.born) clock)
      pure (.tuple #[.bool true,e.key,e.val])
    | some none=>pure (.tuple #[.bool false])
    | none=>stuck sQ8:Sem Value):=fun n c m since clock seen=>by
    split
    ·exact dF hz trivial (av _)
    ·exact av _
    ·exact aj _
   cases o2 <;> first|exact aj _|skip
   dsimp only
   refine Tm.ite ?_ ?_
   ·exact tb (vH _) fun _=>tb (dR _) fun n=>fin _ _ _ _ _ _
   ·exact tb (dR _) fun n=>fin _ _ _ _ _ _
  ·exact aj _
 ·exact aj _
theorem UW(hg:P.globals.size=0){t:TypeId}(ht:∀k e,P.underlying t=some (.map k e)→IX P 10000 k=true)(x i:Value)(ok:Bool):T P Z (Instr.lookup t x i ok):=by
 unfold Instr.lookup
 refine tq (bT _) fun d hd=>?_
 cases d with
 | map k e=>
   dsimp only
   have hk:=ht k e hd
   repeat' with_reducible first
    | exact av _
    | exact aj _
    | exact RJ _
    | refine tb (av _) fun _=>?_
    | refine tb (aj _) fun _=>?_
    | refine tb (jV _ _ _ _) fun _=>?_
    | refine tb (oP hg hk _ _) fun _=>?_
    | refine tb (dB _) fun _=>?_
    | (refine bI (fun hz o ho=>?_) fun hz=>?_
       rotate_left
       ·with_unfolding_all (refine dO ?_;exact trivial))
    | split
    | dsimp only
 | _=>exact aj _
theorem ou(a b:Value):T P Z (Instr.keyThatStays a b):=by
 unfold Instr.keyThatStays
 split
 ·exact av _
 ·exact tb (dR _) fun _=>av _
theorem vG(hg:P.globals.size=0){t:TypeId}(ht:∀k e,P.underlying t=some (.map k e)→IX P 10000 k=true)(m k v:Value):T P Z (Instr.mapUpdate t m k v):=by
 unfold Instr.mapUpdate
 refine tq (bT _) fun d hd=>?_
 split
 ·rename_i kt e
  split
  ·exact aB _
  ·refine bI (fun hz o ho=>?_) fun hz=>dO (by exact trivial)
   split
   ·refine tb (jV _ _ _ _) fun _=>tb (oP hg (ht kt e hd) _ _) fun r=>?_
    split
    ·exact tb (ou _ _) fun _=>Aa hz trivial
    ·exact Aa hz trivial
   ·exact aj _
  ·exact aj _
 ·exact aj _
theorem Lh(hg:P.globals.size=0){t:TypeId}(ht:∀k e,P.underlying t=some (.map k e)→IX P 10000 k=true)(m k:Value):T P Z (Instr.mapEntry t m k):=by
 unfold Instr.mapEntry
 refine tq (bT _) fun d hd=>?_
 split
 ·rename_i kt e
  split
  ·exact aB _
  ·refine bI (fun hz o ho=>?_) fun hz=>dO (by exact trivial)
   split
   ·refine tb (jV _ _ _ _) fun _=>tb (oP hg (ht kt e hd) _ _) fun r=>?_
    split
    ·exact tb (ou _ _) fun _=>dF hz trivial (av _)
    ·exact tb (dB _) fun _=>dF hz trivial (av _)
   ·exact aj _
  ·exact aj _
 ·exact aj _
theorem EI(t:TypeId)(m s v:Value):T P Z (Instr.entryStore t m s v):=by
 unfold Instr.entryStore
 split
 ·refine bI (fun hz o ho=>?_) fun hz=>dO (by exact trivial)
  split
  ·refine tb (oM _) fun b=>?_
   split
   ·exact Aa hz trivial
   ·exact vH _
  ·exact aj _
 ·exact aj _
theorem vm(ts:Array TypeId)(t:TypeId)(args:Array Value):T P Z (Builtin.len_ ts t args):=by
 unfold Builtin.len_
 split
 ·refine tb (cO _) fun d=>?_
  split
  ·exact av _
  ·exact av _
  ·refine tb (cO _) fun d=>?_
   split
   ·exact av _
   ·exact aj _
  ·exact av _
  ·exact av _
  ·exact av _
  ·refine bI (fun hz o ho=>?_) fun hz=>dO (by exact trivial)
   split
   ·exact av _
   ·exact aj _
  ·refine bI (fun hz o ho=>?_) fun hz=>dO (by exact trivial)
   split
   ·exact av _
   ·exact aj _
  ·exact aj _
 ·exact aj _
theorem vj(ts:Array TypeId)(t:TypeId)(args:Array Value):T P Z (Builtin.cap_ ts t args):=by
 unfold Builtin.cap_
 split
 ·refine tb (cO _) fun d=>?_
  split
  ·exact av _
  ·refine tb (cO _) fun d=>?_
   split
   ·exact av _
   ·exact aj _
  ·exact av _
  ·exact av _
  ·refine bI (fun hz o ho=>?_) fun hz=>dO (by exact trivial)
   split
   ·exact av _
   ·exact aj _
  ·exact aj _
 ·exact aj _
theorem Nj(v:Value):T P Z (Builtin.lenOf v):=by
 unfold Builtin.lenOf
 split <;> exact trivial
theorem sO(s n:Nat)(v:Value):T P Z (Builtin.firstCells s n v):=by
 unfold Builtin.firstCells
 split
 ·exact vF _ _
 ·exact av _
 ·exact av _
 ·exact aj _
theorem YO(ts:Array TypeId)(t:TypeId)(args:Array Value):T P Z (Builtin.close_ ts t args):=by
 obtain⟨l⟩:=args
 rcases l with _|⟨a,_|⟨b,l⟩⟩
 ·exact aj _
 ·cases a with
  | chan c=>
    cases c with
    | none=>unfold Builtin.close_;exact aB _
    | some r=>
      unfold Builtin.close_
      dsimp only
      refine bI (fun hz o ho=>?_) fun hz=>dO (by exact trivial)
      cases o with
      | chan room buf closed sent received timer=>
        dsimp only
        refine Tm.ite ?_ ?_
        ·exact tb (aB _) fun _=>dF hz trivial (av _)
        ·exact dF hz trivial (av _)
      | _=>exact aj _
  | _=>exact aj _
 ·exact aj _
theorem UM(hg:P.globals.size=0)(ts:Array TypeId)(t:TypeId)(args:Array Value)(ht:∀m k e,ts[0]? =some m→P.underlying m=some (.map k e)→IX P 10000 k=true):T P Z (Builtin.delete_ ts t args):=by
 unfold Builtin.delete_
 cases h0:ts[0]? with
 | none=>exact aj _
 | some mt=>
   cases h1:args[0]? with
   | none=>exact aj _
   | some m=>
     cases h2:args[1]? with
     | none=>exact aj _
     | some k=>
       dsimp only
       refine tq (bT _) fun d hd=>?_
       cases d with
       | map kt e=>
         dsimp only
         have hk:=ht mt kt e h0 hd
         split
         ·exact tb (jV _ _ _ _) fun _=>av _
         ·refine bI (fun hz o ho=>?_) fun hz=>dO (by exact trivial)
          cases o with
          | map es clock=>
            dsimp only
            refine tb (jV _ _ _ _) fun _=>tb (oP hg hk _ _) fun r=>?_
            split
            ·exact dF hz trivial (av _)
            ·exact dF hz trivial (av _)
          | _=>exact tb (aj _) fun _=>av _
         ·exact tb (aj _) fun _=>av _
       | _=>exact aj _
def Calm(P:Program){α:Type}(s:Sem α):Prop:=∀w es,∃a es',s.runT P w es=(.ok a w,es')
theorem Calm.bind{α β:Type}{s:Sem α}{f:α→Sem β}(h:Calm P s)(hf:∀a,Calm P (f a)):Calm P (s >>= f):=fun w es=>by
 obtain⟨a,es1,e⟩:=h w es
 obtain⟨b,es2,e2⟩:=hf a w es1
 refine⟨b,es2,?_⟩
 show(s.bind f).runT P w es=_
 rw[Sem.runT_bind',e]
 exact e2
theorem Calm.pure{α:Type}(a:α):Calm P (pure a:Sem α):=fun w es=>⟨a,es,rfl⟩
theorem Jz(r:Nat):Calm P (shape r):=fun w es=>⟨w.shape? r,es,rfl⟩
theorem FH(a:Addr):Calm P (frozen a):=fun w es=>⟨w.frozen? a,es,rfl⟩
theorem xq(a:Addr)(n:Nat):Calm P (Builtin.holdsCells a n):=(Jz _).bind fun x=>by
 split <;> exact Calm.pure _
theorem Calm.bd{α β:Type}{s:Sem α}{f:α→Sem β}(h:Calm P s)(hf:∀a,Dm P (f a)):Bd P Z (s >>= f):=fun w es hl hg=>by
 obtain⟨a,es1,e⟩:=h w es
 have:(s >>= f).runT P w es=(f a).runT P w es1:=by
  show(s.bind f).runT P w es=_
  rw[Sem.runT_bind',e]
 rw[this] at hg
 exact(hf a).run _ _ hg
theorem yY{β:Type}{R:β→Prop}(size sLen n:Nat)(base:Option Addr)(x:Value){g:Bool→Sem β}(h1:∀b,Dm P (g b))(h2:∀b,Tm P Z R (g b)):Tm P Z R (Builtin.mayShare size sLen n base x >>= g):=by
 have calm:Calm P (Builtin.mayShare size sLen n base x):=by
  unfold Builtin.mayShare
  have fin:∀b:Bool,Calm P (if (!b)=true then pure true else
   match x with
   | .slice (some c) _ _=>do pure (!(← Builtin.holdsCells c (n * size)) || base.any (·.block == c.block))
   | _=>pure false:Sem Bool):=fun b=>by
   split
   ·exact Calm.pure _
   ·split
    ·exact(xq _ _).bind fun _=>Calm.pure _
    ·exact Calm.pure _
  cases base with
  | none=>exact(Calm.pure _).bind fin
  | some a=>exact(xq _ _).bind fun _=>(FH _).bind fun _=>(Calm.pure _).bind fin
 have all:Bd P Z (Builtin.mayShare size sLen n base x >>= g):=calm.bd h1
 cases base with
 | some a=>exact .inl all
 | none=>
   cases x with
   | slice b l c=>
     cases b with
     | some b=>exact .inl all
     | none=>exact h2 _
   | _=>exact h2 _
theorem eJ{α β:Type}{R:β→Prop}(e:RuntimeError)(f:α→Sem β):Tm P Z R (runtimePanic e >>= f):=tq (Q:=fun _=>False) (aB e) fun _ h=>h.elim
theorem oG{α β:Type}{R:β→Prop}(m:String)(f:α→Sem β):Tm P Z R (stuck m >>= f):=trivial
theorem eK{α β:Type}{R:β→Prop}(m:String)(f:α→Sem β):Tm P Z R (unsupported (.resourceLimit m) >>= f):=trivial
theorem pS{α β:Type}(u:Unsupported)(f:α→Sem β):Dm P (unsupported u >>= f):=trivial
theorem Hi{α:Type}(u:Unsupported):Dm P (unsupported u:Sem α):=trivial
theorem eC{β:Type}(m:Mark){f:Unit→Sem β}(h:Dm P (f ())):Dm P (mark m >>= f):=h
theorem Zg{β:Type}{R:β→Prop}{f:Unit→Sem β}(h:Tm P Z R (f ())):Tm P Z R (mark .noRoom >>= f):=⟨rfl,h⟩
theorem UK(ts:Array TypeId)(t:TypeId)(args:Array Value):T P Z (Builtin.append_ ts t args):=by
 unfold Builtin.append_
 repeat' with_reducible first
  | exact av _
  | exact aj _
  | exact eJ _ _
  | exact oG _ _
  | exact eK _ _
  | exact pS _ _
  | exact Hi _
  | exact Vd _
  | refine eC _ ?_
  | refine Zg ?_
  | refine tb (av _) fun _=>?_
  | refine tb (cO _) fun _=>?_
  | refine tb (cu _) fun _=>?_
  | refine tb (oM _) fun _=>?_
  | refine tb (dK _) fun _=>?_
  | refine tb (dR _) fun _=>?_
  | refine tb (Da _) fun _=>?_
  | refine tb (dB _) fun _=>?_
  | refine tb (tb (dB _) fun _=>av _) fun _=>?_
  | refine tb (sP _ _) fun _=>?_
  | refine tb (Nj _) fun _=>?_
  | refine tb (sO _ _ _) fun _=>?_
  | refine tb (jm _ _ _) fun _=>?_
  | refine Tm.ite ?_ ?_
  | refine yY _ _ _ _ _ (fun b=>?_) (fun b=>?_)
  | refine tq (Q:=fun _=>False) (yY _ _ _ _ _ (fun b=>?_) (fun b=>?_)) fun _ h=>h.elim
  | split
  | dsimp only
theorem js(ts:Array TypeId)(t:TypeId)(args:Array Value):T P Z (Builtin.copy_ ts t args):=by
 unfold Builtin.copy_
 repeat' with_reducible first
  | exact av _
  | exact aj _
  | refine tb (av _) fun _=>?_
  | refine tb (cO _) fun _=>?_
  | refine tb (cu _) fun _=>?_
  | refine tb (Nj _) fun _=>?_
  | refine tb (sO _ _ _) fun _=>?_
  | refine tb (jm _ _ _) fun _=>?_
  | split
  | dsimp only
theorem YN(ts:Array TypeId)(t:TypeId)(args:Array Value):T P Z (Builtin.clear_ ts t args):=by
 unfold Builtin.clear_
 cases h0:ts[0]? with
 | none=>exact aj _
 | some mt=>
   cases h1:args[0]? with
   | none=>exact aj _
   | some m=>
     dsimp only
     refine tb (cO _) fun d=>?_
     repeat' with_reducible first
      | exact av _
      | exact oG _ _
      | refine tb (av _) fun _=>?_
      | refine tb (dB _) fun _=>?_
      | refine tb (jm _ _ _) fun _=>?_
      | refine dF (by assumption) (by with_unfolding_all exact trivial) ?_
      | (refine bI (fun hz o ho=>?_) fun hz=>?_
         rotate_left
         ·with_unfolding_all (refine dO ?_;exact trivial))
      | split
      | dsimp only
theorem mY(op:BinOp)(k:IntKind)(x y:Int):T P Z (Op.intArith op k x y):=by unfold Op.intArith;split <;> exact trivial
theorem IC(op:BinOp)(k:IntKind)(x y:Int):T P Z (Op.intDiv op k x y):=by
 unfold Op.intDiv
 split
 ·exact aB _
 ·split <;> exact trivial
theorem l8(op:BinOp)(k:IntKind)(x y:Int):T P Z (Op.intBits op k x y):=by unfold Op.intBits;dsimp only;split <;> exact trivial
theorem UO(op:BinOp)(x y:Int):T P Z (Op.intCmp op x y):=by unfold Op.intCmp;split <;> exact trivial
theorem Nk(op:BinOp)(k:IntKind)(x:Int)(yk:IntKind)(y:Int):T P Z (Op.shift op k x yk y):=by
 unfold Op.shift
 split
 ·exact aB _
 ·dsimp only;split <;> exact trivial
theorem ru(op:BinOp)(x y:ByteArray):T P Z (Op.stringOp op x y):=by
 unfold Op.stringOp
 dsimp only
 split
 ·split <;> exact trivial
 all_goals exact trivial
theorem gW(op:BinOp)(k:FloatKind)(x y:Nat):T P Z (Op.floatArith op k x y):=by
 unfold Op.floatArith
 repeat' with_reducible first
  | exact av _
  | exact oG _ _
  | refine tb (av _) fun _=>?_
  | refine tb (dR _) fun _=>?_
  | split
  | dsimp only
theorem yS(op:BinOp)(k:FloatKind)(x y:Nat):T P Z (Op.floatCmp op k x y):=by unfold Op.floatCmp;dsimp only;split <;> exact trivial
theorem yT(s:FloatKind)(x:Nat)(d:FloatKind):T P Z (Conv.floatToFloat s x d):=by
 unfold Conv.floatToFloat
 repeat' with_reducible first
  | exact av _
  | exact aj _
  | exact oG _ _
  | refine tb (av _) fun _=>?_
  | refine tb (dR _) fun _=>?_
  | split
  | dsimp only
theorem oq(op:BinOp)(k:FloatKind)(x y:Nat):T P Z (Op.Complex.arith op k x y):=tb (gW _ _ _ _) fun _=>by split <;> exact trivial
theorem UL(op:BinOp)(k:FloatKind)(x y:Nat):T P Z (Op.Complex.cmp op k x y):=tb (yS _ _ _ _) fun _=>sM _
theorem YM(s:FloatKind)(x:Nat)(d:FloatKind):T P Z (Op.Complex.conv s x d):=by
 unfold Op.Complex.conv
 split
 ·exact av _
 ·exact tb (yT _ _ _) fun _=>by split <;> exact trivial
theorem Lb(x y:Nat):T P Z (Op.Complex.add x y):=oq _ _ _ _
theorem Ld(x y:Nat):T P Z (Op.Complex.sub x y):=oq _ _ _ _
theorem jW(x y:Nat):T P Z (Op.Complex.mul x y):=oq _ _ _ _
theorem ju(x y:Nat):T P Z (Op.Complex.quo x y):=oq _ _ _ _
theorem P9(a b c d:Nat):T P Z (Op.Complex.product a b c d):=
 tb (jW _ _) fun _=>tb (jW _ _) fun _=>tb (Ld _ _) fun _=>tb (jW _ _) fun _=>tb (jW _ _) fun _=>tb (Lb _ _) fun _=>av _
theorem Iu(s a b c d:Nat):T P Z (Op.Complex.corrected s a b c d):=
 tb (jW _ _) fun _=>tb (jW _ _) fun _=>tb (Lb _ _) fun _=>tb (jW _ _) fun _=>tb (jW _ _) fun _=>tb (jW _ _) fun _=>tb (Ld _ _) fun _=>tb (jW _ _) fun _=>av _
theorem Lj(a b c d:Nat):T P Z (Op.Complex.quotient a b c d):=by
 unfold Op.Complex.quotient
 dsimp only
 repeat' with_reducible first
  | exact av _
  | exact Iu _ _ _ _ _
  | refine tb (av _) fun _=>?_
  | refine tb (jW _ _) fun _=>?_
  | refine tb (Lb _ _) fun _=>?_
  | refine tb (Ld _ _) fun _=>?_
  | refine tb (ju _ _) fun _=>?_
  | refine tb (UL _ _ _ _) fun _=>?_
  | refine Tm.ite ?_ ?_
  | split
  | dsimp only
theorem Ir(op:BinOp)(k:FloatKind)(a b c d:Nat):T P Z (Op.complexOp op k a b c d):=by
 unfold Op.complexOp
 repeat' with_reducible first
  | exact av _
  | exact aj _
  | refine tb (av _) fun _=>?_
  | refine tb (oq _ _ _ _) fun _=>?_
  | refine tb (YM _ _ _) fun _=>?_
  | refine tb (UL _ _ _ _) fun _=>?_
  | refine tb (P9 _ _ _ _) fun _=>?_
  | refine tb (Lj _ _ _ _) fun _=>?_
  | refine Tm.ite ?_ ?_
  | split
  | dsimp only
theorem Za(op:UnOp)(x:Value):T P Z (Op.unary op x):=by
 unfold Op.unary
 split
 ·exact mY _ _ _ _
 ·exact l8 _ _ _ _
 all_goals exact trivial
theorem jz(x y:Value):T P Z (Builtin.min2 x y):=by
 unfold Builtin.min2
 repeat' with_reducible first
  | exact av _
  | exact aj _
  | exact EN
  | refine tb (dR _) fun _=>?_
  | refine tb (ru _ _ _) fun _=>?_
  | refine tb (sM _) fun _=>?_
  | split
theorem jx(x y:Value):T P Z (Builtin.max2 x y):=by
 unfold Builtin.max2
 repeat' with_reducible first
  | exact av _
  | exact aj _
  | exact EN
  | refine tb (dR _) fun _=>?_
  | refine tb (ru _ _ _) fun _=>?_
  | refine tb (sM _) fun _=>?_
  | split
theorem vq(ts:Array TypeId)(t:TypeId)(args:Array Value):T P Z (Builtin.min_ ts t args):=by
 unfold Builtin.min_
 split
 ·exact aj _
 ·exact Db _ (fun b a=>jz b a) _
theorem vn(ts:Array TypeId)(t:TypeId)(args:Array Value):T P Z (Builtin.max_ ts t args):=by
 unfold Builtin.max_
 split
 ·exact aj _
 ·exact Db _ (fun b a=>jx b a) _
theorem lZ(l:Nat):Tm P Z (fun r=>¬ Z l∧Z.loop r) (Instr.getLoop l):=by
 unfold Instr.getLoop
 refine bI (fun hz o ho=>?_) fun hz=>dO (by exact trivial)
 split
 ·exact⟨hz,ho⟩
 ·exact trivial
theorem Iw(fn:FuncId)(tmps:Array Value)(ps:Array Tmp)(a b:Code)(r:Option Nat)(ha:Z.jf fn a)(hb:Z.jf fn b):Tm P Z (fun x=>∀d∈x.2,∃c,d.target=.collected c) (Instr.enterLoop fn tmps ps a b r):=by
 unfold Instr.enterLoop
 have hl:∀st d,Z.loop {state:=st,pending:=none,fn:=fn,tmps:=tmps,params:=ps,assign:=a,body:=b,defers:=d }:=fun st d=>⟨ha,hb,fun j e=>by cases e⟩
 cases r with
 | some l=>exact tq (lZ l) fun lp hz=>And.intro (hl _ _) fun _ _=>(by simp:∀d∈([]:List Deferred),∃c,d.target=.collected c)
 | none=>
   refine tb (l9 (by exact rfl)) fun r=>?_
   exact And.intro (hl _ _) fun _ _=>(by simp:∀d∈[({target:=.collected r,args:=#[] }:Deferred)],∃c,d.target=.collected c)
theorem Zb(l:Nat)(args:Array Value):Tm P Z (fun n=>∃f tmps a b,n=.round l f tmps a b∧Z.jf f a∧Z.jf f b) (Instr.yield l args):=by
 unfold Instr.yield
 refine tq (lZ l) fun r hr=>?_
 dsimp only
 split
 ·exact trivial
 ·exact⟨_,_,_,_,rfl,hr.2.1,hr.2.2.1⟩
theorem EG(l:Nat):T P Z (Instr.beginRound l):=by
 unfold Instr.beginRound
 refine tq (lZ l) fun r hz=>dF hz.1 (by exact hz.2) ?_
 split
 ·exact av _
 all_goals exact aB _
theorem Lf(l:Nat)(j:Option Code)(hj:∀c f c0,j=some c→Z.jf f c0→Z.jf f c):T P Z (Instr.endRound l j):=by
 unfold Instr.endRound
 exact tq (lZ l) fun r hz=>dF hz.1 ⟨hz.2.1,hz.2.2.1,fun c e=>hj c _ _ e hz.2.1⟩ (av _)
theorem PX(l:Nat):Tm P Z (fun j=>∀c,j=some c→∃f,Z.jf f c) (Instr.endLoop l):=by
 unfold Instr.endLoop
 refine tq (lZ l) fun r hz=>?_
 dsimp only
 refine Tm.ite ?_ ?_
 ·exact eJ _ _
 ·exact dF hz.1 (by exact hz.2) (jo fun c e=>⟨_,hz.2.2.2 c e⟩)
theorem Ac(b:Nat):Tm P Z (fun ds=>ds=[]) (Instr.takeDeferred b):=by
 unfold Instr.takeDeferred
 refine bI (fun hz o ho=>?_) fun hz=>dO (by exact trivial)
 split
 ·exact dF hz trivial (jo ho)
 ·exact aj _
theorem Qb(fn:Func)(tmps:Array Value):T P Z (results fn tmps):=by
 unfold results
 refine tb (UY _ fun r=>?_) fun vs=>av _
 split
 ·exact av _
 ·exact tb (sK _) fun _=>oQ _ _
theorem FD{n:Addr}(h:Z n.block){w:World}(hl:Lv Z w)(es:Array Event):(behindNumber n).runT P w es=(.ok (n,false) w,es.push ⟨.obj n.block,false,false⟩):=by
 have e1:w.shape? n.block=none:=by simp[World.shape?,hl.dead _ h,X0]
 simp[behindNumber,numberAt,shape,getObj,bind,Sem.bind,Sem.runT,e1,hl.dead _ h,X0,pure,Obj.isChan,-Sem.runT_eq]
theorem Df{β:Type}{R:β→Prop}{n:Addr}{f:Addr × Bool→Sem β}(h:∀x,Tm P Z R (f x))(hd:Z n.block→Bd P Z (f (n,false))):Tm P Z R (behindNumber n >>= f):=by
 by_cases hz:Z n.block
 ·refine .inl ?_
  intro w es hl hg
  have e:(behindNumber n >>= f).runT P w es=(f (n,false)).runT P w (es.push ⟨.obj n.block,false,false⟩):=by
   show((behindNumber n).bind f).runT P w es=_
   rw[Sem.runT_bind',FD hz hl]
  rw[show Sem.runT P (Sem.shape n.block _) w es=(behindNumber n >>= f).runT P w es from rfl,e] at hg
  exact hd hz w _ hl hg
 ·refine tb ?_ h
  refine tb (s:=numberAt n.block) ?_ fun _=>av _
  refine .inr ⟨fun _ x=>?_,fun hz2=>absurd hz2 hz⟩
  show Tm P Z _ (Sem.bind (Sem.pure x) _)
  cases x with
  | some x=>exact trivial
  | none=>exact⟨fun _ o ho=>by cases o <;> first|exact trivial|exact ho.elim,fun hz2=>absurd hz2 hz⟩
theorem wV(c:Addr)(w:World)(es:Array Event):(∃a es',(behindNumber c).runT P w es=(.ok a w,es'))∨∃m es',(behindNumber c).runT P w es=(.halt (.stuck m) w,es'):=by
 have e:behindNumber c=(do let x ← numberAt c.block;pure (x.getD (c,false))):=rfl
 rw[e]
 simp only[numberAt,shape,getObj,bind,Sem.bind,pure,Sem.runT]
 cases hs:w.shape? c.block with
 | some x=>exact .inl ⟨_,_,rfl⟩
 | none=>
   simp only[Option.isSome_none,Bool.false_eq_true,if_false,Sem.bind,Sem.runT]
   cases hh:w.heap[c.block]? with
   | none=>exact .inr ⟨_,_,rfl⟩
   | some o=>cases o <;> first|exact .inr ⟨_,_,rfl⟩|exact .inl ⟨_,_,rfl⟩
theorem eh(a b:Addr)(f:Addr × Bool→Addr × Bool→Sem Value)(lost:∀x y,Dm P (f x y)):Bd P Z (do let x ← behindNumber a;let y ← behindNumber b;f x y):=by
 intro w es hl hg
 replace hg:fF (((behindNumber a).bind fun x=>(behindNumber b).bind fun y=>f x y).runT P w es).1:=hg
 rw[Sem.runT_bind'] at hg
 rcases wV (P:=P) a w es with⟨x,es1,e⟩|⟨m,es1,e⟩ <;> rw[e] at hg
 ·dsimp only at hg
  rw[Sem.runT_bind'] at hg
  rcases wV (P:=P) b w es1 with⟨y,es2,e⟩|⟨m,es2,e⟩ <;> rw[e] at hg
  ·exact(lost x y).run _ _ hg
  ·exact hg
 ·exact hg
theorem pN(hg:P.globals.size=0)(a b:Addr){β:Type}(f:Nat × Nat→Sem β):Dm P (Op.twoPlaces a b >>= f):=by
 show Dm P (Sem.bind (if (a.block != b.block || decide (a.block≥P.globals.size))=true then _ else _) f)
 rw[hg]
 simp only[ge_iff_le,Nat.zero_le,decide_true,Bool.or_true,if_true]
 exact trivial
theorem ow(ts:Array TypeId)(t:TypeId)(args:Array Value):T P Z (Builtin.unsafeAdd_ ts t args):=by
 obtain⟨l⟩:=args
 rcases l with _|⟨a,_|⟨b,_|⟨c,l⟩⟩⟩
 ·exact aj _
 ·cases a <;> exact aj _
 ·cases a with
  | pointer p=>
    unfold Builtin.unsafeAdd_
    dsimp only
    refine tb (oM _) fun n=>?_
    have tail:∀p:Option Addr,T P Z (match p with
     | some a=>do
       let some (e,cells) ← shape a.block|unsupported (.unsafePointer "Add")
       let q ← program
       match cellAtBytes q q.depth e (cells / q.cellsOf e) a.off n with
       | some off=>pure (.pointer (some {a with off }))
       | none=>unsupported (.unsafePointer "Add")
     | none=>unsupported (.unsafePointer "Add"):Sem Value):=fun p=>by
     cases p with
     | none=>exact ki _
     | some a=>
       refine .inr ⟨fun _ x=>?_,fun hz=>dO (by exact trivial)⟩
       show Tm P Z _ (match x with|some (e,cells)=>_|_=>_)
       cases x with
       | none=>exact trivial
       | some x=>
         dsimp only
         refine tb mg fun q=>?_
         split <;> exact trivial
    refine Tm.ite ?_ ?_
    ·cases p with
     | none=>exact trivial
     | some a=>
       dsimp only
       by_cases hz:Z a.block
       ·refine .inl fun w es hl hg=>?_
        have e1:w.shape? a.block=none:=by simp[World.shape?,hl.dead _ hz,X0]
        simp[getObj,bind,Sem.bind,Sem.runT,e1,hl.dead _ hz,X0,pure,unsupported,Obj.isChan,-Sem.runT_eq] at hg
        exact hg
       ·refine tb (IG hz) fun x=>?_
        split <;> exact trivial
    ·refine Tm.ite ?_ ?_
     ·exact trivial
     ·cases p with
      | none=>exact trivial
      | some a=>exact tail (some a)
  | _=>exact aj _
 ·cases a <;> exact aj _
theorem NI{r:Nat}(hz:Z r){β:Type}{f:Option (Addr × TypeId)→Sem β}(h:∀x,Dm P (f (some x))):Bd P Z (viewAt r >>= f):=by
 intro w es hl hg
 have e1:w.shape? r=none:=by simp[World.shape?,hl.dead _ hz,X0]
 have e:(viewAt r).runT P w es=(.ok (some (⟨r,0,none⟩,0)) w,es.push ⟨.obj r,false,false⟩):=by
  simp[viewAt,shape,getObj,bind,Sem.bind,Sem.runT,e1,hl.dead _ hz,X0,pure,Obj.isChan,-Sem.runT_eq]
 replace hg:fF (((viewAt r).bind f).runT P w es).1:=hg
 rw[Sem.runT_bind',e] at hg
 exact(h _).run _ _ hg
theorem RI{r:Nat}(hz:Z r){β:Type}{f:Option (TypeId × Nat)→Sem β}(h:Dm P (f none)):Bd P Z (shape r >>= f):=by
 intro w es hl hg
 have e1:w.shape? r=none:=by simp[World.shape?,hl.dead _ hz,X0]
 replace hg:fF ((Sem.shape r fun s=>(Sem.pure s).bind f).runT P w es).1:=hg
 simp only[Sem.runT,e1,Sem.bind] at hg
 exact h.run _ _ hg
theorem RH{α:Type}{c:Prop}[Decidable c]{a b:Sem α}(h1:Bd P Z a)(h2:Bd P Z b):Bd P Z (if c then a else b):=by
 split
 ·exact h1
 ·exact h2
theorem DU{a:Addr}(hz:Z a.block)(ts:Array TypeId)(t:TypeId)(y:Value):Bd P Z (Builtin.unsafeAdd_ ts t #[.pointer (some a),y]):=by
 cases y with
 | int k n=>
   show Bd P Z (if n=0 then _ else if n<0 then _ else _)
   refine RH ?_ (RH ?_ ?_)
   ·exact NI hz fun x=>by exact trivial
   ·exact dO (by exact trivial)
   ·exact RI hz (by exact trivial)
 | pointer p=>cases p <;> exact dO (by exact trivial)
 | _=>exact dO (by exact trivial)
theorem qm(t:TypeId)(x y:Value):T P Z (movedNumber t x y):=by
 unfold movedNumber
 refine tb (cO t) fun d=>?_
 have tail:∀r:Sem Value,T P Z r→∀lost,T P Z (do match ← r with| .pointer (some b)=>asNumber b lost|v=>pure v:Sem Value):=fun r hr lost=>tb hr fun v=>by
  split
  ·exact tb (l9 (by exact trivial)) fun _=>av _
  ·exact av _
 cases x with
 | pointer p=>
   cases p with
   | none=>dsimp only;exact Tm.ite (by exact trivial) (ow _ _ _)
   | some n=>dsimp only;exact Tm.ite (by exact trivial) (Df (fun x=>tail _ (ow _ _ _) _) fun hz=>(DU hz _ _ _).bind _)
 | _=>dsimp only;exact Tm.ite (by exact trivial) (ow _ _ _)
theorem PO(k:IntKind)(a:Addr)(n:Int):T P Z (Op.addrMod k a n):=by
 unfold Op.addrMod
 refine .inr ⟨fun _ x=>?_,fun hz=>dO (by exact trivial)⟩
 show Tm P Z _ (match x with|some (e,_)=>_|_=>_)
 cases x with
 | none=>exact trivial
 | some x=>
   dsimp only
   refine tb (dK _) fun i=>?_
   split
   ·exact trivial
   ·exact tb (yR _) fun _=>av _
theorem Jt{a:Addr}(hz:Z a.block)(k:IntKind)(n:Int):Bd P Z (Op.addrMod k a n):=by
 intro w es hl hg
 have e1:w.shape? a.block=none:=by simp[World.shape?,hl.dead _ hz,X0]
 simp[Op.addrMod,shape,bind,Sem.bind,Sem.runT,e1,unsupported,-Sem.runT_eq] at hg
 exact hg
theorem YT(k:IntKind)(a:Addr)(n:Int):T P Z (do Op.addrMod k (← behindNumber a).1 n):=Df (fun x=>PO _ _ _) fun hz=>Jt hz _ _
theorem YK(hg:P.globals.size=0)(op:BinOp)(t:TypeId)(x y:Value)(he:op=.eql∨op=.neq→IX P 10000 t=true)(hu:P.underlying t≠some .unsafePointer):T P Z (binOp op t x y):=by
 unfold binOp
 split
 ·exact Nk _ _ _ _ _
 ·exact Nk _ _ _ _ _
 ·split
  ·exact aj _
  ·split
   ·exact mY _ _ _ _
   ·exact mY _ _ _ _
   ·exact mY _ _ _ _
   ·exact IC _ _ _ _
   ·exact IC _ _ _ _
   ·exact l8 _ _ _ _
   ·exact l8 _ _ _ _
   ·exact l8 _ _ _ _
   ·exact l8 _ _ _ _
   ·exact UO _ _ _
 ·split
  ·exact aj _
  ·split
   ·exact gW _ _ _ _
   ·exact gW _ _ _ _
   ·exact gW _ _ _ _
   ·exact gW _ _ _ _
   ·exact yS _ _ _ _
 ·split
  ·exact aj _
  ·exact Ir _ _ _ _ _ _
 ·exact ru _ _ _
 ·exact tb (EJ hg (he (.inl rfl)) _ _) fun _=>av _
 ·exact tb (EJ hg (he (.inr rfl)) _ _) fun _=>av _
 ·refine tq (bT t) fun d hd=>?_
  cases d <;> first|exact absurd hd hu|exact qm _ _ _
 all_goals first
  | exact qm _ _ _
  | exact YT _ _ _
  | exact trivial
  | exact .inl (eh _ _ _ fun x y=>pN hg _ _ _)
theorem Qd(ts:Array TypeId)(t:TypeId)(args:Array Value):T P Z (Builtin.ssaWrapNilChk_ ts t args):=by
 obtain⟨l⟩:=args
 rcases l with _|⟨a,_|⟨b,_|⟨c,_|⟨d,l⟩⟩⟩⟩
 ·exact aj _
 ·exact aj _
 ·exact aj _
 ·cases b <;> first|exact aj _|skip
  cases c <;> first|exact aj _|skip
  cases a <;> first|exact aj _|skip
  rename_i p
  cases p <;> first|exact av _|skip
  refine tb (dR _) fun _=>?_
  repeat' with_reducible first
   | exact av _
   | exact aj _
   | exact aB _
   | exact vH _
   | exact eJ _ _
   | exact oG _ _
   | refine tb (av _) fun _=>?_
   | refine tb (dR _) fun _=>?_
   | refine tb (cO _) fun _=>?_
   | refine tb (dK _) fun _=>?_
   | split
   | dsimp only
 ·exact aj _
theorem mZ(t:TypeId)(x:Place):T P Z (x.get t):=by
 unfold Place.get
 split
 ·exact av _
 ·exact oQ _ _
theorem Iz(l:List FieldStep):∀ (t:TypeId) (x:Place),T P Z (follow l t x):=by
 induction l with
 | nil=>exact fun _ _=>av _
 | cons s l ih=>
   intro t x
   unfold follow
   refine tb (cO _) fun d=>?_
   repeat' with_reducible first
    | exact ih _ _
    | exact aj _
    | refine tb (mZ _ _) fun _=>?_
    | refine tb (sK _) fun _=>?_
    | refine tb (sN _ _) fun _=>?_
    | refine tb (gX _ _ _) fun _=>?_
    | split
theorem sQ(t:TypeId)(x:Place)(b:Bool)(w:Option String):T P Z (receiverAt t x b w):=by
 unfold receiverAt
 refine tb (cO _) fun d=>?_
 repeat' with_reducible first
  | exact mZ _ _
  | exact av _
  | exact aj _
  | exact oQ _ _
  | refine tb (av _) fun _=>?_
  | refine tb (mZ _ _) fun _=>?_
  | refine tb (Qd _ _ _) fun _=>?_
  | refine tb (sK _) fun _=>?_
  | split
theorem Bu(t:TypeId)(v:Value)(p:Array FieldStep)(b:Bool):T P Z (receiverVia t v p b):=tb (Iz _ _ _) fun _=>sQ _ _ _ _
theorem UZ(n:Nat):∀ (t:TypeId) (v:Value) (name:String),T P Z (method n t v name):=by
 induction n with
 | zero=>exact fun _ _ _=>trivial
 | succ n ih=>
   intro t v name
   unfold method
   refine tb (dK _) fun i=>?_
   repeat' with_reducible first
    | exact ih _ _ _
    | exact av _
    | exact aj _
    | exact aB _
    | refine tb (Iz _ _ _) fun _=>?_
    | refine tb (mZ _ _) fun _=>?_
    | refine tb (sQ _ _ _ _) fun _=>?_
    | split
    | dsimp only
theorem Br(l:List FieldStep):∀ (t:TypeId) (x:Option Value),T P Z (followBlind l t x):=by
 induction l with
 | nil=>exact fun _ _=>av _
 | cons s l ih=>
   intro t x
   unfold followBlind
   refine tb (cO _) fun d=>?_
   repeat' with_reducible first
    | exact ih _ _
    | exact av _
    | exact aj _
    | refine tb (gX _ _ _) fun _=>?_
    | split
theorem Li(n:Nat):∀ (t:TypeId) (v:Value) (name:String),T P Z (nilAhead n t v name):=by
 induction n with
 | zero=>exact fun _ _ _=>av _
 | succ n ih=>
   intro t v name
   unfold nilAhead
   refine tb (dK _) fun i=>?_
   repeat' with_reducible first
    | exact ih _ _ _
    | exact av _
    | exact aj _
    | refine tb (Br _ _ _) fun _=>?_
    | refine tb (cO _) fun _=>?_
    | split
    | dsimp only
def gy(Z:Env)(F:FuncId→Prop):Next→Prop
 | .value _| .skip=>True
 | .round _ f _ a b=>Z.jf f a∧Z.jf f b
 | .enter f _=>F f
 | .spawn _=>True
 | .comm cases blocking shape=>blocking=true∧∃c ok,cases=#[c]∧c.send=none∧shape=.recv ok
 | _=>False
def Rn(P:Program)(Z:Env){α:Type}(R:α→Prop)(s:Sem α)(w:World):Prop:=∀es,fF (s.runT P w es).1→∃n new r,Ran P Z R s w es n new r
theorem Tm.rn{α:Type}{R:α→Prop}{s:Sem α}{w:World}(h:Tm P Z R s)(hl:Lv Z w):Rn P Z R s w:=fun es hg=>Vp h hl hg
theorem Rn.bind{α β:Type}{Q:α→Prop}{R:β→Prop}{s:Sem α}{f:α→Sem β}{w:World}(hl:Lv Z w)(hs:Tm P Z Q s)(hf:∀a w1,Q a→s.run P w=.ok a w1→Lv Z w1→Rn P Z R (f a) w1):Rn P Z R (s.bind f) w:=by
 intro es hg
 have hg1:fF (s.runT P w es).1:=by
  rw[Sem.runT_bind'] at hg
  generalize s.runT P w es=r at hg
  obtain⟨r,es'⟩:=r
  cases r with
  | ok a w'=>trivial
  | halt e w'=>cases e <;> first|exact hg|trivial
 obtain⟨n,new,r,R1⟩:=Vp hs hl hg1
 cases r with
 | halt e w1=>
   have hgh:fF (.halt e w1:Result α):=by
    have:=R1.run
    rw[this] at hg1
    exact hg1
   refine⟨n,new,.halt e w1,?_,R1.drawn,R1.tape,R1.lv,R1.evs,(fun _ _ e=>by cases e),fun v es2 hs2 ha=>?_⟩
   ·rw[Sem.runT_bind',R1.run]
   ·obtain⟨v',e1,e2⟩:=R1.qh v es2 hs2 ha
    exact⟨v',by rw[Sem.runT_bind',e1];rfl,e2⟩
 | ok a w1=>
   have hrun:s.run P w=.ok a w1:=by
    have:=Sem.runT_fst P s w es
    rw[R1.run] at this
    exact this.symm
   have hg2:fF ((f a).runT P w1 (es ++ new)).1:=by
    rw[Sem.runT_bind',R1.run] at hg
    exact hg
   obtain⟨n2,new2,r2,R2⟩:=hf a w1 (R1.val a w1 rfl) hrun R1.lv (es ++ new) hg2
   have hd1:w1.drawn=w.drawn+n:=R1.drawn
   have ht1:w1.tape=w.tape:=R1.tape
   refine⟨n+n2,new ++ new2,r2,?_,by rw[R2.drawn,hd1];omega,R2.tape.trans ht1,R2.lv,fun e he=>?_,R2.val,fun v es2 hs2 ha=>?_⟩
   ·rw[Sem.runT_bind',R1.run]
    show(f a).runT P w1 (es ++ new)=_
    rw[R2.run,Array.append_assoc]
   ·rcases Array.mem_append.1 he with he|he
    ·exact R1.evs e he
    ·exact R2.evs e he
   ·obtain⟨v1,e1,s1,d1,t1⟩:=R1.qh v es2 hs2 (ha.le zo)
    obtain⟨v2,e2,s2,d2,t2⟩:=R2.qh v1 (es2 ++ new) s1 (Agree.shift ha hd1 ht1 d1 t1)
    refine⟨v2,?_,s2,by rw[d2,d1];omega,t2.trans t1⟩
    rw[Sem.runT_bind',e1]
    show(f a).runT P v1 (es2 ++ new)=_
    rw[e2,Array.append_assoc]
theorem Rn.ret{α:Type}{R:α→Prop}{a:α}{w:World}(hl:Lv Z w)(h:R a):Rn P Z R (pure a) w:=Tm.rn (jo h) hl
def BK(P:Program)(F:FuncId→Prop):Prop:=∀g,F g→∃f c,P.funcs[g]? =some f∧f.body=some c∧(f.name == "runtime.NumGoroutine")=false
theorem q9{F:FuncId→Prop}(hF:BK P F){f:FuncId}(hf:F f)(args:Array Value):Tm P Z (gy Z F) (callFunc f args):=by
 obtain⟨fn,c,h1,h2,h3⟩:=hF f hf
 show Tm P Z (gy Z F) (match P.funcs[f]? with|none=>_|some fn=>_)
 rw[h1]
 show Tm P Z (gy Z F) (if (fn.name == "runtime.NumGoroutine")=true then _ else if fn.body.isNone=true then _ else pure (.enter f args))
 rw[h3,h2]
 exact hf
theorem tv{F:FuncId→Prop}{s:Sem Value}(h:T P Z s):Tm P Z (gy Z F) (do pure (.value (← s))):=tb h fun _=>trivial
theorem tu{F:FuncId→Prop}{s:Sem Unit}(h:T P Z s):Tm P Z (gy Z F) (do s;pure .skip):=tb h fun _=>trivial
def lW(P:Program)(b:Builtin)(ts:Array TypeId):Bool:=match b with
 | .append| .cap| .clear| .close| .copy| .len| .max| .min=>true
 | .delete=>match ts[0]? with
   | some m=>match P.underlying m with|some (.map k _)=>IX P 10000 k|_=>true
   | none=>true
 | _=>false
theorem PU{F:FuncId→Prop}(hg:P.globals.size=0){b:Builtin}{ts:Array TypeId}(h:lW P b ts=true)(t:TypeId)(cs:Array Bool)(args:Array Value):Tm P Z (gy Z F) (builtin b ts t cs args):=by
 cases b <;> first|(cases h;done)|skip
 ·exact tv (UK _ _ _)
 ·exact tv (vj _ _ _)
 ·exact tv (YN _ _ _)
 ·exact tv (YO _ _ _)
 ·exact tv (js _ _ _)
 ·refine tv (UM hg _ _ _ fun m k e h0 h1=>?_)
  simp only[lW,h0,h1] at h
  exact h
 ·exact tv (vm _ _ _)
 ·exact tv (vn _ _ _)
 ·exact tv (vq _ _ _)
theorem p8{F:FuncId→Prop}(hF:BK P F){recv:Value}{name:String}{args:Array Value}{w:World}(hl:Lv Z w)
 (h:∀u v f r w1,recv=.iface u v→(method (P.types.size+Made.depth) u v name).run P w=.ok (f,r) w1→F f):Rn P Z (gy Z F) (callMethod recv name args) w:=by
 unfold callMethod
 cases recv with
 | iface u v=>
   intro es hg
   obtain⟨n,new,r,R⟩:=Rn.bind (R:=gy Z F) (f:=fun x:FuncId × Value=>callFunc x.1 (#[x.2] ++ args)) hl (UZ (P.types.size+Made.depth) u v name) (fun⟨f,r⟩ w1 _ hr hl1=>(q9 hF (h u v f r w1 rfl hr) _).rn hl1) es hg
   exact⟨n,new,r,R.run,R.drawn,R.tape,R.lv,R.evs,R.val,R.qh⟩
 | nilIface=>exact(aB _).rn hl
 | _=>exact(aj _).rn hl
theorem Pv{F:FuncId→Prop}(hg:P.globals.size=0)(hF:BK P F){t:Target}{args:Array Value}{w:World}(hl:Lv Z w)(h:∀f,t.leads P w args=some f→F f)
 (hb:∀b ts ty cs,t=.builtin b ts ty cs→lW P b ts=true)(hc:∀c,t≠.coroexit c):Rn P Z (gy Z F) (invoke t args) w:=by
 cases t with
 | nil=>unfold invoke;exact(aB _).rn hl
 | builtin b ts ty cs=>exact(PU hg (hb _ _ _ _ rfl) ty cs args).rn hl
 | collected r=>exact(aj _).rn hl
 | coroexit c=>exact absurd rfl (hc c)
 | fn f cap=>
   cases f with
   | func g=>exact(q9 hF (h g rfl) _).rn hl
   | yield l=>exact((Zb l args).mono fun n ⟨_,_,_,_,e,h1,h2⟩=>by rw[e];exact⟨h1,h2⟩).rn hl
   | via ty path g ptr=>
     unfold invoke
     cases ha:args[0]? with
     | none=>exact(aj _).rn hl
     | some x=>exact Tm.rn (tb (Bu _ _ _ _) fun _=>q9 hF (h g rfl) _) hl
   | method name=>
     unfold invoke
     cases ha:args[0]? with
     | none=>exact(aj _).rn hl
     | some x=>
       refine p8 hF hl fun u v f r w1 e hr=>h f ?_
       subst e
       simp only[Target.leads,ha,hr]
   | methodOf ty name=>
     unfold invoke
     cases ha:args[0]? with
     | none=>exact(aj _).rn hl
     | some x=>
       intro es hgd
       refine Rn.bind (R:=gy Z F) hl (bT ty) (fun d w1 hd hr hl1=>?_) es hgd
       have ew:w1=w:=by
        have:(underlying ty).run P w=.ok d w:=by
         simp only[underlying,program,bind,Sem.bind,Sem.run]
         rw[hd]
         rfl
        rw[this] at hr
        cases hr;rfl
       subst ew
       refine p8 hF hl1 fun u v f r w2 e hr2=>h f ?_
       simp only[Target.leads,ha,Option.map_some,hd]
       cases d <;> simp_all
theorem YP(it:Value):T P Z (Instr.entry it):=by
 unfold Instr.entry
 split
 ·refine bI (fun hz o ho=>?_) fun hz=>dO (by exact trivial)
  split
  ·split
   ·refine bI (fun hz2 o2 ho2=>?_) fun hz=>dO (by exact trivial)
    split
    ·refine Tm.ite ?_ ?_
     ·exact trivial
     ·split <;> exact trivial
    ·exact aj _
   ·exact aj _
  ·exact aj _
 ·exact aj _
def gj(P:Program)(t:TypeId):Bool:=match P.underlying t with|some (.map k _)=>IX P 10000 k|_=>true
theorem wF{t:TypeId}(h:gj P t=true):∀k e,P.underlying t=some (.map k e)→IX P 10000 k=true:=fun k e he=>by
 simp only[gj,he] at h
 exact h
def KD(P:Program)(s d:TypeId):Bool:=match P.underlying s,P.underlying d with
 | some (.int _),some (.int _)=>true
 | some .string,some .string=>true
 | _,_=>false
theorem EL(a:FloatKind)(n:Nat)(k:IntKind):T P Z (Conv.floatToInt a n k):=by
 unfold Conv.floatToInt
 repeat' with_reducible first
  | exact av _
  | exact aj _
  | refine tb (av _) fun _=>?_
  | refine tb (dR _) fun _=>?_
  | split
  | dsimp only
theorem Bt(n:Int):T P Z (Conv.intToString n):=by
 unfold Conv.intToString
 repeat' with_reducible first
  | exact av _
  | exact aj _
  | split
  | dsimp only
theorem PW{s d:TypeId}(h:KD P s d=true)(x:Value):T P Z (convert s d x):=by
 unfold convert
 refine tq (bT s) fun ds hs=>tq (bT d) fun dd hd=>?_
 unfold KD at h
 rw[hs,hd] at h
 cases ds <;> cases dd <;> first|(cases h;done)|skip
 ·cases x <;> first|exact EL _ _ _|exact av _|exact aj _|exact vH _|skip
  rename_i a
  cases a <;> first|exact EN|exact vH _
 ·cases x <;> first|exact Bt _|exact av _|exact aj _|exact vH _
def mP(P:Program)(o:Oper):Bool:=match o.op with
 | .move _| .assign _| .pick _ _ _| .alloc _| .box _ _| .build _ _| .buildSlice _ _ _| .load _ _| .store _ _ _| .nilCheck _| .unOp _ _ _| .makeInterface _ _
 | .makeFunc _ _ _| .makeMap _ _| .makeSlice _ _ _| .slice _ _ _ _ _| .fieldAddr _ _ _| .field _ _ _| .indexAddr _ _ _| .index _ _ _| .entryStore _ _ _ _| .range _ _| .next _ _| .entry _
 | .extract _ _| .recv _ _ _| .panic _| .go _| .makeChan _ _=>true
 | .binOp op t _ _ _=>(!(op matches .eql| .neq) || IX P 10000 t) && !(P.underlying t matches some .unsafePointer)
 | .convert s d _=>KD P s d
 | .lookup t _ _ _| .mapUpdate t _ _ _| .insert t _ _ _| .mapEntry t _ _=>gj P t
 | .call c=>match c.callee with| .builtin b=>lW P b c.argTypes|_=>true
 | _=>false
def dh(P:Program):Code→Bool
 | .skip| .exit _| .goto _| .ret| .label _| .refuse _=>true
 | .region _ ops _=>ops.all (mP P)
 | .seq a b| .cond _ a b| .rangeFunc _ _ a b=>dh P a && dh P b
 | .block _ b| .loop b| .scope b=>dh P b
theorem MX{F:FuncId→Prop}(hg:P.globals.size=0)(hF:BK P F){w:World}(hl:Lv Z w){s:Sem Deferred}(hs:(∃d,s=pure d)∨∃m,s=stuck m)
 (hab:∀f,(match s.run P w with| .ok d w'=>d.target.leads P w' d.args| .halt _ _=>none)=some f→F f)
 (hb:∀d w1,s.run P w=.ok d w1→(∀b ts ty cs,d.target=.builtin b ts ty cs→lW P b ts=true)∧∀c,d.target≠.coroexit c):
 Rn P Z (gy Z F) (s >>= fun d=>invoke d.target d.args) w:=by
 rcases hs with⟨d,rfl⟩|⟨m,rfl⟩
 ·rw[pure_bind]
  obtain⟨h1,h2⟩:=hb d w rfl
  exact Pv hg hF hl (fun f hf=>hab f hf) h1 h2
 ·have e:(stuck m >>= fun d:Deferred=>invoke d.target d.args)=(stuck m:Sem Next):=rfl
  rw[e]
  exact(aj m).rn hl
theorem Lg(t:TypeId)(v:Value):T P Z (Instr.makeChan t v):=by
 unfold Instr.makeChan
 have fin:∀n:Nat,T P Z (do pure (.chan (some (← newObj (.chan n #[] false 0 0 false)))):Sem Value):=fun n=>tb (l9 (by trivial)) fun _=>av _
 repeat' with_reducible first
  | exact fin _
  | exact av _
  | exact aj _
  | refine tb (aj _) fun _=>?_
  | refine tb (cO _) fun _=>?_
  | refine tb (oM _) fun _=>?_
  | refine tb (dK _) fun _=>?_
  | refine tb (aB _) fun _=>?_
  | refine tb (av _) fun _=>?_
  | split
  | dsimp only
theorem YU(x:Value):T P Z (Instr.panic x):=by
 unfold Instr.panic
 split
 ·exact trivial
 ·refine tb (s:=Instr.panicnil) ⟨rfl,fun r=>?_⟩ fun n=>?_
  ·cases r <;> exact trivial
  ·split
   ·exact trivial
   ·exact aB _
 ·exact trivial
theorem Qa(ρ:Operand→Value)(c:Call)(ty:TypeId):T P Z (resolve ρ c ty):=by
 unfold resolve
 dsimp only
 split
 ·exact trivial
 ·exact trivial
 ·unfold Deferred.ofValue
  split <;> exact trivial
theorem Yd{F:FuncId→Prop}(hg:P.globals.size=0)(hF:BK P F){o:Oper}(ho:mP P o=true){ρ:Operand→Value}{w:World}(hl:Lv Z w)(hab:∀f,o.about P w ρ=some f→F f):Rn P Z (gy Z F) (execOp ρ o) w:=by
 obtain⟨dst,op,ty,pos,after,guard⟩:=o
 unfold execOp
 dsimp only
 cases op <;> first|(cases ho;done)|skip
 case move x=>exact Rn.ret hl trivial
 case makeChan t n=>exact(tv (Lg _ _)).rn hl
 case panic x=>exact(tv (YU _)).rn hl
 case go c=>exact(tb (Qa _ _ _) fun _=>jo (by exact trivial)).rn hl
 case assign x=>exact Rn.ret hl trivial
 case pick c a b=>exact(tb (sM _) fun _=>jo (by exact trivial)).rn hl
 case alloc e=>exact(tv (YI _ _ _)).rn hl
 case box e v=>exact(tv (vi _ _)).rn hl
 case build t ps=>exact(tv (YL _ _)).rn hl
 case buildSlice t n ps=>exact(tv (EH _ _ _)).rn hl
 case insert t m k v=>exact(tu (vG hg (wF ho) _ _ _)).rn hl
 case load t a=>exact(tv (UU _ _)).rn hl
 case store t a v=>exact(tu (Qe _ _ _)).rn hl
 case nilCheck x=>
  dsimp only
  refine Tm.rn ?_ hl
  split
  ·exact aB _
  ·exact aB _
  ·exact aB _
  ·split
   ·exact aB _
   ·refine tb mg fun p=>tb (Li _ _ _ _) fun b=>?_
    split
    ·exact trivial
    ·exact jo (by exact trivial)
   ·exact jo (by exact trivial)
  ·exact jo (by exact trivial)
 case binOp op t x y yt=>
  simp only[mP,Bool.and_eq_true,Bool.or_eq_true,Bool.not_eq_true'] at ho
  refine(tv (tb (PY _ _ _ _ _ _) fun _=>YK hg _ _ _ _ (fun he=>?_) (fun hu=>?_))).rn hl
  ·rcases ho.1 with h|h
   ·rcases he with rfl|rfl <;> cases h
   ·exact h
  ·have:=ho.2
   rw[hu] at this
   cases this
 case unOp op t x=>exact(tv (Za _ _)).rn hl
 case convert s d x=>exact(tv (PW ho _)).rn hl
 case makeInterface t x=>exact(tv (vW _ _)).rn hl
 case makeFunc fn a b=>exact(tv (av _)).rn hl
 case makeMap t r=>exact(tv (P8 _ _)).rn hl
 case makeSlice t l c=>exact(tv (IE _ _ _)).rn hl
 case slice t x l h m=>exact(tv (Qc _ _ _ _ _)).rn hl
 case fieldAddr t x f=>exact(tv (P6 _ _ _)).rn hl
 case field t x f=>exact(tv (YQ _ _ _)).rn hl
 case indexAddr t x i=>exact(tv (P7 _ _ _)).rn hl
 case index t x i=>exact(tv (YR _ _ _)).rn hl
 case lookup t x i ok=>exact(tv (UW hg (wF ho) _ _ _)).rn hl
 case mapUpdate t m k v=>exact(tu (vG hg (wF ho) _ _ _)).rn hl
 case mapEntry t m k=>exact(tv (Lh hg (wF ho) _ _)).rn hl
 case entryStore t m s v=>exact(tu (EI _ _ _ _)).rn hl
 case range t x=>exact(tv (YV _ _)).rn hl
 case next it s=>exact(tv (kh _ _ _)).rn hl
 case entry it=>exact(tv (YP _)).rn hl
 case extract x i=>exact(tv (P5 _ _)).rn hl
 case call c=>
  dsimp only
  simp only[Oper.about] at hab
  refine MX hg hF hl ?_ hab (fun d w1 hd=>?_)
  ·unfold resolve
   cases hc:c.callee with
   | builtin b=>exact .inl ⟨_,rfl⟩
   | invoke recv name=>exact .inl ⟨_,rfl⟩
   | value f=>
     dsimp only
     unfold Deferred.ofValue
     split
     ·exact .inl ⟨_,rfl⟩
     ·exact .inl ⟨_,rfl⟩
     ·exact .inr ⟨_,rfl⟩
  ·unfold resolve at hd
   cases hc:c.callee with
   | builtin b=>
     rw[hc] at hd
     cases hd
     refine⟨fun b' ts ty' cs e=>?_,fun c e=>Target.noConfusion e⟩
     simp only[mP,hc] at ho
     cases e
     exact ho
   | invoke recv name=>
     rw[hc] at hd
     cases hd
     exact⟨fun b' ts ty' cs e=>Target.noConfusion e,fun c e=>Target.noConfusion e⟩
   | value f=>
     rw[hc] at hd
     dsimp only at hd
     unfold Deferred.ofValue at hd
     split at hd
     ·cases hd
      exact⟨fun b' ts ty' cs e=>Target.noConfusion e,fun c e=>Target.noConfusion e⟩
     ·cases hd
      exact⟨fun b' ts ty' cs e=>Target.noConfusion e,fun c e=>Target.noConfusion e⟩
     ·cases hd
 case recv ct ch ok=>
  refine(tb (cO _) fun d=>?_:Tm P Z (gy Z F) _).rn hl
  split
  ·exact tb (dB _) fun z=>jo ⟨rfl,_,_,rfl,rfl,rfl⟩
  ·exact aj _
end
end Go.dU
