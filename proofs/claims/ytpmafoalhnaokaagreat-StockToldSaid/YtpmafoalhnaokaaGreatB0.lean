/- Par8 Par9 Par10 Par11b Par12 Par13 Par14 Par13b -/
import Derived.Test.YtpmafoalhnaokaaGreatA9
import Derived.Conc.Own4
import Derived.Conc.Listed
set_option maxRecDepth 100000
set_option maxHeartbeats 16000000
set_option linter.unusedVariables false
set_option linter.unusedSectionVars false
namespace Go.bZ
section
variable[Inhabited aT]
variable{P:Program}{ρ:Ren}
theorem xW(op:BinOp)(t:TypeId)(k k':IntKind)(a b:Int):SR P VR ρ (binOp op t (.int k a) (.int k' b)) (binOp op t (.int k a) (.int k' b)):=by
 cases op <;> (unfold binOp;dsimp only) <;> first
  | exact Qs _ _ _ _ _
  | (split <;> first|exact zT|exact EF _ _ _ _|exact KV _ _ _ _|exact Ie _ _ _ _|exact KU _ _ _)
theorem qV(hi:dL ρ)(op:BinOp)(t:TypeId)(k k':FloatKind)(a b:Nat):SR P VR ρ (binOp op t (.float k a) (.float k' b)) (binOp op t (.float k a) (.float k' b)):=by
 cases op <;> (unfold binOp;dsimp only) <;> first
  | exact zT
  | (split <;> first|exact zT|exact vZ hi _ _ _ _|exact Bo _ _ _ _)
def bF:BinOp→Bool
 | .eql| .neq=>false
 | _=>true
def Ce(P:Program)(s:Sem Value):Prop:=∀ρ:Ren,dL ρ→SR P VR ρ s s
theorem Ce.bind{α:Type}{s:Sem α}{f:α→Sem Value}(h:Cl P s)(hf:∀a,Ce P (f a)):Ce P (s >>= f):=fun _ hi=>(h hi).aO hi fun _ l a=>hf a _ l.2
theorem Ce.ite{c:Prop}[Decidable c]{s t:Sem Value}(h:Ce P s)(k:Ce P t):Ce P (if c then s else t):=by split <;> assumption
theorem Ce.complex(k:FloatKind)(a b:Nat):Ce P (Pure.pure (.complex k a b):Sem Value):=fun _ _=>SR.pure (.complex _ _ _)
theorem Ce.bool(b:Bool):Ce P (Pure.pure (.bool b):Sem Value):=fun _ _=>SR.pure (.bool _)
theorem nQ(op:BinOp)(k:FloatKind)(a b c d:Nat):Ce P (Op.complexOp op k a b c d):=by
 unfold Op.complexOp
 cases op <;> dsimp only <;> first
  | exact(fun _ _=>trivial)
  | (repeat' first
   | (with_reducible exact Ce.complex _ _ _)
   | (with_reducible exact Ce.bool _)
   | (with_reducible refine Ce.bind (sD _ _ _ _) fun _=>?_)
   | (with_reducible refine Ce.bind (Km _ _ _ _) fun _=>?_)
   | (with_reducible refine Ce.bind (XO _ _ _) fun _=>?_)
   | (with_reducible refine Ce.bind (Kn _ _ _ _) fun _=>?_)
   | (with_reducible refine Ce.bind (Gt _ _ _ _) fun _=>?_)
   | (with_reducible refine Ce.ite ?_ ?_))
theorem iV(hi:dL ρ){ts:Array TypeId}{t:TypeId}{x x' y y':Value}(hx:VR ρ x x')(hy:VR ρ y y'):SR P VR ρ (Builtin.unsafeAdd_ ts t #[x,y]) (Builtin.unsafeAdd_ ts t #[x',y']):=by
 unfold Builtin.unsafeAdd_
 cases hx with
 | yD=>
   dsimp only
   refine(Cq hi hy).aO hi fun ρ1 l1 n=>?_
   split
   ·exact zT
   ·split <;> exact zT
 | ptr ha=>
   dsimp only
   refine(Cq hi hy).aO hi fun ρ1 l1 n=>?_
   split
   ·refine(Ak l1.2 (l1.1 _ _ ha.1)).bind' l1.2 ?_
    rintro ρ2 l2 u v ⟨rfl,rfl⟩
    exact SR.pure (.ptr (ha.mono (l1.1.trans l2.1)))
   ·split
    ·exact zT
    ·refine(oq (l1.1 _ _ ha.1)).aO l1.2 fun ρ2 l2 u=>?_
     cases u with
     | none=>exact zT
     | some u=>
       obtain⟨e,c⟩:=u
       dsimp only
       refine iQ.bind' l2.2 ?_
       rintro ρ3 l3 Q Q' ⟨rfl,rfl⟩
       rw[ha.2.1]
       cases cellAtBytes Q' Q'.depth e (c / Q'.cellsOf e) _ n with
       | none=>exact zT
       | some o=>exact SR.pure (.ptr ⟨l3.1 _ _ (l2.1 _ _ (l1.1 _ _ ha.1)),rfl,ha.2.2⟩)
 | _=>exact zT
theorem dM(hi:dL ρ)(t:TypeId){x x' y y':Value}(hx:VR ρ x x')(hy:VR ρ y y'):SR P VR ρ (movedNumber t x y) (movedNumber t x' y'):=by
 unfold movedNumber
 refine(aK t).aO hi fun ρ1 l1 d=>?_
 dsimp only
 have rest:SR P VR ρ1 (do
  let .pointer (some n):=x|Builtin.unsafeAdd_ #[] t #[x,y]
  let (a,lost) ← behindNumber n
  match ← Builtin.unsafeAdd_ #[] t #[.pointer (some a),y] with
  | .pointer (some b)=>asNumber b lost
  | v=>pure v) (do
  let .pointer (some n):=x'|Builtin.unsafeAdd_ #[] t #[x',y']
  let (a,lost) ← behindNumber n
  match ← Builtin.unsafeAdd_ #[] t #[.pointer (some a),y'] with
  | .pointer (some b)=>asNumber b lost
  | v=>pure v):=by
  have hy1:=hy.mono l1.1
  have hx1:=hx.mono l1.1
  have hu:=iV (P:=P) l1.2 (ts:=#[]) (t:=t) hx1 hy1
  cases hx1 with
  | ptr ha=>
    dsimp only
    refine(aY l1.2 ha).bind' l1.2 ?_
    rintro ρ2 l2 p p' ⟨hp,e⟩
    obtain⟨p,b⟩:=p
    obtain⟨p',b'⟩:=p'
    cases e
    dsimp only
    refine(iV l2.2 (.ptr hp) (hy1.mono l2.1)).bind' l2.2 ?_
    intro ρ3 l3 v v' hv
    cases hv with
    | ptr hb=>exact Eh hb _ l3.2
    | _=>exact SR.pure (by constructor <;> assumption)
  | _=>exact hu
 cases d <;> first|exact rest|exact zT
theorem lT(hi:dL ρ)(t:TypeId){x x' y y':Value}(hx:VR ρ x x')(hy:VR ρ y y'):SR P VR ρ (movedPointer t x y) (movedPointer t x' y'):=by
 unfold movedPointer
 have hu:=iV (P:=P) hi (ts:=#[]) (t:=t) hx hy
 cases hx with
 | ptr ha=>
   dsimp only
   refine(sU hi ha.1).bind' hi ?_
   rintro ρ1 l1 p p' (⟨rfl,rfl⟩|⟨b,b',l,rfl,rfl,hb⟩)
   ·exact iV (ts:=#[]) (t:=t) l1.2 (.ptr (ha.mono l1.1)) (hy.mono l1.1)
   ·exact zT
 | _=>exact hu
theorem uX(hi:dL ρ)(k:IntKind){a a':Addr}(ha:AR ρ a a')(n:Int):SR P VR ρ (Op.addrMod k a n) (Op.addrMod k a' n):=by
 unfold Op.addrMod
 refine(oq ha.1).aO hi fun ρ1 l1 u=>?_
 cases u with
 | none=>exact zT
 | some u=>
   obtain⟨e,c⟩:=u
   dsimp only
   refine(gD e).aO l1.2 fun ρ2 l2 i=>?_
   split
   ·exact zT
   ·exact(qQ l2.2 (ha.mono (l1.1.trans l2.1))).aO l2.2 fun _ _ b=>SR.pure (.int _ _)
theorem qI(hg:P.globals.size=0)(hi:dL ρ)(a b a' b':Addr):SR P (fun _ _ _=>False) ρ (Op.twoPlaces a b) (Op.twoPlaces a' b'):=by
 unfold Op.twoPlaces
 refine iQ.bind' hi ?_
 rintro ρ1 l1 Q Q' ⟨rfl,rfl⟩
 have e:∀ (a b:Addr),(a.block != b.block || decide (a.block≥Q'.globals.size))=true:=fun a b=>by simp[hg]
 dsimp only
 simp only[e,if_true]
 exact zT
theorem Gc(hg:P.globals.size=0)(hi:dL ρ)(k:IntKind)(a b a' b':Addr):SR P VR ρ (Op.addrSub k a b) (Op.addrSub k a' b'):=(qI hg hi a b a' b').bind' hi fun _ _ _ _ h=>h.elim
theorem Gb(hg:P.globals.size=0)(hi:dL ρ)(op:BinOp)(a b a' b':Addr):SR P VR ρ (Op.addrCmp op a b) (Op.addrCmp op a' b'):=(qI hg hi a b a' b').bind' hi fun _ _ _ _ h=>h.elim
theorem OE(hg:P.globals.size=0)(hi:dL ρ)(op:BinOp)(ho:bF op=true)(t:TypeId){x x' y y':Value}(hx:VR ρ x x')(hy:VR ρ y y'):SR P VR ρ (binOp op t x y) (binOp op t x' y'):=by
 cases hx with
 | int k n=>
   cases hy with
   | int k' n'=>exact xW op t k k' n n'
   | ptr hb=>cases op <;> first|exact zT|exact dM hi t (.ptr hb) (.int k n)|exact(aY hi hb).bind' hi fun _ l _ _ hp=>uX l.2 _ hp.1 _|simp[bF] at ho
   | yD=>cases op <;> first|exact zT|exact dM hi t .yD (.int k n)|simp[bF] at ho
   | _=>cases op <;> first|exact zT|simp[bF] at ho
 | float k n=>
   cases hy with
   | float k' n'=>exact qV hi op t k k' n n'
   | _=>cases op <;> first|exact zT|simp[bF] at ho
 | complex k m n=>
   cases hy with
   | complex k' m' n'=>
     cases op <;> (unfold binOp;dsimp only) <;> (split <;> first|exact zT|exact nQ _ _ _ _ _ _ _ hi)
   | _=>cases op <;> first|exact zT|simp[bF] at ho
 | string s=>
   cases hy with
   | string s'=>cases op <;> (unfold binOp;dsimp only;exact lD _ _ _)
   | _=>cases op <;> first|exact zT|simp[bF] at ho
 | ptr ha=>
   cases hy with
   | int k n=>cases op <;> first
    | exact zT
    | (refine(aK t).aO hi fun ρ1 l1 d=>?_
       cases d <;> first|exact dM l1.2 t (.ptr (ha.mono l1.1)) (.int k n)|exact lT l1.2 t (.ptr (ha.mono l1.1)) (.int k n))
    | exact dM hi t (.ptr ha) (.int k _)
    | exact(aY hi ha).bind' hi fun _ l _ _ hp=>uX l.2 _ hp.1 _
    | simp[bF] at ho
   | ptr hb=>cases op <;> first
    | exact zT
    | exact(aY hi ha).bind' hi fun _ l _ _ hp=>(aY l.2 (hb.mono l.1)).bind' l.2 fun _ l2 _ _ hq=>Gc hg l2.2 _ _ _ _ _
    | exact(aY hi ha).bind' hi fun _ l _ _ hp=>(aY l.2 (hb.mono l.1)).bind' l.2 fun _ l2 _ _ hq=>Gb hg l2.2 _ _ _ _ _
    | simp[bF] at ho
   | _=>cases op <;> first|exact zT|simp[bF] at ho
 | yD=>
   cases hy with
   | int k n=>cases op <;> first
    | exact zT
    | (refine(aK t).aO hi fun ρ1 l1 d=>?_
       cases d <;> first|exact dM l1.2 t .yD (.int k n)|exact lT l1.2 t .yD (.int k n))
    | exact dM hi t .yD (.int k _)
    | simp[bF] at ho
   | _=>cases op <;> first|exact zT|simp[bF] at ho
 | _=>cases hy <;> cases op <;> first|exact zT|simp[bF] at ho
theorem iU{op:BinOp}(ho:bF op=true)(t:TypeId)(x y:Operand)(a b:Value):eqGuard op t x y a b=pure ():=by
 cases op <;> first|rfl|simp[bF] at ho
structure D7(P:Program)(t:TypeId):Prop where
 und:∃k,P.underlying t=some (.int k)
 copy:wQ P t=true
 guard:P.eqGuardType P.depth t=false
theorem G6{t:TypeId}{k:IntKind}(h:P.underlying t=some (.int k))(hi:dL ρ)(d:Nat)(a b:Value):SR P (fun _ x y=>x=false∧y=false) ρ (Op.eqGuardIn (d+1) t a b) (Op.eqGuardIn (d+1) t a b):=by
 unfold Op.eqGuardIn
 refine iy fun u hu=>?_
 rw[h] at hu
 cases hu
 exact⟨_,rfl,rfl,rfl⟩
theorem GJ{t:TypeId}(hT:D7 P t)(hi:dL ρ)(op:BinOp)(x y:Operand){a a' b b':Value}(ha:VR ρ a a')(hb:VR ρ b b'):SR P mE ρ (eqGuard op t x y a b) (eqGuard op t x y a' b'):=by
 obtain⟨k,hk⟩:=hT.und
 have e1:SR P mE ρ (do if ← Op.eqGuardIn Op.maxDepth t .nilIface .nilIface then unsupported (.noEntry BV)) (do if ← Op.eqGuardIn Op.maxDepth t .nilIface .nilIface then unsupported (.noEntry BV)):=by
  refine(G6 hk hi 9999 _ _).bind' hi ?_
  rintro ρ1 l1 u v ⟨rfl,rfl⟩
  exact SR.pure rfl
 have one:∀op,bF op=false→SR P mE ρ (eqGuard op t x y a b) (eqGuard op t x y a' b'):=by
  intro op ho
  cases op <;> first|(simp[bF] at ho;done)|skip
  all_goals
   unfold eqGuard
   cases ha with
   | nilIface=>
     cases hb with
     | nilIface=>
       dsimp only
       cases x <;> cases y <;> first|exact SR.pure rfl|exact e1
     | _=>exact SR.pure rfl
   | agg e h=>
     cases hb with
     | agg e h=>
       dsimp only
       refine iQ.bind' hi ?_
       rintro ρ1 l1 Q Q' ⟨rfl,rfl⟩
       refine iQ.bind' l1.2 ?_
       rintro ρ2 l2 Q Q2 ⟨rfl,rfl⟩
       simp only[hT.guard]
       exact SR.pure rfl
     | _=>exact SR.pure rfl
   | _=>exact SR.pure rfl
 cases ho:bF op with
 | true=>rw[iU ho,iU ho];exact SR.pure rfl
 | false=>exact one op ho
theorem Rf{x x':Value}(hx:VR ρ x x'):SR P VR ρ (Op.unary .not x) (Op.unary .not x'):=by
 cases hx <;> first|exact SR.pure (.bool _)|exact zT
theorem qw(hg:P.globals.size=0){t:TypeId}(hT:D7 P t)(hi:dL ρ){x x' y y':Value}(hx:VR ρ x x')(hy:VR ρ y y'):SR P mE ρ (Op.equal t x y) (Op.equal t x' y'):=by
 obtain⟨k,hk⟩:=hT.und
 have h:=hT.copy
 show SR P mE ρ (Op.equalIn (9999+1) t x y) (Op.equalIn (9999+1) t x' y')
 unfold Op.equalIn
 refine iy fun u hu=>?_
 rw[hk] at hu
 cases hu
 cases hx with
 | int k1 n1=>
   cases hy with
   | int k2 n2=>dsimp only;split <;> first|exact SR.pure rfl|exact zT
   | ptr ha=>cases n1 with
     | ofNat m=>cases m with
       | zero=>exact SR.pure rfl
       | succ m=>exact zT
     | negSucc m=>exact zT
   | _=>exact zT
 | ptr ha=>
   cases hy with
   | int k2 n2=>cases n2 with
     | ofNat m=>cases m with
       | zero=>exact SR.pure rfl
       | succ m=>exact zT
     | negSucc m=>exact zT
   | ptr hb=>
     dsimp only
     refine(aY hi ha).bind' hi ?_
     intro ρ1 l1 p p' hp
     refine(aY l1.2 (hb.mono l1.1)).bind' l1.2 ?_
     intro ρ2 l2 q q' hq
     refine iQ.bind' l2.2 ?_
     rintro ρ3 l3 Q Q' ⟨rfl,rfl⟩
     have e1:∀ (a b:Addr),(a.block == b.block && decide (a.block<Q'.globals.size))=false:=fun a b=>by simp[hg]
     simp only[e1,Bool.false_eq_true,if_false]
     refine Zx fun i hti=>?_
     replace h:wQ Q' t=true:=h
     unfold wQ at h
     rw[hti] at h
     dsimp only at h
     split
     ·rename_i he
      rw[he] at h
      simp at h
     ·exact zT
   | _=>exact zT
 | _=>cases hy <;> exact zT
theorem Kc(hg:P.globals.size=0){t:TypeId}(hT:D7 P t)(hi:dL ρ){x x' y y':Value}(hx:VR ρ x x')(hy:VR ρ y y'):SR P VR ρ (binOp .eql t x y) (binOp .eql t x' y'):=by
 have h1:SR P VR ρ (do pure (.bool (← Op.equal t x y))) (do pure (.bool (← Op.equal t x' y'))):=(qw hg hT hi hx hy).aO hi fun _ _ b=>SR.pure (.bool _)
 cases hx with
 | int k n=>cases hy with
   | int k' n'=>exact xW _ t k k' n n'
   | _=>exact h1
 | float k n=>cases hy with
   | float k' n'=>exact qV hi _ t k k' n n'
   | _=>exact h1
 | complex k m n=>cases hy with
   | complex k' m' n'=>unfold binOp;dsimp only;(split <;> first|exact zT|exact nQ _ _ _ _ _ _ _ hi)
   | _=>exact h1
 | string a=>cases hy with
   | string b=>unfold binOp;dsimp only;exact lD _ _ _
   | _=>exact h1
 | _=>exact h1
theorem Ke(hg:P.globals.size=0){t:TypeId}(hT:D7 P t)(hi:dL ρ){x x' y y':Value}(hx:VR ρ x x')(hy:VR ρ y y'):SR P VR ρ (binOp .neq t x y) (binOp .neq t x' y'):=by
 have h1:SR P VR ρ (do pure (.bool (!(← Op.equal t x y)))) (do pure (.bool (!(← Op.equal t x' y')))):=(qw hg hT hi hx hy).aO hi fun _ _ b=>SR.pure (.bool _)
 cases hx with
 | int k n=>cases hy with
   | int k' n'=>exact xW _ t k k' n n'
   | _=>exact h1
 | float k n=>cases hy with
   | float k' n'=>exact qV hi _ t k k' n n'
   | _=>exact h1
 | complex k m n=>cases hy with
   | complex k' m' n'=>unfold binOp;dsimp only;(split <;> first|exact zT|exact nQ _ _ _ _ _ _ _ hi)
   | _=>exact h1
 | string a=>cases hy with
   | string b=>unfold binOp;dsimp only;exact lD _ _ _
   | _=>exact h1
 | _=>exact h1
theorem OD(hg:P.globals.size=0){t:TypeId}(hT:D7 P t)(hi:dL ρ)(op:BinOp)(ho:bF op=false){x x' y y':Value}(hx:VR ρ x x')(hy:VR ρ y y'):SR P VR ρ (binOp op t x y) (binOp op t x' y'):=by
 cases op <;> first|exact Kc hg hT hi hx hy|exact Ke hg hT hi hx hy|simp[bF] at ho
theorem FP{z z':Array Value}(hz:dW ρ z z')(n:Nat):dW ρ ((Array.range n).map (z[· % z.size]!)) ((Array.range n).map (z'[· % z'.size]!)):=by
 refine⟨zs,fun i h h'=>?_⟩
 simp only[Array.getElem_map,Array.getElem_range]
 rw[← hz.1]
 rcases hz.get? (i % z.size) with⟨a,b⟩|⟨v,v',a,b,c⟩
 ·simp only[Array.getElem!_eq_getD,Array.getD_eq_getD_getElem?,a,b,Option.getD_none]
  exact .bool false
 ·simp only[Array.getElem!_eq_getD,Array.getD_eq_getD_getElem?,a,b,Option.getD_some]
  exact c
theorem xD(hi:dL ρ){t:TypeId}(hz:∀e,P.underlying t=some (.slice e)→Ow P e)(n:Nat){l l':Array (Nat × Value)}(hm:∀ {ρ'},Le ρ ρ'→jR ρ' l.toList l'.toList):SR P VR ρ (Instr.buildSlice t n l) (Instr.buildSlice t n l'):=by
 unfold Instr.buildSlice
 refine iy fun d hd=>?_
 cases d with
 | slice el=>
   dsimp only
   refine(aU hi el).aO hi fun ρ1 l1 size=>?_
   have tail:∀ {ρ2:Ren} (l2:Ext ρ ρ2) {z z':Array Value} (hzz:dW ρ2 z z'),SR P VR ρ2
    (match Instr.fill (fun i=>some (i * size,size)) ((Array.range (n * size)).map (z[· % z.size]!)) l.toList with|some cells=>do pure (.slice (some (← newRow el cells)) n n)|_=>stuck sQ9)
    (match Instr.fill (fun i=>some (i * size,size)) ((Array.range (n * size)).map (z'[· % z'.size]!)) l'.toList with|some cells=>do pure (.slice (some (← newRow el cells)) n n)|_=>stuck sQ9):=by
    intro ρ2 l2 z z' hzz
    rcases xM (ρ:=ρ2) (fun i=>some (i * size,size)) (hm l2.1) (FP hzz (n * size)) with⟨e1,e2⟩|⟨x,x',e1,e2,hx⟩
    ·simp only[e1,e2];exact zT
    ·simp only[e1,e2];exact(qY el hx).bind' l2.2 fun _ _ a a' ha=>SR.pure (.sl n n ha)
   by_cases c:n * size > 2 ^ 24
   ·simp only[c,if_true];exact zT
   ·simp only[c,if_false]
    by_cases c2:n * size=0
    ·simp only[c2,if_true]
     have:=tail l1 (dW.nil ρ1)
     simp only[c2] at this
     exact this
    ·simp only[c2,if_false]
     exact(iX l1.2 (hz el hd)).bind' l1.2 fun ρ2 l2 z z' h=>tail (l1.trans l2) h.cells
 | _=>exact zT
structure RF(P:Program)(s d:TypeId):Prop where
 src:∃k,P.underlying s=some (.int k)
 dst:∃k,P.underlying d=some (.int k)
theorem Gz{s d:TypeId}(hT:RF P s d){x x':Value}(hx:VR ρ x x'):SR P VR ρ (convert s d x) (convert s d x'):=by
 unfold convert
 refine iy fun a ha=>iy fun b hb=>?_
 obtain⟨k,hk⟩:=hT.src
 obtain⟨j,hj⟩:=hT.dst
 rw[hk] at ha
 rw[hj] at hb
 cases ha
 cases hb
 cases hx with
 | int q n=>exact SR.pure (.int _ _)
 | float q n=>
   show SR P VR ρ (Conv.floatToInt q n j) (Conv.floatToInt q n j)
   unfold Conv.floatToInt
   dsimp only
   have any:SR P VR ρ (do pure (.int j (j.wrap (← choose (.floatToInt q n j)))):Sem Value) (do pure (.int j (j.wrap (← choose (.floatToInt q n j))))):=⟨_,rfl,fun m=>⟨_,rfl,.int _ _⟩⟩
   split
   ·split
    ·exact SR.pure (.int _ _)
    ·exact any
   ·exact any
 | _=>exact zT
theorem sS(t:TypeId){x x':Value}(hx:VR ρ x x'):SR P VR ρ (Instr.makeInterface t x) (Instr.makeInterface t x'):=by
 unfold Instr.makeInterface
 refine iy fun d hd=>?_
 cases d <;> first|exact zT|exact SR.pure (.iface t hx)
theorem jd(hi:dL ρ){l l':Nat}(h:ρ l=some l'):SR P uW ρ (Instr.getLoop l) (Instr.getLoop l'):=by
 unfold Instr.getLoop
 refine(jM h).bind' hi fun ρ1 l1 o o' ho=>?_
 cases ho with
 | loop hr=>exact SR.pure hr
 | _=>exact zT
def jq(r:Nat):Deferred:={target:=.collected r,args:=#[] }
def dQ(ρ:Ren)(a b:List Deferred):Prop:=∃x x':List Nat,a=x.map jq∧b=x'.map jq∧x.length=x'.length∧∀ (i:Nat) (r:Nat),x[i]? =some r→∃r',x'[i]? =some r'∧ρ r=some r'
theorem dQ.nil(ρ:Ren):dQ ρ [] []:=⟨[],[],rfl,rfl,rfl,fun i r h=>by simp at h⟩
theorem dQ.cons{r r':Nat}{a b:List Deferred}(h:ρ r=some r')(k:dQ ρ a b):dQ ρ (jq r :: a) (jq r' :: b):=by
 obtain⟨x,x',rfl,rfl,h1,h2⟩:=k
 refine⟨r :: x,r' :: x',rfl,rfl,by simp[h1],fun i q hq=>?_⟩
 cases i with
 | zero=>simp only[List.getElem?_cons_zero,Option.some.injEq] at hq;subst hq;exact⟨r',zs,h⟩
 | succ i=>simp only[List.getElem?_cons_succ] at hq⊢;exact h2 i q hq
theorem dQ.mono{ρ':Ren}(l:Le ρ ρ'){a b:List Deferred}(h:dQ ρ a b):dQ ρ' a b:=by
 obtain⟨x,x',h0,h1,h2,h3⟩:=h
 exact⟨x,x',h0,h1,h2,fun i r hr=>let ⟨r',e1,e2⟩:=h3 i r hr;⟨r',e1,l _ _ e2⟩⟩
theorem dQ.cases{a b:List Deferred}(h:dQ ρ a b):(a=[]∧b=[])∨∃r r' a' b',a=jq r :: a'∧b=jq r' :: b'∧ρ r=some r'∧dQ ρ a' b':=by
 obtain⟨x,x',rfl,rfl,h1,h2⟩:=h
 cases x with
 | nil=>
   cases x' with
   | nil=>exact .inl ⟨rfl,rfl⟩
   | cons _ _=>simp at h1
 | cons r x=>
   cases x' with
   | nil=>simp at h1
   | cons r' x'=>
     obtain⟨q,e,hq⟩:=h2 0 r zs
     simp only[List.getElem?_cons_zero,Option.some.injEq] at e
     subst e
     exact .inr ⟨r,r',_,_,rfl,rfl,hq,x,x',rfl,rfl,by simpa using h1,fun i s hs=>by simpa using h2 (i+1) s (by simpa using hs)⟩
theorem dQ.append{a b c d:List Deferred}(h:dQ ρ a b)(k:dQ ρ c d):dQ ρ (a ++ c) (b ++ d):=by
 obtain⟨x,x',rfl,rfl,h1,h2⟩:=h
 obtain⟨y,y',rfl,rfl,k1,k2⟩:=k
 refine⟨x ++ y,x' ++ y',zs,zs,by simp[h1,k1],fun i r hr=>?_⟩
 rw[List.getElem?_append] at hr⊢
 rw[← h1]
 split at hr
 ·rename_i hl;rw[if_pos hl];exact h2 i r hr
 ·rename_i hl;rw[if_neg hl];exact k2 _ r hr
def sf(ρ:Ren)(x x':Nat × List Deferred):Prop:=ρ x.1=some x'.1∧dQ ρ x.2 x'.2
theorem Db{o o':Obj}(h:OR ρ o o'):SR P (fun ρ r r'=>ρ r=some r') ρ (newObj o) (newObj o'):=⟨_,_,rfl,h,fun _ _ r r' hr=>⟨r',rfl,hr⟩⟩
theorem qp(hi:dL ρ){fn:FuncId}{tmps vS:Array Value}(ht:dW ρ tmps vS)(params:Array Tmp){assign body:Code}(h1:jr fn assign)(h2:jr fn body){around Ef:Option Nat}(ha:(around=none∧Ef=none)∨∃l l',around=some l∧Ef=some l'∧ρ l=some l'):
 SR P sf ρ (Instr.enterLoop fn tmps params assign body around) (Instr.enterLoop fn vS params assign body Ef):=by
 unfold Instr.enterLoop
 have fin:∀ {ρ1:Ren} (l1:Ext ρ ρ1) {d d':Nat} (hd:ρ1 d=some d') {m m':List Deferred} (hm:dQ ρ1 m m'),SR P sf ρ1 (do pure (← newObj (.loop {state:=.ready,pending:=none,fn,tmps,params,assign,body,defers:=d }),m):Sem (Nat × List Deferred)) (do pure (← newObj (.loop {state:=.ready,pending:=none,fn,tmps:=vS,params,assign,body,defers:=d' }),m')):=by
  intro ρ1 l1 d d' hd m m' hm
  refine(Db (.loop ⟨rfl,ht.mono l1.1,hd,⟨h1,h2,fun j hj=>by cases hj⟩⟩)).bind' l1.2 fun ρ2 l2 r r' hr=>SR.pure ⟨hr,hm.mono l2.1⟩
 rcases ha with⟨rfl,rfl⟩|⟨l,l',rfl,rfl,hl⟩
 ·dsimp only
  exact(Db (.defs (.inr rfl))).bind' hi fun ρ1 l1 r r' hr=>fin l1 hr (.cons hr (.nil ρ1))
 ·dsimp only
  exact(jd hi hl).bind' hi fun ρ1 l1 r r' hr=>fin l1 hr.defers (.nil ρ1)
theorem uW.turn{r r':Loop}(h:uW ρ r r')(s:LoopState)(p:Option Code)(hp:∀j,p=some j→jr r.fn j):uW ρ {r with state:=s,pending:=p } {r' with state:=s,pending:=p }:=
 ⟨by rw[h.eq],h.tmps,h.defers,⟨h.ok.assign,h.ok.body,hp⟩⟩
theorem nP(hi:dL ρ){l l':Nat}(h:ρ l=some l'):SR P mE ρ (Instr.beginRound l) (Instr.beginRound l'):=by
 unfold Instr.beginRound
 refine(jd hi h).bind' hi fun ρ1 l1 r r' hr=>?_
 have hs:r'.state=r.state:=by rw[hr.eq]
 refine(pF (l1.1 _ _ h) (.loop (by rw[show r'.pending=r.pending by rw[hr.eq]];exact(hr.turn .busy r.pending hr.ok.pending)))).aO l1.2 fun ρ2 l2 _=>?_
 rw[hs]
 cases r.state with
 | ready=>exact SR.pure rfl
 | _=>exact aQ (e:=.error _) zs zs
theorem Er(hi:dL ρ){l l':Nat}(h:ρ l=some l')(jump:Option Code)(hj:∀r:Loop,SB r→∀j,jump=some j→jr r.fn j):SR P VR ρ (Instr.endRound l jump) (Instr.endRound l' jump):=by
 unfold Instr.endRound
 refine(jd hi h).bind' hi fun ρ1 l1 r r' hr=>?_
 refine(pF (l1.1 _ _ h) (.loop (hr.turn _ jump (hj r hr.ok)))).aO l1.2 fun ρ2 l2 _=>SR.pure (.bool _)
theorem vg(hi:dL ρ){l l':Nat}(h:ρ l=some l'):SR P (fun _ a b=>a=b∧∀j,a=some j→∃f,jr f j) ρ (Instr.endLoop l) (Instr.endLoop l'):=by
 unfold Instr.endLoop
 refine(jd hi h).bind' hi fun ρ1 l1 r r' hr=>?_
 have hs:r'.state=r.state:=by rw[hr.eq]
 have hp:r'.pending=r.pending:=by rw[hr.eq]
 rw[hs]
 have fin:∀ {ρ2:Ren} (l2:Ext ρ1 ρ2),SR P (fun _ a b=>a=b∧∀j,a=some j→∃f,jr f j) ρ2 (do setObj l (.loop {r with state:=.exhausted });pure r.pending) (do setObj l' (.loop {r' with state:=.exhausted });pure r'.pending):=by
  intro ρ2 l2
  refine(pF ((l1.trans l2).1 _ _ h) (.loop (by rw[hp];exact(hr.mono l2.1).turn .exhausted r.pending hr.ok.pending))).aO l2.2 fun ρ3 l3 _=>SR.pure ⟨hp.symm,fun j e=>⟨_,hr.ok.pending j e⟩⟩
 cases r.state == LoopState.busy with
 | true=>exact aQ (e:=.error _) zs zs
 | false=>exact fin (.refl l1.2)
theorem uQ(hi:dL ρ){l l':Nat}(h:ρ l=some l'):SR P (fun _ a b=>a=[]∧b=[]) ρ (Instr.takeDeferred l) (Instr.takeDeferred l'):=by
 unfold Instr.takeDeferred
 refine(jM h).bind' hi fun ρ1 l1 o o' ho=>?_
 cases ho with
 | defs hd=>
   rcases hd with rfl|rfl
   ·exact zT
   ·exact(pF (l1.1 _ _ h) (.defs (.inl rfl))).aO l1.2 fun _ _ _=>SR.pure ⟨rfl,rfl⟩
 | _=>exact zT
theorem Bp{p:Array Tmp}:∀ {a a':Array Value},dW ρ a a'→∀ {t t':Array Value},dW ρ t t'→dW ρ ((p.zip a).foldl (fun t (i,v)=>t.setIfInBounds i v) t) ((p.zip a').foldl (fun t (i,v)=>t.setIfInBounds i v) t'):=by
 intro a a' ha t t' ht
 rw[← Array.foldl_toList,← Array.foldl_toList,Array.toList_zip,Array.toList_zip]
 have hl:=ha.list
 generalize a.toList=x at hl
 generalize a'.toList=x' at hl
 generalize p.toList=q
 clear ha
 induction hl generalizing q t t' with
 | nil=>simp;exact ht
 | cons hv _ ih=>
   cases q with
   | nil=>simp;exact ht
   | cons i q=>simp only[List.zip_cons_cons,List.foldl_cons];exact ih (ht.set i hv) q
def gC(ρ:Ren):Next→Next→Prop
 | .round l f t a b,n=>∃l' t',n=.round l' f t' a b∧ρ l=some l'∧dW ρ t t'∧jr f a∧jr f b
 | _,_=>False
theorem DN(hi:dL ρ){l l':Nat}(h:ρ l=some l'){a a':Array Value}(ha:dW ρ a a'):SR P gC ρ (Instr.yield l a) (Instr.yield l' a'):=by
 unfold Instr.yield
 refine(jd hi h).bind' hi fun ρ1 l1 r r' hr=>?_
 have e1:r'.params=r.params:=by rw[hr.eq]
 have e2:r'.fn=r.fn:=by rw[hr.eq]
 have e3:r'.assign=r.assign:=by rw[hr.eq]
 have e4:r'.body=r.body:=by rw[hr.eq]
 rw[e1,e2,e3,e4,← ha.1]
 by_cases c:a.size=r.params.size
 ·simp only[c,ne_eq,not_true_eq_false,if_false]
  exact SR.pure ⟨l',_,rfl,l1.1 _ _ h,Bp (ha.mono l1.1) hr.tmps,hr.ok.assign,hr.ok.body⟩
 ·simp only[ne_eq,c,not_false_eq_true,if_true]
  exact zT
theorem YC(hi:dL ρ)(ts:Array TypeId)(t:TypeId){x x':Value}(hx:VR ρ x x'):SR P VR ρ (Builtin.len_ ts t #[x]) (Builtin.len_ ts t #[x']):=by
 unfold Builtin.len_
 cases ts[0]? with
 | none=>exact zT
 | some u=>
   show SR P VR ρ (underlying u >>= _) (underlying u >>= _)
   refine(aK u).aO hi fun ρ1 l1 d=>?_
   have hx1:=hx.mono l1.1
   cases d with
   | string=>cases hx1 <;> first|exact SR.pure (.int _ _)|exact zT
   | array n e=>exact SR.pure (.int _ _)
   | pointer a=>
     refine(aK a).aO l1.2 fun ρ2 l2 d=>?_
     cases d <;> first|exact SR.pure (.int _ _)|exact zT
   | slice e=>cases hx1 <;> first|exact SR.pure (.int _ _)|exact zT
   | map k e=>
     cases hx1 with
     | YH=>exact SR.pure (.int _ _)
     | map hr=>
       refine(jM hr).bind' l1.2 fun ρ2 l2 o o' ho=>?_
       cases ho with
       | map c hm=>exact SR.pure (by rw[hm.1];exact .int _ _)
       | _=>exact zT
     | _=>exact zT
   | chan k e=>
     cases hx1 with
     | XP=>exact SR.pure (.int _ _)
     | chan hr=>
       refine(jM hr).bind' l1.2 fun ρ2 l2 o o' ho=>?_
       cases ho <;> exact zT
     | _=>exact zT
   | _=>exact zT
theorem UL(hi:dL ρ){x x' y y':Value}(hx:VR ρ x x')(hy:VR ρ y y'):SR P VR ρ (Builtin.min2 x y) (Builtin.min2 x' y'):=by
 unfold Builtin.min2
 cases hx with
 | int k n=>cases hy <;> first|exact SR.pure (.int _ _)|exact zT
 | float k n=>
   cases hy with
   | float k' n'=>
     dsimp only
     cases k.format.order n n' with
     | none=>exact(oL _).aO hi fun _ _ _=>SR.pure (.float _ _)
     | some o=>cases o <;> exact SR.pure (.float _ _)
   | _=>exact zT
 | string a=>
   cases hy with
   | string b=>exact SR.pure (.string _)
   | _=>exact zT
 | _=>cases hy <;> exact zT
theorem GZ:∀ {l l':List Value} {ρ:Ren},LR ρ l l'→dL ρ→∀ {v v':Value},VR ρ v v'→SR P VR ρ (l.foldlM Builtin.min2 v) (l'.foldlM Builtin.min2 v'):=by
 intro l
 induction l with
 | nil=>intro l' ρ h;cases h;exact fun _ _ _ hv=>SR.pure hv
 | cons x l ih=>
   intro l' ρ h
   cases h with
   | cons h hl=>
     intro hi v v' hv
     simp only[List.foldlM_cons]
     exact(UL hi hv h).bind' hi fun ρ1 l1 a a' ha=>ih (hl.mono l1.1) l1.2 ha
theorem YG(hi:dL ρ)(ts:Array TypeId)(t:TypeId){x x':Array Value}(hx:dW ρ x x'):SR P VR ρ (Builtin.min_ ts t x) (Builtin.min_ ts t x'):=by
 unfold Builtin.min_
 have h:=hx.list
 generalize x.toList=l at h⊢
 generalize x'.toList=l' at h⊢
 cases h with
 | nil=>exact zT
 | cons hv hl=>exact GZ hl hi hv
theorem PK{x x':Value}(h:VR ρ x x'):SR P mE ρ (Builtin.lenOf x) (Builtin.lenOf x'):=by
 cases h <;> first|exact SR.pure rfl|exact zT
theorem nR(hi:dL ρ)(s n:Nat){x x':Value}(h:VR ρ x x'):SR P dW ρ (Builtin.firstCells s n x) (Builtin.firstCells s n x'):=by
 cases h with
 | yL l c=>exact SR.pure (.nil ρ)
 | sl l c ha=>exact qy hi ha _
 | string s=>exact SR.pure ⟨rfl,fun i h h'=>by simp only[Array.getElem_map];exact .int _ _⟩
 | _=>exact zT
def MJ(e:TypeId)(size n:Nat)(zeros:Bool)(x:Value):Sem (Array Value):=
 if !zeros then Builtin.firstCells size n x
 else if n * size=0 then pure #[]
 else do pure (Builtin.zeroCells (← zeroValue e).cells n)
def Ec(e:TypeId)(size sLen sCap n:Nat)(zeros:Bool)(s x:Value):Sem Value:=do
 let newCap ← choose (.appendCap (sLen+n) sCap e)
 askRoom (newCap * (← typeInfo e).bytes)
 let old ← Builtin.firstCells size sLen s
 let new ← MJ e size n zeros x
 let rest:=Builtin.zeroCells (← zeroValue e).cells (newCap - (sLen+n))
 pure (.slice (some (← newRow e (old ++ new ++ rest))) (sLen+n) newCap)
def Ed(e:TypeId)(size sLen sCap n:Nat)(zeros:Bool)(base:Option Addr)(s x:Value):Sem Value:=do
 if Builtin.nextslicecap (sLen+n) sCap * (← typeInfo e).bytes > 2 ^ 48 then(if zeros then runtimePanic (.error BE) else do
  if !(← Builtin.mayShare size sLen n base x) then mark .noRoom
  unsupported (.resourceLimit BT))
 Ec e size sLen sCap n zeros s x
def xq(e:TypeId)(size sLen sCap n:Nat)(zeros:Bool)(base:Option Addr)(s x:Value):Sem Value:=do
 if sLen+n≤sCap then
  let new ← MJ e size n zeros x
  if let some a:=base then storeCells (a.add (sLen * size)) new.toList
  pure (.slice base (sLen+n) sCap)
 else
  if ((sLen+n:Nat):Int) > IntKind.i64.max∧(zeros∨(← typeInfo e).bytes=0) then runtimePanic (.error BE)
  Ed e size sLen sCap n zeros base s x
theorem Co(hi:dL ρ)(e:TypeId)(size n:Nat){x x':Value}(hx:VR ρ x x'):SR P dW ρ (MJ e size n false x) (MJ e size n false x'):=nR hi size n hx
theorem Cc{z z':Array Value}(h:dW ρ z z')(n:Nat):dW ρ (Builtin.zeroCells z n) (Builtin.zeroCells z' n):=by
 unfold Builtin.zeroCells
 rw[h.1]
 refine⟨zs,fun i a b=>?_⟩
 simp only[Array.getElem_map,Array.getElem_range]
 have hs:0<z'.size:=by
  rcases Nat.eq_zero_or_pos z'.size with h0|h0
  ·simp[h0] at a
  ·exact h0
 have h1:i % z'.size<z'.size:=Nat.mod_lt _ hs
 have h2:i % z'.size<z.size:=by rw[h.1];exact h1
 rw[getElem!_pos z _ h2,getElem!_pos z' _ h1]
 exact h.2 _ _ _
theorem Gf(n:Nat):SR P mE ρ (askRoom n) (askRoom n):=by
 unfold askRoom
 split
 ·exact⟨_,rfl,rfl,(),rfl,rfl⟩
 ·exact SR.pure rfl
theorem JX(hi:dL ρ){e:TypeId}(hz:Ow P e)(size sLen sCap n:Nat){s s' x x':Value}(hs:VR ρ s s')(hx:VR ρ x x'):SR P VR ρ (Ec e size sLen sCap n false s x) (Ec e size sLen sCap n false s' x'):=by
 unfold Ec
 refine(oL _).aO hi fun ρ1 l1 newCap=>?_
 refine(gD e).aO l1.2 fun ρ2 l2 ti=>?_
 refine(Gf _).aO l2.2 fun ρ3 l3 _=>?_
 have l13:=l1.1.trans (l2.1.trans l3.1)
 refine(nR l3.2 size sLen (hs.mono l13)).bind' l3.2 fun ρ4 l4 old old' ho=>?_
 refine(Co l4.2 e size n (hx.mono (l13.trans l4.1))).bind' l4.2 fun ρ5 l5 new new' hn=>?_
 refine(iX l5.2 hz).bind' l5.2 fun ρ6 l6 z z' hzz=>?_
 refine(qY e (((ho.mono (l5.1.trans l6.1)).append (hn.mono l6.1)).append (Cc hzz.cells _))).bind' l6.2 fun ρ7 l7 a a' ha=>?_
 exact SR.pure (.sl _ _ ha)
def kP{α:Type}(c:Bool)(u:String):Sem α:=do
 if !c then mark .noRoom
 unsupported (.resourceLimit u)
theorem om{γ δ:Type}{Q:Ren→γ→δ→Prop}(c:Bool)(u:String):SR P Q ρ (kP c u) (kP c u):=by
 cases c
 ·exact⟨_,rfl,rfl,zT⟩
 ·exact zT
theorem jD{α:Type}(c:Bool)(u:String):Dead (kP c u:Sem α):=by
 cases c <;> exact zT
def iN(size n:Nat)(b:Option Addr)(x:Value)(there:Bool):Sem Bool:=do
 if !there then return true
 match x with
 | .slice (some b1) _ _=>do pure (!(← Builtin.holdsCells b1 (n * size)) || b.any (·.block == b1.block))
 | _=>pure false
theorem Dh{α:Type}(size n:Nat)(b:Option Addr)(x:Value)(there:Bool)(u:String):Dead (iN size n b x there >>= fun c=>(kP c u:Sem α)):=by
 unfold iN
 cases there with
 | false=>exact jD true u
 | true=>
   cases x with
   | slice o l c=>
     cases o with
     | none=>exact jD false u
     | some b1=>
       intro r
       cases r <;> (dsimp only[Sem.bind,bind,pure];exact jD _ u)
   | _=>exact jD false u
theorem Vm{γ δ:Type}{Q:Ren→γ→δ→Prop}(size n:Nat){x x':Value}(hx:VR ρ x x')(u:String):
 SR P Q ρ (iN size n none x true >>= fun c=>kP c u) (iN size n none x' true >>= fun c=>kP c u):=by
 unfold iN
 cases hx with
 | sl l c ha=>
   refine⟨_,_,rfl,ha.1,fun r=>?_⟩
   have e1:=ha.2.1
   have e2:=ha.2.2
   cases r with
   | none=>dsimp only[Sem.bind,bind,pure];exact om (!false || false) u
   | some r=>dsimp only[Sem.bind,bind,pure];rw[e1,e2];exact om _ u
 | _=>exact om false u
theorem vF(size sLen n:Nat)(b:Option Addr)(x:Value):Builtin.mayShare size sLen n b x=(match b with
 | none=>iN size n none x true
 | some a=>Builtin.holdsCells a (sLen * size) >>= fun h=>frozen (a.add (sLen / 2 * size)) >>= fun z=>iN size n (some a) x (h && !z)):=by
 cases b <;> rfl
theorem IQ{γ δ:Type}{Q:Ren→γ→δ→Prop}(size sLen n:Nat){b b':Option Addr}(hb:FZ ρ b b'){x x':Value}(hx:VR ρ x x')(u:String):
 SR P Q ρ (Builtin.mayShare size sLen n b x >>= fun c=>kP c u) (Builtin.mayShare size sLen n b' x' >>= fun c=>kP c u):=by
 rw[vF,vF]
 rcases hb with⟨rfl,rfl⟩|⟨a,a',rfl,rfl,ha⟩
 ·exact Vm size n hx u
 ·refine⟨_,_,rfl,ha.1,fun r=>?_⟩
  cases r with
  | none=>exact fun z=>Dh size n (some a) x (false && !z) u
  | some r=>
    obtain⟨t,m⟩:=r
    exact fun z=>Dh size n (some a) x ((a.spot.isNone && decide (a.off+sLen * size≤m)) && !z) u
theorem JY(hi:dL ρ){e:TypeId}(hz:Ow P e)(size sLen sCap n:Nat){b b':Option Addr}(hb:FZ ρ b b'){s s' x x':Value}(hs:VR ρ s s')(hx:VR ρ x x'):SR P VR ρ (Ed e size sLen sCap n false b s x) (Ed e size sLen sCap n false b' s' x'):=by
 unfold Ed
 refine(gD e).aO hi fun ρ1 l1 ti=>?_
 split
 ·have:=IQ (P:=P) (Q:=fun _ (_ _:Unit)=>False) size sLen n (hb.mono l1.1) (hx.mono l1.1) BT
  exact SR.bind' l1.2 this fun _ _ _ _ h=>h.elim
 ·exact JX l1.2 hz size sLen sCap n (hs.mono l1.1) (hx.mono l1.1)
theorem JZ(hi:dL ρ){e:TypeId}(hz:Ow P e)(size sLen sCap n:Nat){b b':Option Addr}(hb:FZ ρ b b'){s s' x x':Value}(hs:VR ρ s s')(hx:VR ρ x x'):SR P VR ρ (xq e size sLen sCap n false b s x) (xq e size sLen sCap n false b' s' x'):=by
 unfold xq
 split
 ·refine(Co hi e size n hx).bind' hi fun ρ1 l1 new new' hn=>?_
  rcases hb with⟨rfl,rfl⟩|⟨a,a',rfl,rfl,ha⟩
  ·exact SR.pure (.yL _ _)
  ·have ha1:=ha.mono l1.1
   exact(ou l1.2 (ha1.add (sLen * size)) hn.list).aO l1.2 fun ρ2 l2 _=>SR.pure (.sl _ _ (ha1.mono l2.1))
 ·refine(gD e).aO hi fun ρ1 l1 ti=>?_
  split
  ·exact SR.bind' (Q:=fun _ (_ _:Unit)=>False) l1.2 (aQ zs zs) fun _ _ _ _ h=>h.elim
  ·exact JY l1.2 hz size sLen sCap n (hb.mono l1.1) (hs.mono l1.1) (hx.mono l1.1)
structure Xd(P:Program)(ts:Array TypeId):Prop where
 zero:∀t e,ts[0]? =some t→P.underlying t=some (.slice e)→Ow P e
 plain:∀t k,ts[1]? =some t→P.underlying t≠some (.int k)
theorem J5(hi:dL ρ)(ts:Array TypeId)(t:TypeId)(hT:Xd P ts){x x' y y':Value}(hx:VR ρ x x')(hy:VR ρ y y'):SR P VR ρ (Builtin.append_ ts t #[x,y]) (Builtin.append_ ts t #[x',y']):=by
 unfold Builtin.append_
 cases ht:ts[0]? with
 | none=>exact zT
 | some u=>
   show SR P VR ρ (underlying u >>= _) (underlying u >>= _)
   refine iy fun d hd=>?_
   cases d with
   | slice e=>
     have hz:=hT.zero u e ht hd
     have go:∀ {ρ1:Ren},Ext ρ ρ1→∀ (size sLen sCap:Nat) {b b':Option Addr},FZ ρ1 b b'→VR ρ1 x x'→SR P VR ρ1 (Builtin.lenOf y >>= fun n=>xq e size sLen sCap n false b x y) (Builtin.lenOf y' >>= fun n=>xq e size sLen sCap n false b' x' y'):=fun l size sLen sCap b b' hb hx=>
      (PK (hy.mono l.1)).aO l.2 fun ρ2 l2 n=>JZ l2.2 hz size sLen sCap n (hb.mono l2.1) (hx.mono l2.1) (hy.mono (l.1.trans l2.1))
     cases hx with
     | yL l c=>
       show SR P VR ρ (sizeOf e >>= _) (sizeOf e >>= _)
       refine(aU hi e).aO hi fun ρ1 l1 size=>?_
       cases ht1:ts[1]? with
       | none=>exact go l1 size l c (.inl ⟨rfl,rfl⟩) (.yL l c)
       | some xt=>
         show SR P VR ρ1 (underlying xt >>= _) (underlying xt >>= _)
         refine iy fun d hd1=>?_
         have hp:=hT.plain xt
         cases d with
         | int k=>exact absurd hd1 (hp k ht1)
         | _=>exact go l1 size l c (.inl ⟨rfl,rfl⟩) (.yL l c)
     | sl l c ha=>
       show SR P VR ρ (sizeOf e >>= _) (sizeOf e >>= _)
       refine(aU hi e).aO hi fun ρ1 l1 size=>?_
       cases ht1:ts[1]? with
       | none=>exact go l1 size l c (.inr ⟨_,_,rfl,rfl,ha.mono l1.1⟩) (.sl l c (ha.mono l1.1))
       | some xt=>
         show SR P VR ρ1 (underlying xt >>= _) (underlying xt >>= _)
         refine iy fun d hd1=>?_
         have hp:=hT.plain xt
         cases d with
         | int k=>exact absurd hd1 (hp k ht1)
         | _=>exact go l1 size l c (.inr ⟨_,_,rfl,rfl,ha.mono l1.1⟩) (.sl l c (ha.mono l1.1))
     | _=>exact zT
   | _=>exact zT
def NR(F:FuncId→Prop)(ρ:Ren):Next→Next→Prop
 | .value v,n=>∃v',n=.value v'∧VR ρ v v'
 | .skip,n=>n=.skip
 | .enter f a,n=>∃a',n=.enter f a'∧dW ρ a a'∧F f
 | .round l f t a b,n=>∃l' t',n=.round l' f t' a b∧ρ l=some l'∧dW ρ t t'∧jr f a∧jr f b
 | _,_=>False
def gv(P:Program)(F:FuncId→Prop)(v:Value):Prop:=∀g first cap,v=.func (.func g) first cap→∃f c,F g∧P.funcs[g]? =some f∧f.body=some c∧(f.name == "runtime.NumGoroutine")=false
def Sup(P:Program)(F:FuncId→Prop)(ev:Operand→Value)(o:Oper):Prop:=
 match o.op with
 | .move _| .assign _| .pick _ _ _| .box _ _| .load _ _| .store _ _ _| .slice _ _ _ _ _| .fieldAddr _ _ _| .field _ _ _| .indexAddr _ _ _| .index _ _ _| .extract _ _=>True
 | .alloc t| .build t _=>Ow P t
 | .buildSlice t _ _=>∀e,P.underlying t=some (.slice e)→Ow P e
 | .convert s d _=>RF P s d
 | .makeInterface _ _=>True
 | .binOp op t _ _ _=>bF op=true∨D7 P t
 | .unOp op _ _=>op=.not
 | .makeFunc fn _ _=>∃g,fn=.func g
 | .call c=>match c.callee with
   | .builtin b=>(b=.len∧c.args.size=1)∨b=.min∨(b=.append∧c.args.size=2∧Xd P c.argTypes)
   | .value f=>gv P F (ev f)
   | .invoke _ _=>False
 | _=>False
theorem EP{ev ev':Operand→Value}{xs:Array Operand}(h:∀x∈xs,VR ρ (ev x) (ev' x)):dW ρ (xs.map ev) (xs.map ev'):=
 ⟨zs,fun i a b=>by simp only[Array.getElem_map];exact h _ (Array.getElem_mem _)⟩
theorem yB{ev ev':Operand→Value}{xs:Array (Nat × Operand)}(h:∀x∈xs,VR ρ (ev x.2) (ev' x.2)):jR ρ (xs.map fun(i,x)=>(i,ev x)).toList (xs.map fun(i,x)=>(i,ev' x)).toList:=by
 obtain⟨l⟩:=xs
 simp only[List.map_toArray]
 have h':∀x∈l,VR ρ (ev x.2) (ev' x.2):=fun x hx=>h x (by simpa using hx)
 clear h
 induction l with
 | nil=>exact .nil
 | cons a l ih=>exact .cons _ (h' a zs) (ih fun x hx=>h' x (by simp[hx]))
theorem jR.mono{ρ':Ren}(l:Le ρ ρ'){x x':List (Nat × Value)}(h:jR ρ x x'):jR ρ' x x':=by
 induction h with
 | nil=>exact .nil
 | cons i h _ ih=>exact .cons i (h.mono l) ih
theorem LG{ev ev':Operand→Value}{x:Option Operand}(h:∀y∈x,VR ρ (ev y) (ev' y)):qN ρ (x.map ev) (x.map ev'):=by
 cases x with
 | none=>exact .inl ⟨rfl,rfl⟩
 | some y=>exact .inr ⟨_,_,rfl,rfl,h y rfl⟩
theorem eZ{F:FuncId→Prop}(hi:dL ρ){s s':Sem Value}(h:SR P VR ρ s s'):SR P (NR F) ρ (do pure (.value (← s))) (do pure (.value (← s'))):=h.bind' hi fun _ _ _ _ hv=>SR.pure ⟨_,rfl,hv⟩
theorem bo{F:FuncId→Prop}(hi:dL ρ){s s':Sem Unit}(h:SR P mE ρ s s'):SR P (NR F) ρ (do s;pure .skip) (do s';pure .skip):=h.bind' hi fun _ _ _ _ _=>SR.pure rfl
theorem Cr{F:FuncId→Prop}(hi:dL ρ){v v':Value}(hl:gv P F v)(hv:VR ρ v v'){a a':Array Value}(ha:dW ρ a a'):SR P (NR F) ρ (do let d ← Deferred.ofValue v a;invoke d.target d.args) (do let d ← Deferred.ofValue v' a';invoke d.target d.args):=by
 cases hv with
 | func g e1 h1 e2 h2=>
   obtain⟨f,c,hF,hg,hb,hn⟩:=hl _ _ _ rfl
   have key:∀ (x y:Array Value),(do let d ← Deferred.ofValue (.func (.func g) x y) a;invoke d.target d.args:Sem Next)=callFunc g ((x ++ a) ++ y):=fun _ _=>rfl
   have key':∀ (x y:Array Value),(do let d ← Deferred.ofValue (.func (.func g) x y) a';invoke d.target d.args:Sem Next)=callFunc g ((x ++ a') ++ y):=fun _ _=>rfl
   rw[key,key']
   have hbn:f.body.isNone=false:=by rw[hb];rfl
   have hargs:=(dW.append (ρ:=ρ) (dW.append ⟨e1,h1⟩ ha) ⟨e2,h2⟩)
   unfold callFunc
   refine⟨_,rfl,?_⟩
   show SR P (NR F) ρ (match P.funcs[g]? with|none=>_|some fn=>_) (match P.funcs[g]? with|none=>_|some fn=>_)
   rw[hg]
   simp only[hn,hbn,Bool.false_eq_true,if_false]
   exact SR.pure ⟨_,rfl,hargs,hF⟩
 | yield hr=>
   show SR P (NR F) ρ (Instr.yield _ (#[] ++ a)) (Instr.yield _ (#[] ++ a'))
   rw[Array.empty_append,Array.empty_append]
   refine SR.imp (fun ρ1 n n' h=>?_) hi (DN hi hr ha)
   cases n <;> first|exact h.elim|exact h
 | nilFunc=>exact aQ (e:=.nilDeref) zs zs
 | _=>exact zT
theorem mC{α:Type}(a:Array α)(h:a.size=1):∃x,a=#[x]:=by
 obtain⟨l⟩:=a
 rcases l with _|⟨x,_|⟨y,l⟩⟩
 ·simp at h
 ·exact⟨x,rfl⟩
 ·simp at h
theorem oT{α:Type}(a:Array α)(h:a.size=2):∃x y,a=#[x,y]:=by
 obtain⟨l⟩:=a
 rcases l with _|⟨x,_|⟨y,_|⟨z,l⟩⟩⟩
 ·simp at h
 ·simp at h
 ·exact⟨x,y,rfl⟩
 ·simp at h
theorem xK(hg:P.globals.size=0){F:FuncId→Prop}(hi:dL ρ){ev ev':Operand→Value}{o:Oper}(hs:Sup P F ev o)(he:∀x∈o.op.operands,VR ρ (ev x) (ev' x)):SR P (NR F) ρ (execOp ev o) (execOp ev' o):=by
 unfold Sup at hs
 unfold execOp
 cases hop:o.op <;> rw[hop] at hs <;> simp only at hs
 all_goals (rw[hop] at he;dsimp only)
 case move x=>exact SR.pure ⟨_,rfl,he x (by simp[Op.operands])⟩
 case assign x=>exact SR.pure ⟨_,rfl,he x (by simp[Op.operands])⟩
 case pick c a b=>
  refine(J8 (he c (by simp[Op.operands]))).aO hi fun ρ1 l1 x=>SR.pure ⟨_,rfl,?_⟩
  cases x
  ·exact(he b (by simp[Op.operands])).mono l1.1
  ·exact(he a (by simp[Op.operands])).mono l1.1
 case alloc t=>exact eZ hi (Oy hi hs)
 case box t x=>exact eZ hi (XG hi t (he x (by simp[Op.operands])))
 case build t ps=>
  have hp:∀x∈ps,VR ρ (ev x.2) (ev' x.2):=fun x hx=>he x.2 (by simp only[Op.operands];simp;exact⟨x.1,by simpa using hx⟩)
  exact eZ hi (OI hi hs (yB hp) (fun l=>(yB hp).mono l))
 case buildSlice t n ps=>
  have hp:∀x∈ps,VR ρ (ev x.2) (ev' x.2):=fun x hx=>he x.2 (by simp only[Op.operands];simp;exact⟨x.1,by simpa using hx⟩)
  exact eZ hi (xD hi hs n (fun l=>(yB hp).mono l))
 case convert s d x=>exact eZ hi (Gz hs (he x (by simp[Op.operands])))
 case makeInterface t x=>exact eZ hi (sS t (he x (by simp[Op.operands])))
 case load t a=>exact eZ hi (Lf hi t (he a (by simp[Op.operands])))
 case store t a v=>exact bo hi (Ja hi t (he a (by simp[Op.operands])) (he v (by simp[Op.operands])))
 case binOp op t x y u=>
  have hx:=he x (by simp[Op.operands])
  have hy:=he y (by simp[Op.operands])
  refine eZ hi ?_
  cases ho:bF op with
  | true=>
    rw[iU ho,iU ho]
    exact OE hg hi op ho t hx hy
  | false=>
    rw[ho] at hs
    have hT:D7 P t:=by rcases hs with h|h;cases h;exact h
    exact(GJ hT hi op x y hx hy).aO hi fun ρ1 l1 _=>OD hg hT l1.2 op ho (hx.mono l1.1) (hy.mono l1.1)
 case unOp op t x=>subst hs;exact eZ hi (Rf (he x (by simp[Op.operands])))
 case makeFunc fn a b=>
  refine eZ hi (SR.pure ?_)
  have h1:=EP (ρ:=ρ) (ev:=ev) (ev':=ev') (xs:=a) fun x hx=>he x (by simp[Op.operands,hx])
  have h2:=EP (ρ:=ρ) (ev:=ev) (ev':=ev') (xs:=b) fun x hx=>he x (by simp[Op.operands,hx])
  obtain⟨g,rfl⟩:=hs
  exact .func g h1.1 h1.2 h2.1 h2.2
 case slice t x a b c=>
  exact eZ hi (IX hi t (he x (by simp[Op.operands])) (LG fun y hy=>he y (by cases hy;simp[Op.operands])) (LG fun y hy=>he y (by cases hy;simp[Op.operands])) (LG fun y hy=>he y (by cases hy;simp[Op.operands])))
 case fieldAddr t x i=>exact eZ hi (GU hi t (he x (by simp[Op.operands])) i)
 case field t x i=>exact eZ hi (Po hi t (he x (by simp[Op.operands])) i)
 case indexAddr t x i=>exact eZ hi (Ic hi t (he x (by simp[Op.operands])) (he i (by simp[Op.operands])))
 case index t x i=>exact eZ hi (PD hi t (he x (by simp[Op.operands])) (he i (by simp[Op.operands])))
 case extract x i=>exact eZ hi (GQ (he x (by simp[Op.operands])) i)
 case call c=>
  have hargs:dW ρ (c.args.map ev) (c.args.map ev'):=EP fun x hx=>he x (by simp only[Op.operands,Call.operands];exact Array.mem_append.2 (.inr hx))
  unfold resolve
  cases hc:c.callee with
  | invoke r n=>rw[hc] at hs;exact hs.elim
  | value f=>
    rw[hc] at hs
    have hf:=he f (by simp[Op.operands,Call.operands,hc])
    exact Cr hi hs hf hargs
  | builtin b=>
    rw[hc] at hs
    rcases hs with⟨rfl,h1⟩|rfl|⟨rfl,h1,hT⟩
    ·obtain⟨x,hx⟩:∃x,c.args=#[x]:=mC _ h1
     have hv:=he x (by simp[Op.operands,Call.operands,hx])
     have e:∀f:Operand→Value,Array.map f c.args=#[f x]:=fun f=>by rw[hx];simp
     have:=eZ (F:=F) hi (YC (P:=P) hi c.argTypes o.type hv)
     rw[← e ev,← e ev'] at this
     exact this
    ·exact eZ hi (YG hi c.argTypes o.type hargs)
    ·obtain⟨x,y,hx⟩:∃x y,c.args=#[x,y]:=oT _ h1
     have hv:=he x (by simp[Op.operands,Call.operands,hx])
     have hw:=he y (by simp[Op.operands,Call.operands,hx])
     have e:∀f:Operand→Value,Array.map f c.args=#[f x,f y]:=fun f=>by rw[hx];simp
     have:=eZ (F:=F) hi (J5 (P:=P) hi c.argTypes o.type hT hv hw)
     rw[← e ev,← e ev'] at this
     exact this
end
section
variable[Inhabited aT]
open Go.Conc
variable{P:Program}{ρ:Ren}
def qM:Operand→Prop
 | .const v=>∀ρ,VR ρ v v
 | .global _=>False
 | _=>True
def qL(P:Program)(o:Oper):Prop:=(∀x∈o.op.operands,qM x)∧
 match o.op with
 | .move _| .assign _| .pick _ _ _| .box _ _| .load _ _| .store _ _ _| .slice _ _ _ _ _| .fieldAddr _ _ _| .field _ _ _| .indexAddr _ _ _| .index _ _ _| .extract _ _| .makeInterface _ _| .panic _=>True
 | .alloc t| .build t _=>Ow P t
 | .buildSlice t _ _=>∀e,P.underlying t=some (.slice e)→Ow P e
 | .convert s d _=>RF P s d
 | .binOp op t _ _ _=>bF op=true∨D7 P t
 | .unOp op _ _=>op=.not
 | .makeFunc fn _ _=>∃g,fn=.func g
 | .call c=>match c.callee with
   | .builtin b=>(b=.len∧c.args.size=1)∨b=.min∨(b=.append∧c.args.size=2∧Xd P c.argTypes)
   | .value f=>True
   | .invoke _ _=>False
 | _=>False
def gW(P:Program):Code→Prop
 | .skip| .exit _| .ret| .label _| .refuse _=>True
 | .region _ ops _=>∀o∈ops,qL P o
 | .seq a b=>gW P a∧gW P b
 | .cond c a b=>qM c∧gW P a∧gW P b
 | .block _ b| .loop b| .scope b=>gW P b
 | .rangeFunc f _ a b=>qM f∧gW P a∧gW P b
 | .goto _=>False
def kS(P:Program):Item→Prop
 | .code c| .inLoop c| .inScope c=>gW P c
 | .inBlock _| .inRangeFunc _| .endRangeFunc _| .beginRound=>True
 | .inRegion ops _=>∀o∈ops,qL P o
 | _=>False
structure gV(P:Program)(F:FuncId→Prop):Prop where
 sv:∀g,F g→∃f c,P.funcs[g]? =some f∧f.body=some c∧(f.name == "runtime.NumGoroutine")=false∧gW P c
 env:∀f c,jr f c↔F f∧gW P c
structure jP(P:Program)(F:FuncId→Prop)(fr:Frame):Prop where
 fn:F fr.fn
 todo:∀i∈fr.todo,kS P i
 defers:∃x:List Nat,fr.defers=x.map jq
 mode:fr.mode=.run∨fr.mode=.returning
 kind:fr.kind=.normal
def lq(fr:Frame)(L:List Frame)(jump:Option Code):Sem (Frame × List Frame):=
 match fr.roundOf with
 | none=>match jump with
   | none|some .ret=>pure ({fr with mode:=.returning },L)
   | _=>stuck BY
 | some l=>match L with
   | c :: rest=>do
     let v ← Instr.endRound l jump
     pure (c.finish v,rest)
   | []=>stuck "a round without a caller"
def qm(v:Value)(a:Array Value):Sem Next:=do
 let d ← Deferred.ofValue v a
 invoke d.target d.args
def vH(P:Program)(fr:Frame)(L:List Frame):Next→Sem (Frame × List Frame)
 | .value v=>pure (fr.finish v,L)
 | .skip=>pure (fr.finish undef,L)
 | .enter f args=>pure (Frame.enter P f args .normal,fr :: L)
 | .round l g t a b=>pure (Frame.round l g t a b .normal,fr :: L)
 | _=>stuck "another end of an operation"
def vC(P:Program)(fr:Frame)(L:List Frame):Next→Sem (Frame × List Frame)
 | .enter f args=>pure (Frame.enter P f args .normal,fr :: L)
 | .round l g t a b=>pure (Frame.round l g t a b .normal,fr :: L)
 | _=>stuck XX
def sN:Op→Bool
 | .panic _=>true
 | _=>false
def gu(P:Program)(fr:Frame)(L:List Frame):Sem (Frame × List Frame):=
 match fr.mode with
 | .panicking _=>stuck "panicking"
 | .returning=>
   match fr.defers with
   | {target:=.collected r,.. } :: ds=>do
     let calls ← Instr.takeDeferred r
     pure ({fr with defers:=calls ++ ds },L)
   | _ :: _=>stuck "a deferred call"
   | []=>
     match P.funcs[fr.fn]?,L with
     | some fn,c :: rest=>do
       let v ← results fn fr.tmps
       pure (c.finish v,rest)
     | _,_=>stuck "the last return"
 | .run=>
   match fr.todo with
   | []=>lq fr L none
   | .code .ret :: _=>lq fr L (some .ret)
   | .code .skip :: k| .code (.label _) :: k| .inBlock _ :: k| .inScope _ :: k=>pure ({fr with todo:=k },L)
   | .code (.seq a b) :: k=>pure ({fr with todo:=.code a :: .code b :: k },L)
   | .code (.cond c thn els) :: k=>
     match fr.eval c with
     | .bool b=>pure ({fr with todo:=.code (if b then thn else els) :: k },L)
     | _=>stuck X'
   | .code (.block id body) :: k=>pure ({fr with todo:=.code body :: .inBlock id :: k },L)
   | .code (.loop body) :: k| .inLoop body :: k=>pure ({fr with todo:=.code body :: .inLoop body :: k },L)
   | .code (.scope body) :: k=>pure ({fr with todo:=.code body :: .inScope body :: k },L)
   | .code (.exit id) :: k=>
     match exitTo id k with
     | some k'=>pure ({fr with todo:=k' },L)
     | none=>lq fr L (some (.exit id))
   | .code (.rangeFunc f params assign body) :: k=>do
     let e ← Instr.enterLoop fr.fn fr.tmps params assign body fr.roundOf
     let n ← qm (fr.eval f) #[.func (.yield e.1) #[] #[]]
     vC P {fr with todo:=.inRangeFunc e.1 :: k,defers:=e.2 ++ fr.defers } L n
   | .beginRound :: _=>
     match fr.roundOf with
     | none=>stuck rm
     | some l=>do
       Instr.beginRound l
       pure (fr.finish undef,L)
   | .endRangeFunc l :: k=>do
     let jump ← Instr.endLoop l
     pure ({fr with todo:=(jump.map Item.code).toList ++ k },L)
   | .code (.region id ops draw) :: k=>
     if !draw then pure ({fr with todo:=.inRegion ops (List.range ops.size) :: k },L)
     else do
      let t ← choose (.order fr.fn id)
      pure ({fr with todo:=.inRegion ops (Region.schedule (P.follows .mixedOrders) ops t) :: k },L)
   | .inRegion _ [] :: k=>pure ({fr with todo:=k },L)
   | .inRegion ops (i :: _) :: _=>
     if ((ops[i]?).map (Region.wanted · (yielded ops fr.tmps))).getD false then
      match ops[i]? with
      | none=>stuck "no operation here"
      | some o=>
        if sN o.op then stuck "a panic" else do
         let n ← execOp fr.eval o
         vH P fr L n
     else pure (fr.finish undef,L)
   | _=>stuck "not served"
theorem LQ{α:Type}(s:Sem α):∀ (w:World) (es:Array Event),s.runT P w es=((s.runT P w #[]).1,es ++ (s.runT P w #[]).2):=by
 have push:∀ (es:Array Event) (e:Event) (x:Array Event),es.push e ++ x=es ++ (#[].push e ++ x):=fun es e x=>by
  rw[Array.push_eq_append,Array.append_assoc];rfl
 induction s with
 | pure a=>intro w es;simp[Sem.runT,-Sem.runT_eq]
 | load m a k ih=>
   intro w es
   simp only[Sem.runT]
   cases w.cell? a with
   | some v=>
     simp only
     rw[ih v w (es.push _),ih v w (#[].push _)]
     dsimp only;rw[push]
   | none=>
     simp only
     cases w.farLoad P a (m == .atomic) with
     | ok r=>
       obtain⟨v,touched⟩:=r
       simp only
       rw[ih v w (es ++ _),ih v w (#[] ++ _)]
       simp[Array.append_assoc,-Sem.runT_eq]
     | error h=>simp
 | store m a v k ih=>
   intro w es
   have key:∀v:Value,(∀c,v≠.agg c)→(∀c,v≠.tuple c)→(Sem.store m a v k).runT P w es=(((Sem.store m a v k).runT P w #[]).1,es ++ ((Sem.store m a v k).runT P w #[]).2):=by
    intro v h1 h2
    have e:∀es:Array Event,(Sem.store m a v k).runT P w es=match w.cell? a with
     | some _=>
       if w.frozen? a then(.halt (.unsupported (.unsafePointer "a write to bytes that a string shares")) w,es)
       else k.runT P (w.setCell a v) (es.push ⟨.cell a,true,m == .atomic⟩)
     | none=>match w.farStore P a v (m == .atomic) with
       | .ok (w,touched)=>k.runT P w (es ++ touched.toArray.map (⟨.cell ·,true,m == .atomic⟩))
       | .error h=>(.halt h w,es):=by
     intro es
     cases v <;> first|rfl|exact absurd rfl (h1 _)|exact absurd rfl (h2 _)
    rw[e,e]
    cases w.cell? a with
    | some v0=>
      simp only
      split
      ·simp
      ·rw[ih _ (es.push _),ih _ (#[].push _)]
       dsimp only;rw[push]
    | none=>
      simp only
      cases w.farStore P a v (m == .atomic) with
      | ok r=>
        obtain⟨w1,touched⟩:=r
        simp only
        rw[ih w1 (es ++ _),ih w1 (#[] ++ _)]
        simp[Array.append_assoc,-Sem.runT_eq]
      | error h=>simp
   by_cases h1:∀c,v≠.agg c
   ·by_cases h2:∀c,v≠.tuple c
    ·exact key v h1 h2
    ·simp only[ne_eq,Classical.not_forall,Classical.not_not] at h2
     obtain⟨c,rfl⟩:=h2
     simp[Sem.runT,-Sem.runT_eq]
   ·simp only[ne_eq,Classical.not_forall,Classical.not_not] at h1
    obtain⟨c,rfl⟩:=h1
    simp[Sem.runT,-Sem.runT_eq]
 | new o k ih=>intro w es;simp only[Sem.runT];exact ih _ _ _
 | shape r k ih=>intro w es;simp only[Sem.runT];exact ih _ _ _
 | freeze a n k ih=>intro w es;simp only[Sem.runT];exact ih _ _
 | frozen a k ih=>intro w es;simp only[Sem.runT];exact ih _ _ _
 | getObj r k ih=>
   intro w es
   simp only[Sem.runT]
   cases w.heap[r]? with
   | none=>simp
   | some o=>
     cases o <;> first
      | (simp;done)
      | (simp only
         rw[ih _ w (es.push _),ih _ w (#[].push _)]
         dsimp only;rw[push])
 | setObj r o k ih=>
   intro w es
   simp only[Sem.runT]
   cases w.heap[r]? with
   | none=>simp
   | some o'=>
     cases o' <;> first
      | (simp;done)
      | (simp only
         rw[ih _ (es.push _),ih _ (#[].push _)]
         dsimp only;rw[push])
 | choose q k ih=>
   intro w es
   simp only[Sem.runT]
   split
   ·exact ih _ _ _
   ·exact ih _ _ _
 | sys c k ih=>
   intro w es
   simp only[Sem.runT]
   rw[ih _ _ (es.push _),ih _ _ (#[].push _)]
   dsimp only;rw[push]
 | program k ih=>intro w es;simp only[Sem.runT];exact ih _ _ _
 | mark m k ih=>
   intro w es
   simp only[Sem.runT]
   rw[ih _ (es.push _),ih _ (#[].push _)]
   dsimp only;rw[push]
 | halt h=>intro w es;simp[Sem.runT,-Sem.runT_eq]
end
section
variable[Inhabited aT]
variable{P:Program}{ρ:Ren}
def on(w:World)(τ:Tape):World:={w with tape:=τ }
@[simp] theorem Hv(w:World)(τ:Tape):(on w τ).heap=w.heap:=rfl
@[simp] theorem UY(w:World)(τ:Tape):(on w τ).drawn=w.drawn:=rfl
@[simp] theorem YO(w:World)(τ:Tape):(on w τ).tape=τ:=rfl
def Lc{α:Type}(P:Program)(s:Sem α)(w:World):Prop:=
 (∀h w1,s.run P w=.halt h w1→um h)∧
 ∀a w1,s.run P w=.ok a w1→w1.tape=w.tape∧w.drawn≤w1.drawn∧∀τ:Tape,(∀j,w.drawn≤j→j<w1.drawn→τ j=w.tape j)→s.run P (on w τ)=.ok a (on w1 τ)
theorem Lc.of{α:Type}{s k:Sem α}{w w2:World}(h:Lc P k w2)(hr:s.run P w=k.run P w2)(ht:w2.tape=w.tape)(hd:w.drawn≤w2.drawn)
 (hs:∀τ:Tape,(∀j,w.drawn≤j→j<w2.drawn→τ j=w.tape j)→s.run P (on w τ)=k.run P (on w2 τ)):Lc P s w:=by
 refine⟨fun e w1 e1=>h.1 e w1 (hr ▸ e1),fun a w1 e1=>?_⟩
 obtain⟨h1,h2,h3⟩:=h.2 a w1 (hr ▸ e1)
 refine⟨h1.trans ht,Nat.le_trans hd h2,fun τ hτ=>?_⟩
 rw[hs τ fun j a b=>hτ j a (Nat.lt_of_lt_of_le b h2)]
 exact h3 τ fun j a b=>by rw[ht];exact hτ j (Nat.le_trans hd a) b
theorem Lc.halt{α:Type}{s:Sem α}{w:World}{e:Halt}{v:World}(hr:s.run P w=.halt e v)(he:um e):Lc P s w:=
 ⟨fun h w1 h1=>by rw[hr] at h1;cases h1;exact he,fun a w1 h1=>by rw[hr] at h1;cases h1⟩
theorem UO{w w':World}(h:WR ρ w w'){a:Addr}{b':Nat}(ha:ρ a.block=some b')(at_:Bool):∃e,w.farLoad P a at_=.error e∧um e:=by
 obtain⟨o,o',h1,h2,ho⟩:=h.obj _ _ ha
 cases ho <;> exact⟨_,by simp only[World.farLoad,h1];rfl,by simp only[World.noCell,h1];trivial⟩
theorem NC{w w':World}(h:WR ρ w w'){a:Addr}{b':Nat}(ha:ρ a.block=some b')(v:Value)(at_:Bool):∃e,w.farStore P a v at_=.error e∧um e:=by
 obtain⟨o,o',h1,h2,ho⟩:=h.obj _ _ ha
 cases ho <;> exact⟨_,by simp only[World.farStore,h1];rfl,by simp only[World.noCell,h1];trivial⟩
theorem SR.lc{α β:Type}{Q:Ren→α→β→Prop}{s:Sem α}:∀ {ρ:Ren} {s':Sem β} {w w':World},SR P Q ρ s s'→WR ρ w w'→Lc P s w:=by
 induction s with
 | pure a=>
   rintro ρ s' w w' h hw
   refine⟨fun h w1 e=>by simp[Sem.run] at e,fun b w1 e=>?_⟩
   simp only[Sem.run,Result.ok.injEq] at e
   obtain⟨rfl,rfl⟩:=e
   exact⟨rfl,zL,fun τ _=>rfl⟩
 | load m a k ih=>
   rintro ρ s' w w' ⟨a',k',rfl,rfl,ha,hk⟩ hw
   cases hv:w.cell? a with
   | none=>
     obtain⟨e,he,ht⟩:=UO (P:=P) hw ha.1 (a:=a) (Mode.plain == Mode.atomic)
     exact .halt (by simp only[Sem.run,hv,he];rfl) (by exact ht)
   | some v=>
     obtain⟨v',hv',yr⟩:=sw hw ha hv
     refine(ih v (hk ρ (.refl hw.inj) v v' yr) hw).of (by simp only[Sem.run,hv]) rfl zL fun τ _=>?_
     have:(on w τ).cell? a=some v:=hv
     simp only[Sem.run,this]
 | store m a v k ih=>
   rintro ρ s' w w' ⟨a',v',k',rfl,rfl,ha,hv,hk⟩ hw
   by_cases h1:∀c,v≠.agg c
   ·by_cases h2:∀c,v≠.tuple c
    ·cases hx:w.cell? a with
     | none=>
       obtain⟨e,he,ht⟩:=NC (P:=P) hw ha.1 (a:=a) v (Mode.plain == Mode.atomic)
       exact .halt (by rw[run_store h1 h2];simp only[hx,he];rfl) (by exact ht)
     | some x0=>
       cases hf:w.frozen? a with
       | true=>exact .halt (by rw[run_store h1 h2];simp only[hx,hf,if_true];rfl) (by trivial)
       | false=>
         refine(ih hk (hw.setCell ha hv)).of (by rw[run_store h1 h2];simp only[hx,hf,Bool.false_eq_true,if_false]) rfl zL fun τ _=>?_
         have e1:(on w τ).cell? a=some x0:=hx
         have e2:(on w τ).frozen? a=false:=hf
         rw[run_store h1 h2]
         simp only[e1,e2,Bool.false_eq_true,if_false]
         rfl
    ·simp only[ne_eq,Classical.not_forall,Classical.not_not] at h2
     obtain⟨c,rfl⟩:=h2
     exact .halt (by simp only[Sem.run];rfl) (by trivial)
   ·simp only[ne_eq,Classical.not_forall,Classical.not_not] at h1
    obtain⟨c,rfl⟩:=h1
    exact .halt (by simp only[Sem.run];rfl) (by trivial)
 | new o k ih=>
   rintro ρ s' w w' ⟨o',k',rfl,ho,hk⟩ hw
   obtain⟨le,hw2⟩:=hw.new ho
   exact(ih w.heap.size (hk _ ⟨le,hw2.inj⟩ w.heap.size w'.heap.size (by simp[Ren.put])) hw2).of (by simp only[Sem.run]) rfl zL fun τ _=>by simp only[Sem.run];rfl
 | shape r k ih=>
   rintro ρ s' w w' ⟨r',k',rfl,e,hk⟩ hw
   exact(ih (w.shape? r) (hk _) hw).of (by simp only[Sem.run]) rfl zL fun τ _=>by simp only[Sem.run];rfl
 | getObj r k ih=>
   rintro ρ s' w w' ⟨r',k',rfl,e,hk⟩ hw
   obtain⟨o,o',h1,h2,ho⟩:=hw.obj _ _ e
   have h1':∀τ,(on w τ).heap[r]? =some o:=fun _=>h1
   cases ho with
   | cells e1 hc1 hf1=>exact .halt (by simp only[Sem.run,h1];rfl) (by trivial)
   | map c hm=>exact(ih _ (hk ρ (.refl hw.inj) _ _ (.map c hm)) hw).of (by simp only[Sem.run,h1]) rfl zL fun τ _=>by simp only[Sem.run,h1' τ]
   | number c hm=>exact(ih _ (hk ρ (.refl hw.inj) _ _ (.number c hm)) hw).of (by simp only[Sem.run,h1]) rfl zL fun τ _=>by simp only[Sem.run,h1' τ]
   | loop hm=>exact(ih _ (hk ρ (.refl hw.inj) _ _ (.loop hm)) hw).of (by simp only[Sem.run,h1]) rfl zL fun τ _=>by simp only[Sem.run,h1' τ]
   | defs hm=>exact(ih _ (hk ρ (.refl hw.inj) _ _ (.defs hm)) hw).of (by simp only[Sem.run,h1]) rfl zL fun τ _=>by simp only[Sem.run,h1' τ]
 | setObj r o k ih=>
   rintro ρ s' w w' ⟨r',o',k',rfl,e,ho,hk⟩ hw
   obtain⟨p,p',h1,h2,hp⟩:=hw.obj _ _ e
   have h1':∀τ,(on w τ).heap[r]? =some p:=fun _=>h1
   cases hp with
   | cells e1 hc1 hf1=>exact .halt (by simp only[Sem.run,h1];rfl) (by trivial)
   | map c hm=>exact(ih hk (hw.setObj e ho)).of (by simp only[Sem.run,h1]) rfl zL fun τ _=>by simp only[Sem.run,h1' τ];rfl
   | number c hm=>exact(ih hk (hw.setObj e ho)).of (by simp only[Sem.run,h1]) rfl zL fun τ _=>by simp only[Sem.run,h1' τ];rfl
   | loop hm=>exact(ih hk (hw.setObj e ho)).of (by simp only[Sem.run,h1]) rfl zL fun τ _=>by simp only[Sem.run,h1' τ];rfl
   | defs hm=>exact(ih hk (hw.setObj e ho)).of (by simp only[Sem.run,h1]) rfl zL fun τ _=>by simp only[Sem.run,h1' τ];rfl
 | choose q k ih=>
   rintro ρ s' w w' ⟨k',rfl,hk⟩ hw
   by_cases hf:q.forced=true
   ·exact(ih 0 (hk _) hw).of (by simp only[Sem.run,if_pos hf]) rfl zL fun τ _=>by simp only[Sem.run,if_pos hf]
   ·have hw2:WR ρ {w with drawn:=w.drawn+1 } {w' with drawn:=w'.drawn+1 }:=⟨hw.obj,hw.inj⟩
    refine(ih (q.cut (w.tape w.drawn q)) (hk _) hw2).of (by simp only[Sem.run,if_neg hf]) rfl (Nat.le_succ _) fun τ hτ=>?_
    have e:τ w.drawn=w.tape w.drawn:=hτ w.drawn zL (Nat.lt_succ_self _)
    simp only[Sem.run,if_neg hf,YO,UY,e]
    rfl
 | program k ih=>
   rintro ρ s' w w' ⟨k',rfl,hk⟩ hw
   exact(ih P hk hw).of (by simp only[Sem.run]) rfl zL fun τ _=>by simp only[Sem.run]
 | halt h=>rintro ρ s' w w' ht hw;exact .halt (by simp only[Sem.run];rfl) (by exact ht)
 | freeze a n k ih=>intro ρ s' w w' h;exact h.elim
 | frozen a k ih=>intro ρ s' w w' h hw;exact⟨fun e w1 hr=>((h _).run (P:=P) w).2 e w1 hr,fun a1 w1 hr=>((h _).run (P:=P) w).1 a1 w1 hr |>.elim⟩
 | sys c k ih=>intro ρ s' w w' h;exact h.elim
 | mark m k ih=>
   rintro ρ s' w w' ⟨k',rfl,rfl,hk⟩ hw
   exact(ih hk hw).of (by simp only[Sem.run]) rfl zL fun τ _=>by simp only[Sem.run]
end
section
variable[Inhabited aT]
open Go.Conc
variable{P:Program}{ρ:Ren}
theorem lY{fn:FuncId}{es:Array Event}{e:Event}(h:e∈seen P fn es):e∈es:=by
 rw[seen_def] at h
 have:=seen_fold_sub _ _ _ _ _ h
 simpa using this
def Same(P:Program)(main:Bool)(g:Goroutine)(w:World)(g2:Goroutine)(w2:World)(es:Array Event):Prop:=∃es',stepG P main g w=.go g2 w2 es'∧∀e∈es',e∈es
theorem Same.of{main:Bool}{g g2:Goroutine}{w w2:World}{es:Array Event}(h:stepG P main g w=.go g2 w2 #[]):Same P main g w g2 w2 es:=⟨_,h,fun e he=>by simp at he⟩
theorem Same.seen{main:Bool}{g g2:Goroutine}{w w2:World}{es:Array Event}{f:FuncId}(h:stepG P main g w=.go g2 w2 (Go.seen P f es)):Same P main g w g2 w2 es:=⟨_,h,fun e he=>lY he⟩
theorem Same.NP{main:Bool}{g g2:Goroutine}{w w2:World}{es:Array Event}{f:FuncId}(h:stepG P main g w=.go g2 w2 (Go.seen P f es ++ #[])):Same P main g w g2 w2 es:=⟨_,h,fun e he=>lY (fn:=f) (by simpa using he)⟩
section
variable{main:Bool}{fr:Frame}{L cs:List Frame}{w w2:World}{c:Frame × List Frame}{es:Array Event}
theorem bind_ok{α β:Type}{x:Sem α}{f:α→Sem β}{w w2:World}{b:β}{es:Array Event}(h:(x >>= f).runT P w #[]=(.ok b w2,es)):
 ∃a w1 es1,x.runT P w #[]=(.ok a w1,es1)∧(f a).runT P w1 es1=(.ok b w2,es):=by
 rw[show(x >>= f)=x.bind f from rfl,Sem.runT_bind'] at h
 generalize hx:x.runT P w #[]=r at h
 obtain⟨r,es1⟩:=r
 cases r with
 | halt a b=>simp only[Prod.mk.injEq] at h;cases h.1
 | ok a w1=>exact⟨a,w1,es1,rfl,h⟩
theorem pure_ok{α:Type}{a b:α}{w w2:World}{es es2:Array Event}(h:(Pure.pure a:Sem α).runT P w es=(.ok b w2,es2)):b=a∧w2=w∧es2=es:=by
 simp only[Pure.pure,Sem.runT,Prod.mk.injEq,Result.ok.injEq] at h
 exact⟨h.1.1.symm,h.1.2.symm,h.2.symm⟩
theorem fB{α:Type}{m:String}{b:α}{w w2:World}{es es2:Array Event}(h:(stuck m:Sem α).runT P w es=(.ok b w2,es2)):False:=by
 simp only[stuck,Sem.runT,Prod.mk.injEq] at h;cases h.1
def iL(P:Program)(main:Bool)(fr:Frame)(L:List Frame)(jump:Option Code)(w:World):GStep:=
 match fr.roundOf with
 | none=>if jump matches none|some .ret then .go (G {fr with mode:=.returning } L) w else .ended (.stuck BY (fr.pos P)) w
 | some l=>
   let (r,es):=(Instr.endRound l jump).runT P w #[]
   GStep.after (Go.seen P fr.fn es) <| match r with
   | .ok v w=>doReturn P main fr L none v w
   | .halt _ w=>.ended (.stuck eQ (fr.pos P)) w
theorem qX(hk:fr.kind=.normal){jump:Option Code}(hG:stepG P main (G fr (L ++ cs)) w=iL P main fr (L ++ cs) jump w)(h:(lq fr L jump).runT P w #[]=(.ok c w2,es)):Same P main (G fr (L ++ cs)) w (G c.1 (c.2 ++ cs)) w2 es:=by
 unfold lq at h
 unfold iL at hG
 cases hr:fr.roundOf with
 | none=>
   rw[hr] at h hG
   dsimp only at h hG
   split at h
   ·obtain⟨rfl,rfl,rfl⟩:=pure_ok h
    exact .of (by rw[hG];rfl)
   ·obtain⟨rfl,rfl,rfl⟩:=pure_ok h
    exact .of (by rw[hG];rfl)
   ·exact(fB h).elim
 | some l=>
   rw[hr] at h hG
   dsimp only at h hG
   cases L with
   | nil=>exact(fB h).elim
   | cons c0 L=>
     obtain⟨v,w1,es1,h1,h2⟩:=bind_ok h
     obtain⟨rfl,rfl,rfl⟩:=pure_ok h2
     rw[h1] at hG
     refine .NP (f:=fr.fn) ?_
     rw[hG]
     simp[doReturn,hk,GStep.after,G]
end
theorem yQ{F:FuncId→Prop}{main:Bool}{fr:Frame}{L cs:List Frame}{w w2:World}{c:Frame × List Frame}{es:Array Event}(hf:jP P F fr)(h:(gu P fr L).runT P w #[]=(.ok c w2,es)):
 Same P main (G fr (L ++ cs)) w (G c.1 (c.2 ++ cs)) w2 es:=by
 obtain⟨hfn,htodo,⟨dx,hd⟩,hm,hk⟩:=hf
 obtain⟨fn,tmps,todo,defers,mode,kind,roundOf⟩:=fr
 simp only at hfn htodo hd hm hk
 subst hk
 rcases hm with rfl|rfl
 ·unfold gu at h
  dsimp only at h
  cases todo with
  | nil=>exact qX rfl (by simp only[G,stepG,stepG.exec,iL] <;> rfl) h
  | cons i k=>
    have ht:=htodo i zs
    cases i with
    | code c=>
      cases c with
      | ret=>exact qX rfl (by simp only[G,stepG,stepG.exec,iL] <;> rfl) h
      | cond x a b=>
        dsimp only at h
        generalize hev:Frame.eval {fn:=fn,tmps:=tmps,todo:=.code (.cond x a b) :: k,defers:=defers,mode:=.run,kind:=.normal,roundOf:=roundOf } x=v at h
        cases v with
        | bool b=>
          obtain⟨rfl,rfl,rfl⟩:=pure_ok h
          exact .of (by simp[G,stepG,stepG.exec,hev])
        | _=>exact(fB h).elim
      | exit id=>
        dsimp only at h
        cases he:exitTo id k with
        | none=>
          rw[he] at h
          exact qX rfl (by simp only[G,stepG,stepG.exec,iL,he];rfl) h
        | some k'=>
          rw[he] at h
          obtain⟨rfl,rfl,rfl⟩:=pure_ok h
          exact .of (by simp[G,stepG,stepG.exec,he])
      | region id ops draw=>
        cases draw with
        | false=>
          simp only[Bool.not_false,if_true] at h
          obtain⟨rfl,rfl,rfl⟩:=pure_ok h
          exact .of (by simp[G,stepG,stepG.exec])
        | true=>
          simp only[Bool.not_true,Bool.false_eq_true,if_false,choose,Bind.bind,Sem.bind,Pure.pure,Sem.runT] at h
          refine .of ?_
          simp only[G,stepG,stepG.exec,Bool.not_true,Bool.false_eq_true,if_false,choose,Sem.run]
          split at h
          ·rename_i hfo
           simp only[Prod.mk.injEq,Result.ok.injEq] at h
           obtain⟨⟨rfl,rfl⟩,rfl⟩:=h
           simp[hfo]
          ·rename_i hfo
           simp only[Prod.mk.injEq,Result.ok.injEq] at h
           obtain⟨⟨rfl,rfl⟩,rfl⟩:=h
           simp[hfo]
      | goto l=>exact ht.elim
      | rangeFunc f params assign body=>
        dsimp only at h
        obtain⟨e,w1,es1,h1,h2⟩:=bind_ok h
        rw[LQ] at h2
        simp only[Prod.mk.injEq] at h2
        obtain⟨h2,h3⟩:=h2
        generalize hq:(qm (Frame.eval {fn:=fn,tmps:=tmps,todo:=.code (.rangeFunc f params assign body) :: k,defers:=defers,mode:=.run,kind:=.normal,roundOf:=roundOf } f) #[.func (.yield e.1) #[] #[]] >>= fun n=>vC P {fn:=fn,tmps:=tmps,todo:=.inRangeFunc e.1 :: k,defers:=e.2 ++ defers,mode:=.run,kind:=.normal,roundOf:=roundOf } L n).runT P w1 #[]=q at h2 h3
        obtain⟨q1,es2⟩:=q
        simp only at h2 h3
        subst h2
        obtain⟨n,w4,PQ,h7,h8⟩:=bind_ok hq
        have hcall:(do let d ← resolve (Frame.eval {fn:=fn,tmps:=tmps,todo:=.inRangeFunc e.1 :: k,defers:=e.2 ++ defers,mode:=.run,kind:=.normal,roundOf:=roundOf }) {callee:=.value f,args:=#[.const (.func (.yield e.1) #[] #[])],argTypes:=#[] } 0;invoke d.target d.args:Sem Next).runT P w1 #[]=(.ok n w4,PQ):=by
         have e0:resolve (Frame.eval {fn:=fn,tmps:=tmps,todo:=.inRangeFunc e.1 :: k,defers:=e.2 ++ defers,mode:=.run,kind:=.normal,roundOf:=roundOf }) {callee:=.value f,args:=#[.const (.func (.yield e.1) #[] #[])],argTypes:=#[] } 0=Deferred.ofValue (Frame.eval {fn:=fn,tmps:=tmps,todo:=.code (.rangeFunc f params assign body) :: k,defers:=defers,mode:=.run,kind:=.normal,roundOf:=roundOf } f) #[.func (.yield e.1) #[] #[]]:=by
          cases f <;> simp[resolve,Frame.eval]
         rw[e0]
         exact h7
        have hsub:∀x∈Go.seen P fn es1 ++ Go.seen P fn PQ,x∈es1 ++ PQ:=fun x hx=>by
         rcases Array.mem_append.1 hx with hx|hx
         ·exact Array.mem_append.2 (.inl (lY hx))
         ·exact Array.mem_append.2 (.inr (lY hx))
        have hG:stepG P main (G {fn:=fn,tmps:=tmps,todo:=.code (.rangeFunc f params assign body) :: k,defers:=defers,mode:=.run,kind:=.normal,roundOf:=roundOf } (L ++ cs)) w
         =GStep.after (Go.seen P fn es1) (stepG.apply P true {fn:=fn,tmps:=tmps,todo:=.inRangeFunc e.1 :: k,defers:=e.2 ++ defers,mode:=.run,kind:=.normal,roundOf:=roundOf } (L ++ cs) none (do let d ← resolve (Frame.eval {fn:=fn,tmps:=tmps,todo:=.inRangeFunc e.1 :: k,defers:=e.2 ++ defers,mode:=.run,kind:=.normal,roundOf:=roundOf }) {callee:=.value f,args:=#[.const (.func (.yield e.1) #[] #[])],argTypes:=#[] } 0;invoke d.target d.args:Sem Next) w1):=by
         simp only[G,stepG,stepG.exec,h1]
        cases n with
        | enter g args=>
          obtain⟨rfl,rfl,rfl⟩:=pure_ok h8
          subst h3
          refine⟨_,?_,hsub⟩
          rw[hG]
          simp[stepG.apply,hcall,GStep.after,G,-Sem.runT_eq]
        | round l g t a b=>
          obtain⟨rfl,rfl,rfl⟩:=pure_ok h8
          subst h3
          refine⟨_,?_,hsub⟩
          rw[hG]
          simp[stepG.apply,hcall,GStep.after,G,-Sem.runT_eq]
        | _=>exact(fB h8).elim
      | refuse y=>exact(fB h).elim
      | _=>
        obtain⟨rfl,rfl,rfl⟩:=pure_ok h
        exact .of (by simp[G,stepG,stepG.exec])
    | inRegion ops l=>
      cases l with
      | nil=>
        obtain⟨rfl,rfl,rfl⟩:=pure_ok h
        exact .of (by simp[G,stepG,stepG.exec])
      | cons j l=>
        dsimp only at h
        cases hw:((ops[j]?).map (Region.wanted · (yielded ops tmps))).getD false with
        | false=>
          rw[hw] at h
          simp only[Bool.false_eq_true,if_false] at h
          obtain⟨rfl,rfl,rfl⟩:=pure_ok h
          exact .of (by simp[G,stepG,stepG.exec,hw])
        | true=>
          rw[hw] at h
          simp only[if_true] at h
          cases ho:ops[j]? with
          | none=>rw[ho] at h;exact(fB h).elim
          | some o=>
            rw[ho] at h
            have hwo:Region.wanted o (yielded ops tmps)=true:=by rw[ho] at hw;exact hw
            have Rx:qL P o:=ht o (Array.mem_of_getElem? ho)
            have hnd:∀c,o.op≠.defer c:=fun c e=>by have:=Rx.2;rw[e] at this;exact this
            have hop:stepG.oper P true {fn:=fn,tmps:=tmps,todo:=.inRegion ops (j :: l) :: k,defers:=defers,mode:=.run,kind:=.normal,roundOf:=roundOf } (L ++ cs) none w
             =stepG.apply P true {fn:=fn,tmps:=tmps,todo:=.inRegion ops (j :: l) :: k,defers:=defers,mode:=.run,kind:=.normal,roundOf:=roundOf } (L ++ cs) none (execOp (Frame.eval {fn:=fn,tmps:=tmps,todo:=.inRegion ops (j :: l) :: k,defers:=defers,mode:=.run,kind:=.normal,roundOf:=roundOf }) o) w:=by
             simp only[stepG.oper,Frame.oper?,ho]
             split
             ·rename_i e0;exact absurd e0 (hnd _)
             ·rfl
            have hG:stepG P main (G {fn:=fn,tmps:=tmps,todo:=.inRegion ops (j :: l) :: k,defers:=defers,mode:=.run,kind:=.normal,roundOf:=roundOf } (L ++ cs)) w
             =stepG.apply P true {fn:=fn,tmps:=tmps,todo:=.inRegion ops (j :: l) :: k,defers:=defers,mode:=.run,kind:=.normal,roundOf:=roundOf } (L ++ cs) none (execOp (Frame.eval {fn:=fn,tmps:=tmps,todo:=.inRegion ops (j :: l) :: k,defers:=defers,mode:=.run,kind:=.normal,roundOf:=roundOf }) o) w:=by
             rw[← hop]
             simp only[G,stepG,stepG.exec,ho,hwo,Option.map_some,Option.getD_some,if_true]
            dsimp only at h
            cases hpn:sN o.op with
            | true=>rw[hpn] at h;exact(fB h).elim
            | false=>
            rw[hpn] at h
            simp only[Bool.false_eq_true,if_false] at h
            obtain⟨n,w1,es1,hx,h2⟩:=bind_ok h
            cases n with
            | value v=>
              obtain⟨rfl,rfl,rfl⟩:=pure_ok h2
              exact .seen (f:=fn) (by rw[hG];simp[stepG.apply,hx,GStep.after,G,-Sem.runT_eq])
            | skip=>
              obtain⟨rfl,rfl,rfl⟩:=pure_ok h2
              exact .seen (f:=fn) (by rw[hG];simp[stepG.apply,hx,GStep.after,G,-Sem.runT_eq])
            | enter f args=>
              obtain⟨rfl,rfl,rfl⟩:=pure_ok h2
              exact .seen (f:=fn) (by rw[hG];simp[stepG.apply,hx,GStep.after,G,-Sem.runT_eq])
            | round l0 g t a b=>
              obtain⟨rfl,rfl,rfl⟩:=pure_ok h2
              exact .seen (f:=fn) (by rw[hG];simp[stepG.apply,hx,GStep.after,G,-Sem.runT_eq])
            | _=>exact(fB h2).elim
    | inRangeFunc l=>exact(fB h).elim
    | endRangeFunc l=>
      dsimp only at h
      obtain⟨j,w1,es1,hx,h2⟩:=bind_ok h
      obtain⟨rfl,rfl,rfl⟩:=pure_ok h2
      exact .NP (f:=fn) (by simp[G,stepG,stepG.exec,hx,GStep.after,-Sem.runT_eq])
    | beginRound=>
      dsimp only at h
      cases roundOf with
      | none=>exact(fB h).elim
      | some l=>
        dsimp only at h
        obtain⟨u,w1,es1,hx,h2⟩:=bind_ok h
        obtain⟨rfl,rfl,rfl⟩:=pure_ok h2
        have hr:(do Option.elim (some l) (stuck rm) Instr.beginRound;pure .skip:Sem Next).runT P w #[]=(.ok .skip w2,es):=by
         rw[show ∀ {α β:Type} (x:Sem α) (f:α→Sem β),(x >>= f)=x.bind f from fun _ _=>rfl,Sem.runT_bind']
         simp only[Option.elim,hx,Pure.pure,Sem.runT]
        have hG:stepG P main (G {fn:=fn,tmps:=tmps,todo:=.beginRound :: k,defers:=defers,mode:=.run,kind:=.normal,roundOf:=some l } (L ++ cs)) w=stepG.apply P true {fn:=fn,tmps:=tmps,todo:=.beginRound :: k,defers:=defers,mode:=.run,kind:=.normal,roundOf:=some l } (L ++ cs) none (do Option.elim (some l) (stuck rm) Instr.beginRound;pure .skip) w:=by
         simp only[G,stepG,stepG.exec]
         rfl
        exact .seen (f:=fn) (by
         rw[hG]
         simp only[stepG.apply,hr,if_true]
         simp[GStep.after,G,-Sem.runT_eq])
    | _=>first
      | exact(show False from ht).elim
      | (obtain⟨rfl,rfl,rfl⟩:=pure_ok h
         exact .of (by simp[G,stepG,stepG.exec]))
 ·unfold gu at h
  dsimp only at h
  cases dx with
  | cons r dx=>
    simp only[List.map_cons,jq] at hd
    subst hd
    dsimp only at h
    obtain⟨calls,w1,es1,hx,h2⟩:=bind_ok h
    obtain⟨rfl,rfl,rfl⟩:=pure_ok h2
    exact .NP (f:=fn) (by simp[G,stepG,unwind,hx,GStep.after,-Sem.runT_eq])
  | nil=>
    simp only[List.map_nil] at hd
    subst hd
    dsimp only at h
    cases hfun:P.funcs[fn]? with
    | none=>rw[hfun] at h;exact(fB h).elim
    | some fnc=>
      rw[hfun] at h
      cases L with
      | nil=>exact(fB h).elim
      | cons c0 L=>
        dsimp only at h
        obtain⟨v,w1,es1,hx,h2⟩:=bind_ok h
        obtain⟨rfl,rfl,rfl⟩:=pure_ok h2
        exact .NP (f:=fn) (by simp[G,stepG,unwind,hfun,hx,doReturn,GStep.after,-Sem.runT_eq])
end
end Go.bZ
