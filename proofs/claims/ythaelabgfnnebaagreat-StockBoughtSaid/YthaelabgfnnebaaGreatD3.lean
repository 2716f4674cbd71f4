/- Far7 Far8 Far9 -/
import Derived.Test.YthaelabgfnnebaaGreatD2
import Derived.Fence
set_option maxRecDepth 100000
set_option maxHeartbeats 16000000
set_option linter.unusedVariables false
set_option linter.unusedSectionVars false
namespace Go.dN
section
variable{P:Program}{Z:Env}
theorem EG{n:Addr}(h:Z n.block){w:World}(hl:Lv Z w)(es:Array Event):(behindNumber n).runT P w es=(.ok (n,false) w,es.push ⟨.obj n.block,false,false⟩):=by
 have e1:w.shape? n.block=none:=by simp[World.shape?,hl.dead _ h,X0]
 simp[behindNumber,numberAt,shape,getObj,bind,Sem.bind,Sem.runT,e1,hl.dead _ h,X0,pure,Obj.isChan,-Sem.runT_eq]
theorem BU{β:Type}{R:β→Prop}{n:Addr}{f:Addr × Bool→Sem β}(h:∀x,Tm P Z R (f x))(hd:Z n.block→Bd P Z (f (n,false))):Tm P Z R (behindNumber n >>= f):=by
 by_cases hz:Z n.block
 ·refine .inl ?_
  intro w es hl hg
  have e:(behindNumber n >>= f).runT P w es=(f (n,false)).runT P w (es.push ⟨.obj n.block,false,false⟩):=by
   show((behindNumber n).bind f).runT P w es=_
   rw[Sem.runT_bind',EG hz hl]
  rw[show Sem.runT P (Sem.shape n.block _) w es=(behindNumber n >>= f).runT P w es from rfl,e] at hg
  exact hd hz w _ hl hg
 ·refine tb ?_ h
  refine tb (s:=numberAt n.block) ?_ fun _=>av _
  refine .inr ⟨fun _ x=>?_,fun hz2=>absurd hz2 hz⟩
  show Tm P Z _ (Sem.bind (Sem.pure x) _)
  cases x with
  | some x=>exact trivial
  | none=>exact⟨fun _ o ho=>by cases o <;> first|exact trivial|exact ho.elim,fun hz2=>absurd hz2 hz⟩
theorem vO(c:Addr)(w:World)(es:Array Event):(∃a es',(behindNumber c).runT P w es=(.ok a w,es'))∨∃m es',(behindNumber c).runT P w es=(.halt (.stuck m) w,es'):=by
 have e:behindNumber c=(do let x ← numberAt c.block;pure (x.getD (c,false))):=rfl
 rw[e]
 simp only[numberAt,shape,getObj,bind,Sem.bind,pure,Sem.runT]
 cases hs:w.shape? c.block with
 | some x=>exact .inl ⟨_,_,rfl⟩
 | none=>
   simp only[Option.isSome_none,Bool.false_eq_true,if_false,Sem.bind,Sem.runT]
   cases hh:w.heap[c.block]? with
   | none=>exact .inr ⟨_,_,rfl⟩
   | some o=>cases o <;> first|exact .inr ⟨_,_,rfl⟩|exact .inl ⟨_,_,rfl⟩
theorem ZQ(a b:Addr)(f:Addr × Bool→Addr × Bool→Sem Value)(lost:∀x y,Dm P (f x y)):Bd P Z (do let x ← behindNumber a;let y ← behindNumber b;f x y):=by
 intro w es hl hg
 replace hg:fq (((behindNumber a).bind fun x=>(behindNumber b).bind fun y=>f x y).runT P w es).1:=hg
 rw[Sem.runT_bind'] at hg
 rcases vO (P:=P) a w es with⟨x,es1,e⟩|⟨m,es1,e⟩ <;> rw[e] at hg
 ·dsimp only at hg
  rw[Sem.runT_bind'] at hg
  rcases vO (P:=P) b w es1 with⟨y,es2,e⟩|⟨m,es2,e⟩ <;> rw[e] at hg
  ·exact(lost x y).run _ _ hg
  ·exact hg
 ·exact hg
theorem ln(hg:P.globals.size=0)(a b:Addr){β:Type}(f:Nat × Nat→Sem β):Dm P (Op.twoPlaces a b >>= f):=by
 show Dm P (Sem.bind (if (a.block != b.block || decide (a.block≥P.globals.size))=true then _ else _) f)
 rw[hg]
 simp only[ge_iff_le,Nat.zero_le,decide_true,Bool.or_true,if_true]
 exact trivial
theorem nS(ts:Array TypeId)(t:TypeId)(args:Array Value):T P Z (Builtin.unsafeAdd_ ts t args):=by
 obtain⟨l⟩:=args
 rcases l with _|⟨a,_|⟨b,_|⟨c,l⟩⟩⟩
 ·exact au _
 ·cases a <;> exact au _
 ·cases a with
  | pointer p=>
    unfold Builtin.unsafeAdd_
    dsimp only
    refine tb (oq _) fun n=>?_
    have tail:∀p:Option Addr,T P Z (match p with
     | some a=>do
       let some (e,cells) ← shape a.block|unsupported (.unsafePointer "Add")
       let q ← program
       match cellAtBytes q q.depth e (cells / q.cellsOf e) a.off n with
       | some off=>pure (.pointer (some {a with off }))
       | none=>unsupported (.unsafePointer "Add")
     | none=>unsupported (.unsafePointer "Add"):Sem Value):=fun p=>by
     cases p with
     | none=>exact eJ _
     | some a=>
       refine .inr ⟨fun _ x=>?_,fun hz=>dH (by exact trivial)⟩
       show Tm P Z _ (match x with|some (e,cells)=>_|_=>_)
       cases x with
       | none=>exact trivial
       | some x=>
         dsimp only
         refine tb lN fun q=>?_
         split <;> exact trivial
    refine Tm.ite ?_ ?_
    ·cases p with
     | none=>exact trivial
     | some a=>
       dsimp only
       by_cases hz:Z a.block
       ·refine .inl fun w es hl hg=>?_
        have e1:w.shape? a.block=none:=by simp[World.shape?,hl.dead _ hz,X0]
        simp[getObj,bind,Sem.bind,Sem.runT,e1,hl.dead _ hz,X0,pure,unsupported,Obj.isChan,-Sem.runT_eq] at hg
        exact hg
       ·refine tb (GZ hz) fun x=>?_
        split <;> exact trivial
    ·refine Tm.ite ?_ ?_
     ·exact trivial
     ·cases p with
      | none=>exact trivial
      | some a=>exact tail (some a)
  | _=>exact au _
 ·cases a <;> exact au _
theorem MF{r:Nat}(hz:Z r){β:Type}{f:Option (Addr × TypeId)→Sem β}(h:∀x,Dm P (f (some x))):Bd P Z (viewAt r >>= f):=by
 intro w es hl hg
 have e1:w.shape? r=none:=by simp[World.shape?,hl.dead _ hz,X0]
 have e:(viewAt r).runT P w es=(.ok (some (⟨r,0,none⟩,0)) w,es.push ⟨.obj r,false,false⟩):=by
  simp[viewAt,shape,getObj,bind,Sem.bind,Sem.runT,e1,hl.dead _ hz,X0,pure,Obj.isChan,-Sem.runT_eq]
 replace hg:fq (((viewAt r).bind f).runT P w es).1:=hg
 rw[Sem.runT_bind',e] at hg
 exact(h _).run _ _ hg
theorem QG{r:Nat}(hz:Z r){β:Type}{f:Option (TypeId × Nat)→Sem β}(h:Dm P (f none)):Bd P Z (shape r >>= f):=by
 intro w es hl hg
 have e1:w.shape? r=none:=by simp[World.shape?,hl.dead _ hz,X0]
 replace hg:fq ((Sem.shape r fun s=>(Sem.pure s).bind f).runT P w es).1:=hg
 simp only[Sem.runT,e1,Sem.bind] at hg
 exact h.run _ _ hg
theorem QF{α:Type}{c:Prop}[Decidable c]{a b:Sem α}(h1:Bd P Z a)(h2:Bd P Z b):Bd P Z (if c then a else b):=by
 split
 ·exact h1
 ·exact h2
theorem CQ{a:Addr}(hz:Z a.block)(ts:Array TypeId)(t:TypeId)(y:Value):Bd P Z (Builtin.unsafeAdd_ ts t #[.pointer (some a),y]):=by
 cases y with
 | int k n=>
   show Bd P Z (if n=0 then _ else if n<0 then _ else _)
   refine QF ?_ (QF ?_ ?_)
   ·exact MF hz fun x=>by exact trivial
   ·exact dH (by exact trivial)
   ·exact QG hz (by exact trivial)
 | pointer p=>cases p <;> exact dH (by exact trivial)
 | _=>exact dH (by exact trivial)
theorem pG(t:TypeId)(x y:Value):T P Z (movedNumber t x y):=by
 unfold movedNumber
 refine tb (cZ t) fun d=>?_
 have tail:∀r:Sem Value,T P Z r→∀lost,T P Z (do match ← r with| .pointer (some b)=>asNumber b lost|v=>pure v:Sem Value):=fun r hr lost=>tb hr fun v=>by
  split
  ·exact tb (lM (by exact trivial)) fun _=>av _
  ·exact av _
 cases x with
 | pointer p=>
   cases p with
   | none=>dsimp only;exact Tm.ite (by exact trivial) (nS _ _ _)
   | some n=>dsimp only;exact Tm.ite (by exact trivial) (BU (fun x=>tail _ (nS _ _ _) _) fun hz=>(CQ hz _ _ _).bind _)
 | _=>dsimp only;exact Tm.ite (by exact trivial) (nS _ _ _)
theorem Ow(k:IntKind)(a:Addr)(n:Int):T P Z (Op.addrMod k a n):=by
 unfold Op.addrMod
 refine .inr ⟨fun _ x=>?_,fun hz=>dH (by exact trivial)⟩
 show Tm P Z _ (match x with|some (e,_)=>_|_=>_)
 cases x with
 | none=>exact trivial
 | some x=>
   dsimp only
   refine tb (dG _) fun i=>?_
   split
   ·exact trivial
   ·exact tb (xB _) fun _=>av _
theorem IE{a:Addr}(hz:Z a.block)(k:IntKind)(n:Int):Bd P Z (Op.addrMod k a n):=by
 intro w es hl hg
 have e1:w.shape? a.block=none:=by simp[World.shape?,hl.dead _ hz,X0]
 simp[Op.addrMod,shape,bind,Sem.bind,Sem.runT,e1,unsupported,-Sem.runT_eq] at hg
 exact hg
theorem Xx(k:IntKind)(a:Addr)(n:Int):T P Z (do Op.addrMod k (← behindNumber a).1 n):=BU (fun x=>Ow _ _ _) fun hz=>IE hz _ _
theorem Xn(hg:P.globals.size=0)(op:BinOp)(t:TypeId)(x y:Value)(he:op=.eql∨op=.neq→Hz P 10000 t=true)(hu:P.underlying t≠some .unsafePointer):T P Z (binOp op t x y):=by
 unfold binOp
 split
 ·exact Mf _ _ _ _ _
 ·exact Mf _ _ _ _ _
 ·split
  ·exact au _
  ·split
   ·exact mM _ _ _ _
   ·exact mM _ _ _ _
   ·exact mM _ _ _ _
   ·exact GV _ _ _ _
   ·exact GV _ _ _ _
   ·exact lK _ _ _ _
   ·exact lK _ _ _ _
   ·exact lK _ _ _ _
   ·exact lK _ _ _ _
   ·exact TB _ _ _
 ·split
  ·exact au _
  ·split
   ·exact gT _ _ _ _
   ·exact gT _ _ _ _
   ·exact gT _ _ _ _
   ·exact gT _ _ _ _
   ·exact xC _ _ _ _
 ·split
  ·exact au _
  ·exact GJ _ _ _ _ _ _
 ·exact qG _ _ _
 ·exact tb (DY hg (he (.inl rfl)) _ _) fun _=>av _
 ·exact tb (DY hg (he (.inr rfl)) _ _) fun _=>av _
 ·refine tq (bU t) fun d hd=>?_
  cases d <;> first|exact absurd hd hu|exact pG _ _ _
 all_goals first
  | exact pG _ _ _
  | exact Xx _ _ _
  | exact trivial
  | exact .inl (ZQ _ _ _ fun x y=>ln hg _ _ _)
theorem OM(ts:Array TypeId)(t:TypeId)(args:Array Value):T P Z (Builtin.ssaWrapNilChk_ ts t args):=by
 obtain⟨l⟩:=args
 rcases l with _|⟨a,_|⟨b,_|⟨c,_|⟨d,l⟩⟩⟩⟩
 ·exact au _
 ·exact au _
 ·exact au _
 ·cases b <;> first|exact au _|skip
  cases c <;> first|exact au _|skip
  cases a <;> first|exact au _|skip
  rename_i p
  cases p <;> first|exact av _|skip
  refine tb (dK _) fun _=>?_
  repeat' with_reducible first
   | exact av _
   | exact au _
   | exact aC _
   | exact uy _
   | exact Z8 _ _
   | exact nY _ _
   | refine tb (av _) fun _=>?_
   | refine tb (dK _) fun _=>?_
   | refine tb (cZ _) fun _=>?_
   | refine tb (dG _) fun _=>?_
   | split
   | dsimp only
 ·exact au _
theorem mO(t:TypeId)(x:Place):T P Z (x.get t):=by
 unfold Place.get
 split
 ·exact av _
 ·exact oz _ _
theorem GR(l:List FieldStep):∀ (t:TypeId) (x:Place),T P Z (follow l t x):=by
 induction l with
 | nil=>exact fun _ _=>av _
 | cons s l ih=>
   intro t x
   unfold follow
   refine tb (cZ _) fun d=>?_
   repeat' with_reducible first
    | exact ih _ _
    | exact au _
    | refine tb (mO _ _) fun _=>?_
    | refine tb (rP _) fun _=>?_
    | refine tb (rR _ _) fun _=>?_
    | refine tb (gU _ _ _) fun _=>?_
    | split
theorem rV(t:TypeId)(x:Place)(b:Bool)(w:Option String):T P Z (receiverAt t x b w):=by
 unfold receiverAt
 refine tb (cZ _) fun d=>?_
 repeat' with_reducible first
  | exact mO _ _
  | exact av _
  | exact au _
  | exact oz _ _
  | refine tb (av _) fun _=>?_
  | refine tb (mO _ _) fun _=>?_
  | refine tb (OM _ _ _) fun _=>?_
  | refine tb (rP _) fun _=>?_
  | split
theorem yT(t:TypeId)(v:Value)(p:Array FieldStep)(b:Bool):T P Z (receiverVia t v p b):=tb (GR _ _ _) fun _=>rV _ _ _ _
theorem TJ(n:Nat):∀ (t:TypeId) (v:Value) (name:String),T P Z (method n t v name):=by
 induction n with
 | zero=>exact fun _ _ _=>trivial
 | succ n ih=>
   intro t v name
   unfold method
   refine tb (dG _) fun i=>?_
   repeat' with_reducible first
    | exact ih _ _ _
    | exact av _
    | exact au _
    | exact aC _
    | refine tb (GR _ _ _) fun _=>?_
    | refine tb (mO _ _) fun _=>?_
    | refine tb (rV _ _ _ _) fun _=>?_
    | split
    | dsimp only
theorem yR(l:List FieldStep):∀ (t:TypeId) (x:Option Value),T P Z (followBlind l t x):=by
 induction l with
 | nil=>exact fun _ _=>av _
 | cons s l ih=>
   intro t x
   unfold followBlind
   refine tb (cZ _) fun d=>?_
   repeat' with_reducible first
    | exact ih _ _
    | exact av _
    | exact au _
    | refine tb (gU _ _ _) fun _=>?_
    | split
theorem Kt(n:Nat):∀ (t:TypeId) (v:Value) (name:String),T P Z (nilAhead n t v name):=by
 induction n with
 | zero=>exact fun _ _ _=>av _
 | succ n ih=>
   intro t v name
   unfold nilAhead
   refine tb (dG _) fun i=>?_
   repeat' with_reducible first
    | exact ih _ _ _
    | exact av _
    | exact au _
    | refine tb (yR _ _ _) fun _=>?_
    | refine tb (cZ _) fun _=>?_
    | split
    | dsimp only
def fV(Z:Env)(F:FuncId→Prop):Next→Prop
 | .value _| .skip=>True
 | .round _ f _ a b=>Z.jc f a∧Z.jc f b
 | .enter f _=>F f
 | .spawn _=>True
 | .comm cases blocking shape=>blocking=true∧∃c ok,cases=#[c]∧c.send=none∧shape=.recv ok
 | _=>False
def Rn(P:Program)(Z:Env){α:Type}(R:α→Prop)(s:Sem α)(w:World):Prop:=∀es,fq (s.runT P w es).1→∃n new r,Ran P Z R s w es n new r
theorem Tm.rn{α:Type}{R:α→Prop}{s:Sem α}{w:World}(h:Tm P Z R s)(hl:Lv Z w):Rn P Z R s w:=fun es hg=>Ua h hl hg
theorem Rn.bind{α β:Type}{Q:α→Prop}{R:β→Prop}{s:Sem α}{f:α→Sem β}{w:World}(hl:Lv Z w)(hs:Tm P Z Q s)(hf:∀a w1,Q a→s.run P w=.ok a w1→Lv Z w1→Rn P Z R (f a) w1):Rn P Z R (s.bind f) w:=by
 intro es hg
 have hg1:fq (s.runT P w es).1:=by
  rw[Sem.runT_bind'] at hg
  generalize s.runT P w es=r at hg
  obtain⟨r,es'⟩:=r
  cases r with
  | ok a w'=>trivial
  | halt e w'=>cases e <;> first|exact hg|trivial
 obtain⟨n,new,r,R1⟩:=Ua hs hl hg1
 cases r with
 | halt e w1=>
   have hgh:fq (.halt e w1:Result α):=by
    have:=R1.run
    rw[this] at hg1
    exact hg1
   refine⟨n,new,.halt e w1,?_,R1.drawn,R1.tape,R1.lv,R1.evs,(fun _ _ e=>by cases e),fun v es2 hs2 ha=>?_⟩
   ·rw[Sem.runT_bind',R1.run]
   ·obtain⟨v',e1,e2⟩:=R1.pz v es2 hs2 ha
    exact⟨v',by rw[Sem.runT_bind',e1];rfl,e2⟩
 | ok a w1=>
   have hrun:s.run P w=.ok a w1:=by
    have:=Sem.runT_fst P s w es
    rw[R1.run] at this
    exact this.symm
   have hg2:fq ((f a).runT P w1 (es ++ new)).1:=by
    rw[Sem.runT_bind',R1.run] at hg
    exact hg
   obtain⟨n2,new2,r2,R2⟩:=hf a w1 (R1.val a w1 rfl) hrun R1.lv (es ++ new) hg2
   have hd1:w1.drawn=w.drawn+n:=R1.drawn
   have ht1:w1.tape=w.tape:=R1.tape
   refine⟨n+n2,new ++ new2,r2,?_,by rw[R2.drawn,hd1];omega,R2.tape.trans ht1,R2.lv,fun e he=>?_,R2.val,fun v es2 hs2 ha=>?_⟩
   ·rw[Sem.runT_bind',R1.run]
    show(f a).runT P w1 (es ++ new)=_
    rw[R2.run,Array.append_assoc]
   ·rcases Array.mem_append.1 he with he|he
    ·exact R1.evs e he
    ·exact R2.evs e he
   ·obtain⟨v1,e1,s1,d1,t1⟩:=R1.pz v es2 hs2 (ha.le zo)
    obtain⟨v2,e2,s2,d2,t2⟩:=R2.pz v1 (es2 ++ new) s1 (Agree.shift ha hd1 ht1 d1 t1)
    refine⟨v2,?_,s2,by rw[d2,d1];omega,t2.trans t1⟩
    rw[Sem.runT_bind',e1]
    show(f a).runT P v1 (es2 ++ new)=_
    rw[e2,Array.append_assoc]
theorem Rn.ret{α:Type}{R:α→Prop}{a:α}{w:World}(hl:Lv Z w)(h:R a):Rn P Z R (pure a) w:=Tm.rn (jo h) hl
def Ad(P:Program)(F:FuncId→Prop):Prop:=∀g,F g→∃f c,P.funcs[g]? =some f∧f.body=some c∧(f.name == "runtime.NumGoroutine")=false
theorem qF{F:FuncId→Prop}(hF:Ad P F){f:FuncId}(hf:F f)(args:Array Value):Tm P Z (fV Z F) (callFunc f args):=by
 obtain⟨fn,c,h1,h2,h3⟩:=hF f hf
 show Tm P Z (fV Z F) (match P.funcs[f]? with|none=>_|some fn=>_)
 rw[h1]
 show Tm P Z (fV Z F) (if (fn.name == "runtime.NumGoroutine")=true then _ else if fn.body.isNone=true then _ else pure (.enter f args))
 rw[h3,h2]
 exact hf
theorem tv{F:FuncId→Prop}{s:Sem Value}(h:T P Z s):Tm P Z (fV Z F) (do pure (.value (← s))):=tb h fun _=>trivial
theorem tu{F:FuncId→Prop}{s:Sem Unit}(h:T P Z s):Tm P Z (fV Z F) (do s;pure .skip):=tb h fun _=>trivial
def lG(P:Program)(b:Builtin)(ts:Array TypeId):Bool:=match b with
 | .append| .cap| .clear| .close| .copy| .len| .max| .min=>true
 | .delete=>match ts[0]? with
   | some m=>match P.underlying m with|some (.map k _)=>Hz P 10000 k|_=>true
   | none=>true
 | _=>false
theorem Ox{F:FuncId→Prop}(hg:P.globals.size=0){b:Builtin}{ts:Array TypeId}(h:lG P b ts=true)(t:TypeId)(cs:Array Bool)(args:Array Value):Tm P Z (fV Z F) (builtin b ts t cs args):=by
 cases b <;> first|(cases h;done)|skip
 ·exact tv (Tw _ _ _)
 ·exact tv (p7 _ _ _)
 ·exact tv (Xq _ _ _)
 ·exact tv (Xr _ _ _)
 ·exact tv (ez _ _ _)
 ·refine tv (Tz hg _ _ _ fun m k e h0 h1=>?_)
  simp only[lG,h0,h1] at h
  exact h
 ·exact tv (qa _ _ _)
 ·exact tv (qe _ _ _)
 ·exact tv (qf _ _ _)
theorem o9{F:FuncId→Prop}(hF:Ad P F){recv:Value}{name:String}{args:Array Value}{w:World}(hl:Lv Z w)
 (h:∀u v f r w1,recv=.iface u v→(method (P.types.size+Made.depth) u v name).run P w=.ok (f,r) w1→F f):Rn P Z (fV Z F) (callMethod recv name args) w:=by
 unfold callMethod
 cases recv with
 | iface u v=>
   intro es hg
   obtain⟨n,new,r,R⟩:=Rn.bind (R:=fV Z F) (f:=fun x:FuncId × Value=>callFunc x.1 (#[x.2] ++ args)) hl (TJ (P.types.size+Made.depth) u v name) (fun⟨f,r⟩ w1 _ hr hl1=>(qF hF (h u v f r w1 rfl hr) _).rn hl1) es hg
   exact⟨n,new,r,R.run,R.drawn,R.tape,R.lv,R.evs,R.val,R.pz⟩
 | nilIface=>exact(aC _).rn hl
 | _=>exact(au _).rn hl
theorem NY{F:FuncId→Prop}(hg:P.globals.size=0)(hF:Ad P F){t:Target}{args:Array Value}{w:World}(hl:Lv Z w)(h:∀f,t.leads P w args=some f→F f)
 (hb:∀b ts ty cs,t=.builtin b ts ty cs→lG P b ts=true)(hc:∀c,t≠.coroexit c):Rn P Z (fV Z F) (invoke t args) w:=by
 cases t with
 | nil=>unfold invoke;exact(aC _).rn hl
 | builtin b ts ty cs=>exact(Ox hg (hb _ _ _ _ rfl) ty cs args).rn hl
 | collected r=>exact(au _).rn hl
 | coroexit c=>exact absurd rfl (hc c)
 | fn f cap=>
   cases f with
   | func g=>exact(qF hF (h g rfl) _).rn hl
   | yield l=>exact((XE l args).mono fun n ⟨_,_,_,_,e,h1,h2⟩=>by rw[e];exact⟨h1,h2⟩).rn hl
   | via ty path g ptr=>
     unfold invoke
     cases ha:args[0]? with
     | none=>exact(au _).rn hl
     | some x=>exact Tm.rn (tb (yT _ _ _ _) fun _=>qF hF (h g rfl) _) hl
   | method name=>
     unfold invoke
     cases ha:args[0]? with
     | none=>exact(au _).rn hl
     | some x=>
       refine o9 hF hl fun u v f r w1 e hr=>h f ?_
       subst e
       simp only[Target.leads,ha,hr]
   | methodOf ty name=>
     unfold invoke
     cases ha:args[0]? with
     | none=>exact(au _).rn hl
     | some x=>
       intro es hgd
       refine Rn.bind (R:=fV Z F) hl (bU ty) (fun d w1 hd hr hl1=>?_) es hgd
       have ew:w1=w:=by
        have:(underlying ty).run P w=.ok d w:=by
         simp only[underlying,program,bind,Sem.bind,Sem.run]
         rw[hd]
         rfl
        rw[this] at hr
        cases hr;rfl
       subst ew
       refine o9 hF hl1 fun u v f r w2 e hr2=>h f ?_
       simp only[Target.leads,ha,Option.map_some,hd]
       cases d <;> simp_all
theorem Xt(it:Value):T P Z (Instr.entry it):=by
 unfold Instr.entry
 split
 ·refine bD (fun hz o ho=>?_) fun hz=>dH (by exact trivial)
  split
  ·split
   ·refine bD (fun hz2 o2 ho2=>?_) fun hz=>dH (by exact trivial)
    split
    ·refine Tm.ite ?_ ?_
     ·exact trivial
     ·split <;> exact trivial
    ·exact au _
   ·exact au _
  ·exact au _
 ·exact au _
def cg(P:Program)(t:TypeId):Bool:=match P.underlying t with|some (.map k _)=>Hz P 10000 k|_=>true
theorem uY{t:TypeId}(h:cg P t=true):∀k e,P.underlying t=some (.map k e)→Hz P 10000 k=true:=fun k e he=>by
 simp only[cg,he] at h
 exact h
def JL(P:Program)(s d:TypeId):Bool:=match P.underlying s,P.underlying d with
 | some (.int _),some (.int _)=>true
 | some .string,some .string=>true
 | _,_=>false
theorem D5(a:FloatKind)(n:Nat)(k:IntKind):T P Z (Conv.floatToInt a n k):=by
 unfold Conv.floatToInt
 repeat' with_reducible first
  | exact av _
  | exact au _
  | refine tb (av _) fun _=>?_
  | refine tb (dK _) fun _=>?_
  | split
  | dsimp only
theorem yS(n:Int):T P Z (Conv.intToString n):=by
 unfold Conv.intToString
 repeat' with_reducible first
  | exact av _
  | exact au _
  | split
  | dsimp only
theorem Oy{s d:TypeId}(h:JL P s d=true)(x:Value):T P Z (convert s d x):=by
 unfold convert
 refine tq (bU s) fun ds hs=>tq (bU d) fun dd hd=>?_
 unfold JL at h
 rw[hs,hd] at h
 cases ds <;> cases dd <;> first|(cases h;done)|skip
 ·cases x <;> first|exact D5 _ _ _|exact av _|exact au _|exact uy _|skip
  rename_i a
  cases a <;> first|exact D7|exact uy _
 ·cases x <;> first|exact yS _|exact av _|exact au _|exact uy _
def mq(P:Program)(o:Oper):Bool:=match o.op with
 | .move _| .assign _| .pick _ _ _| .alloc _| .box _ _| .build _ _| .buildSlice _ _ _| .load _ _| .store _ _ _| .nilCheck _| .unOp _ _ _| .makeInterface _ _
 | .makeFunc _ _ _| .makeMap _ _| .makeSlice _ _ _| .slice _ _ _ _ _| .fieldAddr _ _ _| .field _ _ _| .indexAddr _ _ _| .index _ _ _| .entryStore _ _ _ _| .range _ _| .next _ _| .entry _
 | .extract _ _| .recv _ _ _| .panic _| .go _| .makeChan _ _=>true
 | .binOp op t _ _ _=>(!(op matches .eql| .neq) || Hz P 10000 t) && !(P.underlying t matches some .unsafePointer)
 | .convert s d _=>JL P s d
 | .lookup t _ _ _| .mapUpdate t _ _ _| .insert t _ _ _| .mapEntry t _ _=>cg P t
 | .call c=>match c.callee with| .builtin b=>lG P b c.argTypes|_=>true
 | _=>false
def dh(P:Program):Code→Bool
 | .skip| .exit _| .goto _| .ret| .label _| .refuse _=>true
 | .region _ ops _=>ops.all (mq P)
 | .seq a b| .cond _ a b| .rangeFunc _ _ a b=>dh P a && dh P b
 | .block _ b| .loop b| .scope b=>dh P b
theorem LW{F:FuncId→Prop}(hg:P.globals.size=0)(hF:Ad P F){w:World}(hl:Lv Z w){s:Sem Deferred}(hs:(∃d,s=pure d)∨∃m,s=stuck m)
 (hab:∀f,(match s.run P w with| .ok d w'=>d.target.leads P w' d.args| .halt _ _=>none)=some f→F f)
 (hb:∀d w1,s.run P w=.ok d w1→(∀b ts ty cs,d.target=.builtin b ts ty cs→lG P b ts=true)∧∀c,d.target≠.coroexit c):
 Rn P Z (fV Z F) (s >>= fun d=>invoke d.target d.args) w:=by
 rcases hs with⟨d,rfl⟩|⟨m,rfl⟩
 ·rw[pure_bind]
  obtain⟨h1,h2⟩:=hb d w rfl
  exact NY hg hF hl (fun f hf=>hab f hf) h1 h2
 ·have e:(stuck m >>= fun d:Deferred=>invoke d.target d.args)=(stuck m:Sem Next):=rfl
  rw[e]
  exact(au m).rn hl
theorem Ko(t:TypeId)(v:Value):T P Z (Instr.makeChan t v):=by
 unfold Instr.makeChan
 have fin:∀n:Nat,T P Z (do pure (.chan (some (← newObj (.chan n #[] false 0 0 false)))):Sem Value):=fun n=>tb (lM (by trivial)) fun _=>av _
 repeat' with_reducible first
  | exact fin _
  | exact av _
  | exact au _
  | refine tb (au _) fun _=>?_
  | refine tb (cZ _) fun _=>?_
  | refine tb (oq _) fun _=>?_
  | refine tb (dG _) fun _=>?_
  | refine tb (aC _) fun _=>?_
  | refine tb (av _) fun _=>?_
  | split
  | dsimp only
theorem Xy(x:Value):T P Z (Instr.panic x):=by
 unfold Instr.panic
 split
 ·exact trivial
 ·refine tb (s:=Instr.panicnil) ⟨rfl,fun r=>?_⟩ fun n=>?_
  ·cases r <;> exact trivial
  ·split
   ·exact trivial
   ·exact aC _
 ·exact trivial
theorem OI(ρ:Operand→Value)(c:Call)(ty:TypeId):T P Z (resolve ρ c ty):=by
 unfold resolve
 dsimp only
 split
 ·exact trivial
 ·exact trivial
 ·unfold Deferred.ofValue
  split <;> exact trivial
theorem Wz{F:FuncId→Prop}(hg:P.globals.size=0)(hF:Ad P F){o:Oper}(ho:mq P o=true){ρ:Operand→Value}{w:World}(hl:Lv Z w)(hab:∀f,o.about P w ρ=some f→F f):Rn P Z (fV Z F) (execOp ρ o) w:=by
 obtain⟨dst,op,ty,pos,after,guard⟩:=o
 unfold execOp
 dsimp only
 cases op <;> first|(cases ho;done)|skip
 case move x=>exact Rn.ret hl trivial
 case makeChan t n=>exact(tv (Ko _ _)).rn hl
 case panic x=>exact(tv (Xy _)).rn hl
 case go c=>exact(tb (OI _ _ _) fun _=>jo (by exact trivial)).rn hl
 case assign x=>exact Rn.ret hl trivial
 case pick c a b=>exact(tb (rQ _) fun _=>jo (by exact trivial)).rn hl
 case alloc e=>exact(tv (Xl _ _ _)).rn hl
 case box e v=>exact(tv (p6 _ _)).rn hl
 case build t ps=>exact(tv (Xo _ _)).rn hl
 case buildSlice t n ps=>exact(tv (DW _ _ _)).rn hl
 case insert t m k v=>exact(tu (uw hg (uY ho) _ _ _)).rn hl
 case load t a=>exact(tv (TG _ _)).rn hl
 case store t a v=>exact(tu (OO _ _ _)).rn hl
 case nilCheck x=>
  dsimp only
  refine Tm.rn ?_ hl
  split
  ·exact aC _
  ·exact aC _
  ·exact aC _
  ·split
   ·exact aC _
   ·refine tb lN fun p=>tb (Kt _ _ _ _) fun b=>?_
    split
    ·exact trivial
    ·exact jo (by exact trivial)
   ·exact jo (by exact trivial)
  ·exact jo (by exact trivial)
 case binOp op t x y yt=>
  simp only[mq,Bool.and_eq_true,Bool.or_eq_true,Bool.not_eq_true'] at ho
  refine(tv (tb (OA _ _ _ _ _ _) fun _=>Xn hg _ _ _ _ (fun he=>?_) (fun hu=>?_))).rn hl
  ·rcases ho.1 with h|h
   ·rcases he with rfl|rfl <;> cases h
   ·exact h
  ·have:=ho.2
   rw[hu] at this
   cases this
 case unOp op t x=>exact(tv (XD _ _)).rn hl
 case convert s d x=>exact(tv (Oy ho _)).rn hl
 case makeInterface t x=>exact(tv (uQ _ _)).rn hl
 case makeFunc fn a b=>exact(tv (av _)).rn hl
 case makeMap t r=>exact(tv (OG _ _)).rn hl
 case makeSlice t l c=>exact(tv (GY _ _ _)).rn hl
 case slice t x l h m=>exact(tv (OL _ _ _ _ _)).rn hl
 case fieldAddr t x f=>exact(tv (OD _ _ _)).rn hl
 case field t x f=>exact(tv (Xu _ _ _)).rn hl
 case indexAddr t x i=>exact(tv (OE _ _ _)).rn hl
 case index t x i=>exact(tv (Xv _ _ _)).rn hl
 case lookup t x i ok=>exact(tv (TH hg (uY ho) _ _ _)).rn hl
 case mapUpdate t m k v=>exact(tu (uw hg (uY ho) _ _ _)).rn hl
 case mapEntry t m k=>exact(tv (Kq hg (uY ho) _ _)).rn hl
 case entryStore t m s v=>exact(tu (DX _ _ _ _)).rn hl
 case range t x=>exact(tv (Xz _ _)).rn hl
 case next it s=>exact(tv (eI _ _ _)).rn hl
 case entry it=>exact(tv (Xt _)).rn hl
 case extract x i=>exact(tv (OC _ _)).rn hl
 case call c=>
  dsimp only
  simp only[Oper.about] at hab
  refine LW hg hF hl ?_ hab (fun d w1 hd=>?_)
  ·unfold resolve
   cases hc:c.callee with
   | builtin b=>exact .inl ⟨_,rfl⟩
   | invoke recv name=>exact .inl ⟨_,rfl⟩
   | value f=>
     dsimp only
     unfold Deferred.ofValue
     split
     ·exact .inl ⟨_,rfl⟩
     ·exact .inl ⟨_,rfl⟩
     ·exact .inr ⟨_,rfl⟩
  ·unfold resolve at hd
   cases hc:c.callee with
   | builtin b=>
     rw[hc] at hd
     cases hd
     refine⟨fun b' ts ty' cs e=>?_,fun c e=>Target.noConfusion e⟩
     simp only[mq,hc] at ho
     cases e
     exact ho
   | invoke recv name=>
     rw[hc] at hd
     cases hd
     exact⟨fun b' ts ty' cs e=>Target.noConfusion e,fun c e=>Target.noConfusion e⟩
   | value f=>
     rw[hc] at hd
     dsimp only at hd
     unfold Deferred.ofValue at hd
     split at hd
     ·cases hd
      exact⟨fun b' ts ty' cs e=>Target.noConfusion e,fun c e=>Target.noConfusion e⟩
     ·cases hd
      exact⟨fun b' ts ty' cs e=>Target.noConfusion e,fun c e=>Target.noConfusion e⟩
     ·cases hd
 case recv ct ch ok=>
  refine(tb (cZ _) fun d=>?_:Tm P Z (fV Z F) _).rn hl
  split
  ·exact tb (dA _) fun z=>jo ⟨rfl,_,_,rfl,rfl,rfl⟩
  ·exact au _
end
end Go.dN
