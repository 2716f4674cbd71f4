/- Far7 Far8 Far9 Far10 -/
import Derived.Test.YthaelabgfnnebaaGreatC9
import Derived.Fence
import Derived.Conc.Own4
import Derived.Conc.Listed
set_option maxRecDepth 100000
set_option maxHeartbeats 16000000
set_option linter.unusedVariables false
set_option linter.unusedSectionVars false
namespace Go.dS
section
variable{P:Program}{Z:Env}
theorem Fj{n:Addr}(h:Z n.block){w:World}(hl:Lv Z w)(es:Array Event):(behindNumber n).runT P w es=(.ok (n,false) w,es.push ⟨.obj n.block,false,false⟩):=by
 have e1:w.shape? n.block=none:=by simp[World.shape?,hl.dead _ h,X0]
 simp[behindNumber,numberAt,shape,getObj,bind,Sem.bind,Sem.runT,e1,hl.dead _ h,X0,pure,Obj.isChan,-Sem.runT_eq]
theorem CO{β:Type}{R:β→Prop}{n:Addr}{f:Addr × Bool→Sem β}(h:∀x,Tm P Z R (f x))(hd:Z n.block→Bd P Z (f (n,false))):Tm P Z R (behindNumber n >>= f):=by
 by_cases hz:Z n.block
 ·refine .inl ?_
  intro w es hl hg
  have e:(behindNumber n >>= f).runT P w es=(f (n,false)).runT P w (es.push ⟨.obj n.block,false,false⟩):=by
   show((behindNumber n).bind f).runT P w es=_
   rw[Sem.runT_bind',Fj hz hl]
  rw[show Sem.runT P (Sem.shape n.block _) w es=(behindNumber n >>= f).runT P w es from rfl,e] at hg
  exact hd hz w _ hl hg
 ·refine tb ?_ h
  refine tb (s:=numberAt n.block) ?_ fun _=>av _
  refine .inr ⟨fun _ x=>?_,fun hz2=>absurd hz2 hz⟩
  show Tm P Z _ (Sem.bind (Sem.pure x) _)
  cases x with
  | some x=>exact trivial
  | none=>exact⟨fun _ o ho=>by cases o <;> first|exact trivial|exact ho.elim,fun hz2=>absurd hz2 hz⟩
theorem wC(c:Addr)(w:World)(es:Array Event):(∃a es',(behindNumber c).runT P w es=(.ok a w,es'))∨∃m es',(behindNumber c).runT P w es=(.halt (.stuck m) w,es'):=by
 have e:behindNumber c=(do let x ← numberAt c.block;pure (x.getD (c,false))):=rfl
 rw[e]
 simp only[numberAt,shape,getObj,bind,Sem.bind,pure,Sem.runT]
 cases hs:w.shape? c.block with
 | some x=>exact .inl ⟨_,_,rfl⟩
 | none=>
   simp only[Option.isSome_none,Bool.false_eq_true,if_false,Sem.bind,Sem.runT]
   cases hh:w.heap[c.block]? with
   | none=>exact .inr ⟨_,_,rfl⟩
   | some o=>cases o <;> first|exact .inr ⟨_,_,rfl⟩|exact .inl ⟨_,_,rfl⟩
theorem cr(a b:Addr)(f:Addr × Bool→Addr × Bool→Sem Value)(lost:∀x y,Dm P (f x y)):Bd P Z (do let x ← behindNumber a;let y ← behindNumber b;f x y):=by
 intro w es hl hg
 replace hg:fC (((behindNumber a).bind fun x=>(behindNumber b).bind fun y=>f x y).runT P w es).1:=hg
 rw[Sem.runT_bind'] at hg
 rcases wC (P:=P) a w es with⟨x,es1,e⟩|⟨m,es1,e⟩ <;> rw[e] at hg
 ·dsimp only at hg
  rw[Sem.runT_bind'] at hg
  rcases wC (P:=P) b w es1 with⟨y,es2,e⟩|⟨m,es2,e⟩ <;> rw[e] at hg
  ·exact(lost x y).run _ _ hg
  ·exact hg
 ·exact hg
theorem oe(hg:P.globals.size=0)(a b:Addr){β:Type}(f:Nat × Nat→Sem β):Dm P (Op.twoPlaces a b >>= f):=by
 show Dm P (Sem.bind (if (a.block != b.block || decide (a.block≥P.globals.size))=true then _ else _) f)
 rw[hg]
 simp only[ge_iff_le,Nat.zero_le,decide_true,Bool.or_true,if_true]
 exact trivial
theorem nY(ts:Array TypeId)(t:TypeId)(args:Array Value):T P Z (Builtin.unsafeAdd_ ts t args):=by
 obtain⟨l⟩:=args
 rcases l with _|⟨a,_|⟨b,_|⟨c,l⟩⟩⟩
 ·exact au _
 ·cases a <;> exact au _
 ·cases a with
  | pointer p=>
    unfold Builtin.unsafeAdd_
    dsimp only
    refine tb (oH _) fun n=>?_
    have tail:∀p:Option Addr,T P Z (match p with
     | some a=>do
       let some (e,cells) ← shape a.block|unsupported (.unsafePointer "Add")
       let q ← program
       match cellAtBytes q q.depth e (cells / q.cellsOf e) a.off n with
       | some off=>pure (.pointer (some {a with off }))
       | none=>unsupported (.unsafePointer "Add")
     | none=>unsupported (.unsafePointer "Add"):Sem Value):=fun p=>by
     cases p with
     | none=>exact gC _
     | some a=>
       refine .inr ⟨fun _ x=>?_,fun hz=>dK (by exact trivial)⟩
       show Tm P Z _ (match x with|some (e,cells)=>_|_=>_)
       cases x with
       | none=>exact trivial
       | some x=>
         dsimp only
         refine tb lU fun q=>?_
         split <;> exact trivial
    refine Tm.ite ?_ ?_
    ·cases p with
     | none=>exact trivial
     | some a=>
       dsimp only
       by_cases hz:Z a.block
       ·refine .inl fun w es hl hg=>?_
        have e1:w.shape? a.block=none:=by simp[World.shape?,hl.dead _ hz,X0]
        simp[getObj,bind,Sem.bind,Sem.runT,e1,hl.dead _ hz,X0,pure,unsupported,Obj.isChan,-Sem.runT_eq] at hg
        exact hg
       ·refine tb (Iq hz) fun x=>?_
        split <;> exact trivial
    ·refine Tm.ite ?_ ?_
     ·exact trivial
     ·cases p with
      | none=>exact trivial
      | some a=>exact tail (some a)
  | _=>exact au _
 ·cases a <;> exact au _
theorem Nl{r:Nat}(hz:Z r){β:Type}{f:Option (Addr × TypeId)→Sem β}(h:∀x,Dm P (f (some x))):Bd P Z (viewAt r >>= f):=by
 intro w es hl hg
 have e1:w.shape? r=none:=by simp[World.shape?,hl.dead _ hz,X0]
 have e:(viewAt r).runT P w es=(.ok (some (⟨r,0,none⟩,0)) w,es.push ⟨.obj r,false,false⟩):=by
  simp[viewAt,shape,getObj,bind,Sem.bind,Sem.runT,e1,hl.dead _ hz,X0,pure,Obj.isChan,-Sem.runT_eq]
 replace hg:fC (((viewAt r).bind f).runT P w es).1:=hg
 rw[Sem.runT_bind',e] at hg
 exact(h _).run _ _ hg
theorem Rp{r:Nat}(hz:Z r){β:Type}{f:Option (TypeId × Nat)→Sem β}(h:Dm P (f none)):Bd P Z (shape r >>= f):=by
 intro w es hl hg
 have e1:w.shape? r=none:=by simp[World.shape?,hl.dead _ hz,X0]
 replace hg:fC ((Sem.shape r fun s=>(Sem.pure s).bind f).runT P w es).1:=hg
 simp only[Sem.runT,e1,Sem.bind] at hg
 exact h.run _ _ hg
theorem Ro{α:Type}{c:Prop}[Decidable c]{a b:Sem α}(h1:Bd P Z a)(h2:Bd P Z b):Bd P Z (if c then a else b):=by
 split
 ·exact h1
 ·exact h2
theorem Dw{a:Addr}(hz:Z a.block)(ts:Array TypeId)(t:TypeId)(y:Value):Bd P Z (Builtin.unsafeAdd_ ts t #[.pointer (some a),y]):=by
 cases y with
 | int k n=>
   show Bd P Z (if n=0 then _ else if n<0 then _ else _)
   refine Ro ?_ (Ro ?_ ?_)
   ·exact Nl hz fun x=>by exact trivial
   ·exact dK (by exact trivial)
   ·exact Rp hz (by exact trivial)
 | pointer p=>cases p <;> exact dK (by exact trivial)
 | _=>exact dK (by exact trivial)
theorem pR(t:TypeId)(x y:Value):T P Z (movedNumber t x y):=by
 unfold movedNumber
 refine tb (cO t) fun d=>?_
 have tail:∀r:Sem Value,T P Z r→∀lost,T P Z (do match ← r with| .pointer (some b)=>asNumber b lost|v=>pure v:Sem Value):=fun r hr lost=>tb hr fun v=>by
  split
  ·exact tb (lT (by exact trivial)) fun _=>av _
  ·exact av _
 cases x with
 | pointer p=>
   cases p with
   | none=>dsimp only;exact Tm.ite (by exact trivial) (nY _ _ _)
   | some n=>dsimp only;exact Tm.ite (by exact trivial) (CO (fun x=>tail _ (nY _ _ _) _) fun hz=>(Dw hz _ _ _).bind _)
 | _=>dsimp only;exact Tm.ite (by exact trivial) (nY _ _ _)
theorem Pn(k:IntKind)(a:Addr)(n:Int):T P Z (Op.addrMod k a n):=by
 unfold Op.addrMod
 refine .inr ⟨fun _ x=>?_,fun hz=>dK (by exact trivial)⟩
 show Tm P Z _ (match x with|some (e,_)=>_|_=>_)
 cases x with
 | none=>exact trivial
 | some x=>
   dsimp only
   refine tb (dJ _) fun i=>?_
   split
   ·exact trivial
   ·exact tb (xY _) fun _=>av _
theorem Ji{a:Addr}(hz:Z a.block)(k:IntKind)(n:Int):Bd P Z (Op.addrMod k a n):=by
 intro w es hl hg
 have e1:w.shape? a.block=none:=by simp[World.shape?,hl.dead _ hz,X0]
 simp[Op.addrMod,shape,bind,Sem.bind,Sem.runT,e1,unsupported,-Sem.runT_eq] at hg
 exact hg
theorem Yq(k:IntKind)(a:Addr)(n:Int):T P Z (do Op.addrMod k (← behindNumber a).1 n):=CO (fun x=>Pn _ _ _) fun hz=>Ji hz _ _
theorem Yh(hg:P.globals.size=0)(op:BinOp)(t:TypeId)(x y:Value)(he:op=.eql∨op=.neq→IC P 10000 t=true)(hu:P.underlying t≠some .unsafePointer):T P Z (binOp op t x y):=by
 unfold binOp
 split
 ·exact MR _ _ _ _ _
 ·exact MR _ _ _ _ _
 ·split
  ·exact au _
  ·split
   ·exact mM _ _ _ _
   ·exact mM _ _ _ _
   ·exact mM _ _ _ _
   ·exact Io _ _ _ _
   ·exact Io _ _ _ _
   ·exact lS _ _ _ _
   ·exact lS _ _ _ _
   ·exact lS _ _ _ _
   ·exact lS _ _ _ _
   ·exact Uo _ _ _
 ·split
  ·exact au _
  ·split
   ·exact gV _ _ _ _
   ·exact gV _ _ _ _
   ·exact gV _ _ _ _
   ·exact gV _ _ _ _
   ·exact xZ _ _ _ _
 ·split
  ·exact au _
  ·exact Ih _ _ _ _ _ _
 ·exact qO _ _ _
 ·exact tb (Ez hg (he (.inl rfl)) _ _) fun _=>av _
 ·exact tb (Ez hg (he (.inr rfl)) _ _) fun _=>av _
 ·refine tq (bV t) fun d hd=>?_
  cases d <;> first|exact absurd hd hu|exact pR _ _ _
 all_goals first
  | exact pR _ _ _
  | exact Yq _ _ _
  | exact trivial
  | exact .inl (cr _ _ _ fun x y=>oe hg _ _ _)
theorem PL(ts:Array TypeId)(t:TypeId)(args:Array Value):T P Z (Builtin.ssaWrapNilChk_ ts t args):=by
 obtain⟨l⟩:=args
 rcases l with _|⟨a,_|⟨b,_|⟨c,_|⟨d,l⟩⟩⟩⟩
 ·exact au _
 ·exact au _
 ·exact au _
 ·cases b <;> first|exact au _|skip
  cases c <;> first|exact au _|skip
  cases a <;> first|exact au _|skip
  rename_i p
  cases p <;> first|exact av _|skip
  refine tb (dQ _) fun _=>?_
  repeat' with_reducible first
   | exact av _
   | exact au _
   | exact aD _
   | exact uQ _
   | exact cU _ _
   | exact ou _ _
   | refine tb (av _) fun _=>?_
   | refine tb (dQ _) fun _=>?_
   | refine tb (cO _) fun _=>?_
   | refine tb (dJ _) fun _=>?_
   | split
   | dsimp only
 ·exact au _
theorem mO(t:TypeId)(x:Place):T P Z (x.get t):=by
 unfold Place.get
 split
 ·exact av _
 ·exact oK _ _
theorem Il(l:List FieldStep):∀ (t:TypeId) (x:Place),T P Z (follow l t x):=by
 induction l with
 | nil=>exact fun _ _=>av _
 | cons s l ih=>
   intro t x
   unfold follow
   refine tb (cO _) fun d=>?_
   repeat' with_reducible first
    | exact ih _ _
    | exact au _
    | refine tb (mO _ _) fun _=>?_
    | refine tb (rW _) fun _=>?_
    | refine tb (rY _ _) fun _=>?_
    | refine tb (gW _ _ _) fun _=>?_
    | split
theorem sD(t:TypeId)(x:Place)(b:Bool)(w:Option String):T P Z (receiverAt t x b w):=by
 unfold receiverAt
 refine tb (cO _) fun d=>?_
 repeat' with_reducible first
  | exact mO _ _
  | exact av _
  | exact au _
  | exact oK _ _
  | refine tb (av _) fun _=>?_
  | refine tb (mO _ _) fun _=>?_
  | refine tb (PL _ _ _) fun _=>?_
  | refine tb (rW _) fun _=>?_
  | split
theorem Aw(t:TypeId)(v:Value)(p:Array FieldStep)(b:Bool):T P Z (receiverVia t v p b):=tb (Il _ _ _) fun _=>sD _ _ _ _
theorem Uv(n:Nat):∀ (t:TypeId) (v:Value) (name:String),T P Z (method n t v name):=by
 induction n with
 | zero=>exact fun _ _ _=>trivial
 | succ n ih=>
   intro t v name
   unfold method
   refine tb (dJ _) fun i=>?_
   repeat' with_reducible first
    | exact ih _ _ _
    | exact av _
    | exact au _
    | exact aD _
    | refine tb (Il _ _ _) fun _=>?_
    | refine tb (mO _ _) fun _=>?_
    | refine tb (sD _ _ _ _) fun _=>?_
    | split
    | dsimp only
theorem Au(l:List FieldStep):∀ (t:TypeId) (x:Option Value),T P Z (followBlind l t x):=by
 induction l with
 | nil=>exact fun _ _=>av _
 | cons s l ih=>
   intro t x
   unfold followBlind
   refine tb (cO _) fun d=>?_
   repeat' with_reducible first
    | exact ih _ _
    | exact av _
    | exact au _
    | refine tb (gW _ _ _) fun _=>?_
    | split
theorem KP(n:Nat):∀ (t:TypeId) (v:Value) (name:String),T P Z (nilAhead n t v name):=by
 induction n with
 | zero=>exact fun _ _ _=>av _
 | succ n ih=>
   intro t v name
   unfold nilAhead
   refine tb (dJ _) fun i=>?_
   repeat' with_reducible first
    | exact ih _ _ _
    | exact av _
    | exact au _
    | refine tb (Au _ _ _) fun _=>?_
    | refine tb (cO _) fun _=>?_
    | split
    | dsimp only
def gy(Z:Env)(F:FuncId→Prop):Next→Prop
 | .value _| .skip=>True
 | .round _ f _ a b=>Z.jh f a∧Z.jh f b
 | .enter f _=>F f
 | .spawn _=>True
 | .comm cases blocking shape=>blocking=true∧∃c ok,cases=#[c]∧c.send=none∧shape=.recv ok
 | _=>False
def Rn(P:Program)(Z:Env){α:Type}(R:α→Prop)(s:Sem α)(w:World):Prop:=∀es,fC (s.runT P w es).1→∃n new r,Ran P Z R s w es n new r
theorem Tm.rn{α:Type}{R:α→Prop}{s:Sem α}{w:World}(h:Tm P Z R s)(hl:Lv Z w):Rn P Z R s w:=fun es hg=>UL h hl hg
theorem Rn.bind{α β:Type}{Q:α→Prop}{R:β→Prop}{s:Sem α}{f:α→Sem β}{w:World}(hl:Lv Z w)(hs:Tm P Z Q s)(hf:∀a w1,Q a→s.run P w=.ok a w1→Lv Z w1→Rn P Z R (f a) w1):Rn P Z R (s.bind f) w:=by
 intro es hg
 have hg1:fC (s.runT P w es).1:=by
  rw[Sem.runT_bind'] at hg
  generalize s.runT P w es=r at hg
  obtain⟨r,es'⟩:=r
  cases r with
  | ok a w'=>trivial
  | halt e w'=>cases e <;> first|exact hg|trivial
 obtain⟨n,new,r,R1⟩:=UL hs hl hg1
 cases r with
 | halt e w1=>
   have hgh:fC (.halt e w1:Result α):=by
    have:=R1.run
    rw[this] at hg1
    exact hg1
   refine⟨n,new,.halt e w1,?_,R1.drawn,R1.tape,R1.lv,R1.evs,(fun _ _ e=>by cases e),fun v es2 hs2 ha=>?_⟩
   ·rw[Sem.runT_bind',R1.run]
   ·obtain⟨v',e1,e2⟩:=R1.pO v es2 hs2 ha
    exact⟨v',by rw[Sem.runT_bind',e1];rfl,e2⟩
 | ok a w1=>
   have hrun:s.run P w=.ok a w1:=by
    have:=Sem.runT_fst P s w es
    rw[R1.run] at this
    exact this.symm
   have hg2:fC ((f a).runT P w1 (es ++ new)).1:=by
    rw[Sem.runT_bind',R1.run] at hg
    exact hg
   obtain⟨n2,new2,r2,R2⟩:=hf a w1 (R1.val a w1 rfl) hrun R1.lv (es ++ new) hg2
   have hd1:w1.drawn=w.drawn+n:=R1.drawn
   have ht1:w1.tape=w.tape:=R1.tape
   refine⟨n+n2,new ++ new2,r2,?_,by rw[R2.drawn,hd1];omega,R2.tape.trans ht1,R2.lv,fun e he=>?_,R2.val,fun v es2 hs2 ha=>?_⟩
   ·rw[Sem.runT_bind',R1.run]
    show(f a).runT P w1 (es ++ new)=_
    rw[R2.run,Array.append_assoc]
   ·rcases Array.mem_append.1 he with he|he
    ·exact R1.evs e he
    ·exact R2.evs e he
   ·obtain⟨v1,e1,s1,d1,t1⟩:=R1.pO v es2 hs2 (ha.le zo)
    obtain⟨v2,e2,s2,d2,t2⟩:=R2.pO v1 (es2 ++ new) s1 (Agree.shift ha hd1 ht1 d1 t1)
    refine⟨v2,?_,s2,by rw[d2,d1];omega,t2.trans t1⟩
    rw[Sem.runT_bind',e1]
    show(f a).runT P v1 (es2 ++ new)=_
    rw[e2,Array.append_assoc]
theorem Rn.ret{α:Type}{R:α→Prop}{a:α}{w:World}(hl:Lv Z w)(h:R a):Rn P Z R (pure a) w:=Tm.rn (jq h) hl
def Bh(P:Program)(F:FuncId→Prop):Prop:=∀g,F g→∃f c,P.funcs[g]? =some f∧f.body=some c∧(f.name == "runtime.NumGoroutine")=false
theorem qN{F:FuncId→Prop}(hF:Bh P F){f:FuncId}(hf:F f)(args:Array Value):Tm P Z (gy Z F) (callFunc f args):=by
 obtain⟨fn,c,h1,h2,h3⟩:=hF f hf
 show Tm P Z (gy Z F) (match P.funcs[f]? with|none=>_|some fn=>_)
 rw[h1]
 show Tm P Z (gy Z F) (if (fn.name == "runtime.NumGoroutine")=true then _ else if fn.body.isNone=true then _ else pure (.enter f args))
 rw[h3,h2]
 exact hf
theorem tv{F:FuncId→Prop}{s:Sem Value}(h:T P Z s):Tm P Z (gy Z F) (do pure (.value (← s))):=tb h fun _=>trivial
theorem tu{F:FuncId→Prop}{s:Sem Unit}(h:T P Z s):Tm P Z (gy Z F) (do s;pure .skip):=tb h fun _=>trivial
def lK(P:Program)(b:Builtin)(ts:Array TypeId):Bool:=match b with
 | .append| .cap| .clear| .close| .copy| .len| .max| .min=>true
 | .delete=>match ts[0]? with
   | some m=>match P.underlying m with|some (.map k _)=>IC P 10000 k|_=>true
   | none=>true
 | _=>false
theorem Po{F:FuncId→Prop}(hg:P.globals.size=0){b:Builtin}{ts:Array TypeId}(h:lK P b ts=true)(t:TypeId)(cs:Array Bool)(args:Array Value):Tm P Z (gy Z F) (builtin b ts t cs args):=by
 cases b <;> first|(cases h;done)|skip
 ·exact tv (Uk _ _ _)
 ·exact tv (tt _ _ _)
 ·exact tv (Yk _ _ _)
 ·exact tv (Yl _ _ _)
 ·exact tv (gr _ _ _)
 ·refine tv (Um hg _ _ _ fun m k e h0 h1=>?_)
  simp only[lK,h0,h1] at h
  exact h
 ·exact tv (tx _ _ _)
 ·exact tv (tz _ _ _)
 ·exact tv (tA _ _ _)
theorem pJ{F:FuncId→Prop}(hF:Bh P F){recv:Value}{name:String}{args:Array Value}{w:World}(hl:Lv Z w)
 (h:∀u v f r w1,recv=.iface u v→(method (P.types.size+Made.depth) u v name).run P w=.ok (f,r) w1→F f):Rn P Z (gy Z F) (callMethod recv name args) w:=by
 unfold callMethod
 cases recv with
 | iface u v=>
   intro es hg
   obtain⟨n,new,r,R⟩:=Rn.bind (R:=gy Z F) (f:=fun x:FuncId × Value=>callFunc x.1 (#[x.2] ++ args)) hl (Uv (P.types.size+Made.depth) u v name) (fun⟨f,r⟩ w1 _ hr hl1=>(qN hF (h u v f r w1 rfl hr) _).rn hl1) es hg
   exact⟨n,new,r,R.run,R.drawn,R.tape,R.lv,R.evs,R.val,R.pO⟩
 | nilIface=>exact(aD _).rn hl
 | _=>exact(au _).rn hl
theorem OQ{F:FuncId→Prop}(hg:P.globals.size=0)(hF:Bh P F){t:Target}{args:Array Value}{w:World}(hl:Lv Z w)(h:∀f,t.leads P w args=some f→F f)
 (hb:∀b ts ty cs,t=.builtin b ts ty cs→lK P b ts=true)(hc:∀c,t≠.coroexit c):Rn P Z (gy Z F) (invoke t args) w:=by
 cases t with
 | nil=>unfold invoke;exact(aD _).rn hl
 | builtin b ts ty cs=>exact(Po hg (hb _ _ _ _ rfl) ty cs args).rn hl
 | collected r=>exact(au _).rn hl
 | coroexit c=>exact absurd rfl (hc c)
 | fn f cap=>
   cases f with
   | func g=>exact(qN hF (h g rfl) _).rn hl
   | yield l=>exact((Yx l args).mono fun n ⟨_,_,_,_,e,h1,h2⟩=>by rw[e];exact⟨h1,h2⟩).rn hl
   | via ty path g ptr=>
     unfold invoke
     cases ha:args[0]? with
     | none=>exact(au _).rn hl
     | some x=>exact Tm.rn (tb (Aw _ _ _ _) fun _=>qN hF (h g rfl) _) hl
   | method name=>
     unfold invoke
     cases ha:args[0]? with
     | none=>exact(au _).rn hl
     | some x=>
       refine pJ hF hl fun u v f r w1 e hr=>h f ?_
       subst e
       simp only[Target.leads,ha,hr]
   | methodOf ty name=>
     unfold invoke
     cases ha:args[0]? with
     | none=>exact(au _).rn hl
     | some x=>
       intro es hgd
       refine Rn.bind (R:=gy Z F) hl (bV ty) (fun d w1 hd hr hl1=>?_) es hgd
       have ew:w1=w:=by
        have:(underlying ty).run P w=.ok d w:=by
         simp only[underlying,program,bind,Sem.bind,Sem.run]
         rw[hd]
         rfl
        rw[this] at hr
        cases hr;rfl
       subst ew
       refine pJ hF hl1 fun u v f r w2 e hr2=>h f ?_
       simp only[Target.leads,ha,Option.map_some,hd]
       cases d <;> simp_all
theorem Ym(it:Value):T P Z (Instr.entry it):=by
 unfold Instr.entry
 split
 ·refine bF (fun hz o ho=>?_) fun hz=>dK (by exact trivial)
  split
  ·split
   ·refine bF (fun hz2 o2 ho2=>?_) fun hz=>dK (by exact trivial)
    split
    ·refine Tm.ite ?_ ?_
     ·exact trivial
     ·split <;> exact trivial
    ·exact au _
   ·exact au _
  ·exact au _
 ·exact au _
def eN(P:Program)(t:TypeId):Bool:=match P.underlying t with|some (.map k _)=>IC P 10000 k|_=>true
theorem vJ{t:TypeId}(h:eN P t=true):∀k e,P.underlying t=some (.map k e)→IC P 10000 k=true:=fun k e he=>by
 simp only[eN,he] at h
 exact h
def Kk(P:Program)(s d:TypeId):Bool:=match P.underlying s,P.underlying d with
 | some (.int _),some (.int _)=>true
 | some .string,some .string=>true
 | _,_=>false
theorem EB(a:FloatKind)(n:Nat)(k:IntKind):T P Z (Conv.floatToInt a n k):=by
 unfold Conv.floatToInt
 repeat' with_reducible first
  | exact av _
  | exact au _
  | refine tb (av _) fun _=>?_
  | refine tb (dQ _) fun _=>?_
  | split
  | dsimp only
theorem Av(n:Int):T P Z (Conv.intToString n):=by
 unfold Conv.intToString
 repeat' with_reducible first
  | exact av _
  | exact au _
  | split
  | dsimp only
theorem Pp{s d:TypeId}(h:Kk P s d=true)(x:Value):T P Z (convert s d x):=by
 unfold convert
 refine tq (bV s) fun ds hs=>tq (bV d) fun dd hd=>?_
 unfold Kk at h
 rw[hs,hd] at h
 cases ds <;> cases dd <;> first|(cases h;done)|skip
 ·cases x <;> first|exact EB _ _ _|exact av _|exact au _|exact uQ _|skip
  rename_i a
  cases a <;> first|exact ED|exact uQ _
 ·cases x <;> first|exact Av _|exact av _|exact au _|exact uQ _
def mE(P:Program)(o:Oper):Bool:=match o.op with
 | .move _| .assign _| .pick _ _ _| .alloc _| .box _ _| .build _ _| .buildSlice _ _ _| .load _ _| .store _ _ _| .nilCheck _| .unOp _ _ _| .makeInterface _ _
 | .makeFunc _ _ _| .makeMap _ _| .makeSlice _ _ _| .slice _ _ _ _ _| .fieldAddr _ _ _| .field _ _ _| .indexAddr _ _ _| .index _ _ _| .entryStore _ _ _ _| .range _ _| .next _ _| .entry _
 | .extract _ _| .recv _ _ _| .panic _| .go _| .makeChan _ _=>true
 | .binOp op t _ _ _=>(!(op matches .eql| .neq) || IC P 10000 t) && !(P.underlying t matches some .unsafePointer)
 | .convert s d _=>Kk P s d
 | .lookup t _ _ _| .mapUpdate t _ _ _| .insert t _ _ _| .mapEntry t _ _=>eN P t
 | .call c=>match c.callee with| .builtin b=>lK P b c.argTypes|_=>true
 | _=>false
def cZ(P:Program):Code→Bool
 | .skip| .exit _| .goto _| .ret| .label _| .refuse _=>true
 | .region _ ops _=>ops.all (mE P)
 | .seq a b| .cond _ a b| .rangeFunc _ _ a b=>cZ P a && cZ P b
 | .block _ b| .loop b| .scope b=>cZ P b
theorem ME{F:FuncId→Prop}(hg:P.globals.size=0)(hF:Bh P F){w:World}(hl:Lv Z w){s:Sem Deferred}(hs:(∃d,s=pure d)∨∃m,s=stuck m)
 (hab:∀f,(match s.run P w with| .ok d w'=>d.target.leads P w' d.args| .halt _ _=>none)=some f→F f)
 (hb:∀d w1,s.run P w=.ok d w1→(∀b ts ty cs,d.target=.builtin b ts ty cs→lK P b ts=true)∧∀c,d.target≠.coroexit c):
 Rn P Z (gy Z F) (s >>= fun d=>invoke d.target d.args) w:=by
 rcases hs with⟨d,rfl⟩|⟨m,rfl⟩
 ·rw[pure_bind]
  obtain⟨h1,h2⟩:=hb d w rfl
  exact OQ hg hF hl (fun f hf=>hab f hf) h1 h2
 ·have e:(stuck m >>= fun d:Deferred=>invoke d.target d.args)=(stuck m:Sem Next):=rfl
  rw[e]
  exact(au m).rn hl
theorem KM(t:TypeId)(v:Value):T P Z (Instr.makeChan t v):=by
 unfold Instr.makeChan
 have fin:∀n:Nat,T P Z (do pure (.chan (some (← newObj (.chan n #[] false 0 0 false)))):Sem Value):=fun n=>tb (lT (by trivial)) fun _=>av _
 repeat' with_reducible first
  | exact fin _
  | exact av _
  | exact au _
  | refine tb (au _) fun _=>?_
  | refine tb (cO _) fun _=>?_
  | refine tb (oH _) fun _=>?_
  | refine tb (dJ _) fun _=>?_
  | refine tb (aD _) fun _=>?_
  | refine tb (av _) fun _=>?_
  | split
  | dsimp only
theorem Yr(x:Value):T P Z (Instr.panic x):=by
 unfold Instr.panic
 split
 ·exact trivial
 ·refine tb (s:=Instr.panicnil) ⟨rfl,fun r=>?_⟩ fun n=>?_
  ·cases r <;> exact trivial
  ·split
   ·exact trivial
   ·exact aD _
 ·exact trivial
theorem PG(ρ:Operand→Value)(c:Call)(ty:TypeId):T P Z (resolve ρ c ty):=by
 unfold resolve
 dsimp only
 split
 ·exact trivial
 ·exact trivial
 ·unfold Deferred.ofValue
  split <;> exact trivial
theorem Xx{F:FuncId→Prop}(hg:P.globals.size=0)(hF:Bh P F){o:Oper}(ho:mE P o=true){ρ:Operand→Value}{w:World}(hl:Lv Z w)(hab:∀f,o.about P w ρ=some f→F f):Rn P Z (gy Z F) (execOp ρ o) w:=by
 obtain⟨dst,op,ty,pos,after,guard⟩:=o
 unfold execOp
 dsimp only
 cases op <;> first|(cases ho;done)|skip
 case move x=>exact Rn.ret hl trivial
 case makeChan t n=>exact(tv (KM _ _)).rn hl
 case panic x=>exact(tv (Yr _)).rn hl
 case go c=>exact(tb (PG _ _ _) fun _=>jq (by exact trivial)).rn hl
 case assign x=>exact Rn.ret hl trivial
 case pick c a b=>exact(tb (rX _) fun _=>jq (by exact trivial)).rn hl
 case alloc e=>exact(tv (Yf _ _ _)).rn hl
 case box e v=>exact(tv (tp _ _)).rn hl
 case build t ps=>exact(tv (Yi _ _)).rn hl
 case buildSlice t n ps=>exact(tv (Ew _ _ _)).rn hl
 case insert t m k v=>exact(tu (uP hg (vJ ho) _ _ _)).rn hl
 case load t a=>exact(tv (Us _ _)).rn hl
 case store t a v=>exact(tu (PN _ _ _)).rn hl
 case nilCheck x=>
  dsimp only
  refine Tm.rn ?_ hl
  split
  ·exact aD _
  ·exact aD _
  ·exact aD _
  ·split
   ·exact aD _
   ·refine tb lU fun p=>tb (KP _ _ _ _) fun b=>?_
    split
    ·exact trivial
    ·exact jq (by exact trivial)
   ·exact jq (by exact trivial)
  ·exact jq (by exact trivial)
 case binOp op t x y yt=>
  simp only[mE,Bool.and_eq_true,Bool.or_eq_true,Bool.not_eq_true'] at ho
  refine(tv (tb (Pv _ _ _ _ _ _) fun _=>Yh hg _ _ _ _ (fun he=>?_) (fun hu=>?_))).rn hl
  ·rcases ho.1 with h|h
   ·rcases he with rfl|rfl <;> cases h
   ·exact h
  ·have:=ho.2
   rw[hu] at this
   cases this
 case unOp op t x=>exact(tv (Yw _ _)).rn hl
 case convert s d x=>exact(tv (Pp ho _)).rn hl
 case makeInterface t x=>exact(tv (vC _ _)).rn hl
 case makeFunc fn a b=>exact(tv (av _)).rn hl
 case makeMap t r=>exact(tv (PD _ _)).rn hl
 case makeSlice t l c=>exact(tv (Ip _ _ _)).rn hl
 case slice t x l h m=>exact(tv (PK _ _ _ _ _)).rn hl
 case fieldAddr t x f=>exact(tv (Py _ _ _)).rn hl
 case field t x f=>exact(tv (Yn _ _ _)).rn hl
 case indexAddr t x i=>exact(tv (Pz _ _ _)).rn hl
 case index t x i=>exact(tv (Yo _ _ _)).rn hl
 case lookup t x i ok=>exact(tv (Ut hg (vJ ho) _ _ _)).rn hl
 case mapUpdate t m k v=>exact(tu (uP hg (vJ ho) _ _ _)).rn hl
 case mapEntry t m k=>exact(tv (KO hg (vJ ho) _ _)).rn hl
 case entryStore t m s v=>exact(tu (Ey _ _ _ _)).rn hl
 case range t x=>exact(tv (Yt _ _)).rn hl
 case next it s=>exact(tv (gz _ _ _)).rn hl
 case entry it=>exact(tv (Ym _)).rn hl
 case extract x i=>exact(tv (Px _ _)).rn hl
 case call c=>
  dsimp only
  simp only[Oper.about] at hab
  refine ME hg hF hl ?_ hab (fun d w1 hd=>?_)
  ·unfold resolve
   cases hc:c.callee with
   | builtin b=>exact .inl ⟨_,rfl⟩
   | invoke recv name=>exact .inl ⟨_,rfl⟩
   | value f=>
     dsimp only
     unfold Deferred.ofValue
     split
     ·exact .inl ⟨_,rfl⟩
     ·exact .inl ⟨_,rfl⟩
     ·exact .inr ⟨_,rfl⟩
  ·unfold resolve at hd
   cases hc:c.callee with
   | builtin b=>
     rw[hc] at hd
     cases hd
     refine⟨fun b' ts ty' cs e=>?_,fun c e=>Target.noConfusion e⟩
     simp only[mE,hc] at ho
     cases e
     exact ho
   | invoke recv name=>
     rw[hc] at hd
     cases hd
     exact⟨fun b' ts ty' cs e=>Target.noConfusion e,fun c e=>Target.noConfusion e⟩
   | value f=>
     rw[hc] at hd
     dsimp only at hd
     unfold Deferred.ofValue at hd
     split at hd
     ·cases hd
      exact⟨fun b' ts ty' cs e=>Target.noConfusion e,fun c e=>Target.noConfusion e⟩
     ·cases hd
      exact⟨fun b' ts ty' cs e=>Target.noConfusion e,fun c e=>Target.noConfusion e⟩
     ·cases hd
 case recv ct ch ok=>
  refine(tb (cO _) fun d=>?_:Tm P Z (gy Z F) _).rn hl
  split
  ·exact tb (dB _) fun z=>jq ⟨rfl,_,_,rfl,rfl,rfl⟩
  ·exact au _
end
section
open Go.Conc
variable{P:Program}{Z:Env}{F:FuncId→Prop}
theorem fJ{fn:FuncId}{es:Array Event}{e:Event}(h:e∈seen P fn es):e∈es:=by
 rw[seen_def] at h
 have:=seen_fold_sub _ _ _ _ _ h
 simpa using this
def gQ(P:Program):Item→Prop
 | .code c| .inLoop c| .inScope c=>cZ P c=true
 | .inBlock _| .inRangeFunc _| .beginRound| .endRangeFunc _=>True
 | .inRegion ops _=>ops.all (mE P)=true
 | _=>False
def gJ(P:Program)(F:FuncId→Prop):Prop:=∀g,F g→∃f c,P.funcs[g]? =some f∧f.body=some c∧(f.name == "runtime.NumGoroutine")=false∧cZ P c=true
theorem gJ.zero(h:gJ P F):Bh P F:=fun g hg=>let ⟨f,c,h1,h2,h3,_⟩:=h g hg;⟨f,c,h1,h2,h3⟩
structure Fr(P:Program)(F:FuncId→Prop)(fr:Frame):Prop where
 fn:F fr.fn
 todo:∀i∈fr.todo,gQ P i
 defers:∀d∈fr.defers,∃c,d.target=.collected c
 kind:fr.kind=.normal
def Mv(Z:Env)(n:Nat)(w w':World)(es:Array Event)(same:World→World→Prop):Prop:=
 w'.drawn=w.drawn+n∧w'.tape=w.tape∧Lv Z w'∧(∀e∈es,EU Z e)∧∀ {K:Nat→Option Obj} (v:World),oN Z K w v→Agree n w v→∃v',same v v'∧oN Z K w' v'∧v'.drawn=v.drawn+n∧v'.tape=v.tape
def QU(P:Program)(F:FuncId→Prop)(g:Goroutine):Prop:=∃fr cs,g=G fr cs∧Fr P F fr∧∀c∈cs,Fr P F c
def Dead(g:Goroutine):Prop:=g.dying≠none∨g.status=.blocked∨g.status=.waiting∨g.status=.finished
def SL(P:Program)(F:FuncId→Prop)(Z:Env)(w:World)(f:World→GStep):Prop:=
 match f w with
 | .go g' w' es=>Dead g'∨QU P F g'∧∃n,Mv Z n w w' es fun v v'=>f v=.go g' v' es
 | .comm g' cases b sh w' es=>QU P F g'∧(b=true∧∃c ok,cases=#[c]∧c.send=none∧sh=.recv ok)∧∃n,Mv Z n w w' es fun v v'=>f v=.comm g' cases b sh v' es
 | .ended (.done x) w' es=>∃n,Mv Z n w w' es fun v v'=>f v=.ended (.done x) v' es
 | .ended _ _ _=>True
 | .spawn _ _ _ _=>True
 | _=>False
section
variable{w:World}{f:World→GStep}
theorem SL.Tv(h:∃g c w' es,f w=.spawn g c w' es):SL P F Z w f:=by
 obtain⟨g,c,w',es,h⟩:=h
 unfold SL
 rw[h]
 trivial
theorem SL.const{fr:Frame}{cs:List Frame}(hl:Lv Z w)(h:∀v,f v=.go (G fr cs) v #[])(h1:Fr P F fr)(h2:∀c∈cs,Fr P F c):SL P F Z w f:=by
 unfold SL
 rw[h w]
 exact .inr ⟨⟨fr,cs,rfl,h1,h2⟩,0,rfl,rfl,hl,zs,fun v hs ha=>⟨v,h v,hs,rfl,rfl⟩⟩
theorem SL.bE{o:Outcome}{w':World}{es:Array Event}(h:f w=.ended o w' es)(ho:∀v,o≠.done v):SL P F Z w f:=by
 unfold SL
 rw[h]
 cases o <;> first|trivial|exact absurd rfl (ho _)
theorem SL.jQ{g:Goroutine}{w':World}{es:Array Event}(h:f w=.go g w' es)(ho:Dead g):SL P F Z w f:=by
 unfold SL
 rw[h]
 exact .inl ho
theorem SL.congr{f':World→GStep}(h:SL P F Z w f)(e:∀v,f' v=f v):SL P F Z w f':=by
 have:f'=f:=funext e
 rw[this];exact h
end
theorem Rn.from{α:Type}{Q:α→Prop}{s:Sem α}{w:World}(h:Rn P Z Q s w)(hg:fC (s.runT P w #[]).1):∃n new r,s.runT P w #[]=(r,new)∧(qK r).drawn=w.drawn+n∧(qK r).tape=w.tape∧Lv Z (qK r)∧(∀e∈new,EU Z e)∧
 (∀a w',r=.ok a w'→Q a)∧∀ {K:Nat→Option Obj} (v:World),oN Z K w v→Agree n w v→∃v',s.runT P v #[]=(kX v' r,new)∧oN Z K (qK r) v'∧v'.drawn=v.drawn+n∧v'.tape=v.tape:=by
 obtain⟨n,new,r,R⟩:=h #[] hg
 refine⟨n,new,r,by simpa using R.run,R.drawn,R.tape,R.lv,R.evs,R.val,fun v hs ha=>?_⟩
 obtain⟨v',e1,e2⟩:=R.pO v #[] hs ha
 exact⟨v',by simpa using e1,e2⟩
theorem Fr.finish{fr:Frame}(h:Fr P F fr)(v:Value):Fr P F (fr.finish v):=by
 obtain⟨fn,tmps,todo,defers,mode,kind,roundOf⟩:=fr
 obtain⟨h1,h2,h3,h4⟩:=h
 simp only at h1 h2 h3 h4
 cases todo with
 | nil=>exact⟨h1,h2,h3,h4⟩
 | cons i k=>
   have hi:=h2 i zs
   have hk:∀x∈k,gQ P x:=fun x hx=>h2 x (by simp[hx])
   have two:∀i',gQ P i'→∀x∈i' :: k,gQ P x:=fun i' h x hx=>by
    rcases List.mem_cons.1 hx with rfl|hx
    ·exact h
    ·exact hk x hx
   cases i with
   | inRegion ops l=>
     cases l with
     | nil=>exact⟨h1,h2,h3,h4⟩
     | cons j l=>exact⟨h1,two (.inRegion ops l) hi,h3,h4⟩
   | inRangeFunc l=>exact⟨h1,two (.endRangeFunc l) trivial,h3,h4⟩
   | beginRound=>exact⟨h1,hk,h3,h4⟩
   | _=>first
     | exact(show False from hi).elim
     | exact⟨h1,h2,h3,h4⟩
theorem Fr.enter{f:FuncId}(hF:gJ P F)(hf:F f)(args:Array Value):Fr P F (Frame.enter P f args .normal):=by
 obtain⟨fn,c,h1,h2,_,h4⟩:=hF f hf
 refine⟨hf,fun i hi=>?_,by simp[Frame.enter],rfl⟩
 simp only[Frame.enter,h1,Option.bind_some,h2,Option.getD_some,List.mem_singleton] at hi
 subst hi
 exact h4
theorem Fr.round{l:Nat}{f:FuncId}{tmps:Array Value}{a b:Code}(hf:F f)(ha:cZ P a=true)(hb:cZ P b=true):Fr P F (Frame.round l f tmps a b .normal):=by
 refine⟨hf,fun i hi=>?_,by simp[Frame.round],rfl⟩
 simp only[Frame.round,List.mem_cons,List.not_mem_nil,or_false] at hi
 rcases hi with rfl|rfl|rfl
 ·exact ha
 ·trivial
 ·exact hb
theorem Fr.mode{fr:Frame}(h:Fr P F fr)(m:FrameMode):Fr P F {fr with mode:=m }:=⟨h.fn,h.todo,h.defers,h.kind⟩
theorem Fr.raise{fr:Frame}(h:Fr P F fr)(vs:List PanicEntry):Fr P F (fr.raise vs):=by
 unfold Frame.raise
 split <;> exact⟨h.fn,h.todo,h.defers,h.kind⟩
structure jZ(P:Program)(F:FuncId→Prop)(Z:Env):Prop where
 hg:P.globals.size=0
 hF:gJ P F
 hZ:∀f c,Z.jh f c↔F f∧cZ P c=true
 ahead:P.follows .staticDataAhead=true
 step:∀g,P.stepOf g=none
 inits:∀f,F f→P.inits.idxOf? f=none
theorem uj(S:jZ P F Z)(fr:Frame)(cs:List Frame)(g:Nat)(w:World):∃o w' es,early P fr cs none g w=.ended o w' es∧∀v,o≠.done v:=by
 unfold early
 simp only[S.ahead,S.step]
 exact⟨_,_,_,rfl,zs⟩
theorem OU{α:Type}(r:Result α):kX (qK r) r=r:=by cases r <;> rfl
structure Told(P:Program)(Z:Env){α:Type}(Q:α→Prop)(s:Sem α)(w:World)(n:Nat)(new:Array Event)(r:Result α):Prop where
 run:s.runT P w #[]=(r,new)
 drawn:(qK r).drawn=w.drawn+n
 tape:(qK r).tape=w.tape
 lv:Lv Z (qK r)
 evs:∀e∈new,EU Z e
 val:∀a w',r=.ok a w'→Q a
 pO:∀ {K:Nat→Option Obj} (v:World),oN Z K w v→Agree n w v→∃v',s.runT P v #[]=(kX v' r,new)∧oN Z K (qK r) v'∧v'.drawn=v.drawn+n∧v'.tape=v.tape
theorem Rn.told{α:Type}{Q:α→Prop}{s:Sem α}{w:World}(h:Rn P Z Q s w)(hg:fC (s.runT P w #[]).1):∃n new r,Told P Z Q s w n new r:=by
 obtain⟨n,new,r,e1,e2,e3,e4,e5,e6,e7⟩:=h.from hg
 exact⟨n,new,r,e1,e2,e3,e4,e5,e6,e7⟩
section
variable{α:Type}{Q:α→Prop}{s:Sem α}{w:World}{n:Nat}{new:Array Event}{r:Result α}{f:World→GStep}{es:Array Event}
theorem Told.mv(T:Told P Z Q s w n new r){same:World→World→Prop}(hes:∀e∈es,e∈new)(h:∀u u',s.runT P u #[]=(kX u' r,new)→same u u'):Mv Z n w (qK r) es same:=
 ⟨T.drawn,T.tape,T.lv,fun e he=>T.evs e (hes e he),fun v hs ha=>let ⟨v',e1,e2,e3,e4⟩:=T.pO v hs ha;⟨v',h v v' e1,e2,e3,e4⟩⟩
theorem Told.self(T:Told P Z Q s w n new r):s.runT P w #[]=(kX (qK r) r,new):=by rw[OU];exact T.run
theorem Told.go(T:Told P Z Q s w n new r){fr':Frame}{cs':List Frame}(hes:∀e∈es,e∈new)(key:∀u u',s.runT P u #[]=(kX u' r,new)→f u=.go (G fr' cs') u' es)(h1:Fr P F fr')(h2:∀c∈cs',Fr P F c):SL P F Z w f:=by
 unfold SL
 rw[key w _ T.self]
 exact .inr ⟨⟨fr',cs',rfl,h1,h2⟩,n,T.mv hes key⟩
theorem Told.done(T:Told P Z Q s w n new r){x:Value}(hes:∀e∈es,e∈new)(key:∀u u',s.runT P u #[]=(kX u' r,new)→f u=.ended (.done x) u' es):SL P F Z w f:=by
 unfold SL
 rw[key w _ T.self]
 exact⟨n,T.mv hes key⟩
theorem Told.comm(T:Told P Z Q s w n new r){fr':Frame}{cs':List Frame}{cases:Array CommCase}{b:Bool}{sh:CommShape}(hes:∀e∈es,e∈new)(key:∀u u',s.runT P u #[]=(kX u' r,new)→f u=.comm (G fr' cs') cases b sh u' es)
 (h1:Fr P F fr')(h2:∀c∈cs',Fr P F c)(h3:b=true∧∃c ok,cases=#[c]∧c.send=none∧sh=.recv ok):SL P F Z w f:=by
 unfold SL
 rw[key w _ T.self]
 exact⟨⟨fr',cs',rfl,h1,h2⟩,h3,n,T.mv hes key⟩
end
theorem wh(S:jZ P F Z){fr:Frame}{cs:List Frame}(hfr:Fr P F fr)(hcs:∀c∈cs,Fr P F c){s:Sem Next}{w:World}(hl:Lv Z w)(h:Rn P Z (gy Z F) s w):SL P F Z w (fun u=>stepG.apply P true fr cs none s u):=by
 have hk:∀d b r sv k,fr.todo≠.call d b r sv :: k:=fun d b r sv k e=>(show False from hfr.todo (.call d b r sv) (by rw[e];simp))
 have hek:(fr.kind == CallKind.early)=false:=by rw[hfr.kind];rfl
 have hall:∀c∈fr :: cs,Fr P F c:=fun c hc=>by
  rcases List.mem_cons.1 hc with rfl|hc
  ·exact hfr
  ·exact hcs c hc
 by_cases hgood:fC (s.runT P w #[]).1
 ·obtain⟨n,new,r,T⟩:=h.told hgood
  cases r with
  | ok x w1=>
    have hx:=T.val x w1 rfl
    have sub:∀e∈seen P fr.fn new,e∈new:=fun e he=>fJ he
    cases x with
    | value v=>exact T.go sub (fun u u' hu=>by simp[stepG.apply,hu,kX,hek,GStep.after,G,-Sem.runT_eq]) (hfr.finish v) hcs
    | skip=>exact T.go sub (fun u u' hu=>by simp[stepG.apply,hu,kX,hek,GStep.after,G,-Sem.runT_eq]) (hfr.finish undef) hcs
    | enter f args=>exact T.go sub (fun u u' hu=>by simp[stepG.apply,hu,kX,hek,GStep.after,G,-Sem.runT_eq];split <;> first|rfl|exact absurd (by assumption) (hk _ _ _ _ _)) (Fr.enter S.hF hx args) hall
    | round l f tmps a b=>
      obtain⟨h1,h2⟩:=hx
      exact T.go sub (fun u u' hu=>by simp[stepG.apply,hu,kX,hek,GStep.after,G,-Sem.runT_eq]) (Fr.round (l:=l) (tmps:=tmps) ((S.hZ _ _).1 h1).1 ((S.hZ _ _).1 h1).2 ((S.hZ _ _).1 h2).2) hall
    | spawn d=>
      have key:(∃g w2 es2,(fun u=>stepG.apply P true fr cs none s u) w=.go g w2 es2∧g.dying≠none)∨∃g c w2 es2,(fun u=>stepG.apply P true fr cs none s u) w=.spawn g c w2 es2:=by
       have hr:s.runT P w #[]=(.ok (.spawn d) w1,new):=T.run
       dsimp only
       unfold stepG.apply
       simp only[if_true,hr,hek,Bool.false_eq_true,if_false]
       unfold endThrow dieOf
       repeat' split
       all_goals first|exact .inr ⟨_,_,_,_,rfl⟩|exact .inl ⟨_,_,_,rfl,fun h=>by cases h⟩
      rcases key with⟨g,w2,es2,e1,e2⟩|h
      ·exact SL.jQ e1 (.inl e2)
      ·exact SL.Tv h
    | comm cases b sh=>exact T.comm sub (fun u u' hu=>by simp[stepG.apply,hu,kX,hek,GStep.after,G,-Sem.runT_eq]) hfr hcs hx
    | _=>exact hx.elim
  | halt x w1=>
    have sub:∀e∈seen P fr.fn new,e∈new:=fun e he=>fJ he
    have hgx:fC (.halt x w1:Result Next):=by rw[T.run] at hgood;exact hgood
    cases x with
    | panic v=>exact T.go sub (fun u u' hu=>by simp[stepG.apply,hu,kX,hek,GStep.after,G,-Sem.runT_eq]) (hfr.raise [{v,recovered:=false }]) hcs
    | goexit=>exact T.go sub (fun u u' hu=>by simp[stepG.apply,hu,kX,hek,GStep.after,G,-Sem.runT_eq]) (hfr.raise [goexitEntry]) hcs
    | _=>exact hgx.elim
 ·generalize hr:s.runT P w #[]=r at hgood
  obtain⟨r,es⟩:=r
  cases r with
  | ok x w1=>exact absurd trivial hgood
  | halt x w1=>
    cases x with
    | panic v=>exact absurd trivial hgood
    | goexit=>exact absurd trivial hgood
    | blocked=>exact SL.jQ (g:={frame:=fr,callers:=cs,status:=.blocked,dying:=none }) (w':=w1) (es:=seen P fr.fn #[]) (by simp[stepG.apply,hr,hek,GStep.after,-Sem.runT_eq]) (.inr (.inl rfl))
    | waiting=>exact SL.jQ (g:={frame:=fr,callers:=cs,status:=.waiting,dying:=none }) (w':=w1) (es:=seen P fr.fn #[]) (by simp[stepG.apply,hr,hek,GStep.after,-Sem.runT_eq]) (.inr (.inr (.inl rfl)))
    | exit c=>exact SL.bE (o:=.exit c) (w':=w1) (es:=seen P fr.fn es) (by simp[stepG.apply,hr,hek,GStep.after,-Sem.runT_eq]) zs
    | stuck m=>exact SL.bE (o:=.stuck m (fr.pos P)) (w':=w1) (es:=seen P fr.fn es) (by simp[stepG.apply,hr,hek,GStep.after,-Sem.runT_eq]) zs
    | unsupported u=>
      cases u with
      | initOrder g=>
        obtain⟨o,w2,es2,e1,e2⟩:=uj S fr cs g w1
        exact SL.bE (o:=o) (w':=w2) (es:=seen P fr.fn #[] ++ es2) (by simp[stepG.apply,hr,hek,e1,GStep.after,-Sem.runT_eq]) e2
      | _=>exact SL.bE (o:=.unsupported _ (fr.pos P)) (w':=w1) (es:=seen P fr.fn es) (by simp[stepG.apply,hr,hek,GStep.after,-Sem.runT_eq];rfl) zs
    | throw m=>
      obtain⟨g,w2,es2,e1,e2⟩:∃g w2 es2,endThrow fr m w1=.go g w2 es2∧g.dying≠none:=by
       unfold endThrow dieOf
       exact⟨_,_,_,rfl,zs⟩
      exact SL.jQ (g:=g) (w':=w2) (es:=seen P fr.fn es ++ es2) (by simp[stepG.apply,hr,hek,e1,GStep.after,-Sem.runT_eq]) (.inl e2)
    | fatal m=>
      have key:(fun u=>stepG.apply P true fr cs none s u) w=GStep.after (seen P fr.fn es) (endFatal P fr cs none m w1):=by simp[stepG.apply,hr,hek,-Sem.runT_eq]
      have:(∃g w2 es2,endFatal P fr cs none m w1=.go g w2 es2∧g.dying≠none)∨∃o w2 es2,endFatal P fr cs none m w1=.ended o w2 es2∧∀v,o≠.done v:=by
       unfold endFatal
       dsimp only
       split
       ·exact .inl ⟨_,_,_,rfl,zs⟩
       ·exact .inr ⟨_,_,_,rfl,zs⟩
       ·exact .inr ⟨_,_,_,rfl,zs⟩
      rcases this with⟨g,w2,es2,e1,e2⟩|⟨o,w2,es2,e1,e2⟩
      ·rw[e1] at key
       exact SL.jQ key (.inl e2)
      ·rw[e1] at key
       exact SL.bE key e2
end
end Go.dS
