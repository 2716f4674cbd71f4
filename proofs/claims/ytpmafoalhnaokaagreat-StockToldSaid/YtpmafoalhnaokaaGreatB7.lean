/- Far8 Far9 Far10 Far11 Far12 Far13 Far14 -/
import Derived.Test.YtpmafoalhnaokaaGreatB6
import Derived.Test.YtpmafoalhnaokaaGreatB4
import Derived.Fence
set_option maxRecDepth 100000
set_option maxHeartbeats 16000000
set_option linter.unusedVariables false
set_option linter.unusedSectionVars false
namespace Go.dP
section
variable{P:Program}{Z:Env}
theorem QT(ts:Array TypeId)(t:TypeId)(args:Array Value):T P Z (Builtin.ssaWrapNilChk_ ts t args):=by
 obtain⟨l⟩:=args
 rcases l with _|⟨a,_|⟨b,_|⟨c,_|⟨d,l⟩⟩⟩⟩
 ·exact au _
 ·exact au _
 ·exact au _
 ·cases b <;> first|exact au _|skip
  cases c <;> first|exact au _|skip
  cases a <;> first|exact au _|skip
  rename_i p
  cases p <;> first|exact av _|skip
  refine tb (dN _) fun _=>?_
  repeat' with_reducible first
   | exact av _
   | exact au _
   | exact aF _
   | exact vR _
   | exact ja _ _
   | exact oN _ _
   | refine tb (av _) fun _=>?_
   | refine tb (dN _) fun _=>?_
   | refine tb (cu _) fun _=>?_
   | refine tb (dH _) fun _=>?_
   | split
   | dsimp only
 ·exact au _
theorem nk(t:TypeId)(x:Place):T P Z (x.get t):=by
 unfold Place.get
 split
 ·exact av _
 ·exact pK _ _
theorem Jh(l:List FieldStep):∀ (t:TypeId) (x:Place),T P Z (follow l t x):=by
 induction l with
 | nil=>exact fun _ _=>av _
 | cons s l ih=>
   intro t x
   unfold follow
   refine tb (cu _) fun d=>?_
   repeat' with_reducible first
    | exact ih _ _
    | exact au _
    | refine tb (nk _ _) fun _=>?_
    | refine tb (tL _) fun _=>?_
    | refine tb (tO _ _) fun _=>?_
    | refine tb (iC _ _ _) fun _=>?_
    | split
theorem tV(t:TypeId)(x:Place)(b:Bool)(w:Option String):T P Z (receiverAt t x b w):=by
 unfold receiverAt
 refine tb (cu _) fun d=>?_
 repeat' with_reducible first
  | exact nk _ _
  | exact av _
  | exact au _
  | exact pK _ _
  | refine tb (av _) fun _=>?_
  | refine tb (nk _ _) fun _=>?_
  | refine tb (QT _ _ _) fun _=>?_
  | refine tb (tL _) fun _=>?_
  | split
theorem BQ(t:TypeId)(v:Value)(p:Array FieldStep)(b:Bool):T P Z (receiverVia t v p b):=tb (Jh _ _ _) fun _=>tV _ _ _ _
theorem VX(n:Nat):∀ (t:TypeId) (v:Value) (name:String),T P Z (method n t v name):=by
 induction n with
 | zero=>exact fun _ _ _=>trivial
 | succ n ih=>
   intro t v name
   unfold method
   refine tb (dH _) fun i=>?_
   repeat' with_reducible first
    | exact ih _ _ _
    | exact av _
    | exact au _
    | exact aF _
    | refine tb (Jh _ _ _) fun _=>?_
    | refine tb (nk _ _) fun _=>?_
    | refine tb (tV _ _ _ _) fun _=>?_
    | split
    | dsimp only
theorem BK(l:List FieldStep):∀ (t:TypeId) (x:Option Value),T P Z (followBlind l t x):=by
 induction l with
 | nil=>exact fun _ _=>av _
 | cons s l ih=>
   intro t x
   unfold followBlind
   refine tb (cu _) fun d=>?_
   repeat' with_reducible first
    | exact ih _ _
    | exact av _
    | exact au _
    | refine tb (iC _ _ _) fun _=>?_
    | split
theorem Mg(n:Nat):∀ (t:TypeId) (v:Value) (name:String),T P Z (nilAhead n t v name):=by
 induction n with
 | zero=>exact fun _ _ _=>av _
 | succ n ih=>
   intro t v name
   unfold nilAhead
   refine tb (dH _) fun i=>?_
   repeat' with_reducible first
    | exact ih _ _ _
    | exact av _
    | exact au _
    | refine tb (BK _ _ _) fun _=>?_
    | refine tb (cu _) fun _=>?_
    | split
    | dsimp only
def gH(Z:Env)(F:FuncId→Prop):Next→Prop
 | .value _| .skip=>True
 | .round _ f _ a b=>Z.jr f a∧Z.jr f b
 | .enter f _=>F f
 | .spawn _=>True
 | .comm cases blocking shape=>blocking=true∧∃c ok,cases=#[c]∧c.send=none∧shape=.recv ok
 | _=>False
def Rn(P:Program)(Z:Env){α:Type}(R:α→Prop)(s:Sem α)(w:World):Prop:=∀es,fE (s.runT P w es).1→∃n new r,Ran P Z R s w es n new r
theorem Tm.rn{α:Type}{R:α→Prop}{s:Sem α}{w:World}(h:Tm P Z R s)(hl:Lv Z w):Rn P Z R s w:=fun es hg=>Wv h hl hg
theorem Rn.bind{α β:Type}{Q:α→Prop}{R:β→Prop}{s:Sem α}{f:α→Sem β}{w:World}(hl:Lv Z w)(hs:Tm P Z Q s)(hf:∀a w1,Q a→s.run P w=.ok a w1→Lv Z w1→Rn P Z R (f a) w1):Rn P Z R (s.bind f) w:=by
 intro es hg
 have hg1:fE (s.runT P w es).1:=by
  rw[Sem.runT_bind'] at hg
  generalize s.runT P w es=r at hg
  obtain⟨r,es'⟩:=r
  cases r with
  | ok a w'=>trivial
  | halt e w'=>cases e <;> first|exact hg|trivial
 obtain⟨n,new,r,R1⟩:=Wv hs hl hg1
 cases r with
 | halt e w1=>
   have hgh:fE (.halt e w1:Result α):=by
    have:=R1.run
    rw[this] at hg1
    exact hg1
   refine⟨n,new,.halt e w1,?_,R1.drawn,R1.tape,R1.lv,R1.evs,(fun _ _ e=>by cases e),fun v es2 hs2 ha=>?_⟩
   ·rw[Sem.runT_bind',R1.run]
   ·obtain⟨v',e1,e2⟩:=R1.qE v es2 hs2 ha
    exact⟨v',by rw[Sem.runT_bind',e1];rfl,e2⟩
 | ok a w1=>
   have hrun:s.run P w=.ok a w1:=by
    have:=Sem.runT_fst P s w es
    rw[R1.run] at this
    exact this.symm
   have hg2:fE ((f a).runT P w1 (es ++ new)).1:=by
    rw[Sem.runT_bind',R1.run] at hg
    exact hg
   obtain⟨n2,new2,r2,R2⟩:=hf a w1 (R1.val a w1 rfl) hrun R1.lv (es ++ new) hg2
   have hd1:w1.drawn=w.drawn+n:=R1.drawn
   have ht1:w1.tape=w.tape:=R1.tape
   refine⟨n+n2,new ++ new2,r2,?_,by rw[R2.drawn,hd1];omega,R2.tape.trans ht1,R2.lv,fun e he=>?_,R2.val,fun v es2 hs2 ha=>?_⟩
   ·rw[Sem.runT_bind',R1.run]
    show(f a).runT P w1 (es ++ new)=_
    rw[R2.run,Array.append_assoc]
   ·rcases Array.mem_append.1 he with he|he
    ·exact R1.evs e he
    ·exact R2.evs e he
   ·obtain⟨v1,e1,s1,d1,t1⟩:=R1.qE v es2 hs2 (ha.le zo)
    obtain⟨v2,e2,s2,d2,t2⟩:=R2.qE v1 (es2 ++ new) s1 (Agree.shift ha hd1 ht1 d1 t1)
    refine⟨v2,?_,s2,by rw[d2,d1];omega,t2.trans t1⟩
    rw[Sem.runT_bind',e1]
    show(f a).runT P v1 (es2 ++ new)=_
    rw[e2,Array.append_assoc]
theorem Rn.ret{α:Type}{R:α→Prop}{a:α}{w:World}(hl:Lv Z w)(h:R a):Rn P Z R (pure a) w:=Tm.rn (jG h) hl
def Cg(P:Program)(F:FuncId→Prop):Prop:=∀g,F g→∃f c,P.funcs[g]? =some f∧f.body=some c∧(f.name == "runtime.NumGoroutine")=false
theorem rE{F:FuncId→Prop}(hF:Cg P F){f:FuncId}(hf:F f)(args:Array Value):Tm P Z (gH Z F) (callFunc f args):=by
 obtain⟨fn,c,h1,h2,h3⟩:=hF f hf
 show Tm P Z (gH Z F) (match P.funcs[f]? with|none=>_|some fn=>_)
 rw[h1]
 show Tm P Z (gH Z F) (if (fn.name == "runtime.NumGoroutine")=true then _ else if fn.body.isNone=true then _ else pure (.enter f args))
 rw[h3,h2]
 exact hf
theorem tv{F:FuncId→Prop}{s:Sem Value}(h:T P Z s):Tm P Z (gH Z F) (do pure (.value (← s))):=tb h fun _=>trivial
theorem tu{F:FuncId→Prop}{s:Sem Unit}(h:T P Z s):Tm P Z (gH Z F) (do s;pure .skip):=tb h fun _=>trivial
def lV(P:Program)(b:Builtin)(ts:Array TypeId):Bool:=match b with
 | .append| .cap| .clear| .close| .copy| .len| .max| .min=>true
 | .delete=>match ts[0]? with
   | some m=>match P.underlying m with|some (.map k _)=>Jy P 10000 k|_=>true
   | none=>true
 | _=>false
theorem QD{F:FuncId→Prop}(hg:P.globals.size=0){b:Builtin}{ts:Array TypeId}(h:lV P b ts=true)(t:TypeId)(cs:Array Bool)(args:Array Value):Tm P Z (gH Z F) (builtin b ts t cs args):=by
 cases b <;> first|(cases h;done)|skip
 ·exact tv (VJ _ _ _)
 ·exact tv (Cs _ _ _)
 ·exact tv (ZN _ _ _)
 ·exact tv (ZO _ _ _)
 ·exact tv (ob _ _ _)
 ·refine tv (VL hg _ _ _ fun m k e h0 h1=>?_)
  simp only[lV,h0,h1] at h
  exact h
 ·exact tv (CE _ _ _)
 ·exact tv (CH _ _ _)
 ·exact tv (CI _ _ _)
theorem qB{F:FuncId→Prop}(hF:Cg P F){recv:Value}{name:String}{args:Array Value}{w:World}(hl:Lv Z w)
 (h:∀u v f r w1,recv=.iface u v→(method (P.types.size+Made.depth) u v name).run P w=.ok (f,r) w1→F f):Rn P Z (gH Z F) (callMethod recv name args) w:=by
 unfold callMethod
 cases recv with
 | iface u v=>
   intro es hg
   obtain⟨n,new,r,R⟩:=Rn.bind (R:=gH Z F) (f:=fun x:FuncId × Value=>callFunc x.1 (#[x.2] ++ args)) hl (VX (P.types.size+Made.depth) u v name) (fun⟨f,r⟩ w1 _ hr hl1=>(rE hF (h u v f r w1 rfl hr) _).rn hl1) es hg
   exact⟨n,new,r,R.run,R.drawn,R.tape,R.lv,R.evs,R.val,R.qE⟩
 | nilIface=>exact(aF _).rn hl
 | _=>exact(au _).rn hl
theorem Qj{F:FuncId→Prop}(hg:P.globals.size=0)(hF:Cg P F){t:Target}{args:Array Value}{w:World}(hl:Lv Z w)(h:∀f,t.leads P w args=some f→F f)
 (hb:∀b ts ty cs,t=.builtin b ts ty cs→lV P b ts=true)(hc:∀c,t≠.coroexit c):Rn P Z (gH Z F) (invoke t args) w:=by
 cases t with
 | nil=>unfold invoke;exact(aF _).rn hl
 | builtin b ts ty cs=>exact(QD hg (hb _ _ _ _ rfl) ty cs args).rn hl
 | collected r=>exact(au _).rn hl
 | coroexit c=>exact absurd rfl (hc c)
 | fn f cap=>
   cases f with
   | func g=>exact(rE hF (h g rfl) _).rn hl
   | yield l=>exact((ae l args).mono fun n ⟨_,_,_,_,e,h1,h2⟩=>by rw[e];exact⟨h1,h2⟩).rn hl
   | via ty path g ptr=>
     unfold invoke
     cases ha:args[0]? with
     | none=>exact(au _).rn hl
     | some x=>exact Tm.rn (tb (BQ _ _ _ _) fun _=>rE hF (h g rfl) _) hl
   | method name=>
     unfold invoke
     cases ha:args[0]? with
     | none=>exact(au _).rn hl
     | some x=>
       refine qB hF hl fun u v f r w1 e hr=>h f ?_
       subst e
       simp only[Target.leads,ha,hr]
   | methodOf ty name=>
     unfold invoke
     cases ha:args[0]? with
     | none=>exact(au _).rn hl
     | some x=>
       intro es hgd
       refine Rn.bind (R:=gH Z F) hl (bU ty) (fun d w1 hd hr hl1=>?_) es hgd
       have ew:w1=w:=by
        have:(underlying ty).run P w=.ok d w:=by
         simp only[underlying,program,bind,Sem.bind,Sem.run]
         rw[hd]
         rfl
        rw[this] at hr
        cases hr;rfl
       subst ew
       refine qB hF hl1 fun u v f r w2 e hr2=>h f ?_
       simp only[Target.leads,ha,Option.map_some,hd]
       cases d <;> simp_all
theorem ZP(it:Value):T P Z (Instr.entry it):=by
 unfold Instr.entry
 split
 ·refine bE (fun hz o ho=>?_) fun hz=>dJ (by exact zT)
  split
  ·split
   ·refine bE (fun hz2 o2 ho2=>?_) fun hz=>dJ (by exact zT)
    split
    ·refine Tm.ite ?_ ?_
     ·exact zT
     ·split <;> exact zT
    ·exact au _
   ·exact au _
  ·exact au _
 ·exact au _
def lL(P:Program)(t:TypeId):Bool:=match P.underlying t with|some (.map k _)=>Jy P 10000 k|_=>true
theorem wN{t:TypeId}(h:lL P t=true):∀k e,P.underlying t=some (.map k e)→Jy P 10000 k=true:=fun k e he=>by
 simp only[lL,he] at h
 exact h
def LB(P:Program)(s d:TypeId):Bool:=match P.underlying s,P.underlying d with
 | some (.int _),some (.int _)=>true
 | some .string,some .string=>true
 | _,_=>false
theorem Fj(a:FloatKind)(n:Nat)(k:IntKind):T P Z (Conv.floatToInt a n k):=by
 unfold Conv.floatToInt
 repeat' with_reducible first
  | exact av _
  | exact au _
  | refine tb (av _) fun _=>?_
  | refine tb (dN _) fun _=>?_
  | split
  | dsimp only
theorem BP(n:Int):T P Z (Conv.intToString n):=by
 unfold Conv.intToString
 repeat' with_reducible first
  | exact av _
  | exact au _
  | split
  | dsimp only
theorem QE{s d:TypeId}(h:LB P s d=true)(x:Value):T P Z (convert s d x):=by
 unfold convert
 refine tq (bU s) fun ds hs=>tq (bU d) fun dd hd=>?_
 unfold LB at h
 rw[hs,hd] at h
 cases ds <;> cases dd <;> first|(cases h;done)|skip
 ·cases x <;> first|exact Fj _ _ _|exact av _|exact au _|exact vR _|skip
  rename_i a
  cases a <;> first|exact Fq|exact vR _
 ·cases x <;> first|exact BP _|exact av _|exact au _|exact vR _
def mR(P:Program)(o:Oper):Bool:=match o.op with
 | .move _| .assign _| .pick _ _ _| .alloc _| .box _ _| .build _ _| .buildSlice _ _ _| .load _ _| .store _ _ _| .nilCheck _| .unOp _ _ _| .makeInterface _ _
 | .makeFunc _ _ _| .makeMap _ _| .makeSlice _ _ _| .slice _ _ _ _ _| .fieldAddr _ _ _| .field _ _ _| .indexAddr _ _ _| .index _ _ _| .entryStore _ _ _ _| .range _ _| .next _ _| .entry _
 | .extract _ _| .recv _ _ _| .panic _| .go _| .makeChan _ _=>true
 | .binOp op t _ _ _=>(!(op matches .eql| .neq) || Jy P 10000 t) && !(P.underlying t matches some .unsafePointer)
 | .convert s d _=>LB P s d
 | .lookup t _ _ _| .mapUpdate t _ _ _| .insert t _ _ _| .mapEntry t _ _=>lL P t
 | .call c=>match c.callee with| .builtin b=>lV P b c.argTypes|_=>true
 | _=>false
def cZ(P:Program):Code→Bool
 | .skip| .exit _| .goto _| .ret| .label _| .refuse _=>true
 | .region _ ops _=>ops.all (mR P)
 | .seq a b| .cond _ a b| .rangeFunc _ _ a b=>cZ P a && cZ P b
 | .block _ b| .loop b| .scope b=>cZ P b
theorem NJ{F:FuncId→Prop}(hg:P.globals.size=0)(hF:Cg P F){w:World}(hl:Lv Z w){s:Sem Deferred}(hs:(∃d,s=pure d)∨∃m,s=stuck m)
 (hab:∀f,(match s.run P w with| .ok d w'=>d.target.leads P w' d.args| .halt _ _=>none)=some f→F f)
 (hb:∀d w1,s.run P w=.ok d w1→(∀b ts ty cs,d.target=.builtin b ts ty cs→lV P b ts=true)∧∀c,d.target≠.coroexit c):
 Rn P Z (gH Z F) (s >>= fun d=>invoke d.target d.args) w:=by
 rcases hs with⟨d,rfl⟩|⟨m,rfl⟩
 ·rw[pure_bind]
  obtain⟨h1,h2⟩:=hb d w rfl
  exact Qj hg hF hl (fun f hf=>hab f hf) h1 h2
 ·have e:(stuck m >>= fun d:Deferred=>invoke d.target d.args)=(stuck m:Sem Next):=rfl
  rw[e]
  exact(au m).rn hl
theorem Me(t:TypeId)(v:Value):T P Z (Instr.makeChan t v):=by
 unfold Instr.makeChan
 have fin:∀n:Nat,T P Z (do pure (.chan (some (← newObj (.chan n #[] false 0 0 false)))):Sem Value):=fun n=>tb (l9 (by trivial)) fun _=>av _
 repeat' with_reducible first
  | exact fin _
  | exact av _
  | exact au _
  | refine tb (au _) fun _=>?_
  | refine tb (cu _) fun _=>?_
  | refine tb (pG _) fun _=>?_
  | refine tb (dH _) fun _=>?_
  | refine tb (aF _) fun _=>?_
  | refine tb (av _) fun _=>?_
  | split
  | dsimp only
theorem ZV(x:Value):T P Z (Instr.panic x):=by
 unfold Instr.panic
 split
 ·exact zT
 ·refine tb (s:=Instr.panicnil) ⟨rfl,fun r=>?_⟩ fun n=>?_
  ·cases r <;> exact zT
  ·split
   ·exact zT
   ·exact aF _
 ·exact zT
theorem QN(ρ:Operand→Value)(c:Call)(ty:TypeId):T P Z (resolve ρ c ty):=by
 unfold resolve
 dsimp only
 split
 ·exact zT
 ·exact zT
 ·unfold Deferred.ofValue
  split <;> exact zT
theorem YZ{F:FuncId→Prop}(hg:P.globals.size=0)(hF:Cg P F){o:Oper}(ho:mR P o=true){ρ:Operand→Value}{w:World}(hl:Lv Z w)(hab:∀f,o.about P w ρ=some f→F f):Rn P Z (gH Z F) (execOp ρ o) w:=by
 obtain⟨dst,op,ty,pos,after,guard⟩:=o
 unfold execOp
 dsimp only
 cases op <;> first|(cases ho;done)|skip
 case move x=>exact Rn.ret hl trivial
 case makeChan t n=>exact(tv (Me _ _)).rn hl
 case panic x=>exact(tv (ZV _)).rn hl
 case go c=>exact(tb (QN _ _ _) fun _=>jG (by exact zT)).rn hl
 case assign x=>exact Rn.ret hl trivial
 case pick c a b=>exact(tb (tN _) fun _=>jG (by exact zT)).rn hl
 case alloc e=>exact(tv (ZI _ _ _)).rn hl
 case box e v=>exact(tv (Cp _ _)).rn hl
 case build t ps=>exact(tv (ZL _ _)).rn hl
 case buildSlice t n ps=>exact(tv (Fb _ _ _)).rn hl
 case insert t m k v=>exact(tu (vQ hg (wN ho) _ _ _)).rn hl
 case load t a=>exact(tv (VT _ _)).rn hl
 case store t a v=>exact(tu (QU _ _ _)).rn hl
 case nilCheck x=>
  dsimp only
  refine Tm.rn ?_ hl
  split
  ·exact aF _
  ·exact aF _
  ·exact aF _
  ·split
   ·exact aF _
   ·refine tb mg fun p=>tb (Mg _ _ _ _) fun b=>?_
    split
    ·exact zT
    ·exact jG (by exact zT)
   ·exact jG (by exact zT)
  ·exact jG (by exact zT)
 case binOp op t x y yt=>
  simp only[mR,Bool.and_eq_true,Bool.or_eq_true,Bool.not_eq_true'] at ho
  refine(tv (tb (QG _ _ _ _ _ _) fun _=>ZK hg _ _ _ _ (fun he=>?_) (fun hu=>?_))).rn hl
  ·rcases ho.1 with h|h
   ·rcases he with rfl|rfl <;> cases h
   ·exact h
  ·have:=ho.2
   rw[hu] at this
   cases this
 case unOp op t x=>exact(tv (Z7 _ _)).rn hl
 case convert s d x=>exact(tv (QE ho _)).rn hl
 case makeInterface t x=>exact(tv (wG _ _)).rn hl
 case makeFunc fn a b=>exact(tv (av _)).rn hl
 case makeMap t r=>exact(tv (QL _ _)).rn hl
 case makeSlice t l c=>exact(tv (Jk _ _ _)).rn hl
 case slice t x l h m=>exact(tv (QS _ _ _ _ _)).rn hl
 case fieldAddr t x f=>exact(tv (QJ _ _ _)).rn hl
 case field t x f=>exact(tv (ZQ _ _ _)).rn hl
 case indexAddr t x i=>exact(tv (QK _ _ _)).rn hl
 case index t x i=>exact(tv (ZR _ _ _)).rn hl
 case lookup t x i ok=>exact(tv (VU hg (wN ho) _ _ _)).rn hl
 case mapUpdate t m k v=>exact(tu (vQ hg (wN ho) _ _ _)).rn hl
 case mapEntry t m k=>exact(tv (Mf hg (wN ho) _ _)).rn hl
 case entryStore t m s v=>exact(tu (Fe _ _ _ _)).rn hl
 case range t x=>exact(tv (ZW _ _)).rn hl
 case next it s=>exact(tv (ot _ _ _)).rn hl
 case entry it=>exact(tv (ZP _)).rn hl
 case extract x i=>exact(tv (QI _ _)).rn hl
 case call c=>
  dsimp only
  simp only[Oper.about] at hab
  refine NJ hg hF hl ?_ hab (fun d w1 hd=>?_)
  ·unfold resolve
   cases hc:c.callee with
   | builtin b=>exact .inl ⟨_,rfl⟩
   | invoke recv name=>exact .inl ⟨_,rfl⟩
   | value f=>
     dsimp only
     unfold Deferred.ofValue
     split
     ·exact .inl ⟨_,rfl⟩
     ·exact .inl ⟨_,rfl⟩
     ·exact .inr ⟨_,rfl⟩
  ·unfold resolve at hd
   cases hc:c.callee with
   | builtin b=>
     rw[hc] at hd
     cases hd
     refine⟨fun b' ts ty' cs e=>?_,fun c e=>Target.noConfusion e⟩
     simp only[mR,hc] at ho
     cases e
     exact ho
   | invoke recv name=>
     rw[hc] at hd
     cases hd
     exact⟨fun b' ts ty' cs e=>Target.noConfusion e,fun c e=>Target.noConfusion e⟩
   | value f=>
     rw[hc] at hd
     dsimp only at hd
     unfold Deferred.ofValue at hd
     split at hd
     ·cases hd
      exact⟨fun b' ts ty' cs e=>Target.noConfusion e,fun c e=>Target.noConfusion e⟩
     ·cases hd
      exact⟨fun b' ts ty' cs e=>Target.noConfusion e,fun c e=>Target.noConfusion e⟩
     ·cases hd
 case recv ct ch ok=>
  refine(tb (cu _) fun d=>?_:Tm P Z (gH Z F) _).rn hl
  split
  ·exact tb (dA _) fun z=>jG ⟨rfl,_,_,rfl,rfl,rfl⟩
  ·exact au _
end
section
open Go.Conc
variable{P:Program}{Z:Env}{F:FuncId→Prop}
theorem fP{fn:FuncId}{es:Array Event}{e:Event}(h:e∈seen P fn es):e∈es:=by
 rw[seen_def] at h
 have:=seen_fold_sub _ _ _ _ _ h
 simpa using this
def ig(P:Program):Item→Prop
 | .code c| .inLoop c| .inScope c=>cZ P c=true
 | .inBlock _| .inRangeFunc _| .beginRound| .endRangeFunc _=>True
 | .inRegion ops _=>ops.all (mR P)=true
 | _=>False
def gV(P:Program)(F:FuncId→Prop):Prop:=∀g,F g→∃f c,P.funcs[g]? =some f∧f.body=some c∧(f.name == "runtime.NumGoroutine")=false∧cZ P c=true
theorem gV.zero(h:gV P F):Cg P F:=fun g hg=>let ⟨f,c,h1,h2,h3,_⟩:=h g hg;⟨f,c,h1,h2,h3⟩
structure Fr(P:Program)(F:FuncId→Prop)(fr:Frame):Prop where
 fn:F fr.fn
 todo:∀i∈fr.todo,ig P i
 defers:∀d∈fr.defers,∃c,d.target=.collected c
 kind:fr.kind=.normal
def Mv(Z:Env)(n:Nat)(w w':World)(es:Array Event)(same:World→World→Prop):Prop:=
 w'.drawn=w.drawn+n∧w'.tape=w.tape∧Lv Z w'∧(∀e∈es,FV Z e)∧∀ {K:Nat→Option Obj} (v:World),p8 Z K w v→Agree n w v→∃v',same v v'∧p8 Z K w' v'∧v'.drawn=v.drawn+n∧v'.tape=v.tape
def Sn(P:Program)(F:FuncId→Prop)(g:Goroutine):Prop:=∃fr cs,g=G fr cs∧Fr P F fr∧∀c∈cs,Fr P F c
def Dead(g:Goroutine):Prop:=g.dying≠none∨g.status=.blocked∨g.status=.waiting∨g.status=.finished
def SL(P:Program)(F:FuncId→Prop)(Z:Env)(w:World)(f:World→GStep):Prop:=
 match f w with
 | .go g' w' es=>Dead g'∨Sn P F g'∧∃n,Mv Z n w w' es fun v v'=>f v=.go g' v' es
 | .comm g' cases b sh w' es=>Sn P F g'∧(b=true∧∃c ok,cases=#[c]∧c.send=none∧sh=.recv ok)∧∃n,Mv Z n w w' es fun v v'=>f v=.comm g' cases b sh v' es
 | .ended (.done x) w' es=>∃n,Mv Z n w w' es fun v v'=>f v=.ended (.done x) v' es
 | .ended _ _ _=>True
 | .spawn _ _ _ _=>True
 | _=>False
section
variable{w:World}{f:World→GStep}
theorem SL.UR(h:∃g c w' es,f w=.spawn g c w' es):SL P F Z w f:=by
 obtain⟨g,c,w',es,h⟩:=h
 unfold SL
 rw[h]
 trivial
theorem SL.const{fr:Frame}{cs:List Frame}(hl:Lv Z w)(h:∀v,f v=.go (G fr cs) v #[])(h1:Fr P F fr)(h2:∀c∈cs,Fr P F c):SL P F Z w f:=by
 unfold SL
 rw[h w]
 exact .inr ⟨⟨fr,cs,rfl,h1,h2⟩,0,rfl,rfl,hl,zs,fun v hs ha=>⟨v,h v,hs,rfl,rfl⟩⟩
theorem SL.bC{o:Outcome}{w':World}{es:Array Event}(h:f w=.ended o w' es)(ho:∀v,o≠.done v):SL P F Z w f:=by
 unfold SL
 rw[h]
 cases o <;> first|trivial|exact absurd rfl (ho _)
theorem SL.jW{g:Goroutine}{w':World}{es:Array Event}(h:f w=.go g w' es)(ho:Dead g):SL P F Z w f:=by
 unfold SL
 rw[h]
 exact .inl ho
theorem SL.congr{f':World→GStep}(h:SL P F Z w f)(e:∀v,f' v=f v):SL P F Z w f':=by
 have:f'=f:=funext e
 rw[this];exact h
end
theorem Rn.from{α:Type}{Q:α→Prop}{s:Sem α}{w:World}(h:Rn P Z Q s w)(hg:fE (s.runT P w #[]).1):∃n new r,s.runT P w #[]=(r,new)∧(ru r).drawn=w.drawn+n∧(ru r).tape=w.tape∧Lv Z (ru r)∧(∀e∈new,FV Z e)∧
 (∀a w',r=.ok a w'→Q a)∧∀ {K:Nat→Option Obj} (v:World),p8 Z K w v→Agree n w v→∃v',s.runT P v #[]=(lC v' r,new)∧p8 Z K (ru r) v'∧v'.drawn=v.drawn+n∧v'.tape=v.tape:=by
 obtain⟨n,new,r,R⟩:=h #[] hg
 refine⟨n,new,r,by simpa using R.run,R.drawn,R.tape,R.lv,R.evs,R.val,fun v hs ha=>?_⟩
 obtain⟨v',e1,e2⟩:=R.qE v #[] hs ha
 exact⟨v',by simpa using e1,e2⟩
theorem Fr.finish{fr:Frame}(h:Fr P F fr)(v:Value):Fr P F (fr.finish v):=by
 obtain⟨fn,tmps,todo,defers,mode,kind,roundOf⟩:=fr
 obtain⟨h1,h2,h3,h4⟩:=h
 simp only at h1 h2 h3 h4
 cases todo with
 | nil=>exact⟨h1,h2,h3,h4⟩
 | cons i k=>
   have hi:=h2 i zs
   have hk:∀x∈k,ig P x:=fun x hx=>h2 x (by simp[hx])
   have two:∀i',ig P i'→∀x∈i' :: k,ig P x:=fun i' h x hx=>by
    rcases List.mem_cons.1 hx with rfl|hx
    ·exact h
    ·exact hk x hx
   cases i with
   | inRegion ops l=>
     cases l with
     | nil=>exact⟨h1,h2,h3,h4⟩
     | cons j l=>exact⟨h1,two (.inRegion ops l) hi,h3,h4⟩
   | inRangeFunc l=>exact⟨h1,two (.endRangeFunc l) trivial,h3,h4⟩
   | beginRound=>exact⟨h1,hk,h3,h4⟩
   | _=>first
     | exact(show False from hi).elim
     | exact⟨h1,h2,h3,h4⟩
theorem Fr.enter{f:FuncId}(hF:gV P F)(hf:F f)(args:Array Value):Fr P F (Frame.enter P f args .normal):=by
 obtain⟨fn,c,h1,h2,_,h4⟩:=hF f hf
 refine⟨hf,fun i hi=>?_,by simp[Frame.enter],rfl⟩
 simp only[Frame.enter,h1,Option.bind_some,h2,Option.getD_some,List.mem_singleton] at hi
 subst hi
 exact h4
theorem Fr.round{l:Nat}{f:FuncId}{tmps:Array Value}{a b:Code}(hf:F f)(ha:cZ P a=true)(hb:cZ P b=true):Fr P F (Frame.round l f tmps a b .normal):=by
 refine⟨hf,fun i hi=>?_,by simp[Frame.round],rfl⟩
 simp only[Frame.round,List.mem_cons,List.not_mem_nil,or_false] at hi
 rcases hi with rfl|rfl|rfl
 ·exact ha
 ·trivial
 ·exact hb
theorem Fr.mode{fr:Frame}(h:Fr P F fr)(m:FrameMode):Fr P F {fr with mode:=m }:=⟨h.fn,h.todo,h.defers,h.kind⟩
theorem Fr.raise{fr:Frame}(h:Fr P F fr)(vs:List PanicEntry):Fr P F (fr.raise vs):=by
 unfold Frame.raise
 split <;> exact⟨h.fn,h.todo,h.defers,h.kind⟩
structure kE(P:Program)(F:FuncId→Prop)(Z:Env):Prop where
 hg:P.globals.size=0
 hF:gV P F
 hZ:∀f c,Z.jr f c↔F f∧cZ P c=true
 ahead:P.follows .staticDataAhead=true
 step:∀g,P.stepOf g=none
 inits:∀f,F f→P.inits.idxOf? f=none
theorem uZ(S:kE P F Z)(fr:Frame)(cs:List Frame)(g:Nat)(w:World):∃o w' es,early P fr cs none g w=.ended o w' es∧∀v,o≠.done v:=by
 unfold early
 simp only[S.ahead,S.step]
 exact⟨_,_,_,rfl,zs⟩
theorem Qm{α:Type}(r:Result α):lC (ru r) r=r:=by cases r <;> rfl
structure Told(P:Program)(Z:Env){α:Type}(Q:α→Prop)(s:Sem α)(w:World)(n:Nat)(new:Array Event)(r:Result α):Prop where
 run:s.runT P w #[]=(r,new)
 drawn:(ru r).drawn=w.drawn+n
 tape:(ru r).tape=w.tape
 lv:Lv Z (ru r)
 evs:∀e∈new,FV Z e
 val:∀a w',r=.ok a w'→Q a
 qE:∀ {K:Nat→Option Obj} (v:World),p8 Z K w v→Agree n w v→∃v',s.runT P v #[]=(lC v' r,new)∧p8 Z K (ru r) v'∧v'.drawn=v.drawn+n∧v'.tape=v.tape
theorem Rn.told{α:Type}{Q:α→Prop}{s:Sem α}{w:World}(h:Rn P Z Q s w)(hg:fE (s.runT P w #[]).1):∃n new r,Told P Z Q s w n new r:=by
 obtain⟨n,new,r,e1,e2,e3,e4,e5,e6,e7⟩:=h.from hg
 exact⟨n,new,r,e1,e2,e3,e4,e5,e6,e7⟩
section
variable{α:Type}{Q:α→Prop}{s:Sem α}{w:World}{n:Nat}{new:Array Event}{r:Result α}{f:World→GStep}{es:Array Event}
theorem Told.mv(T:Told P Z Q s w n new r){same:World→World→Prop}(hes:∀e∈es,e∈new)(h:∀u u',s.runT P u #[]=(lC u' r,new)→same u u'):Mv Z n w (ru r) es same:=
 ⟨T.drawn,T.tape,T.lv,fun e he=>T.evs e (hes e he),fun v hs ha=>let ⟨v',e1,e2,e3,e4⟩:=T.qE v hs ha;⟨v',h v v' e1,e2,e3,e4⟩⟩
theorem Told.self(T:Told P Z Q s w n new r):s.runT P w #[]=(lC (ru r) r,new):=by rw[Qm];exact T.run
theorem Told.go(T:Told P Z Q s w n new r){fr':Frame}{cs':List Frame}(hes:∀e∈es,e∈new)(key:∀u u',s.runT P u #[]=(lC u' r,new)→f u=.go (G fr' cs') u' es)(h1:Fr P F fr')(h2:∀c∈cs',Fr P F c):SL P F Z w f:=by
 unfold SL
 rw[key w _ T.self]
 exact .inr ⟨⟨fr',cs',rfl,h1,h2⟩,n,T.mv hes key⟩
theorem Told.done(T:Told P Z Q s w n new r){x:Value}(hes:∀e∈es,e∈new)(key:∀u u',s.runT P u #[]=(lC u' r,new)→f u=.ended (.done x) u' es):SL P F Z w f:=by
 unfold SL
 rw[key w _ T.self]
 exact⟨n,T.mv hes key⟩
theorem Told.comm(T:Told P Z Q s w n new r){fr':Frame}{cs':List Frame}{cases:Array CommCase}{b:Bool}{sh:CommShape}(hes:∀e∈es,e∈new)(key:∀u u',s.runT P u #[]=(lC u' r,new)→f u=.comm (G fr' cs') cases b sh u' es)
 (h1:Fr P F fr')(h2:∀c∈cs',Fr P F c)(h3:b=true∧∃c ok,cases=#[c]∧c.send=none∧sh=.recv ok):SL P F Z w f:=by
 unfold SL
 rw[key w _ T.self]
 exact⟨⟨fr',cs',rfl,h1,h2⟩,h3,n,T.mv hes key⟩
end
theorem xu(S:kE P F Z){fr:Frame}{cs:List Frame}(hfr:Fr P F fr)(hcs:∀c∈cs,Fr P F c){s:Sem Next}{w:World}(hl:Lv Z w)(h:Rn P Z (gH Z F) s w):SL P F Z w (fun u=>stepG.apply P true fr cs none s u):=by
 have hk:∀d b r sv k,fr.todo≠.call d b r sv :: k:=fun d b r sv k e=>(show False from hfr.todo (.call d b r sv) (by rw[e];simp))
 have hek:(fr.kind == CallKind.early)=false:=by rw[hfr.kind];rfl
 have hall:∀c∈fr :: cs,Fr P F c:=fun c hc=>by
  rcases List.mem_cons.1 hc with rfl|hc
  ·exact hfr
  ·exact hcs c hc
 by_cases hgood:fE (s.runT P w #[]).1
 ·obtain⟨n,new,r,T⟩:=h.told hgood
  cases r with
  | ok x w1=>
    have hx:=T.val x w1 rfl
    have sub:∀e∈seen P fr.fn new,e∈new:=fun e he=>fP he
    cases x with
    | value v=>exact T.go sub (fun u u' hu=>by simp[stepG.apply,hu,lC,hek,GStep.after,G,-Sem.runT_eq]) (hfr.finish v) hcs
    | skip=>exact T.go sub (fun u u' hu=>by simp[stepG.apply,hu,lC,hek,GStep.after,G,-Sem.runT_eq]) (hfr.finish undef) hcs
    | enter f args=>exact T.go sub (fun u u' hu=>by simp[stepG.apply,hu,lC,hek,GStep.after,G,-Sem.runT_eq];split <;> first|rfl|exact absurd (by assumption) (hk _ _ _ _ _)) (Fr.enter S.hF hx args) hall
    | round l f tmps a b=>
      obtain⟨h1,h2⟩:=hx
      exact T.go sub (fun u u' hu=>by simp[stepG.apply,hu,lC,hek,GStep.after,G,-Sem.runT_eq]) (Fr.round (l:=l) (tmps:=tmps) ((S.hZ _ _).1 h1).1 ((S.hZ _ _).1 h1).2 ((S.hZ _ _).1 h2).2) hall
    | spawn d=>
      have key:(∃g w2 es2,(fun u=>stepG.apply P true fr cs none s u) w=.go g w2 es2∧g.dying≠none)∨∃g c w2 es2,(fun u=>stepG.apply P true fr cs none s u) w=.spawn g c w2 es2:=by
       have hr:s.runT P w #[]=(.ok (.spawn d) w1,new):=T.run
       dsimp only
       unfold stepG.apply
       simp only[if_true,hr,hek,Bool.false_eq_true,if_false]
       unfold endThrow dieOf
       repeat' split
       all_goals first|exact .inr ⟨_,_,_,_,rfl⟩|exact .inl ⟨_,_,_,rfl,fun h=>by cases h⟩
      rcases key with⟨g,w2,es2,e1,e2⟩|h
      ·exact SL.jW e1 (.inl e2)
      ·exact SL.UR h
    | comm cases b sh=>exact T.comm sub (fun u u' hu=>by simp[stepG.apply,hu,lC,hek,GStep.after,G,-Sem.runT_eq]) hfr hcs hx
    | _=>exact hx.elim
  | halt x w1=>
    have sub:∀e∈seen P fr.fn new,e∈new:=fun e he=>fP he
    have hgx:fE (.halt x w1:Result Next):=by rw[T.run] at hgood;exact hgood
    cases x with
    | panic v=>exact T.go sub (fun u u' hu=>by simp[stepG.apply,hu,lC,hek,GStep.after,G,-Sem.runT_eq]) (hfr.raise [{v,recovered:=false }]) hcs
    | goexit=>exact T.go sub (fun u u' hu=>by simp[stepG.apply,hu,lC,hek,GStep.after,G,-Sem.runT_eq]) (hfr.raise [goexitEntry]) hcs
    | _=>exact hgx.elim
 ·generalize hr:s.runT P w #[]=r at hgood
  obtain⟨r,es⟩:=r
  cases r with
  | ok x w1=>exact absurd trivial hgood
  | halt x w1=>
    cases x with
    | panic v=>exact absurd trivial hgood
    | goexit=>exact absurd trivial hgood
    | blocked=>exact SL.jW (g:={frame:=fr,callers:=cs,status:=.blocked,dying:=none }) (w':=w1) (es:=seen P fr.fn #[]) (by simp[stepG.apply,hr,hek,GStep.after,-Sem.runT_eq]) (.inr (.inl rfl))
    | waiting=>exact SL.jW (g:={frame:=fr,callers:=cs,status:=.waiting,dying:=none }) (w':=w1) (es:=seen P fr.fn #[]) (by simp[stepG.apply,hr,hek,GStep.after,-Sem.runT_eq]) (.inr (.inr (.inl rfl)))
    | exit c=>exact SL.bC (o:=.exit c) (w':=w1) (es:=seen P fr.fn es) (by simp[stepG.apply,hr,hek,GStep.after,-Sem.runT_eq]) zs
    | stuck m=>exact SL.bC (o:=.stuck m (fr.pos P)) (w':=w1) (es:=seen P fr.fn es) (by simp[stepG.apply,hr,hek,GStep.after,-Sem.runT_eq]) zs
    | unsupported u=>
      cases u with
      | initOrder g=>
        obtain⟨o,w2,es2,e1,e2⟩:=uZ S fr cs g w1
        exact SL.bC (o:=o) (w':=w2) (es:=seen P fr.fn #[] ++ es2) (by simp[stepG.apply,hr,hek,e1,GStep.after,-Sem.runT_eq]) e2
      | _=>exact SL.bC (o:=.unsupported _ (fr.pos P)) (w':=w1) (es:=seen P fr.fn es) (by simp[stepG.apply,hr,hek,GStep.after,-Sem.runT_eq];rfl) zs
    | throw m=>
      obtain⟨g,w2,es2,e1,e2⟩:∃g w2 es2,endThrow fr m w1=.go g w2 es2∧g.dying≠none:=by
       unfold endThrow dieOf
       exact⟨_,_,_,rfl,zs⟩
      exact SL.jW (g:=g) (w':=w2) (es:=seen P fr.fn es ++ es2) (by simp[stepG.apply,hr,hek,e1,GStep.after,-Sem.runT_eq]) (.inl e2)
    | fatal m=>
      have key:(fun u=>stepG.apply P true fr cs none s u) w=GStep.after (seen P fr.fn es) (endFatal P fr cs none m w1):=by simp[stepG.apply,hr,hek,-Sem.runT_eq]
      have:(∃g w2 es2,endFatal P fr cs none m w1=.go g w2 es2∧g.dying≠none)∨∃o w2 es2,endFatal P fr cs none m w1=.ended o w2 es2∧∀v,o≠.done v:=by
       unfold endFatal
       dsimp only
       split
       ·exact .inl ⟨_,_,_,rfl,zs⟩
       ·exact .inr ⟨_,_,_,rfl,zs⟩
       ·exact .inr ⟨_,_,_,rfl,zs⟩
      rcases this with⟨g,w2,es2,e1,e2⟩|⟨o,w2,es2,e1,e2⟩
      ·rw[e1] at key
       exact SL.jW key (.inl e2)
      ·rw[e1] at key
       exact SL.bC key e2
theorem rZ{α:Type}{x:Result α}(h:¬ fE x):∃e w,x=.halt e w∧(∀v,e≠.panic v)∧e≠.goexit:=by
 cases x with
 | ok a w=>exact absurd trivial h
 | halt e w=>exact⟨e,w,rfl,fun v he=>by subst he;exact h trivial,fun he=>by subst he;exact h trivial⟩
theorem Di(S:kE P F Z){fr:Frame}{cs:List Frame}(hfr:Fr P F fr)(hcs:∀c∈cs,Fr P F c){s:Sem Value}{w:World}(hl:Lv Z w)(h:T P Z s){f:World→GStep}{fn:FuncId}
 (hok:∀u v u' es,s.runT P u #[]=(.ok v u',es)→f u=GStep.after (seen P fn es) (doReturn P true fr cs none v u'))
 (hno:∀u e u' es,s.runT P u #[]=(.halt e u',es)→∃o u2 es2,f u=.ended o u2 es2∧∀v,o≠.done v):SL P F Z w f:=by
 by_cases hgood:fE (s.runT P w #[]).1
 ·obtain⟨n,new,r,T⟩:=(h.rn hl).told hgood
  have sub:∀e∈seen P fn new,e∈new:=fun e he=>fP he
  cases r with
  | halt e w1=>
    obtain⟨o,u2,es2,e1,e2⟩:=hno w e w1 new T.run
    exact SL.bC e1 e2
  | ok v w1=>
    cases cs with
    | cons c cs=>
      refine T.go (fr':=c.finish v) (cs':=cs) sub (fun u u' hu=>?_) ((hcs c zs).finish v) fun x hx=>hcs x (by simp[hx])
      rw[hok u v u' new hu]
      simp[doReturn,hfr.kind,GStep.after,G]
    | nil=>
      refine T.done (x:=v) sub (fun u u' hu=>?_)
      rw[hok u v u' new hu]
      simp[doReturn,hfr.kind,GStep.after,S.inits _ hfr.fn]
 ·generalize hr:s.runT P w #[]=r at hgood
  obtain⟨r,es⟩:=r
  obtain⟨e,w1,rfl,_⟩:=rZ hgood
  obtain⟨o,u2,es2,e1,e2⟩:=hno w e w1 es hr
  exact SL.bC e1 e2
theorem DI(S:kE P F Z){fr:Frame}{cs:List Frame}(hfr:Fr P F fr)(hcs:∀c∈cs,Fr P F c){w:World}(hl:Lv Z w):SL P F Z w (fun u=>unwind P true fr cs none u):=by
 obtain⟨fn,tmps,todo,defers,mode,kind,roundOf⟩:=fr
 cases defers with
 | cons d ds=>
   obtain⟨c,hc⟩:=hfr.defers d zs
   obtain⟨t,args⟩:=d
   simp only at hc
   subst hc
   by_cases hgood:fE ((Instr.takeDeferred c).runT P w #[]).1
   ·obtain⟨n,new,r,T⟩:=((Ah (P:=P) (Z:=Z) c).rn hl).told hgood
    cases r with
    | ok calls w1=>
      obtain rfl:calls=[]:=T.val _ _ rfl
      exact T.go (fr':={fn,tmps,todo,defers:=ds,mode,kind,roundOf }) (cs':=cs) (es:=seen P fn new) (fun e he=>fP he) (fun u u' hu=>by simp[unwind,hu,lC,GStep.after,G,-Sem.runT_eq])
       ⟨hfr.fn,hfr.todo,fun d hd=>hfr.defers d (by simp[hd]),hfr.kind⟩ hcs
    | halt e w1=>exact SL.bC (o:=.stuck "the deferred calls of a range-over-func loop have been taken" (Frame.pos P _)) (w':=w1) (es:=seen P fn new) (by simp only[unwind,T.run,GStep.after];rfl) zs
   ·generalize hr:(Instr.takeDeferred c).runT P w #[]=r at hgood
    obtain⟨r,es⟩:=r
    obtain⟨e,w1,rfl,_⟩:=rZ hgood
    exact SL.bC (o:=.stuck "the deferred calls of a range-over-func loop have been taken" (Frame.pos P _)) (w':=w1) (es:=seen P fn es) (by simp only[unwind,hr,GStep.after];rfl) zs
 | nil=>
   cases mode with
   | run=>exact SL.bC (o:=.stuck sQ3 (Frame.pos P _)) (w':=w) (es:=#[]) (by simp only[unwind];rfl) zs
   | panicking chain=>
     obtain⟨f,c,h1,h2,_⟩:=S.hF _ hfr.fn
     simp only at h1
     have EA:Frame.catches P {fn,tmps,todo,defers:=[],mode:=.panicking chain,kind,roundOf }=false:=by
      unfold Frame.catches
      rw[h1]
     cases cs with
     | cons c cs=>
       refine SL.const (fr:=c.raise chain) (cs:=cs) hl (fun v=>?_) ((hcs c zs).raise chain) fun x hx=>hcs x (by simp[hx])
       simp[unwind,EA,G]
     | nil=>
       by_cases hge:chain.head?.any (·.goexit)=true
       ·exact SL.jW (g:={frame:={fn,tmps,todo,defers:=[],mode:=.panicking chain,kind,roundOf },callers:=[],status:=.finished,dying:=none }) (w':=w) (es:=#[]) (by simp only[unwind,EA,Bool.false_eq_true,if_false,hge,if_true]) (.inr (.inr (.inr rfl)))
       ·cases hr:(reportChain chain false).run P w with
        | ok aao w2=>exact SL.jW (w':=w2) (es:=#[]) (by simp only[unwind,EA,Bool.false_eq_true,if_false,hge,hr];rfl) (.inl zs)
        | halt h0 w2=>cases h0 <;> exact SL.bC (w':=w2) (es:=#[]) (by simp only[unwind,EA,Bool.false_eq_true,if_false,hge,hr];rfl) zs
   | returning=>
     obtain⟨f,c,h1,h2,_⟩:=S.hF _ hfr.fn
     simp only at h1
     refine Di S hfr hcs hl (QO f tmps) (fn:=fn) (fun u v u' es hu=>?_) fun u e u' es hu=>?_
     ·simp only[unwind,h1,hu]
     ·simp only[unwind,h1,hu]
      cases e <;> exact⟨_,_,_,rfl,zs⟩
theorem UK(S:kE P F Z){fr:Frame}{cs:List Frame}(hfr:Fr P F fr)(hcs:∀c∈cs,Fr P F c){w:World}(hl:Lv Z w)(jump:Option Code)(hj:∀c,jump=some c→cZ P c=true):
 SL P F Z w (fun u=>match fr.roundOf with
  | none=>if jump matches none|some .ret then .go {frame:={fr with mode:=.returning },callers:=cs,status:=.running,dying:=none } u else .ended (.stuck BY (fr.pos P)) u
  | some l=>
    let (r,es):=(Instr.endRound l jump).runT P u #[]
    GStep.after (seen P fr.fn es) <| match r with
    | .ok v w=>doReturn P true fr cs none v w
    | .halt _ w=>.ended (.stuck eQ (fr.pos P)) w):=by
 obtain⟨fn,tmps,todo,defers,mode,kind,roundOf⟩:=fr
 cases roundOf with
 | none=>
   have back:SL P F Z w (fun u=>.go {frame:={fn,tmps,todo,defers,mode:=.returning,kind,roundOf:=none },callers:=cs,status:=.running,dying:=none } u):=
    SL.const (fr:={fn,tmps,todo,defers,mode:=.returning,kind,roundOf:=none }) (cs:=cs) hl (fun v=>rfl) (hfr.mode _) hcs
   have lost:SL P F Z w (fun u=>.ended (.stuck BY (Frame.pos P {fn,tmps,todo,defers,mode,kind,roundOf:=none })) u):=SL.bC (o:=.stuck _ _) (w':=w) (es:=#[]) rfl zs
   cases jump with
   | none=>exact back
   | some c=>cases c <;> first|exact back|exact lost
 | some l=>
   refine Di S hfr hcs hl (Md l jump fun c f c0 e h0=>(S.hZ _ _).2 ⟨((S.hZ _ _).1 h0).1,hj c e⟩) (fn:=fn) (fun u v u' es hu=>?_) fun u e u' es hu=>?_
   ·simp only[hu]
   ·simp only[hu]
    exact⟨_,_,_,rfl,zs⟩
theorem Told.seq{α:Type}{Q:α→Prop}{s:Sem α}{w w1:World}{n:Nat}{new es':Array Event}{a:α}{f g:World→GStep}(T:Told P Z Q s w n new (.ok a w1))(hes:∀e∈es',e∈new)
 (key:∀u u',s.runT P u #[]=(.ok a u',new)→f u=GStep.after es' (g u'))(h:SL P F Z w1 g):SL P F Z w f:=by
 have hd1:w1.drawn=w.drawn+n:=T.drawn
 have ht1:w1.tape=w.tape:=T.tape
 have mv:∀ {m:Nat} {w2:World} {es2:Array Event} {same Vq:World→World→Prop},Mv Z m w1 w2 es2 same→(∀u u' u2,s.runT P u #[]=(.ok a u',new)→same u' u2→Vq u u2)→Mv Z (n+m) w w2 (es' ++ es2) Vq:=by
  intro m w2 es2 same Vq ⟨k1,k2,k3,k4,k5⟩ hs
  refine⟨by rw[k1,hd1];omega,k2.trans ht1,k3,fun e he=>?_,fun v hv ha=>?_⟩
  ·rcases Array.mem_append.1 he with he|he
   ·exact T.evs e (hes e he)
   ·exact k4 e he
  ·obtain⟨v1,e1,s1,d1,t1⟩:=T.qE v hv (ha.le zo)
   obtain⟨v2,e2,s2,d2,t2⟩:=k5 v1 s1 (Agree.shift ha hd1 ht1 d1 t1)
   exact⟨v2,hs v v1 v2 e1 e2,s2,by rw[d2,d1];omega,t2.trans t1⟩
 unfold SL at h⊢
 rw[key w w1 T.run]
 cases hgw:g w1 with
 | go g' w2 es2=>
   rw[hgw] at h
   exact h.imp id fun⟨k1,m,k2⟩=>⟨k1,n+m,mv k2 fun u u' u2 hu hs=>by rw[key u u' hu,hs];rfl⟩
 | comm g' cases b sh w2 es2=>
   rw[hgw] at h
   obtain⟨k1,k3,m,k2⟩:=h
   exact⟨k1,k3,n+m,mv k2 fun u u' u2 hu hs=>by rw[key u u' hu,hs];rfl⟩
 | ended o w2 es2=>
   rw[hgw] at h
   cases o with
   | done x=>
     obtain⟨m,k2⟩:=h
     exact⟨n+m,mv k2 fun u u' u2 hu hs=>by rw[key u u' hu,hs];rfl⟩
   | _=>trivial
 | spawn g' c w2 es2=>exact zT
 | _=>rw[hgw] at h;exact h.elim
theorem qR{id:Nat}:∀ {k k':List Item},exitTo id k=some k'→∀i∈k',i∈k:=by
 intro k
 induction k with
 | nil=>intro k' h;cases h
 | cons i k ih=>
   intro k' h x hx
   unfold exitTo at h
   split at h
   ·rename_i heq
    cases heq
    split at h
    ·cases h;simp[hx]
    ·simp[ih h x hx]
   ·rename_i heq
    cases heq
    simp[ih h x hx]
   ·rename_i heq
    cases heq
theorem Ev{l:Nat}:∀ {c r:Code},findLabel c l=some r→cZ P c=true→cZ P r=true:=by
 intro c
 induction c with
 | seq a b iha ihb=>
   intro r h ho
   simp only[cZ,Bool.and_eq_true] at ho
   unfold findLabel at h
   split at h
   ·rename_i rest hr
    cases h
    simp only[cZ,Bool.and_eq_true]
    exact⟨iha hr ho.1,ho.2⟩
   ·exact ihb h ho.2
 | label l'=>
   intro r h ho
   unfold findLabel at h
   split at h
   ·cases h;rfl
   ·cases h
 | _=>intro r h ho;cases h
theorem Pq{l:Nat}:∀ {k k':List Item},gotoIn l k=some k'→(∀i∈k,ig P i)→∀i∈k',ig P i:=by
 intro k
 induction k with
 | nil=>intro k' h;cases h
 | cons i k ih=>
   intro k' h ho x hx
   have rest:gotoIn l k=some k'→ig P x:=fun h=>ih h (fun i hi=>ho i (by simp[hi])) x hx
   cases i with
   | inScope body=>
     unfold gotoIn at h
     cases hr:findLabel body l with
     | none=>rw[hr] at h;exact rest h
     | some r=>
       rw[hr] at h
       cases h
       have hb:cZ P body=true:=ho (.inScope body) zs
       simp only[List.mem_cons] at hx
       rcases hx with rfl|rfl|hx
       ·exact Ev hr hb
       ·exact hb
       ·exact ho x (by simp[hx])
   | _=>exact rest (by unfold gotoIn at h;exact h)
theorem XV(S:kE P F Z){fr:Frame}{cs:List Frame}(hfr:Fr P F fr)(hcs:∀c∈cs,Fr P F c)(hm:fr.mode=.run){w:World}(hl:Lv Z w)(hab:∀f,fr.about P w=some f→F f):SL P F Z w (fun u=>stepG.exec P true true fr cs none u):=by
 have leave:=fun jump hj=>UK S hfr hcs hl jump hj
 obtain⟨fn,tmps,todo,defers,mode,kind,roundOf⟩:=fr
 simp only at hm
 subst hm
 unfold stepG.exec
 have stay:∀todo',(∀i∈todo',ig P i)→SL P F Z w (fun u=>.go {frame:={fn,tmps,todo:=todo',defers,mode:=.run,kind,roundOf },callers:=cs,status:=.running,dying:=none } u):=fun todo' h=>
  SL.const (fr:={fn,tmps,todo:=todo',defers,mode:=.run,kind,roundOf }) (cs:=cs) hl (fun v=>rfl) ⟨hfr.fn,h,hfr.defers,hfr.kind⟩ hcs
 cases todo with
 | nil=>exact leave none zs
 | cons i k=>
   have hi:=hfr.todo i zs
   have hk:∀x∈k,ig P x:=fun x hx=>hfr.todo x (by simp[hx])
   have one:∀i',ig P i'→∀x∈i' :: k,ig P x:=fun i' h x hx=>by
    rcases List.mem_cons.1 hx with rfl|hx
    ·exact h
    ·exact hk x hx
   have two:∀i1 i2,ig P i1→ig P i2→∀x∈i1 :: i2 :: k,ig P x:=fun i1 i2 h1 h2 x hx=>by
    rcases List.mem_cons.1 hx with rfl|hx
    ·exact h1
    ·exact one i2 h2 x hx
   cases i with
   | code c=>
     replace hi:cZ P c=true:=hi
     cases c with
     | skip=>exact stay _ hk
     | label l=>exact stay _ hk
     | ret=>exact leave (some .ret) (by simp[cZ])
     | seq a b=>
       simp only[cZ,Bool.and_eq_true] at hi
       exact stay _ (two _ _ hi.1 hi.2)
     | cond x a b=>
       simp only[cZ,Bool.and_eq_true] at hi
       dsimp only
       generalize Frame.eval _ x=v
       cases v with
       | bool t=>exact stay _ (one (.code (if t then a else b)) (by cases t;exact hi.2;exact hi.1))
       | _=>exact SL.bC (o:=.stuck _ _) (w':=w) (es:=#[]) rfl zs
     | block id b=>exact stay _ (two _ _ hi trivial)
     | loop b=>exact stay _ (two _ _ hi hi)
     | scope b=>exact stay _ (two _ _ hi hi)
     | exit id=>
       have:=leave (some (.exit id)) (by simp[cZ])
       dsimp only at this⊢
       cases he:exitTo id k with
       | none=>exact this
       | some k'=>exact stay _ fun x hx=>hk x (qR he x hx)
     | goto l=>
       have:=leave (some (.goto l)) (by simp[cZ])
       dsimp only at this⊢
       cases he:gotoIn l k with
       | none=>exact this
       | some k'=>exact stay _ (Pq he hk)
     | region id ops draw=>
       cases draw with
       | false=>exact stay _ (one (.inRegion ops (List.range ops.size)) hi)
       | true=>
         dsimp only
         obtain⟨n,new,r,T⟩:=((dN (P:=P) (Z:=Z) (.order fn id)).rn hl).told (by simp only[choose,Sem.runT];split <;> trivial)
         cases r with
         | ok t w1=>
           have hr:∀u u',(choose (.order fn id)).runT P u #[]=(.ok t u',new)→(choose (.order fn id)).run P u=.ok t u':=fun u u' hu=>by
            have:=Sem.runT_fst P (choose (.order fn id)) u #[]
            rw[hu] at this
            exact this.symm
           exact T.go (fr':={fn,tmps,todo:=.inRegion ops (Region.schedule (P.follows .mixedOrders) ops t) :: k,defers,mode:=.run,kind,roundOf }) (cs':=cs) (es:=#[]) zs (fun u u' hu=>by
            have:=hr u u' hu
            simp[this,G]) ⟨hfr.fn,one (.inRegion ops _) hi,hfr.defers,hfr.kind⟩ hcs
         | halt e w1=>
           exfalso
           have:=T.run
           simp only[choose,Sem.runT] at this
           split at this <;> cases this
     | rangeFunc f params assign body=>
       simp only[cZ,Bool.and_eq_true] at hi
       dsimp only
       by_cases hgood:fE ((Instr.enterLoop fn tmps params assign body roundOf).runT P w #[]).1
       ·obtain⟨n,new,r,T⟩:=((Jf (P:=P) (Z:=Z) fn tmps params assign body roundOf ((S.hZ _ _).2 ⟨hfr.fn,hi.1⟩) ((S.hZ _ _).2 ⟨hfr.fn,hi.2⟩)).rn hl).told hgood
        cases r with
        | halt e w1=>exact SL.bC (o:=.stuck eQ (Frame.pos P _)) (w':=w1) (es:=seen P fn new) (by simp only[T.run,GStep.after];rfl) zs
        | ok x w1=>
          obtain⟨l,mark⟩:=x
          have hmk:=T.val _ _ rfl
          have hrun:(Instr.enterLoop fn tmps params assign body roundOf).run P w=.ok (l,mark) w1:=by
           have:=Sem.runT_fst P (Instr.enterLoop fn tmps params assign body roundOf) w #[]
           rw[T.run] at this
           exact this.symm
          have SJ:Fr P F {fn,tmps,todo:=.inRangeFunc l :: k,defers:=mark ++ defers,mode:=.run,kind,roundOf }:=⟨hfr.fn,one (.inRangeFunc l) trivial,fun d hd=>by
           rcases List.mem_append.1 hd with hd|hd
           ·exact hmk d hd
           ·exact hfr.defers d hd,hfr.kind⟩
          refine T.seq (g:=fun u=>stepG.apply P true {fn,tmps,todo:=.inRangeFunc l :: k,defers:=mark ++ defers,mode:=.run,kind,roundOf } cs none (do
           let d ← resolve (Frame.eval {fn,tmps,todo:=.inRangeFunc l :: k,defers:=mark ++ defers,mode:=.run,kind,roundOf }) {callee:=.value f,args:=#[.const (.func (.yield l) #[] #[])],argTypes:=#[] } 0
           invoke d.target d.args) u) (es':=seen P fn new) (fun e he=>fP he) (fun u u' hu=>by simp only[hu]) ?_
          refine xu S SJ hcs T.lv ?_
          refine NJ S.hg S.hF.zero T.lv ?_ (fun g hgl=>hab g ?_) (fun d w2 hd=>?_)
          ·show(∃d,Deferred.ofValue _ _=pure d)∨∃m,Deferred.ofValue _ _=stuck m
           unfold Deferred.ofValue
           split
           ·exact .inl ⟨_,rfl⟩
           ·exact .inl ⟨_,rfl⟩
           ·exact .inr ⟨_,rfl⟩
          ·unfold Frame.about
           dsimp only
           rw[hrun]
           exact hgl
          ·replace hd:(Deferred.ofValue _ _).run P w1=.ok d w2:=hd
           unfold Deferred.ofValue at hd
           split at hd
           ·cases hd
            exact⟨fun b' ts ty' cs e=>Target.noConfusion e,fun c e=>Target.noConfusion e⟩
           ·cases hd
            exact⟨fun b' ts ty' cs e=>Target.noConfusion e,fun c e=>Target.noConfusion e⟩
           ·cases hd
       ·generalize hr:(Instr.enterLoop fn tmps params assign body roundOf).runT P w #[]=r at hgood
        obtain⟨r,es⟩:=r
        obtain⟨e,w1,rfl,_⟩:=rZ hgood
        exact SL.bC (o:=.stuck eQ (Frame.pos P _)) (w':=w1) (es:=seen P fn es) (by simp only[hr,GStep.after];rfl) zs
     | refuse y=>exact SL.bC (o:=.unsupported _ _) (w':=w) (es:=#[]) rfl zs
   | inBlock id=>exact stay _ hk
   | inScope b=>exact stay _ hk
   | inLoop b=>exact stay _ (two _ _ hi hi)
   | inRegion ops l=>
     replace hi:ops.all (mR P)=true:=hi
     cases l with
     | nil=>exact stay _ hk
     | cons j l=>
       dsimp only
       split
       ·unfold stepG.oper Frame.oper?
        dsimp only
        cases ho:ops[j]? with
        | none=>exact SL.bC (o:=.stuck _ _) (w':=w) (es:=#[]) rfl zs
        | some o=>
          have Rx:mR P o=true:=by
           rw[Array.all_eq_true_iff_forall_mem] at hi
           exact hi o (Array.mem_of_getElem? ho)
          have main:SL P F Z w (fun u=>stepG.apply P true {fn,tmps,todo:=.inRegion ops (j :: l) :: k,defers,mode:=.run,kind,roundOf } cs none (execOp (Frame.eval {fn,tmps,todo:=.inRegion ops (j :: l) :: k,defers,mode:=.run,kind,roundOf }) o) u):=by
           refine xu S hfr hcs hl (YZ S.hg S.hF.zero Rx hl fun f hf=>hab f ?_)
           unfold Frame.about
           dsimp only
           rw[ho]
           exact hf
          dsimp only
          refine SL.congr main fun v=>?_
          cases roundOf with
          | none=>rfl
          | some r=>
            split
            ·rename_i hd
             simp only[mR,hd] at Rx
             cases Rx
            ·rfl
       ·exact SL.const (fr:=Frame.finish {fn,tmps,todo:=.inRegion ops (j :: l) :: k,defers,mode:=.run,kind,roundOf } undef) (cs:=cs) hl (fun v=>rfl) (hfr.finish undef) hcs
   | inRangeFunc l=>exact SL.bC (o:=.unsupported _ _) (w':=w) (es:=#[]) rfl zs
   | beginRound=>
     refine xu S hfr hcs hl ?_
     cases roundOf with
     | none=>exact(oN (R:=gH Z F) rm fun _:Unit=>pure .skip).rn hl
     | some l=>exact(tu (Fa l)).rn hl
   | endRangeFunc l=>
     dsimp only
     by_cases hgood:fE ((Instr.endLoop l).runT P w #[]).1
     ·obtain⟨n,new,r,T⟩:=((QF (P:=P) (Z:=Z) l).rn hl).told hgood
      cases r with
      | ok jump w1=>
        have hj:=T.val _ _ rfl
        refine T.go (fr':={fn,tmps,todo:=(jump.map Item.code).toList ++ k,defers,mode:=.run,kind,roundOf }) (cs':=cs) (es:=seen P fn new) (fun e he=>fP he) (fun u u' hu=>by simp[hu,lC,GStep.after,G,-Sem.runT_eq]) ⟨hfr.fn,fun x hx=>?_,hfr.defers,hfr.kind⟩ hcs
        rcases List.mem_append.1 hx with hx|hx
        ·cases jump with
         | none=>simp at hx
         | some c=>
           simp only[Option.map_some,Option.toList_some,List.mem_singleton] at hx
           subst hx
           obtain⟨f,hf⟩:=hj c rfl
           exact((S.hZ _ _).1 hf).2
        ·exact hk x hx
      | halt e w1=>
        have hgx:fE (.halt e w1:Result (Option Code)):=by rw[T.run] at hgood;exact hgood
        cases e with
        | panic v=>exact T.go (fr':=Frame.raise {fn,tmps,todo:=.endRangeFunc l :: k,defers,mode:=.run,kind,roundOf } [{v,recovered:=false }]) (cs':=cs) (es:=seen P fn new) (fun e he=>fP he) (fun u u' hu=>by simp[hu,lC,GStep.after,G,-Sem.runT_eq]) (hfr.raise _) hcs
        | goexit=>exact SL.bC (o:=.stuck eQ (Frame.pos P _)) (w':=w1) (es:=seen P fn new) (by simp only[T.run,GStep.after];rfl) zs
        | _=>exact hgx.elim
     ·generalize hr:(Instr.endLoop l).runT P w #[]=r at hgood
      obtain⟨r,es⟩:=r
      obtain⟨e,w1,rfl,hp,_⟩:=rZ hgood
      cases e <;> first|exact absurd rfl (hp _)|exact SL.bC (o:=.stuck eQ (Frame.pos P _)) (w':=w1) (es:=seen P fn es) (by simp only[hr,GStep.after];rfl) zs
   | call x b c e=>exact False.elim hi
   | _=>exact False.elim hi
theorem yR(S:kE P F Z){fr:Frame}{cs:List Frame}(hfr:Fr P F fr)(hcs:∀c∈cs,Fr P F c){w:World}(hl:Lv Z w)(hab:∀f,fr.about P w=some f→F f):SL P F Z w (fun u=>stepG P true (G fr cs) u):=by
 cases hm:fr.mode with
 | run=>exact SL.congr (XV S hfr hcs hm hl hab) fun v=>by simp[stepG,G,hm]
 | returning=>exact SL.congr (DI S hfr hcs hl) fun v=>by simp[stepG,G,hm]
 | panicking c=>exact SL.congr (DI S hfr hcs hl) fun v=>by simp[stepG,G,hm]
def kT(gs:Array Goroutine):Prop:=∀i g,0<i→gs[i]? =some g→g.status=.running∨g.status=.finished
def FY(Z:Env)(l:Loc):Prop:=(∃a,l=.cell a∧¬ Z a.block)∨(∃r,l=.obj r∧¬ Z r)∨l=.output
def Xx(Z:Env)(op:MemOp):Prop:=op.g=0∧(op.act≠.mark .disable∧op.act≠.mark .enable)∧(∀x,op.act.touch?=some x→FY Z x.loc)∧∀a,op.act≠.mark (.release a)
structure Pt where
 fr:Frame
 cs:List Frame
 w:World
def Pt.on(a:Pt)(σ:Tape):Pt:=⟨a.fr,a.cs,{a.w with tape:=σ }⟩
def Pt.m(a:Pt):Machine:=solo (G a.fr a.cs) a.w
structure Pt.Ok(P:Program)(F:FuncId→Prop)(Z:Env)(a:Pt):Prop where
 fr:Fr P F a.fr
 cs:∀c∈a.cs,Fr P F c
 lv:Lv Z a.w
def qe(P:Program)(F:FuncId→Prop)(Z:Env)(a b:Pt):Prop:=b.Ok P F Z∧b.w.tape=a.w.tape∧∃n,b.w.drawn=a.w.drawn+n∧
 ∀ {K:Nat→Option Obj} (gs:Array Goroutine) (v:World) (sl:Option (Nat × Nat)),gs[0]? =some (G a.fr a.cs)→kT gs→p8 Z K a.w v→Agree n a.w v→∃gs2 v2 ops,runT P (crowd gs v sl) 0=(.next (crowd gs2 v2 sl),ops)∧gs2.size=gs.size∧gs2[0]? =some (G b.fr b.cs)∧
   (∀i,0<i→gs2[i]? =gs[i]?)∧p8 Z K b.w v2∧v2.drawn=v.drawn+n∧v2.tape=v.tape∧∀op∈ops,Xx Z op
theorem mZ{g:Goroutine}{w:World}{m1:Machine}(h:g.status=.blocked∨g.status=.waiting∨g.status=.finished)(hs:step P (solo g w)=.next m1):m1=solo g w:=by
 rw[step,stepT] at hs
 rcases h with h|h|h
 ·simp[move,ask,askOn,solo,runnable_eq,due,ahead,Goroutine.canRun,List.range_succ,pure,h] at hs
  split at hs <;> rename_i heq <;> split at heq <;> simp_all
 ·simp[move,ask,askOn,solo,runnable_eq,due,ahead,Goroutine.canRun,List.range_succ,pure,h] at hs
  rw[← hs];simp[solo]
 ·simp[move,ask,askOn,solo,runnable_eq,due,ahead,Goroutine.canRun,List.range_succ,pure,h] at hs
  split at hs <;> rename_i heq <;> split at heq <;> simp_all
theorem E8{I:Machine→Prop}{m m':Machine}(h:StepsIn I P m m'):∀ {g:Goroutine} {w:World},m=solo g w→(g.status=.blocked∨g.status=.waiting∨g.status=.finished)→m'=solo g w:=by
 induction h with
 | refl m=>intro g w e _;exact e
 | head hI hs _ ih=>
   intro g w e hd
   subst e
   exact ih (mZ hd hs) hd
theorem yM{g g':Goroutine}{w w':World}(h:solo g w=solo g' w'):g=g'∧w=w':=by
 have h1:=congrArg Machine.gs h
 have h2:=congrArg Machine.world h
 exact⟨Array.singleton_inj.1 h1,h2⟩
theorem jJ{I:Machine→Prop}{Fc:Fence}(hI:∀m,I m→m.fenced P Fc)(hal:Fc.alive=true){g:Goroutine}{w v:World}{fr:Frame}{cs:List Frame}(hd:Dead g)(h:StepsIn I P (solo g w) (solo (G fr cs) v)):False:=by
 rcases hd with hd|hd
 ·generalize hm:solo g w=m at h
  generalize hm':solo (G fr cs) v=m' at h
  cases h with
  | refl=>
    subst hm'
    have e:=(yM hm).1
    subst e
    exact hd rfl
  | head hI0 _ _=>
    subst hm
    have:=(hI _ hI0 g (by simp[solo])).1 hal
    rw[Option.isNone_iff_eq_none] at this
    exact hd this
 ·have e:=E8 h rfl hd
  have e:=(yM e).1
  subst e
  rcases hd with hd|hd|hd <;> cases hd
theorem aV{a:Goroutine}{w w':World}{o:Outcome}{es:Array Event}(h:stepG P true a w=.ended o w' es):(runT P (solo a w) 0).1=.ended o w':=by
 simp[runT,solo,Array.swapAt!,Array.swapAt,h,GStep.es]
section
variable{gs:Array Goroutine}{w w1:World}{sl:Option (Nat × Nat)}{g g2:Goroutine}{es:Array Event}{cases:Array CommCase}{b:Bool}{shape:CommShape}
theorem Pg(hi:gs[0]? =some g)(h:stepG P true g w=.comm g2 cases b shape w1 es)(hx:cases.any (illMade w1)=true):∃o w',(runT P (crowd gs w sl) 0).1=.ended o w':=by
 rw[runT_crowd_comm (i:=0) hi h]
 unfold communicate
 dsimp only
 rw[if_pos]
 ·exact⟨_,_,rfl⟩
 ·exact hx
theorem jV(ho:kT gs)(r:Nat)(send:Bool):partners (gs.setIfInBounds 0 ph) r send=[]:=
 partners_nil fun j g hj=>by
  rcases getElem?_stand gs 0 j g hj with⟨_,rfl⟩|⟨hne,hg⟩
  ·exact offersAt_ph r send
  ·refine offersAt_of_not_blocked (fun e=>?_) r send
   rcases ho j g zo hg with h|h <;> rw[h] at e <;> cases e
end
theorem q9{gs:Array Goroutine}{w w1:World}{sl:Option (Nat × Nat)}{g:Goroutine}{fr:Frame}{cs:List Frame}{es:Array Event}{ch z:Value}{ok:Bool}
 (hi:gs[0]? =some g)(ho:kT gs)(h:stepG P true g w=.comm (G fr cs) #[⟨ch,none,z⟩] true (.recv ok) w1 es):
 (∃o w',(runT P (crowd gs w sl) 0).1=.ended o w')∨
 (∃g' ops,g'.status=.blocked∧runT P (crowd gs w sl) 0=(.next (crowd (gs.setIfInBounds 0 g') w1 sl),ops))∨
 (∃r cap buf closed s q tm,ch=.chan (some r)∧w1.heap[r]? =some (.chan cap buf closed s q tm)∧(0<buf.size∨buf=#[]∧closed=true)):=by
 have wait:illMade w1 ⟨ch,none,z⟩=false→ways w1 (gs.setIfInBounds 0 ph) ⟨ch,none,z⟩=[]→∃g' ops,g'.status=.blocked∧runT P (crowd gs w sl) 0=(.next (crowd (gs.setIfInBounds 0 g') w1 sl),ops):=fun h1 h2=>
  ⟨_,_,rfl,crowd_waits (i:=0) hi h fun cc hcc=>by
    obtain rfl:cc=⟨ch,none,z⟩:=by simpa using hcc
    exact⟨h1,h2⟩⟩
 have ill:illMade w1 ⟨ch,none,z⟩=true→∃o w',(runT P (crowd gs w sl) 0).1=.ended o w':=fun h1=>Pg hi h (by simp[h1])
 cases ch with
 | chan c=>
   cases c with
   | none=>exact .inr (.inl (wait rfl rfl))
   | some r=>
     cases hr:w1.heap[r]? with
     | none=>exact .inl (ill (by simp[illMade,hr]))
     | some x=>
       cases x with
       | chan cap buf closed s q tm=>
         by_cases hb:0<buf.size
         ·exact .inr (.inr ⟨r,cap,buf,closed,s,q,tm,rfl,hr,.inl hb⟩)
         ·have hb0:buf=#[]:=Array.eq_empty_of_size_eq_zero zo
          cases closed with
          | true=>exact .inr (.inr ⟨r,cap,buf,true,s,q,tm,rfl,hr,.inr ⟨hb0,rfl⟩⟩)
          | false=>exact .inr (.inl (wait (by simp[illMade,hr]) (by subst hb0;simp[ways,hr,jV ho])))
       | _=>exact .inl (ill (by simp[illMade,hr]))
 | _=>exact .inl (ill (by simp[illMade]))
def LK(ok:Bool)(z:Value)(buf:Array Value):Value:=recvd ok (if 0<buf.size then buf.getD 0 undef else z) (decide (0<buf.size))
def lX(w:World)(r cap:Nat)(buf:Array Value)(closed:Bool)(s q:Nat)(tm:Bool):World:=if 0<buf.size then w.setChan r cap (buf.extract 1 buf.size) closed s (q+1) tm else w
section
variable{w v:World}{r cap s q:Nat}{buf:Array Value}{closed tm:Bool}
theorem fJ:(lX w r cap buf closed s q tm).drawn=w.drawn∧(lX w r cap buf closed s q tm).tape=w.tape:=by unfold lX;split <;> exact⟨rfl,rfl⟩
theorem ET(h:Lv Z w)(hz:¬ Z r):Lv Z (lX w r cap buf closed s q tm):=by
 unfold lX
 split
 ·exact h.set hz trivial
 ·exact h
theorem IJ{K:Nat→Option Obj}(hz:¬ Z r)(h:p8 Z K w v):p8 Z K (lX w r cap buf closed s q tm) (lX v r cap buf closed s q tm):=by
 unfold lX
 split
 ·exact h.set hz _
 ·exact h
end
theorem uM{gs:Array Goroutine}{w w1:World}{sl:Option (Nat × Nat)}{g:Goroutine}{fr:Frame}{cs:List Frame}{es:Array Event}{z:Value}{ok:Bool}{r cap s q:Nat}{buf:Array Value}{closed tm:Bool}
 (hi:gs[0]? =some g)(ho:kT gs)(h:stepG P true g w=.comm (G fr cs) #[⟨.chan (some r),none,z⟩] true (.recv ok) w1 es)(hc:w1.heap[r]? =some (.chan cap buf closed s q tm))(hb:0<buf.size∨buf=#[]∧closed=true):
 ∃ops,(∀op∈ops,op.g=0∧op.act.touch?=none∧∀m,op.act≠.mark m)∧runT P (crowd gs w sl) 0=(.next (crowd (gs.setIfInBounds 0 (G (fr.finish (LK ok z buf)) cs)) (lX w1 r cap buf closed s q tm) sl),
  MemOp.ofEvents 0 g.frame.fn g.frame.place es ++ ops):=by
 rcases hb with hb|⟨rfl,rfl⟩
 ·have e:=crowd_recv_buf (P:=P) (sl:=sl) (i:=0) (z:=z) hi h hc hb (jV ho r true)
  rw[finishComm_recv] at e
  simp only[LK,lX,if_pos hb,decide_eq_true hb]
  exact⟨_,by simp[MemAct.touch?],e⟩
 ·have e:=crowd_recv_closed (P:=P) (sl:=sl) (i:=0) (z:=z) hi h hc (jV ho r true)
  rw[finishComm_recv] at e
  exact⟨_,by simp[MemAct.touch?],e⟩
theorem jX{fn:FuncId}{pos:String}{es:Array Event}(h:∀e∈es,FV Z e):∀op∈MemOp.ofEvents 0 fn pos es,Xx Z op:=fun op hop=>by
 obtain⟨e,he,rfl⟩:=Go.Conc.mem_ofEvents hop
 obtain⟨loc,wr,sy⟩:=e
 refine⟨rfl,?_,fun x hx=>?_,fun a=>?_⟩
 ·rcases h _ he with(h|h)|⟨a,h,hz⟩|⟨r,h,hz⟩ <;> simp only at h <;> subst h <;> cases wr <;> cases sy <;> simp[MemAct.ofEvent]
 ·rcases h _ he with(h|h)|⟨a,h,hz⟩|⟨r,h,hz⟩
  ·simp only at h
   subst h
   cases hx
  ·simp only at h
   subst h
   simp only[MemAct.ofEvent,MemAct.touch?,Option.some.injEq] at hx
   subst hx
   exact .inr (.inr rfl)
  ·simp only at h
   subst h
   simp only[MemAct.ofEvent,MemAct.touch?,Option.some.injEq] at hx
   subst hx
   exact .inl ⟨a,rfl,hz⟩
  ·simp only at h
   subst h
   cases wr <;> cases sy <;> simp only[MemAct.ofEvent,MemAct.touch?,Option.some.injEq] at hx <;> first|cases hx;done|(subst hx;exact .inr (.inl ⟨r,rfl,hz⟩))
 ·rcases h _ he with(h|h)|⟨a,h,hz⟩|⟨r,h,hz⟩ <;> simp only at h <;> subst h <;> cases wr <;> cases sy <;> simp[MemAct.ofEvent]
theorem rD{I:Machine→Prop}{m m':Machine}(h:StepsIn I P m m'):m.gs.size≤m'.gs.size:=by
 induction h with
 | refl=>exact zL
 | head _ hs _ ih=>exact Nat.le_trans (stepT_size P _ _ _ hs) ih
theorem Ny{Fc:Fence}(S:kE P Fc.fn Z){I:Machine→Prop}(hI:∀m,I m→m.fenced P Fc)(hal:Fc.alive=true){a:Pt}(ok:a.Ok P Fc.fn Z){m1:Machine}{fr':Frame}{cs':List Frame}{v':World}(hI0:I a.m)(hs:step P a.m=.next m1)
 (hp:StepsIn I P m1 (solo (G fr' cs') v')):∃b,m1=b.m∧qe P Fc.fn Z a b:=by
 have hsl:=yR S ok.fr ok.cs ok.lv (fun f hf=>(hI _ hI0 (G a.fr a.cs) (by simp[Pt.m,solo])).2.2.1 f hf)
 rw[Pt.m,step,stepT_solo rfl] at hs
 unfold SL at hsl
 dsimp only at hsl
 cases hgw:stepG P true (G a.fr a.cs) a.w with
 | go g' w' es=>
   rw[hgw] at hsl
   rw[runT_solo_go hgw] at hs
   cases hs
   rcases hsl with hd|⟨⟨Ru,cs2,rfl,h1,h2⟩,n,M⟩
   ·exact(jJ hI hal hd hp).elim
   refine⟨⟨Ru,cs2,w'⟩,rfl,⟨h1,h2,M.2.2.1⟩,M.2.1,n,M.1,fun gs v sl h0 ho jT hag=>?_⟩
   obtain⟨v1,e1,s1,d1,t1⟩:=M.2.2.2.2 v jT hag
   have hlt:0<gs.size:=(Array.getElem?_eq_some_iff.1 h0).1
   refine⟨_,v1,_,runT_crowd_go (i:=0) h0 e1,zs,by simp[hlt],fun i hi=>?_,s1,d1,t1,jX M.2.2.2.1⟩
   rw[Array.getElem?_setIfInBounds_ne zo,Array.getElem?_map]
   cases hg:gs[i]? with
   | none=>rfl
   | some g=>
     have:woken P (G a.fr a.cs) (G Ru cs2) v1 g=g:=by
      unfold woken
      split
      ·exact again_running _ (ho i g hi hg)
      ·rfl
     simp[this]
 | comm g' cases b sh w' es=>
   rw[hgw] at hsl
   obtain⟨⟨Ru,cs2,rfl,h1,h2⟩,⟨rfl,⟨ch,send,z⟩,UU,rfl,hsend,rfl⟩,n,M⟩:=hsl
   simp only at hsend
   subst hsend
   have ho1:kT #[G a.fr a.cs]:=fun i g hi hg=>by
    rw[Array.getElem?_eq_none zm] at hg;cases hg
   rw[solo_eq_crowd] at hs
   rcases q9 (P:=P) (gs:=#[G a.fr a.cs]) (sl:=none) rfl ho1 hgw with⟨o,w2,e⟩|⟨g',ops,hg',e⟩|⟨r,cap,buf,closed,s,q,tm,rfl,hc,hb⟩
   ·rw[e] at hs;cases hs
   ·rw[e] at hs
    cases hs
    exact(jJ (g:=g') hI hal (.inr (.inl hg')) hp).elim
   ·have hnz:¬ Z r:=fun hz=>by
     have:=M.2.2.1.dead r hz
     rw[this] at hc
     simp[X0] at hc
    obtain⟨ops,_,e⟩:=uM (P:=P) (gs:=#[G a.fr a.cs]) (sl:=none) rfl ho1 hgw hc hb
    rw[e] at hs
    simp only[Stepped.next.injEq] at hs
    refine⟨⟨Ru.finish (LK UU z buf),cs2,lX w' r cap buf closed s q tm⟩,hs.symm,⟨h1.finish _,h2,ET M.2.2.1 hnz⟩,fJ.2.trans M.2.1,n,fJ.1.trans M.1,fun gs v sl h0 ho jT hag=>?_⟩
    obtain⟨v1,e1,s1,d1,t1⟩:=M.2.2.2.2 v jT hag
    have hlt:0<gs.size:=(Array.getElem?_eq_some_iff.1 h0).1
    obtain⟨ops,hops,e⟩:=uM (P:=P) (gs:=gs) (sl:=sl) h0 ho e1 ((s1.same r hnz).trans hc) hb
    refine⟨_,_,_,e,zs,by simp[hlt],fun i hi=>Array.getElem?_setIfInBounds_ne zo,IJ hnz s1,fJ.1.trans d1,fJ.2.trans t1,fun op hop=>?_⟩
    rcases Array.mem_append.1 hop with hop|hop
    ·exact jX M.2.2.2.1 op hop
    ·obtain⟨k1,k2,k3⟩:=hops op hop
     exact⟨k1,⟨k3 _,k3 _⟩,fun x hx=>(by rw[k2] at hx;cases hx),fun a=>k3 _⟩
 | ended o w' es=>
   rw[aV hgw] at hs
   cases hs
 | spawn g' child w' es=>
   exfalso
   have h1:=rD (P:=P) hp
   rw[runT_solo_spawn hgw] at hs
   cases hs
   simp[solo,duo] at h1
 | _=>rw[hgw] at hsl;exact hsl.elim
end
section
open Go.Conc
variable{P:Program}{Z:Env}
def SC(P:Program)(Fc:Fence)(St:Frame→List Frame→Prop)(m:Machine):Prop:=m.fenced P Fc∧∀fr cs,m.gs[0]? =some (G fr cs)→¬ St fr cs
def Way(P:Program)(Fc:Fence)(St:Frame→List Frame→Prop)(Post:Pt→Prop)(a:Pt):Prop:=∃b:Pt,StepsIn (SC P Fc St) P a.m b.m∧St b.fr b.cs∧Post b
structure lK(P:Program)(Fc:Fence)(Z:Env)(St:Frame→List Frame→Prop)(b a:Pt):Prop where
 ok:a.Ok P Fc.fn Z
 not:¬ St a.fr a.cs
 more:∃τ:Tape,(∀j,j<a.w.drawn→τ j=a.w.tape j)∧step P (a.on τ).m=.next b.m∧qe P Fc.fn Z (a.on τ) b
inductive SH (P:Program) (Fc:Fence) (Z:Env) (St:Frame→List Frame→Prop) (s0:Pt):Pt→Prop
 | refl:SH P Fc Z St s0 s0
 | step {a b:Pt}:SH P Fc Z St s0 a→lK P Fc Z St b a→SH P Fc Z St s0 b
section
variable{Fc:Fence}{St:Frame→List Frame→Prop}{Post:Pt→Prop}
theorem LJ{a b:Pt}(h:a.m=b.m):a=b:=by
 obtain⟨h1,h2⟩:=yM h
 obtain⟨fr,cs,w⟩:=a
 obtain⟨fr',cs',w'⟩:=b
 have e1:fr=fr':=congrArg Goroutine.frame h1
 have e2:cs=cs':=congrArg Goroutine.callers h1
 have e3:w=w':=h2
 rw[e1,e2,e3]
theorem Pt.Ok.on{a:Pt}(h:a.Ok P Fc.fn Z)(σ:Tape):(a.on σ).Ok P Fc.fn Z:=⟨h.fr,h.cs,⟨h.lv.dead,h.lv.live⟩⟩
theorem Way.first(S:kE P Fc.fn Z)(hal:Fc.alive=true){a:Pt}(ok:a.Ok P Fc.fn Z)(h:Way P Fc St Post a):(St a.fr a.cs∧Post a)∨(¬ St a.fr a.cs∧∃b,step P a.m=.next b.m∧qe P Fc.fn Z a b∧Way P Fc St Post b):=by
 obtain⟨c,hp,hs,hpost⟩:=h
 generalize hm:a.m=m at hp
 generalize hm':c.m=m' at hp
 cases hp with
 | refl=>
   subst hm'
   obtain rfl:=LJ hm
   exact .inl ⟨hs,hpost⟩
 | head hI hst hp=>
   subst hm
   subst hm'
   refine .inr ⟨hI.2 _ _ (by simp[Pt.m,solo]),?_⟩
   obtain⟨b,rfl,hn⟩:=Ny S (fun m h=>h.1) hal ok hI hst hp
   exact⟨b,hst,hn,c,hp,hs,hpost⟩
theorem qe.drawn{F:FuncId→Prop}{a b:Pt}(h:qe P F Z a b):a.w.drawn≤b.w.drawn:=by
 obtain⟨_,_,n,h,_⟩:=h
 omega
theorem Bn{g g2:Goroutine}{gs2:Array Goroutine}{w v2:World}{sl:Option (Nat × Nat)}(h:crowd gs2 v2 sl=solo g w)(hg:gs2[0]? =some g2):g2=g∧v2=w:=by
 have h1:=congrArg Machine.gs h
 have h2:=congrArg Machine.world h
 simp only[crowd,solo] at h1 h2
 subst h1
 exact⟨by simpa using hg.symm,h2⟩
theorem Dk{F:FuncId→Prop}{a b b':Pt}{τ σ:Tape}(ha:a.Ok P F Z)(h:qe P F Z (a.on τ) b)(hσ:∀j,j<b.w.drawn→σ j=b.w.tape j)(hs:step P (a.on σ).m=.next b'.m)(hl:Lv Z b'.w):b'=b.on σ:=by
 obtain⟨hb,ht,n,hd,hc⟩:=h
 obtain⟨gs2,v2,ops,e,hsz,h0,_,s2,d2,t2,_⟩:=hc #[G a.fr a.cs] {a.w with tape:=σ } none rfl (fun i g hi hg=>by
  rw[Array.getElem?_eq_none zm] at hg;cases hg) (K:=fun _=>none) ⟨rfl,fun _ _=>rfl,rfl,rfl,fun _ _ _ hk _=>by cases hk⟩ (fun k hk q=>by
   show σ (a.w.drawn+k) q=τ (a.w.drawn+k) q
   have hd':b.w.drawn=a.w.drawn+n:=hd
   rw[hσ _ zo,ht]
   rfl)
 rw[step,Pt.m,stepT_solo rfl,solo_eq_crowd] at hs
 have hs':(runT P (crowd #[G a.fr a.cs] {a.w with tape:=σ } none) 0).1=.next b'.m:=hs
 rw[e] at hs'
 simp only[Stepped.next.injEq] at hs'
 obtain⟨e1,e2⟩:=Bn hs' h0
 obtain⟨fr,cs,w'⟩:=b'
 have f1:b.fr=fr:=congrArg Goroutine.frame e1
 have f2:b.cs=cs:=congrArg Goroutine.callers e1
 simp only at e2 hl
 subst e2
 have hh:v2.heap=b.w.heap:=by
  apply Array.ext_getElem?
  intro i
  by_cases hz:Z i
  ·rw[hl.dead i hz,hb.lv.dead i hz]
  ·exact s2.same i hz
 obtain⟨heap,tape,drawn,os,output⟩:=v2
 have q1:=s2.os
 have q2:=s2.output
 simp only at hh d2 t2 q1 q2
 unfold Pt.on
 rw[f1,f2]
 congr 1
 rw[hh,q1,q2,t2,d2]
 congr 1
 exact hd.symm
theorem Am(S:kE P Fc.fn Z)(hal:Fc.alive=true){s0:Pt}(H:∀σ:Tape,Way P Fc St Post (s0.on σ)):
 ∀ {u:Pt},SH P Fc Z St s0 u→∀σ:Tape,(∀j,j<u.w.drawn→σ j=u.w.tape j)→Way P Fc St Post (u.on σ):=by
 intro u h
 induction h with
 | refl=>intro σ _;exact H σ
 | @step a b _ hs ih=>
   intro σ hσ
   obtain⟨τ,hτ,hst,hn⟩:=hs.more
   have hmono:a.w.drawn≤b.w.drawn:=hn.drawn
   rcases(ih σ fun j hj=>by
    rw[hσ j zo,hn.2.1]
    exact hτ j hj).first S hal (hs.ok.on σ) with⟨h1,_⟩|⟨_,b',hst',hn',hw⟩
   ·exact absurd h1 hs.not
   ·rw[← Dk hs.ok hn hσ hst' hn'.1.lv]
    exact hw
theorem JW(S:kE P Fc.fn Z)(hal:Fc.alive=true){s0:Pt}(H:∀σ:Tape,Way P Fc St Post (s0.on σ)):Acc (lK P Fc Z St) s0:=by
 refine Classical.byContradiction fun hn=>?_
 have next:∀a:{a:Pt // ¬ Acc (lK P Fc Z St) a },∃b:{a:Pt // ¬ Acc (lK P Fc Z St) a },lK P Fc Z St b.1 a.1:=fun a=>by
  refine Classical.byContradiction fun h=>a.2 ⟨a.1,fun b hb=>Classical.byContradiction fun hb2=>h ⟨⟨b,hb2⟩,hb⟩⟩
 let f:Nat→{a:Pt // ¬ Acc (lK P Fc Z St) a }:=fun n=>Nat.rec ⟨s0,hn⟩ (fun _ a=>Classical.choose (next a)) n
 have hf:∀i,lK P Fc Z St (f (i+1)).1 (f i).1:=fun i=>Classical.choose_spec (next (f i))
 have mono:∀i,(f i).1.w.drawn≤(f (i+1)).1.w.drawn:=fun i=>by
  obtain⟨τ,_,_,hn⟩:=(hf i).more
  exact hn.drawn
 have Vp:∀i j,j<(f i).1.w.drawn→(f (i+1)).1.w.tape j=(f i).1.w.tape j:=fun i j hj=>by
  obtain⟨τ,hτ,_,hn⟩:=(hf i).more
  rw[hn.2.1];exact hτ j hj
 have mono':∀i k,(f i).1.w.drawn≤(f (i+k)).1.w.drawn:=fun i k=>by
  induction k with
  | zero=>exact zL
  | succ k ih=>exact Nat.le_trans ih (mono (i+k))
 have same:∀i k j,j<(f i).1.w.drawn→(f (i+k)).1.w.tape j=(f i).1.w.tape j:=fun i k j hj=>by
  induction k with
  | zero=>rfl
  | succ k ih=>exact(Vp (i+k) j (Nat.lt_of_lt_of_le hj (mono' i k))).trans ih
 classical
 let σ:Tape:=fun j=>if h:∃i,j<(f i).1.w.drawn then(f (Classical.choose h)).1.w.tape j else fun _=>0
 have hσ:∀i j,j<(f i).1.w.drawn→σ j=(f i).1.w.tape j:=fun i j hj=>by
  have hx:∃i,j<(f i).1.w.drawn:=⟨i,hj⟩
  have e:σ j=(f (Classical.choose hx)).1.w.tape j:=dif_pos hx
  rw[e]
  have hc:=Classical.choose_spec hx
  generalize Classical.choose hx=c at hc
  rcases Nat.le_total c i with l|l
  ·obtain⟨k,rfl⟩:=Nat.exists_eq_add_of_le l
   exact(same c k j hc).symm
  ·obtain⟨k,rfl⟩:=Nat.exists_eq_add_of_le l
   exact same i k j hj
 obtain⟨c,hp,hs,_⟩:=H σ
 have key:∀ {m m':Machine},StepsIn (SC P Fc St) P m m'→m'=c.m→∀i,m=((f i).1.on σ).m→False:=by
  intro m m' h
  induction h with
  | refl m=>
    rintro rfl i e
    have:=LJ e
    subst this
    exact(hf i).not hs
  | @head m m1 m2 hI hst hp ih=>
    rintro rfl i rfl
    obtain⟨b',rfl,hn'⟩:=Ny S (fun m h=>h.1) hal ((hf i).ok.on σ) hI hst hp
    obtain⟨τ,hτ,_,hn⟩:=(hf i).more
    have:=Dk (hf i).ok hn (hσ (i+1)) hst hn'.1.lv
    exact ih rfl (i+1) (by rw[this])
 exact key hp rfl 0 rfl
end
end
section
open Go.Conc Go.ConcN Go.aP
open Go.ConcR (g_of_ofEvents)
variable[Inhabited bZ.aT]{P:Program}{Z:Env}
section
variable{Shun:Loc→Prop}{t u:Trace}
theorem Cn(h:After Shun t)(hS:∀l,Shun l→¬ FY Z l)(hu:∀op∈u,Xx Z op):After Shun (t ++ u):=by
 have h0:∀op∈u,op.g=0:=fun op hop=>(hu op hop).1
 refine⟨fun said=>noRace_append (h.clean said) h0 fun i a ha op hop x hx hc=>?_,fun i a ha hm=>?_,handedOver_app h.over fun op hop=>.inl (h0 op hop),?_⟩
 ·rcases h.known i a ha hc.2.1 with hk|⟨h1,h2⟩
  ·exact hk
  ·exact absurd ((hu op hop).2.2.1 x hx) (hS _ (hc.1 ▸ h1))
 ·obtain⟨op,hop,hx⟩:=touch_of ha
  rcases getElem?_append_cases hop with⟨hi,hop'⟩|⟨_,hopu⟩
  ·rcases h.known i a (by rw[touchAt_of hop'];exact hx) hm with hk|hk
   ·exact .inl (hk.app _)
   ·exact .inr hk
  ·have:=knows_own hop
   rw[h0 op hopu] at this
   exact .inl this
 ·rw[Deaf_still t 0 u fun op hop=>(hu op hop).2.1];exact h.hears
end
theorem Qf{gs:Array Goroutine}{t:Trace}{q:Nat→Nat}(h:Leavers P t gs q):kT gs:=fun i g hi hg=>(h.old i g hi hg).status
theorem uq{gs:Array Goroutine}{a:Goroutine}{t:Trace}{q:Nat→Nat}(h0:gs[0]? =some a)(hrun:a.status=.running)(h:Leavers P t gs q):∀g∈gs,awake g:=by
 intro g hg
 obtain⟨i,hi⟩:=Array.mem_iff_getElem?.1 hg
 rcases Nat.eq_zero_or_pos i with rfl|hpos
 ·rw[h0] at hi;cases hi;exact awake_of (.inl hrun)
 ·exact awake_of ((h.old i g hpos hi).status.elim .inl fun x=>.inr (.inr x))
theorem nW{gs:Array Goroutine}{a:Goroutine}{t:Trace}{q:Nat→Nat}{Shun:Loc→Prop}{w:World}{sl:Option (Nat × Nat)}(h0:gs[0]? =some a)(hrun:a.status=.running)(hL:Leavers P t gs q)(hA:After Shun t)
 {i:Nat}{g:Goroutine}(hi:gs[i]? =some g)(hg:g.status=.running)(hpos:0<i):
 ∃gs' ops q',runT P (crowd gs w sl) i=(.next (crowd gs' w sl),ops)∧gs'.size=gs.size∧gs'[0]? =some a∧Leavers P (t ++ ops) gs' q'∧After Shun (t ++ ops)∧sumTo gs.size q'<sumTo gs.size q:=by
 have hq:=hL.old i g hpos hi
 have hi0:(i == 0)=false:=zm
 have hlt:i<gs.size:=(Array.getElem?_eq_some_iff.1 hi).1
 cases hqi:q i with
 | zero=>rw[hqi] at hq;rw[hq.1] at hg;cases hg
 | succ k=>
   rw[hqi] at hq
   rcases hq with⟨hf,_⟩|⟨_,g',es,hm,hstp,hq'⟩
   ·rw[hf] at hg;cases hg
   have hr:=runT_crowd_go (P:=P) (w:=w) (sl:=sl) (i:=i) hi (by rw[hi0];exact hstp w)
   have hsum:sumTo gs.size (upd q i k)+(k+1)=sumTo gs.size q+k:=by
    have:=sumTo_upd q k id hlt
    simpa [hqi] using this
   refine⟨_,_,upd q i k,hr,zs,?_,⟨fun j x hj hx=>?_,fun j hj=>?_⟩,hA.mute zo hm,?_⟩
   ·rw[Array.getElem?_setIfInBounds_ne zo,Array.getElem?_map,h0]
    simp[woken_run hrun]
   ·by_cases e:i=j
    ·subst e
     rw[Array.getElem?_setIfInBounds_self_of_lt (by simpa using hlt)] at hx
     cases hx
     rw[upd_same,Deaf_own]
     exact hq'
    ·rw[Array.getElem?_setIfInBounds_ne e,Array.getElem?_map] at hx
     obtain⟨y,hy,rfl⟩:=Option.map_eq_some_iff.1 hx
     have hqj:=hL.old j y hj hy
     rw[woken_quitsD hqj,upd_ne q k (Ne.symm e),Deaf_other t e _ g_of_ofEvents]
     exact hqj
   ·rw[Deaf_other t (g':=i) (by simp at hj;omega) _ g_of_ofEvents]
    exact hL.above j (by simpa using hj)
   ·omega
section
variable{Fc:Fence}{St:Frame→List Frame→Prop}{Post:Pt→Prop}{Shun:Loc→Prop}
theorem Mq(S:kE P Fc.fn Z)(hal:Fc.alive=true)(hS:∀l,Shun l→¬ FY Z l){K:Nat→Option Obj}{s0:Pt}(H:∀σ:Tape,Way P Fc St Post (s0.on σ)):
 ∀ (b:Pt),Acc (lK P Fc Z St) b→b.Ok P Fc.fn Z→SH P Fc Z St s0 b→∀ (M:Nat) (gs:Array Goroutine) (v:World) (sl:Option (Nat × Nat)) (t:Trace) (q:Nat→Nat),sumTo gs.size q=M→gs[0]? =some (G b.fr b.cs)→p8 Z K b.w v→Leavers P t gs q→After Shun t→
   ∃ (N:Nat) (gs':Array Goroutine) (b':Pt) (v':World) (sl':Option (Nat × Nat)) (t':Trace) (q':Nat→Nat),
     runNT P N (crowd gs v sl) t=(.next (crowd gs' v' sl'),t')∧gs'.size=gs.size∧gs'[0]? =some (G b'.fr b'.cs)∧St b'.fr b'.cs∧Post b'∧b'.Ok P Fc.fn Z∧p8 Z K b'.w v'∧Leavers P t' gs' q'∧After Shun t':=by
 intro b hacc
 induction hacc with
 | intro b _ ihb=>
   intro ok hR M
   induction M using Nat.strongRecOn with
   | _ M ihM=>
     intro gs v sl t q hM h0 jT hL hA
     by_cases hst:St b.fr b.cs
     ·have hw:=Am S hal H hR b.w.tape fun _ _=>rfl
      rcases hw.first S hal (ok.on _) with⟨_,hp⟩|⟨h1,_⟩
      ·exact⟨0,gs,b,v,sl,t,q,rfl,rfl,h0,hst,hp,ok,jT,hL,hA⟩
      ·exact absurd hst h1
     obtain⟨i,g,d,sl',hi,hg,hpick⟩:=crowd_pick (P:=P) (w:=v) (sl:=sl) (uq h0 rfl hL) ⟨0,_,h0,rfl⟩
     rcases Nat.eq_zero_or_pos i with rfl|hpos
     ·let σ:Tape:=fun j=>if j<b.w.drawn then b.w.tape j else(v.at d).tape ((v.at d).drawn+(j - b.w.drawn))
      have hσ:∀j,j<b.w.drawn→σ j=b.w.tape j:=fun j hj=>if_pos hj
      rcases(Am S hal H hR σ hσ).first S hal (ok.on σ) with⟨h1,_⟩|⟨_,b',hstp,hn,hw⟩
      ·exact absurd h1 hst
      have hs:lK P Fc Z St b' b:=⟨ok,hst,σ,hσ,hstp,hn⟩
      obtain⟨hb',ht,n,hd,hc⟩:=hn
      obtain⟨gs2,v2,ops,e,hsz,hz,hrest,s2,d2,t2,hops⟩:=hc gs (v.at d) sl' h0 (Qf hL) ⟨jT.size,jT.same,jT.os,jT.output,jT.kept⟩ (fun k hk z=>by
       show(v.at d).tape ((v.at d).drawn+k) z=σ (b.w.drawn+k) z
       simp only[σ]
       rw[if_neg zo,Nat.add_sub_cancel_left])
      have hL2:Leavers P (t ++ ops) gs2 q:=⟨fun j x hj hx=>by
       rw[hrest j hj] at hx
       rw[Deaf_other t (g:=j) (g':=0) zo _ fun op hop=>(hops op hop).1]
       exact hL.old j x hj hx,fun j hj=>by
       have hpos:0<gs2.size:=(Array.getElem?_eq_some_iff.1 hz).1
       rw[Deaf_other t (g:=j) (g':=0) zo _ fun op hop=>(hops op hop).1]
       exact hL.above j zo⟩
      obtain⟨N,gs',b2,v',sl2,t',q',hr,x1,x2,x3,x4,x5,x6,x7,x8⟩:=ihb b' hs hb' (.step hR hs) _ gs2 v2 sl' (t ++ ops) q rfl hz s2 hL2 (Cn hA hS hops)
      exact⟨N+1,gs',b2,v',sl2,t',q',by simp only[runNT,hpick,e];exact hr,x1.trans hsz,x2,x3,x4,x5,x6,x7,x8⟩
     ·obtain⟨gs2,ops,q2,e,hsz,hz,hL2,hA2,hlt⟩:=nW (w:=v.at d) (sl:=sl') h0 rfl hL hA hi hg hpos
      obtain⟨N,gs',b2,v',sl2,t',q',hr,x1,x2,x3,x4,x5,x6,x7,x8⟩:=ihM _ (by rw[hsz];omega) gs2 (v.at d) sl' (t ++ ops) q2 rfl hz ⟨jT.size,jT.same,jT.os,jT.output,jT.kept⟩ hL2 hA2
      exact⟨N+1,gs',b2,v',sl2,t',q',by simp only[runNT,hpick,e];exact hr,x1.trans hsz,x2,x3,x4,x5,x6,x7,x8⟩
end
theorem Ky{Shun:Loc→Prop}{Post:Value→World→Prop}{a:Goroutine}(hrun:a.status=.running)(hS:∀l,Shun l→¬ FY Z l){v:World}(hend:∀d,∃r es,stepG P true a (v.at d)=.ended (.done r) (v.at d) es∧(∀e∈es,FV Z e)∧Post r (v.at d)):
 ∀ (M d0:Nat) (gs:Array Goroutine) (sl:Option (Nat × Nat)) (t:Trace) (q:Nat→Nat),sumTo gs.size q=M→gs[0]? =some a→Leavers P t gs q→After Shun t→
   ∃N last o w' t',runNT P (N+1) (crowd gs (v.at d0) sl) t=(.ended o w',t')∧runN P N (crowd gs (v.at d0) sl)=.next last∧step P last=.ended o w'∧Good P Post last o w' t':=by
 intro M
 induction M using Nat.strongRecOn with
 | _ M ih=>
   intro d0 gs sl t q hM h0 hL hA
   obtain⟨i,g,d,sl',hi,hg,hpick⟩:=crowd_pick (P:=P) (w:=v.at d0) (sl:=sl) (uq h0 hrun hL) ⟨0,_,h0,hrun⟩
   rcases Nat.eq_zero_or_pos i with rfl|hpos
   ·obtain rfl:g=a:=by rw[h0] at hi;exact(Option.some.inj hi).symm
    obtain⟨r,es,he,hes,hpost⟩:=hend d
    have he':stepG P (0 == 0) g ((v.at d0).at d)=.ended (.done r) (v.at d) es:=he
    have e:=runT_many_ended (sl:=sl') hi he'
    have hA':After Shun (t ++ MemOp.ofEvents 0 g.frame.fn g.frame.place es):=Cn hA hS (jX hes)
    have hst:stepT P (crowd gs (v.at d0) sl)=(.ended (.done r) (v.at d),MemOp.ofEvents 0 g.frame.fn g.frame.place es):=hpick.trans e
    refine⟨0,crowd gs (v.at d0) sl,.done r,v.at d,t ++ MemOp.ofEvents 0 g.frame.fn g.frame.place es,by simp only[runNT,hst],rfl,by rw[step,hst],r,rfl,hpost,hA'.clean,hA'.over,⟨fun x hx=>?_,rfl⟩,fun j x hx hj=>?_⟩
    ·obtain⟨k,hk⟩:=List.mem_iff_getElem?.1 hx
     rw[List.getElem?_drop] at hk
     exact⟨_,(hL.old (1+k) x zo (by simpa [crowd] using hk)).leaves⟩
    ·refine⟨q j,?_⟩
     have e2:(t ++ MemOp.ofEvents 0 g.frame.fn g.frame.place es).deaf j (t ++ MemOp.ofEvents 0 g.frame.fn g.frame.place es).size=Deaf t j:=Deaf_other t (g:=j) (g':=0) zo _ g_of_ofEvents
     rw[e2]
     exact(hL.old j x zo hx).hears _
   ·obtain⟨gs2,ops,q2,e,hsz,hz,hL2,hA2,hlt⟩:=nW (w:=v.at d) (sl:=sl') h0 hrun hL hA hi hg hpos
    obtain⟨N,last,o,w',t',h1,h2,h3,h4⟩:=ih _ (by rw[hsz];omega) d gs2 sl' (t ++ ops) q2 rfl hz hL2 hA2
    have hst:stepT P (crowd gs (v.at d0) sl)=(.next (crowd gs2 (v.at d) sl'),ops):=hpick.trans e
    refine⟨N+1,last,o,w',t',by rw[runNT];simp only[hst];exact h1,?_,h3,h4⟩
    rw[← runNT_fst P _ _ t]
    simp only[runNT,hst]
    rw[runNT_fst];exact h2
end
end Go.dP
