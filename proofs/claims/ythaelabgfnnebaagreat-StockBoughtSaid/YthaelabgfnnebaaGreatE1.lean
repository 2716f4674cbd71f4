/- J0 J1 J2 J3 HT HE -/
import Derived.Test.YthaelabgfnnebaaGreatE0
import Derived.Test.YthaelabgfnnebaaGreatB5
set_option maxRecDepth 100000
set_option maxHeartbeats 16000000
set_option linter.unusedVariables false
set_option linter.unusedSectionVars false
open Go.IntKind(i64)
open Go.Lib(hid)
open Go.Proofs.Tryz
open Go.Value(int)
namespace Go.Proofs.YthaelabgfnnebaaGreat
section
open Go Go.Conc Go.ConcN Go.cu Go.Conc.Lib Go.aO Go.Sort Go.RowKit
variable[Inhabited aS]
abbrev Fd:Machine→Prop:=Machine.fenced prog FF
def KL(n cb:Nat)(bit:Nat→Bool)(w:World):Prop:=n<2147483648∧∃D:Nat→Prop,Closed D w∧D cb∧∃m:Nat,∀i:Nat,i<n→∀σ:Tape,CallsIn SF m prog 83 #[int i64 i,pt cb] (on (uU D w) σ) (fun e _=>e=.returned (.bool (bit i)))
def Via(m:Machine)(Fin:Machine→Prop):Prop:=∃ (n cb:Nat) (cs:List Frame) (w1:World) (bit:Nat→Bool),StepsIn Fd prog m (solo (G (kI n cb) cs) w1)∧KL n cb bit w1∧
 ∀ac:Act,eQ n (eZ cb) w1.heap.size ac→∀v:World,Behind n cb w1.heap.size bit w1 v→∀σ:Tape,∃m',StepsIn Fd prog ((⟨xO ac,cs,v⟩:dN.Pt).on σ).m m'∧Fin m'
theorem Via.from_{m m0:Machine}{Fin:Machine→Prop}(hs:StepsIn Fd prog m0 m)(h:Via m Fin):Via m0 Fin:=by
 obtain⟨n,cb,cs,w1,bit,h1,h2,h3⟩:=h
 exact⟨n,cb,cs,w1,bit,hs.trans h1,h2,h3⟩
theorem Via.on_{m:Machine}{Fin Fin':Machine→Prop}(h:Via m Fin)(hf:∀m',Fin m'→∃m2,StepsIn Fd prog m' m2∧Fin' m2):Via m Fin':=by
 obtain⟨n,cb,cs,w1,bit,h1,h2,h3⟩:=h
 refine⟨n,cb,cs,w1,bit,h1,h2,fun ac ha v hb σ=>?_⟩
 obtain⟨m',h4,h5⟩:=h3 ac ha v hb σ
 obtain⟨m2,h6,h7⟩:=hf m' h5
 exact⟨m2,h4.trans h6,h7⟩
def Left(f:FuncId)(cs:List Frame)(R:Value→World→Prop)(m:Machine):Prop:=∃v w' fr,R v w'∧m=lone fr cs w'∧fr.fn=f∧fr.leaving prog w' (.returned v)
def iM(f:FuncId)(args:Array Value)(w:World)(R:Value→World→Prop):Prop:=FF.fn f∧∀cs,Via (lone (Frame.enter prog f args .normal) cs w) (Left f cs R)
def DJ(R:Value→World→Prop):Ending→World→Prop:=fun e w=>∃v,e=.returned v∧R v w
section
variable{fn:Func}{R:Value→World→Prop}{ops:Array Oper}
def uR(Q:Exit→Act→World→Prop):List Code→Act→World→Prop
 | [],a,w=>Q .normal a w
 | c :: l,a,w=>c.wpIn FF 0 prog (Exit.then (uR Q l) Q) a w
theorem om{m:Machine}{b:Frame}{k:List Item}{cs:List Frame}{e:Exit}{a:Act}{w:World}:∀ (l:List Code),e≠.normal→ArrivesIn Fd prog m b (l.map Item.code ++ k) cs e a w→ArrivesIn Fd prog m b k cs e a w
 | [],_,h=>h
 | y :: l,he,h=>om l he (.pass (x:=.code y) rfl (fun _ _=>.inl he) h)
theorem Ao{Q:Exit→Act→World→Prop}:∀ (l:List Code) (a:Act) (w:World),uR Q l a w→∀ (b:Frame) (k:List Item) (cs:List Frame),b.roundOf=none→FF.fn b.fn→
 ∃e a' w',Q e a' w'∧ArrivesIn Fd prog (lone (b.atR a (l.map Item.code ++ k)) cs w) b k cs e a' w'
 | [],a,w,h,b,k,cs,_,_=>⟨.normal,a,w,h,.refl _⟩
 | c :: l,a,w,h,b,k,cs,hb,hf=>by
   obtain⟨e,a1,w1,hq,harr⟩:=h b (l.map Item.code ++ k) cs hb hf (bJ _)
   cases e with
   | normal=>
     obtain⟨e2,a2,w2,hq2,Lh⟩:=Ao l a1 w1 hq b k cs hb hf
     exact⟨e2,a2,w2,hq2,.of_steps harr Lh⟩
   | exit id=>exact⟨_,a1,w1,hq,om l zs harr⟩
   | goto t=>exact⟨_,a1,w1,hq,om l zs harr⟩
   | ret=>exact⟨_,a1,w1,hq,om l zs harr⟩
   | panic ch=>exact⟨_,a1,w1,hq,om l zs harr⟩
   | outgrown=>exact⟨_,a1,w1,hq,om l zs harr⟩
theorem Bo{l:List Code}{rest:List Nat}{a:Act}{w:World}(h:wpOpsIn FF 0 prog ops (Exit.then (uR (bodyPost prog fn (DJ R)) l) (bodyPost prog fn (DJ R))) rest a w)(b:Frame)(cs:List Frame)(hb:b.roundOf=none)(hk:b.kind=.normal)(hf:FF.fn b.fn)(hfn:Tryz.prog.funcs[b.fn]? =some fn):
 ∃m',StepsIn Fd prog (lone (b.atR a (.inRegion ops rest :: l.map Item.code)) cs w) m'∧Left b.fn cs R m':=by
 have fin:∀ (m:Machine) (e:Exit) (a':Act) (w':World),bodyPost prog fn (DJ R) e a' w'→ArrivesIn Fd prog m b [] cs e a' w'→∃m',StepsIn Fd prog m m'∧Left b.fn cs R m':=by
  intro m e a' w' hq harr
  cases e with
  | normal=>
    obtain⟨hd,v,hr,v',hv,hR⟩:=hq
    cases hv
    exact⟨_,StepsIn.trans harr (.one (fenced_calm (n:=0) (fr:=b.atR a' []) hf (bJ _) rfl) (stepR_end hb)),v,w',_,hR,rfl,rfl,rfl,hd,hk,fn,hfn,hr⟩
  | ret=>
    obtain⟨hd,v,hr,v',hv,hR⟩:=hq
    cases hv
    obtain⟨todo,hs⟩:=harr.1 hb
    exact⟨_,hs,v,w',_,hR,rfl,rfl,rfl,hd,hk,fn,hfn,hr⟩
  | panic chain=>obtain⟨_,v',hv,_⟩:=hq;cases hv
  | exit id=>exact hq.elim
  | goto t=>exact hq.elim
  | outgrown=>obtain⟨v',hv,_⟩:=hq;cases hv
 obtain⟨e,a1,w1,hq,harr⟩:=wp_opsIn _ a w h b (l.map Item.code) cs hb hf (bJ _)
 cases e with
 | normal=>
   obtain⟨e2,a2,w2,hq2,Lh⟩:=Ao l a1 w1 hq b [] cs hb hf
   rw[List.append_nil] at Lh
   obtain⟨m',h1,h2⟩:=fin _ e2 a2 w2 hq2 Lh
   exact⟨m',StepsIn.trans harr h1,h2⟩
 | ret=>exact fin _ .ret a1 w1 hq harr
 | panic chain=>obtain⟨_,v',hv,_⟩:=hq;cases hv
 | exit id=>exact hq.elim
 | goto t=>exact hq.elim
 | outgrown=>obtain⟨v',hv,_⟩:=hq;cases hv
theorem mF{T:Act→World→Prop}{l2:List Nat}:∀ (l1:List Nat) (a:Act) (w:World),wpOpsIn FF 0 prog ops (Exit.then T fun _ _ _=>False) l1 a w→∀ (b:Frame) (k:List Item) (cs:List Frame),b.roundOf=none→FF.fn b.fn→
 ∃a' w',T a' w'∧StepsIn Fd prog (lone (b.atR a (.inRegion ops (l1 ++ l2) :: k)) cs w) (lone (b.atR a' (.inRegion ops l2 :: k)) cs w')
 | [],a,w,h,b,k,cs,_,_=>⟨a,w,h,.refl _⟩
 | i :: l1,a,w,h,b,k,cs,hb,hf=>by
   rw[List.cons_append]
   simp only[wpOpsIn] at h
   cases ho:ops[i]? with
   | none=>
     simp only[ho] at h
     obtain⟨a',w',h1,h2⟩:=mF l1 a w h b k cs hb hf
     have hs:=stepR_op_skip (P:=prog) (b:=b) (a:=a) (k:=k) (cs:=cs) (w:=w) (ops:=ops) (i:=i) (rest:=l1 ++ l2) (by simp[ho])
     simp only[ho,Option.bind_none,Act.put] at hs
     exact⟨a',w',h1,.head (fenced_noOper (n:=0) hf (bJ _) ho) hs h2⟩
   | some o=>
     simp only[ho] at h
     by_cases hw:Region.wanted o (yielded ops a.tmps)=true
     ·simp only[hw,if_true,Oper.wpIn] at h
      obtain⟨habout,h⟩:=h
      have h0:Fd (lone (b.atR a (.inRegion ops (i :: (l1 ++ l2)) :: k)) cs w):=fenced_oper (n:=0) hf (bJ _) ho habout
      have hg:=stepGR_op (P:=prog) (b:=b) (k:=k) (cs:=cs) (w:=w) (rest:=l1 ++ l2) ho hw
      rw[hb] at hg
      have hfin:∀ (a:Act) v,(b.atR a (.inRegion ops (i :: (l1 ++ l2)) :: k)).finish v=b.atR (a.put o.dst v) (.inRegion ops (l1 ++ l2) :: k):=fun a v=>by rw[Frame.finish_atR,ho];rfl
      have hro:FF.round=none:=rfl
      rw[hro] at h
      generalize hr:(o.semAt none a.eval).run prog w=r at h
      cases r with
      | halt x w1=>cases x <;> exact h.elim
      | ok x w1=>
        cases x with
        | value v=>
          obtain⟨a',w',h1,h2⟩:=mF l1 _ _ h b k cs hb hf
          exact⟨a',w',h1,.head h0 (step_lone_go (by rw[hg,← hfin];simp[stepG.apply,hr])) h2⟩
        | skip=>
          obtain⟨a',w',h1,h2⟩:=mF l1 _ _ h b k cs hb hf
          exact⟨a',w',h1,.head h0 (step_lone_go (by rw[hg,← hfin];simp[stepG.apply,hr])) h2⟩
        | enter f args=>
          obtain⟨_,hF,h⟩:=h
          obtain⟨e,w2,fr,hR,hsteps,hfn,hleave⟩:=h (b.atR a (.inRegion ops (i :: (l1 ++ l2)) :: k) :: cs) (bJ _)
          have henter:step prog (lone (b.atR a (.inRegion ops (i :: (l1 ++ l2)) :: k)) cs w)=.next (lone (Frame.enter prog f args .normal) (b.atR a (.inRegion ops (i :: (l1 ++ l2)) :: k) :: cs) w1):=
           step_lone_go (by rw[hg];simp[stepG.apply,hr,Frame.atR])
          cases e with
          | returned v=>
            have hl:Fd (lone fr (b.atR a (.inRegion ops (i :: (l1 ++ l2)) :: k) :: cs) w2):=fenced_leaving (n:=0) (hfn ▸ hF) (bJ _) hleave
            obtain⟨a',w',h1,h2⟩:=mF l1 _ _ hR b k cs hb hf
            refine⟨a',w',h1,.head h0 henter (StepsIn.trans hsteps (.head hl ?_ h2))⟩
            rw[← hfin]
            exact step_leave_returned hleave
          | panicked chain=>exact hR.elim
          | outgrown=>obtain⟨_,_,hx⟩:=hR;exact hx.elim
        | row row args=>
          obtain⟨_,h⟩:=h
          obtain⟨v,w2,hR,hsteps⟩:=h (b.atR a (.inRegion ops (i :: (l1 ++ l2)) :: k)) cs (bJ _)
          have henter:step prog (lone (b.atR a (.inRegion ops (i :: (l1 ++ l2)) :: k)) cs w)=.next (lone (Frame.ofRow prog row args .normal) (b.atR a (.inRegion ops (i :: (l1 ++ l2)) :: k) :: cs) w1):=
           step_lone_go (by rw[hg];simp[stepG.apply,hr,Frame.atR])
          obtain⟨a',w',h1,h2⟩:=mF l1 _ _ hR b k cs hb hf
          rw[hfin] at hsteps
          exact⟨a',w',h1,.head h0 henter (StepsIn.trans hsteps h2)⟩
        | defer d=>
          obtain⟨a',w',h1,h2⟩:=mF l1 _ _ h b k cs hb hf
          refine⟨a',w',h1,.head h0 (step_lone_go ?_) h2⟩
          have:({b.atR a (.inRegion ops (i :: (l1 ++ l2)) :: k) with defers:=d :: a.defers }:Frame).finish undef=b.atR ({a with defers:=d :: a.defers }.put o.dst undef) (.inRegion ops (l1 ++ l2) :: k):=hfin {a with defers:=d :: a.defers } undef
          rw[hg]
          simp only[stepG.apply,Sem.runT_eq,hr,GStep.bare_after]
          exact congrArg (fun fr=>GStep.go {frame:=fr,callers:=cs,status:=.running,dying:=none } w1) this
        | round l f tmps assign body=>
          obtain⟨_,_,h⟩:=h
          obtain⟨e,w2,hR,hsteps⟩:=h (b.atR a (.inRegion ops (i :: (l1 ++ l2)) :: k)) cs (bJ _)
          have henter:step prog (lone (b.atR a (.inRegion ops (i :: (l1 ++ l2)) :: k)) cs w)=.next (lone (Frame.round l f tmps assign body .normal) (b.atR a (.inRegion ops (i :: (l1 ++ l2)) :: k) :: cs) w1):=
           step_lone_go (by rw[hg];simp[stepG.apply,hr,Frame.atR])
          cases e with
          | returned v=>
            obtain⟨a',w',h1,h2⟩:=mF l1 _ _ hR b k cs hb hf
            simp only[hfin] at hsteps
            exact⟨a',w',h1,.head h0 henter (StepsIn.trans hsteps h2)⟩
          | panicked chain=>exact hR.elim
          | outgrown=>obtain⟨_,_,hx⟩:=hR;exact hx.elim
        | _=>exact h.elim
     ·simp only[hw,if_false,Bool.false_eq_true] at h
      obtain⟨habout,h⟩:=h
      obtain⟨a',w',h1,h2⟩:=mF l1 _ _ h b k cs hb hf
      have hs:=stepR_op_skip (P:=prog) (b:=b) (a:=a) (k:=k) (cs:=cs) (w:=w) (ops:=ops) (i:=i) (rest:=l1 ++ l2) (by simp[ho];simpa using hw)
      simp only[ho,Option.bind_some] at hs
      exact⟨a',w',h1,.head (fenced_oper (n:=0) hf (bJ _) ho habout) hs h2⟩
end
section
variable{fn:Func}{R:Value→World→Prop}{ops:Array Oper}
def vE(ops:Array Oper)(i:Nat)(rest:List Nat)(fn:Func)(R:Value→World→Prop)(l:List Code)(a:Act)(w:World):Prop:=
 ∃o f args w1 Rc,ops[i]? =some o∧Region.wanted o (yielded ops a.tmps)=true∧(o.semAt none a.eval).run prog w=.ok (.enter f args) w1∧(∀g,o.about prog w a.eval=some g→FF.fn g)∧iM f args w1 Rc∧
  ∀v w2,Rc v w2→wpOpsIn FF 0 prog ops (Exit.then (uR (bodyPost prog fn (DJ R)) l) (bodyPost prog fn (DJ R))) rest (a.put o.dst v) w2
theorem vE.via{i:Nat}{rest:List Nat}{l:List Code}{a:Act}{w:World}(h:vE ops i rest fn R l a w)(b:Frame)(cs:List Frame)(hb:b.roundOf=none)(hk:b.kind=.normal)(hf:FF.fn b.fn)(hfn:Tryz.prog.funcs[b.fn]? =some fn):
 Via (lone (b.atR a (.inRegion ops (i :: rest) :: l.map Item.code)) cs w) (Left b.fn cs R):=by
 obtain⟨o,f,args,w1,Rc,ho,hw,hr,habout,hcv,hrest⟩:=h
 have h0:Fd (lone (b.atR a (.inRegion ops (i :: rest) :: l.map Item.code)) cs w):=fenced_oper (n:=0) hf (bJ _) ho habout
 have hg:=stepGR_op (P:=prog) (b:=b) (k:=l.map Item.code) (cs:=cs) (w:=w) (rest:=rest) ho hw
 rw[hb] at hg
 have hfin:∀v,(b.atR a (.inRegion ops (i :: rest) :: l.map Item.code)).finish v=b.atR (a.put o.dst v) (.inRegion ops rest :: l.map Item.code):=fun v=>by rw[Frame.finish_atR,ho];rfl
 have henter:step prog (lone (b.atR a (.inRegion ops (i :: rest) :: l.map Item.code)) cs w)=.next (lone (Frame.enter prog f args .normal) (b.atR a (.inRegion ops (i :: rest) :: l.map Item.code) :: cs) w1):=
  step_lone_go (by rw[hg];simp[stepG.apply,hr,Frame.atR])
 refine Via.from_ (.one h0 henter) ((hcv.2 _).on_ fun m' hm=>?_)
 obtain⟨v,w2,fr,V',rfl,m4,hleave⟩:=hm
 obtain⟨m2,h1,h2⟩:=Bo (hrest v w2 V') b cs hb hk hf hfn
 have hl:Fd (lone fr (b.atR a (.inRegion ops (i :: rest) :: l.map Item.code) :: cs) w2):=fenced_leaving (n:=0) (by rw[m4];exact hcv.1) (bJ _) hleave
 refine⟨m2,.head hl ?_ h1,h2⟩
 rw[← hfin]
 exact step_leave_returned hleave
def aj(fn:Func)(R:Value→World→Prop)(l:List Code)(a:Act)(w:World):Prop:=∀ (b:Frame) (cs:List Frame),b.roundOf=none→b.kind=.normal→FF.fn b.fn→Tryz.prog.funcs[b.fn]? =some fn→Via (lone (b.atR a (l.map Item.code)) cs w) (Left b.fn cs R)
variable{l:List Code}{a:Act}{w:World}{x y:Code}
theorem aj.of_steps{l':List Code}{a':Act}{w':World}(hs:∀ (b:Frame) (cs:List Frame),b.roundOf=none→FF.fn b.fn→StepsIn Fd prog (lone (b.atR a (l.map Item.code)) cs w) (lone (b.atR a' (l'.map Item.code)) cs w'))
 (h:aj fn R l' a' w'):aj fn R l a w:=fun b cs hb hk hf hfn=>Via.from_ (hs b cs hb hf) (h b cs hb hk hf hfn)
theorem aj.seq(h:aj fn R (x :: y :: l) a w):aj fn R (.seq x y :: l) a w:=.of_steps (fun _ _ _ hf=>.head (fenced_calm (n:=0) hf (bJ _) rfl) stepR_seq (.refl _)) h
theorem aj.skip(h:aj fn R l a w):aj fn R (.skip :: l) a w:=.of_steps (fun _ _ _ hf=>.head (fenced_calm (n:=0) hf (bJ _) rfl) stepR_skip (.refl _)) h
theorem aj.cond{c:Operand}{t:Bool}(hc:a.eval c=.bool t)(h:aj fn R ((if t then x else y) :: l) a w):aj fn R (.cond c x y :: l) a w:=.of_steps (fun _ _ _ hf=>.head (fenced_calm (n:=0) hf (bJ _) rfl) (stepR_cond hc) (.refl _)) h
theorem aj.cond_true{c:Operand}(hc:a.eval c=.bool true)(h:aj fn R (x :: l) a w):aj fn R (.cond c x y :: l) a w:=.cond hc h
theorem aj.cond_false{c:Operand}(hc:a.eval c=.bool false)(h:aj fn R (y :: l) a w):aj fn R (.cond c x y :: l) a w:=.cond hc h
theorem aj.item(h:x.wpIn FF 0 prog (Exit.then (aj fn R l) fun _ _ _=>False) a w):aj fn R (x :: l) a w:=fun b cs hb hk hf hfn=>by
 obtain⟨e,a1,w1,hq,hr⟩:=h b (l.map Item.code) cs hb hf (bJ _)
 cases e <;> first|exact hq.elim|skip
 exact Via.from_ hr (hq b cs hb hk hf hfn)
theorem aj.region{id i:Nat}{l1 rest:List Nat}(hl:List.range ops.size=l1 ++ i :: rest)(h:wpOpsIn FF 0 prog ops (Exit.then (vE ops i rest fn R l) fun _ _ _=>False) l1 a w):aj fn R (.region id ops false :: l) a w:=fun b cs hb hk hf hfn=>by
 obtain⟨a',w',hT,hs⟩:=mF (l2:=i :: rest) l1 a w h b (l.map Item.code) cs hb hf
 refine Via.from_ (.head (fenced_calm (n:=0) hf (bJ _) rfl) stepR_region ?_) (hT.via b cs hb hk hf hfn)
 rw[hl]
 exact hs
theorem ko{f:FuncId}{c:Code}{args:Array Value}(hf:Tryz.prog.funcs[f]? =some fn)(hb:fn.body=some c)(hF:FF.fn f)(h:aj fn R [c] {tmps:=args ++ Array.replicate (fn.ntmps - args.size) undef,defers:=[] } w):iM f args w R:=by
 refine⟨hF,fun cs=>?_⟩
 have henter:Frame.enter prog f args .normal=(base f).atR {tmps:=args ++ Array.replicate (fn.ntmps - args.size) undef,defers:=[] } [.code c]:=by
  simp[Frame.enter,Frame.atR,hf,hb,base]
  rfl
 rw[henter]
 exact h (base f) cs rfl rfl hF hf
variable{F:Fence}{n:Nat}{P:Program}{md:Region.Mode}{S:World→Prop}{T:Act→World→Prop}{N:Nat}
end
end
section
open Go Go.Conc Go.ConcN Go.cu Go.Conc.Lib Go.aO Go.Sort Go.RowKit
attribute [local go_sem] Oper.semAt_some
variable[Inhabited aS]
section
variable{fn:Func}{R Rc:Value→World→Prop}{ops:Array Oper}{a:Act}{w:World}{l:List Code}
theorem kS{F:Fence}{n:Nat}{P:Program}{Q:Exit→Act→World→Prop}:∀ (lo:List Oper) (k:Nat) (a:Act) (w:World),(∀j,j<lo.length→lo[j]? =ops[k+j]?)→wpListIn F n P ops Q lo a w→wpOpsIn F n P ops Q (List.range' k lo.length) a w
 | [],_,_,_,_,h=>h
 | o :: lo,k,a,w,hj,h=>by
   have h0:ops[k]? =some o:=by simpa using (hj 0 zs).symm
   have ih:∀a w,wpListIn F n P ops Q lo a w→wpOpsIn F n P ops Q (List.range' (k+1) lo.length) a w:=fun a w h=>kS lo (k+1) a w (fun j hl=>by have:=hj (j+1) (by simpa using hl);simpa [Nat.add_assoc,Nat.add_comm 1 j] using this) h
   rw[List.length_cons,List.range'_succ,wpOpsIn_cons]
   refine wpOpIn_mono (fun a w h=>ih a w h) ?_
   unfold wpOpIn
   simp only[h0]
   exact h
theorem ig{lo:List Oper}{i:Nat}{o:Oper}{f:FuncId}{ag:Array Operand}{ats:Array TypeId}(ho:lo[i]? =some o)(hop:o.op=.call {callee:=.value (.func f),args:=ag,argTypes:=ats })(hw:Region.wanted o (yielded lo.toArray a.tmps)=true)(he:∀args w,(callFunc f args).run prog w=.ok (.enter f args) w)
 {args:Array Value}(ha:ag.map a.eval=args)(hv:iM f args w Rc)
 (hrest:∀v w2,Rc v w2→wpListIn FF 0 prog lo.toArray (Exit.then (uR (bodyPost prog fn (DJ R)) l) (bodyPost prog fn (DJ R))) (lo.drop (i+1)) (a.put o.dst v) w2):vE lo.toArray i (List.range' (i+1) (lo.drop (i+1)).length) fn R l a w:=by
 subst ha
 refine⟨o,f,ag.map a.eval,w,Rc,by simpa using ho,hw,?_,fun g hg=>?_,hv,fun v w2 h=>kS _ _ _ _ (fun j hj=>zs) (hrest v w2 h)⟩
 ·simp[Oper.semAt,execOp,hop,resolve,invoke,Act.eval,go_sem,he]
 ·simp[Oper.about,hop,resolve,Act.eval,go_sem,Target.leads] at hg
  rw[← hg]
  exact hv.1
theorem aj.gq{id:Nat}{lo:List Oper}(i:Nat)(hi:i<lo.length)(h:wpListIn FF 0 prog lo.toArray (Exit.then (vE lo.toArray i (List.range' (i+1) (lo.drop (i+1)).length) fn R l) fun _ _ _=>False) (lo.take i) a w):aj fn R (.region id lo.toArray false :: l) a w:=by
 refine aj.region (i:=i) (l1:=List.range' 0 (lo.take i).length) (rest:=List.range' (i+1) (lo.drop (i+1)).length) ?_ (kS _ 0 _ _ (fun j hj=>?_) h)
 ·have h1:(lo.take i).length=i:=zm
  have h2:(lo.drop (i+1)).length=lo.length - (i+1):=zs
  rw[h1,h2,List.size_toArray,List.range_eq_range',← List.range'_succ]
  have h3:=List.range'_append_1 (s:=0) (m:=i) (n:=lo.length - (i+1)+1)
  rw[Nat.zero_add] at h3
  rw[h3]
  congr 1
  omega
 ·have:j<i:=by have:=hj;simp at this;omega
  simp[this]
end
end
section
open Go Go.Conc Go.ConcN Go.cu Go.Conc.Lib Go.aO Go.Sort Go.RowKit
variable[Inhabited aS]
section
variable{F:Fence}{n:Nat}{P:Program}{ops:Array Oper}{md:Region.Mode}{S:World→Prop}{T:Act→World→Prop}{N:Nat}
end
section
variable{fn:Func}{R:Value→World→Prop}{l:List Code}{a:Act}{w:World}
end
end
section
open Go.RowKit
open Go.Sort (grow)
attribute [local go_sem] Oper.semAt_some
def tg:Nat→Good
 | 0=>⟨⟨#[116,101,97]⟩,5,4,3,3⟩
 | _=>⟨⟨#[114,105,99,101]⟩,2,10,5,6⟩
def tm:Nat→Mv
 | 0=>⟨0,0,2,4,4⟩
 | 1=>⟨1,0,3,2,3⟩
 | 2=>⟨2,1,4,0,1⟩
 | _=>⟨0,1,5,10,10⟩
def tc:Nat→Ct
 | 0=>⟨0,10,4,5⟩
 | _=>⟨1,10,5,5⟩
def Tb(most:Int)(G M C:Nat):Bk:=⟨10,most,some ⟨G,0,none⟩,2,2,tg,some ⟨M,0,none⟩,4,4,tm,some ⟨C,0,none⟩,2,2,tc⟩
theorem bT{w:World}{B size n:Nat}{t:TypeId}{cs:Array Value}{f:Nat→Nat→Value}(h:Whole w B t cs)(hc:∀i j,i<n→j<size→cs[i * size+j]? =some (f i j)):Rows w w.heap.size size (some ⟨B,0,none⟩) n f:=fun _=>
 ⟨_,rfl,h.lt,fun i j hi hj=>by
   have e:((⟨B,0,none⟩:Addr).add (i * size+j))=⟨B,i * size+j,none⟩:=by unfold Addr.add;split <;> simp_all
   rw[e,h.cell]
   exact hc i j hi hj⟩
theorem re(a b:Int)(w:World):CallsIn FF 0 prog 31 #[int i64 a,int i64 b] w fun e w'=>e=.returned (.agg #[int i64 a,int i64 b])∧Below w.heap.size w w':=by
 gi_enter func31,ntmps31
 gi_wp2
 refine bodyPost_ret (v:=.agg #[int i64 a,int i64 b]) (by simp[results,results31,go_sem]) rfl ⟨rfl,bw⟩
theorem Tryz.infoL:(Tryz.prog.info? 30).map (fun i=>(i.zero,i.size,i.bytes))=some (some (.slice none 0 0),1,24):=zk
theorem Sb(g:Nat)(c:Nat)(v f:Value)(w:World)(hv:∃A n p,v=.slice A n p)(hc:w.cell? ⟨g,0,none⟩=some v):CallsIn FF 0 prog 107 #[f,.slice (some ⟨g,0,none⟩) 1 c] w fun e w'=>e=.returned (.tuple #[v,.bool true])∧Below w.heap.size w w':=by
 obtain⟨A,n,p,rfl⟩:=hv
 gi_enter func107,ntmps107
 gi_wp2
 refine wpIn_loop_rounds 2 ?_
 rw[roundsIn_succ]
 gi_wp2
 repeat (refine⟨fun f h=>(by cases h),?_⟩;gi_wp2)
 rw[roundsIn_succ]
 gi_wp2
 go_ret2
 exact⟨rfl,Below.refl _ _⟩
theorem Jt(s:Nat)(hs:s<1024)(g c:Nat)(w:World)(hc:w.cell? ⟨g,0,none⟩=some (int i64 s)):CallsIn FF 0 prog 81 #[.slice (some ⟨g,0,none⟩) 1 c] w fun e w'=>∃v,e=.returned (.tuple #[v,.bool true])∧w'.ownsRow w.heap.size 3 1 v (aL s 10).length ((aL s 10).map (int i64))∧Below w.heap.size w w':=by
 have HS:=hid fun w=>mo s w hs
 have HL:=hid fun g c v w hv hc=>Sb g c v (.func (.func 108) #[] #[]) w hv hc
 obtain⟨i0,hi,hz0,hz1,hz2⟩:=info_parts Tryz.infoL
 have hi0:=hid hi
 obtain⟨L,hL⟩:∃L,L=aL s 10:=⟨_,rfl⟩
 rw[← hL] at HS⊢
 clear hL hi
 gi_enter func81,ntmps81
 gi_wp2
 refine wpIn_loop_rounds 2 ?_
 rw[roundsIn_succ]
 gi_wp2_with (first
  | (gi_at_call 96;refine(HS.out w).mono ?_;rintro e w3 ⟨v,rfl,hown,hb3⟩;have fR:=hid hown;have hv:=fP hown;have HV:=hid hv;obtain⟨A3,n3,p3,rfl⟩:=hv;clear hown)
  | (gi_at_builtin;refine aF rfl rfl rfl fun K5 jf=>?_;refine wp_append_lies _ _ _ _ rfl w3.heap.size 30 i0 _ 1 24 underlying72 hi0.out hz0 hz1 hz2 rfl zo (.slice none 0 0) 0 [] rfl ⟨rfl,.inl ⟨rfl,rfl⟩⟩ ⟨w3.heap.size,0,none⟩ 1 1 [_] rfl rfl (World.news_of_block (heap_alloc_new w3 _)) (by simp[Value.oneCell']) zo zU zo zs (w3.heap.size+1) zs ?_;intro qM oH w10 hown5 aQ ni oI;refine jf _ _ ?_;clear jf K5))
 rw[roundsIn_succ]
 gi_wp2_with (gi_at_call 107;refine(HL.out _ _ _ w10 HV.out ?_).mono ?_;rotate_left;(rintro e w12 ⟨rfl,Jl⟩))
 ·go_ret2
  have Qi:Below w.heap.size w w10:=(Below.al hb3 _).trans (below_grown aQ (by simp;have:=hb3.size;omega) (fun g hg=>by cases hg))
  exact⟨_,rfl,own_below (oh (aX fR.out _) aQ (fun g hg=>by simp[Value.ownBlock])) Jl,Below.next Qi Jl⟩
 ·have:=hown5.cells (g:=qM) rfl 0 (.slice A3 n3 p3) zs
  simpa [Addr.add] using this
theorem Te(b:Bk)(ok:b.Ok)(s:Nat)(hl:cO s)(Bb Bl:Nat)(w:World)(hb:Whole w Bb 74 b.cells)(hw:Whole w Bl 3 #[int i64 s])(hA:b.At w w.heap.size):oF FF 101 #[.pointer (some ⟨Bb,0,none⟩),.pointer (some ⟨Bl,0,none⟩)] (gW b s) w:=by
 refine⟨zs,enters_of func101 zk rfl,fun C W hW hC=>?_⟩
 exact TU (p:=FF.fn) b ok s hl C w.heap.size Bb Bl W (fun x hx=>(hC x hx).2) (hb.below hW hb.lt) (hw.below hW hw.lt) (hA.below hW) hW.size (fun h=>by have:=(hC _ h).1;have:=hb.lt;omega) (fun h=>by have:=(hC _ h).1;have:=hw.lt;omega) (fun x hx h=>by have:=(hC _ h).1;omega)
theorem OX(b:Bk)(ok:b.Ok)(s:Nat)(hl:cO s)(w:World)(hA:b.At w w.heap.size):CallsIn FF 0 prog 78 #[b.val,int i64 s] w fun e w'=>∃lb,e=.returned (.func (.func 101) #[] lb)∧oF FF 101 lb (gW b s) w'∧Below w.heap.size w w':=by
 refine(Uc (p:=FF.fn) b s w).mono ?_
 rintro e w' ⟨rfl,hb,hi,hbw,-⟩
 exact⟨_,rfl,Te b ok s hl _ _ w' hb hi (hA.up hbw),hbw⟩
def CU(b:Bk)(k:Nat):List Int:=(((ak b).take k).filter fun s=>!(gW b s).isEmpty).map fun(n:Nat)=>(n:Int)
theorem MO(b:Bk)(k:Nat)(hk:k<(ak b).length):CU b (k+1)=CU b k ++ if (!(gW b ((ak b).getD k 0)).isEmpty)=true then[(((ak b).getD k 0:Nat):Int)] else[]:=by
 unfold CU
 rw[List.take_add_one,List.getD_eq_getElem?_getD,List.getElem?_eq_getElem hk,List.filter_append,List.map_append]
 congr 1
 simp only[Option.toList,Option.getD,List.filter_cons,List.filter_nil]
 split <;> simp_all
theorem QS(b:Bk)(k:Nat):(CU b k).length≤(ak b).length:=by
 unfold CU
 rw[List.length_map]
 exact Nat.le_trans (List.length_filter_le _ _) (by rw[List.length_take];exact Nat.min_le_right _ _)
theorem Vb(b:Bk)(A:Option Addr)(p:Nat)(s0:Nat)(w:World)(hc:mZ b A w)(ok:b.Ok)(hl:∀s∈ak b,cO s)(hcan:CU b (ak b).length=[(s0:Int)])(hs0:s0<1024):
 CallsIn FF 0 prog 45 #[.agg (aA b A (ak b).length p)] w fun e w'=>∃v,e=.returned (.tuple #[v,.bool true])∧w'.ownsRow w.heap.size 3 1 v (aL s0 10).length ((aL s0 10).map (int i64))∧Below w.heap.size w w':=by
 have HT:=hid fun k (w':World) (hk:k<(ak b).length) (hA:b.At w' w'.heap.size)=>OX b ok ((ak b).getD k 0) (hl _ (by rw[List.getD_eq_getElem?_getD,List.getElem?_eq_getElem hk];exact List.getElem_mem hk)) w' hA
 have HY:=hid fun k lb (w':World) h=>Yq (p:=FF.fn) 101 lb (gW b ((ak b).getD k 0)) w' h
 have HL:=hid fun g c w hc=>Jt s0 hs0 g c w hc
 have HC:=hid hc
 have HR:=hid hc.row
 have tP:=hid hc.at_
 obtain⟨n,hn⟩:∃n,n=(ak b).length:=⟨_,rfl⟩
 obtain⟨LN,sX⟩:∃LN:Nat→Nat,LN=fun k=>(ak b).getD k 0:=⟨_,rfl⟩
 obtain⟨T,hT⟩:∃T:Nat→List Ht,T=fun k=>gW b ((ak b).getD k 0):=⟨_,rfl⟩
 obtain⟨F,hF⟩:∃F:Nat→List Int,F=CU b:=⟨_,rfl⟩
 have Is:Hid (∀k (w':World),k<n→b.At w' w'.heap.size→CallsIn FF 0 prog 78 #[b.val,int i64 (LN k)] w' fun e w''=>∃lb,e=.returned (.func (.func 101) #[] lb)∧oF FF 101 lb (T k) w''∧Below w'.heap.size w' w''):=hid fun k w' hk hA=>by rw[sX,hT];rw[hn] at hk;exact HT.out k w' hk hA
 have Th:Hid (∀k lb (w':World),oF FF 101 lb (T k) w'→CallsIn FF 0 prog 80 #[.func (.func 101) #[] lb] w' fun e w''=>e=.returned (.bool (!(T k).isEmpty))∧Below w'.heap.size w' w''):=hid fun k lb w' h=>by rw[hT] at h⊢;exact HY.out k lb w' h
 have HR':Hid (Rows w w.heap.size 1 A n (fun i _=>int i64 ((LN i:Nat):Int))):=hid (by rw[sX,hn];exact HR.out)
 have P0:Hid (F 0=[]):=hid (by rw[hF];rfl)
 have uk:Hid (∀k,k<n→F (k+1)=F k ++ if (!(T k).isEmpty)=true then[((LN k:Nat):Int)] else[]):=hid fun k hk=>by rw[hF,hT,sX];rw[hn] at hk;exact MO b k hk
 have Re:Hid (F n=[(s0:Int)]):=hid (by rw[hF,hn];exact hcan)
 have Q4:Hid (∀k,(F k).length≤64):=hid fun k=>by rw[hF];exact Nat.le_trans (QS b k) (lC b ok)
 have aad:n≤64:=by rw[hn];exact lC b ok
 obtain⟨L0,hL0⟩:∃L,L=aL s0 10:=⟨_,rfl⟩
 rw[← hL0] at HL⊢
 rw[← hn]
 obtain⟨i0,hi,hz0,hz1,hz2⟩:=info_parts info3
 have hi0:=hid hi
 clear hi hn sX hT hF HT HY HR hcan hl ok hc HC hL0 hs0
 obtain⟨days,most,gA,ng,gc,g,mA,nm,mc,m,cA,nc,cc,c⟩:=b
 simp only[Bk.val,Bk.cells,aA] at Is⊢
 obtain⟨w1,hw1⟩:∃w1,w1=w.alloc (.cells #[int i64 days,int i64 most,.slice gA ng gc,.slice mA nm mc,.slice cA nc cc,.slice A n p] 76):=⟨_,rfl⟩
 have B1:Hid (Below w.heap.size w w1):=hid (by rw[hw1];exact bw)
 have X1:Hid (Whole w1 w.heap.size 76 #[int i64 days,int i64 most,.slice gA ng gc,.slice mA nm mc,.slice cA nc cc,.slice A n p]):=hid (by rw[hw1];exact Whole.new _ _ _)
 have hs1:w1.heap.size=w.heap.size+1:=by rw[hw1];simp
 have lT:=hid hw1
 clear hw1
 gi_enter func45,ntmps45
 gi_wp2
 rw[← lT.out]
 clear lT
 gi_loopw [4,10] (fun l i wr=>∃k:Nat,k≤n∧i=int i64 k∧Hid (wr.ownsRow (w.heap.size+1) 3 1 l (F k).length ((F k).map (int i64))∧Below (w.heap.size+1) w1 wr)) (fun _ i _=>n - (intOf i).toNat)
 case atStart=>exact⟨0,Nat.zero_le _,rfl,hid ⟨by rw[P0.out];exact mG _ (w.heap.size+1) 3,Below.refl _ _⟩⟩
 case round=>
  obtain⟨k,hk,rfl,hT⟩:=hrel
  obtain⟨A9,n9,p9,rfl⟩:=fP hT.out.1
  obtain⟨wo,rfl⟩:∃wo:World,wo=wr:=⟨_,rfl⟩
  have hso:w.heap.size+1≤wo.heap.size:=by have:=hT.out.2.size;omega
  have BO:Hid (Below w.heap.size w wo):=hid (B1.out.trans (hT.out.2.mono zo))
  by_cases hlt:k<n
  ·obtain⟨ad,hA',hbl,-⟩:=HR'.out (show 0<n by omega)
   subst hA'
   obtain⟨s,hs⟩:∃s,s=LN k:=⟨_,rfl⟩
   have d0:wo.cell? (ad.add k)=some (int i64 s):=by
    rw[hs]
    refine(BO.out.cell (by rw[aH];exact hbl)).trans ?_
    have:=(HR'.out.row hlt).2 0 zD
    rwa[Nat.mul_one,add_zero'] at this
   have ye:=Is.out k wo hlt (tP.out.up BO.out)
   have sR:=uk.out k hlt
   have hFl:=Q4.out k
   rw[← hs] at ye sR
   obtain⟨t,ht⟩:∃t,t=!(T k).isEmpty:=⟨_,rfl⟩
   have yi:=fun lb w' h=>Th.out k lb w' h
   rw[← ht] at yi sR
   have X2:=hid (X1.out.below hT.out.2 zo)
   have x0:wo.cell? ⟨w.heap.size,0,none⟩=some (int i64 days):=X2.out.cell 0
   have x1:wo.cell? ⟨w.heap.size,1,none⟩=some (int i64 most):=X2.out.cell 1
   have x2:wo.cell? ⟨w.heap.size,2,none⟩=some (.slice gA ng gc):=X2.out.cell 2
   have x3:wo.cell? ⟨w.heap.size,3,none⟩=some (.slice mA nm mc):=X2.out.cell 3
   have x4:wo.cell? ⟨w.heap.size,4,none⟩=some (.slice cA nc cc):=X2.out.cell 4
   have It:=hid ye
   have Iv:=hid yi
   have GS:=hid sR
   clear ye yi sR hs ht
   cases t
   ·gi_wp2_with (first
     | (gi_at_call 78;refine It.out.mono ?_;rintro e w4 ⟨lb,rfl,hs4,hb4⟩)
     | (gi_at_call 80;refine(Iv.out lb _ hs4).mono ?_;rintro e w5 ⟨rfl,hb5⟩))
    have Nn:=hb4.trans (hb5.mono hb4.size)
    exact⟨⟨k+1,hlt,by push_cast;rfl,hid ⟨by rw[GS.out];simpa using own_below hT.out.1 Nn,hT.out.2.trans (Nn.mono hso)⟩⟩,by simp[intOf];omega⟩
   ·gi_wp2_with (first
     | (gi_at_call 78;refine It.out.mono ?_;rintro e w4 ⟨lb,rfl,hs4,hb4⟩)
     | (gi_at_call 80;refine(Iv.out lb _ hs4).mono ?_;rintro e w5 ⟨rfl,hb5⟩;have Nn:=hb4.trans (hb5.mono hb4.size);have Ho:=hid (own_below hT.out.1 Nn);have hs5:=Nn.size)
     | (gi_at_builtin;refine aF rfl rfl rfl fun K5 jf=>?_;refine wp_append_lies _ _ _ _ rfl (w.heap.size+1) 3 i0 _ 1 8 underlying30 hi0.out hz0 hz1 hz2 rfl zo (.slice A9 n9 p9) (F k).length _ rfl (aX Ho.out _) ⟨w5.heap.size,0,none⟩ 1 1 [_] rfl rfl (World.news_of_block (heap_alloc_new w5 _)) (by simp[Value.oneCell']) zo zU zo zm (w5.heap.size+1) zs ?_;intro qM oH w10 hown5 aQ ni oI;refine jf _ _ ?_;clear jf K5))
    exact⟨⟨k+1,hlt,by push_cast;rfl,hid ⟨by rw[GS.out];simpa using hown5,((hT.out.2.trans (Nn.mono hso)).alloc zo _).trans (below_grown aQ zm (fun g hg=>(dF Ho.out hg).1))⟩⟩,by simp[intOf];omega⟩
  ·obtain rfl:k=n:=zo
   have hown:=hT.out.1
   rw[Re.out] at hown
   obtain⟨g9,c9,hv,-,-⟩:=hown.form zs
   have hcl:=hown.cells (g:=g9) (by rw[hv];rfl) 0 (int i64 s0) zs
   injection hv with h1 h2 h3
   subst h1 h2 h3
   have hcl:wo.cell? ⟨g9,0,none⟩=some (int i64 s0):=by simpa [Addr.add] using hcl
   gi_wp2_with (gi_at_call 81;refine(HL.out _ _ _ hcl).mono ?_;rintro e w12 ⟨v,rfl,BC,Jl⟩)
   go_ret2
   exact⟨_,rfl,dX BC zo,Below.next BO.out Jl⟩
theorem Gz(b:Bk)(s0:Nat)(w:World)(h:b.At w w.heap.size)(ok:b.Ok)(hcap:b.ng≤b.gc)(hl:∀s∈ak b,cO s)(hcan:CU b (ak b).length=[(s0:Int)])(hs0:s0<1024):CallsIn FF 0 prog 13 #[b.val] w fun e w'=>∃v,e=.returned (.tuple #[v,int i64 0])∧w'.ownsRow w.heap.size 3 1 v (aL s0 10).length ((aL s0 10).map (int i64))∧Below w.heap.size w w':=by
 have HO:=hid fun w h=>mE b w h ok hcap
 have HB:=hid fun A p w hc=>Vb b A p s0 w hc ok hl hcan hs0
 have HA:=hid h
 obtain⟨n,hn⟩:∃n,n=(ak b).length:=⟨_,rfl⟩
 rw[← hn] at HO HB
 obtain⟨L0,hL0⟩:∃L,L=aL s0 10:=⟨_,rfl⟩
 rw[← hL0] at HB⊢
 clear hn h hcap hl ok hcan hs0 hL0
 obtain⟨days,most,gA,ng,gc,g,mA,nm,mc,m,cA,nc,cc,c⟩:=b
 simp only[Bk.val,Bk.cells,aA] at HO HB⊢
 gi_enter func13,ntmps13
 gi_wp2_with (first
  | (gi_at_call 33;refine(HO.out _ (HA.out.up (bw))).mono ?_;rintro e w2 ⟨A,p,rfl,hc2,hb2,-⟩)
  | (gi_at_call 45;refine(HB.out A p _ (hc2.below (bw))).mono ?_;rintro e w4 ⟨v,rfl,hv,hb4⟩))
 go_ret2
 have Av:=Below.al (Below.next (show Below w.heap.size w (w.alloc (.cells #[int i64 days,int i64 most,.slice gA ng gc,.slice mA nm mc,.slice cA nc cc] 26)) from bw) hb2) (.cells #[int i64 days,int i64 most,.slice gA ng gc,.slice mA nm mc,.slice cA nc cc,.slice A n p] 76)
 exact⟨v,rfl,dX hv Av.size,Below.next Av hb4⟩
end
end Go.Proofs.YthaelabgfnnebaaGreat
