/- J0 J1 J2 J3 HT -/
import Derived.Test.YtoldgagdgjilgaaGreatD6
import Derived.Test.YtoldgagdgjilgaaGreatB1
set_option maxRecDepth 100000
set_option maxHeartbeats 16000000
set_option linter.unusedVariables false
set_option linter.unusedSectionVars false
open Go.IntKind(i64)
open Go.Proofs.Tryz
open Go.Value(int)
namespace Go.Proofs.YtoldgagdgjilgaaGreat
section
open Go Go.Conc Go.ConcN Go.bV Go.Conc.Lib Go.aM Go.Sort Go.RowKit
variable[Inhabited aS]
abbrev Fd:Machine→Prop:=Machine.fenced prog FF
def Kj(n cb:Nat)(bit:Nat→Bool)(w:World):Prop:=n<2147483648∧∃D:Nat→Prop,Closed D w∧D cb∧∃m:Nat,∀i:Nat,i<n→∀σ:Tape,CallsIn SF m prog 83 #[int i64 i,pt cb] (on (uN D w) σ) (fun e _=>e=.returned (.bool (bit i)))
def Via(m:Machine)(Fin:Machine→Prop):Prop:=∃ (n cb:Nat) (cs:List Frame) (w1:World) (bit:Nat→Bool),StepsIn Fd prog m (solo (G (kr n cb) cs) w1)∧Kj n cb bit w1∧
 ∀ac:Act,dr n (eG cb) w1.heap.size ac→∀v:World,Behind n cb w1.heap.size bit w1 v→∀σ:Tape,∃m',StepsIn Fd prog ((⟨xH ac,cs,v⟩:dJ.Pt).on σ).m m'∧Fin m'
theorem Via.from_{m m0:Machine}{Fin:Machine→Prop}(hs:StepsIn Fd prog m0 m)(h:Via m Fin):Via m0 Fin:=by
 obtain⟨n,cb,cs,w1,bit,h1,h2,h3⟩:=h
 exact⟨n,cb,cs,w1,bit,hs.trans h1,h2,h3⟩
theorem Via.on_{m:Machine}{Fin Fin':Machine→Prop}(h:Via m Fin)(hf:∀m',Fin m'→∃m2,StepsIn Fd prog m' m2∧Fin' m2):Via m Fin':=by
 obtain⟨n,cb,cs,w1,bit,h1,h2,h3⟩:=h
 refine⟨n,cb,cs,w1,bit,h1,h2,fun ac ha v hb σ=>?_⟩
 obtain⟨m',h4,h5⟩:=h3 ac ha v hb σ
 obtain⟨m2,h6,h7⟩:=hf m' h5
 exact⟨m2,h4.trans h6,h7⟩
def Left(f:FuncId)(cs:List Frame)(R:Value→World→Prop)(m:Machine):Prop:=∃v w' fr,R v w'∧m=lone fr cs w'∧fr.fn=f∧fr.leaving prog w' (.returned v)
def iH(f:FuncId)(args:Array Value)(w:World)(R:Value→World→Prop):Prop:=FF.fn f∧∀cs,Via (lone (Frame.enter prog f args .normal) cs w) (Left f cs R)
def Dl(R:Value→World→Prop):Ending→World→Prop:=fun e w=>∃v,e=.returned v∧R v w
section
variable{fn:Func}{R:Value→World→Prop}{ops:Array Oper}
def sP(Q:Exit→Act→World→Prop):List Code→Act→World→Prop
 | [],a,w=>Q .normal a w
 | c :: l,a,w=>c.wpIn FF 0 prog (Exit.then (sP Q l) Q) a w
theorem nS{m:Machine}{b:Frame}{k:List Item}{cs:List Frame}{e:Exit}{a:Act}{w:World}:∀ (l:List Code),e≠.normal→ArrivesIn Fd prog m b (l.map Item.code ++ k) cs e a w→ArrivesIn Fd prog m b k cs e a w
 | [],_,h=>h
 | y :: l,he,h=>nS l he (.pass (x:=.code y) rfl (fun _ _=>.inl he) h)
theorem Af{Q:Exit→Act→World→Prop}:∀ (l:List Code) (a:Act) (w:World),sP Q l a w→∀ (b:Frame) (k:List Item) (cs:List Frame),b.roundOf=none→FF.fn b.fn→
 ∃e a' w',Q e a' w'∧ArrivesIn Fd prog (lone (b.atR a (l.map Item.code ++ k)) cs w) b k cs e a' w'
 | [],a,w,h,b,k,cs,_,_=>⟨.normal,a,w,h,.refl _⟩
 | c :: l,a,w,h,b,k,cs,hb,hf=>by
   obtain⟨e,a1,w1,hq,harr⟩:=h b (l.map Item.code ++ k) cs hb hf (bJ _)
   cases e with
   | normal=>
     obtain⟨e2,a2,w2,hq2,KD⟩:=Af l a1 w1 hq b k cs hb hf
     exact⟨e2,a2,w2,hq2,.of_steps harr KD⟩
   | exit id=>exact⟨_,a1,w1,hq,nS l zs harr⟩
   | goto t=>exact⟨_,a1,w1,hq,nS l zs harr⟩
   | ret=>exact⟨_,a1,w1,hq,nS l zs harr⟩
   | panic ch=>exact⟨_,a1,w1,hq,nS l zs harr⟩
   | outgrown=>exact⟨_,a1,w1,hq,nS l zs harr⟩
theorem Az{l:List Code}{rest:List Nat}{a:Act}{w:World}(h:wpOpsIn FF 0 prog ops (Exit.then (sP (bodyPost prog fn (Dl R)) l) (bodyPost prog fn (Dl R))) rest a w)(b:Frame)(cs:List Frame)(hb:b.roundOf=none)(hk:b.kind=.normal)(hf:FF.fn b.fn)(hfn:Tryz.prog.funcs[b.fn]? =some fn):
 ∃m',StepsIn Fd prog (lone (b.atR a (.inRegion ops rest :: l.map Item.code)) cs w) m'∧Left b.fn cs R m':=by
 have fin:∀ (m:Machine) (e:Exit) (a':Act) (w':World),bodyPost prog fn (Dl R) e a' w'→ArrivesIn Fd prog m b [] cs e a' w'→∃m',StepsIn Fd prog m m'∧Left b.fn cs R m':=by
  intro m e a' w' hq harr
  cases e with
  | normal=>
    obtain⟨hd,v,hr,v',hv,hR⟩:=hq
    cases hv
    exact⟨_,StepsIn.trans harr (.one (fenced_calm (n:=0) (fr:=b.atR a' []) hf (bJ _) rfl) (stepR_end hb)),v,w',_,hR,rfl,rfl,rfl,hd,hk,fn,hfn,hr⟩
  | ret=>
    obtain⟨hd,v,hr,v',hv,hR⟩:=hq
    cases hv
    obtain⟨todo,hs⟩:=harr.1 hb
    exact⟨_,hs,v,w',_,hR,rfl,rfl,rfl,hd,hk,fn,hfn,hr⟩
  | panic chain=>obtain⟨_,v',hv,_⟩:=hq;cases hv
  | exit id=>exact hq.elim
  | goto t=>exact hq.elim
  | outgrown=>obtain⟨v',hv,_⟩:=hq;cases hv
 obtain⟨e,a1,w1,hq,harr⟩:=wp_opsIn _ a w h b (l.map Item.code) cs hb hf (bJ _)
 cases e with
 | normal=>
   obtain⟨e2,a2,w2,hq2,KD⟩:=Af l a1 w1 hq b [] cs hb hf
   rw[List.append_nil] at KD
   obtain⟨m',h1,h2⟩:=fin _ e2 a2 w2 hq2 KD
   exact⟨m',StepsIn.trans harr h1,h2⟩
 | ret=>exact fin _ .ret a1 w1 hq harr
 | panic chain=>obtain⟨_,v',hv,_⟩:=hq;cases hv
 | exit id=>exact hq.elim
 | goto t=>exact hq.elim
 | outgrown=>obtain⟨v',hv,_⟩:=hq;cases hv
theorem kL{T:Act→World→Prop}{l2:List Nat}:∀ (l1:List Nat) (a:Act) (w:World),wpOpsIn FF 0 prog ops (Exit.then T fun _ _ _=>False) l1 a w→∀ (b:Frame) (k:List Item) (cs:List Frame),b.roundOf=none→FF.fn b.fn→
 ∃a' w',T a' w'∧StepsIn Fd prog (lone (b.atR a (.inRegion ops (l1 ++ l2) :: k)) cs w) (lone (b.atR a' (.inRegion ops l2 :: k)) cs w')
 | [],a,w,h,b,k,cs,_,_=>⟨a,w,h,.refl _⟩
 | i :: l1,a,w,h,b,k,cs,hb,hf=>by
   rw[List.cons_append]
   simp only[wpOpsIn] at h
   cases ho:ops[i]? with
   | none=>
     simp only[ho] at h
     obtain⟨a',w',h1,h2⟩:=kL l1 a w h b k cs hb hf
     have hs:=stepR_op_skip (P:=prog) (b:=b) (a:=a) (k:=k) (cs:=cs) (w:=w) (ops:=ops) (i:=i) (rest:=l1 ++ l2) (by simp[ho])
     simp only[ho,Option.bind_none,Act.put] at hs
     exact⟨a',w',h1,.head (fenced_noOper (n:=0) hf (bJ _) ho) hs h2⟩
   | some o=>
     simp only[ho] at h
     by_cases hw:Region.wanted o (yielded ops a.tmps)=true
     ·simp only[hw,if_true,Oper.wpIn] at h
      obtain⟨habout,h⟩:=h
      have h0:Fd (lone (b.atR a (.inRegion ops (i :: (l1 ++ l2)) :: k)) cs w):=fenced_oper (n:=0) hf (bJ _) ho habout
      have hg:=stepGR_op (P:=prog) (b:=b) (k:=k) (cs:=cs) (w:=w) (rest:=l1 ++ l2) ho hw
      rw[hb] at hg
      have hfin:∀ (a:Act) v,(b.atR a (.inRegion ops (i :: (l1 ++ l2)) :: k)).finish v=b.atR (a.put o.dst v) (.inRegion ops (l1 ++ l2) :: k):=fun a v=>by rw[Frame.finish_atR,ho];rfl
      have hro:FF.round=none:=rfl
      rw[hro] at h
      generalize hr:(o.semAt none a.eval).run prog w=r at h
      cases r with
      | halt x w1=>cases x <;> exact h.elim
      | ok x w1=>
        cases x with
        | value v=>
          obtain⟨a',w',h1,h2⟩:=kL l1 _ _ h b k cs hb hf
          exact⟨a',w',h1,.head h0 (step_lone_go (by rw[hg,← hfin];simp[stepG.apply,hr])) h2⟩
        | skip=>
          obtain⟨a',w',h1,h2⟩:=kL l1 _ _ h b k cs hb hf
          exact⟨a',w',h1,.head h0 (step_lone_go (by rw[hg,← hfin];simp[stepG.apply,hr])) h2⟩
        | enter f args=>
          obtain⟨_,hF,h⟩:=h
          obtain⟨e,w2,fr,hR,hsteps,hfn,hleave⟩:=h (b.atR a (.inRegion ops (i :: (l1 ++ l2)) :: k) :: cs) (bJ _)
          have henter:step prog (lone (b.atR a (.inRegion ops (i :: (l1 ++ l2)) :: k)) cs w)=.next (lone (Frame.enter prog f args .normal) (b.atR a (.inRegion ops (i :: (l1 ++ l2)) :: k) :: cs) w1):=
           step_lone_go (by rw[hg];simp[stepG.apply,hr,Frame.atR])
          cases e with
          | returned v=>
            have hl:Fd (lone fr (b.atR a (.inRegion ops (i :: (l1 ++ l2)) :: k) :: cs) w2):=fenced_leaving (n:=0) (hfn ▸ hF) (bJ _) hleave
            obtain⟨a',w',h1,h2⟩:=kL l1 _ _ hR b k cs hb hf
            refine⟨a',w',h1,.head h0 henter (StepsIn.trans hsteps (.head hl ?_ h2))⟩
            rw[← hfin]
            exact step_leave_returned hleave
          | panicked chain=>exact hR.elim
          | outgrown=>obtain⟨_,_,hx⟩:=hR;exact hx.elim
        | row row args=>
          obtain⟨_,h⟩:=h
          obtain⟨v,w2,hR,hsteps⟩:=h (b.atR a (.inRegion ops (i :: (l1 ++ l2)) :: k)) cs (bJ _)
          have henter:step prog (lone (b.atR a (.inRegion ops (i :: (l1 ++ l2)) :: k)) cs w)=.next (lone (Frame.ofRow prog row args .normal) (b.atR a (.inRegion ops (i :: (l1 ++ l2)) :: k) :: cs) w1):=
           step_lone_go (by rw[hg];simp[stepG.apply,hr,Frame.atR])
          obtain⟨a',w',h1,h2⟩:=kL l1 _ _ hR b k cs hb hf
          rw[hfin] at hsteps
          exact⟨a',w',h1,.head h0 henter (StepsIn.trans hsteps h2)⟩
        | defer d=>
          obtain⟨a',w',h1,h2⟩:=kL l1 _ _ h b k cs hb hf
          refine⟨a',w',h1,.head h0 (step_lone_go ?_) h2⟩
          have:({b.atR a (.inRegion ops (i :: (l1 ++ l2)) :: k) with defers:=d :: a.defers }:Frame).finish undef=b.atR ({a with defers:=d :: a.defers }.put o.dst undef) (.inRegion ops (l1 ++ l2) :: k):=hfin {a with defers:=d :: a.defers } undef
          rw[hg]
          simp only[stepG.apply,Sem.runT_eq,hr,GStep.bare_after]
          exact congrArg (fun fr=>GStep.go {frame:=fr,callers:=cs,status:=.running,dying:=none } w1) this
        | round l f tmps assign body=>
          obtain⟨_,_,h⟩:=h
          obtain⟨e,w2,hR,hsteps⟩:=h (b.atR a (.inRegion ops (i :: (l1 ++ l2)) :: k)) cs (bJ _)
          have henter:step prog (lone (b.atR a (.inRegion ops (i :: (l1 ++ l2)) :: k)) cs w)=.next (lone (Frame.round l f tmps assign body .normal) (b.atR a (.inRegion ops (i :: (l1 ++ l2)) :: k) :: cs) w1):=
           step_lone_go (by rw[hg];simp[stepG.apply,hr,Frame.atR])
          cases e with
          | returned v=>
            obtain⟨a',w',h1,h2⟩:=kL l1 _ _ hR b k cs hb hf
            simp only[hfin] at hsteps
            exact⟨a',w',h1,.head h0 henter (StepsIn.trans hsteps h2)⟩
          | panicked chain=>exact hR.elim
          | outgrown=>obtain⟨_,_,hx⟩:=hR;exact hx.elim
        | _=>exact h.elim
     ·simp only[hw,if_false,Bool.false_eq_true] at h
      obtain⟨habout,h⟩:=h
      obtain⟨a',w',h1,h2⟩:=kL l1 _ _ h b k cs hb hf
      have hs:=stepR_op_skip (P:=prog) (b:=b) (a:=a) (k:=k) (cs:=cs) (w:=w) (ops:=ops) (i:=i) (rest:=l1 ++ l2) (by simp[ho];simpa using hw)
      simp only[ho,Option.bind_some] at hs
      exact⟨a',w',h1,.head (fenced_oper (n:=0) hf (bJ _) ho habout) hs h2⟩
end
section
variable{fn:Func}{R:Value→World→Prop}{ops:Array Oper}
def rO(ops:Array Oper)(i:Nat)(rest:List Nat)(fn:Func)(R:Value→World→Prop)(l:List Code)(a:Act)(w:World):Prop:=
 ∃o f args w1 Rc,ops[i]? =some o∧Region.wanted o (yielded ops a.tmps)=true∧(o.semAt none a.eval).run prog w=.ok (.enter f args) w1∧(∀g,o.about prog w a.eval=some g→FF.fn g)∧iH f args w1 Rc∧
  ∀v w2,Rc v w2→wpOpsIn FF 0 prog ops (Exit.then (sP (bodyPost prog fn (Dl R)) l) (bodyPost prog fn (Dl R))) rest (a.put o.dst v) w2
theorem rO.via{i:Nat}{rest:List Nat}{l:List Code}{a:Act}{w:World}(h:rO ops i rest fn R l a w)(b:Frame)(cs:List Frame)(hb:b.roundOf=none)(hk:b.kind=.normal)(hf:FF.fn b.fn)(hfn:Tryz.prog.funcs[b.fn]? =some fn):
 Via (lone (b.atR a (.inRegion ops (i :: rest) :: l.map Item.code)) cs w) (Left b.fn cs R):=by
 obtain⟨o,f,args,w1,Rc,ho,hw,hr,habout,hcv,hrest⟩:=h
 have h0:Fd (lone (b.atR a (.inRegion ops (i :: rest) :: l.map Item.code)) cs w):=fenced_oper (n:=0) hf (bJ _) ho habout
 have hg:=stepGR_op (P:=prog) (b:=b) (k:=l.map Item.code) (cs:=cs) (w:=w) (rest:=rest) ho hw
 rw[hb] at hg
 have hfin:∀v,(b.atR a (.inRegion ops (i :: rest) :: l.map Item.code)).finish v=b.atR (a.put o.dst v) (.inRegion ops rest :: l.map Item.code):=fun v=>by rw[Frame.finish_atR,ho];rfl
 have henter:step prog (lone (b.atR a (.inRegion ops (i :: rest) :: l.map Item.code)) cs w)=.next (lone (Frame.enter prog f args .normal) (b.atR a (.inRegion ops (i :: rest) :: l.map Item.code) :: cs) w1):=
  step_lone_go (by rw[hg];simp[stepG.apply,hr,Frame.atR])
 refine Via.from_ (.one h0 henter) ((hcv.2 _).on_ fun m' hm=>?_)
 obtain⟨v,w2,fr,Tu,rfl,lR,hleave⟩:=hm
 obtain⟨m2,h1,h2⟩:=Az (hrest v w2 Tu) b cs hb hk hf hfn
 have hl:Fd (lone fr (b.atR a (.inRegion ops (i :: rest) :: l.map Item.code) :: cs) w2):=fenced_leaving (n:=0) (by rw[lR];exact hcv.1) (bJ _) hleave
 refine⟨m2,.head hl ?_ h1,h2⟩
 rw[← hfin]
 exact step_leave_returned hleave
def aj(fn:Func)(R:Value→World→Prop)(l:List Code)(a:Act)(w:World):Prop:=∀ (b:Frame) (cs:List Frame),b.roundOf=none→b.kind=.normal→FF.fn b.fn→Tryz.prog.funcs[b.fn]? =some fn→Via (lone (b.atR a (l.map Item.code)) cs w) (Left b.fn cs R)
variable{l:List Code}{a:Act}{w:World}{x y:Code}
theorem aj.of_steps{l':List Code}{a':Act}{w':World}(hs:∀ (b:Frame) (cs:List Frame),b.roundOf=none→FF.fn b.fn→StepsIn Fd prog (lone (b.atR a (l.map Item.code)) cs w) (lone (b.atR a' (l'.map Item.code)) cs w'))
 (h:aj fn R l' a' w'):aj fn R l a w:=fun b cs hb hk hf hfn=>Via.from_ (hs b cs hb hf) (h b cs hb hk hf hfn)
theorem aj.seq(h:aj fn R (x :: y :: l) a w):aj fn R (.seq x y :: l) a w:=.of_steps (fun _ _ _ hf=>.head (fenced_calm (n:=0) hf (bJ _) rfl) stepR_seq (.refl _)) h
theorem aj.skip(h:aj fn R l a w):aj fn R (.skip :: l) a w:=.of_steps (fun _ _ _ hf=>.head (fenced_calm (n:=0) hf (bJ _) rfl) stepR_skip (.refl _)) h
theorem aj.cond{c:Operand}{t:Bool}(hc:a.eval c=.bool t)(h:aj fn R ((if t then x else y) :: l) a w):aj fn R (.cond c x y :: l) a w:=.of_steps (fun _ _ _ hf=>.head (fenced_calm (n:=0) hf (bJ _) rfl) (stepR_cond hc) (.refl _)) h
theorem aj.cond_true{c:Operand}(hc:a.eval c=.bool true)(h:aj fn R (x :: l) a w):aj fn R (.cond c x y :: l) a w:=.cond hc h
theorem aj.cond_false{c:Operand}(hc:a.eval c=.bool false)(h:aj fn R (y :: l) a w):aj fn R (.cond c x y :: l) a w:=.cond hc h
theorem aj.item(h:x.wpIn FF 0 prog (Exit.then (aj fn R l) fun _ _ _=>False) a w):aj fn R (x :: l) a w:=fun b cs hb hk hf hfn=>by
 obtain⟨e,a1,w1,hq,hr⟩:=h b (l.map Item.code) cs hb hf (bJ _)
 cases e <;> first|exact hq.elim|skip
 exact Via.from_ hr (hq b cs hb hk hf hfn)
theorem aj.region{id i:Nat}{l1 rest:List Nat}(hl:List.range ops.size=l1 ++ i :: rest)(h:wpOpsIn FF 0 prog ops (Exit.then (rO ops i rest fn R l) fun _ _ _=>False) l1 a w):aj fn R (.region id ops false :: l) a w:=fun b cs hb hk hf hfn=>by
 obtain⟨a',w',hT,hs⟩:=kL (l2:=i :: rest) l1 a w h b (l.map Item.code) cs hb hf
 refine Via.from_ (.head (fenced_calm (n:=0) hf (bJ _) rfl) stepR_region ?_) (hT.via b cs hb hk hf hfn)
 rw[hl]
 exact hs
theorem jV{f:FuncId}{c:Code}{args:Array Value}(hf:Tryz.prog.funcs[f]? =some fn)(hb:fn.body=some c)(hF:FF.fn f)(h:aj fn R [c] {tmps:=args ++ Array.replicate (fn.ntmps - args.size) undef,defers:=[] } w):iH f args w R:=by
 refine⟨hF,fun cs=>?_⟩
 have henter:Frame.enter prog f args .normal=(base f).atR {tmps:=args ++ Array.replicate (fn.ntmps - args.size) undef,defers:=[] } [.code c]:=by
  simp[Frame.enter,Frame.atR,hf,hb,base]
  rfl
 rw[henter]
 exact h (base f) cs rfl rfl hF hf
variable{F:Fence}{n:Nat}{P:Program}{md:Region.Mode}{S:World→Prop}{T:Act→World→Prop}{N:Nat}
theorem LD:∀ (c t0 t:Nat) (listed:Array Bool),gN md ops c t0 listed=true→Region.linearise.go md ops c t listed []=(List.range c).map (t0+ ·)
 | 0,_,_,_,_=>by simp[Region.linearise.go]
 | c+1,t0,t,listed,h=>by
   simp only[gN,Bool.and_eq_true,beq_iff_eq] at h
   obtain⟨h1,h2⟩:=h
   simp only[Region.linearise.go]
   change (match (Region.ready md ops listed)[t % (Region.ready md ops listed).length]? with
    | some i=>Region.linearise.go md ops c (t / (Region.ready md ops listed).length) (listed.setIfInBounds i true) [i]
    | none=>[].reverse)=_
   rw[h1]
   simp only[List.length_singleton,Nat.mod_one,List.getElem?_cons_zero]
   rw[linearise_go_acc,LD c (t0+1) _ _ h2,List.range_succ_eq_map]
   simp[Function.comp_def]
   omega
end
end
section
open Go Go.Conc Go.ConcN Go.bV Go.Conc.Lib Go.aM Go.Sort Go.RowKit
attribute [local go_sem] Oper.semAt_some
variable[Inhabited aS]
section
variable{fn:Func}{R Rc:Value→World→Prop}{ops:Array Oper}{a:Act}{w:World}{l:List Code}
theorem kK{F:Fence}{n:Nat}{P:Program}{Q:Exit→Act→World→Prop}:∀ (lo:List Oper) (k:Nat) (a:Act) (w:World),(∀j,j<lo.length→lo[j]? =ops[k+j]?)→wpListIn F n P ops Q lo a w→wpOpsIn F n P ops Q (List.range' k lo.length) a w
 | [],_,_,_,_,h=>h
 | o :: lo,k,a,w,hj,h=>by
   have h0:ops[k]? =some o:=by simpa using (hj 0 zs).symm
   have ih:∀a w,wpListIn F n P ops Q lo a w→wpOpsIn F n P ops Q (List.range' (k+1) lo.length) a w:=fun a w h=>kK lo (k+1) a w (fun j hl=>by have:=hj (j+1) (by simpa using hl);simpa [Nat.add_assoc,Nat.add_comm 1 j] using this) h
   rw[List.length_cons,List.range'_succ,wpOpsIn_cons]
   refine wpOpIn_mono (fun a w h=>ih a w h) ?_
   unfold wpOpIn
   simp only[h0]
   exact h
theorem fT{lo:List Oper}{i:Nat}{o:Oper}{f:FuncId}{ag:Array Operand}{ats:Array TypeId}(ho:lo[i]? =some o)(hop:o.op=.call {callee:=.value (.func f),args:=ag,argTypes:=ats })(hw:Region.wanted o (yielded lo.toArray a.tmps)=true)(he:∀args w,(callFunc f args).run prog w=.ok (.enter f args) w)
 {args:Array Value}(ha:ag.map a.eval=args)(hv:iH f args w Rc)
 (hrest:∀v w2,Rc v w2→wpListIn FF 0 prog lo.toArray (Exit.then (sP (bodyPost prog fn (Dl R)) l) (bodyPost prog fn (Dl R))) (lo.drop (i+1)) (a.put o.dst v) w2):rO lo.toArray i (List.range' (i+1) (lo.drop (i+1)).length) fn R l a w:=by
 subst ha
 refine⟨o,f,ag.map a.eval,w,Rc,by simpa using ho,hw,?_,fun g hg=>?_,hv,fun v w2 h=>kK _ _ _ _ (fun j hj=>zs) (hrest v w2 h)⟩
 ·simp[Oper.semAt,execOp,hop,resolve,invoke,Act.eval,go_sem,he]
 ·simp[Oper.about,hop,resolve,Act.eval,go_sem,Target.leads] at hg
  rw[← hg]
  exact hv.1
theorem aj.ig{id:Nat}{lo:List Oper}(i:Nat)(hi:i<lo.length)(h:wpListIn FF 0 prog lo.toArray (Exit.then (rO lo.toArray i (List.range' (i+1) (lo.drop (i+1)).length) fn R l) fun _ _ _=>False) (lo.take i) a w):aj fn R (.region id lo.toArray false :: l) a w:=by
 refine aj.region (i:=i) (l1:=List.range' 0 (lo.take i).length) (rest:=List.range' (i+1) (lo.drop (i+1)).length) ?_ (kK _ 0 _ _ (fun j hj=>?_) h)
 ·have h1:(lo.take i).length=i:=zm
  have h2:(lo.drop (i+1)).length=lo.length - (i+1):=zs
  rw[h1,h2,List.size_toArray,List.range_eq_range',← List.range'_succ]
  have h3:=List.range'_append_1 (s:=0) (m:=i) (n:=lo.length - (i+1)+1)
  rw[Nat.zero_add] at h3
  rw[h3]
  congr 1
  omega
 ·have:j<i:=by have:=hj;simp at this;omega
  simp[this]
end
end
section
open Go Go.Conc Go.ConcN Go.bV Go.Conc.Lib Go.aM Go.Sort Go.RowKit
variable[Inhabited aS]
section
variable{F:Fence}{n:Nat}{P:Program}{ops:Array Oper}{md:Region.Mode}{S:World→Prop}{T:Act→World→Prop}{N:Nat}
abbrev rB:Exit→Act→World→Prop:=fun _ _ _=>False
def wpAnyS(F:Fence)(n:Nat)(P:Program)(md:Region.Mode)(ops:Array Oper)(S:World→Prop)(T:Act→World→Prop)(N:Nat):Nat→Array Bool→Act→World→Prop
 | 0,listed,a,w=>(gN md ops (ops.size - N) N listed=true∧Region.ready md ops listed=[N])∧T a w
 | fuel+1,listed,a,w=>Region.ready md ops listed≠[]∧∀i∈Region.ready md ops listed,wpOpIn F n P ops rB i (fun a' w'=>S w'∧wpAnyS F n P md ops S T N fuel (listed.setIfInBounds i true) a' w') a w
theorem Kl(hro:F.round=none):∀ (fuel t:Nat) (listed:Array Bool) (a:Act) (w:World),wpAnyS F n P md ops S T N fuel listed a w→
 wpOpsIn F n P ops (Exit.then (fun a w=>T a w∧(Region.linearise.go md ops (ops.size - N+fuel) t listed []).drop fuel=(List.range (ops.size - N)).map (N+ ·)) rB) ((Region.linearise.go md ops (ops.size - N+fuel) t listed []).take fuel) a w
 | 0,t,listed,a,w,h=>⟨h.2,by rw[List.drop_zero];exact LD _ _ _ _ h.1.1⟩
 | fuel+1,t,listed,a,w,h=>by
   obtain⟨hne,hall⟩:=h
   rw[show ops.size - N+(fuel+1)=(ops.size - N+fuel)+1 by omega]
   simp only[Region.linearise.go]
   have hlt2:t % (Region.ready md ops listed).length<(Region.ready md ops listed).length:=Nat.mod_lt _ (List.length_pos_iff.2 hne)
   have hgo:(match (Region.ready md ops listed)[t % (Region.ready md ops listed).length]? with
    | some i=>Region.linearise.go md ops (ops.size - N+fuel) (t / (Region.ready md ops listed).length) (listed.setIfInBounds i true) [i]
    | none=>[].reverse)=(Region.ready md ops listed)[t % (Region.ready md ops listed).length] :: Region.linearise.go md ops (ops.size - N+fuel) (t / (Region.ready md ops listed).length) (listed.setIfInBounds (Region.ready md ops listed)[t % (Region.ready md ops listed).length] true) []:=by
    rw[List.getElem?_eq_getElem hlt2]
    simp only[]
    rw[linearise_go_acc,List.reverse_singleton,List.singleton_append]
   change wpOpsIn F n P ops (Exit.then (fun a w=>T a w∧((match (Region.ready md ops listed)[t % (Region.ready md ops listed).length]? with
    | some i=>Region.linearise.go md ops (ops.size - N+fuel) (t / (Region.ready md ops listed).length) (listed.setIfInBounds i true) [i]
    | none=>[].reverse):List Nat).drop (fuel+1)=_) rB) (((match (Region.ready md ops listed)[t % (Region.ready md ops listed).length]? with
    | some i=>Region.linearise.go md ops (ops.size - N+fuel) (t / (Region.ready md ops listed).length) (listed.setIfInBounds i true) [i]
    | none=>[].reverse):List Nat).take (fuel+1)) a w
   rw[hgo]
   generalize hi:(Region.ready md ops listed)[t % (Region.ready md ops listed).length]=i
   have him:i∈Region.ready md ops listed:=by rw[← hi];exact List.getElem_mem hlt2
   rw[List.take_succ_cons,List.drop_succ_cons,wpOpsIn_cons]
   have h1:=hall i him
   have h2:=wpOpIn_mono (fun a' w' hK=>Kl hro fuel (t / (Region.ready md ops listed).length) (listed.setIfInBounds i true) a' w' hK.2) h1
   unfold wpOpIn at h2⊢
   split
   ·rename_i ho;simpa [ho] using h2
   ·rename_i o ho
    simp only[ho] at h2
    split
    ·rename_i hw
     simp only[hw,if_true] at h2
     refine⟨h2.1,?_⟩
     have h3:=h2.2
     generalize (o.semAt F.round a.eval).run P w=r at h3⊢
     cases r with
     | halt x w'=>cases x <;> first|exact h3.elim|exact h3
     | ok x w'=>
       cases x with
       | enter f args=>exact⟨h3.1,h3.2.mono fun e w h=>by
        cases e with
        | returned v=>exact h
        | panicked c=>exact h.elim
        | outgrown=>obtain⟨_,_,hx⟩:=h;exact hx.elim⟩
       | round l' f t x y=>exact⟨h3.1,h3.2.mono fun e w h=>by
        cases e with
        | returned v=>exact h
        | panicked c=>exact h.elim
        | outgrown=>obtain⟨_,_,hx⟩:=h;exact hx.elim⟩
       | _=>exact h3
    ·rename_i hw
     simp only[hw] at h2
     exact h2
theorem wpAnyS_first{i:Nat}{oi:Oper}{v:Value}(hro:F.round=none)(hs:Region.sinkB md ops N=true)(hc:Region.chainB md ops N=true)(hN:N<ops.size)(hi:ops[i]? =some oi)(hsel:∀ (j:Nat) (o:Oper) cs b,ops[j]? =some o→o.op≠.select cs b)(Vj:i<N):
 ∀ (fuel:Nat) (listed:Array Bool) (a:Act) (w:World),HeadInv md ops N listed→
   (∀j oj,ops[j]? =some oj→j≠i→listed.getD j true=false→(∀e∈oj.after,Region.binds md e=true→e.on≠i)→oi.apart ops oj=true)→
   i∈Region.ready md ops listed→bK P ops S oi v a→S w→
   wpAnyS F n P md ops S T N fuel (listed.setIfInBounds i true) (a.put oi.dst v) w→wpAnyS F n P md ops S T N (fuel+1) listed a w:=by
 intro fuel
 induction fuel with
 | zero=>
   intro listed a w inv _ hr hy hS H
   have hun:=(mem_ready.1 hr).1
   refine⟨fun h=>(by rw[h] at hr;cases hr),fun j hj=>?_⟩
   by_cases hji:j=i
   ·subst hji;exact hy.wpOpIn hro hi hS ⟨hS,H⟩
   ·have:=ready_mono hj hji
    rw[H.1.2] at this
    have h1:j=N:=by simpa using this
    exact absurd hj (tail_waits hs hc hN inv _ i rfl Vj hun j zo)
 | succ fuel ih=>
   intro listed a w inv hfree hr hy hS H
   have hun:=(mem_ready.1 hr).1
   refine⟨fun h=>(by rw[h] at hr;cases hr),fun j hj=>?_⟩
   by_cases hji:j=i
   ·subst hji;exact hy.wpOpIn hro hi hS ⟨hS,H⟩
   ·have UP:j<N:=Nat.lt_of_not_le fun h=>tail_waits hs hc hN inv _ i rfl Vj hun j h hj
    have h1:=H.2 j (ready_mono hj hji)
    obtain⟨hjun,oj,hoj,hall⟩:=mem_ready.1 hj
    have hnot:∀e∈oj.after,Region.binds md e=true→e.on≠i:=fun e he hb heq=>by
     have h1:=hall e he hb
     have h0:=(mem_ready.1 hr).1
     rw[heq] at h1
     rcases Nat.lt_or_ge i listed.size with h'|h'
     ·simp[h'] at h0 h1;rw[h0] at h1;cases h1
     ·simp[Array.getElem?_eq_none h'] at h1
    have h2:=rH hro hoj (hfree j oj hoj hji hjun hnot) (fun cs b=>hsel i oi cs b hi) (fun cs b=>hsel j oj cs b hoj) (fun _ _ _ h=>h) hy h1
    have hfree':∀k ok,ops[k]? =some ok→k≠i→(listed.setIfInBounds j true).getD k true=false→
     (∀e∈ok.after,Region.binds md e=true→e.on≠i)→oi.apart ops ok=true:=fun k ok hk hki hun hno=>by
     refine hfree k ok hk hki ?_ hno
     by_cases hjk:j=k
     ·subst hjk;exact hjun
     ·rw[getD_set_ne true hjk] at hun;exact hun
    refine wpOpIn_mono (fun a' w' h3=>⟨h3.2.1,ih (listed.setIfInBounds j true) a' w' (inv.set hj UP) hfree' (ready_mono hr (Ne.symm hji)) h3.1 h3.2.1 ?_⟩) h2
    rw[Array.setIfInBounds_comm _ _ hji]
    exact h3.2.2
def KP(md:Region.Mode)(ops:Array Oper)(N:Nat)(listed:Array Bool):Bool:=listed.size == ops.size && (List.range ops.size).all (fun j=>!listed.getD j false || ((ops[j]?).map fun o=>o.after.all fun e=>!Region.binds md e || listed.getD e.on false).getD true) && (List.range ops.size).all fun t=>decide (t<N) || !listed.getD t true
theorem MS{listed:Array Bool}(h:KP md ops N listed=true):HeadInv md ops N listed:=by
 simp only[KP,Bool.and_eq_true,beq_iff_eq,List.all_eq_true,List.mem_range] at h
 obtain⟨⟨h1,h2⟩,h3⟩:=h
 refine⟨h1,fun j oj hj hl e he hb=>?_,fun t ht ht'=>?_⟩
 ·have hjl:j<ops.size:=(Array.getElem?_eq_some_iff.1 hj).1
  have h4:=h2 j hjl
  rw[hl,hj] at h4
  simp only[Bool.not_true,Bool.false_or,Option.map_some,Option.getD_some] at h4
  obtain⟨k,hk,hke⟩:=Array.mem_iff_getElem.1 he
  have h5:=Array.all_eq_true.1 h4 k hk
  rw[hke,hb] at h5
  simpa using h5
 ·have h4:=h3 t ht'
  simp only[Bool.or_eq_true,decide_eq_true_eq,Bool.not_eq_true'] at h4
  exact h4.resolve_left zo
theorem GK{i:Nat}(d:Option Tmp){oi:Oper}{v:Value}{fuel:Nat}{listed:Array Bool}{a:Act}{w:World}(hro:F.round=none)(hB:(Region.sinkB md ops N && Region.chainB md ops N && decide (N<ops.size) && Region.noSelect ops)=true)(hi:ops[i]? =some oi)(Vj:i<N)
 (hh:KP md ops N listed=true)(hf:Region.free md ops listed i=true)(hr:(Region.ready md ops listed).contains i=true)(hd:oi.dst=d)(hy:bK P ops S oi v a)(hS:S w)
 (h:wpAnyS F n P md ops S T N fuel (listed.setIfInBounds i true) (a.put d v) w):wpAnyS F n P md ops S T N (fuel+1) listed a w:=by
 subst hd
 simp only[Bool.and_eq_true,decide_eq_true_eq] at hB
 obtain⟨⟨⟨b1,b2⟩,b3⟩,b4⟩:=hB
 exact wpAnyS_first hro b1 b2 b3 hi (Region.noSelect_spec b4) Vj fuel listed a w (MS hh) (Region.free_spec hi hf) (by simpa using hr) hy hS h
theorem qC{i:Nat}(d:Option Tmp){oi:Oper}{v:Value}{fuel:Nat}{listed:Array Bool}{a:Act}{w:World}(hS:S w)(h:wpAnyS F n P md ops S T N fuel (listed.setIfInBounds i true) (a.put d v) w)
 (hro:F.round=none:=by exact rfl)(hB:(Region.sinkB md ops N && Region.chainB md ops N && decide (N<ops.size) && Region.noSelect ops)=true:=by kernel_rfl)(hi:ops[i]? =some oi:=by exact rfl)(Vj:i<N:=by decide)
 (hh:KP md ops N listed=true:=by kernel_rfl)(hf:Region.free md ops listed i=true:=by kernel_rfl)(hr:(Region.ready md ops listed).contains i=true:=by kernel_rfl)(hd:oi.dst=d:=by rfl)
 (hy:bK P ops S oi v a:=by exact⟨Or.inl ⟨zr,by intro wq xd;(try dsimp only at xd);go_simp;all_goals with_reducible rfl⟩,fun _=>rfl⟩):wpAnyS F n P md ops S T N (fuel+1) listed a w:=
 GK d hro hB hi Vj hh hf hr hd hy hS h
theorem FQ(i:Nat){o:Oper}{fuel:Nat}{listed:Array Bool}{a:Act}{w:World}
 (h:∀K':Act→World→Prop,Shut (∀a w,S w→wpAnyS F n P md ops S T N fuel (listed.setIfInBounds i true) a w→K' a w)→if Region.wanted o (yielded ops a.tmps)=true then Oper.wpIn F n P o a w K' rB else(∀f,o.about P w a.eval=some f→F.fn f)∧K' (a.put o.dst undef) w)(hr:Region.ready md ops listed=[i]:=by kernel_rfl)(ho:ops[i]? =some o:=by exact rfl):
 wpAnyS F n P md ops S T N (fuel+1) listed a w:=by
 refine⟨(fun h0=>by rw[hr] at h0;cases h0),fun j hj=>?_⟩
 rw[hr] at hj
 obtain rfl:j=i:=by simpa using hj
 exact wpOpIn_step ho fun K' hK=>h K' fun a w hS hW=>hK a w ⟨hS,hW⟩
theorem uo{listed:Array Bool}{a:Act}{w:World}(hB:(gN md ops (ops.size - N) N listed && (Region.ready md ops listed == [N]))=true)(h:T a w):wpAnyS F n P md ops S T N 0 listed a w:=by
 simp only[Bool.and_eq_true,beq_iff_eq] at hB
 exact⟨hB,h⟩
end
section
variable{fn:Func}{R:Value→World→Prop}{l:List Code}{a:Act}{w:World}
theorem aj.F4{id:Nat}{lo:List Oper}(N:Nat)(S:World→Prop)(hN:N≤lo.length){rest:List Nat}(hrest:(List.range (lo.toArray.size - N)).map (N+ ·)=N :: rest)
 (h:wpAnyS FF 0 prog .any lo.toArray S (rO lo.toArray N rest fn R l) N N (Array.replicate lo.toArray.size false) a w.drew):aj fn R (.region id lo.toArray true :: l) a w:=fun b cs hb hk hf hfn=>by
 have hm:Tryz.prog.follows .mixedOrders=true:=zk
 have k1:=Kl (F:=FF) rfl N (w.tape w.drawn (.order b.fn id)) _ a w.drew h
 have hsz:lo.toArray.size - N+N=lo.toArray.size:=zm
 rw[hsz] at k1
 obtain⟨a',w',⟨Tl,hdrop⟩,hs⟩:=kL (l2:=(Region.linearise.go .any lo.toArray lo.toArray.size (w.tape w.drawn (.order b.fn id)) (Array.replicate lo.toArray.size false) []).drop N) _ a _ k1 b (l.map Item.code) cs hb hf
 rw[hdrop,hrest] at hs
 refine Via.from_ (.head (fenced_calm (n:=0) hf (bJ _) rfl) stepR_region_draw ?_) (Tl.via b cs hb hk hf hfn)
 have e:(Region.linearise.go .any lo.toArray lo.toArray.size (w.tape w.drawn (.order b.fn id)) (Array.replicate lo.toArray.size false) []).take N ++ N :: rest=Region.linearise.go .any lo.toArray lo.toArray.size (w.tape w.drawn (.order b.fn id)) (Array.replicate lo.toArray.size false) []:=by
  rw[← hrest,← hdrop,List.take_append_drop]
 rw[e] at hs
 simp only[Region.schedule,hm,Bool.true_or,if_true]
 exact hs
end
end
section
open Go.RowKit
open Go.Sort (grow)
attribute [local go_sem] Oper.semAt_some
def tg:Nat→Good
 | 0=>⟨⟨#[116,101,97]⟩,5,4,3,3⟩
 | _=>⟨⟨#[114,105,99,101]⟩,2,10,5,6⟩
def tm:Nat→Mv
 | 0=>⟨0,0,2,4,4⟩
 | 1=>⟨1,0,3,2,3⟩
 | 2=>⟨2,1,4,0,1⟩
 | _=>⟨0,1,5,10,10⟩
def tc:Nat→Ct
 | 0=>⟨0,10,4,5⟩
 | _=>⟨1,10,5,5⟩
def Tb(most:Int)(G M C:Nat):Bk:=⟨10,most,some ⟨G,0,none⟩,2,2,tg,some ⟨M,0,none⟩,4,4,tm,some ⟨C,0,none⟩,2,2,tc⟩
theorem bQ{w:World}{B size n:Nat}{t:TypeId}{cs:Array Value}{f:Nat→Nat→Value}(h:Whole w B t cs)(hc:∀i j,i<n→j<size→cs[i * size+j]? =some (f i j)):Rows w w.heap.size size (some ⟨B,0,none⟩) n f:=fun _=>
 ⟨_,rfl,h.lt,fun i j hi hj=>by
   have e:((⟨B,0,none⟩:Addr).add (i * size+j))=⟨B,i * size+j,none⟩:=by unfold Addr.add;split <;> simp_all
   rw[e,h.cell]
   exact hc i j hi hj⟩
theorem py(a b:Int)(w:World):CallsIn FF 0 prog 7 #[int i64 a,int i64 b] w fun e w'=>e=.returned (.agg #[int i64 a,int i64 b])∧Below w.heap.size w w':=by
 gi_enter func7,ntmps7
 gi_wp2
 refine bodyPost_ret (v:=.agg #[int i64 a,int i64 b]) (by simp[results,results7,go_sem]) rfl ⟨rfl,bw⟩
end
end Go.Proofs.YtoldgagdgjilgaaGreat
