/- J0 J1 J2 J3 HT WN WK HV HM -/
import Derived.Test.YthaelabgfnnebaaGreatD6
import Derived.Test.YthaelabgfnnebaaGreatB3
import Derived.Shelf.SlIterI.Sorted
import Derived.Shelf.SortM.AssemblyIn
import Derived.Shelf.SortM.SortNone
import Derived.Ground.GgzProg
import Derived.Ground.SlgmProg
set_option maxRecDepth 100000
set_option maxHeartbeats 16000000
set_option linter.unusedVariables false
set_option linter.unusedSectionVars false
open Go.IntKind(i64)
open Go.Lib(hid)
open Go.Proofs.Tryz
open Go.Value(int)
namespace Go.Proofs.YthaelabgfnnebaaGreat
section
open Go Go.Conc Go.ConcN Go.cu Go.Conc.Lib Go.aO Go.Sort Go.RowKit
variable[Inhabited aV]
abbrev Fd:Machine→Prop:=Machine.fenced prog FF
def Li(n cb:Nat)(bit:Nat→Bool)(w:World):Prop:=n<2147483648∧∃D:Nat→Prop,Closed D w∧D cb∧∃m:Nat,∀i:Nat,i<n→∀σ:Tape,CallsIn SF m prog 83 #[int i64 i,pt cb] (on (vF D w) σ) (fun e _=>e=.returned (.bool (bit i)))
def Via(m:Machine)(Fin:Machine→Prop):Prop:=∃ (n cb:Nat) (cs:List Frame) (w1:World) (bit:Nat→Bool),StepsIn Fd prog m (solo (G (kN n cb) cs) w1)∧Li n cb bit w1∧
 ∀ac:Act,gR n (fB cb) w1.heap.size ac→∀v:World,Behind n cb w1.heap.size bit w1 v→∀σ:Tape,∃m',StepsIn Fd prog ((⟨yF ac,cs,v⟩:dS.Pt).on σ).m m'∧Fin m'
theorem Via.from_{m m0:Machine}{Fin:Machine→Prop}(hs:StepsIn Fd prog m0 m)(h:Via m Fin):Via m0 Fin:=by
 obtain⟨n,cb,cs,w1,bit,h1,h2,h3⟩:=h
 exact⟨n,cb,cs,w1,bit,hs.trans h1,h2,h3⟩
theorem Via.on_{m:Machine}{Fin Fin':Machine→Prop}(h:Via m Fin)(hf:∀m',Fin m'→∃m2,StepsIn Fd prog m' m2∧Fin' m2):Via m Fin':=by
 obtain⟨n,cb,cs,w1,bit,h1,h2,h3⟩:=h
 refine⟨n,cb,cs,w1,bit,h1,h2,fun ac ha v hb σ=>?_⟩
 obtain⟨m',h4,h5⟩:=h3 ac ha v hb σ
 obtain⟨m2,h6,h7⟩:=hf m' h5
 exact⟨m2,h4.trans h6,h7⟩
def Left(f:FuncId)(cs:List Frame)(R:Value→World→Prop)(m:Machine):Prop:=∃v w' fr,R v w'∧m=lone fr cs w'∧fr.fn=f∧fr.leaving prog w' (.returned v)
def iR(f:FuncId)(args:Array Value)(w:World)(R:Value→World→Prop):Prop:=FF.fn f∧∀cs,Via (lone (Frame.enter prog f args .normal) cs w) (Left f cs R)
def Em(R:Value→World→Prop):Ending→World→Prop:=fun e w=>∃v,e=.returned v∧R v w
section
variable{fn:Func}{R:Value→World→Prop}{ops:Array Oper}
def yR(Q:Exit→Act→World→Prop):List Code→Act→World→Prop
 | [],a,w=>Q .normal a w
 | c :: l,a,w=>c.wpIn FF 0 prog (Exit.then (yR Q l) Q) a w
theorem oD{m:Machine}{b:Frame}{k:List Item}{cs:List Frame}{e:Exit}{a:Act}{w:World}:∀ (l:List Code),e≠.normal→ArrivesIn Fd prog m b (l.map Item.code ++ k) cs e a w→ArrivesIn Fd prog m b k cs e a w
 | [],_,h=>h
 | y :: l,he,h=>oD l he (.pass (x:=.code y) rfl (fun _ _=>.inl he) h)
theorem Bw{Q:Exit→Act→World→Prop}:∀ (l:List Code) (a:Act) (w:World),yR Q l a w→∀ (b:Frame) (k:List Item) (cs:List Frame),b.roundOf=none→FF.fn b.fn→
 ∃e a' w',Q e a' w'∧ArrivesIn Fd prog (lone (b.atR a (l.map Item.code ++ k)) cs w) b k cs e a' w'
 | [],a,w,h,b,k,cs,_,_=>⟨.normal,a,w,h,.refl _⟩
 | c :: l,a,w,h,b,k,cs,hb,hf=>by
   obtain⟨e,a1,w1,hq,harr⟩:=h b (l.map Item.code ++ k) cs hb hf (bL _)
   cases e with
   | normal=>
     obtain⟨e2,a2,w2,hq2,LP⟩:=Bw l a1 w1 hq b k cs hb hf
     exact⟨e2,a2,w2,hq2,.of_steps harr LP⟩
   | exit id=>exact⟨_,a1,w1,hq,oD l zs harr⟩
   | goto t=>exact⟨_,a1,w1,hq,oD l zs harr⟩
   | ret=>exact⟨_,a1,w1,hq,oD l zs harr⟩
   | panic ch=>exact⟨_,a1,w1,hq,oD l zs harr⟩
   | outgrown=>exact⟨_,a1,w1,hq,oD l zs harr⟩
theorem Cj{l:List Code}{rest:List Nat}{a:Act}{w:World}(h:wpOpsIn FF 0 prog ops (Exit.then (yR (bodyPost prog fn (Em R)) l) (bodyPost prog fn (Em R))) rest a w)(b:Frame)(cs:List Frame)(hb:b.roundOf=none)(hk:b.kind=.normal)(hf:FF.fn b.fn)(hfn:Tryz.prog.funcs[b.fn]? =some fn):
 ∃m',StepsIn Fd prog (lone (b.atR a (.inRegion ops rest :: l.map Item.code)) cs w) m'∧Left b.fn cs R m':=by
 have fin:∀ (m:Machine) (e:Exit) (a':Act) (w':World),bodyPost prog fn (Em R) e a' w'→ArrivesIn Fd prog m b [] cs e a' w'→∃m',StepsIn Fd prog m m'∧Left b.fn cs R m':=by
  intro m e a' w' hq harr
  cases e with
  | normal=>
    obtain⟨hd,v,hr,v',hv,hR⟩:=hq
    cases hv
    exact⟨_,StepsIn.trans harr (.one (fenced_calm (n:=0) (fr:=b.atR a' []) hf (bL _) rfl) (stepR_end hb)),v,w',_,hR,rfl,rfl,rfl,hd,hk,fn,hfn,hr⟩
  | ret=>
    obtain⟨hd,v,hr,v',hv,hR⟩:=hq
    cases hv
    obtain⟨todo,hs⟩:=harr.1 hb
    exact⟨_,hs,v,w',_,hR,rfl,rfl,rfl,hd,hk,fn,hfn,hr⟩
  | panic chain=>obtain⟨_,v',hv,_⟩:=hq;cases hv
  | exit id=>exact hq.elim
  | goto t=>exact hq.elim
  | outgrown=>obtain⟨v',hv,_⟩:=hq;cases hv
 obtain⟨e,a1,w1,hq,harr⟩:=wp_opsIn _ a w h b (l.map Item.code) cs hb hf (bL _)
 cases e with
 | normal=>
   obtain⟨e2,a2,w2,hq2,LP⟩:=Bw l a1 w1 hq b [] cs hb hf
   rw[List.append_nil] at LP
   obtain⟨m',h1,h2⟩:=fin _ e2 a2 w2 hq2 LP
   exact⟨m',StepsIn.trans harr h1,h2⟩
 | ret=>exact fin _ .ret a1 w1 hq harr
 | panic chain=>obtain⟨_,v',hv,_⟩:=hq;cases hv
 | exit id=>exact hq.elim
 | goto t=>exact hq.elim
 | outgrown=>obtain⟨v',hv,_⟩:=hq;cases hv
theorem mG{T:Act→World→Prop}{l2:List Nat}:∀ (l1:List Nat) (a:Act) (w:World),wpOpsIn FF 0 prog ops (Exit.then T fun _ _ _=>False) l1 a w→∀ (b:Frame) (k:List Item) (cs:List Frame),b.roundOf=none→FF.fn b.fn→
 ∃a' w',T a' w'∧StepsIn Fd prog (lone (b.atR a (.inRegion ops (l1 ++ l2) :: k)) cs w) (lone (b.atR a' (.inRegion ops l2 :: k)) cs w')
 | [],a,w,h,b,k,cs,_,_=>⟨a,w,h,.refl _⟩
 | i :: l1,a,w,h,b,k,cs,hb,hf=>by
   rw[List.cons_append]
   simp only[wpOpsIn] at h
   cases ho:ops[i]? with
   | none=>
     simp only[ho] at h
     obtain⟨a',w',h1,h2⟩:=mG l1 a w h b k cs hb hf
     have hs:=stepR_op_skip (P:=prog) (b:=b) (a:=a) (k:=k) (cs:=cs) (w:=w) (ops:=ops) (i:=i) (rest:=l1 ++ l2) (by simp[ho])
     simp only[ho,Option.bind_none,Act.put] at hs
     exact⟨a',w',h1,.head (fenced_noOper (n:=0) hf (bL _) ho) hs h2⟩
   | some o=>
     simp only[ho] at h
     by_cases hw:Region.wanted o (yielded ops a.tmps)=true
     ·simp only[hw,if_true,Oper.wpIn] at h
      obtain⟨habout,h⟩:=h
      have h0:Fd (lone (b.atR a (.inRegion ops (i :: (l1 ++ l2)) :: k)) cs w):=fenced_oper (n:=0) hf (bL _) ho habout
      have hg:=stepGR_op (P:=prog) (b:=b) (k:=k) (cs:=cs) (w:=w) (rest:=l1 ++ l2) ho hw
      rw[hb] at hg
      have hfin:∀ (a:Act) v,(b.atR a (.inRegion ops (i :: (l1 ++ l2)) :: k)).finish v=b.atR (a.put o.dst v) (.inRegion ops (l1 ++ l2) :: k):=fun a v=>by rw[Frame.finish_atR,ho];rfl
      have hro:FF.round=none:=rfl
      rw[hro] at h
      generalize hr:(o.semAt none a.eval).run prog w=r at h
      cases r with
      | halt x w1=>cases x <;> exact h.elim
      | ok x w1=>
        cases x with
        | value v=>
          obtain⟨a',w',h1,h2⟩:=mG l1 _ _ h b k cs hb hf
          exact⟨a',w',h1,.head h0 (step_lone_go (by rw[hg,← hfin];simp[stepG.apply,hr])) h2⟩
        | skip=>
          obtain⟨a',w',h1,h2⟩:=mG l1 _ _ h b k cs hb hf
          exact⟨a',w',h1,.head h0 (step_lone_go (by rw[hg,← hfin];simp[stepG.apply,hr])) h2⟩
        | enter f args=>
          obtain⟨_,hF,h⟩:=h
          obtain⟨e,w2,fr,hR,hsteps,hfn,hleave⟩:=h (b.atR a (.inRegion ops (i :: (l1 ++ l2)) :: k) :: cs) (bL _)
          have henter:step prog (lone (b.atR a (.inRegion ops (i :: (l1 ++ l2)) :: k)) cs w)=.next (lone (Frame.enter prog f args .normal) (b.atR a (.inRegion ops (i :: (l1 ++ l2)) :: k) :: cs) w1):=
           step_lone_go (by rw[hg];simp[stepG.apply,hr,Frame.atR])
          cases e with
          | returned v=>
            have hl:Fd (lone fr (b.atR a (.inRegion ops (i :: (l1 ++ l2)) :: k) :: cs) w2):=fenced_leaving (n:=0) (hfn ▸ hF) (bL _) hleave
            obtain⟨a',w',h1,h2⟩:=mG l1 _ _ hR b k cs hb hf
            refine⟨a',w',h1,.head h0 henter (StepsIn.trans hsteps (.head hl ?_ h2))⟩
            rw[← hfin]
            exact step_leave_returned hleave
          | panicked chain=>exact hR.elim
          | outgrown=>obtain⟨_,_,hx⟩:=hR;exact hx.elim
        | row row args=>
          obtain⟨_,h⟩:=h
          obtain⟨v,w2,hR,hsteps⟩:=h (b.atR a (.inRegion ops (i :: (l1 ++ l2)) :: k)) cs (bL _)
          have henter:step prog (lone (b.atR a (.inRegion ops (i :: (l1 ++ l2)) :: k)) cs w)=.next (lone (Frame.ofRow prog row args .normal) (b.atR a (.inRegion ops (i :: (l1 ++ l2)) :: k) :: cs) w1):=
           step_lone_go (by rw[hg];simp[stepG.apply,hr,Frame.atR])
          obtain⟨a',w',h1,h2⟩:=mG l1 _ _ hR b k cs hb hf
          rw[hfin] at hsteps
          exact⟨a',w',h1,.head h0 henter (StepsIn.trans hsteps h2)⟩
        | defer d=>
          obtain⟨a',w',h1,h2⟩:=mG l1 _ _ h b k cs hb hf
          refine⟨a',w',h1,.head h0 (step_lone_go ?_) h2⟩
          have:({b.atR a (.inRegion ops (i :: (l1 ++ l2)) :: k) with defers:=d :: a.defers }:Frame).finish undef=b.atR ({a with defers:=d :: a.defers }.put o.dst undef) (.inRegion ops (l1 ++ l2) :: k):=hfin {a with defers:=d :: a.defers } undef
          rw[hg]
          simp only[stepG.apply,Sem.runT_eq,hr,GStep.bare_after]
          exact congrArg (fun fr=>GStep.go {frame:=fr,callers:=cs,status:=.running,dying:=none } w1) this
        | round l f tmps assign body=>
          obtain⟨_,_,h⟩:=h
          obtain⟨e,w2,hR,hsteps⟩:=h (b.atR a (.inRegion ops (i :: (l1 ++ l2)) :: k)) cs (bL _)
          have henter:step prog (lone (b.atR a (.inRegion ops (i :: (l1 ++ l2)) :: k)) cs w)=.next (lone (Frame.round l f tmps assign body .normal) (b.atR a (.inRegion ops (i :: (l1 ++ l2)) :: k) :: cs) w1):=
           step_lone_go (by rw[hg];simp[stepG.apply,hr,Frame.atR])
          cases e with
          | returned v=>
            obtain⟨a',w',h1,h2⟩:=mG l1 _ _ hR b k cs hb hf
            simp only[hfin] at hsteps
            exact⟨a',w',h1,.head h0 henter (StepsIn.trans hsteps h2)⟩
          | panicked chain=>exact hR.elim
          | outgrown=>obtain⟨_,_,hx⟩:=hR;exact hx.elim
        | _=>exact h.elim
     ·simp only[hw,if_false,Bool.false_eq_true] at h
      obtain⟨habout,h⟩:=h
      obtain⟨a',w',h1,h2⟩:=mG l1 _ _ h b k cs hb hf
      have hs:=stepR_op_skip (P:=prog) (b:=b) (a:=a) (k:=k) (cs:=cs) (w:=w) (ops:=ops) (i:=i) (rest:=l1 ++ l2) (by simp[ho];simpa using hw)
      simp only[ho,Option.bind_some] at hs
      exact⟨a',w',h1,.head (fenced_oper (n:=0) hf (bL _) ho habout) hs h2⟩
end
section
variable{fn:Func}{R:Value→World→Prop}{ops:Array Oper}
def vR(ops:Array Oper)(i:Nat)(rest:List Nat)(fn:Func)(R:Value→World→Prop)(l:List Code)(a:Act)(w:World):Prop:=
 ∃o f args w1 Rc,ops[i]? =some o∧Region.wanted o (yielded ops a.tmps)=true∧(o.semAt none a.eval).run prog w=.ok (.enter f args) w1∧(∀g,o.about prog w a.eval=some g→FF.fn g)∧iR f args w1 Rc∧
  ∀v w2,Rc v w2→wpOpsIn FF 0 prog ops (Exit.then (yR (bodyPost prog fn (Em R)) l) (bodyPost prog fn (Em R))) rest (a.put o.dst v) w2
theorem vR.via{i:Nat}{rest:List Nat}{l:List Code}{a:Act}{w:World}(h:vR ops i rest fn R l a w)(b:Frame)(cs:List Frame)(hb:b.roundOf=none)(hk:b.kind=.normal)(hf:FF.fn b.fn)(hfn:Tryz.prog.funcs[b.fn]? =some fn):
 Via (lone (b.atR a (.inRegion ops (i :: rest) :: l.map Item.code)) cs w) (Left b.fn cs R):=by
 obtain⟨o,f,args,w1,Rc,ho,hw,hr,habout,hcv,hrest⟩:=h
 have h0:Fd (lone (b.atR a (.inRegion ops (i :: rest) :: l.map Item.code)) cs w):=fenced_oper (n:=0) hf (bL _) ho habout
 have hg:=stepGR_op (P:=prog) (b:=b) (k:=l.map Item.code) (cs:=cs) (w:=w) (rest:=rest) ho hw
 rw[hb] at hg
 have hfin:∀v,(b.atR a (.inRegion ops (i :: rest) :: l.map Item.code)).finish v=b.atR (a.put o.dst v) (.inRegion ops rest :: l.map Item.code):=fun v=>by rw[Frame.finish_atR,ho];rfl
 have henter:step prog (lone (b.atR a (.inRegion ops (i :: rest) :: l.map Item.code)) cs w)=.next (lone (Frame.enter prog f args .normal) (b.atR a (.inRegion ops (i :: rest) :: l.map Item.code) :: cs) w1):=
  step_lone_go (by rw[hg];simp[stepG.apply,hr,Frame.atR])
 refine Via.from_ (.one h0 henter) ((hcv.2 _).on_ fun m' hm=>?_)
 obtain⟨v,w2,fr,hRc,rfl,pT,hleave⟩:=hm
 obtain⟨m2,h1,h2⟩:=Cj (hrest v w2 hRc) b cs hb hk hf hfn
 have hl:Fd (lone fr (b.atR a (.inRegion ops (i :: rest) :: l.map Item.code) :: cs) w2):=fenced_leaving (n:=0) (by rw[pT];exact hcv.1) (bL _) hleave
 refine⟨m2,.head hl ?_ h1,h2⟩
 rw[← hfin]
 exact step_leave_returned hleave
def aj(fn:Func)(R:Value→World→Prop)(l:List Code)(a:Act)(w:World):Prop:=∀ (b:Frame) (cs:List Frame),b.roundOf=none→b.kind=.normal→FF.fn b.fn→Tryz.prog.funcs[b.fn]? =some fn→Via (lone (b.atR a (l.map Item.code)) cs w) (Left b.fn cs R)
variable{l:List Code}{a:Act}{w:World}{x y:Code}
theorem aj.of_steps{l':List Code}{a':Act}{w':World}(hs:∀ (b:Frame) (cs:List Frame),b.roundOf=none→FF.fn b.fn→StepsIn Fd prog (lone (b.atR a (l.map Item.code)) cs w) (lone (b.atR a' (l'.map Item.code)) cs w'))
 (h:aj fn R l' a' w'):aj fn R l a w:=fun b cs hb hk hf hfn=>Via.from_ (hs b cs hb hf) (h b cs hb hk hf hfn)
theorem aj.seq(h:aj fn R (x :: y :: l) a w):aj fn R (.seq x y :: l) a w:=.of_steps (fun _ _ _ hf=>.head (fenced_calm (n:=0) hf (bL _) rfl) stepR_seq (.refl _)) h
theorem aj.skip(h:aj fn R l a w):aj fn R (.skip :: l) a w:=.of_steps (fun _ _ _ hf=>.head (fenced_calm (n:=0) hf (bL _) rfl) stepR_skip (.refl _)) h
theorem aj.cond{c:Operand}{t:Bool}(hc:a.eval c=.bool t)(h:aj fn R ((if t then x else y) :: l) a w):aj fn R (.cond c x y :: l) a w:=.of_steps (fun _ _ _ hf=>.head (fenced_calm (n:=0) hf (bL _) rfl) (stepR_cond hc) (.refl _)) h
theorem aj.cond_true{c:Operand}(hc:a.eval c=.bool true)(h:aj fn R (x :: l) a w):aj fn R (.cond c x y :: l) a w:=.cond hc h
theorem aj.cond_false{c:Operand}(hc:a.eval c=.bool false)(h:aj fn R (y :: l) a w):aj fn R (.cond c x y :: l) a w:=.cond hc h
theorem aj.item(h:x.wpIn FF 0 prog (Exit.then (aj fn R l) fun _ _ _=>False) a w):aj fn R (x :: l) a w:=fun b cs hb hk hf hfn=>by
 obtain⟨e,a1,w1,hq,hr⟩:=h b (l.map Item.code) cs hb hf (bL _)
 cases e <;> first|exact hq.elim|skip
 exact Via.from_ hr (hq b cs hb hk hf hfn)
theorem aj.region{id i:Nat}{l1 rest:List Nat}(hl:List.range ops.size=l1 ++ i :: rest)(h:wpOpsIn FF 0 prog ops (Exit.then (vR ops i rest fn R l) fun _ _ _=>False) l1 a w):aj fn R (.region id ops false :: l) a w:=fun b cs hb hk hf hfn=>by
 obtain⟨a',w',hT,hs⟩:=mG (l2:=i :: rest) l1 a w h b (l.map Item.code) cs hb hf
 refine Via.from_ (.head (fenced_calm (n:=0) hf (bL _) rfl) stepR_region ?_) (hT.via b cs hb hk hf hfn)
 rw[hl]
 exact hs
theorem kE{f:FuncId}{c:Code}{args:Array Value}(hf:Tryz.prog.funcs[f]? =some fn)(hb:fn.body=some c)(hF:FF.fn f)(h:aj fn R [c] {tmps:=args ++ Array.replicate (fn.ntmps - args.size) undef,defers:=[] } w):iR f args w R:=by
 refine⟨hF,fun cs=>?_⟩
 have henter:Frame.enter prog f args .normal=(base f).atR {tmps:=args ++ Array.replicate (fn.ntmps - args.size) undef,defers:=[] } [.code c]:=by
  simp[Frame.enter,Frame.atR,hf,hb,base]
  rfl
 rw[henter]
 exact h (base f) cs rfl rfl hF hf
variable{F:Fence}{n:Nat}{P:Program}{md:Region.Mode}{S:World→Prop}{T:Act→World→Prop}{N:Nat}
end
end
section
open Go Go.Conc Go.ConcN Go.cu Go.Conc.Lib Go.aO Go.Sort Go.RowKit
attribute [local go_sem] Oper.semAt_some
variable[Inhabited aV]
section
variable{fn:Func}{R Rc:Value→World→Prop}{ops:Array Oper}{a:Act}{w:World}{l:List Code}
theorem kW{F:Fence}{n:Nat}{P:Program}{Q:Exit→Act→World→Prop}:∀ (lo:List Oper) (k:Nat) (a:Act) (w:World),(∀j,j<lo.length→lo[j]? =ops[k+j]?)→wpListIn F n P ops Q lo a w→wpOpsIn F n P ops Q (List.range' k lo.length) a w
 | [],_,_,_,_,h=>h
 | o :: lo,k,a,w,hj,h=>by
   have h0:ops[k]? =some o:=by simpa using (hj 0 zs).symm
   have ih:∀a w,wpListIn F n P ops Q lo a w→wpOpsIn F n P ops Q (List.range' (k+1) lo.length) a w:=fun a w h=>kW lo (k+1) a w (fun j hl=>by have:=hj (j+1) (by simpa using hl);simpa [Nat.add_assoc,Nat.add_comm 1 j] using this) h
   rw[List.length_cons,List.range'_succ,wpOpsIn_cons]
   refine wpOpIn_mono (fun a w h=>ih a w h) ?_
   unfold wpOpIn
   simp only[h0]
   exact h
theorem jv{lo:List Oper}{i:Nat}{o:Oper}{f:FuncId}{ag:Array Operand}{ats:Array TypeId}(ho:lo[i]? =some o)(hop:o.op=.call {callee:=.value (.func f),args:=ag,argTypes:=ats })(hw:Region.wanted o (yielded lo.toArray a.tmps)=true)(he:∀args w,(callFunc f args).run prog w=.ok (.enter f args) w)
 {args:Array Value}(ha:ag.map a.eval=args)(hv:iR f args w Rc)
 (hrest:∀v w2,Rc v w2→wpListIn FF 0 prog lo.toArray (Exit.then (yR (bodyPost prog fn (Em R)) l) (bodyPost prog fn (Em R))) (lo.drop (i+1)) (a.put o.dst v) w2):vR lo.toArray i (List.range' (i+1) (lo.drop (i+1)).length) fn R l a w:=by
 subst ha
 refine⟨o,f,ag.map a.eval,w,Rc,by simpa using ho,hw,?_,fun g hg=>?_,hv,fun v w2 h=>kW _ _ _ _ (fun j hj=>zs) (hrest v w2 h)⟩
 ·simp[Oper.semAt,execOp,hop,resolve,invoke,Act.eval,go_sem,he]
 ·simp[Oper.about,hop,resolve,Act.eval,go_sem,Target.leads] at hg
  rw[← hg]
  exact hv.1
theorem aj.iD{id:Nat}{lo:List Oper}(i:Nat)(hi:i<lo.length)(h:wpListIn FF 0 prog lo.toArray (Exit.then (vR lo.toArray i (List.range' (i+1) (lo.drop (i+1)).length) fn R l) fun _ _ _=>False) (lo.take i) a w):aj fn R (.region id lo.toArray false :: l) a w:=by
 refine aj.region (i:=i) (l1:=List.range' 0 (lo.take i).length) (rest:=List.range' (i+1) (lo.drop (i+1)).length) ?_ (kW _ 0 _ _ (fun j hj=>?_) h)
 ·have h1:(lo.take i).length=i:=zm
  have h2:(lo.drop (i+1)).length=lo.length - (i+1):=zs
  rw[h1,h2,List.size_toArray,List.range_eq_range',← List.range'_succ]
  have h3:=List.range'_append_1 (s:=0) (m:=i) (n:=lo.length - (i+1)+1)
  rw[Nat.zero_add] at h3
  rw[h3]
  congr 1
  omega
 ·have:j<i:=by have:=hj;simp at this;omega
  simp[this]
end
end
section
open Go Go.Conc Go.ConcN Go.cu Go.Conc.Lib Go.aO Go.Sort Go.RowKit
variable[Inhabited aV]
section
variable{F:Fence}{n:Nat}{P:Program}{ops:Array Oper}{md:Region.Mode}{S:World→Prop}{T:Act→World→Prop}{N:Nat}
end
section
variable{fn:Func}{R:Value→World→Prop}{l:List Code}{a:Act}{w:World}
end
end
section
open Go.RowKit
open Go.Sort (grow)
attribute [local go_sem] Oper.semAt_some
def tg:Nat→Good
 | 0=>⟨⟨#[116,101,97]⟩,5,4,3,3⟩
 | _=>⟨⟨#[114,105,99,101]⟩,2,10,5,6⟩
def tm:Nat→Mv
 | 0=>⟨0,0,2,4,4⟩
 | 1=>⟨1,0,3,2,3⟩
 | 2=>⟨2,1,4,0,1⟩
 | _=>⟨0,1,5,10,10⟩
def tc:Nat→Ct
 | 0=>⟨0,10,4,5⟩
 | _=>⟨1,10,5,5⟩
def Tb(most:Int)(G M C:Nat):Bk:=⟨10,most,some ⟨G,0,none⟩,2,2,tg,some ⟨M,0,none⟩,4,4,tm,some ⟨C,0,none⟩,2,2,tc⟩
theorem bU{w:World}{B size n:Nat}{t:TypeId}{cs:Array Value}{f:Nat→Nat→Value}(h:Whole w B t cs)(hc:∀i j,i<n→j<size→cs[i * size+j]? =some (f i j)):Rows w w.heap.size size (some ⟨B,0,none⟩) n f:=fun _=>
 ⟨_,rfl,h.lt,fun i j hi hj=>by
   have e:((⟨B,0,none⟩:Addr).add (i * size+j))=⟨B,i * size+j,none⟩:=by unfold Addr.add;split <;> simp_all
   rw[e,h.cell]
   exact hc i j hi hj⟩
theorem tU(a b:Int)(w:World):CallsIn FF 0 prog 31 #[int i64 a,int i64 b] w fun e w'=>e=.returned (.agg #[int i64 a,int i64 b])∧Below w.heap.size w w':=by
 gi_enter func31,ntmps31
 gi_wp2
 refine bodyPost_ret (v:=.agg #[int i64 a,int i64 b]) (by simp[results,results31,go_sem]) rfl ⟨rfl,bw⟩
theorem Tryz.infoCt:(Tryz.prog.info? 99).map (fun i=>(i.zero,i.size,i.bytes))=some (some (.agg #[int i64 0,int i64 0,int i64 0,int i64 0]),4,32):=zk
def CI(c:Ct):List Value:=[int i64 c.good,int i64 c.day,int i64 c.lo,int i64 c.hi]
def Jy(f:Nat→Ct)(k:Nat):List Value:=(List.range k).flatMap fun i=>CI (f i)
theorem sO(f:Nat→Ct)(k:Nat):Jy f (k+1)=Jy f k ++ CI (f k):=by unfold Jy;rw[List.range_succ,List.flatMap_append];simp
theorem rz(f:Nat→Ct):∀k,(Jy f k).length=k * 4
 | 0=>rfl
 | Nat.succ k=>by rw[sO,List.length_append,rz f k];simp[CI];omega
theorem Lx(f:Nat→Ct):∀ (k:Nat) {i j:Nat},i<k→j<4→(Jy f k)[i * 4+j]? =some ((f i).cell j)
 | 0,_,_,h,_=>zo
 | Nat.succ k,i,j,h,hj=>by
   rw[sO]
   rcases Nat.lt_or_ge i k with h1|h1
   ·rw[List.getElem?_append_left (by rw[rz];omega)]
    exact Lx f k h1 hj
   ·obtain rfl:i=k:=zo
    rw[List.getElem?_append_right (by rw[rz];omega),rz]
    rw[show i * 4+j - i * 4=j by omega]
    rcases(show j=0∨j=1∨j=2∨j=3 by omega) with rfl|rfl|rfl|rfl <;> rfl
def RH(b:Bk)(s:Nat)(i:Nat):Ct:=b.c ((aB s 10).getD i 0).toNat
def jk(b:Bk)(s:Nat)(A:Option Addr)(cc:Nat):Bk:=⟨b.days,b.most,b.gA,b.ng,b.gc,b.g,b.mA,b.nm,b.mc,b.m,A,(aB s 10).length,cc,RH b s⟩
theorem VK(b:Bk)(s:Nat)(A:Option Addr)(n p:Nat)(w:World)(hA:b.At w w.heap.size)(hs:s<1024)(hin:∀x∈aB s 10,0≤x∧x<b.nc):
 CallsIn SF 0 prog 84 #[.agg (aA b A n p),int i64 s] w fun e w'=>∃A' cc',e=.returned (.agg (aA (jk b s A' cc') A n p))∧Rows w' w'.heap.size 4 A' (aB s 10).length (fun i j=>(RH b s i).cell j)∧Below w.heap.size w w':=by
 have HS:=hid fun w=>Go.Proofs.YthaelabgfnnebaaGreat.W.kK s w hs
 obtain⟨f,hf⟩:∃f,f=RH b s:=⟨_,rfl⟩
 obtain⟨m',hm'⟩:∃m,m=(aB s 10).length:=⟨_,rfl⟩
 have aau:m'≤10:=by rw[hm'];exact tN s 10
 have HF:Hid (∀k,k<m'→∃j:Nat,(aB s 10).getD k 0=(j:Int)∧j<b.nc∧f k=b.c j):=hid fun k hk=>by
  rw[hm'] at hk
  have hmem:(aB s 10).getD k 0∈aB s 10:=by rw[List.getD_eq_getElem?_getD,List.getElem?_eq_getElem hk];exact List.getElem_mem hk
  have:=hin _ hmem
  refine⟨((aB s 10).getD k 0).toNat,zo,zo,by rw[hf];rfl⟩
 have hnc:m'=0∨0<b.nc:=by
  rcases Nat.eq_zero_or_pos m' with h|h
  ·exact .inl h
  ·obtain⟨j,_,hj,_⟩:=HF.out 0 h
   exact .inr zo
 have HE:Hid (∀A' cc',aA (jk b s A' cc') A n p=#[int i64 b.days,int i64 b.most,.slice b.gA b.ng b.gc,.slice b.mA b.nm b.mc,.slice A' m' cc',.slice A n p]):=hid fun A' cc'=>by rw[hm'];rfl
 have goal:∀ (e:Ending) (w':World),(∃A' cc',e=.returned (.agg #[int i64 b.days,int i64 b.most,.slice b.gA b.ng b.gc,.slice b.mA b.nm b.mc,.slice A' m' cc',.slice A n p])∧Rows w' w'.heap.size 4 A' m' (fun i j=>(f i).cell j)∧Below w.heap.size w w')→∃A' cc',e=.returned (.agg (aA (jk b s A' cc') A n p))∧Rows w' w'.heap.size 4 A' (aB s 10).length (fun i j=>(RH b s i).cell j)∧Below w.heap.size w w':=fun e w' ⟨A',cc',h1,h2,h3⟩=>⟨A',cc',by rw[HE.out];exact h1,by rw[← hm',← hf];exact h2,h3⟩
 refine CallsIn.mono ?_ goal
 obtain⟨L,hL⟩:∃L,L=aB s 10:=⟨_,rfl⟩
 rw[← hL] at HS HF hm'
 have HM:=hid hm'
 have HA:=hid hA
 obtain⟨i0,hi,hz0,hz1,hz2⟩:=info_parts Tryz.infoCt
 have hi0:=hid hi
 clear hi hf hm' hA hin hL goal HE
 obtain⟨days,most,gA,ng,gc,g,mA,nm,mc,m,cA,nc,cc,c⟩:=b
 simp only[aA] at HF hnc⊢
 obtain⟨w1,hw1⟩:∃w1,w1=(w.alloc (.cells #[int i64 days,int i64 most,.slice gA ng gc,.slice mA nm mc,.slice cA nc cc,.slice A n p] 76)).alloc (.cells #[int i64 0,int i64 0,.slice none 0 0,.slice none 0 0,.slice none 0 0,.slice none 0 0] 76):=⟨_,rfl⟩
 have B1:Hid (Below w.heap.size w w1):=hid (by rw[hw1];exact bw)
 have X1:Hid (Whole w1 w.heap.size 76 #[int i64 days,int i64 most,.slice gA ng gc,.slice mA nm mc,.slice cA nc cc,.slice A n p]):=hid (by rw[hw1];exact(Whole.new _ _ _).alloc _)
 have Y1:Hid (Whole w1 (w.heap.size+1) 76 #[int i64 0,int i64 0,.slice none 0 0,.slice none 0 0,.slice none 0 0,.slice none 0 0]):=hid (by
  have:=Whole.new (w.alloc (.cells #[int i64 days,int i64 most,.slice gA ng gc,.slice mA nm mc,.slice cA nc cc,.slice A n p] 76)) 76 #[int i64 0,int i64 0,.slice none 0 0,.slice none 0 0,.slice none 0 0,.slice none 0 0]
  rw[World.size_alloc] at this;rw[hw1];exact this)
 have hs1:w1.heap.size=w.heap.size+2:=by rw[hw1];simp
 have mX:=hid hw1
 clear hw1
 gi_enter func84,ntmps84
 gi_wp2_with (gi_at_call 96;rw[← mX.out];refine(HS.out w1).mono ?_;rintro e w3 ⟨v,rfl,hown,hb3⟩;obtain⟨AL,cL,rfl⟩:=dF hown;have HI:=hid (dA hown);have HB3:=hid hb3;rw[← HM.out];rw[← HM.out] at HI)
 have X3:=hid (X1.out.below HB3.out X1.out.lt)
 have Y3:=hid (Y1.out.below HB3.out Y1.out.lt)
 have hs3:=hb3.size
 have VV:Hid (Below w.heap.size w w3):=hid (B1.out.trans (hb3.mono B1.out.size))
 clear hown hb3 mX
 gi_loopw [5,11] (fun l i wr=>∃k:Nat,k≤m'∧i=int i64 k∧Hid (wr.ownsRow w3.heap.size 99 4 l k (Jy f k)∧Below w3.heap.size w3 wr)) (fun _ i _=>m' - (intOf i).toNat)
 case atStart=>exact⟨0,Nat.zero_le _,rfl,hid ⟨⟨by simp[Jy],.inl ⟨rfl,zs⟩⟩,Below.refl _ _⟩⟩
 case round=>
  obtain⟨k,hk,rfl,hT⟩:=hrel
  obtain⟨A9,n9,p9,rfl⟩:=eX hT.out.1
  obtain⟨wo,rfl⟩:∃wo:World,wo=wr:=⟨_,rfl⟩
  have hso:=hT.out.2.size
  have X4:=hid (X3.out.below hT.out.2 X3.out.lt)
  have Y4:=hid (Y3.out.below hT.out.2 Y3.out.lt)
  have BO:Hid (Below w.heap.size w wo):=hid (VV.out.trans (hT.out.2.mono zo))
  by_cases hlt:k<m'
  ·obtain⟨j,hj1,hj2,hj3⟩:=HF.out k hlt
   obtain⟨ad,hA',hbl,-⟩:=HA.out.c (show 0<nc by omega)
   simp only at hA' hj2 hj3
   subst hA'
   obtain⟨al,hAL,hall,-⟩:=HI.out (show 0<m' by omega)
   subst hAL
   have d0:wo.cell? (al.add k)=some (int i64 j):=by
    refine(hT.out.2.cell (by rw[aH];exact hall)).trans ?_
    have:=HI.out.at_ hlt
    rw[hj1] at this
    exact this
   have hr:∀q,q<4→wo.cell? ((ad.add (j * 4)).add q)=some ((f k).cell q):=fun q hq=>by rw[hj3];exact((HA.out.c.below BO.out).row hj2).2 q hq
   obtain⟨fk,dE⟩:∃fk,fk=f k:=⟨_,rfl⟩
   rw[← dE] at hr
   have Ys:=hid dE
   obtain⟨gd,dy,lo,hi⟩:=fk
   have c0:wo.cell? (ad.add (j * 4))=some (int i64 gd):=hr 0 zD
   have c1:wo.cell? ⟨(ad.add (j * 4)).block,(ad.add (j * 4)).off+1,none⟩=some (int i64 dy):=hr 1 zD
   have c2:wo.cell? ⟨(ad.add (j * 4)).block,(ad.add (j * 4)).off+2,none⟩=some (int i64 lo):=hr 2 zD
   have c3:wo.cell? ⟨(ad.add (j * 4)).block,(ad.add (j * 4)).off+3,none⟩=some (int i64 hi):=hr 3 zD
   have x4:wo.cell? ⟨w.heap.size,4,none⟩=some (.slice (some ad) nc cc):=X4.out.cell 4
   clear hr hj1 hj3 dE
   have Ho:=hid hT.out.1
   gi_wp2_with (gi_at_builtin;refine aF rfl rfl rfl fun K5 iX=>?_;refine wp_append_lies _ _ _ _ rfl w3.heap.size 99 i0 _ 4 32 underlying24 hi0.out hz0 hz1 hz2 rfl zo (.slice A9 n9 p9) k _ rfl (aQ Ho.out _) ⟨wo.heap.size,0,none⟩ 1 1 [int i64 gd,int i64 dy,int i64 lo,int i64 hi] rfl rfl (World.news_of_block (heap_alloc_new wo _)) (by simp[Value.oneCell']) zo zU zo zm (wo.heap.size+1) zs ?_;intro pz nD w10 hown5 aM lG nI;refine iX _ _ ?_;clear iX K5)
   exact⟨⟨k+1,hlt,by push_cast;rfl,hid ⟨by rw[sO,← Ys.out];exact hown5,(hT.out.2.alloc hso _).trans (below_grown aM zm (fun g hg=>(bR Ho.out hg).1))⟩⟩,by simp[intOf];omega⟩
  ·obtain rfl:k=m':=zo
   obtain⟨A',c',hv'⟩:=dF hT.out.1
   injection hv' with h1 h2 h3
   subst h1 h2 h3
   have x0:wo.cell? ⟨w.heap.size,0,none⟩=some (int i64 days):=X4.out.cell 0
   have x1:wo.cell? ⟨w.heap.size,1,none⟩=some (int i64 most):=X4.out.cell 1
   have x2:wo.cell? ⟨w.heap.size,2,none⟩=some (.slice gA ng gc):=X4.out.cell 2
   have x3:wo.cell? ⟨w.heap.size,3,none⟩=some (.slice mA nm mc):=X4.out.cell 3
   have x4:wo.cell? ⟨w.heap.size,4,none⟩=some (.slice cA nc cc):=X4.out.cell 4
   have x5:wo.cell? ⟨w.heap.size,5,none⟩=some (.slice A n p):=X4.out.cell 5
   have y0:wo.cell? ⟨w.heap.size+1,0,none⟩=some (int i64 0):=Y4.out.cell 0
   have y1:wo.cell? ⟨w.heap.size+1,1,none⟩=some (int i64 0):=Y4.out.cell 1
   have y2:wo.cell? ⟨w.heap.size+1,2,none⟩=some (.slice none 0 0):=Y4.out.cell 2
   have y3:wo.cell? ⟨w.heap.size+1,3,none⟩=some (.slice none 0 0):=Y4.out.cell 3
   have y4:wo.cell? ⟨w.heap.size+1,4,none⟩=some (.slice none 0 0):=Y4.out.cell 4
   have y5:wo.cell? ⟨w.heap.size+1,5,none⟩=some (.slice none 0 0):=Y4.out.cell 5
   have xth:=X4.out.thaw
   have yth:=Y4.out.thaw
   gi_wp2
   have U:=((((((Y4.out.other (p:=⟨w.heap.size,4,none⟩) zs (.slice A9 n9 p9)).set 0 (int i64 days)).set 1 (int i64 most)).set 2 (.slice gA ng gc)).set 3 (.slice mA nm mc)).set 4 (.slice A9 n9 p9)).set 5 (.slice A n p)
   have u0:=U.cell 0
   have u1:=U.cell 1
   have u2:=U.cell 2
   have u3:=U.cell 3
   have u4:=U.cell 4
   have u5:=U.cell 5
   refine bodyPost_ret (v:=.agg #[int i64 days,int i64 most,.slice gA ng gc,.slice mA nm mc,.slice A9 n9 p9,.slice A n p]) (by simp[results,results84,go_sem,u0,u1,u2,u3,u4,u5]) rfl ⟨_,_,rfl,?_,?_⟩
   ·intro hn0
    obtain⟨g9,cp9,hg0,hg1,hg2⟩:=hT.out.1.form hn0
    injection hg0 with h1 h2 h3
    subst h1
    refine⟨_,rfl,by simpa [World.setCell] using hg2,fun i j hi hj=>?_⟩
    have hcl:=hT.out.1.cells (g:=g9) rfl (i * 4+j) _ (Lx f n9 hi hj)
    refine Eq.trans ?_ hcl
    have hne:∀q:Addr,q.block=w.heap.size∨q.block=w.heap.size+1→∀ (W:World) (v:Value),(W.setCell q v).cell? ((⟨g9,0,none⟩:Addr).add (i * 4+j))=W.cell? ((⟨g9,0,none⟩:Addr).add (i * 4+j)):=fun q hq W v=>World.cell?_of_block (Below.heap_setCell _ _ _ _ (by rw[aH];simp only;omega))
    rw[hne _ (.inr rfl),hne _ (.inr rfl),hne _ (.inr rfl),hne _ (.inr rfl),hne _ (.inr rfl),hne _ (.inr rfl),hne _ (.inl rfl)]
   ·exact((((((BO.out.setCell (p:=⟨w.heap.size,4,none⟩) zs _).setCell zs _).setCell zs _).setCell zs _).setCell zs _).setCell zs _).setCell zs _
theorem cJ(b:Bk)(s:Nat)(A:Option Addr)(cc:Nat)(ok:b.Ok)(h4:(aB s 10).length≤4)(hin:∀x∈aB s 10,0≤x∧x<b.nc):(jk b s A cc).Ok:={
 days:=ok.days
 most:=ok.most
 bM:=⟨ok.bM.1,fun i hi=>let h:=ok.bM.2 i hi;⟨h.name,h.other,h.cost,h.pack,h.few⟩⟩
 moves:=⟨ok.moves.1,fun i hi=>let h:=ok.moves.2 i hi;⟨h.kind,h.good,h.day,h.order,h.few⟩⟩
 counts:=⟨h4,fun i hi=>by
  have hi':i<(aB s 10).length:=hi
  have hmem:(aB s 10).getD i 0∈aB s 10:=by rw[List.getD_eq_getElem?_getD,List.getElem?_eq_getElem hi'];exact List.getElem_mem hi'
  have hx:=hin _ hmem
  have h:=ok.counts.2 ((aB s 10).getD i 0).toNat zo
  exact⟨h.good,h.day,h.many⟩⟩ }
theorem KA(b:Bk)(ok:b.Ok)(ls:List Nat)(hl:∀s∈ls,dN s)(hn:ls.length≤64)(A:Option Addr)(p Bc:Nat)(w:World)(hA:b.At w w.heap.size)(hR:Rows w w.heap.size 1 A ls.length (fun i _=>int i64 ((ls.getD i 0:Nat):Int)))(hb:Whole w Bc 76 (aA b A ls.length p)):ny SF 76 #[.pointer (some ⟨Bc,0,none⟩)] (aG b ls) w:=by
 refine⟨zs,enters_of func76 zk rfl,fun C W hW hC=>?_⟩
 exact JL (p:=SF.fn) b ok A p ls hl hn C w.heap.size Bc W (fun x hx=>(hC x hx).2) (hb.below hW hb.lt) (hR.below hW) (hA.below hW) hW.size (fun h=>by have:=(hC _ h).1;have:=hb.lt;omega) (fun x hx h=>by have:=(hC _ h).1;omega)
end
section
open Go.RowKit
theorem vP(most:Int)(G M C:Nat):ak (Tb most G M C)=[0,1,8,9]:=zk
theorem fq(most:Int)(G M C:Nat):∀s∈ak (Tb most G M C),dN s:=by
 rw[vP]
 intro s hs
 simp at hs
 unfold dN
 omega
theorem jW(most:Int)(hm:0≤most∧most≤2)(G M C:Nat):(Tb most G M C).Ok:={
 days:=(by decide:(1:Int)≤10∧(10:Int)≤99)
 most:=hm
 bM:=⟨(by decide:1≤2∧2≤3),fun i hi=>by
  have hi:i<2:=hi
  rcases(show i=0∨i=1 by omega) with rfl|rfl
  ·exact⟨of_decide_eq_true zk,fun j hj=>zo,(by decide:(0:Int)≤5∧(5:Int)≤999),(by decide:(1:Int)≤4∧(4:Int)≤20),of_decide_eq_true zk⟩
  ·refine⟨of_decide_eq_true zk,fun j hj=>?_,(by decide:(0:Int)≤2∧(2:Int)≤999),(by decide:(1:Int)≤10∧(10:Int)≤20),of_decide_eq_true zk⟩
   obtain rfl:j=0:=zo
   exact of_decide_eq_true zk⟩
 moves:=⟨(by decide:4≤6),fun i hi=>by
  have hi:i<4:=hi
  rcases(show i=0∨i=1∨i=2∨i=3 by omega) with rfl|rfl|rfl|rfl
  all_goals exact⟨of_decide_eq_true zk,of_decide_eq_true zk,of_decide_eq_true zk,of_decide_eq_true zk,of_decide_eq_true zk⟩⟩
 counts:=⟨(by decide:2≤4),fun i hi=>by
  have hi:i<2:=hi
  rcases(show i=0∨i=1 by omega) with rfl|rfl
  all_goals exact⟨of_decide_eq_true zk,of_decide_eq_true zk,of_decide_eq_true zk⟩⟩ }
theorem lq(G M C:Nat):(aG (Tb 1 G M C) (ak (Tb 1 G M C))).length=4:=zk
theorem tD(G M C:Nat):((aG (Tb 1 G M C) (ak (Tb 1 G M C))).filter fun h=>h.BP 3).length=4:=zk
theorem tB(G M C:Nat):((aG (Tb 1 G M C) (ak (Tb 1 G M C))).filter fun h=>h.BP 0).length=0:=zk
theorem YC(G M C:Nat):bY (fun h=>kI (Tb 1 G M C) h 1 1 10 4) (aG (Tb 1 G M C) (ak (Tb 1 G M C)))=(0,1,true):=zk
theorem UE(G M C:Nat):bY (fun h=>iI (Tb 1 G M C) (stk (Tb 1 G M C) h 10 4) 2) (aG (Tb 1 G M C) (ak (Tb 1 G M C)))=(30,35,true):=zk
theorem Uz(G M C:Nat):bY (fun h=>IntKind.i64.wrap ((stk (Tb 1 G M C) h 10 4 0).tdiv 2)) (aG (Tb 1 G M C) (ak (Tb 1 G M C)))=(2,2,true):=zk
theorem gE(G M C:Nat):uX (Tb 1 G M C) (ak (Tb 1 G M C)).length=[8]:=zk
theorem PO(G M C:Nat)(A:Option Addr)(cc:Nat):(aG (jk (Tb 0 G M C) 0 A cc) (ak (Tb 0 G M C))).isEmpty=false:=zk
theorem PU(G M C:Nat)(A:Option Addr)(cc:Nat):(aG (jk (Tb 0 G M C) 1 A cc) (ak (Tb 0 G M C))).isEmpty=false:=zk
theorem PW(G M C:Nat)(A:Option Addr)(cc:Nat):(aG (jk (Tb 0 G M C) 2 A cc) (ak (Tb 0 G M C))).isEmpty=true:=zk
theorem PX(G M C:Nat)(A:Option Addr)(cc:Nat):(aG (jk (Tb 0 G M C) 3 A cc) (ak (Tb 0 G M C))).isEmpty=true:=zk
def rates:Nat→Int
 | 0=>2
 | _=>3
theorem Yy(G M C:Nat):wF (Tb 1 G M C) rates 4 2=[1,1]:=zk
theorem Yz(G M C:Nat):wI (Tb 1 G M C) rates 4 2=40:=zk
theorem YI(G M C:Nat):∀k,k<2→(uL (Tb 1 G M C) k).2.2=true:=fun k hk=>by
 rcases(show k=0∨k=1 by omega) with rfl|rfl
 ·kernel_rfl
 ·kernel_rfl
end
section
open Go Go.RowKit Go.Maps Go.Sort Go.Shelf
def BR:Go.Shelf.Ren:=⟨fun|7=>75|10=>99|n=>n,fun|23=>115|26=>3|3=>4|28=>118|0=>0|27=>117|33=>82|4=>4|n=>n,fun|n=>n⟩
theorem ZI:Go.Proofs.SlLaysZI.n7 prog BR:=⟨zk,⟨Tryz.f75.name,zD,Tryz.func75.trans (congrArg some zk)⟩,⟨Tryz.f99.name,zD,Tryz.func99.trans (congrArg some zk)⟩,zk,isAgg0,sizeOf0,zeroValue0,zk,isAgg4,sizeOf4,zeroValue4,zk,isAgg115,sizeOf115,zeroValue115,zk,isAgg3,sizeOf3,zeroValue3,zk,isAgg117,sizeOf117,zeroValue117,zk,isAgg118,sizeOf118,zeroValue118,zk,isAgg82,sizeOf82,zeroValue82⟩
def uK:Go.Shelf.Ren:=⟨fun|6=>74|8=>97|9=>98|11=>124|13=>126|12=>125|23=>168|24=>169|14=>159|15=>160|16=>161|17=>162|18=>163|19=>164|20=>165|21=>166|22=>167|25=>180|26=>181|27=>182|28=>183|29=>184|30=>170|31=>187|n=>n,fun|26=>3|28=>118|24=>30|0=>0|3=>3|37=>141|48=>162|50=>159|4=>4|40=>203|39=>202|45=>198|5=>5|9=>9|51=>217|55=>220|57=>224|58=>111|33=>82|n=>n,fun|n=>n⟩
theorem XV:Go.Proofs.SlLaysZI.n6 prog uK:=⟨zk,⟨Tryz.f74.name,zD,Tryz.func74.trans (congrArg some zk)⟩,⟨Tryz.f97.name,zD,Tryz.func97.trans (congrArg some zk)⟩,⟨Tryz.f124.name,zD,Tryz.func124.trans (congrArg some zk)⟩,zk,isAgg0,sizeOf0,zeroValue0,zk,isAgg30,sizeOf30,zeroValue30,zk,isAgg3,sizeOf3,zeroValue3,zk,isAgg118,sizeOf118,zeroValue118,zk⟩
def Pb:Go.Shelf.Ren:=⟨fun|5=>98|8=>126|7=>125|19=>168|20=>169|10=>159|11=>160|12=>161|13=>162|14=>163|15=>164|16=>165|17=>166|18=>167|30=>180|31=>181|32=>182|33=>183|34=>184|35=>170|40=>187|n=>n,fun|23=>30|25=>3|3=>3|32=>141|22=>30|0=>0|44=>162|46=>159|4=>4|36=>203|35=>202|41=>198|5=>5|9=>9|53=>217|57=>220|63=>224|64=>111|n=>n,fun|n=>n⟩
theorem ZM:Go.Proofs.SlLaysM.n5 prog Pb:=⟨zk,⟨Tryz.f98.name,zD,Tryz.func98.trans (congrArg some zk)⟩,⟨Tryz.f125.name,zD,Tryz.func125.trans (congrArg some zk)⟩,Tryz.func126.trans (congrArg some zk),⟨Tryz.f159.name,zD,Tryz.func159.trans (congrArg some zk)⟩,⟨Tryz.f160.name,zD,Tryz.func160.trans (congrArg some zk)⟩,⟨Tryz.f161.name,zD,Tryz.func161.trans (congrArg some zk)⟩,⟨Tryz.f162.name,zD,Tryz.func162.trans (congrArg some zk)⟩,⟨Tryz.f163.name,zD,Tryz.func163.trans (congrArg some zk)⟩,⟨Tryz.f164.name,zD,Tryz.func164.trans (congrArg some zk)⟩,⟨Tryz.f165.name,zD,Tryz.func165.trans (congrArg some zk)⟩,⟨Tryz.f166.name,zD,Tryz.func166.trans (congrArg some zk)⟩,⟨Tryz.f167.name,zD,Tryz.func167.trans (congrArg some zk)⟩,Tryz.func168.trans (congrArg some zk),Tryz.func169.trans (congrArg some zk),⟨Tryz.f180.name,zD,Tryz.func180.trans (congrArg some zk)⟩,Tryz.func181.trans (congrArg some zk),Tryz.func182.trans (congrArg some zk),⟨Tryz.f183.name,zD,Tryz.func183.trans (congrArg some zk)⟩,⟨Tryz.f184.name,zD,Tryz.func184.trans (congrArg some zk)⟩,⟨Tryz.f170.name,zD,Tryz.func170.trans (congrArg some zk)⟩,⟨Tryz.f187.name,zD,Tryz.func187.trans (congrArg some zk)⟩,zk,isAgg0,sizeOf0,zeroValue0,zk,isAgg3,sizeOf3,zeroValue3,zk,isAgg4,sizeOf4,zeroValue4,zk,isAgg5,sizeOf5,zeroValue5,zk,isAgg9,sizeOf9,zeroValue9,zk,isAgg30,sizeOf30,zeroValue30,zk,isAgg30,sizeOf30,zeroValue30,zk,isAgg3,sizeOf3,zeroValue3,zk,isAgg141,sizeOf141,zeroValue141,zk,isAgg202,sizeOf202,zeroValue202,zk,isAgg203,sizeOf203,zeroValue203,zk,isAgg198,sizeOf198,zeroValue198,zk,isAgg162,sizeOf162,zeroValue162,zk,isAgg159,sizeOf159,zeroValue159,zk,isAgg217,sizeOf217,zeroValue217,zk,isAgg220,sizeOf220,zeroValue220,zk,isAgg224,sizeOf224,zeroValue224,zk,isAgg111,sizeOf111,zeroValue111⟩
def GW(g:Nat):Bool:=decide ((3≤g∧g<109)∨(113≤g∧g<135)∨(153≤g∧g<171)∨(176≤g∧g<188))
theorem kU{g:Nat}(h:GW g=true):FF.fn g:=(qz g).2 (by unfold GW at h;exact of_decide_eq_true h)
theorem Me{L:List Nat}(h:L.all GW=true):∀x∈L,FF.fn x:=fun x hx=>kU (List.all_eq_true.1 h x hx)
theorem tS{L:List FuncId}{n m:Nat}{P:Program}{f:FuncId}{args:Array Value}{w:World}{R:Ending→World→Prop}(hL:∀x∈L,FF.fn x)(hf:FF.fn f)(h:∀D,CallsIn (Fence.list L (some D)) n P f args w R):CallsIn FF m P f args w R:=by
 refine⟨hf,fun cs _=>?_⟩
 obtain⟨e,w',fr,r,hs,rest⟩:=(h (cs.length+1+n)).2 cs (fun d hd=>by cases hd;exact Nat.le_refl _)
 have hm:∀x:Machine,x.fenced P (Fence.list L (some (cs.length+1+n)))→x.fenced P FF:=fun x hx g hg=>by
  obtain⟨a,b,c,d⟩:=hx g hg
  exact⟨a,b.imp (hL _) id,fun f hf=>hL _ (c f hf),fun d hd=>by cases hd⟩
 refine⟨e,w',fr,r,?_,rest⟩
 cases e with
 | returned v=>exact fQ hm hs
 | panicked c=>exact fQ hm hs
 | outgrown=>exact hs
theorem Hy(m:Nat):AnyZI.SortsIn prog uK FF m:=
 ⟨fun blk off cap ss W hH hblk hsz=>tS (Me zk) (kU zk) fun D=>AnySM.slices_Sort_int_in ZM D blk off cap ss W hH hblk hsz,
  fun p cap W=>tS (Me zk) (kU zk) fun D=>AnySM.slices_Sort_int_none_in ZM D p cap W⟩
theorem Cd{n m:Nat}{P:Program}{f:FuncId}{args:Array Value}{w:World}{R:Ending→World→Prop}(h:CallsIn FF n P f args w R):CallsIn FF m P f args w R:=⟨h.1,fun cs _=>h.2 cs (fun d hd=>by cases hd)⟩
theorem WX(mb:Option Nat)(W:World):CallsIn FF 0 prog 75 #[.map mb] W fun e w'=>e=.returned (.func (.func 99) #[] #[.pointer (some ⟨W.heap.size,0,none⟩)])∧w'=W.alloc (.cells #[.map mb] 115):=
 AnyZI.keys_in ZI FF 0 (kU zk) rfl mb W
theorem Pf{H:Type}(b nn:Nat)(D0:DataW H)(R:Value→Option (DataW H × List MemPlace))(B:Nat)(w:World)(hB:Whole w B 115 #[.map (some b)])(hown:w.ownsMap prog 3 R b nn D0)(hmax:Maps.size D0≤maxLen)(hbytes:Maps.size D0 * 8≤140737488355328):
 CallsIn FF 0 prog 74 #[.func (.func 99) #[] #[.pointer (some ⟨B,0,none⟩)]] w fun e w'=>∃ (v:Value) (ss:List Int),e=.returned v∧ss.Perm (intKeys D0)∧
  w'.ownsRow w.heap.size 3 1 v ss.length ((ss.mergeSort (fun x y=>decide (x≤y))).map encZ)∧(v=.slice none 0 0↔ss=[])∧Below w.heap.size w w':=by
 have hseq:SeqGives FF 1 prog 99 #[.pointer (some ⟨B,0,none⟩)] encZ (fun ss=>ss.Perm (intKeys D0)) (Maps.size D0) w:=
  AnyZI.keys_gives (ρ:=BR) {ZI with } FF 1 (kU zk) rfl zo B b nn D0 _ hB.lt (hB.cell 0) hown
 have cS:=AnyZI.sorted_in XV FF 4 (kU zk) (kU zk) (kU zk) (kU zk) rfl zo (Hy _) (enters_of func98 zk rfl) 99 #[.pointer (some ⟨B,0,none⟩)] (kU zk) (enters_of func99 zk rfl) _ _ hmax hbytes _ hseq
 exact Cd cS
end
end Go.Proofs.YthaelabgfnnebaaGreat
