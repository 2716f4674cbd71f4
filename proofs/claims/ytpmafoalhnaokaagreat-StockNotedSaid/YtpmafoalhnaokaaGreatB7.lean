/- J0 J1 J2 J3 HT WN WK HV HV2 EN Reg3 HR HR2 HA0 HP HA1 HA2 P15 -/
import Derived.Test.YtpmafoalhnaokaaGreatB6
import Derived.Test.YtpmafoalhnaokaaGreatA5
import Derived.Maps.Own
import Derived.DeepKeys4
import Derived.Sort.MapsRangeIn
set_option maxRecDepth 100000
set_option maxHeartbeats 16000000
set_option linter.unusedVariables false
set_option linter.unusedSectionVars false
open Go.IntKind(i64)
open Go.Lib(hid)
open Go.Proofs.Tryz
open Go.Value(int)
namespace Go.Proofs.YtpmafoalhnaokaaGreat
section
open Go Go.Conc Go.ConcN Go.cu Go.Conc.Lib Go.aP Go.Sort Go.RowKit
variable[Inhabited aV]
abbrev Fd:Machine→Prop:=Machine.fenced prog FF
def Na(n cb:Nat)(bit:Nat→Bool)(w:World):Prop:=n<2147483648∧∃D:Nat→Prop,Closed D w∧D cb∧∃m:Nat,∀i:Nat,i<n→∀σ:Tape,CallsIn SF m prog 100 #[int i64 i,pt cb] (on (wK D w) σ) (fun e _=>e=.returned (.bool (bit i)))
def Via(m:Machine)(Fin:Machine→Prop):Prop:=∃ (n cb:Nat) (cs:List Frame) (w1:World) (bit:Nat→Bool),StepsIn Fd prog m (solo (G (kU n cb) cs) w1)∧Na n cb bit w1∧
 ∀ac:Act,oA n (fG cb) w1.heap.size ac→∀v:World,Behind n cb w1.heap.size bit w1 v→∀σ:Tape,∃m',StepsIn Fd prog ((⟨Au ac,cs,v⟩:dP.Pt).on σ).m m'∧Fin m'
theorem Via.from_{m m0:Machine}{Fin:Machine→Prop}(hs:StepsIn Fd prog m0 m)(h:Via m Fin):Via m0 Fin:=by
 obtain⟨n,cb,cs,w1,bit,h1,h2,h3⟩:=h
 exact⟨n,cb,cs,w1,bit,hs.trans h1,h2,h3⟩
theorem Via.on_{m:Machine}{Fin Fin':Machine→Prop}(h:Via m Fin)(hf:∀m',Fin m'→∃m2,StepsIn Fd prog m' m2∧Fin' m2):Via m Fin':=by
 obtain⟨n,cb,cs,w1,bit,h1,h2,h3⟩:=h
 refine⟨n,cb,cs,w1,bit,h1,h2,fun ac ha v hb σ=>?_⟩
 obtain⟨m',h4,h5⟩:=h3 ac ha v hb σ
 obtain⟨m2,h6,h7⟩:=hf m' h5
 exact⟨m2,h4.trans h6,h7⟩
def Left(f:FuncId)(cs:List Frame)(R:Value→World→Prop)(m:Machine):Prop:=∃v w' fr,R v w'∧m=lone fr cs w'∧fr.fn=f∧fr.leaving prog w' (.returned v)
def jc(f:FuncId)(args:Array Value)(w:World)(R:Value→World→Prop):Prop:=FF.fn f∧∀cs,Via (lone (Frame.enter prog f args .normal) cs w) (Left f cs R)
def Fq(R:Value→World→Prop):Ending→World→Prop:=fun e w=>∃v,e=.returned v∧R v w
section
variable{fn:Func}{R:Value→World→Prop}{ops:Array Oper}
def wH(Q:Exit→Act→World→Prop):List Code→Act→World→Prop
 | [],a,w=>Q .normal a w
 | c :: l,a,w=>c.wpIn FF 0 prog (Exit.then (wH Q l) Q) a w
theorem oW{m:Machine}{b:Frame}{k:List Item}{cs:List Frame}{e:Exit}{a:Act}{w:World}:∀ (l:List Code),e≠.normal→ArrivesIn Fd prog m b (l.map Item.code ++ k) cs e a w→ArrivesIn Fd prog m b k cs e a w
 | [],_,h=>h
 | y :: l,he,h=>oW l he (.pass (x:=.code y) rfl (fun _ _=>.inl he) h)
theorem CO{Q:Exit→Act→World→Prop}:∀ (l:List Code) (a:Act) (w:World),wH Q l a w→∀ (b:Frame) (k:List Item) (cs:List Frame),b.roundOf=none→FF.fn b.fn→
 ∃e a' w',Q e a' w'∧ArrivesIn Fd prog (lone (b.atR a (l.map Item.code ++ k)) cs w) b k cs e a' w'
 | [],a,w,h,b,k,cs,_,_=>⟨.normal,a,w,h,.refl _⟩
 | c :: l,a,w,h,b,k,cs,hb,hf=>by
   obtain⟨e,a1,w1,hq,harr⟩:=h b (l.map Item.code ++ k) cs hb hf (bN _)
   cases e with
   | normal=>
     obtain⟨e2,a2,w2,hq2,NA⟩:=CO l a1 w1 hq b k cs hb hf
     exact⟨e2,a2,w2,hq2,.of_steps harr NA⟩
   | exit id=>exact⟨_,a1,w1,hq,oW l zs harr⟩
   | goto t=>exact⟨_,a1,w1,hq,oW l zs harr⟩
   | ret=>exact⟨_,a1,w1,hq,oW l zs harr⟩
   | panic ch=>exact⟨_,a1,w1,hq,oW l zs harr⟩
   | outgrown=>exact⟨_,a1,w1,hq,oW l zs harr⟩
theorem Dr{l:List Code}{rest:List Nat}{a:Act}{w:World}(h:wpOpsIn FF 0 prog ops (Exit.then (wH (bodyPost prog fn (Fq R)) l) (bodyPost prog fn (Fq R))) rest a w)(b:Frame)(cs:List Frame)(hb:b.roundOf=none)(hk:b.kind=.normal)(hf:FF.fn b.fn)(hfn:Tryz.prog.funcs[b.fn]? =some fn):
 ∃m',StepsIn Fd prog (lone (b.atR a (.inRegion ops rest :: l.map Item.code)) cs w) m'∧Left b.fn cs R m':=by
 have fin:∀ (m:Machine) (e:Exit) (a':Act) (w':World),bodyPost prog fn (Fq R) e a' w'→ArrivesIn Fd prog m b [] cs e a' w'→∃m',StepsIn Fd prog m m'∧Left b.fn cs R m':=by
  intro m e a' w' hq harr
  cases e with
  | normal=>
    obtain⟨hd,v,hr,v',hv,hR⟩:=hq
    cases hv
    exact⟨_,StepsIn.trans harr (.one (fenced_calm (n:=0) (fr:=b.atR a' []) hf (bN _) rfl) (stepR_end hb)),v,w',_,hR,rfl,rfl,rfl,hd,hk,fn,hfn,hr⟩
  | ret=>
    obtain⟨hd,v,hr,v',hv,hR⟩:=hq
    cases hv
    obtain⟨todo,hs⟩:=harr.1 hb
    exact⟨_,hs,v,w',_,hR,rfl,rfl,rfl,hd,hk,fn,hfn,hr⟩
  | panic chain=>obtain⟨_,v',hv,_⟩:=hq;cases hv
  | exit id=>exact hq.elim
  | goto t=>exact hq.elim
  | outgrown=>obtain⟨v',hv,_⟩:=hq;cases hv
 obtain⟨e,a1,w1,hq,harr⟩:=wp_opsIn _ a w h b (l.map Item.code) cs hb hf (bN _)
 cases e with
 | normal=>
   obtain⟨e2,a2,w2,hq2,NA⟩:=CO l a1 w1 hq b [] cs hb hf
   rw[List.append_nil] at NA
   obtain⟨m',h1,h2⟩:=fin _ e2 a2 w2 hq2 NA
   exact⟨m',StepsIn.trans harr h1,h2⟩
 | ret=>exact fin _ .ret a1 w1 hq harr
 | panic chain=>obtain⟨_,v',hv,_⟩:=hq;cases hv
 | exit id=>exact hq.elim
 | goto t=>exact hq.elim
 | outgrown=>obtain⟨v',hv,_⟩:=hq;cases hv
theorem mX{T:Act→World→Prop}{l2:List Nat}:∀ (l1:List Nat) (a:Act) (w:World),wpOpsIn FF 0 prog ops (Exit.then T fun _ _ _=>False) l1 a w→∀ (b:Frame) (k:List Item) (cs:List Frame),b.roundOf=none→FF.fn b.fn→
 ∃a' w',T a' w'∧StepsIn Fd prog (lone (b.atR a (.inRegion ops (l1 ++ l2) :: k)) cs w) (lone (b.atR a' (.inRegion ops l2 :: k)) cs w')
 | [],a,w,h,b,k,cs,_,_=>⟨a,w,h,.refl _⟩
 | i :: l1,a,w,h,b,k,cs,hb,hf=>by
   rw[List.cons_append]
   simp only[wpOpsIn] at h
   cases ho:ops[i]? with
   | none=>
     simp only[ho] at h
     obtain⟨a',w',h1,h2⟩:=mX l1 a w h b k cs hb hf
     have hs:=stepR_op_skip (P:=prog) (b:=b) (a:=a) (k:=k) (cs:=cs) (w:=w) (ops:=ops) (i:=i) (rest:=l1 ++ l2) (by simp[ho])
     simp only[ho,Option.bind_none,Act.put] at hs
     exact⟨a',w',h1,.head (fenced_noOper (n:=0) hf (bN _) ho) hs h2⟩
   | some o=>
     simp only[ho] at h
     by_cases hw:Region.wanted o (yielded ops a.tmps)=true
     ·simp only[hw,if_true,Oper.wpIn] at h
      obtain⟨habout,h⟩:=h
      have h0:Fd (lone (b.atR a (.inRegion ops (i :: (l1 ++ l2)) :: k)) cs w):=fenced_oper (n:=0) hf (bN _) ho habout
      have hg:=stepGR_op (P:=prog) (b:=b) (k:=k) (cs:=cs) (w:=w) (rest:=l1 ++ l2) ho hw
      rw[hb] at hg
      have hfin:∀ (a:Act) v,(b.atR a (.inRegion ops (i :: (l1 ++ l2)) :: k)).finish v=b.atR (a.put o.dst v) (.inRegion ops (l1 ++ l2) :: k):=fun a v=>by rw[Frame.finish_atR,ho];rfl
      have hro:FF.round=none:=rfl
      rw[hro] at h
      generalize hr:(o.semAt none a.eval).run prog w=r at h
      cases r with
      | halt x w1=>cases x <;> exact h.elim
      | ok x w1=>
        cases x with
        | value v=>
          obtain⟨a',w',h1,h2⟩:=mX l1 _ _ h b k cs hb hf
          exact⟨a',w',h1,.head h0 (step_lone_go (by rw[hg,← hfin];simp[stepG.apply,hr])) h2⟩
        | skip=>
          obtain⟨a',w',h1,h2⟩:=mX l1 _ _ h b k cs hb hf
          exact⟨a',w',h1,.head h0 (step_lone_go (by rw[hg,← hfin];simp[stepG.apply,hr])) h2⟩
        | enter f args=>
          obtain⟨_,hF,h⟩:=h
          obtain⟨e,w2,fr,hR,hsteps,hfn,hleave⟩:=h (b.atR a (.inRegion ops (i :: (l1 ++ l2)) :: k) :: cs) (bN _)
          have henter:step prog (lone (b.atR a (.inRegion ops (i :: (l1 ++ l2)) :: k)) cs w)=.next (lone (Frame.enter prog f args .normal) (b.atR a (.inRegion ops (i :: (l1 ++ l2)) :: k) :: cs) w1):=
           step_lone_go (by rw[hg];simp[stepG.apply,hr,Frame.atR])
          cases e with
          | returned v=>
            have hl:Fd (lone fr (b.atR a (.inRegion ops (i :: (l1 ++ l2)) :: k) :: cs) w2):=fenced_leaving (n:=0) (hfn ▸ hF) (bN _) hleave
            obtain⟨a',w',h1,h2⟩:=mX l1 _ _ hR b k cs hb hf
            refine⟨a',w',h1,.head h0 henter (StepsIn.trans hsteps (.head hl ?_ h2))⟩
            rw[← hfin]
            exact step_leave_returned hleave
          | panicked chain=>exact hR.elim
          | outgrown=>obtain⟨_,_,hx⟩:=hR;exact hx.elim
        | row row args=>
          obtain⟨_,h⟩:=h
          obtain⟨v,w2,hR,hsteps⟩:=h (b.atR a (.inRegion ops (i :: (l1 ++ l2)) :: k)) cs (bN _)
          have henter:step prog (lone (b.atR a (.inRegion ops (i :: (l1 ++ l2)) :: k)) cs w)=.next (lone (Frame.ofRow prog row args .normal) (b.atR a (.inRegion ops (i :: (l1 ++ l2)) :: k) :: cs) w1):=
           step_lone_go (by rw[hg];simp[stepG.apply,hr,Frame.atR])
          obtain⟨a',w',h1,h2⟩:=mX l1 _ _ hR b k cs hb hf
          rw[hfin] at hsteps
          exact⟨a',w',h1,.head h0 henter (StepsIn.trans hsteps h2)⟩
        | defer d=>
          obtain⟨a',w',h1,h2⟩:=mX l1 _ _ h b k cs hb hf
          refine⟨a',w',h1,.head h0 (step_lone_go ?_) h2⟩
          have:({b.atR a (.inRegion ops (i :: (l1 ++ l2)) :: k) with defers:=d :: a.defers }:Frame).finish undef=b.atR ({a with defers:=d :: a.defers }.put o.dst undef) (.inRegion ops (l1 ++ l2) :: k):=hfin {a with defers:=d :: a.defers } undef
          rw[hg]
          simp only[stepG.apply,Sem.runT_eq,hr,GStep.bare_after]
          exact congrArg (fun fr=>GStep.go {frame:=fr,callers:=cs,status:=.running,dying:=none } w1) this
        | round l f tmps assign body=>
          obtain⟨_,_,h⟩:=h
          obtain⟨e,w2,hR,hsteps⟩:=h (b.atR a (.inRegion ops (i :: (l1 ++ l2)) :: k)) cs (bN _)
          have henter:step prog (lone (b.atR a (.inRegion ops (i :: (l1 ++ l2)) :: k)) cs w)=.next (lone (Frame.round l f tmps assign body .normal) (b.atR a (.inRegion ops (i :: (l1 ++ l2)) :: k) :: cs) w1):=
           step_lone_go (by rw[hg];simp[stepG.apply,hr,Frame.atR])
          cases e with
          | returned v=>
            obtain⟨a',w',h1,h2⟩:=mX l1 _ _ hR b k cs hb hf
            simp only[hfin] at hsteps
            exact⟨a',w',h1,.head h0 henter (StepsIn.trans hsteps h2)⟩
          | panicked chain=>exact hR.elim
          | outgrown=>obtain⟨_,_,hx⟩:=hR;exact hx.elim
        | _=>exact h.elim
     ·simp only[hw,if_false,Bool.false_eq_true] at h
      obtain⟨habout,h⟩:=h
      obtain⟨a',w',h1,h2⟩:=mX l1 _ _ h b k cs hb hf
      have hs:=stepR_op_skip (P:=prog) (b:=b) (a:=a) (k:=k) (cs:=cs) (w:=w) (ops:=ops) (i:=i) (rest:=l1 ++ l2) (by simp[ho];simpa using hw)
      simp only[ho,Option.bind_some] at hs
      exact⟨a',w',h1,.head (fenced_oper (n:=0) hf (bN _) ho habout) hs h2⟩
end
section
variable{fn:Func}{R:Value→World→Prop}{ops:Array Oper}
def wW(ops:Array Oper)(i:Nat)(rest:List Nat)(fn:Func)(R:Value→World→Prop)(l:List Code)(a:Act)(w:World):Prop:=
 ∃o f args w1 Rc,ops[i]? =some o∧Region.wanted o (yielded ops a.tmps)=true∧(o.semAt none a.eval).run prog w=.ok (.enter f args) w1∧(∀g,o.about prog w a.eval=some g→FF.fn g)∧jc f args w1 Rc∧
  ∀v w2,Rc v w2→wpOpsIn FF 0 prog ops (Exit.then (wH (bodyPost prog fn (Fq R)) l) (bodyPost prog fn (Fq R))) rest (a.put o.dst v) w2
theorem wW.via{i:Nat}{rest:List Nat}{l:List Code}{a:Act}{w:World}(h:wW ops i rest fn R l a w)(b:Frame)(cs:List Frame)(hb:b.roundOf=none)(hk:b.kind=.normal)(hf:FF.fn b.fn)(hfn:Tryz.prog.funcs[b.fn]? =some fn):
 Via (lone (b.atR a (.inRegion ops (i :: rest) :: l.map Item.code)) cs w) (Left b.fn cs R):=by
 obtain⟨o,f,args,w1,Rc,ho,hw,hr,habout,hcv,hrest⟩:=h
 have h0:Fd (lone (b.atR a (.inRegion ops (i :: rest) :: l.map Item.code)) cs w):=fenced_oper (n:=0) hf (bN _) ho habout
 have hg:=stepGR_op (P:=prog) (b:=b) (k:=l.map Item.code) (cs:=cs) (w:=w) (rest:=rest) ho hw
 rw[hb] at hg
 have hfin:∀v,(b.atR a (.inRegion ops (i :: rest) :: l.map Item.code)).finish v=b.atR (a.put o.dst v) (.inRegion ops rest :: l.map Item.code):=fun v=>by rw[Frame.finish_atR,ho];rfl
 have henter:step prog (lone (b.atR a (.inRegion ops (i :: rest) :: l.map Item.code)) cs w)=.next (lone (Frame.enter prog f args .normal) (b.atR a (.inRegion ops (i :: rest) :: l.map Item.code) :: cs) w1):=
  step_lone_go (by rw[hg];simp[stepG.apply,hr,Frame.atR])
 refine Via.from_ (.one h0 henter) ((hcv.2 _).on_ fun m' hm=>?_)
 obtain⟨v,w2,fr,hRc,rfl,ld,hleave⟩:=hm
 obtain⟨m2,h1,h2⟩:=Dr (hrest v w2 hRc) b cs hb hk hf hfn
 have hl:Fd (lone fr (b.atR a (.inRegion ops (i :: rest) :: l.map Item.code) :: cs) w2):=fenced_leaving (n:=0) (by rw[ld];exact hcv.1) (bN _) hleave
 refine⟨m2,.head hl ?_ h1,h2⟩
 rw[← hfin]
 exact step_leave_returned hleave
def aj(fn:Func)(R:Value→World→Prop)(l:List Code)(a:Act)(w:World):Prop:=∀ (b:Frame) (cs:List Frame),b.roundOf=none→b.kind=.normal→FF.fn b.fn→Tryz.prog.funcs[b.fn]? =some fn→Via (lone (b.atR a (l.map Item.code)) cs w) (Left b.fn cs R)
variable{l:List Code}{a:Act}{w:World}{x y:Code}
theorem aj.of_steps{l':List Code}{a':Act}{w':World}(hs:∀ (b:Frame) (cs:List Frame),b.roundOf=none→FF.fn b.fn→StepsIn Fd prog (lone (b.atR a (l.map Item.code)) cs w) (lone (b.atR a' (l'.map Item.code)) cs w'))
 (h:aj fn R l' a' w'):aj fn R l a w:=fun b cs hb hk hf hfn=>Via.from_ (hs b cs hb hf) (h b cs hb hk hf hfn)
theorem aj.seq(h:aj fn R (x :: y :: l) a w):aj fn R (.seq x y :: l) a w:=.of_steps (fun _ _ _ hf=>.head (fenced_calm (n:=0) hf (bN _) rfl) stepR_seq (.refl _)) h
theorem aj.skip(h:aj fn R l a w):aj fn R (.skip :: l) a w:=.of_steps (fun _ _ _ hf=>.head (fenced_calm (n:=0) hf (bN _) rfl) stepR_skip (.refl _)) h
theorem aj.cond{c:Operand}{t:Bool}(hc:a.eval c=.bool t)(h:aj fn R ((if t then x else y) :: l) a w):aj fn R (.cond c x y :: l) a w:=.of_steps (fun _ _ _ hf=>.head (fenced_calm (n:=0) hf (bN _) rfl) (stepR_cond hc) (.refl _)) h
theorem aj.cond_true{c:Operand}(hc:a.eval c=.bool true)(h:aj fn R (x :: l) a w):aj fn R (.cond c x y :: l) a w:=.cond hc h
theorem aj.cond_false{c:Operand}(hc:a.eval c=.bool false)(h:aj fn R (y :: l) a w):aj fn R (.cond c x y :: l) a w:=.cond hc h
theorem aj.item(h:x.wpIn FF 0 prog (Exit.then (aj fn R l) fun _ _ _=>False) a w):aj fn R (x :: l) a w:=fun b cs hb hk hf hfn=>by
 obtain⟨e,a1,w1,hq,hr⟩:=h b (l.map Item.code) cs hb hf (bN _)
 cases e <;> first|exact hq.elim|skip
 exact Via.from_ hr (hq b cs hb hk hf hfn)
theorem aj.region{id i:Nat}{l1 rest:List Nat}(hl:List.range ops.size=l1 ++ i :: rest)(h:wpOpsIn FF 0 prog ops (Exit.then (wW ops i rest fn R l) fun _ _ _=>False) l1 a w):aj fn R (.region id ops false :: l) a w:=fun b cs hb hk hf hfn=>by
 obtain⟨a',w',hT,hs⟩:=mX (l2:=i :: rest) l1 a w h b (l.map Item.code) cs hb hf
 refine Via.from_ (.head (fenced_calm (n:=0) hf (bN _) rfl) stepR_region ?_) (hT.via b cs hb hk hf hfn)
 rw[hl]
 exact hs
theorem kM{f:FuncId}{c:Code}{args:Array Value}(hf:Tryz.prog.funcs[f]? =some fn)(hb:fn.body=some c)(hF:FF.fn f)(h:aj fn R [c] {tmps:=args ++ Array.replicate (fn.ntmps - args.size) undef,defers:=[] } w):jc f args w R:=by
 refine⟨hF,fun cs=>?_⟩
 have henter:Frame.enter prog f args .normal=(base f).atR {tmps:=args ++ Array.replicate (fn.ntmps - args.size) undef,defers:=[] } [.code c]:=by
  simp[Frame.enter,Frame.atR,hf,hb,base]
  rfl
 rw[henter]
 exact h (base f) cs rfl rfl hF hf
variable{F:Fence}{n:Nat}{P:Program}{md:Region.Mode}{S:World→Prop}{T:Act→World→Prop}{N:Nat}
end
end
section
open Go Go.Conc Go.ConcN Go.cu Go.Conc.Lib Go.aP Go.Sort Go.RowKit
attribute [local go_sem] Oper.semAt_some
variable[Inhabited aV]
section
variable{fn:Func}{R Rc:Value→World→Prop}{ops:Array Oper}{a:Act}{w:World}{l:List Code}
theorem lC{F:Fence}{n:Nat}{P:Program}{Q:Exit→Act→World→Prop}:∀ (lo:List Oper) (k:Nat) (a:Act) (w:World),(∀j,j<lo.length→lo[j]? =ops[k+j]?)→wpListIn F n P ops Q lo a w→wpOpsIn F n P ops Q (List.range' k lo.length) a w
 | [],_,_,_,_,h=>h
 | o :: lo,k,a,w,hj,h=>by
   have h0:ops[k]? =some o:=by simpa using (hj 0 zs).symm
   have ih:∀a w,wpListIn F n P ops Q lo a w→wpOpsIn F n P ops Q (List.range' (k+1) lo.length) a w:=fun a w h=>lC lo (k+1) a w (fun j hl=>by have:=hj (j+1) (by simpa using hl);simpa [Nat.add_assoc,Nat.add_comm 1 j] using this) h
   rw[List.length_cons,List.range'_succ,wpOpsIn_cons]
   refine wpOpIn_mono (fun a w h=>ih a w h) ?_
   unfold wpOpIn
   simp only[h0]
   exact h
theorem iJ{lo:List Oper}{i:Nat}{o:Oper}{f:FuncId}{ag:Array Operand}{ats:Array TypeId}(ho:lo[i]? =some o)(hop:o.op=.call {callee:=.value (.func f),args:=ag,argTypes:=ats })(hw:Region.wanted o (yielded lo.toArray a.tmps)=true)(he:∀args w,(callFunc f args).run prog w=.ok (.enter f args) w)
 {args:Array Value}(ha:ag.map a.eval=args)(hv:jc f args w Rc)
 (hrest:∀v w2,Rc v w2→wpListIn FF 0 prog lo.toArray (Exit.then (wH (bodyPost prog fn (Fq R)) l) (bodyPost prog fn (Fq R))) (lo.drop (i+1)) (a.put o.dst v) w2):wW lo.toArray i (List.range' (i+1) (lo.drop (i+1)).length) fn R l a w:=by
 subst ha
 refine⟨o,f,ag.map a.eval,w,Rc,by simpa using ho,hw,?_,fun g hg=>?_,hv,fun v w2 h=>lC _ _ _ _ (fun j hj=>zs) (hrest v w2 h)⟩
 ·simp[Oper.semAt,execOp,hop,resolve,invoke,Act.eval,go_sem,he]
 ·simp[Oper.about,hop,resolve,Act.eval,go_sem,Target.leads] at hg
  rw[← hg]
  exact hv.1
theorem aj.gJ{id:Nat}{lo:List Oper}(i:Nat)(hi:i<lo.length)(h:wpListIn FF 0 prog lo.toArray (Exit.then (wW lo.toArray i (List.range' (i+1) (lo.drop (i+1)).length) fn R l) fun _ _ _=>False) (lo.take i) a w):aj fn R (.region id lo.toArray false :: l) a w:=by
 refine aj.region (i:=i) (l1:=List.range' 0 (lo.take i).length) (rest:=List.range' (i+1) (lo.drop (i+1)).length) ?_ (lC _ 0 _ _ (fun j hj=>?_) h)
 ·have h1:(lo.take i).length=i:=zm
  have h2:(lo.drop (i+1)).length=lo.length - (i+1):=zs
  rw[h1,h2,List.size_toArray,List.range_eq_range',← List.range'_succ]
  have h3:=List.range'_append_1 (s:=0) (m:=i) (n:=lo.length - (i+1)+1)
  rw[Nat.zero_add] at h3
  rw[h3]
  congr 1
  omega
 ·have:j<i:=by have:=hj;simp at this;omega
  simp[this]
end
end
section
open Go Go.Conc Go.ConcN Go.cu Go.Conc.Lib Go.aP Go.Sort Go.RowKit
variable[Inhabited aV]
section
variable{F:Fence}{n:Nat}{P:Program}{ops:Array Oper}{md:Region.Mode}{S:World→Prop}{T:Act→World→Prop}{N:Nat}
end
section
variable{fn:Func}{R:Value→World→Prop}{l:List Code}{a:Act}{w:World}
end
end
section
open Go.RowKit
open Go.Sort (grow)
attribute [local go_sem] Oper.semAt_some
def tg:Nat→Good
 | 0=>⟨⟨#[116,101,97]⟩,5,4,3,3⟩
 | _=>⟨⟨#[114,105,99,101]⟩,2,10,5,6⟩
def tm:Nat→Mv
 | 0=>⟨0,0,2,4,4⟩
 | 1=>⟨1,0,3,2,3⟩
 | 2=>⟨2,1,4,0,1⟩
 | _=>⟨0,1,5,10,10⟩
def tc:Nat→Ct
 | 0=>⟨0,10,4,5⟩
 | _=>⟨1,10,5,5⟩
def Tb(mO:Int)(G M C:Nat):Bk:=⟨10,mO,some ⟨G,0,none⟩,2,2,tg,some ⟨M,0,none⟩,4,4,tm,some ⟨C,0,none⟩,2,2,tc⟩
theorem bV{w:World}{B size n:Nat}{t:TypeId}{cs:Array Value}{f:Nat→Nat→Value}(h:Whole w B t cs)(hc:∀i j,i<n→j<size→cs[i * size+j]? =some (f i j)):Rows w w.heap.size size (some ⟨B,0,none⟩) n f:=fun _=>
 ⟨_,rfl,h.lt,fun i j hi hj=>by
   have e:((⟨B,0,none⟩:Addr).add (i * size+j))=⟨B,i * size+j,none⟩:=by unfold Addr.add;split <;> simp_all
   rw[e,h.cell]
   exact hc i j hi hj⟩
theorem Ex(a b:Int)(w:World):CallsIn FF 0 prog 28 #[int i64 a,int i64 b] w fun e w'=>e=.returned (.agg #[int i64 a,int i64 b])∧Below w.heap.size w w':=by
 gi_enter func28,ntmps28
 gi_wp2
 refine bodyPost_ret (v:=.agg #[int i64 a,int i64 b]) (by simp[results,results28,go_sem]) rfl ⟨rfl,bw⟩
theorem Tryz.infoCt:(Tryz.prog.info? 45).map (fun i=>(i.zero,i.size,i.bytes))=some (some (.agg #[int i64 0,int i64 0,int i64 0,int i64 0]),4,32):=zk
def PQ(c:Ct):List Value:=[int i64 c.good,int i64 c.day,int i64 c.lo,int i64 c.hi]
def KH(f:Nat→Ct)(k:Nat):List Value:=(List.range k).flatMap fun i=>PQ (f i)
theorem uz(f:Nat→Ct)(k:Nat):KH f (k+1)=KH f k ++ PQ (f k):=by unfold KH;rw[List.range_succ,List.flatMap_append];simp
theorem rX(f:Nat→Ct):∀k,(KH f k).length=k * 4
 | 0=>rfl
 | Nat.succ k=>by rw[uz,List.length_append,rX f k];simp[PQ];omega
theorem Nn(f:Nat→Ct):∀ (k:Nat) {i j:Nat},i<k→j<4→(KH f k)[i * 4+j]? =some ((f i).cell j)
 | 0,_,_,h,_=>zo
 | Nat.succ k,i,j,h,hj=>by
   rw[uz]
   rcases Nat.lt_or_ge i k with h1|h1
   ·rw[List.getElem?_append_left (by rw[rX];omega)]
    exact Nn f k h1 hj
   ·obtain rfl:i=k:=zo
    rw[List.getElem?_append_right (by rw[rX];omega),rX]
    rw[show i * 4+j - i * 4=j by omega]
    rcases(show j=0∨j=1∨j=2∨j=3 by omega) with rfl|rfl|rfl|rfl <;> rfl
def TQ(b:Bk)(s:Nat)(i:Nat):Ct:=b.c ((aM s 10).getD i 0).toNat
def jD(b:Bk)(s:Nat)(A:Option Addr)(cc:Nat):Bk:=⟨b.dY,b.mO,b.gA,b.ng,b.gc,b.g,b.mA,b.nm,b.mc,b.m,A,(aM s 10).length,cc,TQ b s⟩
theorem XL(b:Bk)(s:Nat)(A:Option Addr)(n p:Nat)(w:World)(hA:b.At w w.heap.size)(hs:s<1024)(hin:∀x∈aM s 10,0≤x∧x<b.nc):
 CallsIn SF 0 prog 101 #[.agg (aA b A n p),int i64 s] w fun e w'=>∃A' cc',e=.returned (.agg (aA (jD b s A' cc') A n p))∧Rows w' w'.heap.size 4 A' (aM s 10).length (fun i j=>(TQ b s i).cell j)∧Below w.heap.size w w':=by
 have HS:=hid fun w=>Go.Proofs.YtpmafoalhnaokaaGreat.W.mU s w hs
 obtain⟨f,hf⟩:∃f,f=TQ b s:=zE
 obtain⟨m',hm'⟩:∃m,m=(aM s 10).length:=zE
 have aaH:m'≤10:=by rw[hm'];exact uS s 10
 have HF:Hid (∀k,k<m'→∃j:Nat,(aM s 10).getD k 0=(j:Int)∧j<b.nc∧f k=b.c j):=hid fun k hk=>by
  rw[hm'] at hk
  have hmem:(aM s 10).getD k 0∈aM s 10:=by rw[List.getD_eq_getElem?_getD,List.getElem?_eq_getElem hk];exact List.getElem_mem hk
  have:=hin _ hmem
  refine⟨((aM s 10).getD k 0).toNat,zo,zo,by rw[hf];rfl⟩
 have hnc:m'=0∨0<b.nc:=by
  rcases Nat.eq_zero_or_pos m' with h|h
  ·exact .inl h
  ·obtain⟨j,_,hj,_⟩:=HF.out 0 h
   exact .inr zo
 have HE:Hid (∀A' cc',aA (jD b s A' cc') A n p=#[int i64 b.dY,int i64 b.mO,.slice b.gA b.ng b.gc,.slice b.mA b.nm b.mc,.slice A' m' cc',.slice A n p]):=hid fun A' cc'=>by rw[hm'];rfl
 have goal:∀ (e:Ending) (w':World),(∃A' cc',e=.returned (.agg #[int i64 b.dY,int i64 b.mO,.slice b.gA b.ng b.gc,.slice b.mA b.nm b.mc,.slice A' m' cc',.slice A n p])∧Rows w' w'.heap.size 4 A' m' (fun i j=>(f i).cell j)∧Below w.heap.size w w')→∃A' cc',e=.returned (.agg (aA (jD b s A' cc') A n p))∧Rows w' w'.heap.size 4 A' (aM s 10).length (fun i j=>(TQ b s i).cell j)∧Below w.heap.size w w':=fun e w' ⟨A',cc',h1,h2,h3⟩=>⟨A',cc',by rw[HE.out];exact h1,by rw[← hm',← hf];exact h2,h3⟩
 refine CallsIn.mono ?_ goal
 obtain⟨L,hL⟩:∃L,L=aM s 10:=zE
 rw[← hL] at HS HF hm'
 have HM:=hid hm'
 have HA:=hid hA
 obtain⟨i0,hi,hz0,hz1,hz2⟩:=info_parts Tryz.infoCt
 have hi0:=hid hi
 clear hi hf hm' hA hin hL goal HE
 obtain⟨dY,mO,gA,ng,gc,g,mA,nm,mc,m,cA,nc,cc,c⟩:=b
 simp only[aA] at HF hnc⊢
 obtain⟨w1,hw1⟩:∃w1,w1=(w.alloc (.cells #[int i64 dY,int i64 mO,.slice gA ng gc,.slice mA nm mc,.slice cA nc cc,.slice A n p] 75)).alloc (.cells #[int i64 0,int i64 0,.slice none 0 0,.slice none 0 0,.slice none 0 0,.slice none 0 0] 75):=zE
 have B1:Hid (Below w.heap.size w w1):=hid (by rw[hw1];exact bw)
 have X1:Hid (Whole w1 w.heap.size 75 #[int i64 dY,int i64 mO,.slice gA ng gc,.slice mA nm mc,.slice cA nc cc,.slice A n p]):=hid (by rw[hw1];exact(Whole.new _ _ _).alloc _)
 have Y1:Hid (Whole w1 (w.heap.size+1) 75 #[int i64 0,int i64 0,.slice none 0 0,.slice none 0 0,.slice none 0 0,.slice none 0 0]):=hid (by
  have:=Whole.new (w.alloc (.cells #[int i64 dY,int i64 mO,.slice gA ng gc,.slice mA nm mc,.slice cA nc cc,.slice A n p] 75)) 75 #[int i64 0,int i64 0,.slice none 0 0,.slice none 0 0,.slice none 0 0,.slice none 0 0]
  rw[World.size_alloc] at this;rw[hw1];exact this)
 have hs1:w1.heap.size=w.heap.size+2:=by rw[hw1];simp
 have jd:=hid hw1
 clear hw1
 gi_enter func101,ntmps101
 gi_wp2_with (gi_at_call 102;rw[← jd.out];refine(HS.out w1).mono ?_;rintro e w3 ⟨v,rfl,hown,hb3⟩;obtain⟨AL,cL,rfl⟩:=fV hown;have HI:=hid (eH hown);have HB3:=hid hb3;rw[← HM.out];rw[← HM.out] at HI)
 have X3:=hid (X1.out.below HB3.out X1.out.lt)
 have Y3:=hid (Y1.out.below HB3.out Y1.out.lt)
 have hs3:=hb3.size
 have BW3:Hid (Below w.heap.size w w3):=hid (B1.out.trans (hb3.mono B1.out.size))
 clear hown hb3 jd
 gi_loopw [5,11] (fun l i wr=>∃k:Nat,k≤m'∧i=int i64 k∧Hid (wr.ownsRow w3.heap.size 45 4 l k (KH f k)∧Below w3.heap.size w3 wr)) (fun _ i _=>m' - (intOf i).toNat)
 case atStart=>exact⟨0,Nat.zero_le _,rfl,hid ⟨⟨by simp[KH],.inl ⟨rfl,zs⟩⟩,zB⟩⟩
 case round=>
  obtain⟨k,hk,rfl,hT⟩:=hrel
  obtain⟨A9,n9,p9,rfl⟩:=ig hT.out.1
  obtain⟨wo,rfl⟩:∃wo:World,wo=wr:=zE
  have hso:=hT.out.2.size
  have X4:=hid (X3.out.below hT.out.2 X3.out.lt)
  have Y4:=hid (Y3.out.below hT.out.2 Y3.out.lt)
  have BO:Hid (Below w.heap.size w wo):=hid (BW3.out.trans (hT.out.2.mono zo))
  by_cases hlt:k<m'
  ·obtain⟨j,hj1,hj2,hj3⟩:=HF.out k hlt
   obtain⟨ad,hA',hbl,-⟩:=HA.out.c (show 0<nc by omega)
   simp only at hA' hj2 hj3
   subst hA'
   obtain⟨al,hAL,hall,-⟩:=HI.out (show 0<m' by omega)
   subst hAL
   have d0:wo.cell? (al.add k)=some (int i64 j):=by
    refine(hT.out.2.cell (by rw[aH];exact hall)).trans ?_
    have:=HI.out.at_ hlt
    rw[hj1] at this
    exact this
   have hr:∀q,q<4→wo.cell? ((ad.add (j * 4)).add q)=some ((f k).cell q):=fun q hq=>by rw[hj3];exact((HA.out.c.below BO.out).row hj2).2 q hq
   obtain⟨fk,lf⟩:∃fk,fk=f k:=zE
   rw[← lf] at hr
   have HFK:=hid lf
   obtain⟨gd,dy,lo,hi⟩:=fk
   have c0:wo.cell? (ad.add (j * 4))=some (int i64 gd):=hr 0 zD
   have c1:wo.cell? ⟨(ad.add (j * 4)).block,(ad.add (j * 4)).off+1,none⟩=some (int i64 dy):=hr 1 zD
   have c2:wo.cell? ⟨(ad.add (j * 4)).block,(ad.add (j * 4)).off+2,none⟩=some (int i64 lo):=hr 2 zD
   have c3:wo.cell? ⟨(ad.add (j * 4)).block,(ad.add (j * 4)).off+3,none⟩=some (int i64 hi):=hr 3 zD
   have x4:wo.cell? ⟨w.heap.size,4,none⟩=some (.slice (some ad) nc cc):=X4.out.cell 4
   clear hr hj1 hj3 lf
   have Ho:=hid hT.out.1
   gi_wp2_with (gi_at_builtin;refine aD rfl rfl rfl fun K5 iI=>?_;refine wp_append_lies _ _ _ _ rfl w3.heap.size 45 i0 _ 4 32 underlying24 hi0.out hz0 hz1 hz2 rfl zo (.slice A9 n9 p9) k _ rfl (bG Ho.out _) ⟨wo.heap.size,0,none⟩ 1 1 [int i64 gd,int i64 dy,int i64 lo,int i64 hi] rfl rfl (World.news_of_block (heap_alloc_new wo _)) (by simp[Value.oneCell']) zo zU zo zm (wo.heap.size+1) zs ?_;intro qQ nQ w10 hown5 aN kI mR;refine iI _ _ ?_;clear iI K5)
   exact⟨⟨k+1,hlt,by push_cast;rfl,hid ⟨by rw[uz,← HFK.out];exact hown5,(hT.out.2.alloc hso _).trans (below_grown aN zm (fun g hg=>(aQ Ho.out hg).1))⟩⟩,by simp[intOf];omega⟩
  ·obtain rfl:k=m':=zo
   obtain⟨A',c',hv'⟩:=fV hT.out.1
   injection hv' with h1 h2 h3
   subst h1 h2 h3
   have x0:wo.cell? ⟨w.heap.size,0,none⟩=some (int i64 dY):=X4.out.cell 0
   have x1:wo.cell? ⟨w.heap.size,1,none⟩=some (int i64 mO):=X4.out.cell 1
   have x2:wo.cell? ⟨w.heap.size,2,none⟩=some (.slice gA ng gc):=X4.out.cell 2
   have x3:wo.cell? ⟨w.heap.size,3,none⟩=some (.slice mA nm mc):=X4.out.cell 3
   have x4:wo.cell? ⟨w.heap.size,4,none⟩=some (.slice cA nc cc):=X4.out.cell 4
   have x5:wo.cell? ⟨w.heap.size,5,none⟩=some (.slice A n p):=X4.out.cell 5
   have y0:wo.cell? ⟨w.heap.size+1,0,none⟩=some (int i64 0):=Y4.out.cell 0
   have y1:wo.cell? ⟨w.heap.size+1,1,none⟩=some (int i64 0):=Y4.out.cell 1
   have y2:wo.cell? ⟨w.heap.size+1,2,none⟩=some (.slice none 0 0):=Y4.out.cell 2
   have y3:wo.cell? ⟨w.heap.size+1,3,none⟩=some (.slice none 0 0):=Y4.out.cell 3
   have y4:wo.cell? ⟨w.heap.size+1,4,none⟩=some (.slice none 0 0):=Y4.out.cell 4
   have y5:wo.cell? ⟨w.heap.size+1,5,none⟩=some (.slice none 0 0):=Y4.out.cell 5
   have xth:=X4.out.thaw
   have yth:=Y4.out.thaw
   gi_wp2
   have U:=((((((Y4.out.other (p:=⟨w.heap.size,4,none⟩) zs (.slice A9 n9 p9)).set 0 (int i64 dY)).set 1 (int i64 mO)).set 2 (.slice gA ng gc)).set 3 (.slice mA nm mc)).set 4 (.slice A9 n9 p9)).set 5 (.slice A n p)
   have u0:=U.cell 0
   have u1:=U.cell 1
   have u2:=U.cell 2
   have u3:=U.cell 3
   have u4:=U.cell 4
   have u5:=U.cell 5
   refine bodyPost_ret (v:=.agg #[int i64 dY,int i64 mO,.slice gA ng gc,.slice mA nm mc,.slice A9 n9 p9,.slice A n p]) (by simp[results,results101,go_sem,u0,u1,u2,u3,u4,u5]) rfl ⟨_,_,rfl,?_,?_⟩
   ·intro hn0
    obtain⟨g9,cp9,hg0,hg1,hg2⟩:=hT.out.1.form hn0
    injection hg0 with h1 h2 h3
    subst h1
    refine⟨_,rfl,by simpa [World.setCell] using hg2,fun i j hi hj=>?_⟩
    have hcl:=hT.out.1.cells (g:=g9) rfl (i * 4+j) _ (Nn f n9 hi hj)
    refine Eq.trans ?_ hcl
    have hne:∀q:Addr,q.block=w.heap.size∨q.block=w.heap.size+1→∀ (W:World) (v:Value),(W.setCell q v).cell? ((⟨g9,0,none⟩:Addr).add (i * 4+j))=W.cell? ((⟨g9,0,none⟩:Addr).add (i * 4+j)):=fun q hq W v=>World.cell?_of_block (Below.heap_setCell _ _ _ _ (by rw[aH];simp only;omega))
    rw[hne _ (.inr rfl),hne _ (.inr rfl),hne _ (.inr rfl),hne _ (.inr rfl),hne _ (.inr rfl),hne _ (.inr rfl),hne _ (.inl rfl)]
   ·exact((((((BO.out.setCell (p:=⟨w.heap.size,4,none⟩) zs _).setCell zs _).setCell zs _).setCell zs _).setCell zs _).setCell zs _).setCell zs _
theorem ju(b:Bk)(s:Nat)(A:Option Addr)(cc:Nat)(ok:b.Ok)(h4:(aM s 10).length≤4)(hin:∀x∈aM s 10,0≤x∧x<b.nc):(jD b s A cc).Ok:={
 dY:=ok.dY
 mO:=ok.mO
 bE:=⟨ok.bE.1,fun i hi=>let h:=ok.bE.2 i hi;⟨h.name,h.other,h.cost,h.pack,h.few⟩⟩
 moves:=⟨ok.moves.1,fun i hi=>let h:=ok.moves.2 i hi;⟨h.kind,h.good,h.day,h.order,h.few⟩⟩
 counts:=⟨h4,fun i hi=>by
  have hi':i<(aM s 10).length:=hi
  have hmem:(aM s 10).getD i 0∈aM s 10:=by rw[List.getD_eq_getElem?_getD,List.getElem?_eq_getElem hi'];exact List.getElem_mem hi'
  have hx:=hin _ hmem
  have h:=ok.counts.2 ((aM s 10).getD i 0).toNat zo
  exact⟨h.good,h.day,h.many⟩⟩ }
theorem Mk(b:Bk)(ok:b.Ok)(ls:List Nat)(hl:∀s∈ls,eu s)(hn:ls.length≤64)(A:Option Addr)(p Bc:Nat)(w:World)(hA:b.At w w.heap.size)(hR:Rows w w.heap.size 1 A ls.length (fun i _=>int i64 ((ls.getD i 0:Nat):Int)))(hb:Whole w Bc 75 (aA b A ls.length p)):pO SF 79 #[.pointer (some ⟨Bc,0,none⟩)] (aB b ls) w:=by
 refine⟨zs,enters_of func79 zk rfl,fun C W hW hC=>?_⟩
 exact Lf (p:=SF.fn) b ok A p ls hl hn C w.heap.size Bc W (fun x hx=>(hC x hx).2) (hb.below hW hb.lt) (hR.below hW) (hA.below hW) hW.size (fun h=>by have:=(hC _ h).1;have:=hb.lt;omega) (fun x hx h=>by have:=(hC _ h).1;omega)
end
section
open Go.RowKit
theorem wU(mO:Int)(G M C:Nat):ak (Tb mO G M C)=[0,1,8,9]:=zk
theorem fF(mO:Int)(G M C:Nat):∀s∈ak (Tb mO G M C),eu s:=by
 rw[wU]
 intro s hs
 simp at hs
 unfold eu
 omega
theorem kE(mO:Int)(hm:0≤mO∧mO≤2)(G M C:Nat):(Tb mO G M C).Ok:={
 dY:=(by decide:(1:Int)≤10∧(10:Int)≤99)
 mO:=hm
 bE:=⟨(by decide:1≤2∧2≤3),fun i hi=>by
  have hi:i<2:=hi
  rcases(show i=0∨i=1 by omega) with rfl|rfl
  ·exact⟨of_decide_eq_true zk,fun j hj=>zo,(by decide:(0:Int)≤5∧(5:Int)≤999),(by decide:(1:Int)≤4∧(4:Int)≤20),of_decide_eq_true zk⟩
  ·refine⟨of_decide_eq_true zk,fun j hj=>?_,(by decide:(0:Int)≤2∧(2:Int)≤999),(by decide:(1:Int)≤10∧(10:Int)≤20),of_decide_eq_true zk⟩
   obtain rfl:j=0:=zo
   exact of_decide_eq_true zk⟩
 moves:=⟨(by decide:4≤6),fun i hi=>by
  have hi:i<4:=hi
  rcases(show i=0∨i=1∨i=2∨i=3 by omega) with rfl|rfl|rfl|rfl
  all_goals exact⟨of_decide_eq_true zk,of_decide_eq_true zk,of_decide_eq_true zk,of_decide_eq_true zk,of_decide_eq_true zk⟩⟩
 counts:=⟨(by decide:2≤4),fun i hi=>by
  have hi:i<2:=hi
  rcases(show i=0∨i=1 by omega) with rfl|rfl
  all_goals exact⟨of_decide_eq_true zk,of_decide_eq_true zk,of_decide_eq_true zk⟩⟩ }
theorem lH(G M C:Nat):(aB (Tb 1 G M C) (ak (Tb 1 G M C))).length=4:=zk
theorem DO(G M C:Nat):((aB (Tb 1 G M C) (ak (Tb 1 G M C))).filter fun h=>h.JJ 3).length=4:=zk
theorem DM(G M C:Nat):((aB (Tb 1 G M C) (ak (Tb 1 G M C))).filter fun h=>h.JJ 0).length=0:=zk
theorem aE(G M C:Nat):bM (fun h=>kQ (Tb 1 G M C) h 1 1 10 4) (aB (Tb 1 G M C) (ak (Tb 1 G M C)))=(0,1,true):=zk
theorem WE(G M C:Nat):bM (fun h=>eG (Tb 1 G M C) (stk (Tb 1 G M C) h 10 4) 2) (aB (Tb 1 G M C) (ak (Tb 1 G M C)))=(30,35,true):=zk
theorem Wy(G M C:Nat):bM (fun h=>IntKind.i64.wrap ((stk (Tb 1 G M C) h 10 4 0).tdiv 2)) (aB (Tb 1 G M C) (ak (Tb 1 G M C)))=(2,2,true):=zk
theorem ox(G M C:Nat):Ez (Tb 1 G M C) (ak (Tb 1 G M C)).length=[8]:=zk
theorem Rq(G M C:Nat)(A:Option Addr)(cc:Nat):(aB (jD (Tb 0 G M C) 0 A cc) (ak (Tb 0 G M C))).isEmpty=false:=zk
theorem Rt(G M C:Nat)(A:Option Addr)(cc:Nat):(aB (jD (Tb 0 G M C) 1 A cc) (ak (Tb 0 G M C))).isEmpty=false:=zk
theorem Ru(G M C:Nat)(A:Option Addr)(cc:Nat):(aB (jD (Tb 0 G M C) 2 A cc) (ak (Tb 0 G M C))).isEmpty=true:=zk
theorem Rv(G M C:Nat)(A:Option Addr)(cc:Nat):(aB (jD (Tb 0 G M C) 3 A cc) (ak (Tb 0 G M C))).isEmpty=true:=zk
def rates:Nat→Int
 | 0=>2
 | _=>3
theorem aw(G M C:Nat):xH (Tb 1 G M C) rates 4 2=[1,1]:=zk
theorem ax(G M C:Nat):xJ (Tb 1 G M C) rates 4 2=40:=zk
theorem bj(G M C:Nat):∀k,k<2→(vO (Tb 1 G M C) k).2.2=true:=fun k hk=>by
 rcases(show k=0∨k=1 by omega) with rfl|rfl
 ·kernel_rfl
 ·kernel_rfl
end
section
open Go.RowKit Go.Maps
theorem Wz(G M C:Nat):intKeys (mapD (fun h=>stk (Tb 1 G M C) h 10 4 0) (aB (Tb 1 G M C) (ak (Tb 1 G M C))))=[4,5]:=zk
theorem a7(G M C:Nat):intKeys (mapD (fun h=>h.real 3) (aB (Tb 1 G M C) (ak (Tb 1 G M C))))=[0]:=zk
theorem WA(G M C:Nat):0<Maps.size (mapD (fun h=>stk (Tb 1 G M C) h 10 4 0) (aB (Tb 1 G M C) (ak (Tb 1 G M C)))):=of_decide_eq_true zk
theorem a8(G M C:Nat):0<Maps.size (mapD (fun h=>h.real 3) (aB (Tb 1 G M C) (ak (Tb 1 G M C)))):=of_decide_eq_true zk
theorem WC(G M C:Nat):((aB (Tb 1 G M C) (ak (Tb 1 G M C))).all fun h=>(Lit.int .i64 (stk (Tb 1 G M C) h 10 4 0)).wf)=true:=zk
theorem a9(G M C:Nat):((aB (Tb 1 G M C) (ak (Tb 1 G M C))).all fun h=>(Lit.int .i64 (h.real 3)).wf)=true:=zk
theorem m9{ss:List Int}(h:ss.Perm [4,5]):(ss.mergeSort fun x y=>decide (x≤y))=[4,5]:=by
 have h1:(ss.mergeSort fun x y=>decide (x≤y)).Perm [4,5]:=(List.mergeSort_perm _ _).trans h
 have h2:(ss.mergeSort fun x y=>decide (x≤y)).Pairwise fun x y=>decide (x≤y)=true:=List.pairwise_mergeSort (fun a b c=>by simp only[decide_eq_true_eq];omega) (fun a b=>by simp only[Bool.or_eq_true,decide_eq_true_eq];omega) ss
 have h3:([4,5]:List Int).Pairwise fun x y=>decide (x≤y)=true:=zD
 exact h1.eq_of_pairwise (fun a b _ _ h1 h2=>by simp only[decide_eq_true_eq] at h1 h2;omega) h2 h3
theorem CR{ss:List Int}(h:ss.Perm [0]):(ss.mergeSort fun x y=>decide (x≤y))=[0]:=List.perm_singleton.1 ((List.mergeSort_perm _ _).trans h)
end
section
open Go Go.RowKit Go.Maps Go.MapKept Go.ChangeMaps
theorem kZ(es:Array MapEntry)(hn:(es.toList.map (·.born)).Nodup){j:Nat}{e0:MapEntry}(hj:es[j]? =some e0):es.findIdx? (fun e=>(e.born:Int) == (e0.born:Int))=some j:=by
 have hl:j<es.size:=(Array.getElem?_eq_some_iff.1 hj).1
 have he:es[j]=e0:=(Array.getElem?_eq_some_iff.1 hj).2
 rw[Array.findIdx?_eq_some_iff_getElem]
 refine⟨hl,by rw[he];simp,fun i hi=>?_⟩
 have hne:es[i].born≠e0.born:=fun e=>by
  have hi':i<es.size:=Nat.lt_trans hi hl
  have h1:=List.pairwise_iff_getElem.1 hn i j (by simpa using hi') (by simpa using hl) hi
  apply h1
  simp[e,he]
 simp only[Bool.not_eq_true,beq_eq_false_iff_ne,ne_eq]
 intro e
 exact hne (by exact_mod_cast e)
theorem IU(es:Array MapEntry)(x:MapEntry)(f:MapEntry→MapEntry):(es.push x).modify es.size f=es.push (f x):=by
 apply Array.ext_getElem?
 intro i
 rw[Array.getElem?_modify]
 rcases Nat.lt_trichotomy i es.size with h|h|h
 ·rw[if_neg zo,Array.getElem?_push,Array.getElem?_push,if_neg zo,if_neg zo]
 ·subst h
  simp
 ·rw[if_neg zo,Array.getElem?_push,Array.getElem?_push,if_neg zo,if_neg zo]
theorem BI(es:Array MapEntry)(j:Nat)(f g:MapEntry→MapEntry):(es.modify j f).modify j g=es.modify j fun e=>g (f e):=by
 apply Array.ext_getElem?
 intro i
 rw[Array.getElem?_modify,Array.getElem?_modify,Array.getElem?_modify]
 split <;> simp[Function.comp_def]
section
variable{H:Type}{P:Program}{k t e:TypeId}{R:Value→Option (DataW H × List MemPlace)}{w:World}{b n:Nat}{D:DataW H}
theorem DR{W1:World}{es':Array MapEntry}{c' j:Nat}{st:Int}(hb1:W1.heap[b]? =some (.map es' c'))(hf:es'.findIdx? (fun e=>(e.born:Int) == st)=some j)(val:Value):(Instr.entryStore t (.map (some b)) (int i64 st) val).run P W1=.ok () (setBlock W1 b (.map (es'.modify j fun e=>{e with val:=val }) c')):=by
 simp[Instr.entryStore,MapKept.run_getObj_map hb1,hf,MapKept.run_setObj_map _ hb1,Result.andThen,go_sem,setBlock]
theorem kS(w:World)(b:Nat)(o o':Obj):setBlock (setBlock w b o) b o'=setBlock w b o':=by simp[setBlock]
theorem E8{W:World}{es':Array MapEntry}{c' j:Nat}{e1:MapEntry}(hb:W.heap[b]? =some (.map es' c'))(K:Keyed P k)(ht:P.underlying t=some (.map k e)){key:Value}{kl:Lit}(hkey:keyOf P k key=some kl)
 (hkeys:∀x∈es'.toList,∃l,keyOf P k x.key=some l)(hnd:(es'.toList.map (·.key)).Nodup)(hj:es'[j]? =some e1)(hk:e1.key=key):(Instr.lookup t (.map (some b)) key false).run P W=.ok e1.val W:=by
 have hjl:j<es'.size:=(Array.getElem?_eq_some_iff.1 hj).1
 have rl:es'[j]=e1:=(Array.getElem?_eq_some_iff.1 hj).2
 rcases K.find W hkey es'.toList hkeys with⟨_,h2⟩|⟨i,e2,h1,h2,h3⟩
 ·exact absurd hk (h2 e1 (by rw[← rl];exact Array.getElem_mem_toList hjl))
 ·have h2':es'[i]? =some e2:=by simpa using h2
  have hil:i<es'.size:=(Array.getElem?_eq_some_iff.1 h2').1
  have hie:es'[i]=e2:=(Array.getElem?_eq_some_iff.1 h2').2
  have hij:i=j:=by
   rcases Nat.lt_trichotomy i j with h|h|h
   ·exact((List.pairwise_iff_getElem.1 hnd i j (by simpa using hil) (by simpa using hjl) h) (by simp[hie,rl,h3,hk])).elim
   ·exact h
   ·exact((List.pairwise_iff_getElem.1 hnd j i (by simpa using hjl) (by simpa using hil) h) (by simp[hie,rl,h3,hk])).elim
  subst hij
  obtain rfl:e2=e1:=by rw[← hie,← rl]
  simp[Instr.lookup,run_underlying ht,MapKept.run_getObj_map hb,K.check W _ hkey,h1,Result.andThen]
theorem Qi(h:w.ownsMap P k R b n D)(K:Keyed P k)(ht:P.underlying t=some (.map k e)){z:Value}(hz:∀w,(zeroValue e).run P w=.ok z w){key:Value}{kl:Lit}(hkey:keyOf P k key=some kl):
 ∃ (v st:Value) (w1:World),(Instr.mapEntry t (.map (some b)) key).run P w=.ok (.tuple #[v,st]) w1∧(Instr.lookup t (.map (some b)) key false).run P w=.ok v w∧(Instr.lookup t (.map (some b)) key false).run P w1=.ok v w1:=by
 obtain⟨es,clock,hb,F,hs,rfl⟩:=h
 rcases K.find w hkey es.toList F.keys with⟨h1,h2⟩|⟨j,e0,h1,h2,h3⟩
 ·have hb1:(setBlock w b (.map (es.push ⟨key,z,clock⟩) (clock+1))).heap[b]? =some (.map (es.push ⟨key,z,clock⟩) (clock+1)):=heap_setBlock_same hb _
  refine⟨z,goInt clock,setBlock w b (.map (es.push ⟨key,z,clock⟩) (clock+1)),?_,?_,?_⟩
  ·simp[Instr.mapEntry,run_underlying ht,MapKept.run_getObj_map hb,K.check w false hkey,h1,hz,MapKept.run_setObj_map _ hb,Result.andThen,setBlock]
  ·simp[Instr.lookup,run_underlying ht,MapKept.run_getObj_map hb,K.check w _ hkey,h1,hz,Result.andThen]
  ·exact E8 (j:=es.size) (e1:=⟨key,z,clock⟩) hb1 K ht hkey (fun x hx=>by
    simp only[Array.toList_push,List.mem_append,List.mem_singleton] at hx
    rcases hx with hx|rfl
    ·exact F.keys x hx
    ·exact⟨kl,hkey⟩) (stamped_push F.stamped h2).2.2 zs rfl
 ·have hj:es[j]? =some e0:=by simpa using h2
  have hsame:es.modify j (fun e=>{e with key })=es:=by
   apply Array.ext_getElem?
   intro i
   rw[Array.getElem?_modify]
   split
   ·rename_i hi
    subst hi
    rw[hj]
    simp[← h3]
   ·rfl
  have hb1:(setBlock w b (.map es clock)).heap[b]? =some (.map es clock):=heap_setBlock_same hb _
  refine⟨e0.val,goInt e0.born,setBlock w b (.map es clock),?_,E8 hb K ht hkey F.keys F.stamped.2.2 hj h3,E8 hb1 K ht hkey F.keys F.stamped.2.2 hj h3⟩
  have:(Instr.mapEntry t (.map (some b)) key).run P w=.ok (.tuple #[e0.val,goInt e0.born]) (setBlock w b (.map (es.modify j (fun e=>{e with key })) clock)):=by
   simp[Instr.mapEntry,run_underlying ht,MapKept.run_getObj_map hb,K.check w false hkey,h1,hj,h3,K.stays w hkey,MapKept.run_setObj_map _ hb,Result.andThen,setBlock]
  rw[hsame] at this
  exact this
theorem KM(h:w.ownsMap P k R b n D)(K:Keyed P k)(ht:P.underlying t=some (.map k e)){z:Value}(hz:∀w,(zeroValue e).run P w=.ok z w){key:Value}{kl:Lit}(hkey:keyOf P k key=some kl):
 ∃ (v:Value) (st:Int) (w1:World),(Instr.mapEntry t (.map (some b)) key).run P w=.ok (.tuple #[v,int i64 st]) w1∧w.grownBy w1 (some b)∧
   ∀val:Value,∃w',(Instr.mapUpdate t (.map (some b)) key val).run P w=.ok () w'∧(Instr.entryStore t (.map (some b)) (int i64 st) val).run P w1=.ok () w':=by
 obtain⟨es,clock,hb,F,hs,rfl⟩:=h
 rcases K.find w hkey es.toList F.keys with⟨h1,h2⟩|⟨j,e0,h1,h2,h3⟩
 ·refine⟨z,clock,setBlock w b (.map (es.push ⟨key,z,clock⟩) (clock+1)),?_,?_,fun val=>⟨setBlock w b (.map (es.push ⟨key,val,clock⟩) (clock+1)),?_,?_⟩⟩
  ·simp[Instr.mapEntry,run_underlying ht,MapKept.run_getObj_map hb,K.check w false hkey,h1,hz,MapKept.run_setObj_map _ hb,Result.andThen,setBlock,goInt]
  ·exact⟨rfl,rfl,rfl,by simp[setBlock],fun i _ hi=>heap_setBlock_other hb _ (fun e=>hi (by rw[e]))⟩
  ·simp[Instr.mapUpdate,run_underlying ht,MapKept.run_getObj_map hb,K.check w false hkey,h1,MapKept.run_setObj_map _ hb,Result.andThen,setBlock]
  ·have hb1:(setBlock w b (.map (es.push ⟨key,z,clock⟩) (clock+1))).heap[b]? =some (.map (es.push ⟨key,z,clock⟩) (clock+1)):=heap_setBlock_same hb _
   have hf:=kZ (es.push ⟨key,z,clock⟩) (stamped_push F.stamped h2).2.1 (j:=es.size) (e0:=⟨key,z,clock⟩) zs
   have:=DR (P:=P) (t:=t) hb1 hf val
   rw[IU,kS] at this
   exact this
 ·have hj:es[j]? =some e0:=by simpa using h2
  have hf:=kZ es F.stamped.2.1 hj
  have hb1:(setBlock w b (.map (es.modify j fun e=>{e with key }) clock)).heap[b]? =some (.map (es.modify j fun e=>{e with key }) clock):=heap_setBlock_same hb _
  have hkeyf:∀e',es[j]? =some e'→({e' with key:=key }:MapEntry).key=e'.key:=fun e' he'=>by rw[hj] at he';cases he';exact h3.symm
  refine⟨e0.val,e0.born,setBlock w b (.map (es.modify j fun e=>{e with key }) clock),?_,?_,fun val=>⟨setBlock w b (.map (es.modify j fun e=>{e with key,val }) clock),?_,?_⟩⟩
  ·simp[Instr.mapEntry,run_underlying ht,MapKept.run_getObj_map hb,K.check w false hkey,h1,hj,h3,K.stays w hkey,MapKept.run_setObj_map _ hb,Result.andThen,setBlock,goInt]
  ·exact⟨rfl,rfl,rfl,by simp[setBlock],fun i _ hi=>heap_setBlock_other hb _ (fun e=>hi (by rw[e]))⟩
  ·simp[Instr.mapUpdate,run_underlying ht,MapKept.run_getObj_map hb,K.check w false hkey,h1,hj,h3,K.stays w hkey,MapKept.run_setObj_map _ hb,Result.andThen,setBlock]
  ·have hf':=kZ (es.modify j fun e=>{e with key }) (stamped_modify F.stamped j (fun e=>{e with key }) (fun _ _=>rfl) (fun e1 _ he1=>hkeyf e1 he1)).2.1 (j:=j) (e0:={e0 with key }) (by rw[Array.getElem?_modify];simp[hj])
   have:=DR (P:=P) (t:=t) hb1 hf' val
   rw[BI,kS] at this
   exact this
end
end
section
open Go
section
variable{F:Fence}{n:Nat}{P:Program}{ops:Array Oper}{Q:Exit→Act→World→Prop}{md:Region.Mode}{S:World→Prop}{L:Nat}
theorem aU{i i':Nat}{o o':Oper}{fuel:Nat}{listed:Array Bool}{a:Act}{w:World}(hr:Region.ready md ops listed=[i,i'])(ho:ops[i]? =some o)(ho':ops[i']? =some o')
 (h:∀K':Act→World→Prop,Shut (∀a w,(i≠L→S w)→bg F n P md ops Q S L fuel (listed.setIfInBounds i true) a w→K' a w)→if Region.wanted o (yielded ops a.tmps)=true then Oper.wpIn F n P o a w K' Q else(∀f,o.about P w a.eval=some f→F.fn f)∧K' (a.put o.dst undef) w)
 (h':∀K':Act→World→Prop,Shut (∀a w,(i'≠L→S w)→bg F n P md ops Q S L fuel (listed.setIfInBounds i' true) a w→K' a w)→if Region.wanted o' (yielded ops a.tmps)=true then Oper.wpIn F n P o' a w K' Q else(∀f,o'.about P w a.eval=some f→F.fn f)∧K' (a.put o'.dst undef) w):
 bg F n P md ops Q S L (fuel+1) listed a w:=by
 refine⟨(fun h0=>by rw[hr] at h0;cases h0),fun j hj=>?_⟩
 rw[hr] at hj
 simp only[List.mem_cons,List.not_mem_nil,or_false] at hj
 rcases hj with rfl|rfl
 ·exact wpOpIn_step ho fun K' hK=>h K' fun a w hS hW=>hK a w ⟨hS,hW⟩
 ·exact wpOpIn_step ho' fun K' hK=>h' K' fun a w hS hW=>hK a w ⟨hS,hW⟩
theorem oJ{i i' i2:Nat}{o o' o2:Oper}{fuel:Nat}{listed:Array Bool}{a:Act}{w:World}(hr:Region.ready md ops listed=[i,i',i2])(ho:ops[i]? =some o)(ho':ops[i']? =some o')(ho2:ops[i2]? =some o2)
 (h:∀K':Act→World→Prop,Shut (∀a w,(i≠L→S w)→bg F n P md ops Q S L fuel (listed.setIfInBounds i true) a w→K' a w)→if Region.wanted o (yielded ops a.tmps)=true then Oper.wpIn F n P o a w K' Q else(∀f,o.about P w a.eval=some f→F.fn f)∧K' (a.put o.dst undef) w)
 (h':∀K':Act→World→Prop,Shut (∀a w,(i'≠L→S w)→bg F n P md ops Q S L fuel (listed.setIfInBounds i' true) a w→K' a w)→if Region.wanted o' (yielded ops a.tmps)=true then Oper.wpIn F n P o' a w K' Q else(∀f,o'.about P w a.eval=some f→F.fn f)∧K' (a.put o'.dst undef) w)
 (h2:∀K':Act→World→Prop,Shut (∀a w,(i2≠L→S w)→bg F n P md ops Q S L fuel (listed.setIfInBounds i2 true) a w→K' a w)→if Region.wanted o2 (yielded ops a.tmps)=true then Oper.wpIn F n P o2 a w K' Q else(∀f,o2.about P w a.eval=some f→F.fn f)∧K' (a.put o2.dst undef) w):
 bg F n P md ops Q S L (fuel+1) listed a w:=by
 refine⟨(fun h0=>by rw[hr] at h0;cases h0),fun j hj=>?_⟩
 rw[hr] at hj
 simp only[List.mem_cons,List.not_mem_nil,or_false] at hj
 rcases hj with rfl|rfl|rfl
 ·exact wpOpIn_step ho fun K' hK=>h K' fun a w hS hW=>hK a w ⟨hS,hW⟩
 ·exact wpOpIn_step ho' fun K' hK=>h' K' fun a w hS hW=>hK a w ⟨hS,hW⟩
 ·exact wpOpIn_step ho2 fun K' hK=>h2 K' fun a w hS hW=>hK a w ⟨hS,hW⟩
end
end
section
open Go Go.RowKit Go.Maps
section
variable{F:Fence}{n:Nat}{P:Program}{ops:Array Oper}{Q:Exit→Act→World→Prop}
theorem wI{id l₀:Nat}{a:Act}{w:World}(L:Nat)(S:World→Prop)(hro:F.round=none)(hm:P.follows .mixedOrders=true)(hd:wQ ops=true)
 (h:bg F n P .any ops Q S L ops.size (Array.replicate ops.size false) a w.drew):(Code.region id ops true).wpIn (F.inRound l₀) n P Q a w:=
 wpIn_region_any hm (lN hro hd _ _ _ _ (nD _ _ _ _ h))
end
theorem me:laidOutB prog=true:=zk
theorem dS:Keyed prog 143:=Keyed.of_law (deep_law_laid me (m:=2) zo (of_decide_eq_true zk) zk zk)
theorem nG(w:World):(zeroValue 3).run prog w=.ok (int i64 0) w:=zk
def ue:DataW Unit→Int
 | .lit (.int _ c)=>c
 | _=>0
def rU(D:DataW Unit)(kl:Lit):DataW Unit:=D.put kl (.lit (.int .i64 (wrap64 (ue (D.atKey kl (.lit (.int .i64 0)))+1))))
theorem Kw(l₀ B M n:Nat)(D:DataW Unit)(g m:Int)(kl:Lit)(hkey:keyOf prog 143 (.agg #[int i64 g,int i64 m])=some kl)(w:World)(hc:w.cell? ⟨B,0,none⟩=some (.map (some M)))(hlt:B<w.heap.size)(qT:B≠M)(hD:w.ownsMap prog 143 (plainElem prog 3) M n D)(hn:n<maxLen)(ds:List Deferred)
 (x0 x1 x2 x4 x7 x8 x9 x10 x11 x12 x13 x14 x15 x16 x17 x18 x19 x20 x21 x22 x23 x24 x25 x26 x27 x28 x29 x30 x31 x32 x33 x34 x35:Value)(Q:Exit→Act→World→Prop)(hQ:∀ (c:List PanicEntry) (a b:Act) (w:World),Q (.panic c) a w→Q (.panic c) b w)
 (h:∀ (y25 y26 y27 y28 y29 y30 y31 y32:Value) (w':World),w'.ownsMap prog 143 (plainElem prog 3) M (n+1) (rU D kl)→Keeps (fun x=>x=M) w w'→Q .normal {tmps:=#[x0,x1,x2,.pointer (some ⟨B,0,none⟩),x4,int i64 g,int i64 m,x7,x8,x9,x10,x11,x12,x13,x14,x15,x16,x17,x18,x19,x20,x21,x22,x23,x24,y25,y26,y27,y28,y29,y30,y31,y32,x33,x34,x35],defers:=ds } w'):
 (Code.region 8 #[{dst:=some 25,op:=Op.load 139 (Operand.tmp 3),type:=139,pos:=Fx,after:=#[],guard:=none },{dst:=some 26,op:=Op.move (Operand.tmp 5),type:=3,pos:=Fx,after:=#[],guard:=none },{dst:=some 27,op:=Op.move (Operand.tmp 6),type:=3,pos:=Fx,after:=#[],guard:=none },{dst:=some 28,op:=Op.build 143 #[(0,Operand.tmp 26),(1,Operand.tmp 27)],type:=143,pos:=Fx,after:=#[{on:=1,ground:=Ground.data },{on:=2,ground:=Ground.data }],guard:=none },{dst:=some 29,op:=Op.lookup 139 (Operand.tmp 25) (Operand.tmp 28) false,type:=3,pos:=Fx,after:=#[{on:=0,ground:=Ground.data },{on:=3,ground:=Ground.data }],guard:=none },{dst:=some 30,op:=Op.binOp BinOp.add 3 (Operand.tmp 29) (Operand.const (Value.int IntKind.i64 1)) 3,type:=3,pos:=Fx,after:=#[{on:=4,ground:=Ground.data }],guard:=none },{dst:=some 31,op:=Op.mapEntry 139 (Operand.tmp 25) (Operand.tmp 28),type:=0,pos:=Fx,after:=#[{on:=0,ground:=Ground.data },{on:=3,ground:=Ground.data },{on:=0,ground:=Ground.phase },{on:=1,ground:=Ground.phase },{on:=2,ground:=Ground.phase },{on:=3,ground:=Ground.phase },{on:=4,ground:=Ground.textOnly Departure.mapOpAssignEntry },{on:=5,ground:=Ground.textOnly Departure.mapOpAssignEntry }],guard:=none },{dst:=some 32,op:=Op.extract (Operand.tmp 31) 1,type:=3,pos:=Fx,after:=#[{on:=6,ground:=Ground.data }],guard:=none },{dst:=none,op:=Op.entryStore 139 (Operand.tmp 25) (Operand.tmp 32) (Operand.tmp 30),type:=0,pos:=Fx,after:=#[{on:=0,ground:=Ground.data },{on:=7,ground:=Ground.data },{on:=5,ground:=Ground.data },{on:=6,ground:=Ground.chain },{on:=0,ground:=Ground.phase },{on:=1,ground:=Ground.phase },{on:=2,ground:=Ground.phase },{on:=3,ground:=Ground.phase },{on:=4,ground:=Ground.phase },{on:=5,ground:=Ground.phase },{on:=6,ground:=Ground.phase },{on:=7,ground:=Ground.phase }],guard:=none }] true).wpIn (FF.inRound l₀) 0 prog Q {tmps:=#[x0,x1,x2,.pointer (some ⟨B,0,none⟩),x4,int i64 g,int i64 m,x7,x8,x9,x10,x11,x12,x13,x14,x15,x16,x17,x18,x19,x20,x21,x22,x23,x24,x25,x26,x27,x28,x29,x30,x31,x32,x33,x34,x35],defers:=ds } w:=by
 refine wI 8 (fun w'=>w'.cell? ⟨B,0,none⟩=some (.map (some M))) rfl zk zk ?_
 obtain⟨wd,hwd⟩:∃wd,wd=w.drew:=zE
 have hS:wd.cell? ⟨B,0,none⟩=some (.map (some M)):=by rw[hwd];exact hc
 have hown:wd.ownsMap prog 143 (plainElem prog 3) M n D:=by rw[hwd];exact hD.drew
 have hk0:Keeps (fun x=>x=M) w wd:=by rw[hwd];exact Keeps.bK (dR zB)
 have yl:B<wd.heap.size:=by rw[hwd];exact hlt
 rw[← hwd]
 clear hwd hc hD hlt
 obtain⟨v,st,w1,hme,hg1,hup⟩:=KM hown dS underlying139 nG hkey
 obtain⟨v',st',w1',yn,hl0,hl1⟩:=Qi hown dS underlying139 nG hkey
 rw[hme] at yn
 obtain⟨c,hl,hat,-⟩:=hown.lookup_int dS underlying139 underlying3 (nG _) hkey
 rw[hl0] at hl
 injection hl with hv' _
 injection yn with hvv T0
 subst T0
 subst hv'
 injection hvv with hvv
 injection hvv with hvv
 injection hvv with hvv hst
 injection hst with hst _
 subst hvv
 subst hst
 obtain⟨w2,hu,hs⟩:=hup (int i64 (IntKind.i64.wrap (c+1)))
 obtain⟨w2',hu',hown2,hg2⟩:=hown.update dS underlying139 hn hkey (plainElem_int (P:=prog) (e:=3) underlying3 (show(Lit.int .i64 (IntKind.i64.wrap (c+1))).wf=true by rw[IntWalk.i64_left];exact RowKit.wrap64_wf (c+1)))
 rw[hu] at hu'
 injection hu' with _ T0
 subst T0
 have dE:rU D kl=D.put kl (.lit (.int .i64 (IntKind.i64.wrap (c+1)))):=by unfold rU;rw[hat,IntWalk.i64_left];rfl
 rw[← dE] at hown2
 have hS1:w1.cell? ⟨B,0,none⟩=some (.map (some M)):=(World.cell?_of_block (hg1.block B yl (by simpa using qT))).trans hS
 have HK:Hid (Keeps (fun x=>x=M) w w2):=hid (hk0.trans ⟨hg2.os,hg2.tape,hg2.output,hg2.size,fun b hb hc=>hg2.block b hb (by intro e;cases e;exact hc rfl)⟩)
 have HO:=hid hown2
 have HH:=hid h
 clear hu hup hown2 hg1 hg2 hat hown hk0 hkey h dE yl
 have HQ:=hid hQ
 clear hQ
 refine Cc (i:=0) (some 25) hS ?_ (hQ:=fun _ _ _ h=>HQ.out _ _ _ _ h)
 simp only[Act.put,List.setIfInBounds_toArray,List.set]
 refine Cc (i:=1) (some 26) hS ?_ (hQ:=fun _ _ _ h=>HQ.out _ _ _ _ h)
 simp only[Act.put,List.setIfInBounds_toArray,List.set]
 refine Cc (i:=2) (some 27) hS ?_ (hQ:=fun _ _ _ h=>HQ.out _ _ _ _ h)
 simp only[Act.put,List.setIfInBounds_toArray,List.set]
 refine Cc (i:=3) (some 28) hS ?_ (hQ:=fun _ _ _ h=>HQ.out _ _ _ _ h)
 simp only[Act.put,List.setIfInBounds_toArray,List.set]
 refine aU (i:=4) (i':=6) zk rfl rfl (fun K hK=>?_) (fun K hK=>?_)
 ·skip
  go_simp
  refine hK.out _ _ (fun _=>hS) ?_
  clear hK K
  refine aU (i:=5) (i':=6) zk rfl rfl (fun K hK=>?_) (fun K hK=>?_)
  ·skip
   go_simp
   refine hK.out _ _ (fun _=>hS) ?_
   clear hK K
   refine bf 6 fun K hK=>?_
   go_simp
   refine hK.out _ _ (fun _=>hS1) ?_
   clear hK K
   refine bf 7 fun K hK=>?_
   go_simp
   refine hK.out _ _ (fun _=>hS1) ?_
   clear hK K
   refine bf 8 fun K hK=>?_
   go_simp
   refine hK.out _ _ (fun h=>absurd rfl h) ?_
   clear hK K
   refine aG zk ?_ _
   exact HH.out _ _ _ _ _ _ _ _ _ HO.out HK.out
  ·skip
   go_simp
   refine hK.out _ _ (fun _=>hS1) ?_
   clear hK K
   refine aU (i:=5) (i':=7) zk rfl rfl (fun K hK=>?_) (fun K hK=>?_)
   ·skip
    go_simp
    refine hK.out _ _ (fun _=>hS1) ?_
    clear hK K
    refine bf 7 fun K hK=>?_
    go_simp
    refine hK.out _ _ (fun _=>hS1) ?_
    clear hK K
    refine bf 8 fun K hK=>?_
    go_simp
    refine hK.out _ _ (fun h=>absurd rfl h) ?_
    clear hK K
    refine aG zk ?_ _
    exact HH.out _ _ _ _ _ _ _ _ _ HO.out HK.out
   ·skip
    go_simp
    refine hK.out _ _ (fun _=>hS1) ?_
    clear hK K
    refine bf 5 fun K hK=>?_
    go_simp
    refine hK.out _ _ (fun _=>hS1) ?_
    clear hK K
    refine bf 8 fun K hK=>?_
    go_simp
    refine hK.out _ _ (fun h=>absurd rfl h) ?_
    clear hK K
    refine aG zk ?_ _
    exact HH.out _ _ _ _ _ _ _ _ _ HO.out HK.out
 ·skip
  go_simp
  refine hK.out _ _ (fun _=>hS1) ?_
  clear hK K
  refine aU (i:=4) (i':=7) zk rfl rfl (fun K hK=>?_) (fun K hK=>?_)
  ·skip
   go_simp
   refine hK.out _ _ (fun _=>hS1) ?_
   clear hK K
   refine aU (i:=5) (i':=7) zk rfl rfl (fun K hK=>?_) (fun K hK=>?_)
   ·skip
    go_simp
    refine hK.out _ _ (fun _=>hS1) ?_
    clear hK K
    refine bf 7 fun K hK=>?_
    go_simp
    refine hK.out _ _ (fun _=>hS1) ?_
    clear hK K
    refine bf 8 fun K hK=>?_
    go_simp
    refine hK.out _ _ (fun h=>absurd rfl h) ?_
    clear hK K
    refine aG zk ?_ _
    exact HH.out _ _ _ _ _ _ _ _ _ HO.out HK.out
   ·skip
    go_simp
    refine hK.out _ _ (fun _=>hS1) ?_
    clear hK K
    refine bf 5 fun K hK=>?_
    go_simp
    refine hK.out _ _ (fun _=>hS1) ?_
    clear hK K
    refine bf 8 fun K hK=>?_
    go_simp
    refine hK.out _ _ (fun h=>absurd rfl h) ?_
    clear hK K
    refine aG zk ?_ _
    exact HH.out _ _ _ _ _ _ _ _ _ HO.out HK.out
  ·skip
   go_simp
   refine hK.out _ _ (fun _=>hS1) ?_
   clear hK K
   refine bf 4 fun K hK=>?_
   go_simp
   refine hK.out _ _ (fun _=>hS1) ?_
   clear hK K
   refine bf 5 fun K hK=>?_
   go_simp
   refine hK.out _ _ (fun _=>hS1) ?_
   clear hK K
   refine bf 8 fun K hK=>?_
   go_simp
   refine hK.out _ _ (fun h=>absurd rfl h) ?_
   clear hK K
   refine aG zk ?_ _
   exact HH.out _ _ _ _ _ _ _ _ _ HO.out HK.out
end
section
open Go.RowKit Go.Maps
open Go.Sort (grow)
attribute [local go_sem] Oper.semAt_some
def om(kl:Nat→Int→Lit)(v:Ht→Nat→Int)(pre:List Ht):DataW Unit:=pre.foldl (fun D h=>rU (rU (rU D (kl 0 (v h 0))) (kl 1 (v h 1))) (kl 2 (v h 2))) (.map [])
theorem Mf(kl:Nat→Int→Lit)(v:Ht→Nat→Int)(pre:List Ht)(h:Ht):om kl v (pre ++ [h])=rU (rU (rU (om kl v pre) (kl 0 (v h 0))) (kl 1 (v h 1))) (kl 2 (v h 2)):=by unfold om;rw[List.foldl_append];rfl
abbrev Bp(W:World)(M n:Nat)(D:DataW Unit):Prop:=W.ownsMap prog 143 (plainElem prog 3) M n D
theorem UO(u v z:Int)(w:World):(Instr.index 88 (.agg #[int i64 u,int i64 v,int i64 z]) (int i64 0)).run prog w=.ok (int i64 u) w∧(Instr.index 88 (.agg #[int i64 u,int i64 v,int i64 z]) (int i64 1)).run prog w=.ok (int i64 v) w∧(Instr.index 88 (.agg #[int i64 u,int i64 v,int i64 z]) (int i64 2)).run prog w=.ok (int i64 z) w:=⟨zk,zk,zk⟩
theorem Zg(b:Bk)(ok:b.Ok)(hl:∀s∈ak b,eu s)(hlen:(aB b (ak b)).length<2 ^ 40)(v:Ht→Nat→Int)(hv:v=fun h=>stk b h b.dY b.nm)(kl:Nat→Int→Lit)(hkey:∀h∈aB b (ak b),∀g:Nat,g<3→keyOf prog 143 (.agg #[int i64 g,int i64 (v h g)])=some (kl g (v h g)))(A:Option Addr)(p:Nat)(w:World)(hc:pJ b A w):
 CallsIn FF 0 prog 96 #[.agg (aA b A (ak b).length p)] w fun e w'=>∃M n,e=.returned (.tuple #[int i64 (aB b (ak b)).length,.map (some M)])∧n≤3 * (aB b (ak b)).length∧Bp w' M n (om kl v (aB b (ak b)))∧w.heap.size≤M∧Below w.heap.size w w':=by
 have hx:=jE b ok (ak b) hl
 have HH:=hid fun w=>nV (p:=FF.fn) b A (ak b).length p w
 have HIT:=hid fun(C:Nat→Prop) (Bc:Nat) (W:World) (hW:Below w.heap.size w W) (hC:∀x,C x→w.heap.size≤x∧x<W.heap.size) (hb:Whole W Bc 75 (aA b A (ak b).length p)) (cb:¬ C Bc)=>Lf (p:=FF.fn) b ok A p (ak b) hl (lT b ok) C w.heap.size Bc W (fun x hx=>(hC x hx).2) hb (hc.row.below hW) (hc.at_.below hW) hW.size cb (fun x hx h=>by have:=(hC _ h).1;omega)
 have HS:=hid fun W (h:Ht) (hh:h∈aB b (ak b)) hA=>show CallsIn FF 0 prog 47 #[b.val,h.val,int i64 b.dY] W fun e w'=>e=.returned (mF (v h))∧Below W.heap.size W w' from by rw[hv];exact gK b h b.dY W hA ok.moves ok.bE.1.2 (hx h hh)
 have HC:=hid hc
 have HA:=hid hc.at_
 have HK:=hid hkey
 obtain⟨n,hn⟩:∃n,n=(ak b).length:=zE
 obtain⟨xs,hxs⟩:∃xs,xs=aB b (ak b):=zE
 rw[← hn] at HH HIT⊢
 rw[← hxs] at HIT HS HK hlen⊢
 clear hn hxs hc hl ok hx hv hkey
 obtain⟨dY,mO,gA,ng,gc,g,mA,nm,mc,m,cA,nc,cc,c⟩:=b
 simp only[Bk.val,Bk.cells,aA,mF] at HH HIT HS⊢
 refine callsIn_of_wp_marks func96 rfl zs ?_ rfl
 simp only[ntmps96,List.size_toArray,List.length_cons,List.length_nil,Nat.reduceAdd,Nat.reduceSub,Array.replicate_succ,Array.replicate_zero,List.push_toArray,List.append_toArray,List.nil_append,List.cons_append]
 have hmm:=@run_makeMap prog
 obtain⟨W,hW⟩:∃W,W=(((w.alloc (.cells #[int i64 dY,int i64 mO,.slice gA ng gc,.slice mA nm mc,.slice cA nc cc,.slice A n p] 75)).alloc (.cells #[int i64 0] 3)).alloc (.cells #[.map (some (w.heap.size+1+1+1))] 139)).alloc (.map #[] 0):=zE
 have B1:Hid (Below w.heap.size w W):=hid (by rw[hW];exact bw)
 have C1:Hid (Whole W w.heap.size 75 #[int i64 dY,int i64 mO,.slice gA ng gc,.slice mA nm mc,.slice cA nc cc,.slice A n p]):=hid (by rw[hW];exact(((Whole.new w _ _).alloc _).alloc _).alloc _)
 have N1:Hid (Whole W (w.heap.size+1) 3 #[int i64 0]):=hid (by rw[hW];exact((aK zs).alloc _).alloc _)
 have M1:Hid (Whole W (w.heap.size+1+1) 139 #[.map (some (w.heap.size+1+1+1))]):=hid (by rw[hW];exact(aK zs).alloc _)
 have O1:Hid (Bp W (w.heap.size+1+1+1) 0 (om kl v [])):=hid (by
  have:=World.ownsMap_made (H:=Unit) (((w.alloc (.cells #[int i64 dY,int i64 mO,.slice gA ng gc,.slice mA nm mc,.slice cA nc cc,.slice A n p] 75)).alloc (.cells #[int i64 0] 3)).alloc (.cells #[.map (some (w.heap.size+1+1+1))] 139)) prog 143 (plainElem prog 3)
  simp only[World.size_alloc] at this;rw[hW];exact this)
 have hsW:W.heap.size=w.heap.size+4:=by rw[hW];simp
 have HW:=hid hW
 clear hW
 gi_wp2_with (gi_at_call 39;rw[← HW.out];refine(HH.out W).mono ?_;rintro e w4 ⟨rfl,hw4,hb4,hs4⟩)
 clear hmm HW
 have B4:Hid (Below w.heap.size w w4):=hid (Below.next B1.out hb4)
 have C4:=hid (C1.out.below hb4 C1.out.lt)
 have N4:=hid (N1.out.below hb4 N1.out.lt)
 have M4:=hid (M1.out.below hb4 M1.out.lt)
 have O4:Hid (Bp w4 (w.heap.size+1+1+1) 0 (om kl v [])):=hid (bT O1.out (hb4.block _ zo))
 rw[hsW] at hw4
 have H4:=hid hw4
 clear hw4 hb4 B1 C1 N1 M1 O1
 obtain⟨CC,Uc⟩:∃CC:Nat→Prop,CC=fun x=>x=w.heap.size+1∨x=w.heap.size+1+1+1:=⟨_,rfl⟩
 have nJ:∀x,CC x↔x=w.heap.size+1∨x=w.heap.size+1+1+1:=fun x=>by rw[Uc]
 clear Uc
 have eg:=enters_of func79 zk rfl
 have RN:=hid eg
 clear eg
 refine iU (C:=CC) rfl rfl (gf:=79) (lb:=#[.pointer (some ⟨w.heap.size+4,0,none⟩)]) rfl zs RN.out (encs:=fun h:Ht=>#[h.val]) (xs:=xs)
  (fun x hx=>by have:=(nJ x).1 hx;omega) ?hseq (fun _=>rfl) (fun pre W'=>Hid (Whole W' (w.heap.size+1) 3 #[int i64 pre.length]∧Bp W' (w.heap.size+1+1+1) (3 * pre.length) (om kl v pre))) (fun c pre W'=>False)
  (fun pre A B h hb=>hid ⟨h.out.1.below hb zo,bT h.out.2 (hb.block _ zo)⟩) (fun c pre A B h hb=>h.elim) (hid ⟨N4.out,O4.out⟩) ?gI ?hdone ?hstop
 case hseq=>
  exact fun W2 hb2 hs2=>HIT.out _ _ W2 (Below.next B4.out hb2) (fun x hx=>by rw[nJ] at hx;omega) (H4.out.below hb2 H4.out.lt) (fun hx=>by rw[nJ] at hx;omega)
 case gI=>
  intro l' pre h A0 hl' hpre hj hk hsz hrec
  have hsn:=Mf kl v pre h
  have hpl:(pre ++ [h]).length=pre.length+1:=zs
  have Tu:=iP hpre
  rw[hpl,hsn]
  have K0:keyOf prog 143 (.agg #[int i64 0,int i64 (v h 0)])=some (kl 0 (v h 0)):=HK.out h (fP hpre) 0 zD
  have K1:keyOf prog 143 (.agg #[int i64 1,int i64 (v h 1)])=some (kl 1 (v h 1)):=HK.out h (fP hpre) 1 zD
  have K2:keyOf prog 143 (.agg #[int i64 2,int i64 (v h 2)])=some (kl 2 (v h 2)):=HK.out h (fP hpre) 2 zD
  have JH:=hid fun W=>HS.out W h (fP hpre)
  obtain⟨v0,hv0⟩:∃x,x=v h 0:=zE
  obtain⟨v1,hv1⟩:∃x,x=v h 1:=zE
  obtain⟨v2,hv2⟩:∃x,x=v h 2:=zE
  rw[← hv0] at K0 JH⊢
  rw[← hv1] at K1 JH⊢
  rw[← hv2] at K2 JH⊢
  obtain⟨k0,hk0⟩:∃x,x=kl 0 v0:=zE
  obtain⟨k1,hk1⟩:∃x,x=kl 1 v1:=zE
  obtain⟨k2,hk2⟩:∃x,x=kl 2 v2:=zE
  rw[← hk0] at K0⊢
  rw[← hk1] at K1⊢
  rw[← hk2] at K2⊢
  have OQ:=hid K0
  have LO:=hid K1
  have LS:=hid K2
  obtain⟨D,hD⟩:∃D,D=om kl v pre:=zE
  rw[← hD] at hj⊢
  clear hsn hpl hv0 hv1 hv2 hk0 hk1 hk2 hD K0 K1 K2
  obtain⟨hf,hmm,wm⟩:=h
  simp only[Ht.val,Ht.cells] at JH⊢
  gi_wp2
  refine⟨bw,fun W2 hS=>?_⟩
  have oP:Below (w.heap.size+5) A0 W2:=((Below.refl _ A0).alloc zo _).trans (hS.below zo)
  have hA2:A0.heap.size+1≤W2.heap.size:=by have:=hS.size;simp at this;exact Nat.le_of_eq this.symm
  have N2:=hid (hj.out.1.below oP zo)
  have O2:Hid (Bp W2 (w.heap.size+1+1+1) (3 * pre.length) D):=hid (bT hj.out.2 (oP.block _ zo))
  have C2:Hid (Whole W2 w.heap.size 75 #[int i64 dY,int i64 mO,.slice gA ng gc,.slice mA nm mc,.slice cA nc cc,.slice A n p]):=hid ((C4.out.of (hk.block _ zo (fun hx=>by rw[nJ] at hx;omega))).below oP zo)
  have M2:Hid (Whole W2 (w.heap.size+1+1) 139 #[.map (some (w.heap.size+1+1+1))]):=hid ((M4.out.of (hk.block _ zo (fun hx=>by rw[nJ] at hx;omega))).below oP zo)
  have X2:Hid (Whole W2 A0.heap.size 91 (⟨hf,hmm,wm⟩:Ht).cells):=hid ((Whole.new A0 _ _).of (hS.block _ zo))
  have HB2:Hid (Below w.heap.size w W2):=hid ((B4.out.trans (hk.below (n:=w.heap.size) (fun b hb hc=>by have:=(nJ b).1 hc;omega) zo)).trans (oP.mono zo))
  have e1:wrap64 ((pre.length:Int)+1)=(pre.length:Int)+1:=IntWalk.wrap64_in _ (by have:=iP hpre;omega)
  have c6:W2.cell? ⟨w.heap.size+1,0,none⟩=some (int i64 pre.length):=N2.out.cell 0
  have f6:=N2.out.thaw
  obtain⟨W3,hW3⟩:∃W3,W3=W2.setCell ⟨w.heap.size+1,0,none⟩ (int i64 (pre.length+1)):=zE
  have N3:Hid (Whole W3 (w.heap.size+1) 3 #[int i64 (pre.length+1)]):=hid (by rw[hW3];exact N2.out.set 0 (int i64 (pre.length+1)))
  have C3:Hid (Whole W3 w.heap.size 75 #[int i64 dY,int i64 mO,.slice gA ng gc,.slice mA nm mc,.slice cA nc cc,.slice A n p]):=hid (by rw[hW3];exact C2.out.other zF _)
  have M3:Hid (Whole W3 (w.heap.size+1+1) 139 #[.map (some (w.heap.size+1+1+1))]):=hid (by rw[hW3];exact M2.out.other zF _)
  have X3:Hid (Whole W3 A0.heap.size 91 (⟨hf,hmm,wm⟩:Ht).cells):=hid (by rw[hW3];exact X2.out.other zF _)
  have O3:Hid (Bp W3 (w.heap.size+1+1+1) (3 * pre.length) D):=hid (by rw[hW3];exact bT O2.out (Below.heap_setCell _ _ _ _ zF))
  have K3:Hid (Keeps CC W2 W3):=hid (by rw[hW3];exact Keeps.set (p:=⟨w.heap.size+1,0,none⟩) (Keeps.refl _ _) ((nJ _).2 (.inl rfl)) _)
  have HB3:Hid (Below w.heap.size w W3):=hid (by rw[hW3];exact HB2.out.setCell zs _)
  have hs3:W3.heap.size=W2.heap.size:=by rw[hW3];simp[World.setCell]
  have x0:W3.cell? ⟨A0.heap.size,0,none⟩=some (int i64 (hf 0)):=X3.out.cell 0
  have x1:W3.cell? ⟨A0.heap.size,1,none⟩=some (int i64 (hf 1)):=X3.out.cell 1
  have x2:W3.cell? ⟨A0.heap.size,2,none⟩=some (int i64 (hf 2)):=X3.out.cell 2
  have x3:W3.cell? ⟨A0.heap.size,3,none⟩=some (int i64 (hmm 0)):=X3.out.cell 3
  have x4:W3.cell? ⟨A0.heap.size,4,none⟩=some (int i64 (hmm 1)):=X3.out.cell 4
  have x5:W3.cell? ⟨A0.heap.size,5,none⟩=some (int i64 (hmm 2)):=X3.out.cell 5
  have x6:W3.cell? ⟨A0.heap.size,6,none⟩=some (int i64 (hmm 3)):=X3.out.cell 6
  have x7:W3.cell? ⟨A0.heap.size,7,none⟩=some (int i64 (hmm 4)):=X3.out.cell 7
  have x8:W3.cell? ⟨A0.heap.size,8,none⟩=some (int i64 (hmm 5)):=X3.out.cell 8
  have x9:W3.cell? ⟨A0.heap.size,9,none⟩=some (int i64 (wm)):=X3.out.cell 9
  have q0:W3.cell? ⟨w.heap.size,0,none⟩=some (int i64 dY):=C3.out.cell 0
  have q1:W3.cell? ⟨w.heap.size,1,none⟩=some (int i64 mO):=C3.out.cell 1
  have q2:W3.cell? ⟨w.heap.size,2,none⟩=some (.slice gA ng gc):=C3.out.cell 2
  have q3:W3.cell? ⟨w.heap.size,3,none⟩=some (.slice mA nm mc):=C3.out.cell 3
  have q4:W3.cell? ⟨w.heap.size,4,none⟩=some (.slice cA nc cc):=C3.out.cell 4
  rw[hW3] at q0 q1 q2 q3 q4 x0 x1 x2 x3 x4 x5 x6 x7 x8 x9
  have HW3:=hid hW3
  clear hW3 X2 O2 C2 M2 N2 oP
  have T3:=fun u v z w=>(UO u v z w).1
  have T5:=fun u v z w=>(UO u v z w).2.1
  have T6:=fun u v z w=>(UO u v z w).2.2
  gi_wp2_with (gi_at_call 47;rw[← HW3.out];refine(JH.out W3 (HA.out.up HB3.out)).mono ?_;rintro e W5 ⟨rfl,hb5⟩)
  have hlt3:=N3.out.lt
  have N5:=hid (N3.out.below hb5 N3.out.lt)
  have M5:=hid (M3.out.below hb5 M3.out.lt)
  have O5:Hid (Bp W5 (w.heap.size+1+1+1) (3 * pre.length) D):=hid (bT O3.out (hb5.block _ zo))
  have K5:=hid (K3.out.trans (Keeps.bK hb5))
  have hs5:W2.heap.size≤W5.heap.size:=by have:=hb5.size;omega
  clear N3 M3 O3 K3 C3 X3 hb5 q0 q1 q2 q3 q4 x0 x1 x2 x3 x4 x5 x6 x7 x8 x9
  refine wpIn_loop_rounds 4 ?_
  rw[roundsIn_succ]
  gi_wp2
  refine Kw _ _ _ _ _ _ _ _ OQ.out _ (M5.out.cell 0) M5.out.lt zo O5.out zU _ _ _ _ _ _ _ _ _ _ _ _ _ _ _ _ _ _ _ _ _ _ _ _ _ _ _ _ _ _ _ _ _ _ _ ?hQ ?_
  case hQ=>exact fun _ _ _ _ h=>h
  intro y25 y26 y27 y28 y29 y30 y31 y32 W6 o6 It
  have O6:=hid o6
  have N6:Hid (Whole W6 (w.heap.size+1) 3 #[int i64 (pre.length+1)]):=hid (N5.out.of (It.block _ (by have:=N5.out.lt;omega) (by show ¬ (w.heap.size+1=w.heap.size+1+1+1);omega)))
  have M6:Hid (Whole W6 (w.heap.size+1+1) 139 #[.map (some (w.heap.size+1+1+1))]):=hid (M5.out.of (It.block _ M5.out.lt (by show ¬ (w.heap.size+1+1=w.heap.size+1+1+1);omega)))
  have K6:Hid (Keeps CC W2 W6):=hid (K5.out.trans (It.more (fun x _ hx=>(nJ x).2 (.inr hx))))
  clear o6 It
  simp only[Exit.inBlock,Exit.then]
  go_at_K
  gi_wp2
  rw[roundsIn_succ]
  gi_wp2
  refine Kw _ _ _ _ _ _ _ _ LO.out _ (M6.out.cell 0) M6.out.lt zo O6.out zU _ _ _ _ _ _ _ _ _ _ _ _ _ _ _ _ _ _ _ _ _ _ _ _ _ _ _ _ _ _ _ _ _ _ _ ?hQ ?_
  case hQ=>exact fun _ _ _ _ h=>h
  intro y25 y26 y27 y28 y29 y30 y31 y32 W7 o7 Iv
  have O7:=hid o7
  have N7:Hid (Whole W7 (w.heap.size+1) 3 #[int i64 (pre.length+1)]):=hid (N6.out.of (Iv.block _ (by have:=N6.out.lt;omega) (by show ¬ (w.heap.size+1=w.heap.size+1+1+1);omega)))
  have M7:Hid (Whole W7 (w.heap.size+1+1) 139 #[.map (some (w.heap.size+1+1+1))]):=hid (M6.out.of (Iv.block _ M6.out.lt (by show ¬ (w.heap.size+1+1=w.heap.size+1+1+1);omega)))
  have K7:Hid (Keeps CC W2 W7):=hid (K6.out.trans (Iv.more (fun x _ hx=>(nJ x).2 (.inr hx))))
  clear o7 Iv
  simp only[Exit.inBlock,Exit.then]
  go_at_K
  gi_wp2
  rw[roundsIn_succ]
  gi_wp2
  refine Kw _ _ _ _ _ _ _ _ LS.out _ (M7.out.cell 0) M7.out.lt zo O7.out zU _ _ _ _ _ _ _ _ _ _ _ _ _ _ _ _ _ _ _ _ _ _ _ _ _ _ _ _ _ _ _ _ _ _ _ ?hQ ?_
  case hQ=>exact fun _ _ _ _ h=>h
  intro y25 y26 y27 y28 y29 y30 y31 y32 W8 o8 IA
  have O8:=hid o8
  have N8:Hid (Whole W8 (w.heap.size+1) 3 #[int i64 (pre.length+1)]):=hid (N7.out.of (IA.block _ (by have:=N7.out.lt;omega) (by show ¬ (w.heap.size+1=w.heap.size+1+1+1);omega)))
  have M8:Hid (Whole W8 (w.heap.size+1+1) 139 #[.map (some (w.heap.size+1+1+1))]):=hid (M7.out.of (IA.block _ M7.out.lt (by show ¬ (w.heap.size+1+1=w.heap.size+1+1+1);omega)))
  have K8:Hid (Keeps CC W2 W8):=hid (K7.out.trans (IA.more (fun x _ hx=>(nJ x).2 (.inr hx))))
  clear o8 IA
  simp only[Exit.inBlock,Exit.then]
  go_at_K
  gi_wp2
  rw[roundsIn_succ]
  gi_wp2
  exact⟨K8.out,hid ⟨by simpa using N8.out,by have:=O8.out;rwa[show 3 * pre.length+1+1+1=3 * (pre.length+1) by omega] at this⟩⟩
 case hdone=>
  intro W' hj hk hm
  have hlt1:=hj.out.1.lt
  have N5:=hid hj.out.1
  have M5:Hid (Whole W' (w.heap.size+1+1) 139 #[.map (some (w.heap.size+1+1+1))]):=hid (M4.out.of (hk.block _ zo (fun hx=>by rw[nJ] at hx;omega)))
  have O5:=hid hj.out.2
  have Gj:Hid (Below w.heap.size w W'):=hid (B4.out.trans (hk.below (n:=w.heap.size) (fun b hb hc=>by have:=(nJ b).1 hc;omega) zo))
  have hms:Marks w4.heap.size (w4.heap.size+1) [{target:=.collected w4.heap.size,args:=#[] }] W':=⟨_,rfl,zL,Nat.lt_succ_self _,hm,zT⟩
  have Xv:=hid hms
  have hm1:w4.heap.size<W'.heap.size:=(Array.getElem?_eq_some_iff.1 hm).1
  clear hj hms hk hm hlen
  simp only[Exit.inBlock,Exit.then]
  go_at_K
  gi_wp2
  refine iY 3 (fun w'=>w'.cell? ⟨w.heap.size+1,0,none⟩=some (int i64 xs.length)∧w'.cell? ⟨w.heap.size+1+1,0,none⟩=some (.map (some (w.heap.size+1+1+1)))) zk ?_
  have N6:Hid (Whole W'.drew (w.heap.size+1) 3 #[int i64 xs.length]):=hid N5.out
  have M6:Hid (Whole W'.drew (w.heap.size+1+1) 139 #[.map (some (w.heap.size+1+1+1))]):=hid M5.out
  have O6:Hid (Bp W'.drew (w.heap.size+1+1+1) (3 * xs.length) (om kl v xs)):=hid O5.out.drew
  have lK:=hid (dR Gj.out)
  have ta:Hid (Marks w4.heap.size (w4.heap.size+1) [{target:=.collected w4.heap.size,args:=#[] }] W'.drew):=hid Xv.out
  have Tl:w4.heap.size<W'.drew.heap.size:=hm1
  generalize W'.drew=W9 at N6 M6 O6 lK ta Tl⊢
  have hS:W9.cell? ⟨w.heap.size+1,0,none⟩=some (int i64 xs.length)∧W9.cell? ⟨w.heap.size+1+1,0,none⟩=some (.map (some (w.heap.size+1+1+1))):=⟨N6.out.cell 0,M6.out.cell 0⟩
  have fY:Hid (Marks (w.heap.size+4+1) (w.heap.size+4+1+1) [{target:=.collected (w.heap.size+4+1),args:=#[] }] W9):=hid (by have:=ta.out;rwa[show w4.heap.size=w.heap.size+4+1 by omega] at this)
  have c1:=hS.1
  have c2:=hS.2
  have f1:=N6.out.thaw
  have N7:=hid (N6.out.set 0 (int i64 xs.length))
  have M7:=hid (M6.out.other (p:=⟨w.heap.size+1,0,none⟩) zs (int i64 xs.length))
  have N8:=hid (N7.out.other (p:=⟨w.heap.size+1+1,0,none⟩) zs (.map (some (w.heap.size+1+1+1))))
  have M8:=hid (M7.out.set 0 (.map (some (w.heap.size+1+1+1))))
  have pL:=hid ((lK.out.setCell (p:=⟨w.heap.size+1,0,none⟩) (by show w.heap.size≤w.heap.size+1;omega) (int i64 xs.length)).setCell (p:=⟨w.heap.size+1+1,0,none⟩) (by show w.heap.size≤w.heap.size+1+1;omega) (.map (some (w.heap.size+1+1+1))))
  have O8:Hid (Bp ((W9.setCell ⟨w.heap.size+1,0,none⟩ (int i64 xs.length)).setCell ⟨w.heap.size+1+1,0,none⟩ (.map (some (w.heap.size+1+1+1)))) (w.heap.size+1+1+1) (3 * xs.length) (om kl v xs)):=hid (bT (bT O6.out (Below.heap_setCell _ _ _ _ zF)) (Below.heap_setCell _ _ _ _ zF))
  have vq:(W9.setCell ⟨w.heap.size+1,0,none⟩ (int i64 xs.length)).cell? ⟨w.heap.size+1,0,none⟩=some (int i64 xs.length)∧(W9.setCell ⟨w.heap.size+1,0,none⟩ (int i64 xs.length)).cell? ⟨w.heap.size+1+1,0,none⟩=some (.map (some (w.heap.size+1+1+1))):=⟨N7.out.cell 0,M7.out.cell 0⟩
  have d2:=vq.2
  have f2:=M7.out.thaw
  refine aU (i:=0) (i':=1) zk rfl rfl (fun K hK=>?_) (fun K hK=>?_)
  ·skip
   go_simp
   refine hK.out _ _ (fun _=>hS) ?_
   clear hK K
   refine aU (i:=1) (i':=2) zk rfl rfl (fun K hK=>?_) (fun K hK=>?_)
   ·skip
    go_simp
    refine hK.out _ _ (fun _=>hS) ?_
    clear hK K
    refine bf 2 fun K hK=>?_
    go_simp
    refine hK.out _ _ (fun _=>vq) ?_
    clear hK K
    refine bf 3 fun K hK=>?_
    go_simp
    refine hK.out _ _ (fun h=>absurd rfl h) ?_
    clear hK K
    refine aG zk ?_ _
    clear c1 c2 d2 f1 f2
    gi_wp2
    refine dG (lo:=w.heap.size+4+1) (hi:=w.heap.size+4+1+1) (fY.out.of fun r h1 h2=>((Below.heap_setCell _ ⟨w.heap.size+1+1,0,none⟩ _ _ (by show r≠w.heap.size+1+1;omega)).trans (Below.heap_setCell _ ⟨w.heap.size+1,0,none⟩ _ _ (by show r≠w.heap.size+1;omega)))) (fun B hB=>⟨.tuple #[int i64 xs.length,.map (some (w.heap.size+1+1+1))],?_,w.heap.size+1+1+1,3 * xs.length,rfl,zL,?_,zo,pL.out.trans (hB.below (n:=w.heap.size) (fun b hb hc=>zo) pL.out.size)⟩)
    ·have u1:=(hB.cell (p:=⟨w.heap.size+1,0,none⟩) N8.out.lt (fun hx=>by have h0:w.heap.size+4+1≤w.heap.size+1:=hx.1;omega)).trans (N8.out.cell 0)
     have u2:=(hB.cell (p:=⟨w.heap.size+1+1,0,none⟩) M8.out.lt (fun hx=>by have h0:w.heap.size+4+1≤w.heap.size+1+1:=hx.1;omega)).trans (M8.out.cell 0)
     simp[results,results96,go_sem,u1,u2]
    ·exact bT O8.out (hB.block _ O8.out.lt (fun hx=>by have h0:w.heap.size+4+1≤w.heap.size+1+1+1:=hx.1;omega))
   ·skip
    go_simp
    refine hK.out _ _ (fun _=>vq) ?_
    clear hK K
    refine bf 1 fun K hK=>?_
    go_simp
    refine hK.out _ _ (fun _=>vq) ?_
    clear hK K
    refine bf 3 fun K hK=>?_
    go_simp
    refine hK.out _ _ (fun h=>absurd rfl h) ?_
    clear hK K
    refine aG zk ?_ _
    clear c1 c2 d2 f1 f2
    gi_wp2
    refine dG (lo:=w.heap.size+4+1) (hi:=w.heap.size+4+1+1) (fY.out.of fun r h1 h2=>((Below.heap_setCell _ ⟨w.heap.size+1+1,0,none⟩ _ _ (by show r≠w.heap.size+1+1;omega)).trans (Below.heap_setCell _ ⟨w.heap.size+1,0,none⟩ _ _ (by show r≠w.heap.size+1;omega)))) (fun B hB=>⟨.tuple #[int i64 xs.length,.map (some (w.heap.size+1+1+1))],?_,w.heap.size+1+1+1,3 * xs.length,rfl,zL,?_,zo,pL.out.trans (hB.below (n:=w.heap.size) (fun b hb hc=>zo) pL.out.size)⟩)
    ·have u1:=(hB.cell (p:=⟨w.heap.size+1,0,none⟩) N8.out.lt (fun hx=>by have h0:w.heap.size+4+1≤w.heap.size+1:=hx.1;omega)).trans (N8.out.cell 0)
     have u2:=(hB.cell (p:=⟨w.heap.size+1+1,0,none⟩) M8.out.lt (fun hx=>by have h0:w.heap.size+4+1≤w.heap.size+1+1:=hx.1;omega)).trans (M8.out.cell 0)
     simp[results,results96,go_sem,u1,u2]
    ·exact bT O8.out (hB.block _ O8.out.lt (fun hx=>by have h0:w.heap.size+4+1≤w.heap.size+1+1+1:=hx.1;omega))
  ·skip
   go_simp
   refine hK.out _ _ (fun _=>hS) ?_
   clear hK K
   refine bf 0 fun K hK=>?_
   go_simp
   refine hK.out _ _ (fun _=>hS) ?_
   clear hK K
   refine bf 2 fun K hK=>?_
   go_simp
   refine hK.out _ _ (fun _=>vq) ?_
   clear hK K
   refine bf 3 fun K hK=>?_
   go_simp
   refine hK.out _ _ (fun h=>absurd rfl h) ?_
   clear hK K
   refine aG zk ?_ _
   clear c1 c2 d2 f1 f2
   gi_wp2
   refine dG (lo:=w.heap.size+4+1) (hi:=w.heap.size+4+1+1) (fY.out.of fun r h1 h2=>((Below.heap_setCell _ ⟨w.heap.size+1+1,0,none⟩ _ _ (by show r≠w.heap.size+1+1;omega)).trans (Below.heap_setCell _ ⟨w.heap.size+1,0,none⟩ _ _ (by show r≠w.heap.size+1;omega)))) (fun B hB=>⟨.tuple #[int i64 xs.length,.map (some (w.heap.size+1+1+1))],?_,w.heap.size+1+1+1,3 * xs.length,rfl,zL,?_,zo,pL.out.trans (hB.below (n:=w.heap.size) (fun b hb hc=>zo) pL.out.size)⟩)
   ·have u1:=(hB.cell (p:=⟨w.heap.size+1,0,none⟩) N8.out.lt (fun hx=>by have h0:w.heap.size+4+1≤w.heap.size+1:=hx.1;omega)).trans (N8.out.cell 0)
    have u2:=(hB.cell (p:=⟨w.heap.size+1+1,0,none⟩) M8.out.lt (fun hx=>by have h0:w.heap.size+4+1≤w.heap.size+1+1:=hx.1;omega)).trans (M8.out.cell 0)
    simp[results,results96,go_sem,u1,u2]
   ·exact bT O8.out (hB.block _ O8.out.lt (fun hx=>by have h0:w.heap.size+4+1≤w.heap.size+1+1+1:=hx.1;omega))
 case hstop=>
  rintro c pre W' hpre hx hk hm
  exact hx.elim
end
section
open Go.RowKit Go.Maps
noncomputable def eT(g:Nat)(m:Int):Lit:=(keyOf prog 143 (.agg #[int i64 g,int i64 m])).getD (.bool false)
abbrev xsT(G M C:Nat):List Ht:=aB (Tb 1 G M C) (ak (Tb 1 G M C))
abbrev vT(G M C:Nat):Ht→Nat→Int:=fun h=>stk (Tb 1 G M C) h (Tb 1 G M C).dY (Tb 1 G M C).nm
theorem az(G M C:Nat):((xsT G M C).all fun h=>(List.range 3).all fun g=>(keyOf prog 143 (.agg #[int i64 g,int i64 (vT G M C h g)])).isSome)=true:=zk
theorem oy(G M C:Nat):∀h∈xsT G M C,∀g:Nat,g<3→keyOf prog 143 (.agg #[int i64 g,int i64 (vT G M C h g)])=some (eT g (vT G M C h g)):=fun h hh g hg=>by
 have h1:=List.all_eq_true.1 (az G M C) h hh
 have h2:=List.all_eq_true.1 h1 g (List.mem_range.2 hg)
 unfold eT
 cases hk:keyOf prog 143 (.agg #[int i64 g,int i64 (vT G M C h g)]) with
 | none=>rw[hk] at h2;cases h2
 | some l=>rfl
theorem bh(G M C:Nat):om eT (vT G M C) (xsT G M C)=.map [(eT 0 4,.lit (.int .i64 2)),(eT 0 5,.lit (.int .i64 2)),(eT 1 5,.lit (.int .i64 4)),(eT 2 0,.lit (.int .i64 4))]:=zk
theorem AH:keyOf prog 143 (.agg #[int i64 0,int i64 4])=some (eT 0 4):=zk
theorem AI:keyOf prog 143 (.agg #[int i64 0,int i64 5])=some (eT 0 5):=zk
theorem AK:keyOf prog 143 (.agg #[int i64 1,int i64 5])=some (eT 1 5):=zk
theorem AM:keyOf prog 143 (.agg #[int i64 2,int i64 0])=some (eT 2 0):=zk
end
section
open Go.RowKit
attribute [local go_sem] Oper.semAt_some
theorem Tv(i B:Nat)(hi:i<3)(n:Int)(w:World)(hc:w.cell? ⟨B,i,none⟩=some (int i64 n)):CallsIn FF 0 prog 98 #[int i64 i,.pointer (some ⟨B,0,none⟩)] w fun e w'=>e=.returned (int i64 n)∧w=w':=by
 gi_enter func98,ntmps98
 rcases(show i=0∨i=1∨i=2 by omega) with rfl|rfl|rfl
 all_goals
  gi_wp2
  go_ret
  exact⟨rfl,rfl⟩
theorem XO(B:Nat)(w:World)(h0:w.cell? ⟨B,0,none⟩=some (int i64 2))(h1:w.cell? ⟨B,1,none⟩=some (int i64 4)):CallsIn FF 0 prog 97 #[int i64 4,int i64 2,.func (.func 98) #[] #[.pointer (some ⟨B,0,none⟩)]] w fun e w'=>e=.returned (.tuple #[int i64 0,int i64 2])∧w=w':=by
 have HA:=hid (Tv 0 B zD 2 w h0)
 have HB:=hid (Tv 1 B zD 4 w h1)
 gi_enter func97,ntmps97
 gi_wp2
 refine wpIn_loop_rounds 3 ?_
 rw[roundsIn_succ]
 gi_wp2_with (gi_at_call 98;refine HA.out.mono ?_;rintro e w3 ⟨rfl,rfl⟩)
 rw[roundsIn_succ]
 gi_wp2_with (gi_at_call 98;refine HB.out.mono ?_;rintro e w3 ⟨rfl,rfl⟩)
 rw[roundsIn_succ]
 gi_wp2
 go_ret2
 exact⟨rfl,rfl⟩
end
section
open Go.RowKit Go.Maps
open Go.Sort (grow)
attribute [local go_sem] Oper.semAt_some
noncomputable def AN:List Lit:=[eT 0 4,eT 0 5,eT 1 5,eT 2 0]
noncomputable def DT:DataW Unit:=.map [(eT 0 4,.lit (.int .i64 2)),(eT 0 5,.lit (.int .i64 2)),(eT 1 5,.lit (.int .i64 4)),(eT 2 0,.lit (.int .i64 4))]
theorem Zl:(eT 0 4).sameKey (eT 0 4)=true:=zk
theorem Zm:(eT 0 4).sameKey (eT 0 5)=false:=zk
theorem Zn:(eT 0 4).sameKey (eT 1 5)=false:=zk
theorem Zo:(eT 0 4).sameKey (eT 2 0)=false:=zk
theorem Zp:(eT 0 5).sameKey (eT 0 4)=false:=zk
theorem Zq:(eT 0 5).sameKey (eT 0 5)=true:=zk
theorem Zt:(eT 0 5).sameKey (eT 1 5)=false:=zk
theorem Zu:(eT 0 5).sameKey (eT 2 0)=false:=zk
theorem Zv:(eT 1 5).sameKey (eT 0 4)=false:=zk
theorem Zw:(eT 1 5).sameKey (eT 0 5)=false:=zk
theorem Zx:(eT 1 5).sameKey (eT 1 5)=true:=zk
theorem Zy:(eT 1 5).sameKey (eT 2 0)=false:=zk
theorem Zz:(eT 2 0).sameKey (eT 0 4)=false:=zk
theorem ZA:(eT 2 0).sameKey (eT 0 5)=false:=zk
theorem ZB:(eT 2 0).sameKey (eT 1 5)=false:=zk
theorem ZC:(eT 2 0).sameKey (eT 2 0)=true:=zk
theorem Ps:DT.atKey (eT 0 4) (.map [])=.lit (.int .i64 2):=zk
theorem Pu:DT.atKey (eT 0 5) (.map [])=.lit (.int .i64 2):=zk
theorem PC:DT.atKey (eT 1 5) (.map [])=.lit (.int .i64 4):=zk
theorem PF:DT.atKey (eT 2 0) (.map [])=.lit (.int .i64 4):=zk
theorem R0(kl:Lit)(h:Maps.has DT kl=true):kl∈AN:=by
 unfold DT Maps.has at h
 simp only[List.any_cons,List.any_nil,Bool.or_eq_true,Bool.or_false] at h
 unfold AN
 rcases h with h|h|h|h <;> (have:=WideAt.sameKey_eq h;subst this;simp)
theorem vr:Maps.has DT (eT 0 4)=true:=zk
theorem vt:Maps.has DT (eT 0 5)=true:=zk
theorem we:Maps.has DT (eT 1 5)=true:=zk
theorem wi:Maps.has DT (eT 2 0)=true:=zk
theorem bz(x c:Value)(kl:Lit)(y:DataW Unit × List MemPlace)(hkey:keyOf prog 143 x=some kl)(hl:kl∈AN)(hR:plainElem prog 3 c=some y)(hat:∀zd,DT.atKey kl zd=y.1):
 (kl=eT 0 4∧x=.agg #[int i64 0,int i64 4]∧c=int i64 2)∨(kl=eT 0 5∧x=.agg #[int i64 0,int i64 5]∧c=int i64 2)∨(kl=eT 1 5∧x=.agg #[int i64 1,int i64 5]∧c=int i64 4)∨(kl=eT 2 0∧x=.agg #[int i64 2,int i64 0]∧c=int i64 4):=by
 obtain⟨a,rfl,rfl,-⟩:=plainElem_int_inv underlying3 hR
 have h0:=hat (.map [])
 unfold AN at hl
 simp only[List.mem_cons,List.not_mem_nil,or_false] at hl
 rcases hl with hl|hl|hl|hl
 ·refine .inl ?_
  rw[hl] at h0 hkey
  rw[Ps] at h0
  injection h0 with h0
  injection h0 with _ h0
  exact⟨hl,dS.inj hkey AH,by rw[h0]⟩
 ·refine .inr (.inl ?_)
  rw[hl] at h0 hkey
  rw[Pu] at h0
  injection h0 with h0
  injection h0 with _ h0
  exact⟨hl,dS.inj hkey AI,by rw[h0]⟩
 ·refine .inr (.inr (.inl ?_))
  rw[hl] at h0 hkey
  rw[PC] at h0
  injection h0 with h0
  injection h0 with _ h0
  exact⟨hl,dS.inj hkey AK,by rw[h0]⟩
 ·refine .inr (.inr (.inr ?_))
  rw[hl] at h0 hkey
  rw[PF] at h0
  injection h0 with h0
  injection h0 with _ h0
  exact⟨hl,dS.inj hkey AM,by rw[h0]⟩
def Qn(a b:Bool):Int:=max (if a then 0 else 2) (if b then 0 else 2)
def RU(a:Bool):Int:=if a then 0 else 4
theorem tW(G M C:Nat)(A:Option Addr)(p:Nat)(w:World)(hc:pJ (Tb 1 G M C) A w):CallsIn FF 0 prog 70 #[.agg (aA (Tb 1 G M C) A (ak (Tb 1 G M C)).length p)] w fun e w'=>e=.returned (.tuple #[int i64 0,int i64 2])∧Below w.heap.size w w':=by
 have HR:Hid (∀W,Below w.heap.size w W→CallsIn FF 0 prog 96 #[.agg (aA (Tb 1 G M C) A (ak (Tb 1 G M C)).length p)] W fun e w'=>∃M n,e=.returned (.tuple #[int i64 4,.map (some M)])∧n≤12∧Bp w' M n DT∧W.heap.size≤M∧Below W.heap.size W w'):=hid fun W hW=>by
  have:=Zg (Tb 1 G M C) (kE 1 zD G M C) (fF 1 G M C) (by rw[lH];decide) (vT G M C) rfl eT (oy G M C) A p W (hc.below hW)
  rw[lH,bh] at this
  exact this
 obtain⟨n,hn⟩:∃n,n=(ak (Tb 1 G M C)).length:=zE
 rw[← hn] at HR⊢
 clear hn hc
 simp only[Tb,aA] at HR⊢
 obtain⟨w1,hw1⟩:∃w1,w1=w.alloc (.cells #[int i64 10,int i64 1,.slice (some ⟨G,0,none⟩) 2 2,.slice (some ⟨M,0,none⟩) 4 4,.slice (some ⟨C,0,none⟩) 2 2,.slice A n p] 75):=zE
 have B1:Hid (Below w.heap.size w w1):=hid (by rw[hw1];exact bw)
 have C1:Hid (Whole w1 w.heap.size 75 #[int i64 10,int i64 1,.slice (some ⟨G,0,none⟩) 2 2,.slice (some ⟨M,0,none⟩) 4 4,.slice (some ⟨C,0,none⟩) 2 2,.slice A n p]):=hid (by rw[hw1];exact Whole.new _ _ _)
 have jd:=hid hw1
 clear hw1
 gi_enter func70,ntmps70
 gi_wp2_with (first
  | (gi_at_call 96;rw[← jd.out];refine(HR.out w1 B1.out).mono ?_;rintro e w2 ⟨Mp,nn,rfl,hn2,hO2,hM2,hb2⟩;have aav:=hO2.lt;have O2:=hid (hO2.alloc (.cells #[int i64 0,int i64 0,int i64 0] 88));clear hO2)
  | (gi_at_range;refine wpListIn_range_own _ rfl _ 139 rfl 143 3 dS underlying139 _ Mp nn _ rfl O2.out ?_;intro w3 hrg3 hg3 hs3))
 go_frame
 simp only[World.size_alloc]
 have C3:Hid (Whole w3 w.heap.size 75 #[int i64 10,int i64 1,.slice (some ⟨G,0,none⟩) 2 2,.slice (some ⟨M,0,none⟩) 4 4,.slice (some ⟨C,0,none⟩) 2 2,.slice A n p]):=hid (((C1.out.below hb2 C1.out.lt).alloc _).grown hg3 zs)
 have N3:Hid (Whole w3 w2.heap.size 88 #[int i64 0,int i64 0,int i64 0]):=hid ((Whole.new w2 _ _).grown hg3 zs)
 have HB3:Hid (Below w.heap.size w w3):=hid ((Below.al (Below.next B1.out hb2) _).trans (below_grown hg3 (by have:=(Below.next B1.out hb2).size;simp;omega) (fun g hg=>by cases hg)))
 have hM0:=hM2
 have hMl:=O2.out.lt
 have P7:=hb2.size
 have EO:=C1.out.lt
 simp only[World.size_alloc] at hs3 hMl hrg3
 have aau:Mp<w2.heap.size+1:=hMl
 have HRG:=hid hrg3
 clear hrg3 hg3 O2 HR C1 B1 hb2 jd
 gi_loopw [] (fun wr=>∃ (left:Lit→Bool) (cnt:Nat),wr.ranges prog 143 (plainElem prog 3) Mp (w2.heap.size+1) nn DT left cnt∧(∀kl,left kl=true→kl∈AN)∧Hid (Whole wr w2.heap.size 88 #[int i64 (Qn (left (eT 0 4)) (left (eT 0 5))),int i64 (RU (left (eT 1 5))),int i64 (RU (left (eT 2 0)))]∧Whole wr w.heap.size 75 #[int i64 10,int i64 1,.slice (some ⟨G,0,none⟩) 2 2,.slice (some ⟨M,0,none⟩) 4 4,.slice (some ⟨C,0,none⟩) 2 2,.slice A n p]∧Below w.heap.size w wr))
  (fun wr=>wr.rangeLeft Mp (w2.heap.size+1))
 case atStart=>
  refine⟨Maps.has DT,Maps.size DT,HRG.out,R0,hid ⟨?_,C3.out,HB3.out⟩⟩
  rw[vr,vt,we,wi]
  exact N3.out
 case round=>
  obtain⟨left,cnt,hrg,hks,hW⟩:=hrel
  gi_wp2_with (gi_at_next;refine wpListIn_next_ranges _ rfl _ rfl 143 dS (plainElem prog 3) id id (fun key _ _=>⟨key,rfl⟩) (fun v _ _=>⟨v,rfl⟩) Mp (w2.heap.size+1) nn _ _ _ rfl hrg ?_ ?_)
  ·intro hc0 hl0
   have N9:Whole wr w2.heap.size 88 #[int i64 2,int i64 4,int i64 4]:=by
    have:=hW.out.1
    rw[hl0,hl0,hl0,hl0] at this
    exact this
   have sL:=hid (XO w2.heap.size wr (N9.cell 0) (N9.cell 1))
   have d0:wr.cell? ⟨w.heap.size,0,none⟩=some (int i64 10):=hW.out.2.1.cell 0
   have d1:wr.cell? ⟨w.heap.size,1,none⟩=some (int i64 1):=hW.out.2.1.cell 1
   have d2:wr.cell? ⟨w.heap.size,2,none⟩=some (.slice (some ⟨G,0,none⟩) 2 2):=hW.out.2.1.cell 2
   have d3:wr.cell? ⟨w.heap.size,3,none⟩=some (.slice (some ⟨M,0,none⟩) 4 4):=hW.out.2.1.cell 3
   have d4:wr.cell? ⟨w.heap.size,4,none⟩=some (.slice (some ⟨C,0,none⟩) 2 2):=hW.out.2.1.cell 4
   have d5:wr.cell? ⟨w.heap.size,5,none⟩=some (.slice A n p):=hW.out.2.1.cell 5
   have uX:=hW.out.2.2
   clear N9 hl0 hrg hks
   gi_wp2_with (gi_at_call 97;refine sL.out.mono ?_;rintro e w5 ⟨rfl,rfl⟩)
   go_ret2
   exact⟨rfl,uX⟩
  ·intro x c kl yd yp w4 G8 hkey hlk hv hat wB Yw hg4 hs4 hen
   have hcase:=bz x c kl (yd,yp) hkey (hks kl hlk) hv hat
   have N4:=hid (hW.out.1.grown hg4 zs)
   have C4:=hid (hW.out.2.1.grown hg4 zm)
   have Eh:Hid (Below w.heap.size w w4):=hid (hW.out.2.2.trans (below_grown hg4 (by have:=hW.out.2.1.lt;omega) (fun g hg=>by cases hg;omega)))
   have hn4:=N4.out.lt
   obtain⟨b0,hb0⟩:∃b,b=left (eT 0 4):=zE
   obtain⟨b1,hb1⟩:∃b,b=left (eT 0 5):=zE
   obtain⟨b2,hb2⟩:∃b,b=left (eT 1 5):=zE
   obtain⟨b3,hb3⟩:∃b,b=left (eT 2 0):=zE
   rw[← hb0,← hb1,← hb2,← hb3] at N4
   obtain⟨m0,hm0⟩:∃m,m=Qn b0 b1:=zE
   obtain⟨m1,hm1⟩:∃m,m=RU b2:=zE
   obtain⟨m2,hm2⟩:∃m,m=RU b3:=zE
   rw[← hm0,← hm1,← hm2] at N4
   have Fl:Hid (wr.rangeLeft Mp (w2.heap.size+1)=cnt):=hid hrg.left_eq
   have fW:=hid hks
   have HB:=hid (And.intro hb0 (And.intro hb1 (And.intro hb2 (And.intro hb3 (And.intro hm0 (And.intro hm1 hm2))))))
   clear hks hrg hkey hv hat hg4 hW hb0 hb1 hb2 hb3 hm0 hm1 hm2
   rcases hcase with⟨hkl,rfl,rfl⟩|⟨hkl,rfl,rfl⟩|⟨hkl,rfl,rfl⟩|⟨hkl,rfl,rfl⟩
   ·rw[hkl] at wB hlk
    have JY:=hid wB
    have fX:=hid hlk
    clear wB hlk hkl
    obtain⟨W5,nK⟩:∃W5,W5=w4.alloc (.cells #[int i64 0,int i64 4] 143):=zE
    have X5:Whole W5 wr.heap.size 143 #[int i64 0,int i64 4]:=by rw[nK,← hs4];exact Whole.new _ _ _
    have N5:=hid (by rw[nK];exact N4.out.alloc _:Whole W5 w2.heap.size 88 #[int i64 m0,int i64 m1,int i64 m2])
    have C5:=hid (by rw[nK];exact C4.out.alloc _:Whole W5 w.heap.size 75 #[int i64 10,int i64 1,.slice (some ⟨G,0,none⟩) 2 2,.slice (some ⟨M,0,none⟩) 4 4,.slice (some ⟨C,0,none⟩) 2 2,.slice A n p])
    have Gj:Hid (Below w.heap.size w W5):=hid (by rw[nK];exact Below.al Eh.out _)
    have R5:=hid (by rw[nK];exact JY.out.alloc _:W5.ranges prog 143 (plainElem prog 3) Mp (w2.heap.size+1) nn DT (fun z=>left z && !z.sameKey (eT 0 4)) G8)
    have x0:=cell_regrown (X5.cell 0)
    have q0:=cell_regrown (N5.out.cell 0)
    have Xh:=hid nK
    clear nK X5
    gi_wp2
    rw[← Xh.out]
    refine aJ 8 rfl zk zk ?_
    repeat (quiet_step_in (fail))
    refine wpQuietIn_nil ?_
    rintro w' ⟨⟨dq,osq⟩,rfl⟩
    have bn:=below_regrown W5 dq osq
    clear x0 q0
    have N9:=N5.out.below bn N5.out.lt
    have C9:=hid (C5.out.below bn C5.out.lt)
    have uX:=hid (Below.next Gj.out bn)
    have R9:=hid (R5.out.kept (w':=grow (redrawn W5 dq) osq) (row:=none) ⟨bn.os,bn.tape,bn.output,bn.size,fun i hi _=>bn.block i hi⟩ zs zs)
    simp only at N9 C9 uX R9⊢
    generalize grow (redrawn W5 dq) osq=w9 at N9 C9 uX R9⊢
    clear bn
    have n0:w9.cell? ⟨w2.heap.size,0,none⟩=some (int i64 m0):=N9.cell 0
    have nf:=N9.thaw
    have gS:=hid N9
    clear N9
    gi_wp2
    go_roundw
    case rel=>
     obtain⟨hb0,hb1,hb2,hb3,hm0,hm1,hm2⟩:=HB.out
     have hlq:=fX.out
     rw[← hb0] at hlq
     refine⟨fun z=>left z && !z.sameKey (eT 0 4),G8,?_,fun kl h=>fW.out kl (by simp only[Bool.and_eq_true] at h;exact h.1),hid ⟨?_,C9.out.other zn _,uX.out.setCell zn _⟩⟩
     ·exact R9.out.kept (row:=some w2.heap.size) ⟨rfl,rfl,rfl,by simp[World.setCell],fun i hi hne=>Below.heap_setCell _ _ _ _ (fun e=>hne (by rw[e]))⟩ zm zs
     ·dsimp only
      rw[Zl,Zp,Zv,Zz,← hb0,← hb1,← hb2,← hb3]
      have F:=gS.out.set 0 (int i64 (max m0 2))
      have e0:Qn (b0 && !true) (b1 && !false)=max m0 2:=by rw[hm0];cases b0 <;> cases b1 <;> first|decide|(cases hlq)
      have e1:RU (b2 && !false)=m1:=by rw[hm1];cases b2 <;> first|decide|(cases hlq)
      have e2:RU (b3 && !false)=m2:=by rw[hm2];cases b3 <;> first|decide|(cases hlq)
      rw[e0,e1,e2]
      exact F
    case measure=>
     have h1:=Fl.out
     rw[h1]
     have h2:=(R9.out.kept (w':=w9.setCell ⟨w2.heap.size,0,none⟩ (int i64 (max m0 2))) (row:=some w2.heap.size) ⟨rfl,rfl,rfl,by simp[World.setCell],fun i hi hne=>Below.heap_setCell _ _ _ _ (fun e=>hne (by rw[e]))⟩ zm zs).left_eq
     rw[h2]
     exact Yw
   ·rw[hkl] at wB hlk
    have JY:=hid wB
    have fX:=hid hlk
    clear wB hlk hkl
    obtain⟨W5,nK⟩:∃W5,W5=w4.alloc (.cells #[int i64 0,int i64 5] 143):=zE
    have X5:Whole W5 wr.heap.size 143 #[int i64 0,int i64 5]:=by rw[nK,← hs4];exact Whole.new _ _ _
    have N5:=hid (by rw[nK];exact N4.out.alloc _:Whole W5 w2.heap.size 88 #[int i64 m0,int i64 m1,int i64 m2])
    have C5:=hid (by rw[nK];exact C4.out.alloc _:Whole W5 w.heap.size 75 #[int i64 10,int i64 1,.slice (some ⟨G,0,none⟩) 2 2,.slice (some ⟨M,0,none⟩) 4 4,.slice (some ⟨C,0,none⟩) 2 2,.slice A n p])
    have Gj:Hid (Below w.heap.size w W5):=hid (by rw[nK];exact Below.al Eh.out _)
    have R5:=hid (by rw[nK];exact JY.out.alloc _:W5.ranges prog 143 (plainElem prog 3) Mp (w2.heap.size+1) nn DT (fun z=>left z && !z.sameKey (eT 0 5)) G8)
    have x0:=cell_regrown (X5.cell 0)
    have q0:=cell_regrown (N5.out.cell 0)
    have Xh:=hid nK
    clear nK X5
    gi_wp2
    rw[← Xh.out]
    refine aJ 8 rfl zk zk ?_
    repeat (quiet_step_in (fail))
    refine wpQuietIn_nil ?_
    rintro w' ⟨⟨dq,osq⟩,rfl⟩
    have bn:=below_regrown W5 dq osq
    clear x0 q0
    have N9:=N5.out.below bn N5.out.lt
    have C9:=hid (C5.out.below bn C5.out.lt)
    have uX:=hid (Below.next Gj.out bn)
    have R9:=hid (R5.out.kept (w':=grow (redrawn W5 dq) osq) (row:=none) ⟨bn.os,bn.tape,bn.output,bn.size,fun i hi _=>bn.block i hi⟩ zs zs)
    simp only at N9 C9 uX R9⊢
    generalize grow (redrawn W5 dq) osq=w9 at N9 C9 uX R9⊢
    clear bn
    have n0:w9.cell? ⟨w2.heap.size,0,none⟩=some (int i64 m0):=N9.cell 0
    have nf:=N9.thaw
    have gS:=hid N9
    clear N9
    gi_wp2
    go_roundw
    case rel=>
     obtain⟨hb0,hb1,hb2,hb3,hm0,hm1,hm2⟩:=HB.out
     have hlq:=fX.out
     rw[← hb1] at hlq
     refine⟨fun z=>left z && !z.sameKey (eT 0 5),G8,?_,fun kl h=>fW.out kl (by simp only[Bool.and_eq_true] at h;exact h.1),hid ⟨?_,C9.out.other zn _,uX.out.setCell zn _⟩⟩
     ·exact R9.out.kept (row:=some w2.heap.size) ⟨rfl,rfl,rfl,by simp[World.setCell],fun i hi hne=>Below.heap_setCell _ _ _ _ (fun e=>hne (by rw[e]))⟩ zm zs
     ·dsimp only
      rw[Zm,Zq,Zw,ZA,← hb0,← hb1,← hb2,← hb3]
      have F:=gS.out.set 0 (int i64 (max m0 2))
      have e0:Qn (b0 && !false) (b1 && !true)=max m0 2:=by rw[hm0];cases b0 <;> cases b1 <;> first|decide|(cases hlq)
      have e1:RU (b2 && !false)=m1:=by rw[hm1];cases b2 <;> first|decide|(cases hlq)
      have e2:RU (b3 && !false)=m2:=by rw[hm2];cases b3 <;> first|decide|(cases hlq)
      rw[e0,e1,e2]
      exact F
    case measure=>
     have h1:=Fl.out
     rw[h1]
     have h2:=(R9.out.kept (w':=w9.setCell ⟨w2.heap.size,0,none⟩ (int i64 (max m0 2))) (row:=some w2.heap.size) ⟨rfl,rfl,rfl,by simp[World.setCell],fun i hi hne=>Below.heap_setCell _ _ _ _ (fun e=>hne (by rw[e]))⟩ zm zs).left_eq
     rw[h2]
     exact Yw
   ·rw[hkl] at wB hlk
    have JY:=hid wB
    have fX:=hid hlk
    clear wB hlk hkl
    obtain⟨W5,nK⟩:∃W5,W5=w4.alloc (.cells #[int i64 1,int i64 5] 143):=zE
    have X5:Whole W5 wr.heap.size 143 #[int i64 1,int i64 5]:=by rw[nK,← hs4];exact Whole.new _ _ _
    have N5:=hid (by rw[nK];exact N4.out.alloc _:Whole W5 w2.heap.size 88 #[int i64 m0,int i64 m1,int i64 m2])
    have C5:=hid (by rw[nK];exact C4.out.alloc _:Whole W5 w.heap.size 75 #[int i64 10,int i64 1,.slice (some ⟨G,0,none⟩) 2 2,.slice (some ⟨M,0,none⟩) 4 4,.slice (some ⟨C,0,none⟩) 2 2,.slice A n p])
    have Gj:Hid (Below w.heap.size w W5):=hid (by rw[nK];exact Below.al Eh.out _)
    have R5:=hid (by rw[nK];exact JY.out.alloc _:W5.ranges prog 143 (plainElem prog 3) Mp (w2.heap.size+1) nn DT (fun z=>left z && !z.sameKey (eT 1 5)) G8)
    have x0:=cell_regrown (X5.cell 0)
    have q0:=cell_regrown (N5.out.cell 1)
    have Xh:=hid nK
    clear nK X5
    gi_wp2
    rw[← Xh.out]
    refine aJ 8 rfl zk zk ?_
    repeat (quiet_step_in (fail))
    refine wpQuietIn_nil ?_
    rintro w' ⟨⟨dq,osq⟩,rfl⟩
    have bn:=below_regrown W5 dq osq
    clear x0 q0
    have N9:=N5.out.below bn N5.out.lt
    have C9:=hid (C5.out.below bn C5.out.lt)
    have uX:=hid (Below.next Gj.out bn)
    have R9:=hid (R5.out.kept (w':=grow (redrawn W5 dq) osq) (row:=none) ⟨bn.os,bn.tape,bn.output,bn.size,fun i hi _=>bn.block i hi⟩ zs zs)
    simp only at N9 C9 uX R9⊢
    generalize grow (redrawn W5 dq) osq=w9 at N9 C9 uX R9⊢
    clear bn
    have n0:w9.cell? ⟨w2.heap.size,1,none⟩=some (int i64 m1):=N9.cell 1
    have nf:=N9.thaw
    have gS:=hid N9
    clear N9
    gi_wp2
    go_roundw
    case rel=>
     obtain⟨hb0,hb1,hb2,hb3,hm0,hm1,hm2⟩:=HB.out
     have hlq:=fX.out
     rw[← hb2] at hlq
     refine⟨fun z=>left z && !z.sameKey (eT 1 5),G8,?_,fun kl h=>fW.out kl (by simp only[Bool.and_eq_true] at h;exact h.1),hid ⟨?_,C9.out.other zn _,uX.out.setCell zn _⟩⟩
     ·exact R9.out.kept (row:=some w2.heap.size) ⟨rfl,rfl,rfl,by simp[World.setCell],fun i hi hne=>Below.heap_setCell _ _ _ _ (fun e=>hne (by rw[e]))⟩ zm zs
     ·dsimp only
      rw[Zn,Zt,Zx,ZB,← hb0,← hb1,← hb2,← hb3]
      have F:=gS.out.set 1 (int i64 (max m1 4))
      have e0:Qn (b0 && !false) (b1 && !false)=m0:=by rw[hm0];cases b0 <;> cases b1 <;> first|decide|(cases hlq)
      have e1:RU (b2 && !true)=max m1 4:=by rw[hm1];cases b2 <;> first|decide|(cases hlq)
      have e2:RU (b3 && !false)=m2:=by rw[hm2];cases b3 <;> first|decide|(cases hlq)
      rw[e0,e1,e2]
      exact F
    case measure=>
     have h1:=Fl.out
     rw[h1]
     have h2:=(R9.out.kept (w':=w9.setCell ⟨w2.heap.size,1,none⟩ (int i64 (max m1 4))) (row:=some w2.heap.size) ⟨rfl,rfl,rfl,by simp[World.setCell],fun i hi hne=>Below.heap_setCell _ _ _ _ (fun e=>hne (by rw[e]))⟩ zm zs).left_eq
     rw[h2]
     exact Yw
   ·rw[hkl] at wB hlk
    have JY:=hid wB
    have fX:=hid hlk
    clear wB hlk hkl
    obtain⟨W5,nK⟩:∃W5,W5=w4.alloc (.cells #[int i64 2,int i64 0] 143):=zE
    have X5:Whole W5 wr.heap.size 143 #[int i64 2,int i64 0]:=by rw[nK,← hs4];exact Whole.new _ _ _
    have N5:=hid (by rw[nK];exact N4.out.alloc _:Whole W5 w2.heap.size 88 #[int i64 m0,int i64 m1,int i64 m2])
    have C5:=hid (by rw[nK];exact C4.out.alloc _:Whole W5 w.heap.size 75 #[int i64 10,int i64 1,.slice (some ⟨G,0,none⟩) 2 2,.slice (some ⟨M,0,none⟩) 4 4,.slice (some ⟨C,0,none⟩) 2 2,.slice A n p])
    have Gj:Hid (Below w.heap.size w W5):=hid (by rw[nK];exact Below.al Eh.out _)
    have R5:=hid (by rw[nK];exact JY.out.alloc _:W5.ranges prog 143 (plainElem prog 3) Mp (w2.heap.size+1) nn DT (fun z=>left z && !z.sameKey (eT 2 0)) G8)
    have x0:=cell_regrown (X5.cell 0)
    have q0:=cell_regrown (N5.out.cell 2)
    have Xh:=hid nK
    clear nK X5
    gi_wp2
    rw[← Xh.out]
    refine aJ 8 rfl zk zk ?_
    repeat (quiet_step_in (fail))
    refine wpQuietIn_nil ?_
    rintro w' ⟨⟨dq,osq⟩,rfl⟩
    have bn:=below_regrown W5 dq osq
    clear x0 q0
    have N9:=N5.out.below bn N5.out.lt
    have C9:=hid (C5.out.below bn C5.out.lt)
    have uX:=hid (Below.next Gj.out bn)
    have R9:=hid (R5.out.kept (w':=grow (redrawn W5 dq) osq) (row:=none) ⟨bn.os,bn.tape,bn.output,bn.size,fun i hi _=>bn.block i hi⟩ zs zs)
    simp only at N9 C9 uX R9⊢
    generalize grow (redrawn W5 dq) osq=w9 at N9 C9 uX R9⊢
    clear bn
    have n0:w9.cell? ⟨w2.heap.size,2,none⟩=some (int i64 m2):=N9.cell 2
    have nf:=N9.thaw
    have gS:=hid N9
    clear N9
    gi_wp2
    go_roundw
    case rel=>
     obtain⟨hb0,hb1,hb2,hb3,hm0,hm1,hm2⟩:=HB.out
     have hlq:=fX.out
     rw[← hb3] at hlq
     refine⟨fun z=>left z && !z.sameKey (eT 2 0),G8,?_,fun kl h=>fW.out kl (by simp only[Bool.and_eq_true] at h;exact h.1),hid ⟨?_,C9.out.other zn _,uX.out.setCell zn _⟩⟩
     ·exact R9.out.kept (row:=some w2.heap.size) ⟨rfl,rfl,rfl,by simp[World.setCell],fun i hi hne=>Below.heap_setCell _ _ _ _ (fun e=>hne (by rw[e]))⟩ zm zs
     ·dsimp only
      rw[Zo,Zu,Zy,ZC,← hb0,← hb1,← hb2,← hb3]
      have F:=gS.out.set 2 (int i64 (max m2 4))
      have e0:Qn (b0 && !false) (b1 && !false)=m0:=by rw[hm0];cases b0 <;> cases b1 <;> first|decide|(cases hlq)
      have e1:RU (b2 && !false)=m1:=by rw[hm1];cases b2 <;> first|decide|(cases hlq)
      have e2:RU (b3 && !true)=max m2 4:=by rw[hm2];cases b3 <;> first|decide|(cases hlq)
      rw[e0,e1,e2]
      exact F
    case measure=>
     have h1:=Fl.out
     rw[h1]
     have h2:=(R9.out.kept (w':=w9.setCell ⟨w2.heap.size,2,none⟩ (int i64 (max m2 4))) (row:=some w2.heap.size) ⟨rfl,rfl,rfl,by simp[World.setCell],fun i hi hne=>Below.heap_setCell _ _ _ _ (fun e=>hne (by rw[e]))⟩ zm zs).left_eq
     rw[h2]
     exact Yw
end
section
open Go.RowKit Go.Maps
attribute [local go_sem] Oper.semAt_some
theorem QU(G M C:Nat)(w:World)(h:(Tb 1 G M C).At w w.heap.size):CallsIn FF 0 prog 27 #[(Tb 1 G M C).val] w fun e w'=>e=.returned (.tuple #[int i64 0,int i64 2,int i64 0])∧Below w.heap.size w w':=by
 have HO:=hid fun w h=>mW (Tb 1 G M C) w h (kE 1 zD G M C) (Nat.le_refl 2)
 have HB:=hid fun A p w hc=>tW G M C A p w hc
 have HA:=hid h
 obtain⟨n,hn⟩:∃n,n=(ak (Tb 1 G M C)).length:=zE
 rw[← hn] at HO HB
 clear hn h
 have fR:Hid (∀A w,pJ (Tb 1 G M C) A w→∀w',Below w.heap.size w w'→pJ (Tb 1 G M C) A w'):=hid fun A w h w' hb=>h.below hb
 simp only[Tb,Bk.val,Bk.cells,aA] at HO HB⊢
 gi_enter func27,ntmps27
 gi_wp2_with (first
  | (gi_at_call 37;refine(HO.out _ (HA.out.up (bw))).mono ?_;rintro e w2 ⟨A,p,rfl,hc2,hb2,-⟩)
  | (gi_at_call 70;refine(HB.out A p _ (fR.out A _ hc2 _ (bw))).mono ?_;rintro e w4 ⟨rfl,hb4⟩))
 go_ret3
 have Lb:=Below.al (Below.next (show Below w.heap.size w (w.alloc (.cells #[int i64 10,int i64 1,.slice (some ⟨G,0,none⟩) 2 2,.slice (some ⟨M,0,none⟩) 4 4,.slice (some ⟨C,0,none⟩) 2 2] 26)) from bw) hb2) (.cells #[int i64 10,int i64 1,.slice (some ⟨G,0,none⟩) 2 2,.slice (some ⟨M,0,none⟩) 4 4,.slice (some ⟨C,0,none⟩) 2 2,.slice A n p] 75)
 exact⟨rfl,Below.next Lb hb4⟩
end
section
open Go.RowKit
theorem sV(p:Nat→Bool)(k:Nat):(((List.range k).filter p).map fun(n:Nat)=>(n:Int)).Pairwise (· < ·):=by
 rw[List.pairwise_map]
 exact(List.pairwise_lt_range.filter _).imp fun h=>by exact_mod_cast h
theorem Vj(b:Bk)(k:Nat):(dZ b k).Pairwise (· < ·):=sV _ _
theorem Qv{b:Bk}{k:Nat}{i:Nat}(hi:i<k)(hz:(b.m i).kind=0):(i:Int)∈dZ b k:=by
 unfold dZ
 exact List.mem_map.2 ⟨i,List.mem_filter.2 ⟨List.mem_range.2 hi,by simp[hz]⟩,rfl⟩
theorem YA{l:List Int}{x:Int}(h:x∈l):l.getD (l.idxOf x) 0=x:=by
 have:=List.idxOf_lt_length_iff.2 h
 simp[this]
theorem lO{l:List Int}{x y:Int}(hl:l.Pairwise (· < ·))(hx:x∈l)(hy:y∈l)(h:x<y):l.idxOf x<l.idxOf y:=by
 have h1:=List.idxOf_lt_length_iff.2 hx
 have h2:=List.idxOf_lt_length_iff.2 hy
 have e1:l[l.idxOf x]=x:=zs
 have e2:l[l.idxOf y]=y:=zs
 rcases Nat.lt_trichotomy (l.idxOf x) (l.idxOf y) with h3|h3|h3
 ·exact h3
 ·exfalso;have:x=y:=by rw[← e1,← e2];simp[h3]
  omega
 ·exfalso;have:=List.pairwise_iff_getElem.1 hl _ _ h2 h1 h3
  rw[e1,e2] at this;omega
theorem lP{l:List Int}{x:Int}(hl:l.Pairwise (· < ·))(hx:x∈l):∀i,i<l.idxOf x→l.getD i 0≠l.getD (l.idxOf x) 0:=fun i hi=>by
 have h1:=List.idxOf_lt_length_iff.2 hx
 have:=List.pairwise_iff_getElem.1 hl i _ zo h1 hi
 rw[show l.getD i 0=l[i] by simp[show i<l.length by omega],show l.getD (l.idxOf x) 0=l[l.idxOf x] by simp[h1]]
 omega
def gB(nt l3:List Int)(k:Nat):List Int:=(l3.take k).map fun x=>((nt.idxOf x:Nat):Int)
theorem BJ(nt l3:List Int){k:Nat}(hk:k<l3.length):gB nt l3 (k+1)=gB nt l3 k ++ [((nt.idxOf (l3.getD k 0):Nat):Int)]:=by
 unfold gB
 rw[List.take_add_one,List.map_append]
 simp[hk]
theorem sW(nt l3:List Int){k:Nat}(hk:k≤l3.length):(gB nt l3 k).length=k:=by
 unfold gB;simp;omega
theorem uM:∀ (a b:List Nat),a.Nodup→a ⊆ b→a.length≤b.length
 | [],_,_,_=>Nat.zero_le _
 | x :: a,b,h,hs=>by
   have h1:=(List.nodup_cons.1 h)
   have hx:x∈b:=hs (List.mem_cons_self)
   have:=uM a (b.erase x) h1.2 (fun y hy=>(List.mem_erase_of_ne (by rintro rfl;exact h1.1 hy)).2 (hs (List.mem_cons_of_mem _ hy)))
   rw[List.length_erase_of_mem hx] at this
   have hp:0<b.length:=List.length_pos_of_mem hx
   simp only[List.length_cons]
   omega
theorem GU(b:Bk)(l1 l2 l3:List Int)(w:World)(h:b.At w w.heap.size)(ok:b.Ok)(hp:wY b l1 l2 l3)(A1 A2 A3:Option Addr)(p1 p2 p3:Nat)
 (i1:Ints w w.heap.size A1 l1.length (fun i=>l1.getD i 0))(i2:Ints w w.heap.size A2 l2.length (fun i=>l2.getD i 0))(i3:Ints w w.heap.size A3 l3.length (fun i=>l3.getD i 0)):
 CallsIn FF 0 prog 86 #[b.val,.slice A1 l1.length p1,.slice A2 l2.length p2,.slice A3 l3.length p3] w fun e w'=>e=.returned (int i64 0)∧Below w.heap.size w w':=by
 obtain⟨dY,mO,gA,ng,gc,g,mA,nm,mc,m,cA,nc,cc,c⟩:=b
 have hN:∀w,(⟨dY,mO,gA,ng,gc,g,mA,nm,mc,m,cA,nc,cc,c⟩:Bk).At w w.heap.size→CallsIn FF 0 prog 113 #[.agg #[int i64 dY,int i64 mO,.slice gA ng gc,.slice mA nm mc,.slice cA nc cc]] w fun e w'=>∃v,e=.returned v∧w'.ownsRow w.heap.size 3 1 v (dZ (⟨dY,mO,gA,ng,gc,g,mA,nm,mc,m,cA,nc,cc,c⟩:Bk) nm).length ((dZ (⟨dY,mO,gA,ng,gc,g,mA,nm,mc,m,cA,nc,cc,c⟩:Bk) nm).map (int i64))∧Below w.heap.size w w':=fun w h=>YU ⟨dY,mO,gA,ng,gc,g,mA,nm,mc,m,cA,nc,cc,c⟩ w h ok.moves.1
 obtain⟨nt,hnt⟩:∃nt,nt=dZ (⟨dY,mO,gA,ng,gc,g,mA,nm,mc,m,cA,nc,cc,c⟩:Bk) nm:=zE
 rw[← hnt] at hN
 have hup:Hid (nt.Pairwise (· < ·)):=hid (by rw[hnt];exact Vj _ _)
 have hin:Hid (∀x∈l3,x∈nt):=hid (fun x hx=>by
  obtain⟨i,rfl,h1,h2⟩:=hp.came x hx
  rw[hnt];exact Qv h1 h2)
 have hnl:nt.length≤6:=by rw[hnt];exact Nat.le_trans (vJ _ _) ok.moves.1
 have hl3:l3.length≤6:=by
  have h6:(l3.map Int.toNat).Nodup:=by
   rw[List.nodup_iff_pairwise_ne,List.pairwise_map]
   refine hp.up.imp_of_mem ?_
   intro x y hx hy hxy e
   obtain⟨i,rfl,_,_⟩:=hp.came x hx
   obtain⟨j,rfl,_,_⟩:=hp.came y hy
   simp at e
   omega
  have h7:(l3.map Int.toNat) ⊆ List.range nm:=fun x hx=>by
   obtain⟨y,hy,rfl⟩:=List.mem_map.1 hx
   obtain⟨i,rfl,h8,_⟩:=hp.came y hy
   simpa using h8
  have h9:(l3.map Int.toNat).length≤(List.range nm).length:=uM _ _ h6 h7
  have:=ok.moves.1
  simp at h9 this
  omega
 have e1:=hp.n1
 have e2:=hp.n2
 simp only at e1 e2
 have wu:ng≤3:=ok.bE.1.2
 have hnm:nm≤6:=ok.moves.1
 rw[e1] at i1⊢
 rw[e2] at i2⊢
 have b1:∀i,i<ng→0≤l1.getD i 0∧l1.getD i 0≤99:=fun i hi=>hp.b1 _ (by rw[show l1.getD i 0=l1[i]'zo by simp[show i<l1.length by omega]];exact List.getElem_mem _)
 have b2:∀i,i<nm→0≤l2.getD i 0∧l2.getD i 0≤99:=fun i hi=>hp.b2 _ (by rw[show l2.getD i 0=l2[i]'zo by simp[show i<l2.length by omega]];exact List.getElem_mem _)
 have B1:=hid b1
 have B2:=hid b2
 have HU:=hid hp.up
 have Hh:=hid h
 have I1:=hid i1
 have I2:=hid i2
 have I3:=hid i3
 clear h ok hp i1 i2 i3 hnt b1 b2 e1 e2
 simp only[Bk.val,Bk.cells]
 obtain⟨i0,hi,hz0,hz1,hz2⟩:=info_parts info3
 have hi0:=hid hi
 clear hi
 gi_enter func86,ntmps86
 gi_wp2_with (gi_at_call 113;refine(hN _ (Hh.out.below (bw) |>.more zm)).mono ?_;rintro e w4 ⟨v4,rfl,Ux,hb4⟩;obtain⟨A4,c4,rfl⟩:=fV Ux;have Eh:=hid hb4;have Mn:=hid Ux;clear hb4 Ux)
 have hW4:Hid (Below w.heap.size w w4):=hid ((bw:Below w.heap.size w _).trans (Eh.out.mono zm))
 have hs4:w.heap.size+3≤w4.heap.size:=by have:=Eh.out.size;simp at this;omega
 have kA:Whole (((w.alloc (.cells #[int i64 dY,int i64 mO,.slice gA ng gc,.slice mA nm mc,.slice cA nc cc] 73)).alloc (.cells #[.slice A1 ng p1] 51)).alloc (.cells #[.slice A2 nm p2] 51)) w.heap.size 73 #[int i64 dY,int i64 mO,.slice gA ng gc,.slice mA nm mc,.slice cA nc cc]:=((Whole.new w 73 _).alloc _).alloc _
 have kB:Whole (((w.alloc (.cells #[int i64 dY,int i64 mO,.slice gA ng gc,.slice mA nm mc,.slice cA nc cc] 73)).alloc (.cells #[.slice A1 ng p1] 51)).alloc (.cells #[.slice A2 nm p2] 51)) (w.heap.size+1) 51 #[.slice A1 ng p1]:=by
  have:=(Whole.new (w.alloc (.cells #[int i64 dY,int i64 mO,.slice gA ng gc,.slice mA nm mc,.slice cA nc cc] 73)) 51 #[.slice A1 ng p1]).alloc (.cells #[.slice A2 nm p2] 51)
  rwa[World.size_alloc] at this
 have kC:Whole (((w.alloc (.cells #[int i64 dY,int i64 mO,.slice gA ng gc,.slice mA nm mc,.slice cA nc cc] 73)).alloc (.cells #[.slice A1 ng p1] 51)).alloc (.cells #[.slice A2 nm p2] 51)) (w.heap.size+1+1) 51 #[.slice A2 nm p2]:=by
  have:=Whole.new ((w.alloc (.cells #[int i64 dY,int i64 mO,.slice gA ng gc,.slice mA nm mc,.slice cA nc cc] 73)).alloc (.cells #[.slice A1 ng p1] 51)) 51 #[.slice A2 nm p2]
  rwa[World.size_alloc,World.size_alloc] at this
 have jA:=hid (kA.below Eh.out kA.lt)
 have jB:=hid (kB.below Eh.out kB.lt)
 have jC:=hid (kC.below Eh.out kC.lt)
 clear kA kB kC
 obtain⟨w5,Gc⟩:∃w5,w5=(w4.alloc (.cells #[.slice A4 nt.length c4] 51)).alloc (.cells #[.slice none 0 0] 51):=zE
 have nK:Hid (Below w4.heap.size w4 w5):=hid (by rw[Gc];exact bw)
 have hs5:w5.heap.size=w4.heap.size+2:=by rw[Gc];simp
 have n5:Hid (Whole w5 w4.heap.size 51 #[.slice A4 nt.length c4]):=hid (by rw[Gc];exact(Whole.new w4 51 _).alloc _)
 have x5:Hid (Whole w5 (w4.heap.size+1) 51 #[.slice none 0 0]):=hid (by
  have:=Whole.new (w4.alloc (.cells #[.slice A4 nt.length c4] 51)) 51 #[.slice none 0 0]
  rw[Gc];rwa[World.size_alloc] at this)
 rw[← Gc]
 clear Gc
 gi_wp2
 gi_loopw [17] (fun i wr=>∃k:Nat,k≤l3.length∧i=int i64 k∧∃v,Hid (Whole wr (w4.heap.size+1) 51 #[v]∧wr.ownsRow (w4.heap.size+2) 3 1 v k ((gB nt l3 k).map (int i64))∧Below (w4.heap.size+1) w5 wr)) (fun i _=>l3.length - (intOf i).toNat)
 case atStart=>exact⟨0,Nat.zero_le _,rfl,_,hid ⟨x5.out,oV _ _ _,zB⟩⟩
 case round=>
  obtain⟨k,hk,rfl,v,hR⟩:=hrel
  have hbw:Hid (Below w.heap.size w wr):=hid ((hW4.out.trans (nK.out.mono zo)).trans (hR.out.2.2.mono zo))
  have hsr:=hR.out.2.2.size
  by_cases hlt:k<l3.length
  ·have HI3:=hid (bJ I3.out hbw.out)
   obtain⟨ad3,rfl,-⟩:=HI3.out (show 0<l3.length by omega)
   have ck:=Ints.at_ HI3.out hlt
   have hmem:l3.getD k 0∈nt:=hin.out _ (by rw[show l3.getD k 0=l3[k] by simp[hlt]];exact List.getElem_mem _)
   have hX:Hid (∀w',Below w4.heap.size w4 w'→CallsIn FF 0 prog 114 #[.slice A4 nt.length c4,int i64 (l3.getD k 0)] w' fun e w2=>e=.returned (int i64 ((nt.idxOf (l3.getD k 0):Nat):Int))∧Below w'.heap.size w' w2):=hid fun w' hb=>by
    have:=P9 (fun i=>nt.getD i 0) A4 nt.length c4 (nt.idxOf (l3.getD k 0)) w' (bJ (eH Mn.out) hb) zU (List.idxOf_lt_length_iff.2 hmem) (lP hup.out hmem)
    rwa[YA hmem] at this
   obtain⟨x,hx⟩:∃x,x=l3.getD k 0:=zE
   have HX:=hid hx
   rw[← hx] at ck hX
   clear hx hmem
   have q1:=hR.out.1.cell 0
   have q2:=(n5.out.below hR.out.2.2 (Nat.lt_succ_self _)).cell 0
   have hlen:=sW nt l3 hk
   gi_wp2
   refine iY 6 (fun w'=>w'.cell? ⟨w4.heap.size+1,0,none⟩=some v∧w'.cell? ⟨w4.heap.size,0,none⟩=some (.slice A4 nt.length c4)) zk ?_
   have hS:wr.drew.cell? ⟨w4.heap.size+1,0,none⟩=some v∧wr.drew.cell? ⟨w4.heap.size,0,none⟩=some (.slice A4 nt.length c4):=⟨q1,q2⟩
   have hs1:w4.heap.size+1<wr.heap.size:=hR.out.1.lt
   have Ny:∀w':World,w'.heap[w4.heap.size+1]? =wr.heap[w4.heap.size+1]?→w'.heap[w4.heap.size]? =wr.heap[w4.heap.size]?→(w'.cell? ⟨w4.heap.size+1,0,none⟩=some v∧w'.cell? ⟨w4.heap.size,0,none⟩=some (.slice A4 nt.length c4)):=fun w' e1 e2=>
    ⟨(World.cell?_of_block (a:=⟨w4.heap.size+1,0,none⟩) e1).trans q1,(World.cell?_of_block (a:=⟨w4.heap.size,0,none⟩) e2).trans q2⟩
   have hown:=hR.out.2.1
   have hge:∀g,v.ownBlock=some g→w4.heap.size+1<g:=fun g hg=>(aQ hown hg).1
   have Hg:=hid hge
   clear hge
   refine Cc (i:=0) (some 21) hS ?_
   simp only[Act.put,List.setIfInBounds_toArray,List.set]
   refine Cc (i:=1) (some 22) hS ?_
   simp only[Act.put,List.setIfInBounds_toArray,List.set]
   refine Cc (i:=2) (some 23) hS ?_
   simp only[Act.put,List.setIfInBounds_toArray,List.set]
   refine bf 3 fun K hK=>?_
   go_simp
   refine(hX.out _ (dR (nK.out.trans (hR.out.2.2.mono zo)))).mono ?_
   rintro e w1 ⟨rfl,hb1⟩
   have x1:w1.heap[w4.heap.size+1]? =wr.heap[w4.heap.size+1]?:=hb1.block _ hs1
   have x2:w1.heap[w4.heap.size]? =wr.heap[w4.heap.size]?:=hb1.block _ (by show w4.heap.size<wr.heap.size;omega)
   have aaT:wr.heap.size≤w1.heap.size:=hb1.size
   refine hK.out _ _ (fun _=>Ny _ x1 x2) ?_
   clear hK K
   refine bf 4 fun K hK=>?_
   go_simp
   have y1:=(Below.heap_alloc w1 (.cells #[int i64 ((nt.idxOf (l3.getD k 0):Nat):Int)] 3) (w4.heap.size+1) zo).trans x1
   have y2:=(Below.heap_alloc w1 (.cells #[int i64 ((nt.idxOf (l3.getD k 0):Nat):Int)] 3) w4.heap.size zo).trans x2
   rw[← HX.out] at y1 y2
   refine hK.out _ _ (fun _=>Ny _ y1 y2) ?_
   clear hK K
   refine bf 5 fun K hK=>?_
   refine dh rfl zr zr (step_append_lies (E:=True) _ zr _ _ _ zr (w4.heap.size+2) 3 i0 _ 1 8 underlying51 hi0.out hz0 hz1 hz2 rfl zo v k _ zr (bG (own_below (w:=wr.drew) hown hb1) _) ⟨w1.heap.size,0,none⟩ 1 1 [_] zr zr (World.news_of_block (heap_alloc_new w1 _)) (by simp[Value.oneCell']) zo zU zo zm (w1.heap.size+1) zs ?_)
   intro gg cap w2 hown2 hgrow hat hlt2
   have z1:=(hgrow.block (w4.heap.size+1) zm (fun e=>by have:=Hg.out _ e.symm;omega)).trans y1
   have z2:=(hgrow.block w4.heap.size zm (fun e=>by have:=Hg.out _ e.symm;omega)).trans y2
   refine hK.out _ _ (fun _=>Ny _ z1 z2) ?_
   clear hK K
   have zW:Whole w2 (w4.heap.size+1) 51 #[v]:=hR.out.1.of z1
   have zc:=zW.cell 0
   have zf:=zW.thaw 0
   refine bf 6 fun K hK=>?_
   go_simp
   refine hK.out _ _ (fun h=>absurd rfl h) ?_
   clear hK K
   refine aG zk ?_ _
   gi_wp2
   go_roundw
   case rel=>
    refine⟨k+1,zo,by go_num,_,hid ⟨zW.set 0 _,?_,?_⟩⟩
    ·refine bU ?_ (by show w4.heap.size+1<w4.heap.size+2;omega) _
     rw[BJ nt l3 hlt,List.map_append,← HX.out]
     exact hown2
    ·refine Below.setCell ?_ (by show w4.heap.size+1≤w4.heap.size+1;omega) _
     exact((hR.out.2.2.trans ((GD hb1).mono (by show w4.heap.size+1≤wr.heap.size;omega))).alloc zo _).trans (below_grown hgrow zm (fun g hg=>by have:=Hg.out _ hg;omega))
   case measure=>simp[intOf];omega
  ·obtain rfl:k=l3.length:=zo
   obtain⟨A7,c7,rfl⟩:=fV hR.out.2.1
   have hpl:=sW nt l3 (Nat.le_refl l3.length)
   have aaR:w4.heap.size+1<wr.heap.size:=hR.out.1.lt
   have hh1:∀w',Below wr.heap.size wr w'→CallsIn FF 0 prog 116 #[.pointer (some ⟨w.heap.size+1,0,none⟩),.pointer (some ⟨w.heap.size,0,none⟩)] w' fun e w2=>e=.returned (int i64 0)∧Below w'.heap.size w' w2:=fun w' hb=>
    Zc (fun i=>l1.getD i 0) A1 ng p1 gA gc (w.heap.size+1) w.heap.size w' (bJ I1.out (hbw.out.trans (hb.mono hbw.out.size))) zU B1.out
     ((((jB.out.below nK.out zo).below hR.out.2.2 zo).below hb zo).cell 0) ((((jA.out.below nK.out zo).below hR.out.2.2 zo).below hb zo).cell 2)
   have hh2:∀w',Below wr.heap.size wr w'→CallsIn FF 0 prog 117 #[.pointer (some ⟨w.heap.size+1+1,0,none⟩),.pointer (some ⟨w.heap.size,0,none⟩)] w' fun e w2=>e=.returned (int i64 0)∧Below w'.heap.size w' w2:=fun w' hb=>
    Zd (fun i=>l2.getD i 0) A2 nm p2 mA mc (w.heap.size+1+1) w.heap.size w' (bJ I2.out (hbw.out.trans (hb.mono hbw.out.size))) zU B2.out
     ((((jC.out.below nK.out zo).below hR.out.2.2 zo).below hb zo).cell 0) ((((jA.out.below nK.out zo).below hR.out.2.2 zo).below hb zo).cell 3)
   have hpi:∀i,i<l3.length→(gB nt l3 l3.length).getD i 0=((nt.idxOf (l3.getD i 0):Nat):Int):=fun i hi=>by
    unfold gB
    simp[hi]
   have hmem:∀i,i<l3.length→l3.getD i 0∈nt:=fun i hi=>hin.out _ (by rw[show l3.getD i 0=l3[i] by simp[hi]];exact List.getElem_mem _)
   have hh3:∀w',Below wr.heap.size wr w'→CallsIn FF 0 prog 118 #[.pointer (some ⟨w4.heap.size+1,0,none⟩),.pointer (some ⟨w4.heap.size,0,none⟩)] w' fun e w2=>e=.returned (int i64 0)∧Below w'.heap.size w' w2:=fun w' hb=>
    Ze (fun i=>(gB nt l3 l3.length).getD i 0) A7 l3.length c7 nt.length A4 c4 (w4.heap.size+1) w4.heap.size w' (bJ (by have:=eH (l:=gB nt l3 l3.length) (w:=wr) (A:=A7) (c:=c7) (base:=w4.heap.size+2) (e:=3) (by rw[hpl];exact hR.out.2.1);rwa[hpl] at this) hb) zU zU
     (fun i hi=>by have h1:=List.idxOf_lt_length_iff.2 (hmem i hi);rw[hpi i hi];omega)
     (fun i hi=>by
      have h1:=hpi i zo
      have h2:=hpi (i+1) hi
      rw[h1,h2]
      have h3:l3.getD i 0<l3.getD (i+1) 0:=by
       have:=List.pairwise_iff_getElem.1 HU.out i (i+1) zo hi zo
       rwa[show l3.getD i 0=l3[i] by simp[show i<l3.length by omega],show l3.getD (i+1) 0=l3[i+1] by simp[hi]]
      exact_mod_cast lO hup.out (hmem i zo) (hmem (i+1) hi) h3)
     ((hR.out.1.below hb zo).cell 0) (((n5.out.below hR.out.2.2 zo).below hb zo).cell 0)
   have Hh1:=hid hh1
   have Hh2:=hid hh2
   have Hh3:=hid hh3
   clear hh1 hh2 hh3 hpi hmem
   gi_wp2_with (gi_at_call 115;refine(UM wr.heap.size (w.heap.size+1) w.heap.size (w.heap.size+1+1) (w4.heap.size+1) w4.heap.size _ zs zs zs zs (fun w' hb=>Hh1.out w' ((zB.alloc zL _).trans (hb.mono zs))) (fun w' hb=>Hh2.out w' ((zB.alloc zL _).trans (hb.mono zs))) (fun w' hb=>Hh3.out w' ((zB.alloc zL _).trans (hb.mono zs)))).mono ?_;rintro e wz ⟨rfl,hbz⟩)
   go_ret
   exact⟨rfl,hbw.out.trans ((((Below.refl _ wr).alloc zL _).trans (hbz.mono zs)).mono hbw.out.size)⟩
end
end Go.Proofs.YtpmafoalhnaokaaGreat
