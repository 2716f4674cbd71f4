/- Far17 Far18 Far19 -/
import Derived.Test.YthaelabgfnnebaaGreatD5
set_option maxRecDepth 100000
set_option maxHeartbeats 16000000
set_option linter.unusedVariables false
set_option linter.unusedSectionVars false
namespace Go.dN
section
open Go.Conc
variable{P:Program}{Z:Env}{F:FuncId→Prop}
def jV(n:Nat)(e:Event):Prop:=(∀a,e.loc=.cell a→a.block<n)∧∀r,e.loc=.obj r→r<n
theorem jV.le{n m:Nat}{e:Event}(h:jV n e)(l:n≤m):jV m e:=⟨fun a ha=>Nat.lt_of_lt_of_le (h.1 a ha) l,fun r hr=>Nat.lt_of_lt_of_le (h.2 r hr) l⟩
theorem jV.cell{n:Nat}{a:Addr}{x y:Bool}(h:a.block<n):jV n ⟨.cell a,x,y⟩:=⟨fun b hb=>by cases hb;exact h,fun r hr=>by cases hr⟩
theorem jV.obj{n r:Nat}{x y:Bool}(h:r<n):jV n ⟨.obj r,x,y⟩:=⟨fun b hb=>(by cases hb),fun q hq=>by cases hq;exact h⟩
theorem jV.mark{n:Nat}{m:Mark}{x y:Bool}:jV n ⟨.mark m,x,y⟩:=⟨fun b hb=>(by cases hb),fun q hq=>by cases hq⟩
theorem jV.output{n:Nat}{x y:Bool}:jV n ⟨.output,x,y⟩:=⟨fun b hb=>(by cases hb),fun q hq=>by cases hq⟩
def rf{α:Type}:Result α→World
 | .ok _ w=>w
 | .halt _ w=>w
def RunIn{α:Type}(w:World)(es:Array Event)(p:Result α × Array Event):Prop:=w.heap.size≤(rf p.1).heap.size∧∀e∈p.2,e∈es∨jV (rf p.1).heap.size e
theorem RunIn.mk'{α:Type}{w w1:World}{es es1:Array Event}{p:Result α × Array Event}(h:RunIn w1 es1 p)(hs:w.heap.size≤w1.heap.size)(he:∀e∈es1,e∈es∨jV w1.heap.size e):RunIn w es p:=
 ⟨Nat.le_trans hs h.1,fun e h0=>(h.2 e h0).elim (fun h1=>(he e h1).imp id (·.le h.1)) .inr⟩
theorem RunIn.push{α:Type}{w w1:World}{es:Array Event}{e0:Event}{p:Result α × Array Event}(h:RunIn w1 (es.push e0) p)(hs:w.heap.size≤w1.heap.size)(he:jV w1.heap.size e0):RunIn w es p:=
 h.mk' hs fun e h0=>by
  rcases Array.mem_push.1 h0 with h1|rfl
  ·exact .inl h1
  ·exact .inr he
theorem RunIn.self{α:Type}{w:World}{es:Array Event}{r:Result α}(h:rf r=w):RunIn w es (r,es):=⟨by rw[h];exact Nat.le_refl _,fun e he=>.inl he⟩
theorem KQ{w:World}{a:Addr}{v:Value}(h:w.cell? a=some v):a.block<w.heap.size:=by
 unfold World.cell? at h
 split at h
 ·exact(Array.getElem?_eq_some_iff.1 ‹_›).1
 ·cases h
theorem L8{w:World}{b u:Addr × TypeId}{k:Addr}{at_:Bool}{x:Array Value × TypeId × (Nat × Nat) × Nat × Value × List (Nat × Nat × List UInt8)}(h:w.seen P b.1 b.2 k at_=.ok x):b.1.block<w.heap.size:=by
 refine Classical.byContradiction fun hn=>?_
 have hg:w.heap[b.1.block]? =none:=Array.getElem?_eq_none zo
 unfold World.seen at h
 simp only[bind,Except.bind,hg] at h
 repeat' split at h
 all_goals first|cases h|simp_all [throw,throwThe,MonadExceptOf.throw]
theorem G6{w:World}{b:Addr}{u:TypeId}{k:Addr}{at_:Bool}{x:Value × List Addr}(h:w.viewLoad P b u k at_=.ok x):∀a∈x.2,a.block<w.heap.size:=by
 unfold World.viewLoad at h
 cases hs:w.seen P b u k at_ with
 | error e=>simp[hs,bind,Except.bind] at h
 | ok y=>
   have hb:=L8 (b:=(b,u)) (u:=(b,u)) hs
   obtain⟨c,e,f,first,like,cells⟩:=y
   simp only[hs,bind,Except.bind] at h
   split at h
   ·simp only[pure,Except.pure,Except.ok.injEq] at h
    subst h
    intro a ha
    obtain⟨y,_,rfl⟩:=List.mem_map.1 ha
    exact hb
   ·cases h
theorem Ea{w:World}{b:Addr}{u:TypeId}{k:Addr}{v:Value}{at_:Bool}{x:World × List Addr}(h:w.viewStore P b u k v at_=.ok x):x.1.heap.size=w.heap.size∧∀a∈x.2,a.block<w.heap.size:=by
 unfold World.viewStore at h
 cases hs:w.seen P b u k at_ with
 | error e=>
   simp only[hs,bind,Except.bind] at h
   repeat' split at h
   all_goals cases h
 | ok y=>
   have hb:=L8 (b:=(b,u)) (u:=(b,u)) hs
   obtain⟨c,e,f,first,like,cells⟩:=y
   simp only[hs,bind,Except.bind] at h
   repeat' split at h
   all_goals first|(cases h;done)|skip
   all_goals
    simp only[pure,Except.pure,Except.ok.injEq] at h
    subst h
    refine⟨zs,fun a ha=>?_⟩
    obtain⟨y,_,rfl⟩:=List.mem_map.1 ha
    exact hb
theorem Jf{w:World}{a:Addr}{at_:Bool}{x:Value × List Addr}(h:w.farLoad P a at_=.ok x):∀b∈x.2,b.block<w.heap.size:=by
 unfold World.farLoad at h
 split at h
 ·split at h
  ·cases h;exact G6 ‹_›
  ·cases h
 ·cases h
theorem Fe{w:World}{a:Addr}{v:Value}{at_:Bool}{x:World × List Addr}(h:w.farStore P a v at_=.ok x):x.1.heap.size=w.heap.size∧∀b∈x.2,b.block<w.heap.size:=by
 unfold World.farStore at h
 split at h
 ·split at h
  ·cases h;exact Ea ‹_›
  ·cases h
 ·cases h
theorem vN{α:Type}(q:Ask α):∀w:World,(w.ask q).2.heap=w.heap:=by
 induction q with
 | done a=>exact fun w=>rfl
 | ask what range k ih=>
   intro w
   unfold World.ask
   dsimp only
   split
   ·exact ih _ w
   ·exact ih _ _
theorem xA(w:World)(c:Sys):(w.sys c).2.heap=w.heap:=by
 unfold World.sys
 have h:=vN (Kernel.perform c w.os) w
 generalize w.ask (Kernel.perform c w.os)=x at h
 split
 ·rfl
 ·exact h
theorem AZ{w:World}{l:List Addr}{x y:Bool}{es:Array Event}(h:∀b∈l,b.block<w.heap.size):∀e∈es ++ l.toArray.map (⟨.cell ·,x,y⟩),e∈es∨jV w.heap.size e:=fun e he=>by
 rcases Array.mem_append.1 he with he|he
 ·exact .inl he
 ·obtain⟨b,hb,rfl⟩:=Array.mem_map.1 he
  exact .inr (.cell (h b (by simpa using hb)))
theorem DK{α:Type}(s:Sem α):∀ (w:World) (es:Array Event),RunIn w es (s.runT P w es):=by
 induction s with
 | pure a=>exact fun w es=>.self rfl
 | load m a k ih=>
   intro w es
   simp only[Sem.runT]
   split
   ·exact(ih _ w _).push (Nat.le_refl _) (.cell (KQ ‹_›))
   ·split
    ·exact(ih _ w _).mk' (Nat.le_refl _) (AZ (Jf ‹_›))
    ·exact .self rfl
 | store m a v k ih=>
   intro w es
   have main:RunIn w es (match w.cell? a with
    | some _=>if w.frozen? a then((.halt (.unsupported (.unsafePointer "a write to bytes that a string shares")) w:Result α),es) else k.runT P (w.setCell a v) (es.push ⟨.cell a,true,m == .atomic⟩)
    | none=>match w.farStore P a v (m == .atomic) with
      | .ok (w,touched)=>k.runT P w (es ++ touched.toArray.map (⟨.cell ·,true,m == .atomic⟩))
      | .error h=>(.halt h w,es)):=by
    split
    ·split
     ·exact .self rfl
     ·exact(ih _ _).push (by simp[World.setCell]) (.cell (by simpa [World.setCell] using KQ ‹_›))
    ·split
     ·have:=Fe ‹_›
      exact(ih _ _).mk' (by rw[this.1];exact Nat.le_refl _) (AZ (by rw[this.1];exact this.2))
     ·exact .self rfl
   cases v <;> first|exact .self rfl|exact main
 | new o k ih=>
   intro w es
   exact(ih _ _ _).mk' zs fun e he=>.inl he
 | shape r k ih=>exact fun w es=>ih _ w es
 | freeze a n k ih=>exact fun w es=>(ih (w.freeze a n) es).mk' (by rw[(gJ w a n).1];exact Nat.le_refl _) fun e he=>.inl he
 | frozen a k ih=>exact fun w es=>ih _ w es
 | getObj r k ih=>
   intro w es
   simp only[Sem.runT]
   split
   ·exact .self rfl
   ·exact(ih _ w _).push (Nat.le_refl _) (.obj (Array.getElem?_eq_some_iff.1 ‹_›).1)
   ·exact .self rfl
 | setObj r o k ih=>
   intro w es
   simp only[Sem.runT]
   split
   ·exact .self rfl
   ·exact(ih _ _).push zs (.obj (by simpa using (Array.getElem?_eq_some_iff.1 ‹_›).1))
   ·exact .self rfl
 | choose q k ih=>
   intro w es
   simp only[Sem.runT]
   split
   ·exact ih _ w es
   ·exact(ih _ {w with drawn:=w.drawn+1 } es).mk' (Nat.le_refl _) fun e he=>.inl he
 | sys c k ih=>
   intro w es
   exact(ih _ (w.sys c).2 _).push (by rw[xA];exact Nat.le_refl _) .output
 | program k ih=>exact fun w es=>ih P w es
 | mark m k ih=>exact fun w es=>(ih w _).push (Nat.le_refl _) .mark
 | halt h=>exact fun w es=>.self rfl
def uD(w:World):GStep→Prop
 | .go g w' es=>g.dying=none→w.heap.size≤w'.heap.size∧∀e∈es,jV w'.heap.size e
 | .comm _ _ _ _ w' es=>w.heap.size≤w'.heap.size∧∀e∈es,jV w'.heap.size e
 | _=>True
theorem bV{g:Goroutine}{w:World}:uD w (.go g w):=fun _=>⟨Nat.le_refl _,fun e he=>by simp at he⟩
theorem Vy{g:Goroutine}{w w':World}(h:w'.heap=w.heap):uD w (.go g w'):=fun _=>⟨by rw[h];exact Nat.le_refl _,fun e he=>by simp at he⟩
theorem Fq{g:Goroutine}{w:World}{c:Array CommCase}{b:Bool}{sh:CommShape}:uD w (.comm g c b sh w):=⟨Nat.le_refl _,fun e he=>by simp at he⟩
theorem uD.after{w w1:World}{es:Array Event}{st:GStep}(h1:w.heap.size≤w1.heap.size)(h2:∀e∈es,jV w1.heap.size e)(h:uD w1 st):uD w (st.after es):=by
 have both:∀ {w2:World} {es2:Array Event},(w1.heap.size≤w2.heap.size∧∀e∈es2,jV w2.heap.size e)→w.heap.size≤w2.heap.size∧∀e∈es ++ es2,jV w2.heap.size e:=fun⟨a,b⟩=>
  ⟨Nat.le_trans h1 a,fun e he=>(Array.mem_append.1 he).elim (fun h0=>(h2 e h0).le a) (b e)⟩
 cases st with
 | go g w2 es2=>exact fun hd=>both (h hd)
 | comm g c b sh w2 es2=>exact both h
 | _=>trivial
theorem Aq{fr:Frame}{m:String}{w:World}:uD w (endThrow fr m w):=fun h=>by cases h
theorem Dh{α:Type}{s:Sem α}{w:World}{fn:FuncId}{f:Result α→GStep}(h:∀r,uD (rf r) (f r)):uD w (GStep.after (seen P fn (s.runT P w #[]).2) (f (s.runT P w #[]).1)):=by
 have hr:=DK (P:=P) s w #[]
 generalize s.runT P w #[]=x at hr
 obtain⟨r,es⟩:=x
 exact uD.after hr.1 (fun e he=>(hr.2 e (fF he)).elim (fun h0=>by simp at h0) id) (h r)
theorem l9(S:jW P F Z){fr:Frame}(hk:fr.kind=.normal)(hf:F fr.fn){cs:List Frame}{v:Value}{w:World}:uD w (doReturn P true fr cs none v w):=by
 cases cs with
 | cons c cs=>simp only[doReturn,hk];exact bV
 | nil=>simp only[doReturn,hk,S.inits _ hf];exact trivial
theorem wC(S:jW P F Z){fr:Frame}(hfr:Fr P F fr){cs:List Frame}{w:World}:uD w (unwind P true fr cs none w):=by
 obtain⟨fn,tmps,todo,defers,mode,kind,roundOf⟩:=fr
 cases defers with
 | cons d ds=>
   obtain⟨c,hc⟩:=hfr.defers d zs
   obtain⟨t,args⟩:=d
   simp only at hc
   subst hc
   simp only[unwind]
   refine Dh (s:=Instr.takeDeferred c) (f:=fun r=>match r with
    | .ok calls w=>.go {frame:={fn,tmps,todo,defers:=calls ++ ds,mode,kind,roundOf },callers:=cs,status:=.running,dying:=none } w
    | .halt _ w=>.ended (.stuck "the deferred calls of a range-over-func loop have been taken" (Frame.pos P _)) w) fun r=>?_
   cases r with
   | ok v w1=>exact bV
   | halt e w1=>trivial
 | nil=>
   cases mode with
   | run=>simp only[unwind];trivial
   | returning=>
     unfold unwind
     dsimp only
     split
     ·exact l9 S hfr.kind hfr.fn
     ·rename_i f2 _
      refine Dh (fn:=fn) (s:=results f2 tmps) (f:=fun r=>match r with
       | .ok v w=>doReturn P true _ cs none v w
       | .halt (.stuck s) w=>.ended (.stuck s (Frame.pos P _)) w
       | .halt _ w=>.ended (.stuck sQ7 (Frame.pos P _)) w) fun r=>?_
      cases r with
      | ok v w1=>exact l9 S hfr.kind hfr.fn
      | halt e w1=>cases e <;> trivial
   | panicking chain=>
     unfold unwind
     dsimp only
     split
     ·trivial
     ·cases cs with
      | cons c cs=>exact bV
      | nil=>
        dsimp only
        split
        ·exact bV
        ·split
         ·exact fun h=>by cases h
         ·trivial
         ·trivial
theorem jD(S:jW P F Z){fr:Frame}(hk:fr.kind=.normal){cs:List Frame}{s:Sem Next}{w:World}:uD w (stepG.apply P true fr cs none s w):=by
 have hek:(fr.kind == CallKind.early)=false:=by rw[hk];rfl
 have hr:=DK (P:=P) s w #[]
 unfold stepG.apply
 simp only[if_true,hek]
 generalize s.runT P w #[]=x at hr
 obtain⟨r,es⟩:=x
 have ev:∀es':Array Event,(∀e∈es',e∈es)→∀e∈seen P fr.fn es',jV (rf r).heap.size e:=fun es' h e he=>(hr.2 e (h e (fF he))).elim (fun h0=>by simp at h0) id
 cases r with
 | ok nx w1=>
   refine uD.after hr.1 (ev _ fun e he=>by simpa using he) ?_
   cases nx <;> dsimp only <;> first|exact bV|exact Fq|exact trivial|skip
   all_goals (repeat' split)
   all_goals first|exact bV|exact Fq|exact trivial|exact Aq
 | halt h w1=>
   cases h with
   | unsupported u=>
     cases u <;> first|(refine uD.after hr.1 (ev _ fun e he=>by first|exact he|simp at he) ?_;exact trivial)|skip
     refine uD.after hr.1 (ev _ fun e he=>by first|exact he|simp at he) ?_
     obtain⟨o,w2,es2,e1,_⟩:=tL S fr cs _ w1
     show uD w1 (early P fr cs none _ w1)
     rw[e1];trivial
   | fatal m=>
     refine uD.after hr.1 (ev _ fun e he=>by first|exact he|simp at he) ?_
     show uD w1 (endFatal P fr cs none m w1)
     unfold endFatal
     dsimp only
     repeat' split
     all_goals first|trivial|exact fun h=>by cases h
   | _=>exact uD.after hr.1 (ev _ fun e he=>by first|exact he|simp at he) (by first|exact bV|exact Aq|trivial)
theorem EO{q:Question}{w w1:World}{t:Nat}(h:(choose q).run P w=.ok t w1):w1.heap=w.heap:=by
 simp only[choose,Sem.run] at h
 split at h <;> (cases h;rfl)
theorem Q9(S:jW P F Z){fr:Frame}(hfr:Fr P F fr){cs:List Frame}{w:World}:uD w (stepG.exec P true true fr cs none w):=by
 have leave:∀jump:Option Code,uD w (match fr.roundOf with
  | none=>if jump matches none|some .ret then .go {frame:={fr with mode:=.returning },callers:=cs,status:=.running,dying:=none } w else .ended (.stuck pS (fr.pos P)) w
  | some l=>
    let (r,es):=(Instr.endRound l jump).runT P w #[]
    GStep.after (seen P fr.fn es) <| match r with
    | .ok v w=>doReturn P true fr cs none v w
    | .halt _ w=>.ended (.stuck YT (fr.pos P)) w):=fun jump=>by
  obtain⟨fn,tmps,todo,defers,mode,kind,roundOf⟩:=fr
  cases roundOf with
  | none=>
    cases jump with
    | none=>exact bV
    | some c=>cases c <;> first|exact bV|exact trivial
  | some l=>
    refine Dh (s:=Instr.endRound l jump) (f:=fun r=>match r with
     | .ok v w=>doReturn P true _ cs none v w
     | .halt _ w=>.ended (.stuck YT (Frame.pos P _)) w) fun r=>?_
    cases r with
    | ok v w1=>exact l9 S hfr.kind hfr.fn
    | halt e w1=>exact trivial
 obtain⟨fn,tmps,todo,defers,mode,kind,roundOf⟩:=fr
 have hk0:kind=.normal:=hfr.kind
 unfold stepG.exec
 cases todo with
 | nil=>exact leave none
 | cons i k=>
   cases i with
   | code c=>
     cases c with
     | skip=>exact bV
     | label l=>exact bV
     | ret=>exact leave (some .ret)
     | seq a b=>exact bV
     | cond x a b=>
       dsimp only
       generalize Frame.eval _ x=v
       cases v with
       | bool t=>exact bV
       | _=>exact trivial
     | block id b=>exact bV
     | loop b=>exact bV
     | scope b=>exact bV
     | exit id=>
       have:=leave (some (.exit id))
       dsimp only at this⊢
       cases he:exitTo id k with
       | none=>exact this
       | some k'=>exact bV
     | goto l=>
       have:=leave (some (.goto l))
       dsimp only at this⊢
       cases he:gotoIn l k with
       | none=>exact this
       | some k'=>exact bV
     | region id ops draw=>
       cases draw with
       | false=>exact bV
       | true=>
         dsimp only
         cases hr:(choose (.order fn id)).run P w with
         | ok t w1=>exact Vy (EO hr)
         | halt e w1=>exact trivial
     | rangeFunc f params assign body=>
       have hr:=DK (P:=P) (Instr.enterLoop fn tmps params assign body roundOf) w #[]
       dsimp only
       generalize (Instr.enterLoop fn tmps params assign body roundOf).runT P w #[]=x at hr
       obtain⟨r,es⟩:=x
       refine uD.after hr.1 (fun e he=>(hr.2 e (fF he)).elim (fun h0=>by simp at h0) id) ?_
       cases r with
       | ok x w1=>exact jD S hk0
       | halt e w1=>exact trivial
     | refuse y=>exact trivial
   | inBlock id=>exact bV
   | inScope b=>exact bV
   | inLoop b=>exact bV
   | inRegion ops l=>
     cases l with
     | nil=>exact bV
     | cons j l=>
       dsimp only
       split
       ·unfold stepG.oper
        split
        ·exact trivial
        ·dsimp only
         split
         ·exact jD S hk0
         ·exact jD S hk0
       ·exact bV
   | inRangeFunc l=>exact trivial
   | beginRound=>exact jD S hk0
   | endRangeFunc l=>
     have hr:=DK (P:=P) (Instr.endLoop l) w #[]
     dsimp only
     generalize (Instr.endLoop l).runT P w #[]=x at hr
     obtain⟨r,es⟩:=x
     refine uD.after hr.1 (fun e he=>(hr.2 e (fF he)).elim (fun h0=>by simp at h0) id) ?_
     cases r with
     | ok x w1=>exact bV
     | halt e w1=>cases e <;> first|exact bV|exact trivial
   | call x b c e=>exact jD S hk0
   | _=>
     rename_i row args
     dsimp only
     cases Extern.next row with
     | none=>exact trivial
     | some x=>exact jD S hk0
theorem Ma(S:jW P F Z){fr:Frame}(hfr:Fr P F fr){cs:List Frame}{w:World}:uD w (stepG P true (G fr cs) w):=by
 cases hm:fr.mode with
 | run=>simp only[stepG,G,hm];exact Q9 S hfr
 | returning=>simp only[stepG,G,hm];exact wC S hfr
 | panicking c=>simp only[stepG,G,hm];exact wC S hfr
def Ah(n:Nat)(l:Loc):Prop:=(∀a,l=.cell a→a.block<n)∧∀r,l=.obj r→r<n
def gZ(t:Trace)(n:Nat):Prop:=∀op∈t,op.g=0∧(op.act≠.mark .disable∧op.act≠.mark .enable)∧(∀a,op.act≠.mark (.release a))∧∀x,op.act.touch?=some x→Ah n x.loc
theorem gZ.nil(n:Nat):gZ #[] n:=fun op h=>by simp at h
theorem Ah.le{n m:Nat}{l:Loc}(h:Ah n l)(k:n≤m):Ah m l:=⟨fun a e=>Nat.lt_of_lt_of_le (h.1 a e) k,fun r e=>Nat.lt_of_lt_of_le (h.2 r e) k⟩
theorem gZ.app{t u:Trace}{n m:Nat}(h:gZ t n)(k:n≤m)(hu:gZ u m):gZ (t ++ u) m:=fun op hop=>(Array.mem_append.1 hop).elim (fun h0=>let ⟨a,b,c,d⟩:=h op h0;⟨a,b,c,fun x hx=>(d x hx).le k⟩) (hu op)
theorem lS{n:Nat}{fn:FuncId}{pos:String}{es:Array Event}(hok:∀e∈es,Ep Z e)(h:∀e∈es,jV n e):∀op∈MemOp.ofEvents 0 fn pos es,∀x,op.act.touch?=some x→Ah n x.loc:=fun op hop x hx=>by
 obtain⟨e,he,rfl⟩:=Go.Conc.mem_ofEvents hop
 have h1:=h e he
 obtain⟨loc,wr,sy⟩:=e
 rcases hok _ he with(h2|h2)|⟨a,h2,hz⟩|⟨r,h2,hz⟩
 ·simp only at h2;subst h2;cases hx
 ·simp only at h2;subst h2
  simp only[MemAct.ofEvent,MemAct.touch?,Option.some.injEq] at hx
  subst hx
  exact h1
 ·simp only at h2;subst h2
  simp only[MemAct.ofEvent,MemAct.touch?,Option.some.injEq] at hx
  subst hx
  exact h1
 ·simp only at h2;subst h2
  cases wr <;> cases sy <;> simp only[MemAct.ofEvent,MemAct.touch?,Option.some.injEq] at hx <;> first|cases hx;done|(subst hx;exact h1)
theorem rD{n:Nat}{u:Trace}(h:∀op∈u,UQ Z op)(h2:∀op∈u,∀x,op.act.touch?=some x→Ah n x.loc):gZ u n:=fun op hop=>let ⟨a,b,_,d⟩:=h op hop;⟨a,b,d,h2 op hop⟩
theorem NA{Fc:Fence}(S:jW P Fc.fn Z){I:Machine→Prop}(hI:∀m,I m→m.fenced P Fc)(hal:Fc.alive=true){a:Pt}(ok:a.Ok P Fc.fn Z){m1:Machine}{fr':Frame}{cs':List Frame}{v':World}(hI0:I a.m)(hs:step P a.m=.next m1)
 (hp:StepsIn I P m1 (solo (G fr' cs') v')):∃ (b:Pt) (ops:Trace),m1=b.m∧b.Ok P Fc.fn Z∧stepT P a.m=(.next b.m,ops)∧a.w.heap.size≤b.w.heap.size∧gZ ops b.w.heap.size:=by
 have hsl:=xu S ok.fr ok.cs ok.lv (fun f hf=>(hI _ hI0 (G a.fr a.cs) (by simp[Pt.m,solo])).2.2.1 f hf)
 have hin:=Ma S ok.fr (cs:=a.cs) (w:=a.w)
 have hT:stepT P a.m=runT P (solo (G a.fr a.cs) a.w) 0:=by rw[Pt.m,stepT_solo rfl]
 rw[step,hT] at hs
 unfold SL at hsl
 dsimp only at hsl
 cases hgw:stepG P true (G a.fr a.cs) a.w with
 | go g' w' es=>
   rw[hgw] at hsl hin
   rw[runT_solo_go hgw] at hs hT
   cases hs
   rcases hsl with hd|⟨⟨Pn,cs2,rfl,h1,h2⟩,n,M⟩
   ·exact(jr hI hal hd hp).elim
   have hin':=hin rfl
   exact⟨⟨Pn,cs2,w'⟩,_,rfl,⟨h1,h2,M.2.2.1⟩,hT,hin'.1,rD (jN M.2.2.2.1) (lS M.2.2.2.1 hin'.2)⟩
 | comm g' cases b sh w' es=>
   rw[hgw] at hsl hin
   obtain⟨⟨Pn,cs2,rfl,h1,h2⟩,⟨rfl,⟨ch,send,z⟩,Sv,rfl,hsend,rfl⟩,n,M⟩:=hsl
   simp only at hsend
   subst hsend
   have ho1:kL #[G a.fr a.cs]:=fun i g hi hg=>by
    rw[Array.getElem?_eq_none zm] at hg;cases hg
   rw[solo_eq_crowd] at hs hT
   rcases qz (P:=P) (gs:=#[G a.fr a.cs]) (sl:=none) rfl ho1 hgw with⟨o,w2,e⟩|⟨g',ops,hg',e⟩|⟨r,cap,buf,closed,s,q,tm,rfl,hc,hb⟩
   ·rw[e] at hs;cases hs
   ·rw[e] at hs
    cases hs
    exact(jr (g:=g') hI hal (.inr (.inl hg')) hp).elim
   ·have hnz:¬ Z r:=fun hz=>by
     have:=M.2.2.1.dead r hz
     rw[this] at hc
     simp[X0] at hc
    obtain⟨ops,hops,e⟩:=sS (P:=P) (gs:=#[G a.fr a.cs]) (sl:=none) rfl ho1 hgw hc hb
    rw[e] at hs hT
    simp only[Stepped.next.injEq] at hs
    have hsz:w'.heap.size≤(lH w' r cap buf closed s q tm).heap.size:=by
     unfold lH
     split <;> simp[World.setChan]
    refine⟨⟨Pn.finish (JY Sv z buf),cs2,lH w' r cap buf closed s q tm⟩,_,hs.symm,⟨h1.finish _,h2,DI M.2.2.1 hnz⟩,hT,Nat.le_trans hin.1 hsz,gZ.app (rD (jN M.2.2.2.1) (lS M.2.2.2.1 hin.2)) hsz fun op hop=>?_⟩
    obtain⟨k1,k2,k3⟩:=hops op hop
    exact⟨k1,⟨k3 _,k3 _⟩,fun a=>k3 _,fun x hx=>(by rw[k2] at hx;cases hx)⟩
 | ended o w' es=>
   rw[aU hgw] at hs
   cases hs
 | spawn g' child w' es=>
   exfalso
   have h1:=qC (P:=P) hp
   rw[runT_solo_spawn hgw] at hs
   cases hs
   simp[solo,duo] at h1
 | _=>rw[hgw] at hsl;exact hsl.elim
end
end Go.dN
