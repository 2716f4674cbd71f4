/- Far17 Far18 Far19 -/
import Derived.Test.YthaelabgfnnebaaGreatD4
set_option maxRecDepth 100000
set_option maxHeartbeats 16000000
set_option linter.unusedVariables false
set_option linter.unusedSectionVars false
namespace Go.dK
section
open Go.Conc
variable{P:Program}{Z:Env}{F:FuncId→Prop}
def jS(n:Nat)(e:Event):Prop:=(∀a,e.loc=.cell a→a.block<n)∧∀r,e.loc=.obj r→r<n
theorem jS.le{n m:Nat}{e:Event}(h:jS n e)(l:n≤m):jS m e:=⟨fun a ha=>Nat.lt_of_lt_of_le (h.1 a ha) l,fun r hr=>Nat.lt_of_lt_of_le (h.2 r hr) l⟩
theorem jS.cell{n:Nat}{a:Addr}{x y:Bool}(h:a.block<n):jS n ⟨.cell a,x,y⟩:=⟨fun b hb=>by cases hb;exact h,fun r hr=>by cases hr⟩
theorem jS.obj{n r:Nat}{x y:Bool}(h:r<n):jS n ⟨.obj r,x,y⟩:=⟨fun b hb=>(by cases hb),fun q hq=>by cases hq;exact h⟩
theorem jS.mark{n:Nat}{m:Mark}{x y:Bool}:jS n ⟨.mark m,x,y⟩:=⟨fun b hb=>(by cases hb),fun q hq=>by cases hq⟩
theorem jS.output{n:Nat}{x y:Bool}:jS n ⟨.output,x,y⟩:=⟨fun b hb=>(by cases hb),fun q hq=>by cases hq⟩
def pZ{α:Type}:Result α→World
 | .ok _ w=>w
 | .halt _ w=>w
def RunIn{α:Type}(w:World)(es:Array Event)(p:Result α × Array Event):Prop:=w.heap.size≤(pZ p.1).heap.size∧∀e∈p.2,e∈es∨jS (pZ p.1).heap.size e
theorem RunIn.mk'{α:Type}{w w1:World}{es es1:Array Event}{p:Result α × Array Event}(h:RunIn w1 es1 p)(hs:w.heap.size≤w1.heap.size)(he:∀e∈es1,e∈es∨jS w1.heap.size e):RunIn w es p:=
 ⟨Nat.le_trans hs h.1,fun e h0=>(h.2 e h0).elim (fun h1=>(he e h1).imp id (·.le h.1)) .inr⟩
theorem RunIn.push{α:Type}{w w1:World}{es:Array Event}{e0:Event}{p:Result α × Array Event}(h:RunIn w1 (es.push e0) p)(hs:w.heap.size≤w1.heap.size)(he:jS w1.heap.size e0):RunIn w es p:=
 h.mk' hs fun e h0=>by
  rcases Array.mem_push.1 h0 with h1|rfl
  ·exact .inl h1
  ·exact .inr he
theorem RunIn.self{α:Type}{w:World}{es:Array Event}{r:Result α}(h:pZ r=w):RunIn w es (r,es):=⟨by rw[h];exact Nat.le_refl _,fun e he=>.inl he⟩
theorem KA{w:World}{a:Addr}{v:Value}(h:w.cell? a=some v):a.block<w.heap.size:=by
 unfold World.cell? at h
 split at h
 ·exact(Array.getElem?_eq_some_iff.1 ‹_›).1
 ·cases h
theorem LJ{w:World}{b u:Addr × TypeId}{k:Addr}{at_:Bool}{x:Array Value × TypeId × (Nat × Nat) × Nat × Value × List (Nat × Nat × List UInt8)}(h:w.seen P b.1 b.2 k at_=.ok x):b.1.block<w.heap.size:=by
 refine Classical.byContradiction fun hn=>?_
 have hg:w.heap[b.1.block]? =none:=Array.getElem?_eq_none zo
 unfold World.seen at h
 simp only[bind,Except.bind,hg] at h
 repeat' split at h
 all_goals first|cases h|simp_all [throw,throwThe,MonadExceptOf.throw]
theorem GQ{w:World}{b:Addr}{u:TypeId}{k:Addr}{at_:Bool}{x:Value × List Addr}(h:w.viewLoad P b u k at_=.ok x):∀a∈x.2,a.block<w.heap.size:=by
 unfold World.viewLoad at h
 cases hs:w.seen P b u k at_ with
 | error e=>simp[hs,bind,Except.bind] at h
 | ok y=>
   have hb:=LJ (b:=(b,u)) (u:=(b,u)) hs
   obtain⟨c,e,f,first,like,cells⟩:=y
   simp only[hs,bind,Except.bind] at h
   split at h
   ·simp only[pure,Except.pure,Except.ok.injEq] at h
    subst h
    intro a ha
    obtain⟨y,_,rfl⟩:=List.mem_map.1 ha
    exact hb
   ·cases h
theorem D7{w:World}{b:Addr}{u:TypeId}{k:Addr}{v:Value}{at_:Bool}{x:World × List Addr}(h:w.viewStore P b u k v at_=.ok x):x.1.heap.size=w.heap.size∧∀a∈x.2,a.block<w.heap.size:=by
 unfold World.viewStore at h
 cases hs:w.seen P b u k at_ with
 | error e=>
   simp only[hs,bind,Except.bind] at h
   repeat' split at h
   all_goals cases h
 | ok y=>
   have hb:=LJ (b:=(b,u)) (u:=(b,u)) hs
   obtain⟨c,e,f,first,like,cells⟩:=y
   simp only[hs,bind,Except.bind] at h
   repeat' split at h
   all_goals first|(cases h;done)|skip
   all_goals
    simp only[pure,Except.pure,Except.ok.injEq] at h
    subst h
    refine⟨zs,fun a ha=>?_⟩
    obtain⟨y,_,rfl⟩:=List.mem_map.1 ha
    exact hb
theorem IZ{w:World}{a:Addr}{at_:Bool}{x:Value × List Addr}(h:w.farLoad P a at_=.ok x):∀b∈x.2,b.block<w.heap.size:=by
 unfold World.farLoad at h
 split at h
 ·split at h
  ·cases h;exact GQ ‹_›
  ·cases h
 ·cases h
theorem E9{w:World}{a:Addr}{v:Value}{at_:Bool}{x:World × List Addr}(h:w.farStore P a v at_=.ok x):x.1.heap.size=w.heap.size∧∀b∈x.2,b.block<w.heap.size:=by
 unfold World.farStore at h
 split at h
 ·split at h
  ·cases h;exact D7 ‹_›
  ·cases h
 ·cases h
theorem vJ{α:Type}(q:Ask α):∀w:World,(w.ask q).2.heap=w.heap:=by
 induction q with
 | done a=>exact fun w=>rfl
 | ask what range k ih=>
   intro w
   unfold World.ask
   dsimp only
   split
   ·exact ih _ w
   ·exact ih _ _
theorem xA(w:World)(c:Sys):(w.sys c).2.heap=w.heap:=by
 unfold World.sys
 have h:=vJ (Kernel.perform c w.os) w
 generalize w.ask (Kernel.perform c w.os)=x at h
 split
 ·rfl
 ·exact h
theorem AQ{w:World}{l:List Addr}{x y:Bool}{es:Array Event}(h:∀b∈l,b.block<w.heap.size):∀e∈es ++ l.toArray.map (⟨.cell ·,x,y⟩),e∈es∨jS w.heap.size e:=fun e he=>by
 rcases Array.mem_append.1 he with he|he
 ·exact .inl he
 ·obtain⟨b,hb,rfl⟩:=Array.mem_map.1 he
  exact .inr (.cell (h b (by simpa using hb)))
theorem DF{α:Type}(s:Sem α):∀ (w:World) (es:Array Event),RunIn w es (s.runT P w es):=by
 induction s with
 | pure a=>exact fun w es=>.self rfl
 | load m a k ih=>
   intro w es
   simp only[Sem.runT]
   split
   ·exact(ih _ w _).push (Nat.le_refl _) (.cell (KA ‹_›))
   ·split
    ·exact(ih _ w _).mk' (Nat.le_refl _) (AQ (IZ ‹_›))
    ·exact .self rfl
 | store m a v k ih=>
   intro w es
   have main:RunIn w es (match w.cell? a with
    | some _=>if w.frozen? a then((.halt (.unsupported (.unsafePointer "a write to bytes that a string shares")) w:Result α),es) else k.runT P (w.setCell a v) (es.push ⟨.cell a,true,m == .atomic⟩)
    | none=>match w.farStore P a v (m == .atomic) with
      | .ok (w,touched)=>k.runT P w (es ++ touched.toArray.map (⟨.cell ·,true,m == .atomic⟩))
      | .error h=>(.halt h w,es)):=by
    split
    ·split
     ·exact .self rfl
     ·exact(ih _ _).push (by simp[World.setCell]) (.cell (by simpa [World.setCell] using KA ‹_›))
    ·split
     ·have:=E9 ‹_›
      exact(ih _ _).mk' (by rw[this.1];exact Nat.le_refl _) (AQ (by rw[this.1];exact this.2))
     ·exact .self rfl
   cases v <;> first|exact .self rfl|exact main
 | new o k ih=>
   intro w es
   exact(ih _ _ _).mk' zs fun e he=>.inl he
 | shape r k ih=>exact fun w es=>ih _ w es
 | freeze a n k ih=>exact fun w es=>(ih (w.freeze a n) es).mk' (by rw[(gG w a n).1];exact Nat.le_refl _) fun e he=>.inl he
 | frozen a k ih=>exact fun w es=>ih _ w es
 | getObj r k ih=>
   intro w es
   simp only[Sem.runT]
   split
   ·exact .self rfl
   ·exact(ih _ w _).push (Nat.le_refl _) (.obj (Array.getElem?_eq_some_iff.1 ‹_›).1)
   ·exact .self rfl
 | setObj r o k ih=>
   intro w es
   simp only[Sem.runT]
   split
   ·exact .self rfl
   ·exact(ih _ _).push zs (.obj (by simpa using (Array.getElem?_eq_some_iff.1 ‹_›).1))
   ·exact .self rfl
 | choose q k ih=>
   intro w es
   simp only[Sem.runT]
   split
   ·exact ih _ w es
   ·exact(ih _ {w with drawn:=w.drawn+1 } es).mk' (Nat.le_refl _) fun e he=>.inl he
 | sys c k ih=>
   intro w es
   exact(ih _ (w.sys c).2 _).push (by rw[xA];exact Nat.le_refl _) .output
 | program k ih=>exact fun w es=>ih P w es
 | mark m k ih=>exact fun w es=>(ih w _).push (Nat.le_refl _) .mark
 | halt h=>exact fun w es=>.self rfl
def uE(w:World):GStep→Prop
 | .go g w' es=>g.dying=none→w.heap.size≤w'.heap.size∧∀e∈es,jS w'.heap.size e
 | .comm _ _ _ _ w' es=>w.heap.size≤w'.heap.size∧∀e∈es,jS w'.heap.size e
 | _=>True
theorem bT{g:Goroutine}{w:World}:uE w (.go g w):=fun _=>⟨Nat.le_refl _,fun e he=>by simp at he⟩
theorem Vo{g:Goroutine}{w w':World}(h:w'.heap=w.heap):uE w (.go g w'):=fun _=>⟨by rw[h];exact Nat.le_refl _,fun e he=>by simp at he⟩
theorem Fg{g:Goroutine}{w:World}{c:Array CommCase}{b:Bool}{sh:CommShape}:uE w (.comm g c b sh w):=⟨Nat.le_refl _,fun e he=>by simp at he⟩
theorem uE.after{w w1:World}{es:Array Event}{st:GStep}(h1:w.heap.size≤w1.heap.size)(h2:∀e∈es,jS w1.heap.size e)(h:uE w1 st):uE w (st.after es):=by
 have both:∀ {w2:World} {es2:Array Event},(w1.heap.size≤w2.heap.size∧∀e∈es2,jS w2.heap.size e)→w.heap.size≤w2.heap.size∧∀e∈es ++ es2,jS w2.heap.size e:=fun⟨a,b⟩=>
  ⟨Nat.le_trans h1 a,fun e he=>(Array.mem_append.1 he).elim (fun h0=>(h2 e h0).le a) (b e)⟩
 cases st with
 | go g w2 es2=>exact fun hd=>both (h hd)
 | comm g c b sh w2 es2=>exact both h
 | _=>trivial
theorem Ar{fr:Frame}{m:String}{w:World}:uE w (endThrow fr m w):=fun h=>by cases h
theorem Dc{α:Type}{s:Sem α}{w:World}{fn:FuncId}{f:Result α→GStep}(h:∀r,uE (pZ r) (f r)):uE w (GStep.after (seen P fn (s.runT P w #[]).2) (f (s.runT P w #[]).1)):=by
 have hr:=DF (P:=P) s w #[]
 generalize s.runT P w #[]=x at hr
 obtain⟨r,es⟩:=x
 exact uE.after hr.1 (fun e he=>(hr.2 e (fC he)).elim (fun h0=>by simp at h0) id) (h r)
theorem lX(S:jT P F Z){fr:Frame}(hk:fr.kind=.normal)(hf:F fr.fn){cs:List Frame}{v:Value}{w:World}:uE w (doReturn P true fr cs none v w):=by
 cases cs with
 | cons c cs=>simp only[doReturn,hk];exact bT
 | nil=>simp only[doReturn,hk,S.inits _ hf];exact trivial
theorem wm(S:jT P F Z){fr:Frame}(hfr:Fr P F fr){cs:List Frame}{w:World}:uE w (unwind P true fr cs none w):=by
 obtain⟨fn,tmps,todo,defers,mode,kind,roundOf⟩:=fr
 cases defers with
 | cons d ds=>
   obtain⟨c,hc⟩:=hfr.defers d zs
   obtain⟨t,args⟩:=d
   simp only at hc
   subst hc
   simp only[unwind]
   refine Dc (s:=Instr.takeDeferred c) (f:=fun r=>match r with
    | .ok calls w=>.go {frame:={fn,tmps,todo,defers:=calls ++ ds,mode,kind,roundOf },callers:=cs,status:=.running,dying:=none } w
    | .halt _ w=>.ended (.stuck "the deferred calls of a range-over-func loop have been taken" (Frame.pos P _)) w) fun r=>?_
   cases r with
   | ok v w1=>exact bT
   | halt e w1=>trivial
 | nil=>
   cases mode with
   | run=>simp only[unwind];trivial
   | returning=>
     unfold unwind
     dsimp only
     split
     ·exact lX S hfr.kind hfr.fn
     ·rename_i f2 _
      refine Dc (fn:=fn) (s:=results f2 tmps) (f:=fun r=>match r with
       | .ok v w=>doReturn P true _ cs none v w
       | .halt (.stuck s) w=>.ended (.stuck s (Frame.pos P _)) w
       | .halt _ w=>.ended (.stuck sQ7 (Frame.pos P _)) w) fun r=>?_
      cases r with
      | ok v w1=>exact lX S hfr.kind hfr.fn
      | halt e w1=>cases e <;> trivial
   | panicking chain=>
     unfold unwind
     dsimp only
     split
     ·trivial
     ·cases cs with
      | cons c cs=>exact bT
      | nil=>
        dsimp only
        split
        ·exact bT
        ·split
         ·exact fun h=>by cases h
         ·trivial
         ·trivial
theorem jy(S:jT P F Z){fr:Frame}(hk:fr.kind=.normal){cs:List Frame}{s:Sem Next}{w:World}:uE w (stepG.apply P true fr cs none s w):=by
 have hek:(fr.kind == CallKind.early)=false:=by rw[hk];rfl
 have hr:=DF (P:=P) s w #[]
 unfold stepG.apply
 simp only[if_true,hek]
 generalize s.runT P w #[]=x at hr
 obtain⟨r,es⟩:=x
 have ev:∀es':Array Event,(∀e∈es',e∈es)→∀e∈seen P fr.fn es',jS (pZ r).heap.size e:=fun es' h e he=>(hr.2 e (h e (fC he))).elim (fun h0=>by simp at h0) id
 cases r with
 | ok nx w1=>
   refine uE.after hr.1 (ev _ fun e he=>by simpa using he) ?_
   cases nx <;> dsimp only <;> first|exact bT|exact Fg|exact trivial|skip
   all_goals (repeat' split)
   all_goals first|exact bT|exact Fg|exact trivial|exact Ar
 | halt h w1=>
   cases h with
   | unsupported u=>
     cases u <;> first|(refine uE.after hr.1 (ev _ fun e he=>by first|exact he|simp at he) ?_;exact trivial)|skip
     refine uE.after hr.1 (ev _ fun e he=>by first|exact he|simp at he) ?_
     obtain⟨o,w2,es2,e1,_⟩:=tL S fr cs _ w1
     show uE w1 (early P fr cs none _ w1)
     rw[e1];trivial
   | fatal m=>
     refine uE.after hr.1 (ev _ fun e he=>by first|exact he|simp at he) ?_
     show uE w1 (endFatal P fr cs none m w1)
     unfold endFatal
     dsimp only
     repeat' split
     all_goals first|trivial|exact fun h=>by cases h
   | _=>exact uE.after hr.1 (ev _ fun e he=>by first|exact he|simp at he) (by first|exact bT|exact Ar|trivial)
theorem EL{q:Question}{w w1:World}{t:Nat}(h:(choose q).run P w=.ok t w1):w1.heap=w.heap:=by
 simp only[choose,Sem.run] at h
 split at h <;> (cases h;rfl)
theorem QT(S:jT P F Z){fr:Frame}(hfr:Fr P F fr){cs:List Frame}{w:World}:uE w (stepG.exec P true true fr cs none w):=by
 have leave:∀jump:Option Code,uE w (match fr.roundOf with
  | none=>if jump matches none|some .ret then .go {frame:={fr with mode:=.returning },callers:=cs,status:=.running,dying:=none } w else .ended (.stuck pc (fr.pos P)) w
  | some l=>
    let (r,es):=(Instr.endRound l jump).runT P w #[]
    GStep.after (seen P fr.fn es) <| match r with
    | .ok v w=>doReturn P true fr cs none v w
    | .halt _ w=>.ended (.stuck YI (fr.pos P)) w):=fun jump=>by
  obtain⟨fn,tmps,todo,defers,mode,kind,roundOf⟩:=fr
  cases roundOf with
  | none=>
    cases jump with
    | none=>exact bT
    | some c=>cases c <;> first|exact bT|exact trivial
  | some l=>
    refine Dc (s:=Instr.endRound l jump) (f:=fun r=>match r with
     | .ok v w=>doReturn P true _ cs none v w
     | .halt _ w=>.ended (.stuck YI (Frame.pos P _)) w) fun r=>?_
    cases r with
    | ok v w1=>exact lX S hfr.kind hfr.fn
    | halt e w1=>exact trivial
 obtain⟨fn,tmps,todo,defers,mode,kind,roundOf⟩:=fr
 have hk0:kind=.normal:=hfr.kind
 unfold stepG.exec
 cases todo with
 | nil=>exact leave none
 | cons i k=>
   cases i with
   | code c=>
     cases c with
     | skip=>exact bT
     | label l=>exact bT
     | ret=>exact leave (some .ret)
     | seq a b=>exact bT
     | cond x a b=>
       dsimp only
       generalize Frame.eval _ x=v
       cases v with
       | bool t=>exact bT
       | _=>exact trivial
     | block id b=>exact bT
     | loop b=>exact bT
     | scope b=>exact bT
     | exit id=>
       have:=leave (some (.exit id))
       dsimp only at this⊢
       cases he:exitTo id k with
       | none=>exact this
       | some k'=>exact bT
     | goto l=>
       have:=leave (some (.goto l))
       dsimp only at this⊢
       cases he:gotoIn l k with
       | none=>exact this
       | some k'=>exact bT
     | region id ops draw=>
       cases draw with
       | false=>exact bT
       | true=>
         dsimp only
         cases hr:(choose (.order fn id)).run P w with
         | ok t w1=>exact Vo (EL hr)
         | halt e w1=>exact trivial
     | rangeFunc f params assign body=>
       have hr:=DF (P:=P) (Instr.enterLoop fn tmps params assign body roundOf) w #[]
       dsimp only
       generalize (Instr.enterLoop fn tmps params assign body roundOf).runT P w #[]=x at hr
       obtain⟨r,es⟩:=x
       refine uE.after hr.1 (fun e he=>(hr.2 e (fC he)).elim (fun h0=>by simp at h0) id) ?_
       cases r with
       | ok x w1=>exact jy S hk0
       | halt e w1=>exact trivial
     | refuse y=>exact trivial
   | inBlock id=>exact bT
   | inScope b=>exact bT
   | inLoop b=>exact bT
   | inRegion ops l=>
     cases l with
     | nil=>exact bT
     | cons j l=>
       dsimp only
       split
       ·unfold stepG.oper
        split
        ·exact trivial
        ·dsimp only
         split
         ·exact jy S hk0
         ·exact jy S hk0
       ·exact bT
   | inRangeFunc l=>exact trivial
   | beginRound=>exact jy S hk0
   | endRangeFunc l=>
     have hr:=DF (P:=P) (Instr.endLoop l) w #[]
     dsimp only
     generalize (Instr.endLoop l).runT P w #[]=x at hr
     obtain⟨r,es⟩:=x
     refine uE.after hr.1 (fun e he=>(hr.2 e (fC he)).elim (fun h0=>by simp at h0) id) ?_
     cases r with
     | ok x w1=>exact bT
     | halt e w1=>cases e <;> first|exact bT|exact trivial
   | call x b c e=>exact jy S hk0
   | _=>
     rename_i row args
     dsimp only
     cases Extern.next row with
     | none=>exact trivial
     | some x=>exact jy S hk0
theorem LM(S:jT P F Z){fr:Frame}(hfr:Fr P F fr){cs:List Frame}{w:World}:uE w (stepG P true (G fr cs) w):=by
 cases hm:fr.mode with
 | run=>simp only[stepG,G,hm];exact QT S hfr
 | returning=>simp only[stepG,G,hm];exact wm S hfr
 | panicking c=>simp only[stepG,G,hm];exact wm S hfr
def Ag(n:Nat)(l:Loc):Prop:=(∀a,l=.cell a→a.block<n)∧∀r,l=.obj r→r<n
def gV(t:Trace)(n:Nat):Prop:=∀op∈t,op.g=0∧(op.act≠.mark .disable∧op.act≠.mark .enable)∧(∀a,op.act≠.mark (.release a))∧∀x,op.act.touch?=some x→Ag n x.loc
theorem gV.nil(n:Nat):gV #[] n:=fun op h=>by simp at h
theorem Ag.le{n m:Nat}{l:Loc}(h:Ag n l)(k:n≤m):Ag m l:=⟨fun a e=>Nat.lt_of_lt_of_le (h.1 a e) k,fun r e=>Nat.lt_of_lt_of_le (h.2 r e) k⟩
theorem gV.app{t u:Trace}{n m:Nat}(h:gV t n)(k:n≤m)(hu:gV u m):gV (t ++ u) m:=fun op hop=>(Array.mem_append.1 hop).elim (fun h0=>let ⟨a,b,c,d⟩:=h op h0;⟨a,b,c,fun x hx=>(d x hx).le k⟩) (hu op)
theorem lQ{n:Nat}{fn:FuncId}{pos:String}{es:Array Event}(hok:∀e∈es,En Z e)(h:∀e∈es,jS n e):∀op∈MemOp.ofEvents 0 fn pos es,∀x,op.act.touch?=some x→Ag n x.loc:=fun op hop x hx=>by
 obtain⟨e,he,rfl⟩:=Go.Conc.mem_ofEvents hop
 have h1:=h e he
 obtain⟨loc,wr,sy⟩:=e
 rcases hok _ he with(h2|h2)|⟨a,h2,hz⟩|⟨r,h2,hz⟩
 ·simp only at h2;subst h2;cases hx
 ·simp only at h2;subst h2
  simp only[MemAct.ofEvent,MemAct.touch?,Option.some.injEq] at hx
  subst hx
  exact h1
 ·simp only at h2;subst h2
  simp only[MemAct.ofEvent,MemAct.touch?,Option.some.injEq] at hx
  subst hx
  exact h1
 ·simp only at h2;subst h2
  cases wr <;> cases sy <;> simp only[MemAct.ofEvent,MemAct.touch?,Option.some.injEq] at hx <;> first|cases hx;done|(subst hx;exact h1)
theorem ru{n:Nat}{u:Trace}(h:∀op∈u,UE Z op)(h2:∀op∈u,∀x,op.act.touch?=some x→Ag n x.loc):gV u n:=fun op hop=>let ⟨a,b,_,d⟩:=h op hop;⟨a,b,d,h2 op hop⟩
theorem Nr{Fc:Fence}(S:jT P Fc.fn Z){I:Machine→Prop}(hI:∀m,I m→m.fenced P Fc)(hal:Fc.alive=true){a:Pt}(ok:a.Ok P Fc.fn Z){m1:Machine}{fr':Frame}{cs':List Frame}{v':World}(hI0:I a.m)(hs:step P a.m=.next m1)
 (hp:StepsIn I P m1 (solo (G fr' cs') v')):∃ (b:Pt) (ops:Trace),m1=b.m∧b.Ok P Fc.fn Z∧stepT P a.m=(.next b.m,ops)∧a.w.heap.size≤b.w.heap.size∧gV ops b.w.heap.size:=by
 have hsl:=xw S ok.fr ok.cs ok.lv (fun f hf=>(hI _ hI0 (G a.fr a.cs) (by simp[Pt.m,solo])).2.2.1 f hf)
 have hin:=LM S ok.fr (cs:=a.cs) (w:=a.w)
 have hT:stepT P a.m=runT P (solo (G a.fr a.cs) a.w) 0:=by rw[Pt.m,stepT_solo rfl]
 rw[step,hT] at hs
 unfold SL at hsl
 dsimp only at hsl
 cases hgw:stepG P true (G a.fr a.cs) a.w with
 | go g' w' es=>
   rw[hgw] at hsl hin
   rw[runT_solo_go hgw] at hs hT
   cases hs
   rcases hsl with hd|⟨⟨Pb,cs2,rfl,h1,h2⟩,n,M⟩
   ·exact(jq hI hal hd hp).elim
   have hin':=hin rfl
   exact⟨⟨Pb,cs2,w'⟩,_,rfl,⟨h1,h2,M.2.2.1⟩,hT,hin'.1,ru (jL M.2.2.2.1) (lQ M.2.2.2.1 hin'.2)⟩
 | comm g' cases b sh w' es=>
   rw[hgw] at hsl hin
   obtain⟨⟨Pb,cs2,rfl,h1,h2⟩,⟨rfl,⟨ch,send,z⟩,R7,rfl,hsend,rfl⟩,n,M⟩:=hsl
   simp only at hsend
   subst hsend
   have ho1:kI #[G a.fr a.cs]:=fun i g hi hg=>by
    rw[Array.getElem?_eq_none zm] at hg;cases hg
   rw[solo_eq_crowd] at hs hT
   rcases qo (P:=P) (gs:=#[G a.fr a.cs]) (sl:=none) rfl ho1 hgw with⟨o,w2,e⟩|⟨g',ops,hg',e⟩|⟨r,cap,buf,closed,s,q,tm,rfl,hc,hb⟩
   ·rw[e] at hs;cases hs
   ·rw[e] at hs
    cases hs
    exact(jq (g:=g') hI hal (.inr (.inl hg')) hp).elim
   ·have hnz:¬ Z r:=fun hz=>by
     have:=M.2.2.1.dead r hz
     rw[this] at hc
     simp[X0] at hc
    obtain⟨ops,hops,e⟩:=sQ (P:=P) (gs:=#[G a.fr a.cs]) (sl:=none) rfl ho1 hgw hc hb
    rw[e] at hs hT
    simp only[Stepped.next.injEq] at hs
    have hsz:w'.heap.size≤(lF w' r cap buf closed s q tm).heap.size:=by
     unfold lF
     split <;> simp[World.setChan]
    refine⟨⟨Pb.finish (JH R7 z buf),cs2,lF w' r cap buf closed s q tm⟩,_,hs.symm,⟨h1.finish _,h2,Dz M.2.2.1 hnz⟩,hT,Nat.le_trans hin.1 hsz,gV.app (ru (jL M.2.2.2.1) (lQ M.2.2.2.1 hin.2)) hsz fun op hop=>?_⟩
    obtain⟨k1,k2,k3⟩:=hops op hop
    exact⟨k1,⟨k3 _,k3 _⟩,fun a=>k3 _,fun x hx=>(by rw[k2] at hx;cases hx)⟩
 | ended o w' es=>
   rw[aT hgw] at hs
   cases hs
 | spawn g' child w' es=>
   exfalso
   have h1:=qw (P:=P) hp
   rw[runT_solo_spawn hgw] at hs
   cases hs
   simp[solo,duo] at h1
 | _=>rw[hgw] at hsl;exact hsl.elim
end
end Go.dK
