/- Par13 Par14 Par13b Par15 Par16 Par17 Par17b Par18 Par19 Par20 Par21 Par22 Par23 Par24 -/
import Derived.Test.YtpmafoalhnaokaaGreatA6
import Derived.Conc.Own4
import Derived.Conc.Listed
import Derived.Conc.Fork
import Derived.CallsIn
import Derived.Conc.CrowdTrace
import Derived.Conc.Crowd
set_option maxRecDepth 100000
set_option maxHeartbeats 16000000
set_option linter.unusedVariables false
set_option linter.unusedSectionVars false
set_option linter.unusedSimpArgs false
namespace Go.cu
section
variable[Inhabited aV]
open Go.Conc
variable{P:Program}{ρ:Ren}
def qI:Operand→Prop
 | .const v=>∀ρ,VR ρ v v
 | .global _=>False
 | _=>True
def qH(P:Program)(o:Oper):Prop:=(∀x∈o.op.operands,qI x)∧
 match o.op with
 | .move _| .assign _| .pick _ _ _| .box _ _| .load _ _| .store _ _ _| .slice _ _ _ _ _| .fieldAddr _ _ _| .field _ _ _| .indexAddr _ _ _| .index _ _ _| .extract _ _| .makeInterface _ _| .panic _=>True
 | .alloc t| .build t _=>OV P t
 | .buildSlice t _ _=>∀e,P.underlying t=some (.slice e)→OV P e
 | .convert s d _=>RZ P s d
 | .binOp op t _ _ _=>bI op=true∨Ej P t
 | .unOp op _ _=>op=.not
 | .makeFunc fn _ _=>∃g,fn=.func g
 | .call c=>match c.callee with
   | .builtin b=>(b=.len∧c.args.size=1)∨b=.min∨(b=.append∧c.args.size=2∧Xp P c.argTypes)
   | .value f=>True
   | .invoke _ _=>False
 | _=>False
def gU(P:Program):Code→Prop
 | .skip| .exit _| .ret| .label _| .refuse _=>True
 | .region _ ops _=>∀o∈ops,qH P o
 | .seq a b=>gU P a∧gU P b
 | .cond c a b=>qI c∧gU P a∧gU P b
 | .block _ b| .loop b| .scope b=>gU P b
 | .rangeFunc f _ a b=>qI f∧gU P a∧gU P b
 | .goto _=>False
def kW(P:Program):Item→Prop
 | .code c| .inLoop c| .inScope c=>gU P c
 | .inBlock _| .inRangeFunc _| .endRangeFunc _| .beginRound=>True
 | .inRegion ops _=>∀o∈ops,qH P o
 | _=>False
structure gP(P:Program)(F:FuncId→Prop):Prop where
 sv:∀g,F g→∃f c,P.funcs[g]? =some f∧f.body=some c∧(f.name == "runtime.NumGoroutine")=false∧gU P c
 env:∀f c,jw f c↔F f∧gU P c
structure jP(P:Program)(F:FuncId→Prop)(fr:Frame):Prop where
 fn:F fr.fn
 todo:∀i∈fr.todo,kW P i
 defers:∃x:List Nat,fr.defers=x.map jv
 mode:fr.mode=.run∨fr.mode=.returning
 kind:fr.kind=.normal
def lu(fr:Frame)(L:List Frame)(jump:Option Code):Sem (Frame × List Frame):=
 match fr.roundOf with
 | none=>match jump with
   | none|some .ret=>pure ({fr with mode:=.returning },L)
   | _=>stuck CE
 | some l=>match L with
   | c :: rest=>do
     let v ← Instr.endRound l jump
     pure (c.finish v,rest)
   | []=>stuck "a round without a caller"
def qh(v:Value)(a:Array Value):Sem Next:=do
 let d ← Deferred.ofValue v a
 invoke d.target d.args
def vH(P:Program)(fr:Frame)(L:List Frame):Next→Sem (Frame × List Frame)
 | .value v=>pure (fr.finish v,L)
 | .skip=>pure (fr.finish undef,L)
 | .enter f args=>pure (Frame.enter P f args .normal,fr :: L)
 | .round l g t a b=>pure (Frame.round l g t a b .normal,fr :: L)
 | _=>stuck "another end of an operation"
def vC(P:Program)(fr:Frame)(L:List Frame):Next→Sem (Frame × List Frame)
 | .enter f args=>pure (Frame.enter P f args .normal,fr :: L)
 | .round l g t a b=>pure (Frame.round l g t a b .normal,fr :: L)
 | _=>stuck X'
def sG:Op→Bool
 | .panic _=>true
 | _=>false
def gu(P:Program)(fr:Frame)(L:List Frame):Sem (Frame × List Frame):=
 match fr.mode with
 | .panicking _=>stuck "panicking"
 | .returning=>
   match fr.defers with
   | {target:=.collected r,.. } :: ds=>do
     let calls ← Instr.takeDeferred r
     pure ({fr with defers:=calls ++ ds },L)
   | _ :: _=>stuck "a deferred call"
   | []=>
     match P.funcs[fr.fn]?,L with
     | some fn,c :: rest=>do
       let v ← results fn fr.tmps
       pure (c.finish v,rest)
     | _,_=>stuck "the last return"
 | .run=>
   match fr.todo with
   | []=>lu fr L none
   | .code .ret :: _=>lu fr L (some .ret)
   | .code .skip :: k| .code (.label _) :: k| .inBlock _ :: k| .inScope _ :: k=>pure ({fr with todo:=k },L)
   | .code (.seq a b) :: k=>pure ({fr with todo:=.code a :: .code b :: k },L)
   | .code (.cond c thn els) :: k=>
     match fr.eval c with
     | .bool b=>pure ({fr with todo:=.code (if b then thn else els) :: k },L)
     | _=>stuck Ys
   | .code (.block id body) :: k=>pure ({fr with todo:=.code body :: .inBlock id :: k },L)
   | .code (.loop body) :: k| .inLoop body :: k=>pure ({fr with todo:=.code body :: .inLoop body :: k },L)
   | .code (.scope body) :: k=>pure ({fr with todo:=.code body :: .inScope body :: k },L)
   | .code (.exit id) :: k=>
     match exitTo id k with
     | some k'=>pure ({fr with todo:=k' },L)
     | none=>lu fr L (some (.exit id))
   | .code (.rangeFunc f params assign body) :: k=>do
     let e ← Instr.enterLoop fr.fn fr.tmps params assign body fr.roundOf
     let n ← qh (fr.eval f) #[.func (.yield e.1) #[] #[]]
     vC P {fr with todo:=.inRangeFunc e.1 :: k,defers:=e.2 ++ fr.defers } L n
   | .beginRound :: _=>
     match fr.roundOf with
     | none=>stuck rv
     | some l=>do
       Instr.beginRound l
       pure (fr.finish undef,L)
   | .endRangeFunc l :: k=>do
     let jump ← Instr.endLoop l
     pure ({fr with todo:=(jump.map Item.code).toList ++ k },L)
   | .code (.region id ops draw) :: k=>
     if !draw then pure ({fr with todo:=.inRegion ops (List.range ops.size) :: k },L)
     else do
      let t ← choose (.order fr.fn id)
      pure ({fr with todo:=.inRegion ops (Region.schedule (P.follows .mixedOrders) ops t) :: k },L)
   | .inRegion _ [] :: k=>pure ({fr with todo:=k },L)
   | .inRegion ops (i :: _) :: _=>
     if ((ops[i]?).map (Region.wanted · (yielded ops fr.tmps))).getD false then
      match ops[i]? with
      | none=>stuck "no operation here"
      | some o=>
        if sG o.op then stuck "a panic" else do
         let n ← execOp fr.eval o
         vH P fr L n
     else pure (fr.finish undef,L)
   | _=>stuck "not served"
theorem Mh{α:Type}(s:Sem α):∀ (w:World) (es:Array Event),s.runT P w es=((s.runT P w #[]).1,es ++ (s.runT P w #[]).2):=by
 have push:∀ (es:Array Event) (e:Event) (x:Array Event),es.push e ++ x=es ++ (#[].push e ++ x):=fun es e x=>by
  rw[Array.push_eq_append,Array.append_assoc];rfl
 induction s with
 | pure a=>intro w es;simp[Sem.runT,-Sem.runT_eq]
 | load m a k ih=>
   intro w es
   simp only[Sem.runT]
   cases w.cell? a with
   | some v=>
     simp only
     rw[ih v w (es.push _),ih v w (#[].push _)]
     dsimp only;rw[push]
   | none=>
     simp only
     cases w.farLoad P a (m == .atomic) with
     | ok r=>
       obtain⟨v,touched⟩:=r
       simp only
       rw[ih v w (es ++ _),ih v w (#[] ++ _)]
       simp[Array.append_assoc,-Sem.runT_eq]
     | error h=>simp
 | store m a v k ih=>
   intro w es
   have key:∀v:Value,(∀c,v≠.agg c)→(∀c,v≠.tuple c)→(Sem.store m a v k).runT P w es=(((Sem.store m a v k).runT P w #[]).1,es ++ ((Sem.store m a v k).runT P w #[]).2):=by
    intro v h1 h2
    have e:∀es:Array Event,(Sem.store m a v k).runT P w es=match w.cell? a with
     | some _=>
       if w.frozen? a then(.halt (.unsupported (.unsafePointer "a write to bytes that a string shares")) w,es)
       else k.runT P (w.setCell a v) (es.push ⟨.cell a,true,m == .atomic⟩)
     | none=>match w.farStore P a v (m == .atomic) with
       | .ok (w,touched)=>k.runT P w (es ++ touched.toArray.map (⟨.cell ·,true,m == .atomic⟩))
       | .error h=>(.halt h w,es):=by
     intro es
     cases v <;> first|rfl|exact absurd rfl (h1 _)|exact absurd rfl (h2 _)
    rw[e,e]
    cases w.cell? a with
    | some v0=>
      simp only
      split
      ·simp
      ·rw[ih _ (es.push _),ih _ (#[].push _)]
       dsimp only;rw[push]
    | none=>
      simp only
      cases w.farStore P a v (m == .atomic) with
      | ok r=>
        obtain⟨w1,touched⟩:=r
        simp only
        rw[ih w1 (es ++ _),ih w1 (#[] ++ _)]
        simp[Array.append_assoc,-Sem.runT_eq]
      | error h=>simp
   by_cases h1:∀c,v≠.agg c
   ·by_cases h2:∀c,v≠.tuple c
    ·exact key v h1 h2
    ·simp only[ne_eq,Classical.not_forall,Classical.not_not] at h2
     obtain⟨c,rfl⟩:=h2
     simp[Sem.runT,-Sem.runT_eq]
   ·simp only[ne_eq,Classical.not_forall,Classical.not_not] at h1
    obtain⟨c,rfl⟩:=h1
    simp[Sem.runT,-Sem.runT_eq]
 | new o k ih=>intro w es;simp only[Sem.runT];exact ih _ _ _
 | shape r k ih=>intro w es;simp only[Sem.runT];exact ih _ _ _
 | freeze a n k ih=>intro w es;simp only[Sem.runT];exact ih _ _
 | frozen a k ih=>intro w es;simp only[Sem.runT];exact ih _ _ _
 | getObj r k ih=>
   intro w es
   simp only[Sem.runT]
   cases w.heap[r]? with
   | none=>simp
   | some o=>
     cases o <;> first
      | (simp;done)
      | (simp only
         rw[ih _ w (es.push _),ih _ w (#[].push _)]
         dsimp only;rw[push])
 | setObj r o k ih=>
   intro w es
   simp only[Sem.runT]
   cases w.heap[r]? with
   | none=>simp
   | some o'=>
     cases o' <;> first
      | (simp;done)
      | (simp only
         rw[ih _ (es.push _),ih _ (#[].push _)]
         dsimp only;rw[push])
 | choose q k ih=>
   intro w es
   simp only[Sem.runT]
   split
   ·exact ih _ _ _
   ·exact ih _ _ _
 | sys c k ih=>
   intro w es
   simp only[Sem.runT]
   rw[ih _ _ (es.push _),ih _ _ (#[].push _)]
   dsimp only;rw[push]
 | program k ih=>intro w es;simp only[Sem.runT];exact ih _ _ _
 | mark m k ih=>
   intro w es
   simp only[Sem.runT]
   rw[ih _ (es.push _),ih _ (#[].push _)]
   dsimp only;rw[push]
 | halt h=>intro w es;simp[Sem.runT,-Sem.runT_eq]
end
section
variable[Inhabited aV]
variable{P:Program}{ρ:Ren}
def on(w:World)(τ:Tape):World:={w with tape:=τ }
@[simp] theorem ID(w:World)(τ:Tape):(on w τ).heap=w.heap:=rfl
@[simp] theorem Vo(w:World)(τ:Tape):(on w τ).drawn=w.drawn:=rfl
@[simp] theorem YX(w:World)(τ:Tape):(on w τ).tape=τ:=rfl
def Lc{α:Type}(P:Program)(s:Sem α)(w:World):Prop:=
 (∀h w1,s.run P w=.halt h w1→um h)∧
 ∀a w1,s.run P w=.ok a w1→w1.tape=w.tape∧w.drawn≤w1.drawn∧∀τ:Tape,(∀j,w.drawn≤j→j<w1.drawn→τ j=w.tape j)→s.run P (on w τ)=.ok a (on w1 τ)
theorem Lc.of{α:Type}{s k:Sem α}{w w2:World}(h:Lc P k w2)(hr:s.run P w=k.run P w2)(ht:w2.tape=w.tape)(hd:w.drawn≤w2.drawn)
 (hs:∀τ:Tape,(∀j,w.drawn≤j→j<w2.drawn→τ j=w.tape j)→s.run P (on w τ)=k.run P (on w2 τ)):Lc P s w:=by
 refine⟨fun e w1 e1=>h.1 e w1 (hr ▸ e1),fun a w1 e1=>?_⟩
 obtain⟨h1,h2,h3⟩:=h.2 a w1 (hr ▸ e1)
 refine⟨h1.trans ht,Nat.le_trans hd h2,fun τ hτ=>?_⟩
 rw[hs τ fun j a b=>hτ j a (Nat.lt_of_lt_of_le b h2)]
 exact h3 τ fun j a b=>by rw[ht];exact hτ j (Nat.le_trans hd a) b
theorem Lc.halt{α:Type}{s:Sem α}{w:World}{e:Halt}{v:World}(hr:s.run P w=.halt e v)(he:um e):Lc P s w:=
 ⟨fun h w1 h1=>by rw[hr] at h1;cases h1;exact he,fun a w1 h1=>by rw[hr] at h1;cases h1⟩
theorem Vh{w w':World}(h:WR ρ w w'){a:Addr}{b':Nat}(ha:ρ a.block=some b')(at_:Bool):∃e,w.farLoad P a at_=.error e∧um e:=by
 obtain⟨o,o',h1,h2,ho⟩:=h.obj _ _ ha
 cases ho <;> exact⟨_,by simp only[World.farLoad,h1];rfl,by simp only[World.noCell,h1];trivial⟩
theorem Oe{w w':World}(h:WR ρ w w'){a:Addr}{b':Nat}(ha:ρ a.block=some b')(v:Value)(at_:Bool):∃e,w.farStore P a v at_=.error e∧um e:=by
 obtain⟨o,o',h1,h2,ho⟩:=h.obj _ _ ha
 cases ho <;> exact⟨_,by simp only[World.farStore,h1];rfl,by simp only[World.noCell,h1];trivial⟩
theorem SR.lc{α β:Type}{Q:Ren→α→β→Prop}{s:Sem α}:∀ {ρ:Ren} {s':Sem β} {w w':World},SR P Q ρ s s'→WR ρ w w'→Lc P s w:=by
 induction s with
 | pure a=>
   rintro ρ s' w w' h hw
   refine⟨fun h w1 e=>by simp[Sem.run] at e,fun b w1 e=>?_⟩
   simp only[Sem.run,Result.ok.injEq] at e
   obtain⟨rfl,rfl⟩:=e
   exact⟨rfl,zL,fun τ _=>rfl⟩
 | load m a k ih=>
   rintro ρ s' w w' ⟨a',k',rfl,rfl,ha,hk⟩ hw
   cases hv:w.cell? a with
   | none=>
     obtain⟨e,he,ht⟩:=Vh (P:=P) hw ha.1 (a:=a) (Mode.plain == Mode.atomic)
     exact .halt (by simp only[Sem.run,hv,he];rfl) (by exact ht)
   | some v=>
     obtain⟨v',hv',An⟩:=rV hw ha hv
     refine(ih v (hk ρ (.refl hw.inj) v v' An) hw).of (by simp only[Sem.run,hv]) rfl zL fun τ _=>?_
     have:(on w τ).cell? a=some v:=hv
     simp only[Sem.run,this]
 | store m a v k ih=>
   rintro ρ s' w w' ⟨a',v',k',rfl,rfl,ha,hv,hk⟩ hw
   by_cases h1:∀c,v≠.agg c
   ·by_cases h2:∀c,v≠.tuple c
    ·cases hx:w.cell? a with
     | none=>
       obtain⟨e,he,ht⟩:=Oe (P:=P) hw ha.1 (a:=a) v (Mode.plain == Mode.atomic)
       exact .halt (by rw[run_store h1 h2];simp only[hx,he];rfl) (by exact ht)
     | some x0=>
       cases hf:w.frozen? a with
       | true=>exact .halt (by rw[run_store h1 h2];simp only[hx,hf,if_true];rfl) (by trivial)
       | false=>
         refine(ih hk (hw.setCell ha hv)).of (by rw[run_store h1 h2];simp only[hx,hf,Bool.false_eq_true,if_false]) rfl zL fun τ _=>?_
         have e1:(on w τ).cell? a=some x0:=hx
         have e2:(on w τ).frozen? a=false:=hf
         rw[run_store h1 h2]
         simp only[e1,e2,Bool.false_eq_true,if_false]
         rfl
    ·simp only[ne_eq,Classical.not_forall,Classical.not_not] at h2
     obtain⟨c,rfl⟩:=h2
     exact .halt (by simp only[Sem.run];rfl) (by trivial)
   ·simp only[ne_eq,Classical.not_forall,Classical.not_not] at h1
    obtain⟨c,rfl⟩:=h1
    exact .halt (by simp only[Sem.run];rfl) (by trivial)
 | new o k ih=>
   rintro ρ s' w w' ⟨o',k',rfl,ho,hk⟩ hw
   obtain⟨le,hw2⟩:=hw.new ho
   exact(ih w.heap.size (hk _ ⟨le,hw2.inj⟩ w.heap.size w'.heap.size (by simp[Ren.put])) hw2).of (by simp only[Sem.run]) rfl zL fun τ _=>by simp only[Sem.run];rfl
 | shape r k ih=>
   rintro ρ s' w w' ⟨r',k',rfl,e,hk⟩ hw
   exact(ih (w.shape? r) (hk _) hw).of (by simp only[Sem.run]) rfl zL fun τ _=>by simp only[Sem.run];rfl
 | getObj r k ih=>
   rintro ρ s' w w' ⟨r',k',rfl,e,hk⟩ hw
   obtain⟨o,o',h1,h2,ho⟩:=hw.obj _ _ e
   have h1':∀τ,(on w τ).heap[r]? =some o:=fun _=>h1
   cases ho with
   | cells e1 hc1 hf1=>exact .halt (by simp only[Sem.run,h1];rfl) (by trivial)
   | map c hm=>exact(ih _ (hk ρ (.refl hw.inj) _ _ (.map c hm)) hw).of (by simp only[Sem.run,h1]) rfl zL fun τ _=>by simp only[Sem.run,h1' τ]
   | number c hm=>exact(ih _ (hk ρ (.refl hw.inj) _ _ (.number c hm)) hw).of (by simp only[Sem.run,h1]) rfl zL fun τ _=>by simp only[Sem.run,h1' τ]
   | loop hm=>exact(ih _ (hk ρ (.refl hw.inj) _ _ (.loop hm)) hw).of (by simp only[Sem.run,h1]) rfl zL fun τ _=>by simp only[Sem.run,h1' τ]
   | defs hm=>exact(ih _ (hk ρ (.refl hw.inj) _ _ (.defs hm)) hw).of (by simp only[Sem.run,h1]) rfl zL fun τ _=>by simp only[Sem.run,h1' τ]
 | setObj r o k ih=>
   rintro ρ s' w w' ⟨r',o',k',rfl,e,ho,hk⟩ hw
   obtain⟨p,p',h1,h2,hp⟩:=hw.obj _ _ e
   have h1':∀τ,(on w τ).heap[r]? =some p:=fun _=>h1
   cases hp with
   | cells e1 hc1 hf1=>exact .halt (by simp only[Sem.run,h1];rfl) (by trivial)
   | map c hm=>exact(ih hk (hw.setObj e ho)).of (by simp only[Sem.run,h1]) rfl zL fun τ _=>by simp only[Sem.run,h1' τ];rfl
   | number c hm=>exact(ih hk (hw.setObj e ho)).of (by simp only[Sem.run,h1]) rfl zL fun τ _=>by simp only[Sem.run,h1' τ];rfl
   | loop hm=>exact(ih hk (hw.setObj e ho)).of (by simp only[Sem.run,h1]) rfl zL fun τ _=>by simp only[Sem.run,h1' τ];rfl
   | defs hm=>exact(ih hk (hw.setObj e ho)).of (by simp only[Sem.run,h1]) rfl zL fun τ _=>by simp only[Sem.run,h1' τ];rfl
 | choose q k ih=>
   rintro ρ s' w w' ⟨k',rfl,hk⟩ hw
   by_cases hf:q.forced=true
   ·exact(ih 0 (hk _) hw).of (by simp only[Sem.run,if_pos hf]) rfl zL fun τ _=>by simp only[Sem.run,if_pos hf]
   ·have hw2:WR ρ {w with drawn:=w.drawn+1 } {w' with drawn:=w'.drawn+1 }:=⟨hw.obj,hw.inj⟩
    refine(ih (q.cut (w.tape w.drawn q)) (hk _) hw2).of (by simp only[Sem.run,if_neg hf]) rfl (Nat.le_succ _) fun τ hτ=>?_
    have e:τ w.drawn=w.tape w.drawn:=hτ w.drawn zL (Nat.lt_succ_self _)
    simp only[Sem.run,if_neg hf,YX,Vo,e]
    rfl
 | program k ih=>
   rintro ρ s' w w' ⟨k',rfl,hk⟩ hw
   exact(ih P hk hw).of (by simp only[Sem.run]) rfl zL fun τ _=>by simp only[Sem.run]
 | halt h=>rintro ρ s' w w' ht hw;exact .halt (by simp only[Sem.run];rfl) (by exact ht)
 | freeze a n k ih=>intro ρ s' w w' h;exact h.elim
 | frozen a k ih=>intro ρ s' w w' h hw;exact⟨fun e w1 hr=>((h _).run (P:=P) w).2 e w1 hr,fun a1 w1 hr=>((h _).run (P:=P) w).1 a1 w1 hr |>.elim⟩
 | sys c k ih=>intro ρ s' w w' h;exact h.elim
 | mark m k ih=>
   rintro ρ s' w w' ⟨k',rfl,rfl,hk⟩ hw
   exact(ih hk hw).of (by simp only[Sem.run]) rfl zL fun τ _=>by simp only[Sem.run]
end
section
variable[Inhabited aV]
open Go.Conc
variable{P:Program}{ρ:Ren}
theorem lZ{fn:FuncId}{es:Array Event}{e:Event}(h:e∈seen P fn es):e∈es:=by
 rw[seen_def] at h
 have:=seen_fold_sub _ _ _ _ _ h
 simpa using this
def Same(P:Program)(main:Bool)(g:Goroutine)(w:World)(g2:Goroutine)(w2:World)(es:Array Event):Prop:=∃es',stepG P main g w=.go g2 w2 es'∧∀e∈es',e∈es
theorem Same.of{main:Bool}{g g2:Goroutine}{w w2:World}{es:Array Event}(h:stepG P main g w=.go g2 w2 #[]):Same P main g w g2 w2 es:=⟨_,h,fun e he=>by simp at he⟩
theorem Same.seen{main:Bool}{g g2:Goroutine}{w w2:World}{es:Array Event}{f:FuncId}(h:stepG P main g w=.go g2 w2 (Go.seen P f es)):Same P main g w g2 w2 es:=⟨_,h,fun e he=>lZ he⟩
theorem Same.Ot{main:Bool}{g g2:Goroutine}{w w2:World}{es:Array Event}{f:FuncId}(h:stepG P main g w=.go g2 w2 (Go.seen P f es ++ #[])):Same P main g w g2 w2 es:=⟨_,h,fun e he=>lZ (fn:=f) (by simpa using he)⟩
section
variable{main:Bool}{fr:Frame}{L cs:List Frame}{w w2:World}{c:Frame × List Frame}{es:Array Event}
theorem bind_ok{α β:Type}{x:Sem α}{f:α→Sem β}{w w2:World}{b:β}{es:Array Event}(h:(x >>= f).runT P w #[]=(.ok b w2,es)):
 ∃a w1 es1,x.runT P w #[]=(.ok a w1,es1)∧(f a).runT P w1 es1=(.ok b w2,es):=by
 rw[show(x >>= f)=x.bind f from rfl,Sem.runT_bind'] at h
 generalize hx:x.runT P w #[]=r at h
 obtain⟨r,es1⟩:=r
 cases r with
 | halt a b=>simp only[Prod.mk.injEq] at h;cases h.1
 | ok a w1=>exact⟨a,w1,es1,rfl,h⟩
theorem pure_ok{α:Type}{a b:α}{w w2:World}{es es2:Array Event}(h:(Pure.pure a:Sem α).runT P w es=(.ok b w2,es2)):b=a∧w2=w∧es2=es:=by
 simp only[Pure.pure,Sem.runT,Prod.mk.injEq,Result.ok.injEq] at h
 exact⟨h.1.1.symm,h.1.2.symm,h.2.symm⟩
theorem fE{α:Type}{m:String}{b:α}{w w2:World}{es es2:Array Event}(h:(stuck m:Sem α).runT P w es=(.ok b w2,es2)):False:=by
 simp only[stuck,Sem.runT,Prod.mk.injEq] at h;cases h.1
def iO(P:Program)(main:Bool)(fr:Frame)(L:List Frame)(jump:Option Code)(w:World):GStep:=
 match fr.roundOf with
 | none=>if jump matches none|some .ret then .go (G {fr with mode:=.returning } L) w else .ended (.stuck CE (fr.pos P)) w
 | some l=>
   let (r,es):=(Instr.endRound l jump).runT P w #[]
   GStep.after (Go.seen P fr.fn es) <| match r with
   | .ok v w=>doReturn P main fr L none v w
   | .halt _ w=>.ended (.stuck fb (fr.pos P)) w
theorem qU(hk:fr.kind=.normal){jump:Option Code}(hG:stepG P main (G fr (L ++ cs)) w=iO P main fr (L ++ cs) jump w)(h:(lu fr L jump).runT P w #[]=(.ok c w2,es)):Same P main (G fr (L ++ cs)) w (G c.1 (c.2 ++ cs)) w2 es:=by
 unfold lu at h
 unfold iO at hG
 cases hr:fr.roundOf with
 | none=>
   rw[hr] at h hG
   dsimp only at h hG
   split at h
   ·obtain⟨rfl,rfl,rfl⟩:=pure_ok h
    exact .of (by rw[hG];rfl)
   ·obtain⟨rfl,rfl,rfl⟩:=pure_ok h
    exact .of (by rw[hG];rfl)
   ·exact(fE h).elim
 | some l=>
   rw[hr] at h hG
   dsimp only at h hG
   cases L with
   | nil=>exact(fE h).elim
   | cons c0 L=>
     obtain⟨v,w1,es1,h1,h2⟩:=bind_ok h
     obtain⟨rfl,rfl,rfl⟩:=pure_ok h2
     rw[h1] at hG
     refine .Ot (f:=fr.fn) ?_
     rw[hG]
     simp[doReturn,hk,GStep.after,G]
end
theorem Aa{F:FuncId→Prop}{main:Bool}{fr:Frame}{L cs:List Frame}{w w2:World}{c:Frame × List Frame}{es:Array Event}(hf:jP P F fr)(h:(gu P fr L).runT P w #[]=(.ok c w2,es)):
 Same P main (G fr (L ++ cs)) w (G c.1 (c.2 ++ cs)) w2 es:=by
 obtain⟨hfn,htodo,⟨dx,hd⟩,hm,hk⟩:=hf
 obtain⟨fn,tmps,todo,defers,mode,kind,roundOf⟩:=fr
 simp only at hfn htodo hd hm hk
 subst hk
 rcases hm with rfl|rfl
 ·unfold gu at h
  dsimp only at h
  cases todo with
  | nil=>exact qU rfl (by simp only[G,stepG,stepG.exec,iO] <;> rfl) h
  | cons i k=>
    have ht:=htodo i zs
    cases i with
    | code c=>
      cases c with
      | ret=>exact qU rfl (by simp only[G,stepG,stepG.exec,iO] <;> rfl) h
      | cond x a b=>
        dsimp only at h
        generalize hev:Frame.eval {fn:=fn,tmps:=tmps,todo:=.code (.cond x a b) :: k,defers:=defers,mode:=.run,kind:=.normal,roundOf:=roundOf } x=v at h
        cases v with
        | bool b=>
          obtain⟨rfl,rfl,rfl⟩:=pure_ok h
          exact .of (by simp[G,stepG,stepG.exec,hev])
        | _=>exact(fE h).elim
      | exit id=>
        dsimp only at h
        cases he:exitTo id k with
        | none=>
          rw[he] at h
          exact qU rfl (by simp only[G,stepG,stepG.exec,iO,he];rfl) h
        | some k'=>
          rw[he] at h
          obtain⟨rfl,rfl,rfl⟩:=pure_ok h
          exact .of (by simp[G,stepG,stepG.exec,he])
      | region id ops draw=>
        cases draw with
        | false=>
          simp only[Bool.not_false,if_true] at h
          obtain⟨rfl,rfl,rfl⟩:=pure_ok h
          exact .of (by simp[G,stepG,stepG.exec])
        | true=>
          simp only[Bool.not_true,Bool.false_eq_true,if_false,choose,Bind.bind,Sem.bind,Pure.pure,Sem.runT] at h
          refine .of ?_
          simp only[G,stepG,stepG.exec,Bool.not_true,Bool.false_eq_true,if_false,choose,Sem.run]
          split at h
          ·rename_i hfo
           simp only[Prod.mk.injEq,Result.ok.injEq] at h
           obtain⟨⟨rfl,rfl⟩,rfl⟩:=h
           simp[hfo]
          ·rename_i hfo
           simp only[Prod.mk.injEq,Result.ok.injEq] at h
           obtain⟨⟨rfl,rfl⟩,rfl⟩:=h
           simp[hfo]
      | goto l=>exact ht.elim
      | rangeFunc f params assign body=>
        dsimp only at h
        obtain⟨e,w1,es1,h1,h2⟩:=bind_ok h
        rw[Mh] at h2
        simp only[Prod.mk.injEq] at h2
        obtain⟨h2,h3⟩:=h2
        generalize hq:(qh (Frame.eval {fn:=fn,tmps:=tmps,todo:=.code (.rangeFunc f params assign body) :: k,defers:=defers,mode:=.run,kind:=.normal,roundOf:=roundOf } f) #[.func (.yield e.1) #[] #[]] >>= fun n=>vC P {fn:=fn,tmps:=tmps,todo:=.inRangeFunc e.1 :: k,defers:=e.2 ++ defers,mode:=.run,kind:=.normal,roundOf:=roundOf } L n).runT P w1 #[]=q at h2 h3
        obtain⟨q1,es2⟩:=q
        simp only at h2 h3
        subst h2
        obtain⟨n,w4,P1,h7,h8⟩:=bind_ok hq
        have hcall:(do let d ← resolve (Frame.eval {fn:=fn,tmps:=tmps,todo:=.inRangeFunc e.1 :: k,defers:=e.2 ++ defers,mode:=.run,kind:=.normal,roundOf:=roundOf }) {callee:=.value f,args:=#[.const (.func (.yield e.1) #[] #[])],argTypes:=#[] } 0;invoke d.target d.args:Sem Next).runT P w1 #[]=(.ok n w4,P1):=by
         have e0:resolve (Frame.eval {fn:=fn,tmps:=tmps,todo:=.inRangeFunc e.1 :: k,defers:=e.2 ++ defers,mode:=.run,kind:=.normal,roundOf:=roundOf }) {callee:=.value f,args:=#[.const (.func (.yield e.1) #[] #[])],argTypes:=#[] } 0=Deferred.ofValue (Frame.eval {fn:=fn,tmps:=tmps,todo:=.code (.rangeFunc f params assign body) :: k,defers:=defers,mode:=.run,kind:=.normal,roundOf:=roundOf } f) #[.func (.yield e.1) #[] #[]]:=by
          cases f <;> simp[resolve,Frame.eval]
         rw[e0]
         exact h7
        have hsub:∀x∈Go.seen P fn es1 ++ Go.seen P fn P1,x∈es1 ++ P1:=fun x hx=>by
         rcases Array.mem_append.1 hx with hx|hx
         ·exact Array.mem_append.2 (.inl (lZ hx))
         ·exact Array.mem_append.2 (.inr (lZ hx))
        have hG:stepG P main (G {fn:=fn,tmps:=tmps,todo:=.code (.rangeFunc f params assign body) :: k,defers:=defers,mode:=.run,kind:=.normal,roundOf:=roundOf } (L ++ cs)) w
         =GStep.after (Go.seen P fn es1) (stepG.apply P true {fn:=fn,tmps:=tmps,todo:=.inRangeFunc e.1 :: k,defers:=e.2 ++ defers,mode:=.run,kind:=.normal,roundOf:=roundOf } (L ++ cs) none (do let d ← resolve (Frame.eval {fn:=fn,tmps:=tmps,todo:=.inRangeFunc e.1 :: k,defers:=e.2 ++ defers,mode:=.run,kind:=.normal,roundOf:=roundOf }) {callee:=.value f,args:=#[.const (.func (.yield e.1) #[] #[])],argTypes:=#[] } 0;invoke d.target d.args:Sem Next) w1):=by
         simp only[G,stepG,stepG.exec,h1]
        cases n with
        | enter g args=>
          obtain⟨rfl,rfl,rfl⟩:=pure_ok h8
          subst h3
          refine⟨_,?_,hsub⟩
          rw[hG]
          simp[stepG.apply,hcall,GStep.after,G,-Sem.runT_eq]
        | round l g t a b=>
          obtain⟨rfl,rfl,rfl⟩:=pure_ok h8
          subst h3
          refine⟨_,?_,hsub⟩
          rw[hG]
          simp[stepG.apply,hcall,GStep.after,G,-Sem.runT_eq]
        | _=>exact(fE h8).elim
      | refuse y=>exact(fE h).elim
      | _=>
        obtain⟨rfl,rfl,rfl⟩:=pure_ok h
        exact .of (by simp[G,stepG,stepG.exec])
    | inRegion ops l=>
      cases l with
      | nil=>
        obtain⟨rfl,rfl,rfl⟩:=pure_ok h
        exact .of (by simp[G,stepG,stepG.exec])
      | cons j l=>
        dsimp only at h
        cases hw:((ops[j]?).map (Region.wanted · (yielded ops tmps))).getD false with
        | false=>
          rw[hw] at h
          simp only[Bool.false_eq_true,if_false] at h
          obtain⟨rfl,rfl,rfl⟩:=pure_ok h
          exact .of (by simp[G,stepG,stepG.exec,hw])
        | true=>
          rw[hw] at h
          simp only[if_true] at h
          cases ho:ops[j]? with
          | none=>rw[ho] at h;exact(fE h).elim
          | some o=>
            rw[ho] at h
            have hwo:Region.wanted o (yielded ops tmps)=true:=by rw[ho] at hw;exact hw
            have RS:qH P o:=ht o (Array.mem_of_getElem? ho)
            have hnd:∀c,o.op≠.defer c:=fun c e=>by have:=RS.2;rw[e] at this;exact this
            have hop:stepG.oper P true {fn:=fn,tmps:=tmps,todo:=.inRegion ops (j :: l) :: k,defers:=defers,mode:=.run,kind:=.normal,roundOf:=roundOf } (L ++ cs) none w
             =stepG.apply P true {fn:=fn,tmps:=tmps,todo:=.inRegion ops (j :: l) :: k,defers:=defers,mode:=.run,kind:=.normal,roundOf:=roundOf } (L ++ cs) none (execOp (Frame.eval {fn:=fn,tmps:=tmps,todo:=.inRegion ops (j :: l) :: k,defers:=defers,mode:=.run,kind:=.normal,roundOf:=roundOf }) o) w:=by
             simp only[stepG.oper,Frame.oper?,ho]
             split
             ·rename_i e0;exact absurd e0 (hnd _)
             ·rfl
            have hG:stepG P main (G {fn:=fn,tmps:=tmps,todo:=.inRegion ops (j :: l) :: k,defers:=defers,mode:=.run,kind:=.normal,roundOf:=roundOf } (L ++ cs)) w
             =stepG.apply P true {fn:=fn,tmps:=tmps,todo:=.inRegion ops (j :: l) :: k,defers:=defers,mode:=.run,kind:=.normal,roundOf:=roundOf } (L ++ cs) none (execOp (Frame.eval {fn:=fn,tmps:=tmps,todo:=.inRegion ops (j :: l) :: k,defers:=defers,mode:=.run,kind:=.normal,roundOf:=roundOf }) o) w:=by
             rw[← hop]
             simp only[G,stepG,stepG.exec,ho,hwo,Option.map_some,Option.getD_some,if_true]
            dsimp only at h
            cases hpn:sG o.op with
            | true=>rw[hpn] at h;exact(fE h).elim
            | false=>
            rw[hpn] at h
            simp only[Bool.false_eq_true,if_false] at h
            obtain⟨n,w1,es1,hx,h2⟩:=bind_ok h
            cases n with
            | value v=>
              obtain⟨rfl,rfl,rfl⟩:=pure_ok h2
              exact .seen (f:=fn) (by rw[hG];simp[stepG.apply,hx,GStep.after,G,-Sem.runT_eq])
            | skip=>
              obtain⟨rfl,rfl,rfl⟩:=pure_ok h2
              exact .seen (f:=fn) (by rw[hG];simp[stepG.apply,hx,GStep.after,G,-Sem.runT_eq])
            | enter f args=>
              obtain⟨rfl,rfl,rfl⟩:=pure_ok h2
              exact .seen (f:=fn) (by rw[hG];simp[stepG.apply,hx,GStep.after,G,-Sem.runT_eq])
            | round l0 g t a b=>
              obtain⟨rfl,rfl,rfl⟩:=pure_ok h2
              exact .seen (f:=fn) (by rw[hG];simp[stepG.apply,hx,GStep.after,G,-Sem.runT_eq])
            | _=>exact(fE h2).elim
    | inRangeFunc l=>exact(fE h).elim
    | endRangeFunc l=>
      dsimp only at h
      obtain⟨j,w1,es1,hx,h2⟩:=bind_ok h
      obtain⟨rfl,rfl,rfl⟩:=pure_ok h2
      exact .Ot (f:=fn) (by simp[G,stepG,stepG.exec,hx,GStep.after,-Sem.runT_eq])
    | beginRound=>
      dsimp only at h
      cases roundOf with
      | none=>exact(fE h).elim
      | some l=>
        dsimp only at h
        obtain⟨u,w1,es1,hx,h2⟩:=bind_ok h
        obtain⟨rfl,rfl,rfl⟩:=pure_ok h2
        have hr:(do Option.elim (some l) (stuck rv) Instr.beginRound;pure .skip:Sem Next).runT P w #[]=(.ok .skip w2,es):=by
         rw[show ∀ {α β:Type} (x:Sem α) (f:α→Sem β),(x >>= f)=x.bind f from fun _ _=>rfl,Sem.runT_bind']
         simp only[Option.elim,hx,Pure.pure,Sem.runT]
        have hG:stepG P main (G {fn:=fn,tmps:=tmps,todo:=.beginRound :: k,defers:=defers,mode:=.run,kind:=.normal,roundOf:=some l } (L ++ cs)) w=stepG.apply P true {fn:=fn,tmps:=tmps,todo:=.beginRound :: k,defers:=defers,mode:=.run,kind:=.normal,roundOf:=some l } (L ++ cs) none (do Option.elim (some l) (stuck rv) Instr.beginRound;pure .skip) w:=by
         simp only[G,stepG,stepG.exec]
         rfl
        exact .seen (f:=fn) (by
         rw[hG]
         simp only[stepG.apply,hr,if_true]
         simp[GStep.after,G,-Sem.runT_eq])
    | _=>first
      | exact(show False from ht).elim
      | (obtain⟨rfl,rfl,rfl⟩:=pure_ok h
         exact .of (by simp[G,stepG,stepG.exec]))
 ·unfold gu at h
  dsimp only at h
  cases dx with
  | cons r dx=>
    simp only[List.map_cons,jv] at hd
    subst hd
    dsimp only at h
    obtain⟨calls,w1,es1,hx,h2⟩:=bind_ok h
    obtain⟨rfl,rfl,rfl⟩:=pure_ok h2
    exact .Ot (f:=fn) (by simp[G,stepG,unwind,hx,GStep.after,-Sem.runT_eq])
  | nil=>
    simp only[List.map_nil] at hd
    subst hd
    dsimp only at h
    cases hfun:P.funcs[fn]? with
    | none=>rw[hfun] at h;exact(fE h).elim
    | some fnc=>
      rw[hfun] at h
      cases L with
      | nil=>exact(fE h).elim
      | cons c0 L=>
        dsimp only at h
        obtain⟨v,w1,es1,hx,h2⟩:=bind_ok h
        obtain⟨rfl,rfl,rfl⟩:=pure_ok h2
        exact .Ot (f:=fn) (by simp[G,stepG,unwind,hfun,hx,doReturn,GStep.after,-Sem.runT_eq])
end
section
variable[Inhabited aV]
variable{P:Program}{ρ:Ren}
inductive kJ (ρ:Ren):Item→Item→Prop
 | code (c:Code):kJ ρ (.code c) (.code c)
 | inBlock (i:Nat):kJ ρ (.inBlock i) (.inBlock i)
 | inLoop (c:Code):kJ ρ (.inLoop c) (.inLoop c)
 | inScope (c:Code):kJ ρ (.inScope c) (.inScope c)
 | inRegion (o:Array Oper) (l:List Nat):kJ ρ (.inRegion o l) (.inRegion o l)
 | beginRound:kJ ρ .beginRound .beginRound
 | inRangeFunc {l l':Nat}:ρ l=some l'→kJ ρ (.inRangeFunc l) (.inRangeFunc l')
 | endRangeFunc {l l':Nat}:ρ l=some l'→kJ ρ (.endRangeFunc l) (.endRangeFunc l')
theorem kJ.mono{ρ':Ren}(l:Le ρ ρ'){a b:Item}(h:kJ ρ a b):kJ ρ' a b:=by
 cases h with
 | code c=>exact .code c
 | inBlock i=>exact .inBlock i
 | inLoop c=>exact .inLoop c
 | inScope c=>exact .inScope c
 | inRegion o l=>exact .inRegion o l
 | beginRound=>exact .beginRound
 | inRangeFunc h=>exact .inRangeFunc (l _ _ h)
 | endRangeFunc h=>exact .endRangeFunc (l _ _ h)
inductive fK (ρ:Ren):List Item→List Item→Prop
 | nil:fK ρ [] []
 | cons {a b:Item} {x y:List Item}:kJ ρ a b→fK ρ x y→fK ρ (a :: x) (b :: y)
theorem fK.mono{ρ':Ren}(l:Le ρ ρ'){a b:List Item}(h:fK ρ a b):fK ρ' a b:=by
 induction h with
 | nil=>exact .nil
 | cons h _ ih=>exact .cons (h.mono l) ih
theorem fK.append{a b c d:List Item}(h:fK ρ a b)(k:fK ρ c d):fK ρ (a ++ c) (b ++ d):=by
 induction h with
 | nil=>exact k
 | cons h _ ih=>exact .cons h ih
def En(ρ:Ren)(a b:Option Nat):Prop:=(a=none∧b=none)∨∃l l',a=some l∧b=some l'∧ρ l=some l'
theorem En.mono{ρ':Ren}(l:Le ρ ρ'){a b:Option Nat}(h:En ρ a b):En ρ' a b:=h.imp id fun⟨x,y,e1,e2,e3⟩=>⟨x,y,e1,e2,l _ _ e3⟩
structure Cq(ρ:Ren)(fr fr':Frame):Prop where
 fn:fr'.fn=fr.fn
 mode:fr'.mode=fr.mode
 kind:fr'.kind=fr.kind
 tmps:dX ρ fr.tmps fr'.tmps
 todo:fK ρ fr.todo fr'.todo
 defers:dQ ρ fr.defers fr'.defers
 round:En ρ fr.roundOf fr'.roundOf
inductive Xe (ρ:Ren):List Frame→List Frame→Prop
 | nil:Xe ρ [] []
 | cons {a b:Frame} {l m:List Frame}:Cq ρ a b→Xe ρ l m→Xe ρ (a :: l) (b :: m)
theorem Cq.mono{ρ':Ren}(l:Le ρ ρ'){a b:Frame}(h:Cq ρ a b):Cq ρ' a b:=⟨h.fn,h.mode,h.kind,h.tmps.mono l,h.todo.mono l,h.defers.mono l,h.round.mono l⟩
theorem Xe.mono{ρ':Ren}(l:Le ρ ρ'){a b:List Frame}(h:Xe ρ a b):Xe ρ' a b:=by
 induction h with
 | nil=>exact .nil
 | cons h _ ih=>exact .cons (h.mono l) ih
def cJ(ρ:Ren)(a b:Frame × List Frame):Prop:=Cq ρ a.1 b.1∧Xe ρ a.2 b.2
theorem H8{a b:Frame}(h:Cq ρ a b){x:Operand}(hx:qI x):VR ρ (a.eval x) (b.eval x):=by
 cases x with
 | tmp t=>exact h.tmps.getD t
 | const v=>exact hx ρ
 | global g=>exact hx.elim
 | func f=>exact .func f rfl (fun i h=>by simp at h) rfl (fun i h=>by simp at h)
theorem WM{a b:Frame}(h:Cq ρ a b){k k':List Item}(hk:fK ρ k k'):Cq ρ {a with todo:=k } {b with todo:=k' }:=⟨h.fn,h.mode,h.kind,h.tmps,hk,h.defers,h.round⟩
theorem iL{a b:Frame}(h:Cq ρ a b)(hk:∀i∈a.todo,kW P i){v v':Value}(hv:VR ρ v v'):Cq ρ (a.finish v) (b.finish v'):=by
 obtain⟨fn,tmps,todo,defers,mode,kind,roundOf⟩:=a
 obtain⟨fn',vU,todo',defers',eQ,kind',yR⟩:=b
 obtain⟨h1,h2,h3,h4,h5,h6,h7⟩:=h
 simp only at h1 h2 h3 h4 h5 h6 h7 hk
 cases h5 with
 | nil=>exact⟨h1,h2,h3,h4,.nil,h6,h7⟩
 | @cons i i' k k' hi hks=>
   cases hi with
   | inRegion ops l=>
     cases l with
     | nil=>exact⟨h1,h2,h3,h4,.cons (.inRegion _ _) hks,h6,h7⟩
     | cons j l=>
       refine⟨h1,h2,h3,?_,.cons (.inRegion _ _) hks,h6,h7⟩
       simp only[Frame.finish]
       cases ((ops[j]?).bind (·.dst)) with
       | none=>exact h4
       | some d=>exact h4.set d hv
   | inRangeFunc hl=>exact⟨h1,h2,h3,h4,.cons (.endRangeFunc hl) hks,h6,h7⟩
   | beginRound=>exact⟨h1,h2,h3,h4,hks,h6,h7⟩
   | code c=>exact⟨h1,h2,h3,h4,.cons (.code c) hks,h6,h7⟩
   | inBlock i=>exact⟨h1,h2,h3,h4,.cons (.inBlock i) hks,h6,h7⟩
   | inLoop c=>exact⟨h1,h2,h3,h4,.cons (.inLoop c) hks,h6,h7⟩
   | inScope c=>exact⟨h1,h2,h3,h4,.cons (.inScope c) hks,h6,h7⟩
   | endRangeFunc hl=>exact⟨h1,h2,h3,h4,.cons (.endRangeFunc hl) hks,h6,h7⟩
theorem Qk{α:Type}(f f':α→Sem Value)(hf:∀a {ρ':Ren},Ext ρ ρ'→SR P VR ρ' (f a) (f' a)):∀ (l:List α) {ρ':Ren},Ext ρ ρ'→SR P LR ρ' (l.mapM f) (l.mapM f'):=by
 intro l
 induction l with
 | nil=>intro ρ' hi;simp only[List.mapM_nil];exact SR.pure .nil
 | cons a l ih=>
   intro ρ1 hi
   simp only[List.mapM_cons]
   refine(hf a hi).bind' hi.2 fun ρ2 l2 x y hx=>?_
   refine(ih (hi.trans l2)).bind' l2.2 fun ρ3 l3 xs ys hxs=>?_
   exact SR.pure (.cons (hx.mono l3.1) hxs)
theorem LR.array{l l':List Value}(h:LR ρ l l'):dX ρ l.toArray l'.toArray:=by
 induction h with
 | nil=>exact .nil ρ
 | cons hv _ ih=>
   have:=dX.append (ρ:=ρ) (dX.push (.nil ρ) hv) ih
   simpa using this
theorem vK(hi:dL ρ)(fn:Func){x x':Array Value}(h:dX ρ x x'):SR P VR ρ (results fn x) (results fn x'):=by
 unfold results
 have key:SR P dX ρ (fn.results.mapM fun r=>(match r with| .tmp t=>pure (x.getD t undef)| .cell a t=>do loadVar t (← asAddr (x.getD a undef)):Sem Value))
  (fn.results.mapM fun r=>(match r with| .tmp t=>pure (x'.getD t undef)| .cell a t=>do loadVar t (← asAddr (x'.getD a undef)):Sem Value)):=by
  rw[Array.mapM_eq_mapM_toList,Array.mapM_eq_mapM_toList]
  have e:∀ (s:Sem (List Value)),(Functor.map List.toArray s)=(s >>= fun l=>pure l.toArray):=fun s=>rfl
  rw[e,e]
  refine(Qk _ _ (fun r ρ1 l1=>?_) _ (.refl hi)).bind' hi fun ρ1 l1 xs ys hxs=>SR.pure hxs.array
  have h1:=h.mono l1.1
  cases r with
  | tmp t=>exact SR.pure (h1.getD t)
  | cell a t=>exact(xB (h1.getD a)).bind' l1.2 fun ρ2 l2 a a' ha=>vE l2.2 t ha
 refine key.bind' hi fun ρ1 l1 xs ys hxs=>SR.pure ?_
 have hs:=hxs.1
 by_cases c:xs.size=1
 ·have c':ys.size=1:=hs ▸ c
  simp only[c,c',dif_pos]
  exact hxs.2 0 zo zo
 ·have c':¬ ys.size=1:=hs ▸ c
  simp only[c,c',dif_neg,not_false_eq_true]
  exact .tuple hxs.1 hxs.2
theorem JG(ops:Array Oper){x x':Array Value}(h:dX ρ x x'):yielded ops x'=yielded ops x:=by
 funext j
 unfold yielded
 cases ((ops[j]?).bind (·.dst)) with
 | none=>rfl
 | some d=>
   rcases h.get? d with⟨a,b⟩|⟨v,v',a,b,c⟩
   ·simp only[Option.bind_some,a,b]
   ·simp only[Option.bind_some,a,b]
    cases c <;> rfl
theorem jM{F:FuncId→Prop}{a:Frame}(h:jP P F a)(v:Value):jP P F (a.finish v):=by
 obtain⟨fn,tmps,todo,defers,mode,kind,roundOf⟩:=a
 obtain⟨h1,h2,h3,h4,h5⟩:=h
 unfold Frame.finish
 dsimp only at h1 h2 h3 h4 h5⊢
 split
 ·rename_i ops i rest k
  refine⟨h1,fun x hx=>?_,h3,h4,h5⟩
  rcases List.mem_cons.1 hx with rfl|hx
  ·exact h2 (.inRegion ops (i :: rest)) zs
  ·exact h2 x (by simp[hx])
 ·refine⟨h1,fun x hx=>?_,h3,h4,h5⟩
  rcases List.mem_cons.1 hx with rfl|hx
  ·trivial
  ·exact h2 x (by simp[hx])
 ·exact⟨h1,fun x hx=>h2 x (by simp[hx]),h3,h4,h5⟩
 ·exact(h2 _ List.mem_cons_self).elim
 ·exact(h2 _ List.mem_cons_self).elim
 ·exact⟨h1,h2,h3,h4,h5⟩
theorem uD{g:FuncId}{x x':Array Value}(h:dX ρ x x'):Cq ρ (Frame.enter P g x .normal) (Frame.enter P g x' .normal):=by
 refine⟨rfl,rfl,rfl,?_,.cons (.code _) .nil,.nil ρ,.inl ⟨rfl,rfl⟩⟩
 simp only[Frame.enter]
 rw[h.1]
 exact h.append ⟨rfl,fun i a b=>by simp only[Array.getElem_replicate];exact .undef ρ⟩
theorem xK{F:FuncId→Prop}(hF:gP P F){g:FuncId}(hg:F g)(x:Array Value):jP P F (Frame.enter P g x .normal):=by
 obtain⟨f,c,h1,h2,h3,h4⟩:=hF.sv g hg
 refine⟨hg,fun i hi=>?_,⟨[],rfl⟩,.inl rfl,rfl⟩
 simp only[Frame.enter,h1,Option.bind_some,h2,Option.getD_some,List.mem_singleton] at hi
 subst hi
 exact h4
theorem Dw{l l':Nat}{g:FuncId}{x x':Array Value}{a b:Code}(hl:ρ l=some l')(h:dX ρ x x'):Cq ρ (Frame.round l g x a b .normal) (Frame.round l' g x' a b .normal):=
 ⟨rfl,rfl,rfl,h,.cons (.code _) (.cons .beginRound (.cons (.code _) .nil)),.nil ρ,.inr ⟨l,l',rfl,rfl,hl⟩⟩
theorem Jd{F:FuncId→Prop}(hF:gP P F){g:FuncId}{a b:Code}(ha:jw g a)(hb:jw g b)(l:Nat)(x:Array Value):jP P F (Frame.round l g x a b .normal):=by
 have h1:=(hF.env g a).1 ha
 have h2:=(hF.env g b).1 hb
 refine⟨h1.1,fun i hi=>?_,⟨[],rfl⟩,.inl rfl,rfl⟩
 simp only[Frame.round,List.mem_cons,List.not_mem_nil,or_false] at hi
 rcases hi with rfl|rfl|rfl
 ·exact h1.2
 ·trivial
 ·exact h2.2
theorem qN{id:Nat}:∀ {k k':List Item},exitTo id k=some k'→∀i∈k',i∈k:=by
 intro k
 induction k with
 | nil=>intro k' h;simp[exitTo] at h
 | cons a k ih=>
   intro k' h i hi
   cases a with
   | inBlock j=>
     simp only[exitTo] at h
     split at h
     ·cases h;simp[hi]
     ·exact List.mem_cons_of_mem _ (ih h i hi)
   | _=>simp only[exitTo] at h;exact List.mem_cons_of_mem _ (ih h i hi)
theorem KQ{id:Nat}{k k':List Item}(h:fK ρ k k'):(exitTo id k=none∧exitTo id k'=none)∨∃x x',exitTo id k=some x∧exitTo id k'=some x'∧fK ρ x x':=by
 induction h with
 | nil=>exact .inl ⟨rfl,rfl⟩
 | @cons a b x y hab hxy ih=>
   cases hab with
   | inBlock i=>
     simp only[exitTo]
     by_cases e:(i == id)=true
     ·simp only[e,if_true];exact .inr ⟨_,_,rfl,rfl,hxy⟩
     ·simp only[e];exact ih
   | _=>simp only[exitTo];exact ih
def Gt(P:Program)(F:FuncId→Prop)(s:Frame × List Frame):Prop:=jP P F s.1∧∀c∈s.2,jP P F c
structure Cr(P:Program)(F:FuncId→Prop)(fr:Frame):Prop where
 op:∀ops i l k o c f,fr.mode=.run→fr.todo=.inRegion ops (i :: l) :: k→ops[i]? =some o→o.op=.call c→c.callee=.value f→gR P F (fr.eval f)
 iter:∀f ps a b k,fr.mode=.run→fr.todo=.code (.rangeFunc f ps a b) :: k→gR P F (fr.eval f)
theorem VZ{F:FuncId→Prop}{ev:Operand→Value}{o:Oper}(h:qH P o)(hp:sG o.op=false)(hl:∀c f,o.op=.call c→c.callee=.value f→gR P F (ev f)):Sup P F ev o:=by
 obtain⟨-,h⟩:=h
 unfold Sup
 cases hop:o.op <;> rw[hop] at h hp <;> simp only at h
 all_goals first|exact h|(cases hp;done)|skip
 case call c=>
  dsimp only
  cases hc:c.callee <;> rw[hc] at h <;> simp only at h
  ·exact hl c _ hop hc
  ·exact h
section
variable{F:FuncId→Prop}{fr fr':Frame}{L L':List Frame}
theorem Qq(hF:gP P F)(h:Cq ρ fr fr')(hL:Xe ρ L L')(ok:jP P F fr)(qw:∀c∈L,jP P F c){n n':Next}(hn:NR F ρ n n'):
 SR P (fun ρ a b=>cJ ρ a b∧Gt P F a) ρ (vH P fr L n) (vH P fr' L' n'):=by
 cases n with
 | value v=>obtain⟨v',rfl,hv⟩:=hn;exact SR.pure ⟨⟨iL (P:=P) h ok.todo hv,hL⟩,jM ok _,qw⟩
 | skip=>cases hn;exact SR.pure ⟨⟨iL (P:=P) h ok.todo (.undef ρ),hL⟩,jM ok _,qw⟩
 | enter g a=>
   obtain⟨a',rfl,ha,hg⟩:=hn
   exact SR.pure ⟨⟨uD ha,.cons h hL⟩,xK hF hg _,by simp only[List.forall_mem_cons];exact⟨ok,qw⟩⟩
 | round l g t a b=>
   obtain⟨l',t',rfl,hl,ht,ha,hb⟩:=hn
   exact SR.pure ⟨⟨Dw hl ht,.cons h hL⟩,Jd hF ha hb _ _,by simp only[List.forall_mem_cons];exact⟨ok,qw⟩⟩
 | _=>exact hn.elim
theorem Qc(hF:gP P F)(h:Cq ρ fr fr')(hL:Xe ρ L L')(ok:jP P F fr)(qw:∀c∈L,jP P F c){n n':Next}(hn:NR F ρ n n'):
 SR P (fun ρ a b=>cJ ρ a b∧Gt P F a) ρ (vC P fr L n) (vC P fr' L' n'):=by
 cases n with
 | value v=>exact zT
 | skip=>exact zT
 | enter g a=>
   obtain⟨a',rfl,ha,hg⟩:=hn
   exact SR.pure ⟨⟨uD ha,.cons h hL⟩,xK hF hg _,by simp only[List.forall_mem_cons];exact⟨ok,qw⟩⟩
 | round l g t a b=>
   obtain⟨l',t',rfl,hl,ht,ha,hb⟩:=hn
   exact SR.pure ⟨⟨Dw hl ht,.cons h hL⟩,Jd hF ha hb _ _,by simp only[List.forall_mem_cons];exact⟨ok,qw⟩⟩
 | _=>exact hn.elim
theorem Lr(hF:gP P F)(hi:dL ρ)(h:Cq ρ fr fr')(hL:Xe ρ L L')(ok:jP P F fr)(qw:∀c∈L,jP P F c)(jump:Option Code)(hj:∀j,jump=some j→gU P j):
 SR P (fun ρ a b=>cJ ρ a b∧Gt P F a) ρ (lu fr L jump) (lu fr' L' jump):=by
 obtain⟨fn,tmps,todo,defers,mode,kind,roundOf⟩:=fr
 obtain⟨fn',vU,todo',defers',eQ,kind',yR⟩:=fr'
 obtain⟨h1,h2,h3,h4,h5,h6,h7⟩:=h
 simp only at h1 h2 h3 h4 h5 h6 h7
 unfold lu
 dsimp only
 rcases h7 with⟨rfl,rfl⟩|⟨l,l',rfl,rfl,hl⟩
 ·dsimp only
  have hret:Cq ρ {fn:=fn,tmps:=tmps,todo:=todo,defers:=defers,mode:=.returning,kind:=kind,roundOf:=none } {fn:=fn',tmps:=vU,todo:=todo',defers:=defers',mode:=.returning,kind:=kind',roundOf:=none }:=⟨h1,rfl,h3,h4,h5,h6,.inl ⟨rfl,rfl⟩⟩
  have fa:jP P F {fn:=fn,tmps:=tmps,todo:=todo,defers:=defers,mode:=.returning,kind:=kind,roundOf:=none }:=⟨ok.fn,ok.todo,ok.defers,.inr rfl,ok.kind⟩
  cases jump with
  | none=>exact SR.pure ⟨⟨hret,hL⟩,fa,qw⟩
  | some j=>
    cases j with
    | ret=>exact SR.pure ⟨⟨hret,hL⟩,fa,qw⟩
    | _=>exact zT
 ·dsimp only
  cases hL with
  | nil=>exact zT
  | cons h1 h2=>
    simp only[List.forall_mem_cons] at qw
    refine(ED hi hl jump fun r hr j e=>(hF.env _ _).2 ⟨((hF.env _ _).1 hr.assign).1,hj j e⟩).bind' hi fun ρ1 l1 v v' hv=>SR.pure ⟨⟨iL (P:=P) (h1.mono l1.1) qw.1.todo hv,h2.mono l1.1⟩,jM qw.1 _,qw.2⟩
end
theorem DL(hg:P.globals.size=0){F:FuncId→Prop}(hF:gP P F)(hi:dL ρ){s s':Frame × List Frame}(h:cJ ρ s s')(ok:Gt P F s)(hl:Cr P F s.1):
 SR P (fun ρ a b=>cJ ρ a b∧Gt P F a) ρ (gu P s.1 s.2) (gu P s'.1 s'.2):=by
 obtain⟨fr,L⟩:=s
 obtain⟨fr',L'⟩:=s'
 obtain⟨h,hL⟩:=h
 obtain⟨ok,qw⟩:=ok
 simp only at h hL ok qw hl
 have hev:∀x,qI x→VR ρ (fr.eval x) (fr'.eval x):=fun x=>H8 h
 have WN:∀k:List Item,(∀i∈k,kW P i)→jP P F {fr with todo:=k }:=fun k hk=>⟨ok.fn,hk,ok.defers,ok.mode,ok.kind⟩
 have go:∀ {ρ1:Ren},Le ρ ρ1→∀ {k k':List Item},fK ρ1 k k'→(∀i∈k,kW P i)→(cJ ρ1 ({fr with todo:=k },L) ({fr' with todo:=k' },L')∧Gt P F ({fr with todo:=k },L)):=fun l k k' hkk hk=>⟨⟨WM (h.mono l) hkk,hL.mono l⟩,WN _ hk,qw⟩
 have hy:∀ops,yielded ops fr'.tmps=yielded ops fr.tmps:=fun ops=>JG ops h.tmps
 have hlv:=fun jump hj=>Lr hF hi h hL ok qw jump hj
 have hnx:=fun{ρ1:Ren} (l1:Le ρ ρ1) {n n':Next} (hn:NR F ρ1 n n')=>Qq hF (h.mono l1) (hL.mono l1) ok qw hn
 have ln:=ok.todo
 have hm:=ok.mode
 have hF':=h
 obtain⟨fn,tmps,todo,defers,mode,kind,roundOf⟩:=fr
 obtain⟨fn',vU,todo',defers',eQ,kind',yR⟩:=fr'
 obtain⟨h1,h2,h3,h4,h5,h6,h7⟩:=h
 simp only at h1 h2 h3 h4 h5 h6 h7 hm ln
 subst h1
 subst h2
 subst h3
 unfold gu
 dsimp only
 rcases hm with rfl|rfl
 ·dsimp only
  cases h5 with
  | nil=>exact hlv none (fun j e=>by cases e)
  | @cons i i' k k' hii hkk=>
    have hk:∀i∈k,kW P i:=fun i hi=>ln i (List.mem_cons_of_mem _ hi)
    have hh:=ln i List.mem_cons_self
    cases hii with
    | code c=>
      cases c with
      | skip=>exact SR.pure (go (.refl ρ) hkk hk)
      | label l=>exact SR.pure (go (.refl ρ) hkk hk)
      | ret=>exact hlv (some .ret) (fun j e=>by cases e;trivial)
      | seq a b=>exact SR.pure (go (.refl ρ) (.cons (.code _) (.cons (.code _) hkk)) (by simp only[List.forall_mem_cons];exact⟨hh.1,hh.2,hk⟩))
      | cond x a b=>
        dsimp only
        have:=hev x hh.1
        revert this
        generalize Frame.eval _ x=v
        generalize Frame.eval _ x=v'
        intro this
        cases this with
        | bool b=>exact SR.pure (go (.refl ρ) (.cons (.code _) hkk) (by simp only[List.forall_mem_cons];refine⟨?_,hk⟩;cases b <;> first|exact hh.2.1|exact hh.2.2))
        | _=>exact zT
      | block id b=>exact SR.pure (go (.refl ρ) (.cons (.code _) (.cons (.inBlock _) hkk)) (by simp only[List.forall_mem_cons];exact⟨hh,zT,hk⟩))
      | loop b=>exact SR.pure (go (.refl ρ) (.cons (.code _) (.cons (.inLoop _) hkk)) (by simp only[List.forall_mem_cons];exact⟨hh,hh,hk⟩))
      | scope b=>exact SR.pure (go (.refl ρ) (.cons (.code _) (.cons (.inScope _) hkk)) (by simp only[List.forall_mem_cons];exact⟨hh,hh,hk⟩))
      | exit id=>
        dsimp only
        rcases KQ (id:=id) hkk with⟨e1,e2⟩|⟨x,x',e1,e2,hx⟩
        ·rw[e1,e2]
         exact hlv (some (.exit id)) (fun j e=>by cases e;trivial)
        ·rw[e1,e2]
         exact SR.pure (go (.refl ρ) hx fun i hi=>hk i (qN e1 i hi))
      | region id ops draw=>
        dsimp only
        have hr:∀l,∀i∈(Item.inRegion ops l :: k),kW P i:=fun l=>by simp only[List.forall_mem_cons];exact⟨hh,hk⟩
        cases draw with
        | false=>exact SR.pure (go (.refl ρ) (.cons (.inRegion _ _) hkk) (hr _))
        | true=>exact(oL _).aO hi fun ρ1 l1 t=>SR.pure (go l1.1 (.cons (.inRegion _ _) (hkk.mono l1.1)) (hr _))
      | goto l=>exact hh.elim
      | rangeFunc f ps a b=>
        dsimp only
        have hf:VR ρ _ _:=hev f hh.1
        have lk:gR P F _:=hl.iter f ps a b k rfl rfl
        refine(ql hi h4 ps ((hF.env _ _).2 ⟨ok.fn,hh.2.1⟩) ((hF.env _ _).2 ⟨ok.fn,hh.2.2⟩) h7).bind' hi fun ρ1 l1 e e' he=>?_
        refine(CJ l1.2 lk (hf.mono l1.1) (dX.push (dX.nil ρ1) (.yield he.1))).bind' l1.2 fun ρ2 l2 n n' hn=>?_
        have l12:=l1.1.trans l2.1
        have hfr:Cq ρ2 {fn:=fn',tmps:=tmps,todo:=.inRangeFunc e.1 :: k,defers:=e.2 ++ defers,mode:=.run,kind:=kind',roundOf:=roundOf } {fn:=fn',tmps:=vU,todo:=.inRangeFunc e'.1 :: k',defers:=e'.2 ++ defers',mode:=.run,kind:=kind',roundOf:=yR }:=⟨rfl,rfl,rfl,h4.mono l12,.cons (.inRangeFunc (l2.1 _ _ he.1)) (hkk.mono l12),(he.2.mono l2.1).append (h6.mono l12),h7.mono l12⟩
        refine Qc hF hfr (hL.mono l12) ?_ qw hn
        refine⟨ok.fn,by simp only[List.forall_mem_cons];exact⟨zT,hk⟩,?_,.inl rfl,ok.kind⟩
        obtain⟨x,_,e1,_⟩:=he.2
        obtain⟨y,e2⟩:=ok.defers
        simp only at e2
        exact⟨x ++ y,by simp[e1,e2]⟩
      | refuse y=>exact zT
    | inBlock id=>exact SR.pure (go (.refl ρ) hkk hk)
    | inScope b=>exact SR.pure (go (.refl ρ) hkk hk)
    | inLoop b=>exact SR.pure (go (.refl ρ) (.cons (.code _) (.cons (.inLoop _) hkk)) (by simp only[List.forall_mem_cons];exact⟨hh,hh,hk⟩))
    | inRangeFunc hlp=>exact zT
    | endRangeFunc hlp=>
      dsimp only
      refine(vo hi hlp).bind' hi fun ρ1 l1 j j' ⟨hj,hok⟩=>?_
      subst hj
      refine SR.pure (go l1.1 ?_ ?_)
      ·cases j with
       | none=>exact hkk.mono l1.1
       | some c=>exact .cons (.code c) (hkk.mono l1.1)
      ·cases j with
       | none=>exact hk
       | some c=>
         obtain⟨f,hf⟩:=hok c rfl
         simp only[Option.map_some,Option.toList_some,List.singleton_append,List.forall_mem_cons]
         exact⟨((hF.env _ _).1 hf).2,hk⟩
    | beginRound=>
      dsimp only
      rcases h7 with⟨rfl,rfl⟩|⟨l,l',rfl,rfl,hl⟩
      ·exact zT
      ·exact(nP hi hl).aO hi fun ρ1 l1 _=>SR.pure ⟨⟨iL (P:=P) (hF'.mono l1.1) ok.todo (.undef ρ1),hL.mono l1.1⟩,jM ok undef,qw⟩
    | inRegion ops l=>
      cases l with
      | nil=>exact SR.pure (go (.refl ρ) hkk hk)
      | cons j l=>
        dsimp only
        rw[hy]
        cases hw:((ops[j]?).map (Region.wanted · (yielded ops tmps))).getD false with
        | false=>exact SR.pure ⟨⟨iL (P:=P) hF' ok.todo (.undef ρ),hL⟩,jM ok undef,qw⟩
        | true=>
          simp only[if_true]
          cases ho:ops[j]? with
          | none=>exact zT
          | some o=>
            have RS:qH P o:=hh o (Array.mem_of_getElem? ho)
            dsimp only
            cases hpn:sG o.op with
            | true=>exact zT
            | false=>
              simp only[Bool.false_eq_true,if_false]
              have hsup:=VZ RS hpn fun c f hc hf=>hl.op ops j l k o c f rfl rfl ho hc hf
              exact(xM hg hi hsup fun x hx=>hev x (RS.1 x hx)).bind' hi fun ρ1 l1 n n' hn=>hnx l1.1 hn
 ·dsimp only
  rcases h6.cases with⟨rfl,rfl⟩|⟨r,r',d,d',rfl,rfl,hr,hd⟩
  ·dsimp only
   cases P.funcs[fn']? with
   | none=>exact zT
   | some fnc=>
     cases hL with
     | nil=>exact zT
     | cons h1 h2=>
       simp only[List.forall_mem_cons] at qw
       refine(vK hi fnc h4).bind' hi fun ρ1 l1 v v' hv=>SR.pure ⟨⟨iL (P:=P) (h1.mono l1.1) qw.1.todo hv,h2.mono l1.1⟩,jM qw.1 _,qw.2⟩
  ·dsimp only[jv]
   refine(uT hi hr).bind' hi fun ρ1 l1 a b ⟨ea,eb⟩=>?_
   subst ea
   subst eb
   refine SR.pure ⟨⟨⟨rfl,rfl,rfl,h4.mono l1.1,h5.mono l1.1,hd.mono l1.1,h7.mono l1.1⟩,hL.mono l1.1⟩,⟨ok.fn,ok.todo,?_,.inr rfl,ok.kind⟩,qw⟩
   obtain⟨x,e⟩:=ok.defers
   cases x with
   | nil=>simp at e
   | cons q x=>simp only[List.map_cons,List.cons.injEq] at e;exact⟨x,by simp[e.2]⟩
end
section
variable[Inhabited aV]
open Go.Conc
variable{P:Program}{ρ:Ren}
def wX(w:World)(d:Deferred):Prop:=∃r,d=jv r∧∀ds,w.heap[r]? =some (.deferred (some ds))→ds=[]
structure jl(P:Program)(w:World)(fr:Frame):Prop where
 fn:(P.funcs[fr.fn]?).isSome=true
 marks:∀d∈fr.defers,wX w d
structure OP(P:Program)(g:Goroutine)(w:World):Prop where
 cases:g.dying.isSome=true∨(g.status=.blocked∨g.status=.waiting∨g.status=.finished)∨
  (g.status=.running∧g.dying=none∧(∃chain,g.frame.mode=.panicking chain)∧jl P w g.frame∧∀c∈g.callers,jl P w c)
theorem aY{a:Goroutine}{w w':World}{o:Outcome}{es:Array Event}(h:stepG P true a w=.ended o w' es):(runT P (solo a w) 0).1=.ended o w':=by
 simp[runT,solo,Array.swapAt!,Array.swapAt,h,GStep.es]
theorem nk{g:Goroutine}{w:World}{m1:Machine}(h:g.status=.blocked∨g.status=.waiting∨g.status=.finished)(hs:step P (solo g w)=.next m1):m1=solo g w:=by
 rw[step,stepT] at hs
 rcases h with h|h|h
 ·simp[move,ask,askOn,solo,runnable_eq,due,ahead,Goroutine.canRun,List.range_succ,pure,h] at hs
  split at hs <;> rename_i heq <;> split at heq <;> simp_all
 ·simp[move,ask,askOn,solo,runnable_eq,due,ahead,Goroutine.canRun,List.range_succ,pure,h] at hs
  rw[← hs];simp[solo]
 ·simp[move,ask,askOn,solo,runnable_eq,due,ahead,Goroutine.canRun,List.range_succ,pure,h] at hs
  split at hs <;> rename_i heq <;> split at heq <;> simp_all
theorem raise_mode(c:Frame)(vs:List PanicEntry):(∃chain,(c.raise vs).mode=.panicking chain)∧(c.raise vs).defers=c.defers∧(c.raise vs).fn=c.fn:=by
 unfold Frame.raise
 split
 ·exact⟨⟨_,rfl⟩,rfl,rfl⟩
 ·exact⟨⟨_,rfl⟩,rfl,rfl⟩
theorem jl.raise{w:World}{c:Frame}(h:jl P w c)(vs:List PanicEntry):jl P w (c.raise vs):=by
 obtain⟨_,r2,r3⟩:=raise_mode c vs
 exact⟨by rw[r3];exact h.fn,by rw[r2];exact h.marks⟩
theorem wX.taken{w:World}{d:Deferred}(h:wX w d)(q:Nat):wX {w with heap:=w.heap.setIfInBounds q (.deferred none) } d:=by
 obtain⟨r,e,h⟩:=h
 refine⟨r,e,fun ds hd=>?_⟩
 by_cases hq:q=r
 ·subst hq
  rcases Nat.lt_or_ge q w.heap.size with c|c
  ·simp[c] at hd
  ·simp[c] at hd
 ·simp only[Array.getElem?_setIfInBounds_ne hq] at hd
  exact h ds hd
theorem jl.taken{w:World}{c:Frame}(h:jl P w c)(q:Nat):jl P {w with heap:=w.heap.setIfInBounds q (.deferred none) } c:=⟨h.fn,fun d hd=>(h.marks d hd).taken q⟩
theorem PL{g:Goroutine}{w:World}{m1:Machine}(hd:OP P g w)(ha:g.dying.isNone=true)(hs:step P (solo g w)=.next m1):∃g1 w1,m1=solo g1 w1∧OP P g1 w1:=by
 rcases hd.cases with h|h|⟨h1,h2,⟨chain,h3⟩,h4,h6⟩
 ·rw[Option.isNone_iff_eq_none] at ha;rw[ha] at h;cases h
 ·exact⟨g,w,nk h hs,⟨.inr (.inl h)⟩⟩
 ·obtain⟨fr,callers,status,dying,offers⟩:=g
  simp only at h1 h2 h3 h4 h6
  subst h1;subst h2
  rw[step,stepT_solo rfl] at hs
  have EM:fr.catches P=false:=by
   unfold Frame.catches
   obtain⟨f,hf⟩:=Option.isSome_iff_exists.1 h4.fn
   rw[hf]
  have e:stepG P true {frame:=fr,callers:=callers,status:=.running,dying:=none,offers:=offers } w=unwind P true fr callers none w:=by
   simp[stepG,h3]
  have hmk:=h4.marks
  cases hdf:fr.defers with
  | cons d ds=>
    rw[hdf] at hmk
    simp only[List.forall_mem_cons] at hmk
    obtain⟨⟨r,rfl,hr⟩,hds⟩:=hmk
    have e1:stepG P true {frame:=fr,callers:=callers,status:=.running,dying:=none,offers:=offers } w
     =(let (r,es):=(Instr.takeDeferred r).runT P w #[]
      GStep.after (seen P fr.fn es) <| match r with
      | .ok calls w=>.go {frame:={fr with defers:=calls ++ ds },callers,status:=.running,dying:=none } w
      | .halt _ w=>.ended (.stuck "the deferred calls of a range-over-func loop have been taken" (fr.pos P)) w):=by
     rw[e];simp only[unwind,hdf,jv] <;> rfl
    have key:(∃o,(runT P (solo {frame:=fr,callers:=callers,status:=.running,dying:=none,offers:=offers } w) 0).1=.ended o w)∨
     (w.heap[r]? =some (.deferred (some []))∧(runT P (solo {frame:=fr,callers:=callers,status:=.running,dying:=none,offers:=offers } w) 0).1=.next (solo {frame:={fr with defers:=ds },callers,status:=.running,dying:=none } {w with heap:=w.heap.setIfInBounds r (.deferred none) })):=by
     have bad:∀es:Array Event,∀h:Halt,(Instr.takeDeferred r).runT P w #[]=(.halt h w,es)→∃o,(runT P (solo {frame:=fr,callers:=callers,status:=.running,dying:=none,offers:=offers } w) 0).1=.ended o w:=fun es h hh=>by
      rw[hh] at e1
      exact⟨_,aY (es:=_) (e1.trans (by simp only[GStep.after] <;> rfl))⟩
     cases ho:w.heap[r]? with
     | none=>exact .inl (bad #[] _ (by simp[Instr.takeDeferred,getObj,Bind.bind,Sem.bind,Sem.runT,ho,-Sem.runT_eq];first|rfl|exact⟨rfl,rfl⟩))
     | some o=>
       cases o with
       | deferred c=>
         cases c with
         | none=>exact .inl (bad _ _ (by simp[Instr.takeDeferred,getObj,Bind.bind,Sem.bind,Sem.runT,ho,stuck,-Sem.runT_eq];first|rfl|exact⟨rfl,rfl⟩))
         | some l=>
           obtain rfl:=hr l ho
           refine .inr ⟨rfl,?_⟩
           have hrun:∃es,(Instr.takeDeferred r).runT P w #[]=(.ok [] {w with heap:=w.heap.setIfInBounds r (.deferred none) },es):=⟨_,by simp[Instr.takeDeferred,getObj,setObj,Bind.bind,Sem.bind,Sem.runT,ho,Pure.pure,-Sem.runT_eq];rfl⟩
           obtain⟨es,hrun⟩:=hrun
           rw[hrun] at e1
           have:=runT_solo_go (P:=P) (a:={frame:=fr,callers:=callers,status:=.running,dying:=none,offers:=offers }) (a':={frame:={fr with defers:=ds },callers,status:=.running,dying:=none }) (w:=w) (w':={w with heap:=w.heap.setIfInBounds r (.deferred none) }) (es:=seen P fr.fn es ++ #[]) (by rw[e1];simp[GStep.after])
           rw[this]
       | cells c t f=>exact .inl (bad _ _ (by simp[Instr.takeDeferred,getObj,Bind.bind,Sem.bind,Sem.runT,ho,-Sem.runT_eq];first|rfl|exact⟨rfl,rfl⟩))
       | _=>exact .inl (bad _ _ (by simp[Instr.takeDeferred,getObj,Bind.bind,Sem.bind,Sem.runT,ho,stuck,-Sem.runT_eq];first|rfl|exact⟨rfl,rfl⟩))
    rcases key with⟨o,k⟩|⟨_,k⟩
    ·rw[k] at hs;cases hs
    ·rw[k] at hs
     simp only[Stepped.next.injEq] at hs
     refine⟨_,_,hs.symm,⟨.inr (.inr ⟨rfl,rfl,⟨chain,h3⟩,⟨h4.fn,fun d hd=>(hds d hd).taken r⟩,fun c hc=>(h6 c hc).taken r⟩)⟩⟩
  | nil=>
    cases callers with
    | cons c rest=>
      have e2:stepG P true {frame:=fr,callers:=c :: rest,status:=.running,dying:=none,offers:=offers } w=.go {frame:=c.raise chain,callers:=rest,status:=.running,dying:=none } w #[]:=by
       rw[e];simp[unwind,hdf,h3,EM]
      rw[runT_solo_go e2] at hs
      cases hs
      simp only[List.forall_mem_cons] at h6
      exact⟨_,w,rfl,⟨.inr (.inr ⟨rfl,rfl,(raise_mode c chain).1,h6.1.raise chain,h6.2⟩)⟩⟩
    | nil=>
      by_cases hg:chain.head?.any (·.goexit)=true
      ·have e2:stepG P true {frame:=fr,callers:=[],status:=.running,dying:=none,offers:=offers } w=.go {frame:=fr,callers:=[],status:=.finished,dying:=none } w #[]:=by
        rw[e];simp only[unwind,hdf,h3,EM,Bool.false_eq_true,if_false,if_pos hg]
       rw[runT_solo_go e2] at hs
       cases hs
       exact⟨_,w,rfl,⟨.inr (.inl (.inr (.inr rfl)))⟩⟩
      ·cases hr:(reportChain chain false).run P w with
       | ok todo w2=>
         have e2:=e
         simp only[unwind,hdf,h3,EM,Bool.false_eq_true,if_false,if_neg hg,hr] at e2
         rw[runT_solo_go e2] at hs
         cases hs
         exact⟨_,w2,rfl,⟨.inl rfl⟩⟩
       | halt h0 w2=>
         have e2:=e
         simp only[unwind,hdf,h3,EM,Bool.false_eq_true,if_false,if_neg hg,hr] at e2
         cases h0 <;> (simp only at e2;rw[aY e2] at hs;cases hs)
theorem PK{F:Fence}(hal:F.alive=true){m m':Machine}(h:StepsIn (Machine.fenced P F) P m m'):∀ {g:Goroutine} {w:World},m=solo g w→OP P g w→∃g1 w1,m'=solo g1 w1∧OP P g1 w1:=by
 induction h with
 | refl m=>intro g w e hd;exact⟨g,w,e,hd⟩
 | head hI hs _ ih=>
   intro g w e hd
   subst e
   have ha:=(hI g (by simp[solo])).1 hal
   obtain⟨g1,w1,e1,hd1⟩:=PL hd ha hs
   exact ih e1 hd1
theorem Dead.heap{α:Type}{s:Sem α}(h:Dead s):∀ (w:World) (e:Halt) (w1:World),s.run P w=.halt e w1→w1.heap=w.heap:=by
 induction s with
 | shape r k ih=>intro w e w1 hr;exact ih _ (h _) w e w1 hr
 | frozen r k ih=>intro w e w1 hr;exact ih _ (h _) w e w1 hr
 | choose q k ih=>
   intro w e w1 hr
   simp only[Sem.run] at hr
   split at hr
   ·have:=ih _ (h _) _ _ _ hr;exact this
   ·have:=ih _ (h _) _ _ _ hr;exact this
 | mark m k ih=>intro w e w1 hr;exact ih h w e w1 hr
 | halt e0=>intro w e w1 hr;simp only[Sem.run,Result.halt.injEq] at hr;rw[hr.2]
 | _=>exact h.elim
theorem SR.Nz{α β:Type}{Q:Ren→α→β→Prop}{s:Sem α}:∀ {ρ:Ren} {s':Sem β} {w w':World},SR P Q ρ s s'→WR ρ w w'→∀ {e:Halt} {w1:World},s.run P w=.halt e w1→∃ρ1 w1',Le ρ ρ1∧WR ρ1 w1 w1':=by
 induction s with
 | pure a=>rintro ρ s' w w' h hw e w1 hr;simp[Sem.run] at hr
 | load m a k ih=>
   rintro ρ s' w w' ⟨a',k',rfl,rfl,ha,hk⟩ hw e w1 hr
   cases hv:w.cell? a with
   | none=>
     obtain⟨e0,he,ht⟩:=Vh (P:=P) hw ha.1 (a:=a) (Mode.plain == Mode.atomic)
     simp only[Sem.run,hv,he,Result.halt.injEq] at hr
     exact⟨ρ,w',.refl ρ,hr.2 ▸ hw⟩
   | some v=>
     obtain⟨v',hv',An⟩:=rV hw ha hv
     simp only[Sem.run,hv] at hr
     exact ih v (hk ρ (.refl hw.inj) v v' An) hw hr
 | store m a v k ih=>
   rintro ρ s' w w' ⟨a',v',k',rfl,rfl,ha,hv,hk⟩ hw e w1 hr
   by_cases h1:∀c,v≠.agg c
   ·by_cases h2:∀c,v≠.tuple c
    ·rw[run_store h1 h2] at hr
     cases hx:w.cell? a with
     | none=>
       obtain⟨e0,he,ht⟩:=Oe (P:=P) hw ha.1 (a:=a) v (Mode.plain == Mode.atomic)
       simp only[hx,he,Result.halt.injEq] at hr
       exact⟨ρ,w',.refl ρ,hr.2 ▸ hw⟩
     | some x0=>
       cases hf:w.frozen? a with
       | true=>simp only[hx,hf,if_true,Result.halt.injEq] at hr;exact⟨ρ,w',.refl ρ,hr.2 ▸ hw⟩
       | false=>simp only[hx,hf,Bool.false_eq_true,if_false] at hr;exact ih hk (hw.setCell ha hv) hr
    ·simp only[ne_eq,Classical.not_forall,Classical.not_not] at h2
     obtain⟨c,rfl⟩:=h2
     simp only[Sem.run,Result.halt.injEq] at hr
     exact⟨ρ,w',.refl ρ,hr.2 ▸ hw⟩
   ·simp only[ne_eq,Classical.not_forall,Classical.not_not] at h1
    obtain⟨c,rfl⟩:=h1
    simp only[Sem.run,Result.halt.injEq] at hr
    exact⟨ρ,w',.refl ρ,hr.2 ▸ hw⟩
 | new o k ih=>
   rintro ρ s' w w' ⟨o',k',rfl,ho,hk⟩ hw e w1 hr
   obtain⟨le,hw2⟩:=hw.new ho
   obtain⟨ρ1,w1',h1,h2⟩:=ih w.heap.size (hk _ ⟨le,hw2.inj⟩ w.heap.size w'.heap.size (by simp[Ren.put])) hw2 hr
   exact⟨ρ1,w1',le.trans h1,h2⟩
 | shape r k ih=>
   rintro ρ s' w w' ⟨r',k',rfl,e0,hk⟩ hw e w1 hr
   exact ih (w.shape? r) (hk _) hw hr
 | getObj r k ih=>
   rintro ρ s' w w' ⟨r',k',rfl,e0,hk⟩ hw e w1 hr
   obtain⟨o,o',h1,h2,ho⟩:=hw.obj _ _ e0
   have hcell:(∃c t f,o=.cells c t f)∨∀c t f,o≠.cells c t f:=by cases ho <;> first|exact .inl ⟨_,_,_,rfl⟩|exact .inr (fun _ _ _ h=>by cases h)
   rcases hcell with⟨c,t,f,rfl⟩|hn
   ·simp only[Sem.run,h1,Result.halt.injEq] at hr
    exact⟨ρ,w',.refl ρ,hr.2 ▸ hw⟩
   ·have:(Sem.getObj r k).run P w=(k o).run P w:=by
     cases o <;> first|exact absurd rfl (hn _ _ _)|simp only[Sem.run,h1]
    rw[this] at hr
    exact ih o (hk ρ (.refl hw.inj) _ _ ho) hw hr
 | setObj r o k ih=>
   rintro ρ s' w w' ⟨r',o',k',rfl,e0,ho,hk⟩ hw e w1 hr
   obtain⟨p,p',h1,h2,hp⟩:=hw.obj _ _ e0
   have hcell:(∃c t f,p=.cells c t f)∨∀c t f,p≠.cells c t f:=by cases hp <;> first|exact .inl ⟨_,_,_,rfl⟩|exact .inr (fun _ _ _ h=>by cases h)
   rcases hcell with⟨c,t,f,rfl⟩|hn
   ·simp only[Sem.run,h1,Result.halt.injEq] at hr
    exact⟨ρ,w',.refl ρ,hr.2 ▸ hw⟩
   ·have:(Sem.setObj r o k).run P w=k.run P {w with heap:=w.heap.setIfInBounds r o }:=by
     cases p <;> first|exact absurd rfl (hn _ _ _)|simp only[Sem.run,h1]
    rw[this] at hr
    exact ih hk (hw.setObj e0 ho) hr
 | choose q k ih=>
   rintro ρ s' w w' ⟨k',rfl,hk⟩ hw e w1 hr
   by_cases hf:q.forced=true
   ·simp only[Sem.run,if_pos hf] at hr
    exact ih 0 (hk _) hw hr
   ·have hw2:WR ρ {w with drawn:=w.drawn+1 } {w' with drawn:=w'.drawn+1 }:=⟨hw.obj,hw.inj⟩
    simp only[Sem.run,if_neg hf] at hr
    exact ih _ (hk _) hw2 hr
 | program k ih=>
   rintro ρ s' w w' ⟨k',rfl,hk⟩ hw e w1 hr
   exact ih P hk hw hr
 | halt h0=>
   rintro ρ s' w w' ht hw e w1 hr
   simp only[Sem.run,Result.halt.injEq] at hr
   exact⟨ρ,w',.refl ρ,hr.2 ▸ hw⟩
 | freeze a n k ih=>intro ρ s' w w' h;exact h.elim
 | frozen a k ih=>
   intro ρ s' w w' h hw e w1 hr
   have:=(h (w.frozen? a)).heap (P:=P) w e w1 hr
   exact⟨ρ,w',.refl ρ,⟨fun b b' eb=>by obtain⟨o,o',h1,h2,h3⟩:=hw.obj b b' eb;exact⟨o,o',by rw[this];exact h1,h2,h3⟩,hw.inj⟩⟩
 | sys c k ih=>intro ρ s' w w' h;exact h.elim
 | mark m k ih=>
   rintro ρ s' w w' ⟨k',rfl,rfl,hk⟩ hw e w1 hr
   exact ih hk hw hr
theorem SR.ok{α β:Type}{Q:Ren→α→β→Prop}{s:Sem α}{s':Sem β}{w w' w1:World}{a:α}(h:SR P Q ρ s s')(hw:WR ρ w w')(hr:s.run P w=.ok a w1):∃ρ1 b w1',Q ρ1 a b∧WR ρ1 w1 w1'∧Le ρ ρ1:=by
 have hw2:WR ρ w {w' with tape:=w.tape,drawn:=w.drawn }:=⟨hw.obj,hw.inj⟩
 obtain⟨ρ1,b,w1',O1,new,_,hq,hR⟩:=SR.runT (C:=fun _=>True) (O:=fun _=>True) (es:=#[]) h hw2 (fun k q=>rfl) (fun _ _ _=>.inr trivial) hr
 exact⟨ρ1,b,w1',hq,hR.wr,hR.le⟩
theorem xC{α:Type}(a:Ask α):∀w:World,(w.ask a).2.heap=w.heap:=by
 induction a with
 | done a=>intro w;simp[World.ask]
 | ask what range k ih=>
   intro w
   simp only[World.ask]
   split
   ·exact ih _ _
   ·rw[ih]
theorem Af(w:World)(c:Sys):(w.sys c).2.heap=w.heap:=by
 unfold World.sys
 have:=xC (Kernel.perform c w.os) w
 generalize w.ask (Kernel.perform c w.os)=r at this
 obtain⟨⟨r,os⟩,w1⟩:=r
 simp only at this
 cases r <;> simp[this]
def Pushes{α:Type}:Sem α→Prop
 | .pure _=>True
 | .load _ _ k=>∀v,Pushes (k v)
 | .store _ _ _ _=>False
 | .new _ k=>∀r,Pushes (k r)
 | .shape _ k=>∀r,Pushes (k r)
 | .freeze _ _ _=>False
 | .frozen _ k=>∀r,Pushes (k r)
 | .getObj _ k=>∀r,Pushes (k r)
 | .setObj _ _ _=>False
 | .choose _ k=>∀r,Pushes (k r)
 | .sys _ k=>∀r,Pushes (k r)
 | .program k=>∀r,Pushes (k r)
 | .mark _ k=>Pushes k
 | .halt _=>True
def Result.world{α:Type}:Result α→World
 | .ok _ w=>w
 | .halt _ w=>w
theorem Pushes.old{α:Type}{s:Sem α}(h:Pushes s):∀w:World,w.heap.size≤(Result.world (s.run P w)).heap.size∧∀b,b<w.heap.size→(Result.world (s.run P w)).heap[b]? =w.heap[b]?:=by
 induction s with
 | pure a=>intro w;exact⟨zL,fun _ _=>rfl⟩
 | load m a k ih=>
   intro w
   simp only[Sem.run]
   cases w.cell? a with
   | some v=>exact ih v (h v) w
   | none=>
     simp only
     cases w.farLoad P a (m == .atomic) with
     | ok r=>obtain⟨v,t⟩:=r;exact ih v (h v) w
     | error e=>exact⟨zL,fun _ _=>rfl⟩
 | new o k ih=>
   intro w
   simp only[Sem.run]
   obtain⟨h1,h2⟩:=ih w.heap.size (h _) {w with heap:=w.heap.push o }
   simp only[Array.size_push] at h1
   refine⟨zo,fun b hb=>?_⟩
   rw[h2 b zm]
   simp only[Array.getElem?_push_lt hb]
   rw[Array.getElem?_eq_getElem hb]
 | shape r k ih=>intro w;exact ih _ (h _) w
 | frozen r k ih=>intro w;exact ih _ (h _) w
 | getObj r k ih=>
   intro w
   simp only[Sem.run]
   cases w.heap[r]? with
   | none=>exact⟨zL,fun _ _=>rfl⟩
   | some o=>cases o <;> first|exact⟨zL,fun _ _=>rfl⟩|exact ih _ (h _) w
 | choose q k ih=>
   intro w
   simp only[Sem.run]
   split
   ·exact ih _ (h _) w
   ·exact ih _ (h _) {w with drawn:=w.drawn+1 }
 | sys c k ih=>
   intro w
   simp only[Sem.run]
   have:=ih (w.sys c).1 (h _) (w.sys c).2
   rw[Af] at this
   exact this
 | program k ih=>intro w;exact ih P (h P) w
 | mark m k ih=>intro w;exact ih h w
 | halt e=>intro w;exact⟨zL,fun _ _=>rfl⟩
 | _=>exact h.elim
theorem Pushes.bind{α β:Type}{s:Sem α}{f:α→Sem β}(h:Pushes s)(hf:∀a,Pushes (f a)):Pushes (s >>= f):=by
 show Pushes (s.bind f)
 induction s with
 | pure a=>exact hf a
 | load m a k ih=>exact fun v=>ih v (h v)
 | new o k ih=>exact fun v=>ih v (h v)
 | shape r k ih=>exact fun v=>ih v (h v)
 | frozen r k ih=>exact fun v=>ih v (h v)
 | getObj r k ih=>exact fun v=>ih v (h v)
 | choose r k ih=>exact fun v=>ih v (h v)
 | sys r k ih=>exact fun v=>ih v (h v)
 | program k ih=>exact fun v=>ih v (h v)
 | mark m k ih=>exact ih h
 | halt e=>trivial
 | _=>exact h.elim
theorem I6(x:Value)(w:World):∃e w2,(Instr.panic x).run P w=.halt e w2∧um e∧∀b,b<w.heap.size→w2.heap[b]? =w.heap[b]?:=by
 have hel:∀t,Pushes (elemOf t):=fun t=>by
  unfold elemOf
  refine Pushes.bind (fun p=>?_) fun d=>?_
  ·show Pushes (match p.underlying t with|some d=>pure d|none=>stuck "no such type")
   cases p.underlying t <;> trivial
  ·cases d <;> trivial
 have hrp:Pushes (runtimePanic .panicNil:Sem Value):=Pushes.bind (s:=program) (fun p=>trivial) fun p=>Pushes.bind (hel _) fun e=>Pushes.bind (s:=newVar e (.agg #[])) (fun r=>trivial) fun r=>trivial
 have hnil:Pushes (Instr.panic .nilIface):=by
  unfold Instr.panic Instr.panicnil
  refine Pushes.bind (Pushes.bind (fun r=>trivial) fun r=>?_) fun n=>?_
  ·cases r <;> first|trivial|exact fun p=>trivial
  ·split
   ·trivial
   ·exact hrp
 have key:∀s:Sem Value,Pushes s→(∀w1 v,s.run P w≠.ok v w1)→(∀e w1,s.run P w=.halt e w1→um e)→∃e w2,s.run P w=.halt e w2∧um e∧∀b,b<w.heap.size→w2.heap[b]? =w.heap[b]?:=fun s hs h1 h2=>by
  have:=(hs.old (P:=P) w).2
  cases hr:s.run P w with
  | ok v w1=>exact absurd hr (h1 w1 v)
  | halt e w1=>rw[hr] at this;exact⟨e,w1,rfl,h2 e w1 hr,this⟩
 cases x with
 | iface t v=>exact⟨_,w,rfl,zT,fun _ _=>rfl⟩
 | nilIface=>
   have hr:∀w1,∃e w2,(runtimePanic .panicNil:Sem Value).run P w1=.halt e w2∧um e:=fun w1=>by
    unfold runtimePanic
    simp only[program,Bind.bind,Sem.bind,Sem.run,elemOf,underlying]
    cases P.underlying P.rt.panicNilError with
    | none=>exact⟨_,_,rfl,zT⟩
    | some d=>cases d <;> exact⟨_,_,rfl,zT⟩
   have hp:(∃n w1,Instr.panicnil.run P w=.ok n w1)∨∃w1 m,Instr.panicnil.run P w=.halt (.stuck m) w1:=by
    unfold Instr.panicnil
    simp only[sys,program,Bind.bind,Sem.bind,Sem.run]
    cases (w.sys .env).1 <;> first|exact .inl ⟨_,_,rfl⟩|exact .inr ⟨_,_,rfl⟩
   refine key _ hnil ?_ ?_
   ·intro w1 v h
    simp only[Instr.panic,Sem.run_bind] at h
    rcases hp with⟨n,w2,e⟩|⟨w2,m,e⟩
    ·rw[e] at h
     change Sem.run P (if (n == 1)=true then goPanic Value.nilIface else runtimePanic RuntimeError.panicNil) w2=_ at h
     split at h
     ·cases h
     ·obtain⟨e3,w3,e4,_⟩:=hr w2;rw[e4] at h;cases h
    ·rw[e] at h;cases h
   ·intro e0 w1 h
    simp only[Instr.panic,Sem.run_bind] at h
    rcases hp with⟨n,w2,e⟩|⟨w2,m,e⟩
    ·rw[e] at h
     change Sem.run P (if (n == 1)=true then goPanic Value.nilIface else runtimePanic RuntimeError.panicNil) w2=_ at h
     split at h
     ·simp only[goPanic,Sem.run,Result.halt.injEq] at h;rw[← h.1];trivial
     ·obtain⟨e3,w3,e4,ht⟩:=hr w2;rw[e4] at h;cases h;exact ht
    ·rw[e] at h;cases h;trivial
 | _=>exact⟨_,w,rfl,zT,fun _ _=>rfl⟩
def Bad(P:Program)(s:GStep):Prop:=(∃o w es,s=.ended o w es)∨∃g w es,s=.go g w es∧OP P g w
theorem jJ{es:Array Event}{s:GStep}(h:Bad P s):Bad P (GStep.after es s):=by
 rcases h with⟨o,w,e,rfl⟩|⟨g,w,e,rfl,hd⟩
 ·exact .inl ⟨_,_,_,rfl⟩
 ·exact .inr ⟨_,_,_,rfl,hd⟩
theorem EC(fr:Frame)(L:List Frame)(m:String)(w:World):Bad P (endFatal P fr L none m w):=by
 unfold endFatal
 dsimp only
 split
 ·exact .inr ⟨_,_,_,rfl,⟨.inl rfl⟩⟩
 ·exact .inl ⟨_,_,_,rfl⟩
 ·exact .inl ⟨_,_,_,rfl⟩
theorem lQ{fr:Frame}{L:List Frame}{s:Sem Next}{w w2:World}{e:Halt}(hk:fr.kind=.normal)(hr:s.run P w=.halt e w2)(ht:um e)(hd:jl P w2 fr)(hL:∀c∈L,jl P w2 c):Bad P (stepG.apply P true fr L none s w):=by
 have xp:∀vs,OP P {frame:=fr.raise vs,callers:=L,status:=.running,dying:=none } w2:=fun vs=>
  ⟨.inr (.inr ⟨rfl,rfl,(raise_mode fr vs).1,hd.raise vs,hL⟩)⟩
 have lost:∀ (o:Outcome) (w:World),Bad P (.ended o w):=fun o w=>.inl ⟨o,w,_,rfl⟩
 unfold stepG.apply
 dsimp only
 rw[if_pos rfl]
 have hT:=Sem.runT_fst P s w #[]
 rw[hr] at hT
 generalize ri:Sem.runT P s w #[]=T at hT⊢
 obtain⟨r,es⟩:=T
 simp only at hT
 subst hT
 dsimp only
 refine jJ ?_
 cases e with
 | panic v=>exact .inr ⟨_,_,_,rfl,xp _⟩
 | blocked=>exact ht.elim
 | waiting=>exact ht.elim
 | exit c=>exact lost _ _
 | fatal m=>exact EC _ _ _ _
 | throw m=>exact .inr ⟨_,_,_,rfl,⟨.inl rfl⟩⟩
 | unsupported u=>
   cases u with
   | initOrder g=>exact ht.elim
   | _=>exact lost _ _
 | stuck s=>exact lost _ _
 | goexit=>exact ht.elim
theorem yA{w w':World}{a b:List Deferred}(h:dQ ρ a b)(hw:WR ρ w w'):∀d∈a,wX w d:=by
 obtain⟨x,x',rfl,rfl,_,h2⟩:=h
 intro d hd
 obtain⟨r,hr,rfl⟩:=List.mem_map.1 hd
 obtain⟨i,hi,rfl⟩:=List.mem_iff_getElem.1 hr
 obtain⟨r',_,e⟩:=h2 i x[i] (by simp[hi])
 refine⟨x[i],rfl,fun ds hds=>?_⟩
 obtain⟨o,o',h1,_,h3⟩:=hw.obj _ _ e
 rw[hds] at h1
 cases h1
 cases h3 with
 | defs h=>
   rcases h with h|h
   ·cases h
   ·cases h;rfl
def NE(F:FuncId→Prop)(ρ:Ren):Next→Next→Prop
 | .enter f a,n=>∃a',n=.enter f a'∧dX ρ a a'∧F f
 | .round l f t a b,n=>∃l' t',n=.round l' f t' a b∧ρ l=some l'∧dX ρ t t'∧jw f a∧jw f b
 | _,_=>False
theorem Pm{F:FuncId→Prop}(hi:dL ρ){v v':Value}(hl:gR P F v)(hv:VR ρ v v'){a a':Array Value}(ha:dX ρ a a'):SR P (NE F) ρ (qh v a) (qh v' a'):=by
 cases hv with
 | func g e1 h1 e2 h2=>
   obtain⟨f,c,hF,hg,hb,hn⟩:=hl _ _ _ rfl
   have key:∀ (x y:Array Value),qh (.func (.func g) x y) a=callFunc g ((x ++ a) ++ y):=fun _ _=>rfl
   have key':∀ (x y:Array Value),qh (.func (.func g) x y) a'=callFunc g ((x ++ a') ++ y):=fun _ _=>rfl
   rw[key,key']
   have hbn:f.body.isNone=false:=by rw[hb];rfl
   have hargs:=(dX.append (ρ:=ρ) (dX.append ⟨e1,h1⟩ ha) ⟨e2,h2⟩)
   unfold callFunc
   refine⟨_,rfl,?_⟩
   show SR P (NE F) ρ (match P.funcs[g]? with|none=>_|some fn=>_) (match P.funcs[g]? with|none=>_|some fn=>_)
   rw[hg]
   simp only[hn,hbn,Bool.false_eq_true,if_false]
   exact SR.pure ⟨_,rfl,hargs,hF⟩
 | yield hr=>
   show SR P (NE F) ρ (Instr.yield _ (#[] ++ a)) (Instr.yield _ (#[] ++ a'))
   rw[Array.empty_append,Array.empty_append]
   refine SR.imp (fun ρ1 n n' h=>?_) hi (D7 hi hr ha)
   cases n <;> first|exact h.elim|exact h
 | nilFunc=>exact aR (e:=.nilDeref) zs zs
 | _=>exact zT
theorem QS(hg:P.globals.size=0){F:FuncId→Prop}(hF:gP P F)(hin:∀g,F g→P.inits.idxOf? g=none){s s':Frame × List Frame}{w w' w1:World}{e:Halt}(hst:cJ ρ s s')(ok:Gt P F s)(hw:WR ρ w w')(hl:Cr P F s.1)
 (hne:¬ (s.1.mode=.returning∧s.2=[]∧s.1.defers=[]))(h:(gu P s.1 s.2).run P w=.halt e w1):Bad P (stepG P true (G s.1 s.2) w):=by
 obtain⟨fr,L⟩:=s
 obtain⟨fr',L'⟩:=s'
 obtain⟨hfr,hL⟩:=hst
 obtain⟨ok,qw⟩:=ok
 simp only at hfr hL ok qw hl hne h⊢
 have lost:∀ (o:Outcome) (w:World),Bad P (.ended o w):=fun o w=>.inl ⟨o,w,_,rfl⟩
 have hsome:∀c,jP P F c→(P.funcs[c.fn]?).isSome=true:=fun c hc=>by
  obtain⟨f,_,h1,_⟩:=hF.sv _ hc.fn
  rw[h1];rfl
 have CP:∀ {ρ1:Ren} {w2 w2':World},Le ρ ρ1→WR ρ1 w2 w2'→∀c∈L,jl P w2 c:=by
  intro ρ1 w2 w2' l hw2
  clear hl hne h hfr
  induction hL with
  | nil=>intro c hc;cases hc
  | cons h1 h2 ih=>
    simp only[List.forall_mem_cons] at qw⊢
    exact⟨⟨hsome _ qw.1,yA (h1.defers.mono l) hw2⟩,ih qw.2⟩
 have Hy:∀ {ρ1:Ren} {w2 w2':World},Le ρ ρ1→WR ρ1 w2 w2'→jl P w2 fr:=fun l hw2=>⟨hsome _ ok,yA (hfr.defers.mono l) hw2⟩
 have hev:∀x,qI x→VR ρ (fr.eval x) (fr'.eval x):=fun x=>H8 hfr
 have hi:=hw.inj
 have hsf:=hsome fr ok
 have hleave:∀jump,(lu fr L jump).run P w=.halt e w1→Bad P (iO P true fr L jump w):=by
  intro jump hh
  unfold lu at hh
  unfold iO
  cases hr:fr.roundOf with
  | none=>
    rw[hr] at hh
    dsimp only at hh⊢
    cases jump with
    | none=>simp only[Pure.pure,Sem.run] at hh;cases hh
    | some j=>
      cases j with
      | ret=>simp only[Pure.pure,Sem.run] at hh;cases hh
      | _=>rw[if_neg zs];exact lost _ _
  | some l=>
    rw[hr] at hh
    dsimp only at hh⊢
    have hT:=Sem.runT_fst P (Instr.endRound l jump) w #[]
    generalize ri:Sem.runT P (Instr.endRound l jump) w #[]=T at hT⊢
    obtain⟨r,es⟩:=T
    simp only at hT
    subst hT
    refine jJ ?_
    cases hrun:(Instr.endRound l jump).run P w with
    | halt e2 w2=>exact lost _ _
    | ok v w2=>
      cases L with
      | cons c L=>exfalso;simp[Sem.run_bind,hrun,Sem.run,pure] at hh
      | nil=>
        have:=hin _ ok.fn
        simp only[doReturn,ok.kind,this,Bool.not_true,Bool.false_eq_true,if_false]
        exact lost _ _
 obtain⟨hfn,htodo,⟨dx,hd⟩,hm,hk⟩:=ok
 obtain⟨fn,tmps,todo,defers,mode,kind,roundOf⟩:=fr
 simp only at hfn htodo hd hm hk hne
 subst hk
 rcases hm with rfl|rfl
 ·unfold gu at h
  dsimp only at h
  cases todo with
  | nil=>
    have e1:stepG P true (G {fn:=fn,tmps:=tmps,todo:=[],defers:=defers,mode:=.run,kind:=.normal,roundOf:=roundOf } L) w=iO P true {fn:=fn,tmps:=tmps,todo:=[],defers:=defers,mode:=.run,kind:=.normal,roundOf:=roundOf } L none w:=by
     simp only[G,stepG,stepG.exec,iO] <;> rfl
    rw[e1];exact hleave none h
  | cons i k=>
    have ht:=htodo i zs
    cases i with
    | code c=>
      cases c with
      | ret=>
        have e1:stepG P true (G {fn:=fn,tmps:=tmps,todo:=.code .ret :: k,defers:=defers,mode:=.run,kind:=.normal,roundOf:=roundOf } L) w=iO P true {fn:=fn,tmps:=tmps,todo:=.code .ret :: k,defers:=defers,mode:=.run,kind:=.normal,roundOf:=roundOf } L (some .ret) w:=by
         simp only[G,stepG,stepG.exec,iO] <;> rfl
        rw[e1];exact hleave _ h
      | cond x a b=>
        dsimp only at h
        generalize Su:Frame.eval {fn:=fn,tmps:=tmps,todo:=.code (.cond x a b) :: k,defers:=defers,mode:=.run,kind:=.normal,roundOf:=roundOf } x=v at h
        cases v with
        | bool b=>simp only[Pure.pure,Sem.run] at h;cases h
        | _=>simp only[G,stepG,stepG.exec,Su];exact lost _ _
      | exit id=>
        dsimp only at h
        cases he:exitTo id k with
        | none=>
          rw[he] at h
          have e1:stepG P true (G {fn:=fn,tmps:=tmps,todo:=.code (.exit id) :: k,defers:=defers,mode:=.run,kind:=.normal,roundOf:=roundOf } L) w=iO P true {fn:=fn,tmps:=tmps,todo:=.code (.exit id) :: k,defers:=defers,mode:=.run,kind:=.normal,roundOf:=roundOf } L (some (.exit id)) w:=by
           simp only[G,stepG,stepG.exec,iO,he] <;> rfl
          rw[e1];exact hleave _ h
        | some k'=>rw[he] at h;simp only[Pure.pure,Sem.run] at h;cases h
      | region id ops draw=>
        cases draw with
        | false=>simp only[Bool.not_false,if_true,Pure.pure,Sem.run] at h;cases h
        | true=>
          simp only[Bool.not_true,Bool.false_eq_true,if_false,choose,Bind.bind,Sem.bind,Pure.pure,Sem.run] at h
          split at h <;> cases h
      | goto l=>exact ht.elim
      | rangeFunc f ps a b=>
        dsimp only at h
        have hf:=hev f ht.1
        have lk:=hl.iter f ps a b k rfl rfl
        have hent:=ql (P:=P) hi hfr.tmps ps ((hF.env _ _).2 ⟨hfn,ht.2.1⟩) ((hF.env _ _).2 ⟨hfn,ht.2.2⟩) hfr.round
        simp only[G,stepG,stepG.exec]
        have hT:=Sem.runT_fst P (Instr.enterLoop fn tmps ps a b roundOf) w #[]
        generalize ri:Sem.runT P (Instr.enterLoop fn tmps ps a b roundOf) w #[]=T at hT⊢
        obtain⟨r,es⟩:=T
        simp only at hT
        subst hT
        refine jJ ?_
        cases hrun:(Instr.enterLoop fn tmps ps a b roundOf).run P w with
        | halt e2 w2=>exact lost _ _
        | ok x w2=>
          obtain⟨ρ1,x',w2',hx,hw2,l1⟩:=hent.ok hw hrun
          obtain⟨l,mark⟩:=x
          dsimp only
          have hcs:=Pm (F:=F) hw2.inj lk (hf.mono l1) (dX.push (dX.nil ρ1) (.yield hx.1))
          have e0:(do let d ← resolve (Frame.eval {fn:=fn,tmps:=tmps,todo:=.inRangeFunc l :: k,defers:=mark ++ defers,mode:=.run,kind:=.normal,roundOf:=roundOf }) {callee:=.value f,args:=#[.const (.func (.yield l) #[] #[])],argTypes:=#[] } 0;invoke d.target d.args:Sem Next)=qh (Frame.eval {fn:=fn,tmps:=tmps,todo:=.code (.rangeFunc f ps a b) :: k,defers:=defers,mode:=.run,kind:=.normal,roundOf:=roundOf } f) #[.func (.yield l) #[] #[]]:=by
           unfold qh
           cases f <;> simp[resolve,Frame.eval]
          rw[e0]
          cases Iq:(qh (Frame.eval {fn:=fn,tmps:=tmps,todo:=.code (.rangeFunc f ps a b) :: k,defers:=defers,mode:=.run,kind:=.normal,roundOf:=roundOf } f) #[.func (.yield l) #[] #[]]).run P w2 with
          | halt e3 w3=>
            obtain⟨ρ2,w3',l2,hw3⟩:=hcs.Nz hw2 Iq
            refine lQ rfl Iq ((hcs.lc hw2).1 e3 w3 Iq) ⟨hsf,?_⟩ (CP (l1.trans l2) hw3)
            exact yA (((hx.2).mono l2).append (hfr.defers.mono (l1.trans l2))) hw3
          | ok n w3=>
            exfalso
            obtain⟨ρ2,n',w3',hn,_,_⟩:=hcs.ok hw2 Iq
            simp only[Sem.run_bind,hrun] at h
            change ((Sem.run P (qh _ _) w2).andThen fun a w'=>Sem.run P (vC P _ L a) w')=_ at h
            rw[Iq] at h
            change Sem.run P (vC P _ L n) w3=_ at h
            cases n with
            | enter f args=>simp[vC,Sem.run,pure] at h
            | round l g t a b=>simp[vC,Sem.run,pure] at h
            | _=>exact hn.elim
      | refuse y=>simp only[G,stepG,stepG.exec];exact lost _ _
      | _=>simp only[Pure.pure,Sem.run] at h;cases h
    | inRegion ops l=>
      cases l with
      | nil=>simp only[Pure.pure,Sem.run] at h;cases h
      | cons j l=>
        dsimp only at h
        cases hwn:((ops[j]?).map (Region.wanted · (yielded ops tmps))).getD false with
        | false=>
          rw[hwn] at h
          simp only[Bool.false_eq_true,if_false,Pure.pure,Sem.run] at h
          cases h
        | true=>
          rw[hwn] at h
          simp only[if_true] at h
          cases ho:ops[j]? with
          | none=>rw[ho] at hwn;simp at hwn
          | some o=>
            have hwo:Region.wanted o (yielded ops tmps)=true:=by rw[ho] at hwn;exact hwn
            rw[ho] at h
            dsimp only at h
            have RS:qH P o:=ht o (Array.mem_of_getElem? ho)
            have hnd:∀c,o.op≠.defer c:=fun c e=>by have:=RS.2;rw[e] at this;exact this
            have hop:stepG.oper P true {fn:=fn,tmps:=tmps,todo:=.inRegion ops (j :: l) :: k,defers:=defers,mode:=.run,kind:=.normal,roundOf:=roundOf } L none w
             =stepG.apply P true {fn:=fn,tmps:=tmps,todo:=.inRegion ops (j :: l) :: k,defers:=defers,mode:=.run,kind:=.normal,roundOf:=roundOf } L none (execOp (Frame.eval {fn:=fn,tmps:=tmps,todo:=.inRegion ops (j :: l) :: k,defers:=defers,mode:=.run,kind:=.normal,roundOf:=roundOf }) o) w:=by
             simp only[stepG.oper,Frame.oper?,ho]
             split
             ·rename_i e0;exact absurd e0 (hnd _)
             ·rfl
            have hG:stepG P true (G {fn:=fn,tmps:=tmps,todo:=.inRegion ops (j :: l) :: k,defers:=defers,mode:=.run,kind:=.normal,roundOf:=roundOf } L) w
             =stepG.apply P true {fn:=fn,tmps:=tmps,todo:=.inRegion ops (j :: l) :: k,defers:=defers,mode:=.run,kind:=.normal,roundOf:=roundOf } L none (execOp (Frame.eval {fn:=fn,tmps:=tmps,todo:=.inRegion ops (j :: l) :: k,defers:=defers,mode:=.run,kind:=.normal,roundOf:=roundOf }) o) w:=by
             rw[← hop]
             simp only[G,stepG,stepG.exec,ho,hwo,Option.map_some,Option.getD_some,if_true]
            rw[hG]
            cases hpn:sG o.op with
            | true=>
              have hx:∃x,o.op=.panic x:=by cases hq:o.op <;> rw[hq] at hpn <;> first|(cases hpn;done)|exact⟨_,rfl⟩
              obtain⟨x,hx⟩:=hx
              obtain⟨e3,w3,h3,ht3,hold⟩:=I6 (P:=P) (Frame.eval {fn:=fn,tmps:=tmps,todo:=.inRegion ops (j :: l) :: k,defers:=defers,mode:=.run,kind:=.normal,roundOf:=roundOf } x) w
              have hrun:(execOp (Frame.eval {fn:=fn,tmps:=tmps,todo:=.inRegion ops (j :: l) :: k,defers:=defers,mode:=.run,kind:=.normal,roundOf:=roundOf }) o).run P w=.halt e3 w3:=by
               simp only[execOp,hx,Sem.run_bind,h3]
               rfl
              have hwx:WR ρ w3 w':=⟨fun b b' eb=>by
               obtain⟨o,o',h1,h2,h3⟩:=hw.obj b b' eb
               exact⟨o,o',by rw[hold b (hw.lt eb).1];exact h1,h2,h3⟩,hw.inj⟩
              exact lQ rfl hrun ht3 (Hy (.refl ρ) hwx) (CP (.refl ρ) hwx)
            | false=>
              rw[hpn] at h
              simp only[Bool.false_eq_true,if_false] at h
              have hsup:=VZ RS hpn fun c f hc hf=>hl.op ops j l k o c f rfl rfl ho hc hf
              have hx:=xM (ev':=fr'.eval) hg hi hsup fun x hx=>hev x (RS.1 x hx)
              cases hrun:(execOp (Frame.eval {fn:=fn,tmps:=tmps,todo:=.inRegion ops (j :: l) :: k,defers:=defers,mode:=.run,kind:=.normal,roundOf:=roundOf }) o).run P w with
              | halt e3 w3=>
                obtain⟨ρ2,w3',l2,hw3⟩:=hx.Nz hw hrun
                exact lQ rfl hrun ((hx.lc hw).1 e3 w3 hrun) (Hy l2 hw3) (CP l2 hw3)
              | ok n w3=>
                exfalso
                obtain⟨ρ2,n',w3',hn,_,_⟩:=hx.ok hw hrun
                simp only[Sem.run_bind,hrun] at h
                change Sem.run P (vH P _ L n) w3=_ at h
                cases n with
                | value v=>simp[vH,Sem.run,pure] at h
                | skip=>simp[vH,Sem.run,pure] at h
                | enter f args=>simp[vH,Sem.run,pure] at h
                | round l g t a b=>simp[vH,Sem.run,pure] at h
                | _=>exact hn.elim
    | inRangeFunc l=>simp only[G,stepG,stepG.exec];exact lost _ _
    | endRangeFunc l=>
      dsimp only at h
      have htd:=hfr.todo
      generalize ht':fr'.todo=td' at htd
      cases htd with
      | cons hii hkk=>
      cases hii with
      | endRangeFunc hlp=>
      have hx:=vo (P:=P) hi hlp
      simp only[G,stepG,stepG.exec]
      have hT:=Sem.runT_fst P (Instr.endLoop l) w #[]
      generalize ri:Sem.runT P (Instr.endLoop l) w #[]=T at hT⊢
      obtain⟨r,es⟩:=T
      simp only at hT
      subst hT
      refine jJ ?_
      cases hrun:(Instr.endLoop l).run P w with
      | ok v w2=>exfalso;simp[Sem.run_bind,hrun,Sem.run,pure] at h
      | halt e2 w2=>
        obtain⟨ρ2,w3',l2,hw3⟩:=hx.Nz hw hrun
        cases e2 with
        | panic v=>exact .inr ⟨_,_,_,rfl,⟨.inr (.inr ⟨rfl,rfl,(raise_mode _ _).1,(Hy l2 hw3).raise _,CP l2 hw3⟩)⟩⟩
        | _=>exact lost _ _
    | beginRound=>
      dsimp only at h
      have hG:stepG P true (G {fn:=fn,tmps:=tmps,todo:=.beginRound :: k,defers:=defers,mode:=.run,kind:=.normal,roundOf:=roundOf } L) w=stepG.apply P true {fn:=fn,tmps:=tmps,todo:=.beginRound :: k,defers:=defers,mode:=.run,kind:=.normal,roundOf:=roundOf } L none (do Option.elim roundOf (stuck rv) Instr.beginRound;pure .skip) w:=by
       simp only[G,stepG,stepG.exec]
       rfl
      rw[hG]
      cases roundOf with
      | none=>exact lQ (e:=.stuck rv) (w2:=w) rfl (by simp[Sem.run_bind,stuck,Sem.run]) trivial (Hy (.refl ρ) hw) (CP (.refl ρ) hw)
      | some l=>
        rcases hfr.round with⟨e1,_⟩|⟨l0,l',e1,e2,hl2⟩
        ·cases e1
        ·cases e1
         have hx:=nP (P:=P) hi hl2
         cases hrun:(Instr.beginRound l).run P w with
         | ok v w2=>exfalso;simp[Sem.run_bind,hrun,Sem.run,pure] at h
         | halt e2 w2=>
           obtain⟨ρ2,w3',l2,hw3⟩:=hx.Nz hw hrun
           refine lQ (e:=e2) (w2:=w2) rfl ?_ ((hx.lc hw).1 e2 w2 hrun) (Hy l2 hw3) (CP l2 hw3)
           simp only[Option.elim,Sem.run_bind,hrun]
           rfl
    | _=>first
      | exact(show False from ht).elim
      | (simp only[Pure.pure,Sem.run] at h;cases h)
 ·obtain⟨f,c,hf,_⟩:=hF.sv _ hfn
  unfold gu at h
  dsimp only at h
  cases dx with
  | cons r dx=>
    simp only[List.map_cons,jv] at hd
    subst hd
    dsimp only at h
    simp only[G,stepG,unwind]
    have hT:=Sem.runT_fst P (Instr.takeDeferred r) w #[]
    generalize ri:Sem.runT P (Instr.takeDeferred r) w #[]=T at hT⊢
    obtain⟨q,es⟩:=T
    simp only at hT
    subst hT
    refine jJ ?_
    cases hrun:(Instr.takeDeferred r).run P w with
    | ok v w2=>exfalso;simp[Sem.run_bind,hrun,Sem.run,pure] at h
    | halt e2 w2=>exact lost _ _
  | nil=>
    simp only[List.map_nil] at hd
    subst hd
    dsimp only at h
    rw[hf] at h
    cases L with
    | nil=>exact absurd ⟨rfl,rfl,rfl⟩ hne
    | cons c0 L=>
      dsimp only at h
      simp only[G,stepG,unwind,hf]
      have hT:=Sem.runT_fst P (results f tmps) w #[]
      generalize ri:Sem.runT P (results f tmps) w #[]=T at hT⊢
      obtain⟨r,es⟩:=T
      simp only at hT
      subst hT
      refine jJ ?_
      cases hrun:(results f tmps).run P w with
      | ok v w2=>exfalso;simp[Sem.run_bind,hrun,Sem.run,pure] at h
      | halt e2 w2=>cases e2 <;> exact lost _ _
theorem Va{F:Fence}(hF:gP P F.fn){fr:Frame}{w:World}(h:∀f,fr.about P w=some f→F.fn f)
 (hn:∀f ps a b k,fr.mode=.run→fr.todo=.code (.rangeFunc f ps a b) :: k→∃x w1,(Instr.enterLoop fr.fn fr.tmps ps a b fr.roundOf).run P w=.ok x w1):Cr P F.fn fr:=by
 refine⟨fun ops i l k o c f hm ht ho hc hf g first cap hv=>?_,fun f ps a b k hm ht g first cap hv=>?_⟩
 ·have e:fr.about P w=some g:=by
   unfold Frame.about
   dsimp only
   rw[hm,ht]
   simp only[ho,hc,resolve,hf,hv,Deferred.ofValue,pure,Sem.run,Target.leads]
  obtain⟨fc,c,h1,h2,h3,h4⟩:=hF.sv g (h g e)
  exact⟨fc,c,h g e,h1,h2,h3⟩
 ·have e:fr.about P w=some g:=by
   obtain⟨⟨l,mk⟩,w1,hx⟩:=hn f ps a b k hm ht
   unfold Frame.about
   dsimp only
   rw[hm,ht]
   simp only[hx,resolve,hv,Deferred.ofValue,pure,Sem.run,Target.leads]
  obtain⟨fc,c,h1,h2,h3,h4⟩:=hF.sv g (h g e)
  exact⟨fc,c,h g e,h1,h2,h3⟩
structure Two(P:Program)(F:FuncId→Prop)(ρ:Ren)(s:Frame × List Frame)(w:World)(s':Frame × List Frame)(w':World):Prop where
 st:cJ ρ s s'
 ok:Gt P F s
 wr:WR ρ w w'
theorem live(hg:P.globals.size=0){F:Fence}(hF:gP P F.fn)(hin:∀g,F.fn g→P.inits.idxOf? g=none)(hal:F.alive=true){s s':Frame × List Frame}{w w' v:World}{fr:Frame}(h:Two P F.fn ρ s w s' w')
 (hp:StepsIn (Machine.fenced P F) P (solo (G s.1 s.2) w) (lone fr [] v))(hr:fr.mode=.returning):
 (s=(fr,[])∧w=v)∨(s.1.mode=.returning∧s.2=[]∧s.1.defers=[])∨
  (Cr P F.fn s.1∧∃s2 w2,(gu P s.1 s.2).run P w=.ok s2 w2∧StepsIn (Machine.fenced P F) P (solo (G s2.1 s2.2) w2) (lone fr [] v)):=by
 obtain⟨f0,L⟩:=s
 cases hp with
 | refl=>exact .inl ⟨rfl,rfl⟩
 | head hI hs hp=>
   rename_i m1
   by_cases hne:f0.mode=.returning∧L=[]∧f0.defers=[]
   ·exact .inr (.inl hne)
   refine .inr (.inr ?_)
   have hl:Cr P F.fn f0:=Va (w:=w) hF (fun f hf=>(hI (G f0 L) (by simp[solo])).2.2.1 f hf) fun f ps a b k hm ht=>by
    cases hx:(Instr.enterLoop f0.fn f0.tmps ps a b f0.roundOf).run P w with
    | ok x w1=>exact⟨x,w1,rfl⟩
    | halt e w1=>
      exfalso
      obtain⟨fn,tmps,todo,defers,mode,kind,roundOf⟩:=f0
      simp only at hm ht hx
      subst hm
      subst ht
      have hT:=Sem.runT_fst P (Instr.enterLoop fn tmps ps a b roundOf) w #[]
      rw[hx] at hT
      have e1:∃o es,stepG P true (G {fn:=fn,tmps:=tmps,todo:=.code (.rangeFunc f ps a b) :: k,defers:=defers,mode:=.run,kind:=kind,roundOf:=roundOf } L) w=.ended o w1 es:=by
       simp only[G,stepG,stepG.exec]
       generalize Sem.runT P (Instr.enterLoop fn tmps ps a b roundOf) w #[]=T at hT⊢
       obtain⟨r,es⟩:=T
       simp only at hT
       subst hT
       exact⟨_,_,rfl⟩
      obtain⟨o,es,e1⟩:=e1
      rw[step,stepT_solo rfl,aY e1] at hs
      cases hs
   refine⟨hl,?_⟩
   cases hrun:(gu P f0 L).run P w with
   | ok s2 w2=>
     refine⟨s2,w2,rfl,?_⟩
     have hT:=Sem.runT_fst P (gu P f0 L) w #[]
     obtain⟨es',hstep,_⟩:=Aa (cs:=[]) (main:=true) h.ok.1 (show(gu P f0 L).runT P w #[]=(.ok s2 w2,((gu P f0 L).runT P w #[]).2) by rw[← hrun,← hT])
     simp only[List.append_nil] at hstep
     rw[step,stepT_solo rfl,runT_solo_go hstep] at hs
     cases hs
     exact hp
   | halt e w1=>
     exfalso
     have hb:=QS hg hF hin (s:=(f0,L)) h.st h.ok h.wr hl hne hrun
     rw[step,stepT_solo rfl] at hs
     rcases hb with⟨o,w2,es,e1⟩|⟨g,w2,es,e1,hd⟩
     ·rw[aY e1] at hs;cases hs
     ·rw[runT_solo_go e1] at hs
      cases hs
      obtain⟨g1,w3,e3,hd3⟩:=PK hal hp rfl hd
      have eg:g1={frame:=fr,callers:=[],status:=.running,dying:=none }:=by
       have:=congrArg Machine.gs e3
       simp only[lone,solo] at this
       exact(Array.singleton_inj.1 this).symm
      subst eg
      rcases hd3.cases with c|c|⟨_,_,⟨chain,c⟩,_⟩
      ·cases c
      ·rcases c with c|c|c <;> cases c
      ·simp only at c;rw[hr] at c;cases c
end
section
variable[Inhabited aV]
open Go.Conc
variable{P:Program}
abbrev St:=(Frame × List Frame) × World
def SN(P:Program)(a b:St):Prop:=(gu P a.1.1 a.1.2).run P a.2=.ok b.1 b.2
def uO(a:St)(τ:Tape):St:=(a.1,on a.2 τ)
def Rl(P:Program)(F:FuncId→Prop)(a:St):Prop:=Cr P F a.1.1∧∃ρ s' w',Two P F ρ a.1 a.2 s' w'
def lM(P:Program)(F:FuncId→Prop)(b a:St):Prop:=∃τ:Tape,Rl P F a∧(∀j,j<a.2.drawn→τ j=a.2.tape j)∧SN P (uO a τ) b
inductive Ti (P:Program) (F:FuncId→Prop) (s0:St):St→Prop
 | refl:Ti P F s0 s0
 | step {a b:St}:Ti P F s0 a→lM P F b a→Ti P F s0 b
theorem Two.on{F:FuncId→Prop}{ρ:Ren}{s s':Frame × List Frame}{w w':World}(h:Two P F ρ s w s' w')(τ:Tape):Two P F ρ s (on w τ) s' w':=⟨h.st,h.ok,⟨h.wr.obj,h.wr.inj⟩⟩
theorem loc(hg:P.globals.size=0){F:FuncId→Prop}(hF:gP P F){a b:St}{τ:Tape}(hr:Rl P F a)(h:SN P (uO a τ) b):
 b.2.tape=τ∧a.2.drawn≤b.2.drawn∧∀σ:Tape,(∀j,j<b.2.drawn→σ j=τ j)→SN P (uO a σ) (uO b σ):=by
 obtain⟨hl,ρ,s',w',ht⟩:=hr
 have hlc:=(DL hg hF ht.wr.inj ht.st ht.ok hl).lc (ht.on τ).wr
 obtain⟨h1,h2,h3⟩:=hlc.2 b.1 b.2 h
 exact⟨h1,h2,fun σ hσ=>h3 σ fun j _ hj=>hσ j hj⟩
def Way(P:Program)(F:Fence)(Post:Frame→World→Prop)(a:St):Prop:=
 ∃fr v,StepsIn (Machine.fenced P F) P (solo (G a.1.1 a.1.2) a.2) (lone fr [] v)∧fr.mode=.returning∧fr.defers=[]∧Post fr v
theorem mB{fr:Frame}(h:fr.mode=.returning)(hd:fr.defers=[]){w:World}{b:St}:¬ SN P ((fr,[]),w) b:=by
 intro hg
 unfold SN gu at hg
 simp only[h,hd] at hg
 split at hg
 ·simp_all
 ·simp only[stuck,Sem.run] at hg;cases hg
theorem Az(hg:P.globals.size=0){F:Fence}(hF:gP P F.fn)(hin:∀g,F.fn g→P.inits.idxOf? g=none)(hal:F.alive=true){Post:Frame→World→Prop}{s0:St}(H:∀σ:Tape,Way P F Post (uO s0 σ)):
 ∀ {u:St},Ti P F.fn s0 u→∀σ:Tape,(∀j,j<u.2.drawn→σ j=u.2.tape j)→Way P F Post (uO u σ):=by
 intro u h
 induction h with
 | refl=>intro σ _;exact H σ
 | @step a b _ hs ih=>
   intro σ hσ
   obtain⟨τ,hrl,hτ,hgo⟩:=hs
   obtain⟨e1,e2,e3⟩:=loc hg hF hrl hgo
   have Ut:=e3 σ fun j hj=>(hσ j hj).trans (by rw[e1])
   obtain⟨fr,v,hp,hm,hdf,hpost⟩:=ih σ fun j hj=>by
    have:=hσ j (Nat.lt_of_lt_of_le hj e2)
    rw[e1] at this
    rw[this];exact hτ j hj
   obtain⟨hl,ρ,s',w',ht⟩:=hrl
   rcases live hg hF hin hal (ht.on σ) hp hm with⟨ea,_⟩|⟨em,eL,ed⟩|⟨_,s2,w2,er,hp2⟩
   ·exfalso
    have:uO a σ=((fr,[]),on a.2 σ):=by simp only[uO,← ea]
    rw[this] at Ut
    exact mB hm hdf Ut
   ·exfalso
    have:uO a σ=((a.1.1,[]),on a.2 σ):=by simp only[uO,← eL]
    rw[this] at Ut
    exact mB em ed Ut
   ·have eE:(gu P a.1.1 a.1.2).run P (on a.2 σ)=.ok b.1 (on b.2 σ):=Ut
    rw[er] at eE
    cases eE
    exact⟨fr,v,hp2,hm,hdf,hpost⟩
theorem Ms{F:FuncId→Prop}{a b:St}(ok:jP P F a.1.1)(h:SN P a b):step P (solo (G a.1.1 a.1.2) a.2)=.next (solo (G b.1.1 b.1.2) b.2):=by
 have hT:=Sem.runT_fst P (gu P a.1.1 a.1.2) a.2 #[]
 unfold SN at h
 obtain⟨es',hstep,_⟩:=Aa (cs:=[]) (main:=true) ok (show(gu P a.1.1 a.1.2).runT P a.2 #[]=(.ok b.1 b.2,((gu P a.1.1 a.1.2).runT P a.2 #[]).2) by rw[← h,← hT])
 simp only[List.append_nil] at hstep
 rw[step,stepT_solo rfl,runT_solo_go hstep]
theorem Ki(hg:P.globals.size=0){F:Fence}(hF:gP P F.fn)(hin:∀g,F.fn g→P.inits.idxOf? g=none)(hal:F.alive=true){Post:Frame→World→Prop}{s0:St}(H:∀σ:Tape,Way P F Post (uO s0 σ)):Acc (lM P F.fn) s0:=by
 refine Classical.byContradiction fun hn=>?_
 have next:∀a:{a:St // ¬ Acc (lM P F.fn) a },∃b:{a:St // ¬ Acc (lM P F.fn) a },lM P F.fn b.1 a.1:=fun a=>by
  refine Classical.byContradiction fun h=>a.2 ⟨a.1,fun b hb=>Classical.byContradiction fun hb2=>h ⟨⟨b,hb2⟩,hb⟩⟩
 let f:Nat→{a:St // ¬ Acc (lM P F.fn) a }:=fun n=>Nat.rec ⟨s0,hn⟩ (fun _ a=>Classical.choose (next a)) n
 have hf:∀i,lM P F.fn (f (i+1)).1 (f i).1:=fun i=>Classical.choose_spec (next (f i))
 have mono:∀i,(f i).1.2.drawn≤(f (i+1)).1.2.drawn:=fun i=>by
  obtain⟨τ,hrl,hτ,hgo⟩:=hf i
  exact(loc hg hF hrl hgo).2.1
 have VE:∀i j,j<(f i).1.2.drawn→(f (i+1)).1.2.tape j=(f i).1.2.tape j:=fun i j hj=>by
  obtain⟨τ,hrl,hτ,hgo⟩:=hf i
  rw[(loc hg hF hrl hgo).1];exact hτ j hj
 have mono':∀i k,(f i).1.2.drawn≤(f (i+k)).1.2.drawn:=fun i k=>by
  induction k with
  | zero=>exact zL
  | succ k ih=>exact Nat.le_trans ih (mono (i+k))
 have same:∀i k j,j<(f i).1.2.drawn→(f (i+k)).1.2.tape j=(f i).1.2.tape j:=fun i k j hj=>by
  induction k with
  | zero=>rfl
  | succ k ih=>exact(VE (i+k) j (Nat.lt_of_lt_of_le hj (mono' i k))).trans ih
 classical
 let σ:Tape:=fun j=>if h:∃i,j<(f i).1.2.drawn then(f (Classical.choose h)).1.2.tape j else fun _=>0
 have hσ:∀i j,j<(f i).1.2.drawn→σ j=(f i).1.2.tape j:=fun i j hj=>by
  have hx:∃i,j<(f i).1.2.drawn:=⟨i,hj⟩
  have e:σ j=(f (Classical.choose hx)).1.2.tape j:=dif_pos hx
  rw[e]
  have hc:=Classical.choose_spec hx
  generalize Classical.choose hx=c at hc
  rcases Nat.le_total c i with l|l
  ·obtain⟨k,rfl⟩:=Nat.exists_eq_add_of_le l
   exact(same c k j hc).symm
  ·obtain⟨k,rfl⟩:=Nat.exists_eq_add_of_le l
   exact same i k j hj
 have go:∀i,SN P (uO (f i).1 σ) (uO (f (i+1)).1 σ)∧jP P F.fn (f i).1.1.1:=fun i=>by
  obtain⟨τ,hrl,hτ,hgo⟩:=hf i
  obtain⟨e1,e2,e3⟩:=loc hg hF hrl hgo
  refine⟨e3 σ fun j hj=>by rw[hσ (i+1) j hj,e1],?_⟩
  obtain⟨_,_,_,_,ht⟩:=hrl
  exact ht.ok.1
 obtain⟨fr,v,hp,hm,hdf,_⟩:=H σ
 have key:∀ {m m':Machine},StepsIn (Machine.fenced P F) P m m'→∀i,m=solo (G (uO (f i).1 σ).1.1 (uO (f i).1 σ).1.2) (uO (f i).1 σ).2→m'≠lone fr [] v:=by
  intro m m' h
  induction h with
  | refl m=>
    rintro i e e2
    rw[e] at e2
    have eg:=congrArg Machine.gs e2
    simp only[lone,solo] at eg
    have eg:=Array.singleton_inj.1 eg
    have e3:(uO (f i).1 σ).1.1=fr:=congrArg Goroutine.frame eg
    have e4:(uO (f i).1 σ).1.2=[]:=congrArg Goroutine.callers eg
    have hgo:=(go i).1
    have:uO (f i).1 σ=((fr,[]),(uO (f i).1 σ).2):=by rw[← e3,← e4]
    rw[this] at hgo
    exact mB hm hdf hgo
  | head hI hs _ ih=>
    rintro i e
    subst e
    rw[Ms (a:=uO (f i).1 σ) (go i).2 (go i).1] at hs
    cases hs
    exact ih (i+1) rfl
 exact key hp 0 rfl rfl
def Keeps(C O:Nat→Prop)(w w2:World):Prop:=∀b,O b∨C b→w2.heap[b]? =w.heap[b]?
structure Did(C O O1:Nat→Prop)(w w1:World)(new:List Event):Prop where
 tape:w1.tape=w.tape
 os:w1.os=w.os
 output:w1.output=w.output
 size:w.heap.size≤w1.heap.size
 other:∀b,b<w.heap.size→¬ O b→w1.heap[b]? =w.heap[b]?
 own:∀b,O1 b↔O b∨(w.heap.size≤b∧b<w1.heap.size)
 evs:∀e∈new,R7 O1 C e
theorem Ran.did{C O O1:Nat→Prop}{ρ ρ1:Ren}{w w1 v v1:World}{new:List Event}(h:Ran C O O1 ρ ρ1 w w1 v v1 new):Did C O O1 v v1 new:=⟨h.tape,h.os,h.output,h.size,h.other,h.own,h.evs⟩
inductive Bq (P:Program) (F:FuncId→Prop) (C:Nat→Prop) (Q:Frame→World→(Nat→Prop)→Prop):Frame × List Frame→World→(Nat→Prop)→Prop
 | done {fr:Frame} {w:World} {O:Nat→Prop}:jP P F fr→fr.mode=.returning→fr.defers=[]→(∀w2,Keeps C O w w2→Q fr w2 O)→Bq P F C Q (fr,[]) w O
 | step {s:Frame × List Frame} {w:World} {O:Nat→Prop} (X:Frame × List Frame→World→(Nat→Prop)→Prop):jP P F s.1→(s.1.mode=.returning→s.2=[]→s.1.defers≠[])→
  (∀w2,Keeps C O w w2→∃s2 w3 O2 new,(gu P s.1 s.2).runT P w2 #[]=(.ok s2 w3,List.toArray new)∧Did C O O2 w2 w3 new∧X s2 w3 O2)→(∀s2 w3 O2,X s2 w3 O2→Bq P F C Q s2 w3 O2)→Bq P F C Q s w O
theorem PN{F:FuncId→Prop}(hF:gP P F)(hin:∀g,F g→P.inits.idxOf? g=none){fr:Frame}(ok:jP P F fr)(hm:fr.mode=.returning)(hd:fr.defers=[]){w:World}{m1:Machine}:step P (solo (G fr []) w)≠.next m1:=by
 intro hs
 obtain⟨f,c,hf,_⟩:=hF.sv _ ok.fn
 rw[step,stepT_solo rfl] at hs
 have hT:=Sem.runT_fst P (results f fr.tmps) w #[]
 have e:stepG P true (G fr []) w=unwind P true fr [] none w:=by simp[G,stepG,hm]
 have:∃o w2 es,stepG P true (G fr []) w=.ended o w2 es:=by
  rw[e]
  simp only[unwind,hd,hm,hf]
  generalize ri:Sem.runT P (results f fr.tmps) w #[]=T at hT⊢
  obtain⟨r,es⟩:=T
  dsimp only
  cases r with
  | ok v w2=>
    simp only[doReturn,ok.kind,hin _ ok.fn,Bool.not_true,Bool.false_eq_true,if_false]
    exact⟨_,_,_,rfl⟩
  | halt h w2=>cases h <;> exact⟨_,_,_,rfl⟩
 obtain⟨o,w2,es,e2⟩:=this
 rw[aY e2] at hs
 cases hs
theorem kJ.ok{a b:Item}{ρ:Ren}(h:kJ ρ a b)(k:kW P a):kW P b:=by cases h <;> exact k
theorem fK.ok{a b:List Item}{ρ:Ren}(h:fK ρ a b)(k:∀i∈a,kW P i):∀i∈b,kW P i:=by
 induction h with
 | nil=>exact k
 | cons h _ ih=>
   simp only[List.forall_mem_cons] at k⊢
   exact⟨h.ok k.1,ih k.2⟩
theorem Cq.okR{F:FuncId→Prop}{ρ:Ren}{a b:Frame}(h:Cq ρ a b)(k:jP P F a):jP P F b:=by
 refine⟨by rw[h.fn];exact k.fn,h.todo.ok k.todo,?_,by rw[h.mode];exact k.mode,by rw[h.kind];exact k.kind⟩
 obtain⟨x,x',_,e,_⟩:=h.defers
 exact⟨x',e⟩
theorem dQ.Od{a b:List Deferred}{ρ:Ren}(h:dQ ρ a b):b=[]↔a=[]:=by
 obtain⟨x,x',rfl,rfl,e,_⟩:=h
 cases x <;> cases x' <;> simp_all
theorem WR.keeps{C O:Nat→Prop}{ρ:Ren}{w w' w2:World}(h:WR ρ w w')(hc:∀b b',ρ b=some b'→(Fz w b∧C b')∨O b')(k:Keeps C O w' w2):WR ρ w w2:=by
 refine⟨fun b b' e=>?_,h.inj⟩
 obtain⟨o,o',h1,h2,h3⟩:=h.obj b b' e
 refine⟨o,o',h1,?_,h3⟩
 rw[k b' ((hc b b' e).elim (fun x=>.inr x.2) .inl)];exact h2
theorem Zf(hg:P.globals.size=0){F:Fence}(hF:gP P F.fn)(hin:∀g,F.fn g→P.inits.idxOf? g=none)(hal:F.alive=true){Post:Frame→World→Prop}{C:Nat→Prop}{Q:Frame→World→(Nat→Prop)→Prop}{s0:St}{ρ0:Ren}(H:∀σ:Tape,Way P F Post (uO s0 σ))
 (hQ:∀ρ fr w fr' w2 O,Le ρ0 ρ→Post fr w→Cq ρ fr fr'→WR ρ w w2→(∀b b',ρ b=some b'→(Fz w b∧C b')∨O b')→Q fr' w2 O):
 ∀ {a:St},Acc (lM P F.fn) a→Ti P F.fn s0 a→∀ {ρ:Ren} {s':Frame × List Frame} {w':World} {O:Nat→Prop},Two P F.fn ρ a.1 a.2 s' w'→(∀b b',ρ b=some b'→(Fz a.2 b∧C b')∨O b')→Le ρ0 ρ→Bq P F.fn C Q s' w' O:=by
 intro a ha
 induction ha with
 | intro a _ ih=>
 intro lz ρ s' w' O ht hc hle
 have eqm:s'.1.mode=a.1.1.mode:=ht.st.1.mode
 have eqd:s'.1.defers=[]↔a.1.1.defers=[]:=ht.st.1.defers.Od
 have eql:a.1.2=[]↔s'.2=[]:=by
  have hL:=ht.st.2
  generalize a.1.2=x at hL⊢
  generalize s'.2=y at hL⊢
  cases hL <;> simp
 by_cases hend:a.1.1.mode=.returning∧a.1.2=[]∧a.1.1.defers=[]
 ·obtain⟨f',L'⟩:=s'
  have hL':L'=[]:=eql.1 hend.2.1
  subst hL'
  refine .done (ht.st.1.okR ht.ok.1) (eqm.trans hend.1) (eqd.2 hend.2.2) fun w2 hk=>?_
  obtain⟨fr,v,hp,hm,hdf,hpost⟩:=Az hg hF hin hal H lz a.2.tape fun _ _=>rfl
  have ea:uO a a.2.tape=a:=rfl
  rw[ea] at hp
  have:a.1=(fr,[])∧a.2=v:=by
   obtain⟨⟨f0,L⟩,w0⟩:=a
   obtain⟨e1,e2,e3⟩:=hend
   simp only at e1 e2 e3 hp
   subst e2
   generalize hm0:solo (G f0 []) w0=m0 at hp
   generalize hm1:lone fr [] v=m1 at hp
   cases hp with
   | refl=>
     subst hm0
     have eg:=congrArg Machine.gs hm1
     simp only[lone,solo] at eg
     have ef:fr=f0:=congrArg Goroutine.frame (Array.singleton_inj.1 eg)
     have ew:v=w0:=congrArg Machine.world hm1
     exact⟨by rw[ef],ew.symm⟩
   | head hI hs hp=>subst hm0;exact absurd hs (PN hF hin ht.ok.1 e1 e3)
  obtain⟨e1,e2⟩:=this
  subst e2
  have hfr:=ht.st.1
  rw[e1] at hfr
  exact hQ ρ fr a.2 f' w2 O hle hpost hfr (ht.wr.keeps hc hk) hc
 ·refine .step (fun s2 w3 O2=>∃ρ1 b,Two P F.fn ρ1 b.1 b.2 s2 w3∧(∀x x',ρ1 x=some x'→(Fz b.2 x∧C x')∨O2 x')∧lM P F.fn b a∧Le ρ0 ρ1) (ht.st.1.okR ht.ok.1) (fun hm hL hd=>hend ⟨eqm.symm.trans hm,eql.2 hL,eqd.1 hd⟩) (fun w2 hk=>?_) ?_
  rotate_left
  ·rintro s2 w3 O2 ⟨ρ1,b,h1,h2,h3,h4⟩
   exact ih b h3 (.step lz h3) h1 h2 h4
  let τ:Tape:=fun j=>if j<a.2.drawn then a.2.tape j else w2.tape (j - a.2.drawn+w2.drawn)
  have hτ:∀j,j<a.2.drawn→τ j=a.2.tape j:=fun j hj=>if_pos hj
  obtain⟨fr,v,hp,hm,hdf,hpost⟩:=Az hg hF hin hal H lz τ hτ
  have eh:¬ ((uO a τ).1.1.mode=.returning∧(uO a τ).1.2=[]∧(uO a τ).1.1.defers=[]):=hend
  rcases live hg hF hin hal (ht.on τ) hp hm with⟨ea,_⟩|em|⟨hl,s2,w3,er,_⟩
  ·exact absurd ⟨by show a.1.1.mode=_;rw[ea];exact hm,by show a.1.2=_;rw[ea],by show a.1.1.defers=_;rw[ea];exact hdf⟩ eh
  ·exact absurd em eh
  have hw2:WR ρ (on a.2 τ) w2:=⟨(ht.wr.keeps hc hk).obj,ht.wr.inj⟩
  have lL:kK (on a.2 τ) w2:=fun k q=>by
   show τ (a.2.drawn+k) q=_
   simp only[τ]
   rw[if_neg zo]
   rw[show a.2.drawn+k - a.2.drawn+w2.drawn=w2.drawn+k by omega]
  obtain⟨ρ1,s3,w4,O2,new,h1,h2,h3⟩:=SR.runT (es:=#[]) (DL hg hF ht.wr.inj ht.st ht.ok hl) hw2 lL hc er
  refine⟨s3,w4,O2,new,by simpa using h1,h3.did,?_⟩
  have hsucc:lM P F.fn (s2,w3) a:=⟨τ,⟨hl,ρ,s',w',ht⟩,hτ,er⟩
  exact⟨ρ1,(s2,w3),⟨h2.1,h2.2,h3.wr⟩,h3.cl,hsucc,hle.trans h3.le⟩
def sn(C O:Nat→Prop)(ρ:Ren)(w:World):Prop:=∀b b',ρ b=some b'→(Fz w b∧C b')∨O b'
def Gives(P:Program)(C:Nat→Prop)(ρ0:Ren)(f:FuncId)(R:Value→World→Prop)(fr':Frame)(w2:World)(O:Nat→Prop):Prop:=
 fr'.fn=f∧fr'.defers=[]∧fr'.kind=.normal∧fr'.mode=.returning∧∃fn ρ1 v v' w w3 O3 new,P.funcs[f]? =some fn∧(results fn fr'.tmps).runT P w2 #[]=(.ok v' w3,List.toArray new)∧R v w∧VR ρ1 v v'∧WR ρ1 w w3∧Le ρ0 ρ1∧Did C O O3 w2 w3 new∧sn C O3 ρ1 w
theorem vY(hg:P.globals.size=0){F:Fence}(hF:gP P F.fn)(hin:∀g,F.fn g→P.inits.idxOf? g=none)(hal:F.alive=true){n:Nat}(hroom:F.room (1+n)){f:FuncId}{args args':Array Value}{w w':World}{R:Value→World→Prop}
 (H:∀σ:Tape,CallsIn F n P f args (on w σ) (fun e v=>∃x,e=.returned x∧R x v)){ρ:Ren}{C O:Nat→Prop}(ha:dX ρ args args')(hw:WR ρ w w')(hc:sn C O ρ w):
 Bq P F.fn C (Gives P C ρ f R) (Frame.enter P f args' .normal,[]) w' O:=by
 have hf:F.fn f:=(H w.tape).1
 let Post:Frame→World→Prop:=fun fr v=>fr.fn=f∧∃x,R x v∧fr.leaving P v (.returned x)
 have HW:∀σ:Tape,Way P F Post (uO ((Frame.enter P f args .normal,[]),w) σ):=fun σ=>by
  obtain⟨e,v,fr,⟨x,rfl,hR⟩,hp,hfn,hl⟩:=(H σ).2 [] (by simpa using hroom)
  exact⟨fr,v,hp,hl.1,hl.2.1,hfn,x,hR,hl⟩
 have hacc:=Ki hg hF hin hal HW
 have ht:Two P F.fn ρ (Frame.enter P f args .normal,[]) w (Frame.enter P f args' .normal,[]) w':=⟨⟨uD ha,.nil⟩,⟨xK hF hf _,zs⟩,hw⟩
 refine Zf (ρ0:=ρ) hg hF hin hal HW ?_ hacc .refl ht hc (.refl ρ)
 rintro ρ1 fr v fr' w2 O1 hle ⟨hfn,x,hR,hm,hd,hk,fn,hfs,hres⟩ hfr hwr hcl
 refine⟨hfr.fn.trans hfn,hfr.defers.Od.2 hd,hfr.kind.trans hk,hfr.mode.trans hm,?_⟩
 have hsr:=vK (P:=P) hwr.inj fn hfr.tmps
 let τ:Tape:=fun j=>w2.tape (j - v.drawn+w2.drawn)
 obtain⟨_,_,h3⟩:=(hsr.lc hwr).2 x v hres
 have hrun:=h3 τ fun j h1 h2=>zo
 have hw2:WR ρ1 (on v τ) w2:=⟨hwr.obj,hwr.inj⟩
 have lL:kK (on v τ) w2:=fun k q=>by
  show w2.tape (v.drawn+k - v.drawn+w2.drawn) q=_
  rw[show v.drawn+k - v.drawn+w2.drawn=w2.drawn+k by omega]
 obtain⟨ρ2,v',w3,O3,new,r1,r2,r3⟩:=SR.runT (C:=C) (O:=O1) (es:=#[]) hsr hw2 lL hcl hrun
 rw[hfn] at hfs
 exact⟨fn,ρ2,x,v',v,w3,O3,new,hfs,by simpa using r1,hR,r2,⟨r3.wr.obj,r3.wr.inj⟩,hle.trans r3.le,r3.did,r3.cl⟩
end
section
variable[Inhabited aV]
open Go.Conc
variable{P:Program}{F:FuncId→Prop}{C:Nat→Prop}{Q:Frame→World→(Nat→Prop)→Prop}
theorem Keeps.refl(C O:Nat→Prop)(w:World):Keeps C O w w:=fun _ _=>rfl
theorem Keeps.trans{O:Nat→Prop}{w w1 w2:World}(h:Keeps C O w w1)(k:Keeps C O w1 w2):Keeps C O w w2:=fun b hb=>(k b hb).trans (h b hb)
theorem Bq.keeps{s:Frame × List Frame}{w w2:World}{O:Nat→Prop}(h:Bq P F C Q s w O)(k:Keeps C O w w2):Bq P F C Q s w2 O:=by
 cases h with
 | done h1 h2 h2b h3=>exact .done h1 h2 h2b fun w3 k3=>h3 w3 (k.trans k3)
 | step X h1 h2 h3 h4=>exact .step X h1 h2 (fun w3 k3=>h3 w3 (k.trans k3)) h4
open Classical in
noncomputable def view(C O:Nat→Prop)(w:World):Nat→Option Obj:=fun b=>if O b∨C b then w.heap[b]? else none
theorem MK{O:Nat→Prop}{w w2:World}(k:Keeps C O w w2):view C O w2=view C O w:=by
 funext b
 unfold view
 split
 ·rename_i h;exact k b h
 ·rfl
theorem yw{O:Nat→Prop}{w w2:World}(e:view C O w2=view C O w):Keeps C O w w2:=fun b hb=>by
 have:=congrFun e b
 unfold view at this
 rwa[if_pos hb,if_pos hb] at this
structure PS where
 s:Frame × List Frame
 O:Nat→Prop
 v:Nat→Option Obj
noncomputable def ps(C:Nat→Prop)(s:Frame × List Frame)(w:World)(O:Nat→Prop):PS:=⟨s,O,view C O w⟩
def tM(P:Program)(C:Nat→Prop)(y x:PS):Prop:=
 ∃w2 w3 new,view C x.O w2=x.v∧(gu P x.s.1 x.s.2).runT P w2 #[]=(.ok y.s w3,List.toArray new)∧Did C x.O y.O w2 w3 new∧y.v=view C y.O w3
def Rank(P:Program)(C:Nat→Prop):={x:PS // Acc (tM P C) x }
def kY(P:Program)(C:Nat→Prop)(y x:Rank P C):Prop:=tM P C y.1 x.1
theorem Dt(P:Program)(C:Nat→Prop):WellFounded (kY P C):=⟨fun⟨x,hx⟩=>by
 induction hx with
 | intro x hx ih=>exact⟨_,fun y hy=>ih y.1 hy⟩⟩
end
section
variable[Inhabited aV]
open Go.Conc Go.ConcN
variable{P:Program}
def Dec{X:Type}(r:X→X→Prop)(n:Nat)(y x:Nat→X):Prop:=∃i,i<n∧r (y i) (x i)∧∀k,k≠i→y k=x k
theorem jz{X:Type}{r:X→X→Prop}(hr:WellFounded r)(n:Nat):WellFounded (Dec r n):=by
 induction n with
 | zero=>exact⟨fun x=>⟨_,fun y ⟨i,hi,_⟩=>absurd hi (Nat.not_lt_zero i)⟩⟩
 | succ n ihn=>
   have key:∀a:X,∀f:Nat→X,f n=a→Acc (Dec r (n+1)) f:=by
    intro a
    induction a using hr.induction with
    | _ a iha=>
      intro f
      induction f using ihn.induction with
      | _ f ihf=>
        intro hfa
        refine⟨_,fun y ⟨i,hi,h1,h2⟩=>?_⟩
        by_cases e:i=n
        ·subst e
         exact iha (y i) (hfa ▸ h1) y rfl
        ·exact ihf y ⟨i,zo,h1,h2⟩ ((h2 n (fun e2=>e e2.symm)).trans hfa)
   exact⟨fun f=>key (f n) f rfl⟩
structure Lay(O:Nat→Nat→Prop)(C S:Nat→Prop)(w:World):Prop where
 own:∀k k' b,O k b→O k' b→k=k'
 pW:∀k b,O k b→¬ C b
 nN:∀k b,O k b→¬ S b
 cS:∀b,C b→¬ S b
 NW:∀k b,O k b→b<w.heap.size
 P8:∀b,C b→b<w.heap.size
 NY:∀b,S b→b<w.heap.size
def rE(O:Nat→Nat→Prop)(k:Nat)(O1:Nat→Prop):Nat→Nat→Prop:=fun i b=>if i=k then O1 b else O i b
theorem bL(O:Nat→Nat→Prop)(k:Nat)(O1:Nat→Prop):rE O k O1 k=O1:=by funext b;simp[rE]
theorem dU(O:Nat→Nat→Prop){k i:Nat}(O1:Nat→Prop)(h:i≠k):rE O k O1 i=O i:=by funext b;simp[rE,h]
section
variable{O:Nat→Nat→Prop}{C S:Nat→Prop}{w w1:World}{k:Nat}{O1:Nat→Prop}{new:List Event}
theorem Lay.did(h:Lay O C S w)(d:Did C (O k) O1 w w1 new):Lay (rE O k O1) C S w1:=by
 have hs:=d.size
 have old:∀i b,rE O k O1 i b→O i b∨(i=k∧w.heap.size≤b∧b<w1.heap.size):=fun i b hb=>by
  by_cases e:i=k
  ·subst e
   rw[bL] at hb
   rcases(d.own b).1 hb with h1|h1
   ·exact .inl h1
   ·exact .inr ⟨rfl,h1⟩
  ·rw[dU O O1 e] at hb;exact .inl hb
 refine⟨fun i i' b a a'=>?_,fun i b a c=>?_,fun i b a c=>?_,h.cS,fun i b a=>?_,fun b a=>Nat.lt_of_lt_of_le (h.P8 b a) hs,fun b a=>Nat.lt_of_lt_of_le (h.NY b a) hs⟩
 ·rcases old i b a with x|⟨ei,x,_⟩ <;> rcases old i' b a' with x'|⟨P0,x',_⟩
  ·exact h.own _ _ _ x x'
  ·have:=h.NW _ _ x;omega
  ·have:=h.NW _ _ x';omega
  ·exact ei.trans P0.symm
 ·rcases old i b a with x|⟨_,x,_⟩
  ·exact h.pW _ _ x c
  ·have:=h.P8 _ c;omega
 ·rcases old i b a with x|⟨_,x,_⟩
  ·exact h.nN _ _ x c
  ·have:=h.NY _ c;omega
 ·rcases old i b a with x|⟨_,_,x⟩
  ·exact Nat.lt_of_lt_of_le (h.NW _ _ x) hs
  ·exact x
theorem Lay.keeps(h:Lay O C S w)(d:Did C (O k) O1 w w1 new){i:Nat}(hi:i≠k):Keeps C (O i) w w1:=fun b hb=>by
 rcases hb with hb|hb
 ·exact d.other b (h.NW _ _ hb) fun e=>hi (h.own _ _ _ hb e)
 ·exact d.other b (h.P8 _ hb) fun e=>h.pW _ _ e hb
theorem Lay.shared(h:Lay O C S w)(d:Did C (O k) O1 w w1 new){b:Nat}(hb:S b):w1.heap[b]? =w.heap[b]?:=d.other b (h.NY _ hb) fun e=>h.nN _ _ e hb
def In(X:Nat→Prop):Loc→Prop
 | .cell a=>X a.block
 | .obj r=>X r
 | _=>False
def iF(O:Nat→Nat→Prop)(k:Nat)(l:Loc):Prop:=In (O k) l
def Em(C:Nat→Prop)(_:Nat)(l:Loc):Prop:=In C l
theorem Lay.apart(h:Lay O C S w):Apart (In S) (iF O) (Em C):=by
 refine⟨fun k k' l a b=>?_,fun k k' l a b=>?_,fun k l a b=>?_,fun k l a b=>?_⟩ <;> cases l <;> simp only[iF,Em,In] at a b
 ·exact h.own _ _ _ a b
 ·exact h.own _ _ _ a b
 ·exact h.pW _ _ a b
 ·exact h.pW _ _ a b
 ·exact h.nN _ _ a b
 ·exact h.nN _ _ a b
 ·exact h.cS _ a b
 ·exact h.cS _ a b
def RO(t:Trace)(w:World):Prop:=∀i a,touchAt t i=some a→∀b,In (fun x=>x=b) a.loc→b<w.heap.size
theorem yF{e:Event}(h:R7 O1 C e)(k:Nat)(fn:FuncId)(pos:String):OkW (In S) (iF (rE O k O1)) (Em C) k {g:=k,fn,pos,act:=.ofEvent e }:=by
 rcases h with rfl|⟨hs,h⟩
 ·exact⟨rfl,fun x hx=>by simp[MemAct.ofEvent,MemAct.touch?] at hx⟩
 obtain⟨loc,wr,sy⟩:=e
 simp only at hs h
 subst hs
 refine⟨rfl,fun x hx=>?_⟩
 rcases h with⟨a,rfl,h⟩|⟨r,rfl,h⟩
 ·have e1:MemAct.ofEvent ⟨.cell a,wr,false⟩=.access ⟨.cell a,wr,false⟩:=by cases wr <;> rfl
  rw[e1] at hx
  simp only[MemAct.touch?,Option.some.injEq] at hx
  subst hx
  rcases h with h|⟨hw,h⟩
  ·exact .inr (.inl (by simp only[iF,In,bL];exact h))
  ·exact .inr (.inr ⟨h,hw⟩)
 ·have e1:MemAct.ofEvent ⟨.obj r,wr,false⟩=.access ⟨.obj r,wr,false⟩:=by cases wr <;> rfl
  rw[e1] at hx
  simp only[MemAct.touch?,Option.some.injEq] at hx
  subst hx
  exact .inr (.inl (by simp only[iF,In,bL];exact h))
theorem CT.grow{Sh:Loc→Prop}{Own Own' Rd:Nat→Loc→Prop}{t:Trace}{j:Nat}(h:CT Sh Own Rd t j)(le:∀k l,Own k l→Own' k l)(hnew:∀k l,Own' k l→Own k l∨∀i a,touchAt t i=some a→a.loc≠l):CT Sh Own' Rd t j:=by
 refine⟨h.quiet,fun k k1 kj l hl=>?_,h.rd,fun l hs hl=>h.free l hs fun k k1 kj=>⟨fun ho=>(hl k k1 kj).1 (le k l ho),(hl k k1 kj).2⟩,fun l hs hl=>h.mine l hs fun k k1 kj ho=>hl k k1 kj (le k l ho),h.nr,h.gs⟩
 rcases hnew k l hl with ho|ho
 ·exact h.own k k1 kj l ho
 ·exact fun i a ha e=>absurd e (ho i a ha)
end
theorem Did.sub{C O O1:Nat→Prop}{w w1:World}{new l:List Event}(h:Did C O O1 w w1 new)(hl:∀e∈l,e∈new):Did C O O1 w w1 l:=
 ⟨h.tape,h.os,h.output,h.size,h.other,h.own,fun e he=>h.evs e (hl e he)⟩
theorem TS{C O O1:Nat→Prop}{w w1:World}{new:List Event}(h:Did C O O1 w w1 new)(fn:FuncId):Did C O O1 w w1 (seen P fn new.toArray).toList:=h.sub fun e he=>by
 have:=lZ (P:=P) (fn:=fn) (Array.mem_def.2 he)
 simpa using this
inductive Wk (P:Program) (main:Bool) (C:Nat→Prop) (V:World→Prop) (K:Goroutine→World→(Nat→Prop)→Prop):Goroutine→World→(Nat→Prop)→Prop
 | stop {g:Goroutine} {w:World} {O:Nat→Prop}:(∀w2,Keeps C O w w2→V w2→K g w2 O)→Wk P main C V K g w O
 | step {g:Goroutine} {w:World} {O:Nat→Prop} (X:Goroutine→World→(Nat→Prop)→Prop):g.status=.running→
  (∀w2,Keeps C O w w2→V w2→∃g2 w3 O2 es,stepG P main g w2=.go g2 w3 es∧Did C O O2 w2 w3 es.toList∧X g2 w3 O2)→(∀g2 w3 O2,X g2 w3 O2→Wk P main C V K g2 w3 O2)→Wk P main C V K g w O
section
variable{main:Bool}{C:Nat→Prop}{V:World→Prop}{K:Goroutine→World→(Nat→Prop)→Prop}
theorem Wk.keeps{g:Goroutine}{w w2:World}{O:Nat→Prop}(h:Wk P main C V K g w O)(k:Keeps C O w w2):Wk P main C V K g w2 O:=by
 cases h with
 | stop h=>exact .stop fun w3 k3=>h w3 (k.trans k3)
 | step X h0 h1 h2=>exact .step X h0 (fun w3 k3=>h1 w3 (k.trans k3)) h2
theorem Wk.mono{K':Goroutine→World→(Nat→Prop)→Prop}(hK:∀g w O,K g w O→K' g w O){g:Goroutine}{w:World}{O:Nat→Prop}(h:Wk P main C V K g w O):Wk P main C V K' g w O:=by
 induction h with
 | stop h=>exact .stop fun w2 k v=>hK _ _ _ (h w2 k v)
 | step X h0 h1 h2 ih=>exact .step X h0 h1 ih
theorem Wk.idle{g g2:Goroutine}{w:World}{O:Nat→Prop}(h0:g.status=.running)(h:∀w2,V w2→stepG P main g w2=.go g2 w2 #[])(k:Wk P main C V K g2 w O):Wk P main C V K g w O:=
 .step (fun g' w' O'=>g'=g2∧O'=O∧Keeps C O w w') h0 (fun w2 k2 v2=>⟨g2,w2,O,#[],h w2 v2,⟨rfl,rfl,rfl,zL,fun _ _ _=>rfl,fun b=>⟨.inl,fun h=>h.elim id fun⟨a,b⟩=>absurd b zo⟩,fun e he=>by simp at he⟩,rfl,rfl,k2⟩)
  (fun g' w' O' ⟨e1,e2,k2⟩=>by subst e1;subst e2;exact k.keeps k2)
theorem Wk.YV{F:FuncId→Prop}{Q:Frame→World→(Nat→Prop)→Prop}{O0:Nat→Prop}{s:Frame × List Frame}{w:World}{O:Nat→Prop}(h:Bq P F C Q s w O)(cs:List Frame)(hO:∀b,O0 b→O b)
 (hK:∀fr w O,(∀b,O0 b→O b)→(∀w2,Keeps C O w w2→Q fr w2 O)→Wk P main C V K (G fr cs) w O):Wk P main C V K (G s.1 (s.2 ++ cs)) w O:=by
 induction h with
 | @done fr w O h1 h2 h2b h3=>exact hK fr w O hO h3
 | @step s w O X h1 h2 h3 h4 ih=>
   refine .step (fun g2 w3 O2=>∃s2,g2=G s2.1 (s2.2 ++ cs)∧X s2 w3 O2∧∀b,O0 b→O2 b) rfl (fun w2 k v=>?_) (fun g2 w3 O2 ⟨s2,e,hx,ho⟩=>e ▸ ih s2 w3 O2 hx ho)
   obtain⟨s2,w3,O2,new,r1,r2,r3⟩:=h3 w2 k
   obtain⟨es',e1,e2⟩:=Aa (cs:=cs) (main:=main) h1 r1
   exact⟨_,w3,O2,es',e1,r2.sub (fun e he=>by simpa using e2 e (Array.mem_def.2 he)),s2,rfl,r3,fun b hb=>(r2.own b).2 (.inl (hO b hb))⟩
theorem Wk.ret{f:FuncId}{ρ0:Ren}{R:Value→World→Prop}{fr:Frame}{c:Frame}{cs:List Frame}{w:World}{O:Nat→Prop}(h:∀w2,Keeps C O w w2→Gives P C ρ0 f R fr w2 O)
 (hk:∀ρ1 v v' w1 w3 O3,R v w1→VR ρ1 v v'→WR ρ1 w1 w3→Le ρ0 ρ1→sn C O3 ρ1 w1→(∀b,O b→O3 b)→Wk P main C V K (G (c.finish v') cs) w3 O3):Wk P main C V K (G fr (c :: cs)) w O:=by
 refine .step (fun g2 w3 O3=>Wk P main C V K g2 w3 O3) rfl (fun w2 k v=>?_) (fun _ _ _ hx=>hx)
 obtain⟨hfn,hd,hkd,hm,fn,ρ1,v,v',w1,w3,O3,new,hf,hr,hR,hv,hw,hle,xn,hcl⟩:=h w2 k
 refine⟨G (c.finish v') cs,w3,O3,seen P f new.toArray,?_,TS xn _,hk ρ1 v v' w1 w3 O3 hR hv hw hle hcl fun b hb=>(xn.own b).2 (.inl hb)⟩
 obtain⟨aat,tmps,todo,defers,mode,kind,roundOf⟩:=fr
 simp only at hfn hd hkd hm
 subst hfn;subst hd;subst hkd;subst hm
 simp[G,stepG,unwind,hf,hr,doReturn,GStep.after,-Sem.runT_eq]
theorem Wk.call{F:FuncId→Prop}{f:FuncId}{ρ0:Ren}{R:Value→World→Prop}{args:Array Value}{c:Frame}{cs:List Frame}{w:World}{O:Nat→Prop}(h:Bq P F C (Gives P C ρ0 f R) (Frame.enter P f args .normal,[]) w O)
 (hk:∀ρ1 v v' w1 w3 O3,R v w1→VR ρ1 v v'→WR ρ1 w1 w3→Le ρ0 ρ1→sn C O3 ρ1 w1→(∀b,O b→O3 b)→Wk P main C V K (G (c.finish v') cs) w3 O3):Wk P main C V K (G (Frame.enter P f args .normal) (c :: cs)) w O:=by
 have h1:=Wk.YV (main:=main) (V:=V) (K:=K) (O0:=O) h (c :: cs) (fun _ hb=>hb) (fun fr w2 O2 hO hq=>Wk.ret hq fun ρ1 v v' w1 w3 O3 hR hv hw hle hcl hO3=>hk ρ1 v v' w1 w3 O3 hR hv hw hle hcl fun b hb=>hO3 b (hO b hb))
 simpa only[List.nil_append] using h1
end
end
end Go.cu
