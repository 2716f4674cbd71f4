/- Par14 Par13b -/
import Derived.Test.YthaelabgfnnebaaGreatB8
import Derived.Conc.Listed
set_option maxRecDepth 100000
set_option maxHeartbeats 16000000
set_option linter.unusedVariables false
set_option linter.unusedSectionVars false
namespace Go.cu
section
variable[Inhabited aV]
variable{P:Program}{ρ:Ren}
def on(w:World)(τ:Tape):World:={w with tape:=τ }
@[simp] theorem xi(w:World)(τ:Tape):(on w τ).heap=w.heap:=rfl
@[simp] theorem Tz(w:World)(τ:Tape):(on w τ).drawn=w.drawn:=rfl
@[simp] theorem Xo(w:World)(τ:Tape):(on w τ).tape=τ:=rfl
def Lc{α:Type}(P:Program)(s:Sem α)(w:World):Prop:=
 (∀h w1,s.run P w=.halt h w1→sK h)∧
 ∀a w1,s.run P w=.ok a w1→w1.tape=w.tape∧w.drawn≤w1.drawn∧∀τ:Tape,(∀j,w.drawn≤j→j<w1.drawn→τ j=w.tape j)→s.run P (on w τ)=.ok a (on w1 τ)
theorem Lc.of{α:Type}{s k:Sem α}{w w2:World}(h:Lc P k w2)(hr:s.run P w=k.run P w2)(ht:w2.tape=w.tape)(hd:w.drawn≤w2.drawn)
 (hs:∀τ:Tape,(∀j,w.drawn≤j→j<w2.drawn→τ j=w.tape j)→s.run P (on w τ)=k.run P (on w2 τ)):Lc P s w:=by
 refine⟨fun e w1 e1=>h.1 e w1 (hr ▸ e1),fun a w1 e1=>?_⟩
 obtain⟨h1,h2,h3⟩:=h.2 a w1 (hr ▸ e1)
 refine⟨h1.trans ht,Nat.le_trans hd h2,fun τ hτ=>?_⟩
 rw[hs τ fun j a b=>hτ j a (Nat.lt_of_lt_of_le b h2)]
 exact h3 τ fun j a b=>by rw[ht];exact hτ j (Nat.le_trans hd a) b
theorem Lc.halt{α:Type}{s:Sem α}{w:World}{e:Halt}{v:World}(hr:s.run P w=.halt e v)(he:sK e):Lc P s w:=
 ⟨fun h w1 h1=>by rw[hr] at h1;cases h1;exact he,fun a w1 h1=>by rw[hr] at h1;cases h1⟩
theorem Tq{w w':World}(h:WR ρ w w'){a:Addr}{b':Nat}(ha:ρ a.block=some b')(at_:Bool):∃e,w.farLoad P a at_=.error e∧sK e:=by
 obtain⟨o,o',h1,h2,ho⟩:=h.obj _ _ ha
 cases ho <;> exact⟨_,by simp only[World.farLoad,h1];rfl,by simp only[World.noCell,h1];trivial⟩
theorem Mt{w w':World}(h:WR ρ w w'){a:Addr}{b':Nat}(ha:ρ a.block=some b')(v:Value)(at_:Bool):∃e,w.farStore P a v at_=.error e∧sK e:=by
 obtain⟨o,o',h1,h2,ho⟩:=h.obj _ _ ha
 cases ho <;> exact⟨_,by simp only[World.farStore,h1];rfl,by simp only[World.noCell,h1];trivial⟩
theorem SR.lc{α β:Type}{Q:Ren→α→β→Prop}{s:Sem α}:∀ {ρ:Ren} {s':Sem β} {w w':World},SR P Q ρ s s'→WR ρ w w'→Lc P s w:=by
 induction s with
 | pure a=>
   rintro ρ s' w w' h hw
   refine⟨fun h w1 e=>by simp[Sem.run] at e,fun b w1 e=>?_⟩
   simp only[Sem.run,Result.ok.injEq] at e
   obtain⟨rfl,rfl⟩:=e
   exact⟨rfl,Nat.le_refl _,fun τ _=>rfl⟩
 | load m a k ih=>
   rintro ρ s' w w' ⟨a',k',rfl,rfl,ha,hk⟩ hw
   cases hv:w.cell? a with
   | none=>
     obtain⟨e,he,ht⟩:=Tq (P:=P) hw ha.1 (a:=a) (Mode.plain == Mode.atomic)
     exact .halt (by simp only[Sem.run,hv,he];rfl) (by exact ht)
   | some v=>
     obtain⟨v',hv',rm⟩:=q9 hw ha hv
     refine(ih v (hk ρ (.refl hw.inj) v v' rm) hw).of (by simp only[Sem.run,hv]) rfl (Nat.le_refl _) fun τ _=>?_
     have:(on w τ).cell? a=some v:=hv
     simp only[Sem.run,this]
 | store m a v k ih=>
   rintro ρ s' w w' ⟨a',v',k',rfl,rfl,ha,hv,hk⟩ hw
   by_cases h1:∀c,v≠.agg c
   ·by_cases h2:∀c,v≠.tuple c
    ·cases hx:w.cell? a with
     | none=>
       obtain⟨e,he,ht⟩:=Mt (P:=P) hw ha.1 (a:=a) v (Mode.plain == Mode.atomic)
       exact .halt (by rw[run_store h1 h2];simp only[hx,he];rfl) (by exact ht)
     | some x0=>
       cases hf:w.frozen? a with
       | true=>exact .halt (by rw[run_store h1 h2];simp only[hx,hf,if_true];rfl) (by trivial)
       | false=>
         refine(ih hk (hw.setCell ha hv)).of (by rw[run_store h1 h2];simp only[hx,hf,Bool.false_eq_true,if_false]) rfl (Nat.le_refl _) fun τ _=>?_
         have e1:(on w τ).cell? a=some x0:=hx
         have e2:(on w τ).frozen? a=false:=hf
         rw[run_store h1 h2]
         simp only[e1,e2,Bool.false_eq_true,if_false]
         rfl
    ·simp only[ne_eq,Classical.not_forall,Classical.not_not] at h2
     obtain⟨c,rfl⟩:=h2
     exact .halt (by simp only[Sem.run];rfl) (by trivial)
   ·simp only[ne_eq,Classical.not_forall,Classical.not_not] at h1
    obtain⟨c,rfl⟩:=h1
    exact .halt (by simp only[Sem.run];rfl) (by trivial)
 | new o k ih=>
   rintro ρ s' w w' ⟨o',k',rfl,ho,hk⟩ hw
   obtain⟨le,hw2⟩:=hw.new ho
   exact(ih w.heap.size (hk _ ⟨le,hw2.inj⟩ w.heap.size w'.heap.size (by simp[Ren.put])) hw2).of (by simp only[Sem.run]) rfl (Nat.le_refl _) fun τ _=>by simp only[Sem.run];rfl
 | shape r k ih=>
   rintro ρ s' w w' ⟨r',k',rfl,e,hk⟩ hw
   exact(ih (w.shape? r) (hk _) hw).of (by simp only[Sem.run]) rfl (Nat.le_refl _) fun τ _=>by simp only[Sem.run];rfl
 | getObj r k ih=>
   rintro ρ s' w w' ⟨r',k',rfl,e,hk⟩ hw
   obtain⟨o,o',h1,h2,ho⟩:=hw.obj _ _ e
   have h1':∀τ,(on w τ).heap[r]? =some o:=fun _=>h1
   cases ho with
   | cells e1 hc1 hf1=>exact .halt (by simp only[Sem.run,h1];rfl) (by trivial)
   | map c hm=>exact(ih _ (hk ρ (.refl hw.inj) _ _ (.map c hm)) hw).of (by simp only[Sem.run,h1]) rfl (Nat.le_refl _) fun τ _=>by simp only[Sem.run,h1' τ]
   | number c hm=>exact(ih _ (hk ρ (.refl hw.inj) _ _ (.number c hm)) hw).of (by simp only[Sem.run,h1]) rfl (Nat.le_refl _) fun τ _=>by simp only[Sem.run,h1' τ]
   | loop hm=>exact(ih _ (hk ρ (.refl hw.inj) _ _ (.loop hm)) hw).of (by simp only[Sem.run,h1]) rfl (Nat.le_refl _) fun τ _=>by simp only[Sem.run,h1' τ]
   | defs hm=>exact(ih _ (hk ρ (.refl hw.inj) _ _ (.defs hm)) hw).of (by simp only[Sem.run,h1]) rfl (Nat.le_refl _) fun τ _=>by simp only[Sem.run,h1' τ]
 | setObj r o k ih=>
   rintro ρ s' w w' ⟨r',o',k',rfl,e,ho,hk⟩ hw
   obtain⟨p,p',h1,h2,hp⟩:=hw.obj _ _ e
   have h1':∀τ,(on w τ).heap[r]? =some p:=fun _=>h1
   cases hp with
   | cells e1 hc1 hf1=>exact .halt (by simp only[Sem.run,h1];rfl) (by trivial)
   | map c hm=>exact(ih hk (hw.setObj e ho)).of (by simp only[Sem.run,h1]) rfl (Nat.le_refl _) fun τ _=>by simp only[Sem.run,h1' τ];rfl
   | number c hm=>exact(ih hk (hw.setObj e ho)).of (by simp only[Sem.run,h1]) rfl (Nat.le_refl _) fun τ _=>by simp only[Sem.run,h1' τ];rfl
   | loop hm=>exact(ih hk (hw.setObj e ho)).of (by simp only[Sem.run,h1]) rfl (Nat.le_refl _) fun τ _=>by simp only[Sem.run,h1' τ];rfl
   | defs hm=>exact(ih hk (hw.setObj e ho)).of (by simp only[Sem.run,h1]) rfl (Nat.le_refl _) fun τ _=>by simp only[Sem.run,h1' τ];rfl
 | choose q k ih=>
   rintro ρ s' w w' ⟨k',rfl,hk⟩ hw
   by_cases hf:q.forced=true
   ·exact(ih 0 (hk _) hw).of (by simp only[Sem.run,if_pos hf]) rfl (Nat.le_refl _) fun τ _=>by simp only[Sem.run,if_pos hf]
   ·have hw2:WR ρ {w with drawn:=w.drawn+1 } {w' with drawn:=w'.drawn+1 }:=⟨hw.obj,hw.inj⟩
    refine(ih (q.cut (w.tape w.drawn q)) (hk _) hw2).of (by simp only[Sem.run,if_neg hf]) rfl (Nat.le_succ _) fun τ hτ=>?_
    have e:τ w.drawn=w.tape w.drawn:=hτ w.drawn (Nat.le_refl _) (Nat.lt_succ_self _)
    simp only[Sem.run,if_neg hf,Xo,Tz,e]
    rfl
 | program k ih=>
   rintro ρ s' w w' ⟨k',rfl,hk⟩ hw
   exact(ih P hk hw).of (by simp only[Sem.run]) rfl (Nat.le_refl _) fun τ _=>by simp only[Sem.run]
 | halt h=>rintro ρ s' w w' ht hw;exact .halt (by simp only[Sem.run];rfl) (by exact ht)
 | freeze a n k ih=>intro ρ s' w w' h;exact h.elim
 | frozen a k ih=>intro ρ s' w w' h hw;exact⟨fun e w1 hr=>((h _).run (P:=P) w).2 e w1 hr,fun a1 w1 hr=>((h _).run (P:=P) w).1 a1 w1 hr |>.elim⟩
 | sys c k ih=>intro ρ s' w w' h;exact h.elim
 | mark m k ih=>
   rintro ρ s' w w' ⟨k',rfl,rfl,hk⟩ hw
   exact(ih hk hw).of (by simp only[Sem.run]) rfl (Nat.le_refl _) fun τ _=>by simp only[Sem.run]
end
section
variable[Inhabited aV]
open Go.Conc
variable{P:Program}{ρ:Ren}
theorem lN{fn:FuncId}{es:Array Event}{e:Event}(h:e∈seen P fn es):e∈es:=by
 rw[seen_def] at h
 have:=seen_fold_sub _ _ _ _ _ h
 simpa using this
def Same(P:Program)(main:Bool)(g:Goroutine)(w:World)(g2:Goroutine)(w2:World)(es:Array Event):Prop:=∃es',stepG P main g w=.go g2 w2 es'∧∀e∈es',e∈es
theorem Same.of{main:Bool}{g g2:Goroutine}{w w2:World}{es:Array Event}(h:stepG P main g w=.go g2 w2 #[]):Same P main g w g2 w2 es:=⟨_,h,fun e he=>by simp at he⟩
theorem Same.seen{main:Bool}{g g2:Goroutine}{w w2:World}{es:Array Event}{f:FuncId}(h:stepG P main g w=.go g2 w2 (Go.seen P f es)):Same P main g w g2 w2 es:=⟨_,h,fun e he=>lN he⟩
theorem Same.MG{main:Bool}{g g2:Goroutine}{w w2:World}{es:Array Event}{f:FuncId}(h:stepG P main g w=.go g2 w2 (Go.seen P f es ++ #[])):Same P main g w g2 w2 es:=⟨_,h,fun e he=>lN (fn:=f) (by simpa using he)⟩
section
variable{main:Bool}{fr:Frame}{L cs:List Frame}{w w2:World}{c:Frame × List Frame}{es:Array Event}
theorem bind_ok{α β:Type}{x:Sem α}{f:α→Sem β}{w w2:World}{b:β}{es:Array Event}(h:(x >>= f).runT P w #[]=(.ok b w2,es)):
 ∃a w1 es1,x.runT P w #[]=(.ok a w1,es1)∧(f a).runT P w1 es1=(.ok b w2,es):=by
 rw[show(x >>= f)=x.bind f from rfl,Sem.runT_bind'] at h
 generalize hx:x.runT P w #[]=r at h
 obtain⟨r,es1⟩:=r
 cases r with
 | halt a b=>simp only[Prod.mk.injEq] at h;cases h.1
 | ok a w1=>exact⟨a,w1,es1,rfl,h⟩
theorem pure_ok{α:Type}{a b:α}{w w2:World}{es es2:Array Event}(h:(Pure.pure a:Sem α).runT P w es=(.ok b w2,es2)):b=a∧w2=w∧es2=es:=by
 simp only[Pure.pure,Sem.runT,Prod.mk.injEq,Result.ok.injEq] at h
 exact⟨h.1.1.symm,h.1.2.symm,h.2.symm⟩
theorem eZ{α:Type}{m:String}{b:α}{w w2:World}{es es2:Array Event}(h:(stuck m:Sem α).runT P w es=(.ok b w2,es2)):False:=by
 simp only[stuck,Sem.runT,Prod.mk.injEq] at h;cases h.1
def iB(P:Program)(main:Bool)(fr:Frame)(L:List Frame)(jump:Option Code)(w:World):GStep:=
 match fr.roundOf with
 | none=>if jump matches none|some .ret then .go (G {fr with mode:=.returning } L) w else .ended (.stuck tj (fr.pos P)) w
 | some l=>
   let (r,es):=(Instr.endRound l jump).runT P w #[]
   GStep.after (Go.seen P fr.fn es) <| match r with
   | .ok v w=>doReturn P main fr L none v w
   | .halt _ w=>.ended (.stuck ZL (fr.pos P)) w
theorem qF(hk:fr.kind=.normal){jump:Option Code}(hG:stepG P main (G fr (L ++ cs)) w=iB P main fr (L ++ cs) jump w)(h:(kV fr L jump).runT P w #[]=(.ok c w2,es)):Same P main (G fr (L ++ cs)) w (G c.1 (c.2 ++ cs)) w2 es:=by
 unfold kV at h
 unfold iB at hG
 cases hr:fr.roundOf with
 | none=>
   rw[hr] at h hG
   dsimp only at h hG
   split at h
   ·obtain⟨rfl,rfl,rfl⟩:=pure_ok h
    exact .of (by rw[hG];rfl)
   ·obtain⟨rfl,rfl,rfl⟩:=pure_ok h
    exact .of (by rw[hG];rfl)
   ·exact(eZ h).elim
 | some l=>
   rw[hr] at h hG
   dsimp only at h hG
   cases L with
   | nil=>exact(eZ h).elim
   | cons c0 L=>
     obtain⟨v,w1,es1,h1,h2⟩:=bind_ok h
     obtain⟨rfl,rfl,rfl⟩:=pure_ok h2
     rw[h1] at hG
     refine .MG (f:=fr.fn) ?_
     rw[hG]
     simp[doReturn,hk,GStep.after,G]
end
theorem xV{F:FuncId→Prop}{main:Bool}{fr:Frame}{L cs:List Frame}{w w2:World}{c:Frame × List Frame}{es:Array Event}(hf:jH P F fr)(h:(fT P fr L).runT P w #[]=(.ok c w2,es)):
 Same P main (G fr (L ++ cs)) w (G c.1 (c.2 ++ cs)) w2 es:=by
 obtain⟨hfn,htodo,⟨dx,hd⟩,hm,hk⟩:=hf
 obtain⟨fn,tmps,todo,defers,mode,kind,roundOf⟩:=fr
 simp only at hfn htodo hd hm hk
 subst hk
 rcases hm with rfl|rfl
 ·unfold fT at h
  dsimp only at h
  cases todo with
  | nil=>exact qF rfl (by simp only[G,stepG,stepG.exec,iB] <;> rfl) h
  | cons i k=>
    have ht:=htodo i zs
    cases i with
    | code c=>
      cases c with
      | ret=>exact qF rfl (by simp only[G,stepG,stepG.exec,iB] <;> rfl) h
      | cond x a b=>
        dsimp only at h
        generalize hev:Frame.eval {fn:=fn,tmps:=tmps,todo:=.code (.cond x a b) :: k,defers:=defers,mode:=.run,kind:=.normal,roundOf:=roundOf } x=v at h
        cases v with
        | bool b=>
          obtain⟨rfl,rfl,rfl⟩:=pure_ok h
          exact .of (by simp[G,stepG,stepG.exec,hev])
        | _=>exact(eZ h).elim
      | exit id=>
        dsimp only at h
        cases he:exitTo id k with
        | none=>
          rw[he] at h
          exact qF rfl (by simp only[G,stepG,stepG.exec,iB,he];rfl) h
        | some k'=>
          rw[he] at h
          obtain⟨rfl,rfl,rfl⟩:=pure_ok h
          exact .of (by simp[G,stepG,stepG.exec,he])
      | region id ops draw=>
        cases draw with
        | false=>
          simp only[Bool.not_false,if_true] at h
          obtain⟨rfl,rfl,rfl⟩:=pure_ok h
          exact .of (by simp[G,stepG,stepG.exec])
        | true=>
          simp only[Bool.not_true,Bool.false_eq_true,if_false,choose,Bind.bind,Sem.bind,Pure.pure,Sem.runT] at h
          refine .of ?_
          simp only[G,stepG,stepG.exec,Bool.not_true,Bool.false_eq_true,if_false,choose,Sem.run]
          split at h
          ·rename_i hfo
           simp only[Prod.mk.injEq,Result.ok.injEq] at h
           obtain⟨⟨rfl,rfl⟩,rfl⟩:=h
           simp[hfo]
          ·rename_i hfo
           simp only[Prod.mk.injEq,Result.ok.injEq] at h
           obtain⟨⟨rfl,rfl⟩,rfl⟩:=h
           simp[hfo]
      | goto l=>exact ht.elim
      | rangeFunc f params assign body=>
        dsimp only at h
        obtain⟨e,w1,es1,h1,h2⟩:=bind_ok h
        rw[Ky] at h2
        simp only[Prod.mk.injEq] at h2
        obtain⟨h2,h3⟩:=h2
        generalize hq:(oW (Frame.eval {fn:=fn,tmps:=tmps,todo:=.code (.rangeFunc f params assign body) :: k,defers:=defers,mode:=.run,kind:=.normal,roundOf:=roundOf } f) #[.func (.yield e.1) #[] #[]] >>= fun n=>uD P {fn:=fn,tmps:=tmps,todo:=.inRangeFunc e.1 :: k,defers:=e.2 ++ defers,mode:=.run,kind:=.normal,roundOf:=roundOf } L n).runT P w1 #[]=q at h2 h3
        obtain⟨q1,es2⟩:=q
        simp only at h2 h3
        subst h2
        obtain⟨n,w4,De,h7,h8⟩:=bind_ok hq
        have hcall:(do let d ← resolve (Frame.eval {fn:=fn,tmps:=tmps,todo:=.inRangeFunc e.1 :: k,defers:=e.2 ++ defers,mode:=.run,kind:=.normal,roundOf:=roundOf }) {callee:=.value f,args:=#[.const (.func (.yield e.1) #[] #[])],argTypes:=#[] } 0;invoke d.target d.args:Sem Next).runT P w1 #[]=(.ok n w4,De):=by
         have e0:resolve (Frame.eval {fn:=fn,tmps:=tmps,todo:=.inRangeFunc e.1 :: k,defers:=e.2 ++ defers,mode:=.run,kind:=.normal,roundOf:=roundOf }) {callee:=.value f,args:=#[.const (.func (.yield e.1) #[] #[])],argTypes:=#[] } 0=Deferred.ofValue (Frame.eval {fn:=fn,tmps:=tmps,todo:=.code (.rangeFunc f params assign body) :: k,defers:=defers,mode:=.run,kind:=.normal,roundOf:=roundOf } f) #[.func (.yield e.1) #[] #[]]:=by
          cases f <;> simp[resolve,Frame.eval]
         rw[e0]
         exact h7
        have hsub:∀x∈Go.seen P fn es1 ++ Go.seen P fn De,x∈es1 ++ De:=fun x hx=>by
         rcases Array.mem_append.1 hx with hx|hx
         ·exact Array.mem_append.2 (.inl (lN hx))
         ·exact Array.mem_append.2 (.inr (lN hx))
        have hG:stepG P main (G {fn:=fn,tmps:=tmps,todo:=.code (.rangeFunc f params assign body) :: k,defers:=defers,mode:=.run,kind:=.normal,roundOf:=roundOf } (L ++ cs)) w
         =GStep.after (Go.seen P fn es1) (stepG.apply P true {fn:=fn,tmps:=tmps,todo:=.inRangeFunc e.1 :: k,defers:=e.2 ++ defers,mode:=.run,kind:=.normal,roundOf:=roundOf } (L ++ cs) none (do let d ← resolve (Frame.eval {fn:=fn,tmps:=tmps,todo:=.inRangeFunc e.1 :: k,defers:=e.2 ++ defers,mode:=.run,kind:=.normal,roundOf:=roundOf }) {callee:=.value f,args:=#[.const (.func (.yield e.1) #[] #[])],argTypes:=#[] } 0;invoke d.target d.args:Sem Next) w1):=by
         simp only[G,stepG,stepG.exec,h1]
        cases n with
        | enter g args=>
          obtain⟨rfl,rfl,rfl⟩:=pure_ok h8
          subst h3
          refine⟨_,?_,hsub⟩
          rw[hG]
          simp[stepG.apply,hcall,GStep.after,G,-Sem.runT_eq]
        | round l g t a b=>
          obtain⟨rfl,rfl,rfl⟩:=pure_ok h8
          subst h3
          refine⟨_,?_,hsub⟩
          rw[hG]
          simp[stepG.apply,hcall,GStep.after,G,-Sem.runT_eq]
        | _=>exact(eZ h8).elim
      | refuse y=>exact(eZ h).elim
      | _=>
        obtain⟨rfl,rfl,rfl⟩:=pure_ok h
        exact .of (by simp[G,stepG,stepG.exec])
    | inRegion ops l=>
      cases l with
      | nil=>
        obtain⟨rfl,rfl,rfl⟩:=pure_ok h
        exact .of (by simp[G,stepG,stepG.exec])
      | cons j l=>
        dsimp only at h
        cases hw:((ops[j]?).map (Region.wanted · (yielded ops tmps))).getD false with
        | false=>
          rw[hw] at h
          simp only[Bool.false_eq_true,if_false] at h
          obtain⟨rfl,rfl,rfl⟩:=pure_ok h
          exact .of (by simp[G,stepG,stepG.exec,hw])
        | true=>
          rw[hw] at h
          simp only[if_true] at h
          cases ho:ops[j]? with
          | none=>rw[ho] at h;exact(eZ h).elim
          | some o=>
            rw[ho] at h
            have hwo:Region.wanted o (yielded ops tmps)=true:=by rw[ho] at hw;exact hw
            have Ql:qh P o:=ht o (Array.mem_of_getElem? ho)
            have hnd:∀c,o.op≠.defer c:=fun c e=>by have:=Ql.2;rw[e] at this;exact this
            have hop:stepG.oper P true {fn:=fn,tmps:=tmps,todo:=.inRegion ops (j :: l) :: k,defers:=defers,mode:=.run,kind:=.normal,roundOf:=roundOf } (L ++ cs) none w
             =stepG.apply P true {fn:=fn,tmps:=tmps,todo:=.inRegion ops (j :: l) :: k,defers:=defers,mode:=.run,kind:=.normal,roundOf:=roundOf } (L ++ cs) none (execOp (Frame.eval {fn:=fn,tmps:=tmps,todo:=.inRegion ops (j :: l) :: k,defers:=defers,mode:=.run,kind:=.normal,roundOf:=roundOf }) o) w:=by
             simp only[stepG.oper,Frame.oper?,ho]
             split
             ·rename_i e0;exact absurd e0 (hnd _)
             ·rfl
            have hG:stepG P main (G {fn:=fn,tmps:=tmps,todo:=.inRegion ops (j :: l) :: k,defers:=defers,mode:=.run,kind:=.normal,roundOf:=roundOf } (L ++ cs)) w
             =stepG.apply P true {fn:=fn,tmps:=tmps,todo:=.inRegion ops (j :: l) :: k,defers:=defers,mode:=.run,kind:=.normal,roundOf:=roundOf } (L ++ cs) none (execOp (Frame.eval {fn:=fn,tmps:=tmps,todo:=.inRegion ops (j :: l) :: k,defers:=defers,mode:=.run,kind:=.normal,roundOf:=roundOf }) o) w:=by
             rw[← hop]
             simp only[G,stepG,stepG.exec,ho,hwo,Option.map_some,Option.getD_some,if_true]
            dsimp only at h
            cases hpn:rF o.op with
            | true=>rw[hpn] at h;exact(eZ h).elim
            | false=>
            rw[hpn] at h
            simp only[Bool.false_eq_true,if_false] at h
            obtain⟨n,w1,es1,hx,h2⟩:=bind_ok h
            cases n with
            | value v=>
              obtain⟨rfl,rfl,rfl⟩:=pure_ok h2
              exact .seen (f:=fn) (by rw[hG];simp[stepG.apply,hx,GStep.after,G,-Sem.runT_eq])
            | skip=>
              obtain⟨rfl,rfl,rfl⟩:=pure_ok h2
              exact .seen (f:=fn) (by rw[hG];simp[stepG.apply,hx,GStep.after,G,-Sem.runT_eq])
            | enter f args=>
              obtain⟨rfl,rfl,rfl⟩:=pure_ok h2
              exact .seen (f:=fn) (by rw[hG];simp[stepG.apply,hx,GStep.after,G,-Sem.runT_eq])
            | round l0 g t a b=>
              obtain⟨rfl,rfl,rfl⟩:=pure_ok h2
              exact .seen (f:=fn) (by rw[hG];simp[stepG.apply,hx,GStep.after,G,-Sem.runT_eq])
            | _=>exact(eZ h2).elim
    | inRangeFunc l=>exact(eZ h).elim
    | endRangeFunc l=>
      dsimp only at h
      obtain⟨j,w1,es1,hx,h2⟩:=bind_ok h
      obtain⟨rfl,rfl,rfl⟩:=pure_ok h2
      exact .MG (f:=fn) (by simp[G,stepG,stepG.exec,hx,GStep.after,-Sem.runT_eq])
    | beginRound=>
      dsimp only at h
      cases roundOf with
      | none=>exact(eZ h).elim
      | some l=>
        dsimp only at h
        obtain⟨u,w1,es1,hx,h2⟩:=bind_ok h
        obtain⟨rfl,rfl,rfl⟩:=pure_ok h2
        have hr:(do Option.elim (some l) (stuck lk) Instr.beginRound;pure .skip:Sem Next).runT P w #[]=(.ok .skip w2,es):=by
         rw[show ∀ {α β:Type} (x:Sem α) (f:α→Sem β),(x >>= f)=x.bind f from fun _ _=>rfl,Sem.runT_bind']
         simp only[Option.elim,hx,Pure.pure,Sem.runT]
        have hG:stepG P main (G {fn:=fn,tmps:=tmps,todo:=.beginRound :: k,defers:=defers,mode:=.run,kind:=.normal,roundOf:=some l } (L ++ cs)) w=stepG.apply P true {fn:=fn,tmps:=tmps,todo:=.beginRound :: k,defers:=defers,mode:=.run,kind:=.normal,roundOf:=some l } (L ++ cs) none (do Option.elim (some l) (stuck lk) Instr.beginRound;pure .skip) w:=by
         simp only[G,stepG,stepG.exec]
         rfl
        exact .seen (f:=fn) (by
         rw[hG]
         simp only[stepG.apply,hr,if_true]
         simp[GStep.after,G,-Sem.runT_eq])
    | _=>first
      | exact(show False from ht).elim
      | (obtain⟨rfl,rfl,rfl⟩:=pure_ok h
         exact .of (by simp[G,stepG,stepG.exec]))
 ·unfold fT at h
  dsimp only at h
  cases dx with
  | cons r dx=>
    simp only[List.map_cons,jg] at hd
    subst hd
    dsimp only at h
    obtain⟨calls,w1,es1,hx,h2⟩:=bind_ok h
    obtain⟨rfl,rfl,rfl⟩:=pure_ok h2
    exact .MG (f:=fn) (by simp[G,stepG,unwind,hx,GStep.after,-Sem.runT_eq])
  | nil=>
    simp only[List.map_nil] at hd
    subst hd
    dsimp only at h
    cases hfun:P.funcs[fn]? with
    | none=>rw[hfun] at h;exact(eZ h).elim
    | some Sx=>
      rw[hfun] at h
      cases L with
      | nil=>exact(eZ h).elim
      | cons c0 L=>
        dsimp only at h
        obtain⟨v,w1,es1,hx,h2⟩:=bind_ok h
        obtain⟨rfl,rfl,rfl⟩:=pure_ok h2
        exact .MG (f:=fn) (by simp[G,stepG,unwind,hfun,hx,doReturn,GStep.after,-Sem.runT_eq])
end
end Go.cu
