/- Far10 Far11 -/
import Derived.Test.YthaelabgfnnebaaGreatD3
import Derived.Conc.Own4
import Derived.Conc.Listed
set_option maxRecDepth 100000
set_option maxHeartbeats 16000000
set_option linter.unusedVariables false
set_option linter.unusedSectionVars false
namespace Go.dN
section
open Go.Conc
variable{P:Program}{Z:Env}{F:FuncId→Prop}
theorem fF{fn:FuncId}{es:Array Event}{e:Event}(h:e∈seen P fn es):e∈es:=by
 rw[seen_def] at h
 have:=seen_fold_sub _ _ _ _ _ h
 simpa using this
def gN(P:Program):Item→Prop
 | .code c| .inLoop c| .inScope c=>dh P c=true
 | .inBlock _| .inRangeFunc _| .beginRound| .endRangeFunc _=>True
 | .inRegion ops _=>ops.all (mq P)=true
 | _=>False
def gG(P:Program)(F:FuncId→Prop):Prop:=∀g,F g→∃f c,P.funcs[g]? =some f∧f.body=some c∧(f.name == "runtime.NumGoroutine")=false∧dh P c=true
theorem gG.zero(h:gG P F):Ad P F:=fun g hg=>let ⟨f,c,h1,h2,h3,_⟩:=h g hg;⟨f,c,h1,h2,h3⟩
structure Fr(P:Program)(F:FuncId→Prop)(fr:Frame):Prop where
 fn:F fr.fn
 todo:∀i∈fr.todo,gN P i
 defers:∀d∈fr.defers,∃c,d.target=.collected c
 kind:fr.kind=.normal
def Mv(Z:Env)(n:Nat)(w w':World)(es:Array Event)(same:World→World→Prop):Prop:=
 w'.drawn=w.drawn+n∧w'.tape=w.tape∧Lv Z w'∧(∀e∈es,Ep Z e)∧∀ {K:Nat→Option Obj} (v:World),oG Z K w v→Agree n w v→∃v',same v v'∧oG Z K w' v'∧v'.drawn=v.drawn+n∧v'.tape=v.tape
def Qh(P:Program)(F:FuncId→Prop)(g:Goroutine):Prop:=∃fr cs,g=G fr cs∧Fr P F fr∧∀c∈cs,Fr P F c
def Dead(g:Goroutine):Prop:=g.dying≠none∨g.status=.blocked∨g.status=.waiting∨g.status=.finished
def SL(P:Program)(F:FuncId→Prop)(Z:Env)(w:World)(f:World→GStep):Prop:=
 match f w with
 | .go g' w' es=>Dead g'∨Qh P F g'∧∃n,Mv Z n w w' es fun v v'=>f v=.go g' v' es
 | .comm g' cases b sh w' es=>Qh P F g'∧(b=true∧∃c ok,cases=#[c]∧c.send=none∧sh=.recv ok)∧∃n,Mv Z n w w' es fun v v'=>f v=.comm g' cases b sh v' es
 | .ended (.done x) w' es=>∃n,Mv Z n w w' es fun v v'=>f v=.ended (.done x) v' es
 | .ended _ _ _=>True
 | .spawn _ _ _ _=>True
 | _=>False
section
variable{w:World}{f:World→GStep}
theorem SL.Sq(h:∃g c w' es,f w=.spawn g c w' es):SL P F Z w f:=by
 obtain⟨g,c,w',es,h⟩:=h
 unfold SL
 rw[h]
 trivial
theorem SL.const{fr:Frame}{cs:List Frame}(hl:Lv Z w)(h:∀v,f v=.go (G fr cs) v #[])(h1:Fr P F fr)(h2:∀c∈cs,Fr P F c):SL P F Z w f:=by
 unfold SL
 rw[h w]
 exact .inr ⟨⟨fr,cs,rfl,h1,h2⟩,0,rfl,rfl,hl,zs,fun v hs ha=>⟨v,h v,hs,rfl,rfl⟩⟩
theorem SL.bC{o:Outcome}{w':World}{es:Array Event}(h:f w=.ended o w' es)(ho:∀v,o≠.done v):SL P F Z w f:=by
 unfold SL
 rw[h]
 cases o <;> first|trivial|exact absurd rfl (ho _)
theorem SL.jM{g:Goroutine}{w':World}{es:Array Event}(h:f w=.go g w' es)(ho:Dead g):SL P F Z w f:=by
 unfold SL
 rw[h]
 exact .inl ho
theorem SL.congr{f':World→GStep}(h:SL P F Z w f)(e:∀v,f' v=f v):SL P F Z w f':=by
 have:f'=f:=funext e
 rw[this];exact h
end
theorem Rn.from{α:Type}{Q:α→Prop}{s:Sem α}{w:World}(h:Rn P Z Q s w)(hg:fq (s.runT P w #[]).1):∃n new r,s.runT P w #[]=(r,new)∧(qB r).drawn=w.drawn+n∧(qB r).tape=w.tape∧Lv Z (qB r)∧(∀e∈new,Ep Z e)∧
 (∀a w',r=.ok a w'→Q a)∧∀ {K:Nat→Option Obj} (v:World),oG Z K w v→Agree n w v→∃v',s.runT P v #[]=(kT v' r,new)∧oG Z K (qB r) v'∧v'.drawn=v.drawn+n∧v'.tape=v.tape:=by
 obtain⟨n,new,r,R⟩:=h #[] hg
 refine⟨n,new,r,by simpa using R.run,R.drawn,R.tape,R.lv,R.evs,R.val,fun v hs ha=>?_⟩
 obtain⟨v',e1,e2⟩:=R.pz v #[] hs ha
 exact⟨v',by simpa using e1,e2⟩
theorem Fr.finish{fr:Frame}(h:Fr P F fr)(v:Value):Fr P F (fr.finish v):=by
 obtain⟨fn,tmps,todo,defers,mode,kind,roundOf⟩:=fr
 obtain⟨h1,h2,h3,h4⟩:=h
 simp only at h1 h2 h3 h4
 cases todo with
 | nil=>exact⟨h1,h2,h3,h4⟩
 | cons i k=>
   have hi:=h2 i zs
   have hk:∀x∈k,gN P x:=fun x hx=>h2 x (by simp[hx])
   have two:∀i',gN P i'→∀x∈i' :: k,gN P x:=fun i' h x hx=>by
    rcases List.mem_cons.1 hx with rfl|hx
    ·exact h
    ·exact hk x hx
   cases i with
   | inRegion ops l=>
     cases l with
     | nil=>exact⟨h1,h2,h3,h4⟩
     | cons j l=>exact⟨h1,two (.inRegion ops l) hi,h3,h4⟩
   | inRangeFunc l=>exact⟨h1,two (.endRangeFunc l) trivial,h3,h4⟩
   | beginRound=>exact⟨h1,hk,h3,h4⟩
   | _=>first
     | exact(show False from hi).elim
     | exact⟨h1,h2,h3,h4⟩
theorem Fr.enter{f:FuncId}(hF:gG P F)(hf:F f)(args:Array Value):Fr P F (Frame.enter P f args .normal):=by
 obtain⟨fn,c,h1,h2,_,h4⟩:=hF f hf
 refine⟨hf,fun i hi=>?_,by simp[Frame.enter],rfl⟩
 simp only[Frame.enter,h1,Option.bind_some,h2,Option.getD_some,List.mem_singleton] at hi
 subst hi
 exact h4
theorem Fr.round{l:Nat}{f:FuncId}{tmps:Array Value}{a b:Code}(hf:F f)(ha:dh P a=true)(hb:dh P b=true):Fr P F (Frame.round l f tmps a b .normal):=by
 refine⟨hf,fun i hi=>?_,by simp[Frame.round],rfl⟩
 simp only[Frame.round,List.mem_cons,List.not_mem_nil,or_false] at hi
 rcases hi with rfl|rfl|rfl
 ·exact ha
 ·trivial
 ·exact hb
theorem Fr.mode{fr:Frame}(h:Fr P F fr)(m:FrameMode):Fr P F {fr with mode:=m }:=⟨h.fn,h.todo,h.defers,h.kind⟩
theorem Fr.raise{fr:Frame}(h:Fr P F fr)(vs:List PanicEntry):Fr P F (fr.raise vs):=by
 unfold Frame.raise
 split <;> exact⟨h.fn,h.todo,h.defers,h.kind⟩
structure jW(P:Program)(F:FuncId→Prop)(Z:Env):Prop where
 hg:P.globals.size=0
 hF:gG P F
 hZ:∀f c,Z.jc f c↔F f∧dh P c=true
 ahead:P.follows .staticDataAhead=true
 step:∀g,P.stepOf g=none
 inits:∀f,F f→P.inits.idxOf? f=none
theorem tL(S:jW P F Z)(fr:Frame)(cs:List Frame)(g:Nat)(w:World):∃o w' es,early P fr cs none g w=.ended o w' es∧∀v,o≠.done v:=by
 unfold early
 simp only[S.ahead,S.step]
 exact⟨_,_,_,rfl,zs⟩
theorem Oa{α:Type}(r:Result α):kT (qB r) r=r:=by cases r <;> rfl
structure Told(P:Program)(Z:Env){α:Type}(Q:α→Prop)(s:Sem α)(w:World)(n:Nat)(new:Array Event)(r:Result α):Prop where
 run:s.runT P w #[]=(r,new)
 drawn:(qB r).drawn=w.drawn+n
 tape:(qB r).tape=w.tape
 lv:Lv Z (qB r)
 evs:∀e∈new,Ep Z e
 val:∀a w',r=.ok a w'→Q a
 pz:∀ {K:Nat→Option Obj} (v:World),oG Z K w v→Agree n w v→∃v',s.runT P v #[]=(kT v' r,new)∧oG Z K (qB r) v'∧v'.drawn=v.drawn+n∧v'.tape=v.tape
theorem Rn.told{α:Type}{Q:α→Prop}{s:Sem α}{w:World}(h:Rn P Z Q s w)(hg:fq (s.runT P w #[]).1):∃n new r,Told P Z Q s w n new r:=by
 obtain⟨n,new,r,e1,e2,e3,e4,e5,e6,e7⟩:=h.from hg
 exact⟨n,new,r,e1,e2,e3,e4,e5,e6,e7⟩
section
variable{α:Type}{Q:α→Prop}{s:Sem α}{w:World}{n:Nat}{new:Array Event}{r:Result α}{f:World→GStep}{es:Array Event}
theorem Told.mv(T:Told P Z Q s w n new r){same:World→World→Prop}(hes:∀e∈es,e∈new)(h:∀u u',s.runT P u #[]=(kT u' r,new)→same u u'):Mv Z n w (qB r) es same:=
 ⟨T.drawn,T.tape,T.lv,fun e he=>T.evs e (hes e he),fun v hs ha=>let ⟨v',e1,e2,e3,e4⟩:=T.pz v hs ha;⟨v',h v v' e1,e2,e3,e4⟩⟩
theorem Told.self(T:Told P Z Q s w n new r):s.runT P w #[]=(kT (qB r) r,new):=by rw[Oa];exact T.run
theorem Told.go(T:Told P Z Q s w n new r){fr':Frame}{cs':List Frame}(hes:∀e∈es,e∈new)(key:∀u u',s.runT P u #[]=(kT u' r,new)→f u=.go (G fr' cs') u' es)(h1:Fr P F fr')(h2:∀c∈cs',Fr P F c):SL P F Z w f:=by
 unfold SL
 rw[key w _ T.self]
 exact .inr ⟨⟨fr',cs',rfl,h1,h2⟩,n,T.mv hes key⟩
theorem Told.done(T:Told P Z Q s w n new r){x:Value}(hes:∀e∈es,e∈new)(key:∀u u',s.runT P u #[]=(kT u' r,new)→f u=.ended (.done x) u' es):SL P F Z w f:=by
 unfold SL
 rw[key w _ T.self]
 exact⟨n,T.mv hes key⟩
theorem Told.comm(T:Told P Z Q s w n new r){fr':Frame}{cs':List Frame}{cases:Array CommCase}{b:Bool}{sh:CommShape}(hes:∀e∈es,e∈new)(key:∀u u',s.runT P u #[]=(kT u' r,new)→f u=.comm (G fr' cs') cases b sh u' es)
 (h1:Fr P F fr')(h2:∀c∈cs',Fr P F c)(h3:b=true∧∃c ok,cases=#[c]∧c.send=none∧sh=.recv ok):SL P F Z w f:=by
 unfold SL
 rw[key w _ T.self]
 exact⟨⟨fr',cs',rfl,h1,h2⟩,h3,n,T.mv hes key⟩
end
theorem vK(S:jW P F Z){fr:Frame}{cs:List Frame}(hfr:Fr P F fr)(hcs:∀c∈cs,Fr P F c){s:Sem Next}{w:World}(hl:Lv Z w)(h:Rn P Z (fV Z F) s w):SL P F Z w (fun u=>stepG.apply P true fr cs none s u):=by
 have hk:∀d b r sv k,fr.todo≠.call d b r sv :: k:=fun d b r sv k e=>(show False from hfr.todo (.call d b r sv) (by rw[e];simp))
 have hek:(fr.kind == CallKind.early)=false:=by rw[hfr.kind];rfl
 have hall:∀c∈fr :: cs,Fr P F c:=fun c hc=>by
  rcases List.mem_cons.1 hc with rfl|hc
  ·exact hfr
  ·exact hcs c hc
 by_cases hgood:fq (s.runT P w #[]).1
 ·obtain⟨n,new,r,T⟩:=h.told hgood
  cases r with
  | ok x w1=>
    have hx:=T.val x w1 rfl
    have sub:∀e∈seen P fr.fn new,e∈new:=fun e he=>fF he
    cases x with
    | value v=>exact T.go sub (fun u u' hu=>by simp[stepG.apply,hu,kT,hek,GStep.after,G,-Sem.runT_eq]) (hfr.finish v) hcs
    | skip=>exact T.go sub (fun u u' hu=>by simp[stepG.apply,hu,kT,hek,GStep.after,G,-Sem.runT_eq]) (hfr.finish undef) hcs
    | enter f args=>exact T.go sub (fun u u' hu=>by simp[stepG.apply,hu,kT,hek,GStep.after,G,-Sem.runT_eq];split <;> first|rfl|exact absurd (by assumption) (hk _ _ _ _ _)) (Fr.enter S.hF hx args) hall
    | round l f tmps a b=>
      obtain⟨h1,h2⟩:=hx
      exact T.go sub (fun u u' hu=>by simp[stepG.apply,hu,kT,hek,GStep.after,G,-Sem.runT_eq]) (Fr.round (l:=l) (tmps:=tmps) ((S.hZ _ _).1 h1).1 ((S.hZ _ _).1 h1).2 ((S.hZ _ _).1 h2).2) hall
    | spawn d=>
      have key:(∃g w2 es2,(fun u=>stepG.apply P true fr cs none s u) w=.go g w2 es2∧g.dying≠none)∨∃g c w2 es2,(fun u=>stepG.apply P true fr cs none s u) w=.spawn g c w2 es2:=by
       have hr:s.runT P w #[]=(.ok (.spawn d) w1,new):=T.run
       dsimp only
       unfold stepG.apply
       simp only[if_true,hr,hek,Bool.false_eq_true,if_false]
       unfold endThrow dieOf
       repeat' split
       all_goals first|exact .inr ⟨_,_,_,_,rfl⟩|exact .inl ⟨_,_,_,rfl,fun h=>by cases h⟩
      rcases key with⟨g,w2,es2,e1,e2⟩|h
      ·exact SL.jM e1 (.inl e2)
      ·exact SL.Sq h
    | comm cases b sh=>exact T.comm sub (fun u u' hu=>by simp[stepG.apply,hu,kT,hek,GStep.after,G,-Sem.runT_eq]) hfr hcs hx
    | _=>exact hx.elim
  | halt x w1=>
    have sub:∀e∈seen P fr.fn new,e∈new:=fun e he=>fF he
    have hgx:fq (.halt x w1:Result Next):=by rw[T.run] at hgood;exact hgood
    cases x with
    | panic v=>exact T.go sub (fun u u' hu=>by simp[stepG.apply,hu,kT,hek,GStep.after,G,-Sem.runT_eq]) (hfr.raise [{v,recovered:=false }]) hcs
    | goexit=>exact T.go sub (fun u u' hu=>by simp[stepG.apply,hu,kT,hek,GStep.after,G,-Sem.runT_eq]) (hfr.raise [goexitEntry]) hcs
    | _=>exact hgx.elim
 ·generalize hr:s.runT P w #[]=r at hgood
  obtain⟨r,es⟩:=r
  cases r with
  | ok x w1=>exact absurd trivial hgood
  | halt x w1=>
    cases x with
    | panic v=>exact absurd trivial hgood
    | goexit=>exact absurd trivial hgood
    | blocked=>exact SL.jM (g:={frame:=fr,callers:=cs,status:=.blocked,dying:=none }) (w':=w1) (es:=seen P fr.fn #[]) (by simp[stepG.apply,hr,hek,GStep.after,-Sem.runT_eq]) (.inr (.inl rfl))
    | waiting=>exact SL.jM (g:={frame:=fr,callers:=cs,status:=.waiting,dying:=none }) (w':=w1) (es:=seen P fr.fn #[]) (by simp[stepG.apply,hr,hek,GStep.after,-Sem.runT_eq]) (.inr (.inr (.inl rfl)))
    | exit c=>exact SL.bC (o:=.exit c) (w':=w1) (es:=seen P fr.fn es) (by simp[stepG.apply,hr,hek,GStep.after,-Sem.runT_eq]) zs
    | stuck m=>exact SL.bC (o:=.stuck m (fr.pos P)) (w':=w1) (es:=seen P fr.fn es) (by simp[stepG.apply,hr,hek,GStep.after,-Sem.runT_eq]) zs
    | unsupported u=>
      cases u with
      | initOrder g=>
        obtain⟨o,w2,es2,e1,e2⟩:=tL S fr cs g w1
        exact SL.bC (o:=o) (w':=w2) (es:=seen P fr.fn #[] ++ es2) (by simp[stepG.apply,hr,hek,e1,GStep.after,-Sem.runT_eq]) e2
      | _=>exact SL.bC (o:=.unsupported _ (fr.pos P)) (w':=w1) (es:=seen P fr.fn es) (by simp[stepG.apply,hr,hek,GStep.after,-Sem.runT_eq];rfl) zs
    | throw m=>
      obtain⟨g,w2,es2,e1,e2⟩:∃g w2 es2,endThrow fr m w1=.go g w2 es2∧g.dying≠none:=by
       unfold endThrow dieOf
       exact⟨_,_,_,rfl,zs⟩
      exact SL.jM (g:=g) (w':=w2) (es:=seen P fr.fn es ++ es2) (by simp[stepG.apply,hr,hek,e1,GStep.after,-Sem.runT_eq]) (.inl e2)
    | fatal m=>
      have key:(fun u=>stepG.apply P true fr cs none s u) w=GStep.after (seen P fr.fn es) (endFatal P fr cs none m w1):=by simp[stepG.apply,hr,hek,-Sem.runT_eq]
      have:(∃g w2 es2,endFatal P fr cs none m w1=.go g w2 es2∧g.dying≠none)∨∃o w2 es2,endFatal P fr cs none m w1=.ended o w2 es2∧∀v,o≠.done v:=by
       unfold endFatal
       dsimp only
       split
       ·exact .inl ⟨_,_,_,rfl,zs⟩
       ·exact .inr ⟨_,_,_,rfl,zs⟩
       ·exact .inr ⟨_,_,_,rfl,zs⟩
      rcases this with⟨g,w2,es2,e1,e2⟩|⟨o,w2,es2,e1,e2⟩
      ·rw[e1] at key
       exact SL.jM key (.inl e2)
      ·rw[e1] at key
       exact SL.bC key e2
theorem qQ{α:Type}{x:Result α}(h:¬ fq x):∃e w,x=.halt e w∧(∀v,e≠.panic v)∧e≠.goexit:=by
 cases x with
 | ok a w=>exact absurd trivial h
 | halt e w=>exact⟨e,w,rfl,fun v he=>by subst he;exact h trivial,fun he=>by subst he;exact h trivial⟩
theorem Br(S:jW P F Z){fr:Frame}{cs:List Frame}(hfr:Fr P F fr)(hcs:∀c∈cs,Fr P F c){s:Sem Value}{w:World}(hl:Lv Z w)(h:T P Z s){f:World→GStep}{fn:FuncId}
 (hok:∀u v u' es,s.runT P u #[]=(.ok v u',es)→f u=GStep.after (seen P fn es) (doReturn P true fr cs none v u'))
 (hno:∀u e u' es,s.runT P u #[]=(.halt e u',es)→∃o u2 es2,f u=.ended o u2 es2∧∀v,o≠.done v):SL P F Z w f:=by
 by_cases hgood:fq (s.runT P w #[]).1
 ·obtain⟨n,new,r,T⟩:=(h.rn hl).told hgood
  have sub:∀e∈seen P fn new,e∈new:=fun e he=>fF he
  cases r with
  | halt e w1=>
    obtain⟨o,u2,es2,e1,e2⟩:=hno w e w1 new T.run
    exact SL.bC e1 e2
  | ok v w1=>
    cases cs with
    | cons c cs=>
      refine T.go (fr':=c.finish v) (cs':=cs) sub (fun u u' hu=>?_) ((hcs c zs).finish v) fun x hx=>hcs x (by simp[hx])
      rw[hok u v u' new hu]
      simp[doReturn,hfr.kind,GStep.after,G]
    | nil=>
      refine T.done (x:=v) sub (fun u u' hu=>?_)
      rw[hok u v u' new hu]
      simp[doReturn,hfr.kind,GStep.after,S.inits _ hfr.fn]
 ·generalize hr:s.runT P w #[]=r at hgood
  obtain⟨r,es⟩:=r
  obtain⟨e,w1,rfl,_⟩:=qQ hgood
  obtain⟨o,u2,es2,e1,e2⟩:=hno w e w1 es hr
  exact SL.bC e1 e2
theorem BX(S:jW P F Z){fr:Frame}{cs:List Frame}(hfr:Fr P F fr)(hcs:∀c∈cs,Fr P F c){w:World}(hl:Lv Z w):SL P F Z w (fun u=>unwind P true fr cs none u):=by
 obtain⟨fn,tmps,todo,defers,mode,kind,roundOf⟩:=fr
 cases defers with
 | cons d ds=>
   obtain⟨c,hc⟩:=hfr.defers d zs
   obtain⟨t,args⟩:=d
   simp only at hc
   subst hc
   by_cases hgood:fq ((Instr.takeDeferred c).runT P w #[]).1
   ·obtain⟨n,new,r,T⟩:=((xL (P:=P) (Z:=Z) c).rn hl).told hgood
    cases r with
    | ok calls w1=>
      obtain rfl:calls=[]:=T.val _ _ rfl
      exact T.go (fr':={fn,tmps,todo,defers:=ds,mode,kind,roundOf }) (cs':=cs) (es:=seen P fn new) (fun e he=>fF he) (fun u u' hu=>by simp[unwind,hu,kT,GStep.after,G,-Sem.runT_eq])
       ⟨hfr.fn,hfr.todo,fun d hd=>hfr.defers d (by simp[hd]),hfr.kind⟩ hcs
    | halt e w1=>exact SL.bC (o:=.stuck "the deferred calls of a range-over-func loop have been taken" (Frame.pos P _)) (w':=w1) (es:=seen P fn new) (by simp only[unwind,T.run,GStep.after];rfl) zs
   ·generalize hr:(Instr.takeDeferred c).runT P w #[]=r at hgood
    obtain⟨r,es⟩:=r
    obtain⟨e,w1,rfl,_⟩:=qQ hgood
    exact SL.bC (o:=.stuck "the deferred calls of a range-over-func loop have been taken" (Frame.pos P _)) (w':=w1) (es:=seen P fn es) (by simp only[unwind,hr,GStep.after];rfl) zs
 | nil=>
   cases mode with
   | run=>exact SL.bC (o:=.stuck sQ3 (Frame.pos P _)) (w':=w) (es:=#[]) (by simp only[unwind];rfl) zs
   | panicking chain=>
     obtain⟨f,c,h1,h2,_⟩:=S.hF _ hfr.fn
     simp only at h1
     have Dj:Frame.catches P {fn,tmps,todo,defers:=[],mode:=.panicking chain,kind,roundOf }=false:=by
      unfold Frame.catches
      rw[h1]
     cases cs with
     | cons c cs=>
       refine SL.const (fr:=c.raise chain) (cs:=cs) hl (fun v=>?_) ((hcs c zs).raise chain) fun x hx=>hcs x (by simp[hx])
       simp[unwind,Dj,G]
     | nil=>
       by_cases hge:chain.head?.any (·.goexit)=true
       ·exact SL.jM (g:={frame:={fn,tmps,todo,defers:=[],mode:=.panicking chain,kind,roundOf },callers:=[],status:=.finished,dying:=none }) (w':=w) (es:=#[]) (by simp only[unwind,Dj,Bool.false_eq_true,if_false,hge,if_true]) (.inr (.inr (.inr rfl)))
       ·cases hr:(reportChain chain false).run P w with
        | ok Pc w2=>exact SL.jM (w':=w2) (es:=#[]) (by simp only[unwind,Dj,Bool.false_eq_true,if_false,hge,hr];rfl) (.inl zs)
        | halt h0 w2=>cases h0 <;> exact SL.bC (w':=w2) (es:=#[]) (by simp only[unwind,Dj,Bool.false_eq_true,if_false,hge,hr];rfl) zs
   | returning=>
     obtain⟨f,c,h1,h2,_⟩:=S.hF _ hfr.fn
     simp only at h1
     refine Br S hfr hcs hl (OJ f tmps) (fn:=fn) (fun u v u' es hu=>?_) fun u e u' es hu=>?_
     ·simp only[unwind,h1,hu]
     ·simp only[unwind,h1,hu]
      cases e <;> exact⟨_,_,_,rfl,zs⟩
theorem Sd(S:jW P F Z){fr:Frame}{cs:List Frame}(hfr:Fr P F fr)(hcs:∀c∈cs,Fr P F c){w:World}(hl:Lv Z w)(jump:Option Code)(hj:∀c,jump=some c→dh P c=true):
 SL P F Z w (fun u=>match fr.roundOf with
  | none=>if jump matches none|some .ret then .go {frame:={fr with mode:=.returning },callers:=cs,status:=.running,dying:=none } u else .ended (.stuck pS (fr.pos P)) u
  | some l=>
    let (r,es):=(Instr.endRound l jump).runT P u #[]
    GStep.after (seen P fr.fn es) <| match r with
    | .ok v w=>doReturn P true fr cs none v w
    | .halt _ w=>.ended (.stuck YT (fr.pos P)) w):=by
 obtain⟨fn,tmps,todo,defers,mode,kind,roundOf⟩:=fr
 cases roundOf with
 | none=>
   have back:SL P F Z w (fun u=>.go {frame:={fn,tmps,todo,defers,mode:=.returning,kind,roundOf:=none },callers:=cs,status:=.running,dying:=none } u):=
    SL.const (fr:={fn,tmps,todo,defers,mode:=.returning,kind,roundOf:=none }) (cs:=cs) hl (fun v=>rfl) (hfr.mode _) hcs
   have lost:SL P F Z w (fun u=>.ended (.stuck pS (Frame.pos P {fn,tmps,todo,defers,mode,kind,roundOf:=none })) u):=SL.bC (o:=.stuck _ _) (w':=w) (es:=#[]) rfl zs
   cases jump with
   | none=>exact back
   | some c=>cases c <;> first|exact back|exact lost
 | some l=>
   refine Br S hfr hcs hl (Kn l jump fun c f c0 e h0=>(S.hZ _ _).2 ⟨((S.hZ _ _).1 h0).1,hj c e⟩) (fn:=fn) (fun u v u' es hu=>?_) fun u e u' es hu=>?_
   ·simp only[hu]
   ·simp only[hu]
    exact⟨_,_,_,rfl,zs⟩
theorem Told.seq{α:Type}{Q:α→Prop}{s:Sem α}{w w1:World}{n:Nat}{new es':Array Event}{a:α}{f g:World→GStep}(T:Told P Z Q s w n new (.ok a w1))(hes:∀e∈es',e∈new)
 (key:∀u u',s.runT P u #[]=(.ok a u',new)→f u=GStep.after es' (g u'))(h:SL P F Z w1 g):SL P F Z w f:=by
 have hd1:w1.drawn=w.drawn+n:=T.drawn
 have ht1:w1.tape=w.tape:=T.tape
 have mv:∀ {m:Nat} {w2:World} {es2:Array Event} {same Ta:World→World→Prop},Mv Z m w1 w2 es2 same→(∀u u' u2,s.runT P u #[]=(.ok a u',new)→same u' u2→Ta u u2)→Mv Z (n+m) w w2 (es' ++ es2) Ta:=by
  intro m w2 es2 same Ta ⟨k1,k2,k3,k4,k5⟩ hs
  refine⟨by rw[k1,hd1];omega,k2.trans ht1,k3,fun e he=>?_,fun v hv ha=>?_⟩
  ·rcases Array.mem_append.1 he with he|he
   ·exact T.evs e (hes e he)
   ·exact k4 e he
  ·obtain⟨v1,e1,s1,d1,t1⟩:=T.pz v hv (ha.le zo)
   obtain⟨v2,e2,s2,d2,t2⟩:=k5 v1 s1 (Agree.shift ha hd1 ht1 d1 t1)
   exact⟨v2,hs v v1 v2 e1 e2,s2,by rw[d2,d1];omega,t2.trans t1⟩
 unfold SL at h⊢
 rw[key w w1 T.run]
 cases hgw:g w1 with
 | go g' w2 es2=>
   rw[hgw] at h
   exact h.imp id fun⟨k1,m,k2⟩=>⟨k1,n+m,mv k2 fun u u' u2 hu hs=>by rw[key u u' hu,hs];rfl⟩
 | comm g' cases b sh w2 es2=>
   rw[hgw] at h
   obtain⟨k1,k3,m,k2⟩:=h
   exact⟨k1,k3,n+m,mv k2 fun u u' u2 hu hs=>by rw[key u u' hu,hs];rfl⟩
 | ended o w2 es2=>
   rw[hgw] at h
   cases o with
   | done x=>
     obtain⟨m,k2⟩:=h
     exact⟨n+m,mv k2 fun u u' u2 hu hs=>by rw[key u u' hu,hs];rfl⟩
   | _=>trivial
 | spawn g' c w2 es2=>exact trivial
 | _=>rw[hgw] at h;exact h.elim
theorem ql{id:Nat}:∀ {k k':List Item},exitTo id k=some k'→∀i∈k',i∈k:=by
 intro k
 induction k with
 | nil=>intro k' h;cases h
 | cons i k ih=>
   intro k' h x hx
   unfold exitTo at h
   split at h
   ·rename_i heq
    cases heq
    split at h
    ·cases h;simp[hx]
    ·simp[ih h x hx]
   ·rename_i heq
    cases heq
    simp[ih h x hx]
   ·rename_i heq
    cases heq
theorem Df{l:Nat}:∀ {c r:Code},findLabel c l=some r→dh P c=true→dh P r=true:=by
 intro c
 induction c with
 | seq a b iha ihb=>
   intro r h ho
   simp only[dh,Bool.and_eq_true] at ho
   unfold findLabel at h
   split at h
   ·rename_i rest hr
    cases h
    simp only[dh,Bool.and_eq_true]
    exact⟨iha hr ho.1,ho.2⟩
   ·exact ihb h ho.2
 | label l'=>
   intro r h ho
   unfold findLabel at h
   split at h
   ·cases h;rfl
   ·cases h
 | _=>intro r h ho;cases h
theorem Nj{l:Nat}:∀ {k k':List Item},gotoIn l k=some k'→(∀i∈k,gN P i)→∀i∈k',gN P i:=by
 intro k
 induction k with
 | nil=>intro k' h;cases h
 | cons i k ih=>
   intro k' h ho x hx
   have rest:gotoIn l k=some k'→gN P x:=fun h=>ih h (fun i hi=>ho i (by simp[hi])) x hx
   cases i with
   | inScope body=>
     unfold gotoIn at h
     cases hr:findLabel body l with
     | none=>rw[hr] at h;exact rest h
     | some r=>
       rw[hr] at h
       cases h
       have hb:dh P body=true:=ho (.inScope body) zs
       simp only[List.mem_cons] at hx
       rcases hx with rfl|rfl|hx
       ·exact Df hr hb
       ·exact hb
       ·exact ho x (by simp[hx])
   | _=>exact rest (by unfold gotoIn at h;exact h)
theorem Vr(S:jW P F Z){fr:Frame}{cs:List Frame}(hfr:Fr P F fr)(hcs:∀c∈cs,Fr P F c)(hm:fr.mode=.run){w:World}(hl:Lv Z w)(hab:∀f,fr.about P w=some f→F f):SL P F Z w (fun u=>stepG.exec P true true fr cs none u):=by
 have leave:=fun jump hj=>Sd S hfr hcs hl jump hj
 obtain⟨fn,tmps,todo,defers,mode,kind,roundOf⟩:=fr
 simp only at hm
 subst hm
 unfold stepG.exec
 have stay:∀todo',(∀i∈todo',gN P i)→SL P F Z w (fun u=>.go {frame:={fn,tmps,todo:=todo',defers,mode:=.run,kind,roundOf },callers:=cs,status:=.running,dying:=none } u):=fun todo' h=>
  SL.const (fr:={fn,tmps,todo:=todo',defers,mode:=.run,kind,roundOf }) (cs:=cs) hl (fun v=>rfl) ⟨hfr.fn,h,hfr.defers,hfr.kind⟩ hcs
 cases todo with
 | nil=>exact leave none zs
 | cons i k=>
   have hi:=hfr.todo i zs
   have hk:∀x∈k,gN P x:=fun x hx=>hfr.todo x (by simp[hx])
   have one:∀i',gN P i'→∀x∈i' :: k,gN P x:=fun i' h x hx=>by
    rcases List.mem_cons.1 hx with rfl|hx
    ·exact h
    ·exact hk x hx
   have two:∀i1 i2,gN P i1→gN P i2→∀x∈i1 :: i2 :: k,gN P x:=fun i1 i2 h1 h2 x hx=>by
    rcases List.mem_cons.1 hx with rfl|hx
    ·exact h1
    ·exact one i2 h2 x hx
   cases i with
   | code c=>
     replace hi:dh P c=true:=hi
     cases c with
     | skip=>exact stay _ hk
     | label l=>exact stay _ hk
     | ret=>exact leave (some .ret) (by simp[dh])
     | seq a b=>
       simp only[dh,Bool.and_eq_true] at hi
       exact stay _ (two _ _ hi.1 hi.2)
     | cond x a b=>
       simp only[dh,Bool.and_eq_true] at hi
       dsimp only
       generalize Frame.eval _ x=v
       cases v with
       | bool t=>exact stay _ (one (.code (if t then a else b)) (by cases t;exact hi.2;exact hi.1))
       | _=>exact SL.bC (o:=.stuck _ _) (w':=w) (es:=#[]) rfl zs
     | block id b=>exact stay _ (two _ _ hi trivial)
     | loop b=>exact stay _ (two _ _ hi hi)
     | scope b=>exact stay _ (two _ _ hi hi)
     | exit id=>
       have:=leave (some (.exit id)) (by simp[dh])
       dsimp only at this⊢
       cases he:exitTo id k with
       | none=>exact this
       | some k'=>exact stay _ fun x hx=>hk x (ql he x hx)
     | goto l=>
       have:=leave (some (.goto l)) (by simp[dh])
       dsimp only at this⊢
       cases he:gotoIn l k with
       | none=>exact this
       | some k'=>exact stay _ (Nj he hk)
     | region id ops draw=>
       cases draw with
       | false=>exact stay _ (one (.inRegion ops (List.range ops.size)) hi)
       | true=>
         dsimp only
         obtain⟨n,new,r,T⟩:=((dK (P:=P) (Z:=Z) (.order fn id)).rn hl).told (by simp only[choose,Sem.runT];split <;> trivial)
         cases r with
         | ok t w1=>
           have hr:∀u u',(choose (.order fn id)).runT P u #[]=(.ok t u',new)→(choose (.order fn id)).run P u=.ok t u':=fun u u' hu=>by
            have:=Sem.runT_fst P (choose (.order fn id)) u #[]
            rw[hu] at this
            exact this.symm
           exact T.go (fr':={fn,tmps,todo:=.inRegion ops (Region.schedule (P.follows .mixedOrders) ops t) :: k,defers,mode:=.run,kind,roundOf }) (cs':=cs) (es:=#[]) zs (fun u u' hu=>by
            have:=hr u u' hu
            simp[this,G]) ⟨hfr.fn,one (.inRegion ops _) hi,hfr.defers,hfr.kind⟩ hcs
         | halt e w1=>
           exfalso
           have:=T.run
           simp only[choose,Sem.runT] at this
           split at this <;> cases this
     | rangeFunc f params assign body=>
       simp only[dh,Bool.and_eq_true] at hi
       dsimp only
       by_cases hgood:fq ((Instr.enterLoop fn tmps params assign body roundOf).runT P w #[]).1
       ·obtain⟨n,new,r,T⟩:=((GN (P:=P) (Z:=Z) fn tmps params assign body roundOf ((S.hZ _ _).2 ⟨hfr.fn,hi.1⟩) ((S.hZ _ _).2 ⟨hfr.fn,hi.2⟩)).rn hl).told hgood
        cases r with
        | halt e w1=>exact SL.bC (o:=.stuck YT (Frame.pos P _)) (w':=w1) (es:=seen P fn new) (by simp only[T.run,GStep.after];rfl) zs
        | ok x w1=>
          obtain⟨l,mark⟩:=x
          have hmk:=T.val _ _ rfl
          have hrun:(Instr.enterLoop fn tmps params assign body roundOf).run P w=.ok (l,mark) w1:=by
           have:=Sem.runT_fst P (Instr.enterLoop fn tmps params assign body roundOf) w #[]
           rw[T.run] at this
           exact this.symm
          have AD:Fr P F {fn,tmps,todo:=.inRangeFunc l :: k,defers:=mark ++ defers,mode:=.run,kind,roundOf }:=⟨hfr.fn,one (.inRangeFunc l) trivial,fun d hd=>by
           rcases List.mem_append.1 hd with hd|hd
           ·exact hmk d hd
           ·exact hfr.defers d hd,hfr.kind⟩
          refine T.seq (g:=fun u=>stepG.apply P true {fn,tmps,todo:=.inRangeFunc l :: k,defers:=mark ++ defers,mode:=.run,kind,roundOf } cs none (do
           let d ← resolve (Frame.eval {fn,tmps,todo:=.inRangeFunc l :: k,defers:=mark ++ defers,mode:=.run,kind,roundOf }) {callee:=.value f,args:=#[.const (.func (.yield l) #[] #[])],argTypes:=#[] } 0
           invoke d.target d.args) u) (es':=seen P fn new) (fun e he=>fF he) (fun u u' hu=>by simp only[hu]) ?_
          refine vK S AD hcs T.lv ?_
          refine LW S.hg S.hF.zero T.lv ?_ (fun g hgl=>hab g ?_) (fun d w2 hd=>?_)
          ·show(∃d,Deferred.ofValue _ _=pure d)∨∃m,Deferred.ofValue _ _=stuck m
           unfold Deferred.ofValue
           split
           ·exact .inl ⟨_,rfl⟩
           ·exact .inl ⟨_,rfl⟩
           ·exact .inr ⟨_,rfl⟩
          ·unfold Frame.about
           dsimp only
           rw[hrun]
           exact hgl
          ·replace hd:(Deferred.ofValue _ _).run P w1=.ok d w2:=hd
           unfold Deferred.ofValue at hd
           split at hd
           ·cases hd
            exact⟨fun b' ts ty' cs e=>Target.noConfusion e,fun c e=>Target.noConfusion e⟩
           ·cases hd
            exact⟨fun b' ts ty' cs e=>Target.noConfusion e,fun c e=>Target.noConfusion e⟩
           ·cases hd
       ·generalize hr:(Instr.enterLoop fn tmps params assign body roundOf).runT P w #[]=r at hgood
        obtain⟨r,es⟩:=r
        obtain⟨e,w1,rfl,_⟩:=qQ hgood
        exact SL.bC (o:=.stuck YT (Frame.pos P _)) (w':=w1) (es:=seen P fn es) (by simp only[hr,GStep.after];rfl) zs
     | refuse y=>exact SL.bC (o:=.unsupported _ _) (w':=w) (es:=#[]) rfl zs
   | inBlock id=>exact stay _ hk
   | inScope b=>exact stay _ hk
   | inLoop b=>exact stay _ (two _ _ hi hi)
   | inRegion ops l=>
     replace hi:ops.all (mq P)=true:=hi
     cases l with
     | nil=>exact stay _ hk
     | cons j l=>
       dsimp only
       split
       ·unfold stepG.oper Frame.oper?
        dsimp only
        cases ho:ops[j]? with
        | none=>exact SL.bC (o:=.stuck _ _) (w':=w) (es:=#[]) rfl zs
        | some o=>
          have Pq:mq P o=true:=by
           rw[Array.all_eq_true_iff_forall_mem] at hi
           exact hi o (Array.mem_of_getElem? ho)
          have main:SL P F Z w (fun u=>stepG.apply P true {fn,tmps,todo:=.inRegion ops (j :: l) :: k,defers,mode:=.run,kind,roundOf } cs none (execOp (Frame.eval {fn,tmps,todo:=.inRegion ops (j :: l) :: k,defers,mode:=.run,kind,roundOf }) o) u):=by
           refine vK S hfr hcs hl (Wz S.hg S.hF.zero Pq hl fun f hf=>hab f ?_)
           unfold Frame.about
           dsimp only
           rw[ho]
           exact hf
          dsimp only
          refine SL.congr main fun v=>?_
          cases roundOf with
          | none=>rfl
          | some r=>
            split
            ·rename_i hd
             simp only[mq,hd] at Pq
             cases Pq
            ·rfl
       ·exact SL.const (fr:=Frame.finish {fn,tmps,todo:=.inRegion ops (j :: l) :: k,defers,mode:=.run,kind,roundOf } undef) (cs:=cs) hl (fun v=>rfl) (hfr.finish undef) hcs
   | inRangeFunc l=>exact SL.bC (o:=.unsupported _ _) (w':=w) (es:=#[]) rfl zs
   | beginRound=>
     refine vK S hfr hcs hl ?_
     cases roundOf with
     | none=>exact(nY (R:=fV Z F) gE fun _:Unit=>pure .skip).rn hl
     | some l=>exact(tu (DV l)).rn hl
   | endRangeFunc l=>
     dsimp only
     by_cases hgood:fq ((Instr.endLoop l).runT P w #[]).1
     ·obtain⟨n,new,r,T⟩:=((Oz (P:=P) (Z:=Z) l).rn hl).told hgood
      cases r with
      | ok jump w1=>
        have hj:=T.val _ _ rfl
        refine T.go (fr':={fn,tmps,todo:=(jump.map Item.code).toList ++ k,defers,mode:=.run,kind,roundOf }) (cs':=cs) (es:=seen P fn new) (fun e he=>fF he) (fun u u' hu=>by simp[hu,kT,GStep.after,G,-Sem.runT_eq]) ⟨hfr.fn,fun x hx=>?_,hfr.defers,hfr.kind⟩ hcs
        rcases List.mem_append.1 hx with hx|hx
        ·cases jump with
         | none=>simp at hx
         | some c=>
           simp only[Option.map_some,Option.toList_some,List.mem_singleton] at hx
           subst hx
           obtain⟨f,hf⟩:=hj c rfl
           exact((S.hZ _ _).1 hf).2
        ·exact hk x hx
      | halt e w1=>
        have hgx:fq (.halt e w1:Result (Option Code)):=by rw[T.run] at hgood;exact hgood
        cases e with
        | panic v=>exact T.go (fr':=Frame.raise {fn,tmps,todo:=.endRangeFunc l :: k,defers,mode:=.run,kind,roundOf } [{v,recovered:=false }]) (cs':=cs) (es:=seen P fn new) (fun e he=>fF he) (fun u u' hu=>by simp[hu,kT,GStep.after,G,-Sem.runT_eq]) (hfr.raise _) hcs
        | goexit=>exact SL.bC (o:=.stuck YT (Frame.pos P _)) (w':=w1) (es:=seen P fn new) (by simp only[T.run,GStep.after];rfl) zs
        | _=>exact hgx.elim
     ·generalize hr:(Instr.endLoop l).runT P w #[]=r at hgood
      obtain⟨r,es⟩:=r
      obtain⟨e,w1,rfl,hp,_⟩:=qQ hgood
      cases e <;> first|exact absurd rfl (hp _)|exact SL.bC (o:=.stuck YT (Frame.pos P _)) (w':=w1) (es:=seen P fn es) (by simp only[hr,GStep.after];rfl) zs
   | call x b c e=>exact False.elim hi
   | _=>exact False.elim hi
theorem xu(S:jW P F Z){fr:Frame}{cs:List Frame}(hfr:Fr P F fr)(hcs:∀c∈cs,Fr P F c){w:World}(hl:Lv Z w)(hab:∀f,fr.about P w=some f→F f):SL P F Z w (fun u=>stepG P true (G fr cs) u):=by
 cases hm:fr.mode with
 | run=>exact SL.congr (Vr S hfr hcs hm hl hab) fun v=>by simp[stepG,G,hm]
 | returning=>exact SL.congr (BX S hfr hcs hl) fun v=>by simp[stepG,G,hm]
 | panicking c=>exact SL.congr (BX S hfr hcs hl) fun v=>by simp[stepG,G,hm]
end
end Go.dN
