/- Far10 Far11 Far12 Far13 -/
import Derived.Test.YtmjjocnfidnelaaGreatB7
import Derived.Conc.Own4
import Derived.Conc.Listed
import Derived.Conc.Beside
import Derived.Conc.CrowdComm
import Derived.CallsIn
set_option maxRecDepth 100000
set_option maxHeartbeats 16000000
set_option linter.unusedVariables false
set_option linter.unusedSectionVars false
namespace Go.dU
section
open Go.Conc
variable{P:Program}{Z:Env}{F:FuncId→Prop}
theorem fQ{fn:FuncId}{es:Array Event}{e:Event}(h:e∈seen P fn es):e∈es:=by
 rw[seen_def] at h
 have:=seen_fold_sub _ _ _ _ _ h
 simpa using this
def gT(P:Program):Item→Prop
 | .code c| .inLoop c| .inScope c=>dh P c=true
 | .inBlock _| .inRangeFunc _| .beginRound| .endRangeFunc _=>True
 | .inRegion ops _=>ops.all (mP P)=true
 | _=>False
def gK(P:Program)(F:FuncId→Prop):Prop:=∀g,F g→∃f c,P.funcs[g]? =some f∧f.body=some c∧(f.name == "runtime.NumGoroutine")=false∧dh P c=true
theorem gK.zero(h:gK P F):BK P F:=fun g hg=>let ⟨f,c,h1,h2,h3,_⟩:=h g hg;⟨f,c,h1,h2,h3⟩
structure Fr(P:Program)(F:FuncId→Prop)(fr:Frame):Prop where
 fn:F fr.fn
 todo:∀i∈fr.todo,gT P i
 defers:∀d∈fr.defers,∃c,d.target=.collected c
 kind:fr.kind=.normal
def Mv(Z:Env)(n:Nat)(w w':World)(es:Array Event)(same:World→World→Prop):Prop:=
 w'.drawn=w.drawn+n∧w'.tape=w.tape∧Lv Z w'∧(∀e∈es,Fe Z e)∧∀ {K:Nat→Option Obj} (v:World),oZ Z K w v→Agree n w v→∃v',same v v'∧oZ Z K w' v'∧v'.drawn=v.drawn+n∧v'.tape=v.tape
def Rh(P:Program)(F:FuncId→Prop)(g:Goroutine):Prop:=∃fr cs,g=G fr cs∧Fr P F fr∧∀c∈cs,Fr P F c
def Dead(g:Goroutine):Prop:=g.dying≠none∨g.status=.blocked∨g.status=.waiting∨g.status=.finished
def SL(P:Program)(F:FuncId→Prop)(Z:Env)(w:World)(f:World→GStep):Prop:=
 match f w with
 | .go g' w' es=>Dead g'∨Rh P F g'∧∃n,Mv Z n w w' es fun v v'=>f v=.go g' v' es
 | .comm g' cases b sh w' es=>Rh P F g'∧(b=true∧∃c ok,cases=#[c]∧c.send=none∧sh=.recv ok)∧∃n,Mv Z n w w' es fun v v'=>f v=.comm g' cases b sh v' es
 | .ended (.done x) w' es=>∃n,Mv Z n w w' es fun v v'=>f v=.ended (.done x) v' es
 | .ended _ _ _=>True
 | .spawn _ _ _ _=>True
 | _=>False
section
variable{w:World}{f:World→GStep}
theorem SL.TY(h:∃g c w' es,f w=.spawn g c w' es):SL P F Z w f:=by
 obtain⟨g,c,w',es,h⟩:=h
 unfold SL
 rw[h]
 trivial
theorem SL.const{fr:Frame}{cs:List Frame}(hl:Lv Z w)(h:∀v,f v=.go (G fr cs) v #[])(h1:Fr P F fr)(h2:∀c∈cs,Fr P F c):SL P F Z w f:=by
 unfold SL
 rw[h w]
 exact .inr ⟨⟨fr,cs,rfl,h1,h2⟩,0,rfl,rfl,hl,zs,fun v hs ha=>⟨v,h v,hs,rfl,rfl⟩⟩
theorem SL.bH{o:Outcome}{w':World}{es:Array Event}(h:f w=.ended o w' es)(ho:∀v,o≠.done v):SL P F Z w f:=by
 unfold SL
 rw[h]
 cases o <;> first|trivial|exact absurd rfl (ho _)
theorem SL.jP{g:Goroutine}{w':World}{es:Array Event}(h:f w=.go g w' es)(ho:Dead g):SL P F Z w f:=by
 unfold SL
 rw[h]
 exact .inl ho
theorem SL.congr{f':World→GStep}(h:SL P F Z w f)(e:∀v,f' v=f v):SL P F Z w f':=by
 have:f'=f:=funext e
 rw[this];exact h
end
theorem Rn.from{α:Type}{Q:α→Prop}{s:Sem α}{w:World}(h:Rn P Z Q s w)(hg:fF (s.runT P w #[]).1):∃n new r,s.runT P w #[]=(r,new)∧(qY r).drawn=w.drawn+n∧(qY r).tape=w.tape∧Lv Z (qY r)∧(∀e∈new,Fe Z e)∧
 (∀a w',r=.ok a w'→Q a)∧∀ {K:Nat→Option Obj} (v:World),oZ Z K w v→Agree n w v→∃v',s.runT P v #[]=(lC v' r,new)∧oZ Z K (qY r) v'∧v'.drawn=v.drawn+n∧v'.tape=v.tape:=by
 obtain⟨n,new,r,R⟩:=h #[] hg
 refine⟨n,new,r,by simpa using R.run,R.drawn,R.tape,R.lv,R.evs,R.val,fun v hs ha=>?_⟩
 obtain⟨v',e1,e2⟩:=R.qh v #[] hs ha
 exact⟨v',by simpa using e1,e2⟩
theorem Fr.finish{fr:Frame}(h:Fr P F fr)(v:Value):Fr P F (fr.finish v):=by
 obtain⟨fn,tmps,todo,defers,mode,kind,roundOf⟩:=fr
 obtain⟨h1,h2,h3,h4⟩:=h
 simp only at h1 h2 h3 h4
 cases todo with
 | nil=>exact⟨h1,h2,h3,h4⟩
 | cons i k=>
   have hi:=h2 i zs
   have hk:∀x∈k,gT P x:=fun x hx=>h2 x (by simp[hx])
   have two:∀i',gT P i'→∀x∈i' :: k,gT P x:=fun i' h x hx=>by
    rcases List.mem_cons.1 hx with rfl|hx
    ·exact h
    ·exact hk x hx
   cases i with
   | inRegion ops l=>
     cases l with
     | nil=>exact⟨h1,h2,h3,h4⟩
     | cons j l=>exact⟨h1,two (.inRegion ops l) hi,h3,h4⟩
   | inRangeFunc l=>exact⟨h1,two (.endRangeFunc l) trivial,h3,h4⟩
   | beginRound=>exact⟨h1,hk,h3,h4⟩
   | _=>first
     | exact(show False from hi).elim
     | exact⟨h1,h2,h3,h4⟩
theorem Fr.enter{f:FuncId}(hF:gK P F)(hf:F f)(args:Array Value):Fr P F (Frame.enter P f args .normal):=by
 obtain⟨fn,c,h1,h2,_,h4⟩:=hF f hf
 refine⟨hf,fun i hi=>?_,by simp[Frame.enter],rfl⟩
 simp only[Frame.enter,h1,Option.bind_some,h2,Option.getD_some,List.mem_singleton] at hi
 subst hi
 exact h4
theorem Fr.round{l:Nat}{f:FuncId}{tmps:Array Value}{a b:Code}(hf:F f)(ha:dh P a=true)(hb:dh P b=true):Fr P F (Frame.round l f tmps a b .normal):=by
 refine⟨hf,fun i hi=>?_,by simp[Frame.round],rfl⟩
 simp only[Frame.round,List.mem_cons,List.not_mem_nil,or_false] at hi
 rcases hi with rfl|rfl|rfl
 ·exact ha
 ·trivial
 ·exact hb
theorem Fr.mode{fr:Frame}(h:Fr P F fr)(m:FrameMode):Fr P F {fr with mode:=m }:=⟨h.fn,h.todo,h.defers,h.kind⟩
theorem Fr.raise{fr:Frame}(h:Fr P F fr)(vs:List PanicEntry):Fr P F (fr.raise vs):=by
 unfold Frame.raise
 split <;> exact⟨h.fn,h.todo,h.defers,h.kind⟩
structure kr(P:Program)(F:FuncId→Prop)(Z:Env):Prop where
 hg:P.globals.size=0
 hF:gK P F
 hZ:∀f c,Z.jf f c↔F f∧dh P c=true
 ahead:P.follows .staticDataAhead=true
 step:∀g,P.stepOf g=none
 inits:∀f,F f→P.inits.idxOf? f=none
theorem uO(S:kr P F Z)(fr:Frame)(cs:List Frame)(g:Nat)(w:World):∃o w' es,early P fr cs none g w=.ended o w' es∧∀v,o≠.done v:=by
 unfold early
 simp only[S.ahead,S.step]
 exact⟨_,_,_,rfl,zs⟩
theorem Pw{α:Type}(r:Result α):lC (qY r) r=r:=by cases r <;> rfl
structure Told(P:Program)(Z:Env){α:Type}(Q:α→Prop)(s:Sem α)(w:World)(n:Nat)(new:Array Event)(r:Result α):Prop where
 run:s.runT P w #[]=(r,new)
 drawn:(qY r).drawn=w.drawn+n
 tape:(qY r).tape=w.tape
 lv:Lv Z (qY r)
 evs:∀e∈new,Fe Z e
 val:∀a w',r=.ok a w'→Q a
 qh:∀ {K:Nat→Option Obj} (v:World),oZ Z K w v→Agree n w v→∃v',s.runT P v #[]=(lC v' r,new)∧oZ Z K (qY r) v'∧v'.drawn=v.drawn+n∧v'.tape=v.tape
theorem Rn.told{α:Type}{Q:α→Prop}{s:Sem α}{w:World}(h:Rn P Z Q s w)(hg:fF (s.runT P w #[]).1):∃n new r,Told P Z Q s w n new r:=by
 obtain⟨n,new,r,e1,e2,e3,e4,e5,e6,e7⟩:=h.from hg
 exact⟨n,new,r,e1,e2,e3,e4,e5,e6,e7⟩
section
variable{α:Type}{Q:α→Prop}{s:Sem α}{w:World}{n:Nat}{new:Array Event}{r:Result α}{f:World→GStep}{es:Array Event}
theorem Told.mv(T:Told P Z Q s w n new r){same:World→World→Prop}(hes:∀e∈es,e∈new)(h:∀u u',s.runT P u #[]=(lC u' r,new)→same u u'):Mv Z n w (qY r) es same:=
 ⟨T.drawn,T.tape,T.lv,fun e he=>T.evs e (hes e he),fun v hs ha=>let ⟨v',e1,e2,e3,e4⟩:=T.qh v hs ha;⟨v',h v v' e1,e2,e3,e4⟩⟩
theorem Told.self(T:Told P Z Q s w n new r):s.runT P w #[]=(lC (qY r) r,new):=by rw[Pw];exact T.run
theorem Told.go(T:Told P Z Q s w n new r){fr':Frame}{cs':List Frame}(hes:∀e∈es,e∈new)(key:∀u u',s.runT P u #[]=(lC u' r,new)→f u=.go (G fr' cs') u' es)(h1:Fr P F fr')(h2:∀c∈cs',Fr P F c):SL P F Z w f:=by
 unfold SL
 rw[key w _ T.self]
 exact .inr ⟨⟨fr',cs',rfl,h1,h2⟩,n,T.mv hes key⟩
theorem Told.done(T:Told P Z Q s w n new r){x:Value}(hes:∀e∈es,e∈new)(key:∀u u',s.runT P u #[]=(lC u' r,new)→f u=.ended (.done x) u' es):SL P F Z w f:=by
 unfold SL
 rw[key w _ T.self]
 exact⟨n,T.mv hes key⟩
theorem Told.comm(T:Told P Z Q s w n new r){fr':Frame}{cs':List Frame}{cases:Array CommCase}{b:Bool}{sh:CommShape}(hes:∀e∈es,e∈new)(key:∀u u',s.runT P u #[]=(lC u' r,new)→f u=.comm (G fr' cs') cases b sh u' es)
 (h1:Fr P F fr')(h2:∀c∈cs',Fr P F c)(h3:b=true∧∃c ok,cases=#[c]∧c.send=none∧sh=.recv ok):SL P F Z w f:=by
 unfold SL
 rw[key w _ T.self]
 exact⟨⟨fr',cs',rfl,h1,h2⟩,h3,n,T.mv hes key⟩
end
theorem wS(S:kr P F Z){fr:Frame}{cs:List Frame}(hfr:Fr P F fr)(hcs:∀c∈cs,Fr P F c){s:Sem Next}{w:World}(hl:Lv Z w)(h:Rn P Z (gy Z F) s w):SL P F Z w (fun u=>stepG.apply P true fr cs none s u):=by
 have hk:∀d b r sv k,fr.todo≠.call d b r sv :: k:=fun d b r sv k e=>(show False from hfr.todo (.call d b r sv) (by rw[e];simp))
 have hek:(fr.kind == CallKind.early)=false:=by rw[hfr.kind];rfl
 have hall:∀c∈fr :: cs,Fr P F c:=fun c hc=>by
  rcases List.mem_cons.1 hc with rfl|hc
  ·exact hfr
  ·exact hcs c hc
 by_cases hgood:fF (s.runT P w #[]).1
 ·obtain⟨n,new,r,T⟩:=h.told hgood
  cases r with
  | ok x w1=>
    have hx:=T.val x w1 rfl
    have sub:∀e∈seen P fr.fn new,e∈new:=fun e he=>fQ he
    cases x with
    | value v=>exact T.go sub (fun u u' hu=>by simp[stepG.apply,hu,lC,hek,GStep.after,G,-Sem.runT_eq]) (hfr.finish v) hcs
    | skip=>exact T.go sub (fun u u' hu=>by simp[stepG.apply,hu,lC,hek,GStep.after,G,-Sem.runT_eq]) (hfr.finish undef) hcs
    | enter f args=>exact T.go sub (fun u u' hu=>by simp[stepG.apply,hu,lC,hek,GStep.after,G,-Sem.runT_eq];split <;> first|rfl|exact absurd (by assumption) (hk _ _ _ _ _)) (Fr.enter S.hF hx args) hall
    | round l f tmps a b=>
      obtain⟨h1,h2⟩:=hx
      exact T.go sub (fun u u' hu=>by simp[stepG.apply,hu,lC,hek,GStep.after,G,-Sem.runT_eq]) (Fr.round (l:=l) (tmps:=tmps) ((S.hZ _ _).1 h1).1 ((S.hZ _ _).1 h1).2 ((S.hZ _ _).1 h2).2) hall
    | spawn d=>
      have key:(∃g w2 es2,(fun u=>stepG.apply P true fr cs none s u) w=.go g w2 es2∧g.dying≠none)∨∃g c w2 es2,(fun u=>stepG.apply P true fr cs none s u) w=.spawn g c w2 es2:=by
       have hr:s.runT P w #[]=(.ok (.spawn d) w1,new):=T.run
       dsimp only
       unfold stepG.apply
       simp only[if_true,hr,hek,Bool.false_eq_true,if_false]
       unfold endThrow dieOf
       repeat' split
       all_goals first|exact .inr ⟨_,_,_,_,rfl⟩|exact .inl ⟨_,_,_,rfl,fun h=>by cases h⟩
      rcases key with⟨g,w2,es2,e1,e2⟩|h
      ·exact SL.jP e1 (.inl e2)
      ·exact SL.TY h
    | comm cases b sh=>exact T.comm sub (fun u u' hu=>by simp[stepG.apply,hu,lC,hek,GStep.after,G,-Sem.runT_eq]) hfr hcs hx
    | _=>exact hx.elim
  | halt x w1=>
    have sub:∀e∈seen P fr.fn new,e∈new:=fun e he=>fQ he
    have hgx:fF (.halt x w1:Result Next):=by rw[T.run] at hgood;exact hgood
    cases x with
    | panic v=>exact T.go sub (fun u u' hu=>by simp[stepG.apply,hu,lC,hek,GStep.after,G,-Sem.runT_eq]) (hfr.raise [{v,recovered:=false }]) hcs
    | goexit=>exact T.go sub (fun u u' hu=>by simp[stepG.apply,hu,lC,hek,GStep.after,G,-Sem.runT_eq]) (hfr.raise [goexitEntry]) hcs
    | _=>exact hgx.elim
 ·generalize hr:s.runT P w #[]=r at hgood
  obtain⟨r,es⟩:=r
  cases r with
  | ok x w1=>exact absurd trivial hgood
  | halt x w1=>
    cases x with
    | panic v=>exact absurd trivial hgood
    | goexit=>exact absurd trivial hgood
    | blocked=>exact SL.jP (g:={frame:=fr,callers:=cs,status:=.blocked,dying:=none }) (w':=w1) (es:=seen P fr.fn #[]) (by simp[stepG.apply,hr,hek,GStep.after,-Sem.runT_eq]) (.inr (.inl rfl))
    | waiting=>exact SL.jP (g:={frame:=fr,callers:=cs,status:=.waiting,dying:=none }) (w':=w1) (es:=seen P fr.fn #[]) (by simp[stepG.apply,hr,hek,GStep.after,-Sem.runT_eq]) (.inr (.inr (.inl rfl)))
    | exit c=>exact SL.bH (o:=.exit c) (w':=w1) (es:=seen P fr.fn es) (by simp[stepG.apply,hr,hek,GStep.after,-Sem.runT_eq]) zs
    | stuck m=>exact SL.bH (o:=.stuck m (fr.pos P)) (w':=w1) (es:=seen P fr.fn es) (by simp[stepG.apply,hr,hek,GStep.after,-Sem.runT_eq]) zs
    | unsupported u=>
      cases u with
      | initOrder g=>
        obtain⟨o,w2,es2,e1,e2⟩:=uO S fr cs g w1
        exact SL.bH (o:=o) (w':=w2) (es:=seen P fr.fn #[] ++ es2) (by simp[stepG.apply,hr,hek,e1,GStep.after,-Sem.runT_eq]) e2
      | _=>exact SL.bH (o:=.unsupported _ (fr.pos P)) (w':=w1) (es:=seen P fr.fn es) (by simp[stepG.apply,hr,hek,GStep.after,-Sem.runT_eq];rfl) zs
    | throw m=>
      obtain⟨g,w2,es2,e1,e2⟩:∃g w2 es2,endThrow fr m w1=.go g w2 es2∧g.dying≠none:=by
       unfold endThrow dieOf
       exact⟨_,_,_,rfl,zs⟩
      exact SL.jP (g:=g) (w':=w2) (es:=seen P fr.fn es ++ es2) (by simp[stepG.apply,hr,hek,e1,GStep.after,-Sem.runT_eq]) (.inl e2)
    | fatal m=>
      have key:(fun u=>stepG.apply P true fr cs none s u) w=GStep.after (seen P fr.fn es) (endFatal P fr cs none m w1):=by simp[stepG.apply,hr,hek,-Sem.runT_eq]
      have:(∃g w2 es2,endFatal P fr cs none m w1=.go g w2 es2∧g.dying≠none)∨∃o w2 es2,endFatal P fr cs none m w1=.ended o w2 es2∧∀v,o≠.done v:=by
       unfold endFatal
       dsimp only
       split
       ·exact .inl ⟨_,_,_,rfl,zs⟩
       ·exact .inr ⟨_,_,_,rfl,zs⟩
       ·exact .inr ⟨_,_,_,rfl,zs⟩
      rcases this with⟨g,w2,es2,e1,e2⟩|⟨o,w2,es2,e1,e2⟩
      ·rw[e1] at key
       exact SL.jP key (.inl e2)
      ·rw[e1] at key
       exact SL.bH key e2
theorem rO{α:Type}{x:Result α}(h:¬ fF x):∃e w,x=.halt e w∧(∀v,e≠.panic v)∧e≠.goexit:=by
 cases x with
 | ok a w=>exact absurd trivial h
 | halt e w=>exact⟨e,w,rfl,fun v he=>by subst he;exact h trivial,fun he=>by subst he;exact h trivial⟩
theorem CJ(S:kr P F Z){fr:Frame}{cs:List Frame}(hfr:Fr P F fr)(hcs:∀c∈cs,Fr P F c){s:Sem Value}{w:World}(hl:Lv Z w)(h:T P Z s){f:World→GStep}{fn:FuncId}
 (hok:∀u v u' es,s.runT P u #[]=(.ok v u',es)→f u=GStep.after (seen P fn es) (doReturn P true fr cs none v u'))
 (hno:∀u e u' es,s.runT P u #[]=(.halt e u',es)→∃o u2 es2,f u=.ended o u2 es2∧∀v,o≠.done v):SL P F Z w f:=by
 by_cases hgood:fF (s.runT P w #[]).1
 ·obtain⟨n,new,r,T⟩:=(h.rn hl).told hgood
  have sub:∀e∈seen P fn new,e∈new:=fun e he=>fQ he
  cases r with
  | halt e w1=>
    obtain⟨o,u2,es2,e1,e2⟩:=hno w e w1 new T.run
    exact SL.bH e1 e2
  | ok v w1=>
    cases cs with
    | cons c cs=>
      refine T.go (fr':=c.finish v) (cs':=cs) sub (fun u u' hu=>?_) ((hcs c zs).finish v) fun x hx=>hcs x (by simp[hx])
      rw[hok u v u' new hu]
      simp[doReturn,hfr.kind,GStep.after,G]
    | nil=>
      refine T.done (x:=v) sub (fun u u' hu=>?_)
      rw[hok u v u' new hu]
      simp[doReturn,hfr.kind,GStep.after,S.inits _ hfr.fn]
 ·generalize hr:s.runT P w #[]=r at hgood
  obtain⟨r,es⟩:=r
  obtain⟨e,w1,rfl,_⟩:=rO hgood
  obtain⟨o,u2,es2,e1,e2⟩:=hno w e w1 es hr
  exact SL.bH e1 e2
theorem Dg(S:kr P F Z){fr:Frame}{cs:List Frame}(hfr:Fr P F fr)(hcs:∀c∈cs,Fr P F c){w:World}(hl:Lv Z w):SL P F Z w (fun u=>unwind P true fr cs none u):=by
 obtain⟨fn,tmps,todo,defers,mode,kind,roundOf⟩:=fr
 cases defers with
 | cons d ds=>
   obtain⟨c,hc⟩:=hfr.defers d zs
   obtain⟨t,args⟩:=d
   simp only at hc
   subst hc
   by_cases hgood:fF ((Instr.takeDeferred c).runT P w #[]).1
   ·obtain⟨n,new,r,T⟩:=((Ac (P:=P) (Z:=Z) c).rn hl).told hgood
    cases r with
    | ok calls w1=>
      obtain rfl:calls=[]:=T.val _ _ rfl
      exact T.go (fr':={fn,tmps,todo,defers:=ds,mode,kind,roundOf }) (cs':=cs) (es:=seen P fn new) (fun e he=>fQ he) (fun u u' hu=>by simp[unwind,hu,lC,GStep.after,G,-Sem.runT_eq])
       ⟨hfr.fn,hfr.todo,fun d hd=>hfr.defers d (by simp[hd]),hfr.kind⟩ hcs
    | halt e w1=>exact SL.bH (o:=.stuck "the deferred calls of a range-over-func loop have been taken" (Frame.pos P _)) (w':=w1) (es:=seen P fn new) (by simp only[unwind,T.run,GStep.after];rfl) zs
   ·generalize hr:(Instr.takeDeferred c).runT P w #[]=r at hgood
    obtain⟨r,es⟩:=r
    obtain⟨e,w1,rfl,_⟩:=rO hgood
    exact SL.bH (o:=.stuck "the deferred calls of a range-over-func loop have been taken" (Frame.pos P _)) (w':=w1) (es:=seen P fn es) (by simp only[unwind,hr,GStep.after];rfl) zs
 | nil=>
   cases mode with
   | run=>exact SL.bH (o:=.stuck sQ3 (Frame.pos P _)) (w':=w) (es:=#[]) (by simp only[unwind];rfl) zs
   | panicking chain=>
     obtain⟨f,c,h1,h2,_⟩:=S.hF _ hfr.fn
     simp only at h1
     have Ed:Frame.catches P {fn,tmps,todo,defers:=[],mode:=.panicking chain,kind,roundOf }=false:=by
      unfold Frame.catches
      rw[h1]
     cases cs with
     | cons c cs=>
       refine SL.const (fr:=c.raise chain) (cs:=cs) hl (fun v=>?_) ((hcs c zs).raise chain) fun x hx=>hcs x (by simp[hx])
       simp[unwind,Ed,G]
     | nil=>
       by_cases hge:chain.head?.any (·.goexit)=true
       ·exact SL.jP (g:={frame:={fn,tmps,todo,defers:=[],mode:=.panicking chain,kind,roundOf },callers:=[],status:=.finished,dying:=none }) (w':=w) (es:=#[]) (by simp only[unwind,Ed,Bool.false_eq_true,if_false,hge,if_true]) (.inr (.inr (.inr rfl)))
       ·cases hr:(reportChain chain false).run P w with
        | ok aan w2=>exact SL.jP (w':=w2) (es:=#[]) (by simp only[unwind,Ed,Bool.false_eq_true,if_false,hge,hr];rfl) (.inl zs)
        | halt h0 w2=>cases h0 <;> exact SL.bH (w':=w2) (es:=#[]) (by simp only[unwind,Ed,Bool.false_eq_true,if_false,hge,hr];rfl) zs
   | returning=>
     obtain⟨f,c,h1,h2,_⟩:=S.hF _ hfr.fn
     simp only at h1
     refine CJ S hfr hcs hl (Qb f tmps) (fn:=fn) (fun u v u' es hu=>?_) fun u e u' es hu=>?_
     ·simp only[unwind,h1,hu]
     ·simp only[unwind,h1,hu]
      cases e <;> exact⟨_,_,_,rfl,zs⟩
theorem TM(S:kr P F Z){fr:Frame}{cs:List Frame}(hfr:Fr P F fr)(hcs:∀c∈cs,Fr P F c){w:World}(hl:Lv Z w)(jump:Option Code)(hj:∀c,jump=some c→dh P c=true):
 SL P F Z w (fun u=>match fr.roundOf with
  | none=>if jump matches none|some .ret then .go {frame:={fr with mode:=.returning },callers:=cs,status:=.running,dying:=none } u else .ended (.stuck sQ4 (fr.pos P)) u
  | some l=>
    let (r,es):=(Instr.endRound l jump).runT P u #[]
    GStep.after (seen P fr.fn es) <| match r with
    | .ok v w=>doReturn P true fr cs none v w
    | .halt _ w=>.ended (.stuck sQ5 (fr.pos P)) w):=by
 obtain⟨fn,tmps,todo,defers,mode,kind,roundOf⟩:=fr
 cases roundOf with
 | none=>
   have back:SL P F Z w (fun u=>.go {frame:={fn,tmps,todo,defers,mode:=.returning,kind,roundOf:=none },callers:=cs,status:=.running,dying:=none } u):=
    SL.const (fr:={fn,tmps,todo,defers,mode:=.returning,kind,roundOf:=none }) (cs:=cs) hl (fun v=>rfl) (hfr.mode _) hcs
   have lost:SL P F Z w (fun u=>.ended (.stuck sQ4 (Frame.pos P {fn,tmps,todo,defers,mode,kind,roundOf:=none })) u):=SL.bH (o:=.stuck _ _) (w':=w) (es:=#[]) rfl zs
   cases jump with
   | none=>exact back
   | some c=>cases c <;> first|exact back|exact lost
 | some l=>
   refine CJ S hfr hcs hl (Lf l jump fun c f c0 e h0=>(S.hZ _ _).2 ⟨((S.hZ _ _).1 h0).1,hj c e⟩) (fn:=fn) (fun u v u' es hu=>?_) fun u e u' es hu=>?_
   ·simp only[hu]
   ·simp only[hu]
    exact⟨_,_,_,rfl,zs⟩
theorem Told.seq{α:Type}{Q:α→Prop}{s:Sem α}{w w1:World}{n:Nat}{new es':Array Event}{a:α}{f g:World→GStep}(T:Told P Z Q s w n new (.ok a w1))(hes:∀e∈es',e∈new)
 (key:∀u u',s.runT P u #[]=(.ok a u',new)→f u=GStep.after es' (g u'))(h:SL P F Z w1 g):SL P F Z w f:=by
 have hd1:w1.drawn=w.drawn+n:=T.drawn
 have ht1:w1.tape=w.tape:=T.tape
 have mv:∀ {m:Nat} {w2:World} {es2:Array Event} {same Us:World→World→Prop},Mv Z m w1 w2 es2 same→(∀u u' u2,s.runT P u #[]=(.ok a u',new)→same u' u2→Us u u2)→Mv Z (n+m) w w2 (es' ++ es2) Us:=by
  intro m w2 es2 same Us ⟨k1,k2,k3,k4,k5⟩ hs
  refine⟨by rw[k1,hd1];omega,k2.trans ht1,k3,fun e he=>?_,fun v hv ha=>?_⟩
  ·rcases Array.mem_append.1 he with he|he
   ·exact T.evs e (hes e he)
   ·exact k4 e he
  ·obtain⟨v1,e1,s1,d1,t1⟩:=T.qh v hv (ha.le zo)
   obtain⟨v2,e2,s2,d2,t2⟩:=k5 v1 s1 (Agree.shift ha hd1 ht1 d1 t1)
   exact⟨v2,hs v v1 v2 e1 e2,s2,by rw[d2,d1];omega,t2.trans t1⟩
 unfold SL at h⊢
 rw[key w w1 T.run]
 cases hgw:g w1 with
 | go g' w2 es2=>
   rw[hgw] at h
   exact h.imp id fun⟨k1,m,k2⟩=>⟨k1,n+m,mv k2 fun u u' u2 hu hs=>by rw[key u u' hu,hs];rfl⟩
 | comm g' cases b sh w2 es2=>
   rw[hgw] at h
   obtain⟨k1,k3,m,k2⟩:=h
   exact⟨k1,k3,n+m,mv k2 fun u u' u2 hu hs=>by rw[key u u' hu,hs];rfl⟩
 | ended o w2 es2=>
   rw[hgw] at h
   cases o with
   | done x=>
     obtain⟨m,k2⟩:=h
     exact⟨n+m,mv k2 fun u u' u2 hu hs=>by rw[key u u' hu,hs];rfl⟩
   | _=>trivial
 | spawn g' c w2 es2=>exact trivial
 | _=>rw[hgw] at h;exact h.elim
theorem qK{id:Nat}:∀ {k k':List Item},exitTo id k=some k'→∀i∈k',i∈k:=by
 intro k
 induction k with
 | nil=>intro k' h;cases h
 | cons i k ih=>
   intro k' h x hx
   unfold exitTo at h
   split at h
   ·rename_i heq
    cases heq
    split at h
    ·cases h;simp[hx]
    ·simp[ih h x hx]
   ·rename_i heq
    cases heq
    simp[ih h x hx]
   ·rename_i heq
    cases heq
theorem D9{l:Nat}:∀ {c r:Code},findLabel c l=some r→dh P c=true→dh P r=true:=by
 intro c
 induction c with
 | seq a b iha ihb=>
   intro r h ho
   simp only[dh,Bool.and_eq_true] at ho
   unfold findLabel at h
   split at h
   ·rename_i rest hr
    cases h
    simp only[dh,Bool.and_eq_true]
    exact⟨iha hr ho.1,ho.2⟩
   ·exact ihb h ho.2
 | label l'=>
   intro r h ho
   unfold findLabel at h
   split at h
   ·cases h;rfl
   ·cases h
 | _=>intro r h ho;cases h
theorem Oy{l:Nat}:∀ {k k':List Item},gotoIn l k=some k'→(∀i∈k,gT P i)→∀i∈k',gT P i:=by
 intro k
 induction k with
 | nil=>intro k' h;cases h
 | cons i k ih=>
   intro k' h ho x hx
   have rest:gotoIn l k=some k'→gT P x:=fun h=>ih h (fun i hi=>ho i (by simp[hi])) x hx
   cases i with
   | inScope body=>
     unfold gotoIn at h
     cases hr:findLabel body l with
     | none=>rw[hr] at h;exact rest h
     | some r=>
       rw[hr] at h
       cases h
       have hb:dh P body=true:=ho (.inScope body) zs
       simp only[List.mem_cons] at hx
       rcases hx with rfl|rfl|hx
       ·exact D9 hr hb
       ·exact hb
       ·exact ho x (by simp[hx])
   | _=>exact rest (by unfold gotoIn at h;exact h)
theorem Xb(S:kr P F Z){fr:Frame}{cs:List Frame}(hfr:Fr P F fr)(hcs:∀c∈cs,Fr P F c)(hm:fr.mode=.run){w:World}(hl:Lv Z w)(hab:∀f,fr.about P w=some f→F f):SL P F Z w (fun u=>stepG.exec P true true fr cs none u):=by
 have leave:=fun jump hj=>TM S hfr hcs hl jump hj
 obtain⟨fn,tmps,todo,defers,mode,kind,roundOf⟩:=fr
 simp only at hm
 subst hm
 unfold stepG.exec
 have stay:∀todo',(∀i∈todo',gT P i)→SL P F Z w (fun u=>.go {frame:={fn,tmps,todo:=todo',defers,mode:=.run,kind,roundOf },callers:=cs,status:=.running,dying:=none } u):=fun todo' h=>
  SL.const (fr:={fn,tmps,todo:=todo',defers,mode:=.run,kind,roundOf }) (cs:=cs) hl (fun v=>rfl) ⟨hfr.fn,h,hfr.defers,hfr.kind⟩ hcs
 cases todo with
 | nil=>exact leave none zs
 | cons i k=>
   have hi:=hfr.todo i zs
   have hk:∀x∈k,gT P x:=fun x hx=>hfr.todo x (by simp[hx])
   have one:∀i',gT P i'→∀x∈i' :: k,gT P x:=fun i' h x hx=>by
    rcases List.mem_cons.1 hx with rfl|hx
    ·exact h
    ·exact hk x hx
   have two:∀i1 i2,gT P i1→gT P i2→∀x∈i1 :: i2 :: k,gT P x:=fun i1 i2 h1 h2 x hx=>by
    rcases List.mem_cons.1 hx with rfl|hx
    ·exact h1
    ·exact one i2 h2 x hx
   cases i with
   | code c=>
     replace hi:dh P c=true:=hi
     cases c with
     | skip=>exact stay _ hk
     | label l=>exact stay _ hk
     | ret=>exact leave (some .ret) (by simp[dh])
     | seq a b=>
       simp only[dh,Bool.and_eq_true] at hi
       exact stay _ (two _ _ hi.1 hi.2)
     | cond x a b=>
       simp only[dh,Bool.and_eq_true] at hi
       dsimp only
       generalize Frame.eval _ x=v
       cases v with
       | bool t=>exact stay _ (one (.code (if t then a else b)) (by cases t;exact hi.2;exact hi.1))
       | _=>exact SL.bH (o:=.stuck _ _) (w':=w) (es:=#[]) rfl zs
     | block id b=>exact stay _ (two _ _ hi trivial)
     | loop b=>exact stay _ (two _ _ hi hi)
     | scope b=>exact stay _ (two _ _ hi hi)
     | exit id=>
       have:=leave (some (.exit id)) (by simp[dh])
       dsimp only at this⊢
       cases he:exitTo id k with
       | none=>exact this
       | some k'=>exact stay _ fun x hx=>hk x (qK he x hx)
     | goto l=>
       have:=leave (some (.goto l)) (by simp[dh])
       dsimp only at this⊢
       cases he:gotoIn l k with
       | none=>exact this
       | some k'=>exact stay _ (Oy he hk)
     | region id ops draw=>
       cases draw with
       | false=>exact stay _ (one (.inRegion ops (List.range ops.size)) hi)
       | true=>
         dsimp only
         obtain⟨n,new,r,T⟩:=((dR (P:=P) (Z:=Z) (.order fn id)).rn hl).told (by simp only[choose,Sem.runT];split <;> trivial)
         cases r with
         | ok t w1=>
           have hr:∀u u',(choose (.order fn id)).runT P u #[]=(.ok t u',new)→(choose (.order fn id)).run P u=.ok t u':=fun u u' hu=>by
            have:=Sem.runT_fst P (choose (.order fn id)) u #[]
            rw[hu] at this
            exact this.symm
           exact T.go (fr':={fn,tmps,todo:=.inRegion ops (Region.schedule (P.follows .mixedOrders) ops t) :: k,defers,mode:=.run,kind,roundOf }) (cs':=cs) (es:=#[]) zs (fun u u' hu=>by
            have:=hr u u' hu
            simp[this,G]) ⟨hfr.fn,one (.inRegion ops _) hi,hfr.defers,hfr.kind⟩ hcs
         | halt e w1=>
           exfalso
           have:=T.run
           simp only[choose,Sem.runT] at this
           split at this <;> cases this
     | rangeFunc f params assign body=>
       simp only[dh,Bool.and_eq_true] at hi
       dsimp only
       by_cases hgood:fF ((Instr.enterLoop fn tmps params assign body roundOf).runT P w #[]).1
       ·obtain⟨n,new,r,T⟩:=((Iw (P:=P) (Z:=Z) fn tmps params assign body roundOf ((S.hZ _ _).2 ⟨hfr.fn,hi.1⟩) ((S.hZ _ _).2 ⟨hfr.fn,hi.2⟩)).rn hl).told hgood
        cases r with
        | halt e w1=>exact SL.bH (o:=.stuck sQ5 (Frame.pos P _)) (w':=w1) (es:=seen P fn new) (by simp only[T.run,GStep.after];rfl) zs
        | ok x w1=>
          obtain⟨l,mark⟩:=x
          have hmk:=T.val _ _ rfl
          have hrun:(Instr.enterLoop fn tmps params assign body roundOf).run P w=.ok (l,mark) w1:=by
           have:=Sem.runT_fst P (Instr.enterLoop fn tmps params assign body roundOf) w #[]
           rw[T.run] at this
           exact this.symm
          have Kb:Fr P F {fn,tmps,todo:=.inRangeFunc l :: k,defers:=mark ++ defers,mode:=.run,kind,roundOf }:=⟨hfr.fn,one (.inRangeFunc l) trivial,fun d hd=>by
           rcases List.mem_append.1 hd with hd|hd
           ·exact hmk d hd
           ·exact hfr.defers d hd,hfr.kind⟩
          refine T.seq (g:=fun u=>stepG.apply P true {fn,tmps,todo:=.inRangeFunc l :: k,defers:=mark ++ defers,mode:=.run,kind,roundOf } cs none (do
           let d ← resolve (Frame.eval {fn,tmps,todo:=.inRangeFunc l :: k,defers:=mark ++ defers,mode:=.run,kind,roundOf }) {callee:=.value f,args:=#[.const (.func (.yield l) #[] #[])],argTypes:=#[] } 0
           invoke d.target d.args) u) (es':=seen P fn new) (fun e he=>fQ he) (fun u u' hu=>by simp only[hu]) ?_
          refine wS S Kb hcs T.lv ?_
          refine MX S.hg S.hF.zero T.lv ?_ (fun g hgl=>hab g ?_) (fun d w2 hd=>?_)
          ·show(∃d,Deferred.ofValue _ _=pure d)∨∃m,Deferred.ofValue _ _=stuck m
           unfold Deferred.ofValue
           split
           ·exact .inl ⟨_,rfl⟩
           ·exact .inl ⟨_,rfl⟩
           ·exact .inr ⟨_,rfl⟩
          ·unfold Frame.about
           dsimp only
           rw[hrun]
           exact hgl
          ·replace hd:(Deferred.ofValue _ _).run P w1=.ok d w2:=hd
           unfold Deferred.ofValue at hd
           split at hd
           ·cases hd
            exact⟨fun b' ts ty' cs e=>Target.noConfusion e,fun c e=>Target.noConfusion e⟩
           ·cases hd
            exact⟨fun b' ts ty' cs e=>Target.noConfusion e,fun c e=>Target.noConfusion e⟩
           ·cases hd
       ·generalize hr:(Instr.enterLoop fn tmps params assign body roundOf).runT P w #[]=r at hgood
        obtain⟨r,es⟩:=r
        obtain⟨e,w1,rfl,_⟩:=rO hgood
        exact SL.bH (o:=.stuck sQ5 (Frame.pos P _)) (w':=w1) (es:=seen P fn es) (by simp only[hr,GStep.after];rfl) zs
     | refuse y=>exact SL.bH (o:=.unsupported _ _) (w':=w) (es:=#[]) rfl zs
   | inBlock id=>exact stay _ hk
   | inScope b=>exact stay _ hk
   | inLoop b=>exact stay _ (two _ _ hi hi)
   | inRegion ops l=>
     replace hi:ops.all (mP P)=true:=hi
     cases l with
     | nil=>exact stay _ hk
     | cons j l=>
       dsimp only
       split
       ·unfold stepG.oper Frame.oper?
        dsimp only
        cases ho:ops[j]? with
        | none=>exact SL.bH (o:=.stuck _ _) (w':=w) (es:=#[]) rfl zs
        | some o=>
          have QB:mP P o=true:=by
           rw[Array.all_eq_true_iff_forall_mem] at hi
           exact hi o (Array.mem_of_getElem? ho)
          have main:SL P F Z w (fun u=>stepG.apply P true {fn,tmps,todo:=.inRegion ops (j :: l) :: k,defers,mode:=.run,kind,roundOf } cs none (execOp (Frame.eval {fn,tmps,todo:=.inRegion ops (j :: l) :: k,defers,mode:=.run,kind,roundOf }) o) u):=by
           refine wS S hfr hcs hl (Yd S.hg S.hF.zero QB hl fun f hf=>hab f ?_)
           unfold Frame.about
           dsimp only
           rw[ho]
           exact hf
          dsimp only
          refine SL.congr main fun v=>?_
          cases roundOf with
          | none=>rfl
          | some r=>
            split
            ·rename_i hd
             simp only[mP,hd] at QB
             cases QB
            ·rfl
       ·exact SL.const (fr:=Frame.finish {fn,tmps,todo:=.inRegion ops (j :: l) :: k,defers,mode:=.run,kind,roundOf } undef) (cs:=cs) hl (fun v=>rfl) (hfr.finish undef) hcs
   | inRangeFunc l=>exact SL.bH (o:=.unsupported _ _) (w':=w) (es:=#[]) rfl zs
   | beginRound=>
     refine wS S hfr hcs hl ?_
     cases roundOf with
     | none=>exact(oG (R:=gy Z F) sQ6 fun _:Unit=>pure .skip).rn hl
     | some l=>exact(tu (EG l)).rn hl
   | endRangeFunc l=>
     dsimp only
     by_cases hgood:fF ((Instr.endLoop l).runT P w #[]).1
     ·obtain⟨n,new,r,T⟩:=((PX (P:=P) (Z:=Z) l).rn hl).told hgood
      cases r with
      | ok jump w1=>
        have hj:=T.val _ _ rfl
        refine T.go (fr':={fn,tmps,todo:=(jump.map Item.code).toList ++ k,defers,mode:=.run,kind,roundOf }) (cs':=cs) (es:=seen P fn new) (fun e he=>fQ he) (fun u u' hu=>by simp[hu,lC,GStep.after,G,-Sem.runT_eq]) ⟨hfr.fn,fun x hx=>?_,hfr.defers,hfr.kind⟩ hcs
        rcases List.mem_append.1 hx with hx|hx
        ·cases jump with
         | none=>simp at hx
         | some c=>
           simp only[Option.map_some,Option.toList_some,List.mem_singleton] at hx
           subst hx
           obtain⟨f,hf⟩:=hj c rfl
           exact((S.hZ _ _).1 hf).2
        ·exact hk x hx
      | halt e w1=>
        have hgx:fF (.halt e w1:Result (Option Code)):=by rw[T.run] at hgood;exact hgood
        cases e with
        | panic v=>exact T.go (fr':=Frame.raise {fn,tmps,todo:=.endRangeFunc l :: k,defers,mode:=.run,kind,roundOf } [{v,recovered:=false }]) (cs':=cs) (es:=seen P fn new) (fun e he=>fQ he) (fun u u' hu=>by simp[hu,lC,GStep.after,G,-Sem.runT_eq]) (hfr.raise _) hcs
        | goexit=>exact SL.bH (o:=.stuck sQ5 (Frame.pos P _)) (w':=w1) (es:=seen P fn new) (by simp only[T.run,GStep.after];rfl) zs
        | _=>exact hgx.elim
     ·generalize hr:(Instr.endLoop l).runT P w #[]=r at hgood
      obtain⟨r,es⟩:=r
      obtain⟨e,w1,rfl,hp,_⟩:=rO hgood
      cases e <;> first|exact absurd rfl (hp _)|exact SL.bH (o:=.stuck sQ5 (Frame.pos P _)) (w':=w1) (es:=seen P fn es) (by simp only[hr,GStep.after];rfl) zs
   | call x b c e=>exact False.elim hi
   | _=>exact False.elim hi
theorem yL(S:kr P F Z){fr:Frame}{cs:List Frame}(hfr:Fr P F fr)(hcs:∀c∈cs,Fr P F c){w:World}(hl:Lv Z w)(hab:∀f,fr.about P w=some f→F f):SL P F Z w (fun u=>stepG P true (G fr cs) u):=by
 cases hm:fr.mode with
 | run=>exact SL.congr (Xb S hfr hcs hm hl hab) fun v=>by simp[stepG,G,hm]
 | returning=>exact SL.congr (Dg S hfr hcs hl) fun v=>by simp[stepG,G,hm]
 | panicking c=>exact SL.congr (Dg S hfr hcs hl) fun v=>by simp[stepG,G,hm]
def kU(gs:Array Goroutine):Prop:=∀i g,0<i→gs[i]? =some g→g.status=.running∨g.status=.finished
def Fg(Z:Env)(l:Loc):Prop:=(∃a,l=.cell a∧¬ Z a.block)∨(∃r,l=.obj r∧¬ Z r)∨l=.output
def Wu(Z:Env)(op:MemOp):Prop:=op.g=0∧(op.act≠.mark .disable∧op.act≠.mark .enable)∧(∀x,op.act.touch?=some x→Fg Z x.loc)∧∀a,op.act≠.mark (.release a)
structure Pt where
 fr:Frame
 cs:List Frame
 w:World
def Pt.on(a:Pt)(σ:Tape):Pt:=⟨a.fr,a.cs,{a.w with tape:=σ }⟩
def Pt.m(a:Pt):Machine:=solo (G a.fr a.cs) a.w
structure Pt.Ok(P:Program)(F:FuncId→Prop)(Z:Env)(a:Pt):Prop where
 fr:Fr P F a.fr
 cs:∀c∈a.cs,Fr P F c
 lv:Lv Z a.w
def mj(P:Program)(F:FuncId→Prop)(Z:Env)(a b:Pt):Prop:=b.Ok P F Z∧b.w.tape=a.w.tape∧∃n,b.w.drawn=a.w.drawn+n∧
 ∀ {K:Nat→Option Obj} (gs:Array Goroutine) (v:World) (sl:Option (Nat × Nat)),gs[0]? =some (G a.fr a.cs)→kU gs→oZ Z K a.w v→Agree n a.w v→∃gs2 v2 ops,runT P (crowd gs v sl) 0=(.next (crowd gs2 v2 sl),ops)∧gs2.size=gs.size∧gs2[0]? =some (G b.fr b.cs)∧
   (∀i,0<i→gs2[i]? =gs[i]?)∧oZ Z K b.w v2∧v2.drawn=v.drawn+n∧v2.tape=v.tape∧∀op∈ops,Wu Z op
theorem mW{g:Goroutine}{w:World}{m1:Machine}(h:g.status=.blocked∨g.status=.waiting∨g.status=.finished)(hs:step P (solo g w)=.next m1):m1=solo g w:=by
 rw[step,stepT] at hs
 rcases h with h|h|h
 ·simp[move,ask,askOn,solo,runnable_eq,due,ahead,Goroutine.canRun,List.range_succ,pure,h] at hs
  split at hs <;> rename_i heq <;> split at heq <;> simp_all
 ·simp[move,ask,askOn,solo,runnable_eq,due,ahead,Goroutine.canRun,List.range_succ,pure,h] at hs
  rw[← hs];simp[solo]
 ·simp[move,ask,askOn,solo,runnable_eq,due,ahead,Goroutine.canRun,List.range_succ,pure,h] at hs
  split at hs <;> rename_i heq <;> split at heq <;> simp_all
theorem ED{I:Machine→Prop}{m m':Machine}(h:StepsIn I P m m'):∀ {g:Goroutine} {w:World},m=solo g w→(g.status=.blocked∨g.status=.waiting∨g.status=.finished)→m'=solo g w:=by
 induction h with
 | refl m=>intro g w e _;exact e
 | head hI hs _ ih=>
   intro g w e hd
   subst e
   exact ih (mW hd hs) hd
theorem yG{g g':Goroutine}{w w':World}(h:solo g w=solo g' w'):g=g'∧w=w':=by
 have h1:=congrArg Machine.gs h
 have h2:=congrArg Machine.world h
 exact⟨Array.singleton_inj.1 h1,h2⟩
theorem jv{I:Machine→Prop}{Fc:Fence}(hI:∀m,I m→m.fenced P Fc)(hal:Fc.alive=true){g:Goroutine}{w v:World}{fr:Frame}{cs:List Frame}(hd:Dead g)(h:StepsIn I P (solo g w) (solo (G fr cs) v)):False:=by
 rcases hd with hd|hd
 ·generalize hm:solo g w=m at h
  generalize hm':solo (G fr cs) v=m' at h
  cases h with
  | refl=>
    subst hm'
    have e:=(yG hm).1
    subst e
    exact hd rfl
  | head hI0 _ _=>
    subst hm
    have:=(hI _ hI0 g (by simp[solo])).1 hal
    rw[Option.isNone_iff_eq_none] at this
    exact hd this
 ·have e:=ED h rfl hd
  have e:=(yG e).1
  subst e
  rcases hd with hd|hd|hd <;> cases hd
theorem aY{a:Goroutine}{w w':World}{o:Outcome}{es:Array Event}(h:stepG P true a w=.ended o w' es):(runT P (solo a w) 0).1=.ended o w':=by
 simp[runT,solo,Array.swapAt!,Array.swapAt,h,GStep.es]
section
variable{gs:Array Goroutine}{w w1:World}{sl:Option (Nat × Nat)}{g g2:Goroutine}{es:Array Event}{cases:Array CommCase}{b:Bool}{shape:CommShape}
theorem Oi(hi:gs[0]? =some g)(h:stepG P true g w=.comm g2 cases b shape w1 es)(hx:cases.any (illMade w1)=true):∃o w',(runT P (crowd gs w sl) 0).1=.ended o w':=by
 rw[runT_crowd_comm (i:=0) hi h]
 unfold communicate
 dsimp only
 rw[if_pos]
 ·exact⟨_,_,rfl⟩
 ·exact hx
theorem jO(ho:kU gs)(r:Nat)(send:Bool):partners (gs.setIfInBounds 0 ph) r send=[]:=
 partners_nil fun j g hj=>by
  rcases getElem?_stand gs 0 j g hj with⟨_,rfl⟩|⟨hne,hg⟩
  ·exact offersAt_ph r send
  ·refine offersAt_of_not_blocked (fun e=>?_) r send
   rcases ho j g zo hg with h|h <;> rw[h] at e <;> cases e
end
theorem qX{gs:Array Goroutine}{w w1:World}{sl:Option (Nat × Nat)}{g:Goroutine}{fr:Frame}{cs:List Frame}{es:Array Event}{ch z:Value}{ok:Bool}
 (hi:gs[0]? =some g)(ho:kU gs)(h:stepG P true g w=.comm (G fr cs) #[⟨ch,none,z⟩] true (.recv ok) w1 es):
 (∃o w',(runT P (crowd gs w sl) 0).1=.ended o w')∨
 (∃g' ops,g'.status=.blocked∧runT P (crowd gs w sl) 0=(.next (crowd (gs.setIfInBounds 0 g') w1 sl),ops))∨
 (∃r cap buf closed s q tm,ch=.chan (some r)∧w1.heap[r]? =some (.chan cap buf closed s q tm)∧(0<buf.size∨buf=#[]∧closed=true)):=by
 have wait:illMade w1 ⟨ch,none,z⟩=false→ways w1 (gs.setIfInBounds 0 ph) ⟨ch,none,z⟩=[]→∃g' ops,g'.status=.blocked∧runT P (crowd gs w sl) 0=(.next (crowd (gs.setIfInBounds 0 g') w1 sl),ops):=fun h1 h2=>
  ⟨_,_,rfl,crowd_waits (i:=0) hi h fun cc hcc=>by
    obtain rfl:cc=⟨ch,none,z⟩:=by simpa using hcc
    exact⟨h1,h2⟩⟩
 have ill:illMade w1 ⟨ch,none,z⟩=true→∃o w',(runT P (crowd gs w sl) 0).1=.ended o w':=fun h1=>Oi hi h (by simp[h1])
 cases ch with
 | chan c=>
   cases c with
   | none=>exact .inr (.inl (wait rfl rfl))
   | some r=>
     cases hr:w1.heap[r]? with
     | none=>exact .inl (ill (by simp[illMade,hr]))
     | some x=>
       cases x with
       | chan cap buf closed s q tm=>
         by_cases hb:0<buf.size
         ·exact .inr (.inr ⟨r,cap,buf,closed,s,q,tm,rfl,hr,.inl hb⟩)
         ·have hb0:buf=#[]:=Array.eq_empty_of_size_eq_zero zo
          cases closed with
          | true=>exact .inr (.inr ⟨r,cap,buf,true,s,q,tm,rfl,hr,.inr ⟨hb0,rfl⟩⟩)
          | false=>exact .inr (.inl (wait (by simp[illMade,hr]) (by subst hb0;simp[ways,hr,jO ho])))
       | _=>exact .inl (ill (by simp[illMade,hr]))
 | _=>exact .inl (ill (by simp[illMade]))
def KO(ok:Bool)(z:Value)(buf:Array Value):Value:=recvd ok (if 0<buf.size then buf.getD 0 undef else z) (decide (0<buf.size))
def lX(w:World)(r cap:Nat)(buf:Array Value)(closed:Bool)(s q:Nat)(tm:Bool):World:=if 0<buf.size then w.setChan r cap (buf.extract 1 buf.size) closed s (q+1) tm else w
section
variable{w v:World}{r cap s q:Nat}{buf:Array Value}{closed tm:Bool}
theorem fP:(lX w r cap buf closed s q tm).drawn=w.drawn∧(lX w r cap buf closed s q tm).tape=w.tape:=by unfold lX;split <;> exact⟨rfl,rfl⟩
theorem Ey(h:Lv Z w)(hz:¬ Z r):Lv Z (lX w r cap buf closed s q tm):=by
 unfold lX
 split
 ·exact h.set hz trivial
 ·exact h
theorem Hy{K:Nat→Option Obj}(hz:¬ Z r)(h:oZ Z K w v):oZ Z K (lX w r cap buf closed s q tm) (lX v r cap buf closed s q tm):=by
 unfold lX
 split
 ·exact h.set hz _
 ·exact h
end
theorem uw{gs:Array Goroutine}{w w1:World}{sl:Option (Nat × Nat)}{g:Goroutine}{fr:Frame}{cs:List Frame}{es:Array Event}{z:Value}{ok:Bool}{r cap s q:Nat}{buf:Array Value}{closed tm:Bool}
 (hi:gs[0]? =some g)(ho:kU gs)(h:stepG P true g w=.comm (G fr cs) #[⟨.chan (some r),none,z⟩] true (.recv ok) w1 es)(hc:w1.heap[r]? =some (.chan cap buf closed s q tm))(hb:0<buf.size∨buf=#[]∧closed=true):
 ∃ops,(∀op∈ops,op.g=0∧op.act.touch?=none∧∀m,op.act≠.mark m)∧runT P (crowd gs w sl) 0=(.next (crowd (gs.setIfInBounds 0 (G (fr.finish (KO ok z buf)) cs)) (lX w1 r cap buf closed s q tm) sl),
  MemOp.ofEvents 0 g.frame.fn g.frame.place es ++ ops):=by
 rcases hb with hb|⟨rfl,rfl⟩
 ·have e:=crowd_recv_buf (P:=P) (sl:=sl) (i:=0) (z:=z) hi h hc hb (jO ho r true)
  rw[finishComm_recv] at e
  simp only[KO,lX,if_pos hb,decide_eq_true hb]
  exact⟨_,by simp[MemAct.touch?],e⟩
 ·have e:=crowd_recv_closed (P:=P) (sl:=sl) (i:=0) (z:=z) hi h hc (jO ho r true)
  rw[finishComm_recv] at e
  exact⟨_,by simp[MemAct.touch?],e⟩
theorem jQ{fn:FuncId}{pos:String}{es:Array Event}(h:∀e∈es,Fe Z e):∀op∈MemOp.ofEvents 0 fn pos es,Wu Z op:=fun op hop=>by
 obtain⟨e,he,rfl⟩:=Go.Conc.mem_ofEvents hop
 obtain⟨loc,wr,sy⟩:=e
 refine⟨rfl,?_,fun x hx=>?_,fun a=>?_⟩
 ·rcases h _ he with(h|h)|⟨a,h,hz⟩|⟨r,h,hz⟩ <;> simp only at h <;> subst h <;> cases wr <;> cases sy <;> simp[MemAct.ofEvent]
 ·rcases h _ he with(h|h)|⟨a,h,hz⟩|⟨r,h,hz⟩
  ·simp only at h
   subst h
   cases hx
  ·simp only at h
   subst h
   simp only[MemAct.ofEvent,MemAct.touch?,Option.some.injEq] at hx
   subst hx
   exact .inr (.inr rfl)
  ·simp only at h
   subst h
   simp only[MemAct.ofEvent,MemAct.touch?,Option.some.injEq] at hx
   subst hx
   exact .inl ⟨a,rfl,hz⟩
  ·simp only at h
   subst h
   cases wr <;> cases sy <;> simp only[MemAct.ofEvent,MemAct.touch?,Option.some.injEq] at hx <;> first|cases hx;done|(subst hx;exact .inr (.inl ⟨r,rfl,hz⟩))
 ·rcases h _ he with(h|h)|⟨a,h,hz⟩|⟨r,h,hz⟩ <;> simp only at h <;> subst h <;> cases wr <;> cases sy <;> simp[MemAct.ofEvent]
theorem qZ{I:Machine→Prop}{m m':Machine}(h:StepsIn I P m m'):m.gs.size≤m'.gs.size:=by
 induction h with
 | refl=>exact Nat.le_refl _
 | head _ hs _ ih=>exact Nat.le_trans (stepT_size P _ _ _ hs) ih
theorem ML{Fc:Fence}(S:kr P Fc.fn Z){I:Machine→Prop}(hI:∀m,I m→m.fenced P Fc)(hal:Fc.alive=true){a:Pt}(ok:a.Ok P Fc.fn Z){m1:Machine}{fr':Frame}{cs':List Frame}{v':World}(hI0:I a.m)(hs:step P a.m=.next m1)
 (hp:StepsIn I P m1 (solo (G fr' cs') v')):∃b,m1=b.m∧mj P Fc.fn Z a b:=by
 have hsl:=yL S ok.fr ok.cs ok.lv (fun f hf=>(hI _ hI0 (G a.fr a.cs) (by simp[Pt.m,solo])).2.2.1 f hf)
 rw[Pt.m,step,stepT_solo rfl] at hs
 unfold SL at hsl
 dsimp only at hsl
 cases hgw:stepG P true (G a.fr a.cs) a.w with
 | go g' w' es=>
   rw[hgw] at hsl
   rw[runT_solo_go hgw] at hs
   cases hs
   rcases hsl with hd|⟨⟨Qy,cs2,rfl,h1,h2⟩,n,M⟩
   ·exact(jv hI hal hd hp).elim
   refine⟨⟨Qy,cs2,w'⟩,rfl,⟨h1,h2,M.2.2.1⟩,M.2.1,n,M.1,fun gs v sl h0 ho jL hag=>?_⟩
   obtain⟨v1,e1,s1,d1,t1⟩:=M.2.2.2.2 v jL hag
   have hlt:0<gs.size:=(Array.getElem?_eq_some_iff.1 h0).1
   refine⟨_,v1,_,runT_crowd_go (i:=0) h0 e1,zs,by simp[hlt],fun i hi=>?_,s1,d1,t1,jQ M.2.2.2.1⟩
   rw[Array.getElem?_setIfInBounds_ne zo,Array.getElem?_map]
   cases hg:gs[i]? with
   | none=>rfl
   | some g=>
     have:woken P (G a.fr a.cs) (G Qy cs2) v1 g=g:=by
      unfold woken
      split
      ·exact again_running _ (ho i g hi hg)
      ·rfl
     simp[this]
 | comm g' cases b sh w' es=>
   rw[hgw] at hsl
   obtain⟨⟨Qy,cs2,rfl,h1,h2⟩,⟨rfl,⟨ch,send,z⟩,T9,rfl,hsend,rfl⟩,n,M⟩:=hsl
   simp only at hsend
   subst hsend
   have ho1:kU #[G a.fr a.cs]:=fun i g hi hg=>by
    rw[Array.getElem?_eq_none zm] at hg;cases hg
   rw[solo_eq_crowd] at hs
   rcases qX (P:=P) (gs:=#[G a.fr a.cs]) (sl:=none) rfl ho1 hgw with⟨o,w2,e⟩|⟨g',ops,hg',e⟩|⟨r,cap,buf,closed,s,q,tm,rfl,hc,hb⟩
   ·rw[e] at hs;cases hs
   ·rw[e] at hs
    cases hs
    exact(jv (g:=g') hI hal (.inr (.inl hg')) hp).elim
   ·have hnz:¬ Z r:=fun hz=>by
     have:=M.2.2.1.dead r hz
     rw[this] at hc
     simp[X0] at hc
    obtain⟨ops,_,e⟩:=uw (P:=P) (gs:=#[G a.fr a.cs]) (sl:=none) rfl ho1 hgw hc hb
    rw[e] at hs
    simp only[Stepped.next.injEq] at hs
    refine⟨⟨Qy.finish (KO T9 z buf),cs2,lX w' r cap buf closed s q tm⟩,hs.symm,⟨h1.finish _,h2,Ey M.2.2.1 hnz⟩,fP.2.trans M.2.1,n,fP.1.trans M.1,fun gs v sl h0 ho jL hag=>?_⟩
    obtain⟨v1,e1,s1,d1,t1⟩:=M.2.2.2.2 v jL hag
    have hlt:0<gs.size:=(Array.getElem?_eq_some_iff.1 h0).1
    obtain⟨ops,hops,e⟩:=uw (P:=P) (gs:=gs) (sl:=sl) h0 ho e1 ((s1.same r hnz).trans hc) hb
    refine⟨_,_,_,e,zs,by simp[hlt],fun i hi=>Array.getElem?_setIfInBounds_ne zo,Hy hnz s1,fP.1.trans d1,fP.2.trans t1,fun op hop=>?_⟩
    rcases Array.mem_append.1 hop with hop|hop
    ·exact jQ M.2.2.2.1 op hop
    ·obtain⟨k1,k2,k3⟩:=hops op hop
     exact⟨k1,⟨k3 _,k3 _⟩,fun x hx=>(by rw[k2] at hx;cases hx),fun a=>k3 _⟩
 | ended o w' es=>
   rw[aY hgw] at hs
   cases hs
 | spawn g' child w' es=>
   exfalso
   have h1:=qZ (P:=P) hp
   rw[runT_solo_spawn hgw] at hs
   cases hs
   simp[solo,duo] at h1
 | _=>rw[hgw] at hsl;exact hsl.elim
end
section
open Go.Conc
variable{P:Program}{Z:Env}
def Ru(P:Program)(Fc:Fence)(St:Frame→List Frame→Prop)(m:Machine):Prop:=m.fenced P Fc∧∀fr cs,m.gs[0]? =some (G fr cs)→¬ St fr cs
def Way(P:Program)(Fc:Fence)(St:Frame→List Frame→Prop)(Post:Pt→Prop)(a:Pt):Prop:=∃b:Pt,StepsIn (Ru P Fc St) P a.m b.m∧St b.fr b.cs∧Post b
structure lK(P:Program)(Fc:Fence)(Z:Env)(St:Frame→List Frame→Prop)(b a:Pt):Prop where
 ok:a.Ok P Fc.fn Z
 not:¬ St a.fr a.cs
 more:∃τ:Tape,(∀j,j<a.w.drawn→τ j=a.w.tape j)∧step P (a.on τ).m=.next b.m∧mj P Fc.fn Z (a.on τ) b
inductive Rw (P:Program) (Fc:Fence) (Z:Env) (St:Frame→List Frame→Prop) (s0:Pt):Pt→Prop
 | refl:Rw P Fc Z St s0 s0
 | step {a b:Pt}:Rw P Fc Z St s0 a→lK P Fc Z St b a→Rw P Fc Z St s0 b
section
variable{Fc:Fence}{St:Frame→List Frame→Prop}{Post:Pt→Prop}
theorem KM{a b:Pt}(h:a.m=b.m):a=b:=by
 obtain⟨h1,h2⟩:=yG h
 obtain⟨fr,cs,w⟩:=a
 obtain⟨fr',cs',w'⟩:=b
 have e1:fr=fr':=congrArg Goroutine.frame h1
 have e2:cs=cs':=congrArg Goroutine.callers h1
 have e3:w=w':=h2
 rw[e1,e2,e3]
theorem Pt.Ok.on{a:Pt}(h:a.Ok P Fc.fn Z)(σ:Tape):(a.on σ).Ok P Fc.fn Z:=⟨h.fr,h.cs,⟨h.lv.dead,h.lv.live⟩⟩
theorem Way.first(S:kr P Fc.fn Z)(hal:Fc.alive=true){a:Pt}(ok:a.Ok P Fc.fn Z)(h:Way P Fc St Post a):(St a.fr a.cs∧Post a)∨(¬ St a.fr a.cs∧∃b,step P a.m=.next b.m∧mj P Fc.fn Z a b∧Way P Fc St Post b):=by
 obtain⟨c,hp,hs,hpost⟩:=h
 generalize hm:a.m=m at hp
 generalize hm':c.m=m' at hp
 cases hp with
 | refl=>
   subst hm'
   obtain rfl:=KM hm
   exact .inl ⟨hs,hpost⟩
 | head hI hst hp=>
   subst hm
   subst hm'
   refine .inr ⟨hI.2 _ _ (by simp[Pt.m,solo]),?_⟩
   obtain⟨b,rfl,hn⟩:=ML S (fun m h=>h.1) hal ok hI hst hp
   exact⟨b,hst,hn,c,hp,hs,hpost⟩
theorem mj.drawn{F:FuncId→Prop}{a b:Pt}(h:mj P F Z a b):a.w.drawn≤b.w.drawn:=by
 obtain⟨_,_,n,h,_⟩:=h
 omega
theorem AO{g g2:Goroutine}{gs2:Array Goroutine}{w v2:World}{sl:Option (Nat × Nat)}(h:crowd gs2 v2 sl=solo g w)(hg:gs2[0]? =some g2):g2=g∧v2=w:=by
 have h1:=congrArg Machine.gs h
 have h2:=congrArg Machine.world h
 simp only[crowd,solo] at h1 h2
 subst h1
 exact⟨by simpa using hg.symm,h2⟩
theorem CP{F:FuncId→Prop}{a b b':Pt}{τ σ:Tape}(ha:a.Ok P F Z)(h:mj P F Z (a.on τ) b)(hσ:∀j,j<b.w.drawn→σ j=b.w.tape j)(hs:step P (a.on σ).m=.next b'.m)(hl:Lv Z b'.w):b'=b.on σ:=by
 obtain⟨hb,ht,n,hd,hc⟩:=h
 obtain⟨gs2,v2,ops,e,hsz,h0,_,s2,d2,t2,_⟩:=hc #[G a.fr a.cs] {a.w with tape:=σ } none rfl (fun i g hi hg=>by
  rw[Array.getElem?_eq_none zm] at hg;cases hg) (K:=fun _=>none) ⟨rfl,fun _ _=>rfl,rfl,rfl,fun _ _ _ hk _=>by cases hk⟩ (fun k hk q=>by
   show σ (a.w.drawn+k) q=τ (a.w.drawn+k) q
   have hd':b.w.drawn=a.w.drawn+n:=hd
   rw[hσ _ zo,ht]
   rfl)
 rw[step,Pt.m,stepT_solo rfl,solo_eq_crowd] at hs
 have hs':(runT P (crowd #[G a.fr a.cs] {a.w with tape:=σ } none) 0).1=.next b'.m:=hs
 rw[e] at hs'
 simp only[Stepped.next.injEq] at hs'
 obtain⟨e1,e2⟩:=AO hs' h0
 obtain⟨fr,cs,w'⟩:=b'
 have f1:b.fr=fr:=congrArg Goroutine.frame e1
 have f2:b.cs=cs:=congrArg Goroutine.callers e1
 simp only at e2 hl
 subst e2
 have hh:v2.heap=b.w.heap:=by
  apply Array.ext_getElem?
  intro i
  by_cases hz:Z i
  ·rw[hl.dead i hz,hb.lv.dead i hz]
  ·exact s2.same i hz
 obtain⟨heap,tape,drawn,os,output⟩:=v2
 have q1:=s2.os
 have q2:=s2.output
 simp only at hh d2 t2 q1 q2
 unfold Pt.on
 rw[f1,f2]
 congr 1
 rw[hh,q1,q2,t2,d2]
 congr 1
 exact hd.symm
theorem Ah(S:kr P Fc.fn Z)(hal:Fc.alive=true){s0:Pt}(H:∀σ:Tape,Way P Fc St Post (s0.on σ)):
 ∀ {u:Pt},Rw P Fc Z St s0 u→∀σ:Tape,(∀j,j<u.w.drawn→σ j=u.w.tape j)→Way P Fc St Post (u.on σ):=by
 intro u h
 induction h with
 | refl=>intro σ _;exact H σ
 | @step a b _ hs ih=>
   intro σ hσ
   obtain⟨τ,hτ,hst,hn⟩:=hs.more
   have hmono:a.w.drawn≤b.w.drawn:=hn.drawn
   rcases(ih σ fun j hj=>by
    rw[hσ j zo,hn.2.1]
    exact hτ j hj).first S hal (hs.ok.on σ) with⟨h1,_⟩|⟨_,b',hst',hn',hw⟩
   ·exact absurd h1 hs.not
   ·rw[← CP hs.ok hn hσ hst' hn'.1.lv]
    exact hw
theorem Jm(S:kr P Fc.fn Z)(hal:Fc.alive=true){s0:Pt}(H:∀σ:Tape,Way P Fc St Post (s0.on σ)):Acc (lK P Fc Z St) s0:=by
 refine Classical.byContradiction fun hn=>?_
 have next:∀a:{a:Pt // ¬ Acc (lK P Fc Z St) a },∃b:{a:Pt // ¬ Acc (lK P Fc Z St) a },lK P Fc Z St b.1 a.1:=fun a=>by
  refine Classical.byContradiction fun h=>a.2 ⟨a.1,fun b hb=>Classical.byContradiction fun hb2=>h ⟨⟨b,hb2⟩,hb⟩⟩
 let f:Nat→{a:Pt // ¬ Acc (lK P Fc Z St) a }:=fun n=>Nat.rec ⟨s0,hn⟩ (fun _ a=>Classical.choose (next a)) n
 have hf:∀i,lK P Fc Z St (f (i+1)).1 (f i).1:=fun i=>Classical.choose_spec (next (f i))
 have mono:∀i,(f i).1.w.drawn≤(f (i+1)).1.w.drawn:=fun i=>by
  obtain⟨τ,_,_,hn⟩:=(hf i).more
  exact hn.drawn
 have Ur:∀i j,j<(f i).1.w.drawn→(f (i+1)).1.w.tape j=(f i).1.w.tape j:=fun i j hj=>by
  obtain⟨τ,hτ,_,hn⟩:=(hf i).more
  rw[hn.2.1];exact hτ j hj
 have mono':∀i k,(f i).1.w.drawn≤(f (i+k)).1.w.drawn:=fun i k=>by
  induction k with
  | zero=>exact Nat.le_refl _
  | succ k ih=>exact Nat.le_trans ih (mono (i+k))
 have same:∀i k j,j<(f i).1.w.drawn→(f (i+k)).1.w.tape j=(f i).1.w.tape j:=fun i k j hj=>by
  induction k with
  | zero=>rfl
  | succ k ih=>exact(Ur (i+k) j (Nat.lt_of_lt_of_le hj (mono' i k))).trans ih
 classical
 let σ:Tape:=fun j=>if h:∃i,j<(f i).1.w.drawn then(f (Classical.choose h)).1.w.tape j else fun _=>0
 have hσ:∀i j,j<(f i).1.w.drawn→σ j=(f i).1.w.tape j:=fun i j hj=>by
  have hx:∃i,j<(f i).1.w.drawn:=⟨i,hj⟩
  have e:σ j=(f (Classical.choose hx)).1.w.tape j:=dif_pos hx
  rw[e]
  have hc:=Classical.choose_spec hx
  generalize Classical.choose hx=c at hc
  rcases Nat.le_total c i with l|l
  ·obtain⟨k,rfl⟩:=Nat.exists_eq_add_of_le l
   exact(same c k j hc).symm
  ·obtain⟨k,rfl⟩:=Nat.exists_eq_add_of_le l
   exact same i k j hj
 obtain⟨c,hp,hs,_⟩:=H σ
 have key:∀ {m m':Machine},StepsIn (Ru P Fc St) P m m'→m'=c.m→∀i,m=((f i).1.on σ).m→False:=by
  intro m m' h
  induction h with
  | refl m=>
    rintro rfl i e
    have:=KM e
    subst this
    exact(hf i).not hs
  | @head m m1 m2 hI hst hp ih=>
    rintro rfl i rfl
    obtain⟨b',rfl,hn'⟩:=ML S (fun m h=>h.1) hal ((hf i).ok.on σ) hI hst hp
    obtain⟨τ,hτ,_,hn⟩:=(hf i).more
    have:=CP (hf i).ok hn (hσ (i+1)) hst hn'.1.lv
    exact ih rfl (i+1) (by rw[this])
 exact key hp rfl 0 rfl
end
end
end Go.dU
