/- Far11 Far12 Far13 -/
import Derived.Test.YthaelabgfnnebaaGreatD0
import Derived.Conc.Beside
import Derived.Conc.CrowdComm
import Derived.CallsIn
set_option maxRecDepth 100000
set_option maxHeartbeats 16000000
set_option linter.unusedVariables false
set_option linter.unusedSectionVars false
namespace Go.dS
section
open Go.Conc
variable{P:Program}{Z:Env}{F:FuncId→Prop}
theorem qZ{α:Type}{x:Result α}(h:¬ fC x):∃e w,x=.halt e w∧(∀v,e≠.panic v)∧e≠.goexit:=by
 cases x with
 | ok a w=>exact absurd trivial h
 | halt e w=>exact⟨e,w,rfl,fun v he=>by subst he;exact h trivial,fun he=>by subst he;exact h trivial⟩
theorem Cn(S:jZ P F Z){fr:Frame}{cs:List Frame}(hfr:Fr P F fr)(hcs:∀c∈cs,Fr P F c){s:Sem Value}{w:World}(hl:Lv Z w)(h:T P Z s){f:World→GStep}{fn:FuncId}
 (hok:∀u v u' es,s.runT P u #[]=(.ok v u',es)→f u=GStep.after (seen P fn es) (doReturn P true fr cs none v u'))
 (hno:∀u e u' es,s.runT P u #[]=(.halt e u',es)→∃o u2 es2,f u=.ended o u2 es2∧∀v,o≠.done v):SL P F Z w f:=by
 by_cases hgood:fC (s.runT P w #[]).1
 ·obtain⟨n,new,r,T⟩:=(h.rn hl).told hgood
  have sub:∀e∈seen P fn new,e∈new:=fun e he=>fJ he
  cases r with
  | halt e w1=>
    obtain⟨o,u2,es2,e1,e2⟩:=hno w e w1 new T.run
    exact SL.bE e1 e2
  | ok v w1=>
    cases cs with
    | cons c cs=>
      refine T.go (fr':=c.finish v) (cs':=cs) sub (fun u u' hu=>?_) ((hcs c zs).finish v) fun x hx=>hcs x (by simp[hx])
      rw[hok u v u' new hu]
      simp[doReturn,hfr.kind,GStep.after,G]
    | nil=>
      refine T.done (x:=v) sub (fun u u' hu=>?_)
      rw[hok u v u' new hu]
      simp[doReturn,hfr.kind,GStep.after,S.inits _ hfr.fn]
 ·generalize hr:s.runT P w #[]=r at hgood
  obtain⟨r,es⟩:=r
  obtain⟨e,w1,rfl,_⟩:=qZ hgood
  obtain⟨o,u2,es2,e1,e2⟩:=hno w e w1 es hr
  exact SL.bE e1 e2
theorem CQ(S:jZ P F Z){fr:Frame}{cs:List Frame}(hfr:Fr P F fr)(hcs:∀c∈cs,Fr P F c){w:World}(hl:Lv Z w):SL P F Z w (fun u=>unwind P true fr cs none u):=by
 obtain⟨fn,tmps,todo,defers,mode,kind,roundOf⟩:=fr
 cases defers with
 | cons d ds=>
   obtain⟨c,hc⟩:=hfr.defers d zs
   obtain⟨t,args⟩:=d
   simp only at hc
   subst hc
   by_cases hgood:fC ((Instr.takeDeferred c).runT P w #[]).1
   ·obtain⟨n,new,r,T⟩:=((yD (P:=P) (Z:=Z) c).rn hl).told hgood
    cases r with
    | ok calls w1=>
      obtain rfl:calls=[]:=T.val _ _ rfl
      exact T.go (fr':={fn,tmps,todo,defers:=ds,mode,kind,roundOf }) (cs':=cs) (es:=seen P fn new) (fun e he=>fJ he) (fun u u' hu=>by simp[unwind,hu,kX,GStep.after,G,-Sem.runT_eq])
       ⟨hfr.fn,hfr.todo,fun d hd=>hfr.defers d (by simp[hd]),hfr.kind⟩ hcs
    | halt e w1=>exact SL.bE (o:=.stuck "the deferred calls of a range-over-func loop have been taken" (Frame.pos P _)) (w':=w1) (es:=seen P fn new) (by simp only[unwind,T.run,GStep.after];rfl) zs
   ·generalize hr:(Instr.takeDeferred c).runT P w #[]=r at hgood
    obtain⟨r,es⟩:=r
    obtain⟨e,w1,rfl,_⟩:=qZ hgood
    exact SL.bE (o:=.stuck "the deferred calls of a range-over-func loop have been taken" (Frame.pos P _)) (w':=w1) (es:=seen P fn es) (by simp only[unwind,hr,GStep.after];rfl) zs
 | nil=>
   cases mode with
   | run=>exact SL.bE (o:=.stuck sQ3 (Frame.pos P _)) (w':=w) (es:=#[]) (by simp only[unwind];rfl) zs
   | panicking chain=>
     obtain⟨f,c,h1,h2,_⟩:=S.hF _ hfr.fn
     simp only at h1
     have DZ:Frame.catches P {fn,tmps,todo,defers:=[],mode:=.panicking chain,kind,roundOf }=false:=by
      unfold Frame.catches
      rw[h1]
     cases cs with
     | cons c cs=>
       refine SL.const (fr:=c.raise chain) (cs:=cs) hl (fun v=>?_) ((hcs c zs).raise chain) fun x hx=>hcs x (by simp[hx])
       simp[unwind,DZ,G]
     | nil=>
       by_cases hge:chain.head?.any (·.goexit)=true
       ·exact SL.jQ (g:={frame:={fn,tmps,todo,defers:=[],mode:=.panicking chain,kind,roundOf },callers:=[],status:=.finished,dying:=none }) (w':=w) (es:=#[]) (by simp only[unwind,DZ,Bool.false_eq_true,if_false,hge,if_true]) (.inr (.inr (.inr rfl)))
       ·cases hr:(reportChain chain false).run P w with
        | ok UI w2=>exact SL.jQ (w':=w2) (es:=#[]) (by simp only[unwind,DZ,Bool.false_eq_true,if_false,hge,hr];rfl) (.inl zs)
        | halt h0 w2=>cases h0 <;> exact SL.bE (w':=w2) (es:=#[]) (by simp only[unwind,DZ,Bool.false_eq_true,if_false,hge,hr];rfl) zs
   | returning=>
     obtain⟨f,c,h1,h2,_⟩:=S.hF _ hfr.fn
     simp only at h1
     refine Cn S hfr hcs hl (PI f tmps) (fn:=fn) (fun u v u' es hu=>?_) fun u e u' es hu=>?_
     ·simp only[unwind,h1,hu]
     ·simp only[unwind,h1,hu]
      cases e <;> exact⟨_,_,_,rfl,zs⟩
theorem Tj(S:jZ P F Z){fr:Frame}{cs:List Frame}(hfr:Fr P F fr)(hcs:∀c∈cs,Fr P F c){w:World}(hl:Lv Z w)(jump:Option Code)(hj:∀c,jump=some c→cZ P c=true):
 SL P F Z w (fun u=>match fr.roundOf with
  | none=>if jump matches none|some .ret then .go {frame:={fr with mode:=.returning },callers:=cs,status:=.running,dying:=none } u else .ended (.stuck tj (fr.pos P)) u
  | some l=>
    let (r,es):=(Instr.endRound l jump).runT P u #[]
    GStep.after (seen P fr.fn es) <| match r with
    | .ok v w=>doReturn P true fr cs none v w
    | .halt _ w=>.ended (.stuck ZL (fr.pos P)) w):=by
 obtain⟨fn,tmps,todo,defers,mode,kind,roundOf⟩:=fr
 cases roundOf with
 | none=>
   have back:SL P F Z w (fun u=>.go {frame:={fn,tmps,todo,defers,mode:=.returning,kind,roundOf:=none },callers:=cs,status:=.running,dying:=none } u):=
    SL.const (fr:={fn,tmps,todo,defers,mode:=.returning,kind,roundOf:=none }) (cs:=cs) hl (fun v=>rfl) (hfr.mode _) hcs
   have lost:SL P F Z w (fun u=>.ended (.stuck tj (Frame.pos P {fn,tmps,todo,defers,mode,kind,roundOf:=none })) u):=SL.bE (o:=.stuck _ _) (w':=w) (es:=#[]) rfl zs
   cases jump with
   | none=>exact back
   | some c=>cases c <;> first|exact back|exact lost
 | some l=>
   refine Cn S hfr hcs hl (KL l jump fun c f c0 e h0=>(S.hZ _ _).2 ⟨((S.hZ _ _).1 h0).1,hj c e⟩) (fn:=fn) (fun u v u' es hu=>?_) fun u e u' es hu=>?_
   ·simp only[hu]
   ·simp only[hu]
    exact⟨_,_,_,rfl,zs⟩
theorem Told.seq{α:Type}{Q:α→Prop}{s:Sem α}{w w1:World}{n:Nat}{new es':Array Event}{a:α}{f g:World→GStep}(T:Told P Z Q s w n new (.ok a w1))(hes:∀e∈es',e∈new)
 (key:∀u u',s.runT P u #[]=(.ok a u',new)→f u=GStep.after es' (g u'))(h:SL P F Z w1 g):SL P F Z w f:=by
 have hd1:w1.drawn=w.drawn+n:=T.drawn
 have ht1:w1.tape=w.tape:=T.tape
 have mv:∀ {m:Nat} {w2:World} {es2:Array Event} {same TQ:World→World→Prop},Mv Z m w1 w2 es2 same→(∀u u' u2,s.runT P u #[]=(.ok a u',new)→same u' u2→TQ u u2)→Mv Z (n+m) w w2 (es' ++ es2) TQ:=by
  intro m w2 es2 same TQ ⟨k1,k2,k3,k4,k5⟩ hs
  refine⟨by rw[k1,hd1];omega,k2.trans ht1,k3,fun e he=>?_,fun v hv ha=>?_⟩
  ·rcases Array.mem_append.1 he with he|he
   ·exact T.evs e (hes e he)
   ·exact k4 e he
  ·obtain⟨v1,e1,s1,d1,t1⟩:=T.pO v hv (ha.le zo)
   obtain⟨v2,e2,s2,d2,t2⟩:=k5 v1 s1 (Agree.shift ha hd1 ht1 d1 t1)
   exact⟨v2,hs v v1 v2 e1 e2,s2,by rw[d2,d1];omega,t2.trans t1⟩
 unfold SL at h⊢
 rw[key w w1 T.run]
 cases hgw:g w1 with
 | go g' w2 es2=>
   rw[hgw] at h
   exact h.imp id fun⟨k1,m,k2⟩=>⟨k1,n+m,mv k2 fun u u' u2 hu hs=>by rw[key u u' hu,hs];rfl⟩
 | comm g' cases b sh w2 es2=>
   rw[hgw] at h
   obtain⟨k1,k3,m,k2⟩:=h
   exact⟨k1,k3,n+m,mv k2 fun u u' u2 hu hs=>by rw[key u u' hu,hs];rfl⟩
 | ended o w2 es2=>
   rw[hgw] at h
   cases o with
   | done x=>
     obtain⟨m,k2⟩:=h
     exact⟨n+m,mv k2 fun u u' u2 hu hs=>by rw[key u u' hu,hs];rfl⟩
   | _=>trivial
 | spawn g' c w2 es2=>exact trivial
 | _=>rw[hgw] at h;exact h.elim
theorem qy{id:Nat}:∀ {k k':List Item},exitTo id k=some k'→∀i∈k',i∈k:=by
 intro k
 induction k with
 | nil=>intro k' h;cases h
 | cons i k ih=>
   intro k' h x hx
   unfold exitTo at h
   split at h
   ·rename_i heq
    cases heq
    split at h
    ·cases h;simp[hx]
    ·simp[ih h x hx]
   ·rename_i heq
    cases heq
    simp[ih h x hx]
   ·rename_i heq
    cases heq
theorem DN{l:Nat}:∀ {c r:Code},findLabel c l=some r→cZ P c=true→cZ P r=true:=by
 intro c
 induction c with
 | seq a b iha ihb=>
   intro r h ho
   simp only[cZ,Bool.and_eq_true] at ho
   unfold findLabel at h
   split at h
   ·rename_i rest hr
    cases h
    simp only[cZ,Bool.and_eq_true]
    exact⟨iha hr ho.1,ho.2⟩
   ·exact ihb h ho.2
 | label l'=>
   intro r h ho
   unfold findLabel at h
   split at h
   ·cases h;rfl
   ·cases h
 | _=>intro r h ho;cases h
theorem NZ{l:Nat}:∀ {k k':List Item},gotoIn l k=some k'→(∀i∈k,gQ P i)→∀i∈k',gQ P i:=by
 intro k
 induction k with
 | nil=>intro k' h;cases h
 | cons i k ih=>
   intro k' h ho x hx
   have rest:gotoIn l k=some k'→gQ P x:=fun h=>ih h (fun i hi=>ho i (by simp[hi])) x hx
   cases i with
   | inScope body=>
     unfold gotoIn at h
     cases hr:findLabel body l with
     | none=>rw[hr] at h;exact rest h
     | some r=>
       rw[hr] at h
       cases h
       have hb:cZ P body=true:=ho (.inScope body) zs
       simp only[List.mem_cons] at hx
       rcases hx with rfl|rfl|hx
       ·exact DN hr hb
       ·exact hb
       ·exact ho x (by simp[hx])
   | _=>exact rest (by unfold gotoIn at h;exact h)
theorem Ws(S:jZ P F Z){fr:Frame}{cs:List Frame}(hfr:Fr P F fr)(hcs:∀c∈cs,Fr P F c)(hm:fr.mode=.run){w:World}(hl:Lv Z w)(hab:∀f,fr.about P w=some f→F f):SL P F Z w (fun u=>stepG.exec P true true fr cs none u):=by
 have leave:=fun jump hj=>Tj S hfr hcs hl jump hj
 obtain⟨fn,tmps,todo,defers,mode,kind,roundOf⟩:=fr
 simp only at hm
 subst hm
 unfold stepG.exec
 have stay:∀todo',(∀i∈todo',gQ P i)→SL P F Z w (fun u=>.go {frame:={fn,tmps,todo:=todo',defers,mode:=.run,kind,roundOf },callers:=cs,status:=.running,dying:=none } u):=fun todo' h=>
  SL.const (fr:={fn,tmps,todo:=todo',defers,mode:=.run,kind,roundOf }) (cs:=cs) hl (fun v=>rfl) ⟨hfr.fn,h,hfr.defers,hfr.kind⟩ hcs
 cases todo with
 | nil=>exact leave none zs
 | cons i k=>
   have hi:=hfr.todo i zs
   have hk:∀x∈k,gQ P x:=fun x hx=>hfr.todo x (by simp[hx])
   have one:∀i',gQ P i'→∀x∈i' :: k,gQ P x:=fun i' h x hx=>by
    rcases List.mem_cons.1 hx with rfl|hx
    ·exact h
    ·exact hk x hx
   have two:∀i1 i2,gQ P i1→gQ P i2→∀x∈i1 :: i2 :: k,gQ P x:=fun i1 i2 h1 h2 x hx=>by
    rcases List.mem_cons.1 hx with rfl|hx
    ·exact h1
    ·exact one i2 h2 x hx
   cases i with
   | code c=>
     replace hi:cZ P c=true:=hi
     cases c with
     | skip=>exact stay _ hk
     | label l=>exact stay _ hk
     | ret=>exact leave (some .ret) (by simp[cZ])
     | seq a b=>
       simp only[cZ,Bool.and_eq_true] at hi
       exact stay _ (two _ _ hi.1 hi.2)
     | cond x a b=>
       simp only[cZ,Bool.and_eq_true] at hi
       dsimp only
       generalize Frame.eval _ x=v
       cases v with
       | bool t=>exact stay _ (one (.code (if t then a else b)) (by cases t;exact hi.2;exact hi.1))
       | _=>exact SL.bE (o:=.stuck _ _) (w':=w) (es:=#[]) rfl zs
     | block id b=>exact stay _ (two _ _ hi trivial)
     | loop b=>exact stay _ (two _ _ hi hi)
     | scope b=>exact stay _ (two _ _ hi hi)
     | exit id=>
       have:=leave (some (.exit id)) (by simp[cZ])
       dsimp only at this⊢
       cases he:exitTo id k with
       | none=>exact this
       | some k'=>exact stay _ fun x hx=>hk x (qy he x hx)
     | goto l=>
       have:=leave (some (.goto l)) (by simp[cZ])
       dsimp only at this⊢
       cases he:gotoIn l k with
       | none=>exact this
       | some k'=>exact stay _ (NZ he hk)
     | region id ops draw=>
       cases draw with
       | false=>exact stay _ (one (.inRegion ops (List.range ops.size)) hi)
       | true=>
         dsimp only
         obtain⟨n,new,r,T⟩:=((dQ (P:=P) (Z:=Z) (.order fn id)).rn hl).told (by simp only[choose,Sem.runT];split <;> trivial)
         cases r with
         | ok t w1=>
           have hr:∀u u',(choose (.order fn id)).runT P u #[]=(.ok t u',new)→(choose (.order fn id)).run P u=.ok t u':=fun u u' hu=>by
            have:=Sem.runT_fst P (choose (.order fn id)) u #[]
            rw[hu] at this
            exact this.symm
           exact T.go (fr':={fn,tmps,todo:=.inRegion ops (Region.schedule (P.follows .mixedOrders) ops t) :: k,defers,mode:=.run,kind,roundOf }) (cs':=cs) (es:=#[]) zs (fun u u' hu=>by
            have:=hr u u' hu
            simp[this,G]) ⟨hfr.fn,one (.inRegion ops _) hi,hfr.defers,hfr.kind⟩ hcs
         | halt e w1=>
           exfalso
           have:=T.run
           simp only[choose,Sem.runT] at this
           split at this <;> cases this
     | rangeFunc f params assign body=>
       simp only[cZ,Bool.and_eq_true] at hi
       dsimp only
       by_cases hgood:fC ((Instr.enterLoop fn tmps params assign body roundOf).runT P w #[]).1
       ·obtain⟨n,new,r,T⟩:=((Ij (P:=P) (Z:=Z) fn tmps params assign body roundOf ((S.hZ _ _).2 ⟨hfr.fn,hi.1⟩) ((S.hZ _ _).2 ⟨hfr.fn,hi.2⟩)).rn hl).told hgood
        cases r with
        | halt e w1=>exact SL.bE (o:=.stuck ZL (Frame.pos P _)) (w':=w1) (es:=seen P fn new) (by simp only[T.run,GStep.after];rfl) zs
        | ok x w1=>
          obtain⟨l,mark⟩:=x
          have hmk:=T.val _ _ rfl
          have hrun:(Instr.enterLoop fn tmps params assign body roundOf).run P w=.ok (l,mark) w1:=by
           have:=Sem.runT_fst P (Instr.enterLoop fn tmps params assign body roundOf) w #[]
           rw[T.run] at this
           exact this.symm
          have Fs:Fr P F {fn,tmps,todo:=.inRangeFunc l :: k,defers:=mark ++ defers,mode:=.run,kind,roundOf }:=⟨hfr.fn,one (.inRangeFunc l) trivial,fun d hd=>by
           rcases List.mem_append.1 hd with hd|hd
           ·exact hmk d hd
           ·exact hfr.defers d hd,hfr.kind⟩
          refine T.seq (g:=fun u=>stepG.apply P true {fn,tmps,todo:=.inRangeFunc l :: k,defers:=mark ++ defers,mode:=.run,kind,roundOf } cs none (do
           let d ← resolve (Frame.eval {fn,tmps,todo:=.inRangeFunc l :: k,defers:=mark ++ defers,mode:=.run,kind,roundOf }) {callee:=.value f,args:=#[.const (.func (.yield l) #[] #[])],argTypes:=#[] } 0
           invoke d.target d.args) u) (es':=seen P fn new) (fun e he=>fJ he) (fun u u' hu=>by simp only[hu]) ?_
          refine wh S Fs hcs T.lv ?_
          refine ME S.hg S.hF.zero T.lv ?_ (fun g hgl=>hab g ?_) (fun d w2 hd=>?_)
          ·show(∃d,Deferred.ofValue _ _=pure d)∨∃m,Deferred.ofValue _ _=stuck m
           unfold Deferred.ofValue
           split
           ·exact .inl ⟨_,rfl⟩
           ·exact .inl ⟨_,rfl⟩
           ·exact .inr ⟨_,rfl⟩
          ·unfold Frame.about
           dsimp only
           rw[hrun]
           exact hgl
          ·replace hd:(Deferred.ofValue _ _).run P w1=.ok d w2:=hd
           unfold Deferred.ofValue at hd
           split at hd
           ·cases hd
            exact⟨fun b' ts ty' cs e=>Target.noConfusion e,fun c e=>Target.noConfusion e⟩
           ·cases hd
            exact⟨fun b' ts ty' cs e=>Target.noConfusion e,fun c e=>Target.noConfusion e⟩
           ·cases hd
       ·generalize hr:(Instr.enterLoop fn tmps params assign body roundOf).runT P w #[]=r at hgood
        obtain⟨r,es⟩:=r
        obtain⟨e,w1,rfl,_⟩:=qZ hgood
        exact SL.bE (o:=.stuck ZL (Frame.pos P _)) (w':=w1) (es:=seen P fn es) (by simp only[hr,GStep.after];rfl) zs
     | refuse y=>exact SL.bE (o:=.unsupported _ _) (w':=w) (es:=#[]) rfl zs
   | inBlock id=>exact stay _ hk
   | inScope b=>exact stay _ hk
   | inLoop b=>exact stay _ (two _ _ hi hi)
   | inRegion ops l=>
     replace hi:ops.all (mE P)=true:=hi
     cases l with
     | nil=>exact stay _ hk
     | cons j l=>
       dsimp only
       split
       ·unfold stepG.oper Frame.oper?
        dsimp only
        cases ho:ops[j]? with
        | none=>exact SL.bE (o:=.stuck _ _) (w':=w) (es:=#[]) rfl zs
        | some o=>
          have Ql:mE P o=true:=by
           rw[Array.all_eq_true_iff_forall_mem] at hi
           exact hi o (Array.mem_of_getElem? ho)
          have main:SL P F Z w (fun u=>stepG.apply P true {fn,tmps,todo:=.inRegion ops (j :: l) :: k,defers,mode:=.run,kind,roundOf } cs none (execOp (Frame.eval {fn,tmps,todo:=.inRegion ops (j :: l) :: k,defers,mode:=.run,kind,roundOf }) o) u):=by
           refine wh S hfr hcs hl (Xx S.hg S.hF.zero Ql hl fun f hf=>hab f ?_)
           unfold Frame.about
           dsimp only
           rw[ho]
           exact hf
          dsimp only
          refine SL.congr main fun v=>?_
          cases roundOf with
          | none=>rfl
          | some r=>
            split
            ·rename_i hd
             simp only[mE,hd] at Ql
             cases Ql
            ·rfl
       ·exact SL.const (fr:=Frame.finish {fn,tmps,todo:=.inRegion ops (j :: l) :: k,defers,mode:=.run,kind,roundOf } undef) (cs:=cs) hl (fun v=>rfl) (hfr.finish undef) hcs
   | inRangeFunc l=>exact SL.bE (o:=.unsupported _ _) (w':=w) (es:=#[]) rfl zs
   | beginRound=>
     refine wh S hfr hcs hl ?_
     cases roundOf with
     | none=>exact(ou (R:=gy Z F) lk fun _:Unit=>pure .skip).rn hl
     | some l=>exact(tu (Ev l)).rn hl
   | endRangeFunc l=>
     dsimp only
     by_cases hgood:fC ((Instr.endLoop l).runT P w #[]).1
     ·obtain⟨n,new,r,T⟩:=((Pq (P:=P) (Z:=Z) l).rn hl).told hgood
      cases r with
      | ok jump w1=>
        have hj:=T.val _ _ rfl
        refine T.go (fr':={fn,tmps,todo:=(jump.map Item.code).toList ++ k,defers,mode:=.run,kind,roundOf }) (cs':=cs) (es:=seen P fn new) (fun e he=>fJ he) (fun u u' hu=>by simp[hu,kX,GStep.after,G,-Sem.runT_eq]) ⟨hfr.fn,fun x hx=>?_,hfr.defers,hfr.kind⟩ hcs
        rcases List.mem_append.1 hx with hx|hx
        ·cases jump with
         | none=>simp at hx
         | some c=>
           simp only[Option.map_some,Option.toList_some,List.mem_singleton] at hx
           subst hx
           obtain⟨f,hf⟩:=hj c rfl
           exact((S.hZ _ _).1 hf).2
        ·exact hk x hx
      | halt e w1=>
        have hgx:fC (.halt e w1:Result (Option Code)):=by rw[T.run] at hgood;exact hgood
        cases e with
        | panic v=>exact T.go (fr':=Frame.raise {fn,tmps,todo:=.endRangeFunc l :: k,defers,mode:=.run,kind,roundOf } [{v,recovered:=false }]) (cs':=cs) (es:=seen P fn new) (fun e he=>fJ he) (fun u u' hu=>by simp[hu,kX,GStep.after,G,-Sem.runT_eq]) (hfr.raise _) hcs
        | goexit=>exact SL.bE (o:=.stuck ZL (Frame.pos P _)) (w':=w1) (es:=seen P fn new) (by simp only[T.run,GStep.after];rfl) zs
        | _=>exact hgx.elim
     ·generalize hr:(Instr.endLoop l).runT P w #[]=r at hgood
      obtain⟨r,es⟩:=r
      obtain⟨e,w1,rfl,hp,_⟩:=qZ hgood
      cases e <;> first|exact absurd rfl (hp _)|exact SL.bE (o:=.stuck ZL (Frame.pos P _)) (w':=w1) (es:=seen P fn es) (by simp only[hr,GStep.after];rfl) zs
   | call x b c e=>exact False.elim hi
   | _=>exact False.elim hi
theorem xW(S:jZ P F Z){fr:Frame}{cs:List Frame}(hfr:Fr P F fr)(hcs:∀c∈cs,Fr P F c){w:World}(hl:Lv Z w)(hab:∀f,fr.about P w=some f→F f):SL P F Z w (fun u=>stepG P true (G fr cs) u):=by
 cases hm:fr.mode with
 | run=>exact SL.congr (Ws S hfr hcs hm hl hab) fun v=>by simp[stepG,G,hm]
 | returning=>exact SL.congr (CQ S hfr hcs hl) fun v=>by simp[stepG,G,hm]
 | panicking c=>exact SL.congr (CQ S hfr hcs hl) fun v=>by simp[stepG,G,hm]
def kR(gs:Array Goroutine):Prop:=∀i g,0<i→gs[i]? =some g→g.status=.running∨g.status=.finished
def EX(Z:Env)(l:Loc):Prop:=(∃a,l=.cell a∧¬ Z a.block)∨(∃r,l=.obj r∧¬ Z r)∨l=.output
def VH(Z:Env)(op:MemOp):Prop:=op.g=0∧(op.act≠.mark .disable∧op.act≠.mark .enable)∧(∀x,op.act.touch?=some x→EX Z x.loc)∧∀a,op.act≠.mark (.release a)
structure Pt where
 fr:Frame
 cs:List Frame
 w:World
def Pt.on(a:Pt)(σ:Tape):Pt:=⟨a.fr,a.cs,{a.w with tape:=σ }⟩
def Pt.m(a:Pt):Machine:=solo (G a.fr a.cs) a.w
structure Pt.Ok(P:Program)(F:FuncId→Prop)(Z:Env)(a:Pt):Prop where
 fr:Fr P F a.fr
 cs:∀c∈a.cs,Fr P F c
 lv:Lv Z a.w
def kn(P:Program)(F:FuncId→Prop)(Z:Env)(a b:Pt):Prop:=b.Ok P F Z∧b.w.tape=a.w.tape∧∃n,b.w.drawn=a.w.drawn+n∧
 ∀ {K:Nat→Option Obj} (gs:Array Goroutine) (v:World) (sl:Option (Nat × Nat)),gs[0]? =some (G a.fr a.cs)→kR gs→oN Z K a.w v→Agree n a.w v→∃gs2 v2 ops,runT P (crowd gs v sl) 0=(.next (crowd gs2 v2 sl),ops)∧gs2.size=gs.size∧gs2[0]? =some (G b.fr b.cs)∧
   (∀i,0<i→gs2[i]? =gs[i]?)∧oN Z K b.w v2∧v2.drawn=v.drawn+n∧v2.tape=v.tape∧∀op∈ops,VH Z op
theorem mK{g:Goroutine}{w:World}{m1:Machine}(h:g.status=.blocked∨g.status=.waiting∨g.status=.finished)(hs:step P (solo g w)=.next m1):m1=solo g w:=by
 rw[step,stepT] at hs
 rcases h with h|h|h
 ·simp[move,ask,askOn,solo,runnable_eq,due,ahead,Goroutine.canRun,List.range_succ,pure,h] at hs
  split at hs <;> rename_i heq <;> split at heq <;> simp_all
 ·simp[move,ask,askOn,solo,runnable_eq,due,ahead,Goroutine.canRun,List.range_succ,pure,h] at hs
  rw[← hs];simp[solo]
 ·simp[move,ask,askOn,solo,runnable_eq,due,ahead,Goroutine.canRun,List.range_succ,pure,h] at hs
  split at hs <;> rename_i heq <;> split at heq <;> simp_all
theorem Et{I:Machine→Prop}{m m':Machine}(h:StepsIn I P m m'):∀ {g:Goroutine} {w:World},m=solo g w→(g.status=.blocked∨g.status=.waiting∨g.status=.finished)→m'=solo g w:=by
 induction h with
 | refl m=>intro g w e _;exact e
 | head hI hs _ ih=>
   intro g w e hd
   subst e
   exact ih (mK hd hs) hd
theorem xR{g g':Goroutine}{w w':World}(h:solo g w=solo g' w'):g=g'∧w=w':=by
 have h1:=congrArg Machine.gs h
 have h2:=congrArg Machine.world h
 exact⟨Array.singleton_inj.1 h1,h2⟩
theorem jw{I:Machine→Prop}{Fc:Fence}(hI:∀m,I m→m.fenced P Fc)(hal:Fc.alive=true){g:Goroutine}{w v:World}{fr:Frame}{cs:List Frame}(hd:Dead g)(h:StepsIn I P (solo g w) (solo (G fr cs) v)):False:=by
 rcases hd with hd|hd
 ·generalize hm:solo g w=m at h
  generalize hm':solo (G fr cs) v=m' at h
  cases h with
  | refl=>
    subst hm'
    have e:=(xR hm).1
    subst e
    exact hd rfl
  | head hI0 _ _=>
    subst hm
    have:=(hI _ hI0 g (by simp[solo])).1 hal
    rw[Option.isNone_iff_eq_none] at this
    exact hd this
 ·have e:=Et h rfl hd
  have e:=(xR e).1
  subst e
  rcases hd with hd|hd|hd <;> cases hd
theorem aY{a:Goroutine}{w w':World}{o:Outcome}{es:Array Event}(h:stepG P true a w=.ended o w' es):(runT P (solo a w) 0).1=.ended o w':=by
 simp[runT,solo,Array.swapAt!,Array.swapAt,h,GStep.es]
section
variable{gs:Array Goroutine}{w w1:World}{sl:Option (Nat × Nat)}{g g2:Goroutine}{es:Array Event}{cases:Array CommCase}{b:Bool}{shape:CommShape}
theorem NI(hi:gs[0]? =some g)(h:stepG P true g w=.comm g2 cases b shape w1 es)(hx:cases.any (illMade w1)=true):∃o w',(runT P (crowd gs w sl) 0).1=.ended o w':=by
 rw[runT_crowd_comm (i:=0) hi h]
 unfold communicate
 dsimp only
 rw[if_pos]
 ·exact⟨_,_,rfl⟩
 ·exact hx
theorem jP(ho:kR gs)(r:Nat)(send:Bool):partners (gs.setIfInBounds 0 ph) r send=[]:=
 partners_nil fun j g hj=>by
  rcases getElem?_stand gs 0 j g hj with⟨_,rfl⟩|⟨hne,hg⟩
  ·exact offersAt_ph r send
  ·refine offersAt_of_not_blocked (fun e=>?_) r send
   rcases ho j g zo hg with h|h <;> rw[h] at e <;> cases e
end
theorem qJ{gs:Array Goroutine}{w w1:World}{sl:Option (Nat × Nat)}{g:Goroutine}{fr:Frame}{cs:List Frame}{es:Array Event}{ch z:Value}{ok:Bool}
 (hi:gs[0]? =some g)(ho:kR gs)(h:stepG P true g w=.comm (G fr cs) #[⟨ch,none,z⟩] true (.recv ok) w1 es):
 (∃o w',(runT P (crowd gs w sl) 0).1=.ended o w')∨
 (∃g' ops,g'.status=.blocked∧runT P (crowd gs w sl) 0=(.next (crowd (gs.setIfInBounds 0 g') w1 sl),ops))∨
 (∃r cap buf closed s q tm,ch=.chan (some r)∧w1.heap[r]? =some (.chan cap buf closed s q tm)∧(0<buf.size∨buf=#[]∧closed=true)):=by
 have wait:illMade w1 ⟨ch,none,z⟩=false→ways w1 (gs.setIfInBounds 0 ph) ⟨ch,none,z⟩=[]→∃g' ops,g'.status=.blocked∧runT P (crowd gs w sl) 0=(.next (crowd (gs.setIfInBounds 0 g') w1 sl),ops):=fun h1 h2=>
  ⟨_,_,rfl,crowd_waits (i:=0) hi h fun cc hcc=>by
    obtain rfl:cc=⟨ch,none,z⟩:=by simpa using hcc
    exact⟨h1,h2⟩⟩
 have ill:illMade w1 ⟨ch,none,z⟩=true→∃o w',(runT P (crowd gs w sl) 0).1=.ended o w':=fun h1=>NI hi h (by simp[h1])
 cases ch with
 | chan c=>
   cases c with
   | none=>exact .inr (.inl (wait rfl rfl))
   | some r=>
     cases hr:w1.heap[r]? with
     | none=>exact .inl (ill (by simp[illMade,hr]))
     | some x=>
       cases x with
       | chan cap buf closed s q tm=>
         by_cases hb:0<buf.size
         ·exact .inr (.inr ⟨r,cap,buf,closed,s,q,tm,rfl,hr,.inl hb⟩)
         ·have hb0:buf=#[]:=Array.eq_empty_of_size_eq_zero zo
          cases closed with
          | true=>exact .inr (.inr ⟨r,cap,buf,true,s,q,tm,rfl,hr,.inr ⟨hb0,rfl⟩⟩)
          | false=>exact .inr (.inl (wait (by simp[illMade,hr]) (by subst hb0;simp[ways,hr,jP ho])))
       | _=>exact .inl (ill (by simp[illMade,hr]))
 | _=>exact .inl (ill (by simp[illMade]))
def Kv(ok:Bool)(z:Value)(buf:Array Value):Value:=recvd ok (if 0<buf.size then buf.getD 0 undef else z) (decide (0<buf.size))
def lM(w:World)(r cap:Nat)(buf:Array Value)(closed:Bool)(s q:Nat)(tm:Bool):World:=if 0<buf.size then w.setChan r cap (buf.extract 1 buf.size) closed s (q+1) tm else w
section
variable{w v:World}{r cap s q:Nat}{buf:Array Value}{closed tm:Bool}
theorem fI:(lM w r cap buf closed s q tm).drawn=w.drawn∧(lM w r cap buf closed s q tm).tape=w.tape:=by unfold lM;split <;> exact⟨rfl,rfl⟩
theorem El(h:Lv Z w)(hz:¬ Z r):Lv Z (lM w r cap buf closed s q tm):=by
 unfold lM
 split
 ·exact h.set hz trivial
 ·exact h
theorem GY{K:Nat→Option Obj}(hz:¬ Z r)(h:oN Z K w v):oN Z K (lM w r cap buf closed s q tm) (lM v r cap buf closed s q tm):=by
 unfold lM
 split
 ·exact h.set hz _
 ·exact h
end
theorem tL{gs:Array Goroutine}{w w1:World}{sl:Option (Nat × Nat)}{g:Goroutine}{fr:Frame}{cs:List Frame}{es:Array Event}{z:Value}{ok:Bool}{r cap s q:Nat}{buf:Array Value}{closed tm:Bool}
 (hi:gs[0]? =some g)(ho:kR gs)(h:stepG P true g w=.comm (G fr cs) #[⟨.chan (some r),none,z⟩] true (.recv ok) w1 es)(hc:w1.heap[r]? =some (.chan cap buf closed s q tm))(hb:0<buf.size∨buf=#[]∧closed=true):
 ∃ops,(∀op∈ops,op.g=0∧op.act.touch?=none∧∀m,op.act≠.mark m)∧runT P (crowd gs w sl) 0=(.next (crowd (gs.setIfInBounds 0 (G (fr.finish (Kv ok z buf)) cs)) (lM w1 r cap buf closed s q tm) sl),
  MemOp.ofEvents 0 g.frame.fn g.frame.place es ++ ops):=by
 rcases hb with hb|⟨rfl,rfl⟩
 ·have e:=crowd_recv_buf (P:=P) (sl:=sl) (i:=0) (z:=z) hi h hc hb (jP ho r true)
  rw[finishComm_recv] at e
  simp only[Kv,lM,if_pos hb,decide_eq_true hb]
  exact⟨_,by simp[MemAct.touch?],e⟩
 ·have e:=crowd_recv_closed (P:=P) (sl:=sl) (i:=0) (z:=z) hi h hc (jP ho r true)
  rw[finishComm_recv] at e
  exact⟨_,by simp[MemAct.touch?],e⟩
theorem jR{fn:FuncId}{pos:String}{es:Array Event}(h:∀e∈es,EU Z e):∀op∈MemOp.ofEvents 0 fn pos es,VH Z op:=fun op hop=>by
 obtain⟨e,he,rfl⟩:=Go.Conc.mem_ofEvents hop
 obtain⟨loc,wr,sy⟩:=e
 refine⟨rfl,?_,fun x hx=>?_,fun a=>?_⟩
 ·rcases h _ he with(h|h)|⟨a,h,hz⟩|⟨r,h,hz⟩ <;> simp only at h <;> subst h <;> cases wr <;> cases sy <;> simp[MemAct.ofEvent]
 ·rcases h _ he with(h|h)|⟨a,h,hz⟩|⟨r,h,hz⟩
  ·simp only at h
   subst h
   cases hx
  ·simp only at h
   subst h
   simp only[MemAct.ofEvent,MemAct.touch?,Option.some.injEq] at hx
   subst hx
   exact .inr (.inr rfl)
  ·simp only at h
   subst h
   simp only[MemAct.ofEvent,MemAct.touch?,Option.some.injEq] at hx
   subst hx
   exact .inl ⟨a,rfl,hz⟩
  ·simp only at h
   subst h
   cases wr <;> cases sy <;> simp only[MemAct.ofEvent,MemAct.touch?,Option.some.injEq] at hx <;> first|cases hx;done|(subst hx;exact .inr (.inl ⟨r,rfl,hz⟩))
 ·rcases h _ he with(h|h)|⟨a,h,hz⟩|⟨r,h,hz⟩ <;> simp only at h <;> subst h <;> cases wr <;> cases sy <;> simp[MemAct.ofEvent]
theorem qL{I:Machine→Prop}{m m':Machine}(h:StepsIn I P m m'):m.gs.size≤m'.gs.size:=by
 induction h with
 | refl=>exact Nat.le_refl _
 | head _ hs _ ih=>exact Nat.le_trans (stepT_size P _ _ _ hs) ih
theorem Ml{Fc:Fence}(S:jZ P Fc.fn Z){I:Machine→Prop}(hI:∀m,I m→m.fenced P Fc)(hal:Fc.alive=true){a:Pt}(ok:a.Ok P Fc.fn Z){m1:Machine}{fr':Frame}{cs':List Frame}{v':World}(hI0:I a.m)(hs:step P a.m=.next m1)
 (hp:StepsIn I P m1 (solo (G fr' cs') v')):∃b,m1=b.m∧kn P Fc.fn Z a b:=by
 have hsl:=xW S ok.fr ok.cs ok.lv (fun f hf=>(hI _ hI0 (G a.fr a.cs) (by simp[Pt.m,solo])).2.2.1 f hf)
 rw[Pt.m,step,stepT_solo rfl] at hs
 unfold SL at hsl
 dsimp only at hsl
 cases hgw:stepG P true (G a.fr a.cs) a.w with
 | go g' w' es=>
   rw[hgw] at hsl
   rw[runT_solo_go hgw] at hs
   cases hs
   rcases hsl with hd|⟨⟨Qi,cs2,rfl,h1,h2⟩,n,M⟩
   ·exact(jw hI hal hd hp).elim
   refine⟨⟨Qi,cs2,w'⟩,rfl,⟨h1,h2,M.2.2.1⟩,M.2.1,n,M.1,fun gs v sl h0 ho jN hag=>?_⟩
   obtain⟨v1,e1,s1,d1,t1⟩:=M.2.2.2.2 v jN hag
   have hlt:0<gs.size:=(Array.getElem?_eq_some_iff.1 h0).1
   refine⟨_,v1,_,runT_crowd_go (i:=0) h0 e1,zs,by simp[hlt],fun i hi=>?_,s1,d1,t1,jR M.2.2.2.1⟩
   rw[Array.getElem?_setIfInBounds_ne zo,Array.getElem?_map]
   cases hg:gs[i]? with
   | none=>rfl
   | some g=>
     have:woken P (G a.fr a.cs) (G Qi cs2) v1 g=g:=by
      unfold woken
      split
      ·exact again_running _ (ho i g hi hg)
      ·rfl
     simp[this]
 | comm g' cases b sh w' es=>
   rw[hgw] at hsl
   obtain⟨⟨Qi,cs2,rfl,h1,h2⟩,⟨rfl,⟨ch,send,z⟩,Tw,rfl,hsend,rfl⟩,n,M⟩:=hsl
   simp only at hsend
   subst hsend
   have ho1:kR #[G a.fr a.cs]:=fun i g hi hg=>by
    rw[Array.getElem?_eq_none zm] at hg;cases hg
   rw[solo_eq_crowd] at hs
   rcases qJ (P:=P) (gs:=#[G a.fr a.cs]) (sl:=none) rfl ho1 hgw with⟨o,w2,e⟩|⟨g',ops,hg',e⟩|⟨r,cap,buf,closed,s,q,tm,rfl,hc,hb⟩
   ·rw[e] at hs;cases hs
   ·rw[e] at hs
    cases hs
    exact(jw (g:=g') hI hal (.inr (.inl hg')) hp).elim
   ·have hnz:¬ Z r:=fun hz=>by
     have:=M.2.2.1.dead r hz
     rw[this] at hc
     simp[X0] at hc
    obtain⟨ops,_,e⟩:=tL (P:=P) (gs:=#[G a.fr a.cs]) (sl:=none) rfl ho1 hgw hc hb
    rw[e] at hs
    simp only[Stepped.next.injEq] at hs
    refine⟨⟨Qi.finish (Kv Tw z buf),cs2,lM w' r cap buf closed s q tm⟩,hs.symm,⟨h1.finish _,h2,El M.2.2.1 hnz⟩,fI.2.trans M.2.1,n,fI.1.trans M.1,fun gs v sl h0 ho jN hag=>?_⟩
    obtain⟨v1,e1,s1,d1,t1⟩:=M.2.2.2.2 v jN hag
    have hlt:0<gs.size:=(Array.getElem?_eq_some_iff.1 h0).1
    obtain⟨ops,hops,e⟩:=tL (P:=P) (gs:=gs) (sl:=sl) h0 ho e1 ((s1.same r hnz).trans hc) hb
    refine⟨_,_,_,e,zs,by simp[hlt],fun i hi=>Array.getElem?_setIfInBounds_ne zo,GY hnz s1,fI.1.trans d1,fI.2.trans t1,fun op hop=>?_⟩
    rcases Array.mem_append.1 hop with hop|hop
    ·exact jR M.2.2.2.1 op hop
    ·obtain⟨k1,k2,k3⟩:=hops op hop
     exact⟨k1,⟨k3 _,k3 _⟩,fun x hx=>(by rw[k2] at hx;cases hx),fun a=>k3 _⟩
 | ended o w' es=>
   rw[aY hgw] at hs
   cases hs
 | spawn g' child w' es=>
   exfalso
   have h1:=qL (P:=P) hp
   rw[runT_solo_spawn hgw] at hs
   cases hs
   simp[solo,duo] at h1
 | _=>rw[hgw] at hsl;exact hsl.elim
end
section
open Go.Conc
variable{P:Program}{Z:Env}
def Q6(P:Program)(Fc:Fence)(St:Frame→List Frame→Prop)(m:Machine):Prop:=m.fenced P Fc∧∀fr cs,m.gs[0]? =some (G fr cs)→¬ St fr cs
def Way(P:Program)(Fc:Fence)(St:Frame→List Frame→Prop)(Post:Pt→Prop)(a:Pt):Prop:=∃b:Pt,StepsIn (Q6 P Fc St) P a.m b.m∧St b.fr b.cs∧Post b
structure lC(P:Program)(Fc:Fence)(Z:Env)(St:Frame→List Frame→Prop)(b a:Pt):Prop where
 ok:a.Ok P Fc.fn Z
 not:¬ St a.fr a.cs
 more:∃τ:Tape,(∀j,j<a.w.drawn→τ j=a.w.tape j)∧step P (a.on τ).m=.next b.m∧kn P Fc.fn Z (a.on τ) b
inductive Q8 (P:Program) (Fc:Fence) (Z:Env) (St:Frame→List Frame→Prop) (s0:Pt):Pt→Prop
 | refl:Q8 P Fc Z St s0 s0
 | step {a b:Pt}:Q8 P Fc Z St s0 a→lC P Fc Z St b a→Q8 P Fc Z St s0 b
section
variable{Fc:Fence}{St:Frame→List Frame→Prop}{Post:Pt→Prop}
theorem Ku{a b:Pt}(h:a.m=b.m):a=b:=by
 obtain⟨h1,h2⟩:=xR h
 obtain⟨fr,cs,w⟩:=a
 obtain⟨fr',cs',w'⟩:=b
 have e1:fr=fr':=congrArg Goroutine.frame h1
 have e2:cs=cs':=congrArg Goroutine.callers h1
 have e3:w=w':=h2
 rw[e1,e2,e3]
theorem Pt.Ok.on{a:Pt}(h:a.Ok P Fc.fn Z)(σ:Tape):(a.on σ).Ok P Fc.fn Z:=⟨h.fr,h.cs,⟨h.lv.dead,h.lv.live⟩⟩
theorem Way.first(S:jZ P Fc.fn Z)(hal:Fc.alive=true){a:Pt}(ok:a.Ok P Fc.fn Z)(h:Way P Fc St Post a):(St a.fr a.cs∧Post a)∨(¬ St a.fr a.cs∧∃b,step P a.m=.next b.m∧kn P Fc.fn Z a b∧Way P Fc St Post b):=by
 obtain⟨c,hp,hs,hpost⟩:=h
 generalize hm:a.m=m at hp
 generalize hm':c.m=m' at hp
 cases hp with
 | refl=>
   subst hm'
   obtain rfl:=Ku hm
   exact .inl ⟨hs,hpost⟩
 | head hI hst hp=>
   subst hm
   subst hm'
   refine .inr ⟨hI.2 _ _ (by simp[Pt.m,solo]),?_⟩
   obtain⟨b,rfl,hn⟩:=Ml S (fun m h=>h.1) hal ok hI hst hp
   exact⟨b,hst,hn,c,hp,hs,hpost⟩
theorem kn.drawn{F:FuncId→Prop}{a b:Pt}(h:kn P F Z a b):a.w.drawn≤b.w.drawn:=by
 obtain⟨_,_,n,h,_⟩:=h
 omega
theorem Ad{g g2:Goroutine}{gs2:Array Goroutine}{w v2:World}{sl:Option (Nat × Nat)}(h:crowd gs2 v2 sl=solo g w)(hg:gs2[0]? =some g2):g2=g∧v2=w:=by
 have h1:=congrArg Machine.gs h
 have h2:=congrArg Machine.world h
 simp only[crowd,solo] at h1 h2
 subst h1
 exact⟨by simpa using hg.symm,h2⟩
theorem Cq{F:FuncId→Prop}{a b b':Pt}{τ σ:Tape}(ha:a.Ok P F Z)(h:kn P F Z (a.on τ) b)(hσ:∀j,j<b.w.drawn→σ j=b.w.tape j)(hs:step P (a.on σ).m=.next b'.m)(hl:Lv Z b'.w):b'=b.on σ:=by
 obtain⟨hb,ht,n,hd,hc⟩:=h
 obtain⟨gs2,v2,ops,e,hsz,h0,_,s2,d2,t2,_⟩:=hc #[G a.fr a.cs] {a.w with tape:=σ } none rfl (fun i g hi hg=>by
  rw[Array.getElem?_eq_none zm] at hg;cases hg) (K:=fun _=>none) ⟨rfl,fun _ _=>rfl,rfl,rfl,fun _ _ _ hk _=>by cases hk⟩ (fun k hk q=>by
   show σ (a.w.drawn+k) q=τ (a.w.drawn+k) q
   have hd':b.w.drawn=a.w.drawn+n:=hd
   rw[hσ _ zo,ht]
   rfl)
 rw[step,Pt.m,stepT_solo rfl,solo_eq_crowd] at hs
 have hs':(runT P (crowd #[G a.fr a.cs] {a.w with tape:=σ } none) 0).1=.next b'.m:=hs
 rw[e] at hs'
 simp only[Stepped.next.injEq] at hs'
 obtain⟨e1,e2⟩:=Ad hs' h0
 obtain⟨fr,cs,w'⟩:=b'
 have f1:b.fr=fr:=congrArg Goroutine.frame e1
 have f2:b.cs=cs:=congrArg Goroutine.callers e1
 simp only at e2 hl
 subst e2
 have hh:v2.heap=b.w.heap:=by
  apply Array.ext_getElem?
  intro i
  by_cases hz:Z i
  ·rw[hl.dead i hz,hb.lv.dead i hz]
  ·exact s2.same i hz
 obtain⟨heap,tape,drawn,os,output⟩:=v2
 have q1:=s2.os
 have q2:=s2.output
 simp only at hh d2 t2 q1 q2
 unfold Pt.on
 rw[f1,f2]
 congr 1
 rw[hh,q1,q2,t2,d2]
 congr 1
 exact hd.symm
theorem yI(S:jZ P Fc.fn Z)(hal:Fc.alive=true){s0:Pt}(H:∀σ:Tape,Way P Fc St Post (s0.on σ)):
 ∀ {u:Pt},Q8 P Fc Z St s0 u→∀σ:Tape,(∀j,j<u.w.drawn→σ j=u.w.tape j)→Way P Fc St Post (u.on σ):=by
 intro u h
 induction h with
 | refl=>intro σ _;exact H σ
 | @step a b _ hs ih=>
   intro σ hσ
   obtain⟨τ,hτ,hst,hn⟩:=hs.more
   have hmono:a.w.drawn≤b.w.drawn:=hn.drawn
   rcases(ih σ fun j hj=>by
    rw[hσ j zo,hn.2.1]
    exact hτ j hj).first S hal (hs.ok.on σ) with⟨h1,_⟩|⟨_,b',hst',hn',hw⟩
   ·exact absurd h1 hs.not
   ·rw[← Cq hs.ok hn hσ hst' hn'.1.lv]
    exact hw
theorem Jc(S:jZ P Fc.fn Z)(hal:Fc.alive=true){s0:Pt}(H:∀σ:Tape,Way P Fc St Post (s0.on σ)):Acc (lC P Fc Z St) s0:=by
 refine Classical.byContradiction fun hn=>?_
 have next:∀a:{a:Pt // ¬ Acc (lC P Fc Z St) a },∃b:{a:Pt // ¬ Acc (lC P Fc Z St) a },lC P Fc Z St b.1 a.1:=fun a=>by
  refine Classical.byContradiction fun h=>a.2 ⟨a.1,fun b hb=>Classical.byContradiction fun hb2=>h ⟨⟨b,hb2⟩,hb⟩⟩
 let f:Nat→{a:Pt // ¬ Acc (lC P Fc Z St) a }:=fun n=>Nat.rec ⟨s0,hn⟩ (fun _ a=>Classical.choose (next a)) n
 have hf:∀i,lC P Fc Z St (f (i+1)).1 (f i).1:=fun i=>Classical.choose_spec (next (f i))
 have mono:∀i,(f i).1.w.drawn≤(f (i+1)).1.w.drawn:=fun i=>by
  obtain⟨τ,_,_,hn⟩:=(hf i).more
  exact hn.drawn
 have TP:∀i j,j<(f i).1.w.drawn→(f (i+1)).1.w.tape j=(f i).1.w.tape j:=fun i j hj=>by
  obtain⟨τ,hτ,_,hn⟩:=(hf i).more
  rw[hn.2.1];exact hτ j hj
 have mono':∀i k,(f i).1.w.drawn≤(f (i+k)).1.w.drawn:=fun i k=>by
  induction k with
  | zero=>exact Nat.le_refl _
  | succ k ih=>exact Nat.le_trans ih (mono (i+k))
 have same:∀i k j,j<(f i).1.w.drawn→(f (i+k)).1.w.tape j=(f i).1.w.tape j:=fun i k j hj=>by
  induction k with
  | zero=>rfl
  | succ k ih=>exact(TP (i+k) j (Nat.lt_of_lt_of_le hj (mono' i k))).trans ih
 classical
 let σ:Tape:=fun j=>if h:∃i,j<(f i).1.w.drawn then(f (Classical.choose h)).1.w.tape j else fun _=>0
 have hσ:∀i j,j<(f i).1.w.drawn→σ j=(f i).1.w.tape j:=fun i j hj=>by
  have hx:∃i,j<(f i).1.w.drawn:=⟨i,hj⟩
  have e:σ j=(f (Classical.choose hx)).1.w.tape j:=dif_pos hx
  rw[e]
  have hc:=Classical.choose_spec hx
  generalize Classical.choose hx=c at hc
  rcases Nat.le_total c i with l|l
  ·obtain⟨k,rfl⟩:=Nat.exists_eq_add_of_le l
   exact(same c k j hc).symm
  ·obtain⟨k,rfl⟩:=Nat.exists_eq_add_of_le l
   exact same i k j hj
 obtain⟨c,hp,hs,_⟩:=H σ
 have key:∀ {m m':Machine},StepsIn (Q6 P Fc St) P m m'→m'=c.m→∀i,m=((f i).1.on σ).m→False:=by
  intro m m' h
  induction h with
  | refl m=>
    rintro rfl i e
    have:=Ku e
    subst this
    exact(hf i).not hs
  | @head m m1 m2 hI hst hp ih=>
    rintro rfl i rfl
    obtain⟨b',rfl,hn'⟩:=Ml S (fun m h=>h.1) hal ((hf i).ok.on σ) hI hst hp
    obtain⟨τ,hτ,_,hn⟩:=(hf i).more
    have:=Cq (hf i).ok hn (hσ (i+1)) hst hn'.1.lv
    exact ih rfl (i+1) (by rw[this])
 exact key hp rfl 0 rfl
end
end
end Go.dS
