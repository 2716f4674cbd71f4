/- Far11 Far12 Far13 Far14 Far15 Far16 Far17 Far18 Far19 -/
import Derived.Test.YtpmafoalhnaokaaGreatB1
import Derived.Test.YtpmafoalhnaokaaGreatA9
set_option maxRecDepth 100000
set_option maxHeartbeats 16000000
set_option linter.unusedVariables false
set_option linter.unusedSectionVars false
open Go.IntKind(i64)
open Go.Value(int)
namespace Go.dP
section
open Go.Conc
variable{P:Program}{Z:Env}{F:FuncId→Prop}
theorem rT{α:Type}{x:Result α}(h:¬ fH x):∃e w,x=.halt e w∧(∀v,e≠.panic v)∧e≠.goexit:=by
 cases x with
 | ok a w=>exact absurd trivial h
 | halt e w=>exact⟨e,w,rfl,fun v he=>by subst he;exact h trivial,fun he=>by subst he;exact h trivial⟩
theorem Dv(S:kH P F Z){fr:Frame}{cs:List Frame}(hfr:Fr P F fr)(hcs:∀c∈cs,Fr P F c){s:Sem Value}{w:World}(hl:Lv Z w)(h:T P Z s){f:World→GStep}{fn:FuncId}
 (hok:∀u v u' es,s.runT P u #[]=(.ok v u',es)→f u=GStep.after (seen P fn es) (doReturn P true fr cs none v u'))
 (hno:∀u e u' es,s.runT P u #[]=(.halt e u',es)→∃o u2 es2,f u=.ended o u2 es2∧∀v,o≠.done v):SL P F Z w f:=by
 by_cases hgood:fH (s.runT P w #[]).1
 ·obtain⟨n,new,r,T⟩:=(h.rn hl).told hgood
  have sub:∀e∈seen P fn new,e∈new:=fun e he=>fT he
  cases r with
  | halt e w1=>
    obtain⟨o,u2,es2,e1,e2⟩:=hno w e w1 new T.run
    exact SL.bF e1 e2
  | ok v w1=>
    cases cs with
    | cons c cs=>
      refine T.go (fr':=c.finish v) (cs':=cs) sub (fun u u' hu=>?_) ((hcs c zs).finish v) fun x hx=>hcs x (by simp[hx])
      rw[hok u v u' new hu]
      simp[doReturn,hfr.kind,GStep.after,G]
    | nil=>
      refine T.done (x:=v) sub (fun u u' hu=>?_)
      rw[hok u v u' new hu]
      simp[doReturn,hfr.kind,GStep.after,S.inits _ hfr.fn]
 ·generalize hr:s.runT P w #[]=r at hgood
  obtain⟨r,es⟩:=r
  obtain⟨e,w1,rfl,_⟩:=rT hgood
  obtain⟨o,u2,es2,e1,e2⟩:=hno w e w1 es hr
  exact SL.bF e1 e2
theorem DY(S:kH P F Z){fr:Frame}{cs:List Frame}(hfr:Fr P F fr)(hcs:∀c∈cs,Fr P F c){w:World}(hl:Lv Z w):SL P F Z w (fun u=>unwind P true fr cs none u):=by
 obtain⟨fn,tmps,todo,defers,mode,kind,roundOf⟩:=fr
 cases defers with
 | cons d ds=>
   obtain⟨c,hc⟩:=hfr.defers d zs
   obtain⟨t,args⟩:=d
   simp only at hc
   subst hc
   by_cases hgood:fH ((Instr.takeDeferred c).runT P w #[]).1
   ·obtain⟨n,new,r,T⟩:=((Aq (P:=P) (Z:=Z) c).rn hl).told hgood
    cases r with
    | ok calls w1=>
      obtain rfl:calls=[]:=T.val _ _ rfl
      exact T.go (fr':={fn,tmps,todo,defers:=ds,mode,kind,roundOf }) (cs':=cs) (es:=seen P fn new) (fun e he=>fT he) (fun u u' hu=>by simp[unwind,hu,lD,GStep.after,G,-Sem.runT_eq])
       ⟨hfr.fn,hfr.todo,fun d hd=>hfr.defers d (by simp[hd]),hfr.kind⟩ hcs
    | halt e w1=>exact SL.bF (o:=.stuck "the deferred calls of a range-over-func loop have been taken" (Frame.pos P _)) (w':=w1) (es:=seen P fn new) (by simp only[unwind,T.run,GStep.after];rfl) zs
   ·generalize hr:(Instr.takeDeferred c).runT P w #[]=r at hgood
    obtain⟨r,es⟩:=r
    obtain⟨e,w1,rfl,_⟩:=rT hgood
    exact SL.bF (o:=.stuck "the deferred calls of a range-over-func loop have been taken" (Frame.pos P _)) (w':=w1) (es:=seen P fn es) (by simp only[unwind,hr,GStep.after];rfl) zs
 | nil=>
   cases mode with
   | run=>exact SL.bF (o:=.stuck sQ3 (Frame.pos P _)) (w':=w) (es:=#[]) (by simp only[unwind];rfl) zs
   | panicking chain=>
     obtain⟨f,c,h1,h2,_⟩:=S.hF _ hfr.fn
     simp only at h1
     have EM:Frame.catches P {fn,tmps,todo,defers:=[],mode:=.panicking chain,kind,roundOf }=false:=by
      unfold Frame.catches
      rw[h1]
     cases cs with
     | cons c cs=>
       refine SL.const (fr:=c.raise chain) (cs:=cs) hl (fun v=>?_) ((hcs c zs).raise chain) fun x hx=>hcs x (by simp[hx])
       simp[unwind,EM,G]
     | nil=>
       by_cases hge:chain.head?.any (·.goexit)=true
       ·exact SL.jZ (g:={frame:={fn,tmps,todo,defers:=[],mode:=.panicking chain,kind,roundOf },callers:=[],status:=.finished,dying:=none }) (w':=w) (es:=#[]) (by simp only[unwind,EM,Bool.false_eq_true,if_false,hge,if_true]) (.inr (.inr (.inr rfl)))
       ·cases hr:(reportChain chain false).run P w with
        | ok aar w2=>exact SL.jZ (w':=w2) (es:=#[]) (by simp only[unwind,EM,Bool.false_eq_true,if_false,hge,hr];rfl) (.inl zs)
        | halt h0 w2=>cases h0 <;> exact SL.bF (w':=w2) (es:=#[]) (by simp only[unwind,EM,Bool.false_eq_true,if_false,hge,hr];rfl) zs
   | returning=>
     obtain⟨f,c,h1,h2,_⟩:=S.hF _ hfr.fn
     simp only at h1
     refine Dv S hfr hcs hl (Rk f tmps) (fn:=fn) (fun u v u' es hu=>?_) fun u e u' es hu=>?_
     ·simp only[unwind,h1,hu]
     ·simp only[unwind,h1,hu]
      cases e <;> exact⟨_,_,_,rfl,zs⟩
theorem Ve(S:kH P F Z){fr:Frame}{cs:List Frame}(hfr:Fr P F fr)(hcs:∀c∈cs,Fr P F c){w:World}(hl:Lv Z w)(jump:Option Code)(hj:∀c,jump=some c→dn P c=true):
 SL P F Z w (fun u=>match fr.roundOf with
  | none=>if jump matches none|some .ret then .go {frame:={fr with mode:=.returning },callers:=cs,status:=.running,dying:=none } u else .ended (.stuck CE (fr.pos P)) u
  | some l=>
    let (r,es):=(Instr.endRound l jump).runT P u #[]
    GStep.after (seen P fr.fn es) <| match r with
    | .ok v w=>doReturn P true fr cs none v w
    | .halt _ w=>.ended (.stuck fb (fr.pos P)) w):=by
 obtain⟨fn,tmps,todo,defers,mode,kind,roundOf⟩:=fr
 cases roundOf with
 | none=>
   have back:SL P F Z w (fun u=>.go {frame:={fn,tmps,todo,defers,mode:=.returning,kind,roundOf:=none },callers:=cs,status:=.running,dying:=none } u):=
    SL.const (fr:={fn,tmps,todo,defers,mode:=.returning,kind,roundOf:=none }) (cs:=cs) hl (fun v=>rfl) (hfr.mode _) hcs
   have lost:SL P F Z w (fun u=>.ended (.stuck CE (Frame.pos P {fn,tmps,todo,defers,mode,kind,roundOf:=none })) u):=SL.bF (o:=.stuck _ _) (w':=w) (es:=#[]) rfl zs
   cases jump with
   | none=>exact back
   | some c=>cases c <;> first|exact back|exact lost
 | some l=>
   refine Dv S hfr hcs hl (ME l jump fun c f c0 e h0=>(S.hZ _ _).2 ⟨((S.hZ _ _).1 h0).1,hj c e⟩) (fn:=fn) (fun u v u' es hu=>?_) fun u e u' es hu=>?_
   ·simp only[hu]
   ·simp only[hu]
    exact⟨_,_,_,rfl,zs⟩
theorem Told.seq{α:Type}{Q:α→Prop}{s:Sem α}{w w1:World}{n:Nat}{new es':Array Event}{a:α}{f g:World→GStep}(T:Told P Z Q s w n new (.ok a w1))(hes:∀e∈es',e∈new)
 (key:∀u u',s.runT P u #[]=(.ok a u',new)→f u=GStep.after es' (g u'))(h:SL P F Z w1 g):SL P F Z w f:=by
 have hd1:w1.drawn=w.drawn+n:=T.drawn
 have ht1:w1.tape=w.tape:=T.tape
 have mv:∀ {m:Nat} {w2:World} {es2:Array Event} {same VF:World→World→Prop},Mv Z m w1 w2 es2 same→(∀u u' u2,s.runT P u #[]=(.ok a u',new)→same u' u2→VF u u2)→Mv Z (n+m) w w2 (es' ++ es2) VF:=by
  intro m w2 es2 same VF ⟨k1,k2,k3,k4,k5⟩ hs
  refine⟨by rw[k1,hd1];omega,k2.trans ht1,k3,fun e he=>?_,fun v hv ha=>?_⟩
  ·rcases Array.mem_append.1 he with he|he
   ·exact T.evs e (hes e he)
   ·exact k4 e he
  ·obtain⟨v1,e1,s1,d1,t1⟩:=T.qz v hv (ha.le zo)
   obtain⟨v2,e2,s2,d2,t2⟩:=k5 v1 s1 (Agree.shift ha hd1 ht1 d1 t1)
   exact⟨v2,hs v v1 v2 e1 e2,s2,by rw[d2,d1];omega,t2.trans t1⟩
 unfold SL at h⊢
 rw[key w w1 T.run]
 cases hgw:g w1 with
 | go g' w2 es2=>
   rw[hgw] at h
   exact h.imp id fun⟨k1,m,k2⟩=>⟨k1,n+m,mv k2 fun u u' u2 hu hs=>by rw[key u u' hu,hs];rfl⟩
 | comm g' cases b sh w2 es2=>
   rw[hgw] at h
   obtain⟨k1,k3,m,k2⟩:=h
   exact⟨k1,k3,n+m,mv k2 fun u u' u2 hu hs=>by rw[key u u' hu,hs];rfl⟩
 | ended o w2 es2=>
   rw[hgw] at h
   cases o with
   | done x=>
     obtain⟨m,k2⟩:=h
     exact⟨n+m,mv k2 fun u u' u2 hu hs=>by rw[key u u' hu,hs];rfl⟩
   | _=>trivial
 | spawn g' c w2 es2=>exact zT
 | _=>rw[hgw] at h;exact h.elim
theorem qN{id:Nat}:∀ {k k':List Item},exitTo id k=some k'→∀i∈k',i∈k:=by
 intro k
 induction k with
 | nil=>intro k' h;cases h
 | cons i k ih=>
   intro k' h x hx
   unfold exitTo at h
   split at h
   ·rename_i heq
    cases heq
    split at h
    ·cases h;simp[hx]
    ·simp[ih h x hx]
   ·rename_i heq
    cases heq
    simp[ih h x hx]
   ·rename_i heq
    cases heq
theorem EH{l:Nat}:∀ {c r:Code},findLabel c l=some r→dn P c=true→dn P r=true:=by
 intro c
 induction c with
 | seq a b iha ihb=>
   intro r h ho
   simp only[dn,Bool.and_eq_true] at ho
   unfold findLabel at h
   split at h
   ·rename_i rest hr
    cases h
    simp only[dn,Bool.and_eq_true]
    exact⟨iha hr ho.1,ho.2⟩
   ·exact ihb h ho.2
 | label l'=>
   intro r h ho
   unfold findLabel at h
   split at h
   ·cases h;rfl
   ·cases h
 | _=>intro r h ho;cases h
theorem P5{l:Nat}:∀ {k k':List Item},gotoIn l k=some k'→(∀i∈k,gZ P i)→∀i∈k',gZ P i:=by
 intro k
 induction k with
 | nil=>intro k' h;cases h
 | cons i k ih=>
   intro k' h ho x hx
   have rest:gotoIn l k=some k'→gZ P x:=fun h=>ih h (fun i hi=>ho i (by simp[hi])) x hx
   cases i with
   | inScope body=>
     unfold gotoIn at h
     cases hr:findLabel body l with
     | none=>rw[hr] at h;exact rest h
     | some r=>
       rw[hr] at h
       cases h
       have hb:dn P body=true:=ho (.inScope body) zs
       simp only[List.mem_cons] at hx
       rcases hx with rfl|rfl|hx
       ·exact EH hr hb
       ·exact hb
       ·exact ho x (by simp[hx])
   | _=>exact rest (by unfold gotoIn at h;exact h)
theorem Yg(S:kH P F Z){fr:Frame}{cs:List Frame}(hfr:Fr P F fr)(hcs:∀c∈cs,Fr P F c)(hm:fr.mode=.run){w:World}(hl:Lv Z w)(hab:∀f,fr.about P w=some f→F f):SL P F Z w (fun u=>stepG.exec P true true fr cs none u):=by
 have leave:=fun jump hj=>Ve S hfr hcs hl jump hj
 obtain⟨fn,tmps,todo,defers,mode,kind,roundOf⟩:=fr
 simp only at hm
 subst hm
 unfold stepG.exec
 have stay:∀todo',(∀i∈todo',gZ P i)→SL P F Z w (fun u=>.go {frame:={fn,tmps,todo:=todo',defers,mode:=.run,kind,roundOf },callers:=cs,status:=.running,dying:=none } u):=fun todo' h=>
  SL.const (fr:={fn,tmps,todo:=todo',defers,mode:=.run,kind,roundOf }) (cs:=cs) hl (fun v=>rfl) ⟨hfr.fn,h,hfr.defers,hfr.kind⟩ hcs
 cases todo with
 | nil=>exact leave none zs
 | cons i k=>
   have hi:=hfr.todo i zs
   have hk:∀x∈k,gZ P x:=fun x hx=>hfr.todo x (by simp[hx])
   have one:∀i',gZ P i'→∀x∈i' :: k,gZ P x:=fun i' h x hx=>by
    rcases List.mem_cons.1 hx with rfl|hx
    ·exact h
    ·exact hk x hx
   have two:∀i1 i2,gZ P i1→gZ P i2→∀x∈i1 :: i2 :: k,gZ P x:=fun i1 i2 h1 h2 x hx=>by
    rcases List.mem_cons.1 hx with rfl|hx
    ·exact h1
    ·exact one i2 h2 x hx
   cases i with
   | code c=>
     replace hi:dn P c=true:=hi
     cases c with
     | skip=>exact stay _ hk
     | label l=>exact stay _ hk
     | ret=>exact leave (some .ret) (by simp[dn])
     | seq a b=>
       simp only[dn,Bool.and_eq_true] at hi
       exact stay _ (two _ _ hi.1 hi.2)
     | cond x a b=>
       simp only[dn,Bool.and_eq_true] at hi
       dsimp only
       generalize Frame.eval _ x=v
       cases v with
       | bool t=>exact stay _ (one (.code (if t then a else b)) (by cases t;exact hi.2;exact hi.1))
       | _=>exact SL.bF (o:=.stuck _ _) (w':=w) (es:=#[]) rfl zs
     | block id b=>exact stay _ (two _ _ hi trivial)
     | loop b=>exact stay _ (two _ _ hi hi)
     | scope b=>exact stay _ (two _ _ hi hi)
     | exit id=>
       have:=leave (some (.exit id)) (by simp[dn])
       dsimp only at this⊢
       cases he:exitTo id k with
       | none=>exact this
       | some k'=>exact stay _ fun x hx=>hk x (qN he x hx)
     | goto l=>
       have:=leave (some (.goto l)) (by simp[dn])
       dsimp only at this⊢
       cases he:gotoIn l k with
       | none=>exact this
       | some k'=>exact stay _ (P5 he hk)
     | region id ops draw=>
       cases draw with
       | false=>exact stay _ (one (.inRegion ops (List.range ops.size)) hi)
       | true=>
         dsimp only
         obtain⟨n,new,r,T⟩:=((dN (P:=P) (Z:=Z) (.order fn id)).rn hl).told (by simp only[choose,Sem.runT];split <;> trivial)
         cases r with
         | ok t w1=>
           have hr:∀u u',(choose (.order fn id)).runT P u #[]=(.ok t u',new)→(choose (.order fn id)).run P u=.ok t u':=fun u u' hu=>by
            have:=Sem.runT_fst P (choose (.order fn id)) u #[]
            rw[hu] at this
            exact this.symm
           exact T.go (fr':={fn,tmps,todo:=.inRegion ops (Region.schedule (P.follows .mixedOrders) ops t) :: k,defers,mode:=.run,kind,roundOf }) (cs':=cs) (es:=#[]) zs (fun u u' hu=>by
            have:=hr u u' hu
            simp[this,G]) ⟨hfr.fn,one (.inRegion ops _) hi,hfr.defers,hfr.kind⟩ hcs
         | halt e w1=>
           exfalso
           have:=T.run
           simp only[choose,Sem.runT] at this
           split at this <;> cases this
     | rangeFunc f params assign body=>
       simp only[dn,Bool.and_eq_true] at hi
       dsimp only
       by_cases hgood:fH ((Instr.enterLoop fn tmps params assign body roundOf).runT P w #[]).1
       ·obtain⟨n,new,r,T⟩:=((Ju (P:=P) (Z:=Z) fn tmps params assign body roundOf ((S.hZ _ _).2 ⟨hfr.fn,hi.1⟩) ((S.hZ _ _).2 ⟨hfr.fn,hi.2⟩)).rn hl).told hgood
        cases r with
        | halt e w1=>exact SL.bF (o:=.stuck fb (Frame.pos P _)) (w':=w1) (es:=seen P fn new) (by simp only[T.run,GStep.after];rfl) zs
        | ok x w1=>
          obtain⟨l,mark⟩:=x
          have hmk:=T.val _ _ rfl
          have hrun:(Instr.enterLoop fn tmps params assign body roundOf).run P w=.ok (l,mark) w1:=by
           have:=Sem.runT_fst P (Instr.enterLoop fn tmps params assign body roundOf) w #[]
           rw[T.run] at this
           exact this.symm
          have SM:Fr P F {fn,tmps,todo:=.inRangeFunc l :: k,defers:=mark ++ defers,mode:=.run,kind,roundOf }:=⟨hfr.fn,one (.inRangeFunc l) trivial,fun d hd=>by
           rcases List.mem_append.1 hd with hd|hd
           ·exact hmk d hd
           ·exact hfr.defers d hd,hfr.kind⟩
          refine T.seq (g:=fun u=>stepG.apply P true {fn,tmps,todo:=.inRangeFunc l :: k,defers:=mark ++ defers,mode:=.run,kind,roundOf } cs none (do
           let d ← resolve (Frame.eval {fn,tmps,todo:=.inRangeFunc l :: k,defers:=mark ++ defers,mode:=.run,kind,roundOf }) {callee:=.value f,args:=#[.const (.func (.yield l) #[] #[])],argTypes:=#[] } 0
           invoke d.target d.args) u) (es':=seen P fn new) (fun e he=>fT he) (fun u u' hu=>by simp only[hu]) ?_
          refine xA S SM hcs T.lv ?_
          refine Ol S.hg S.hF.zero T.lv ?_ (fun g hgl=>hab g ?_) (fun d w2 hd=>?_)
          ·show(∃d,Deferred.ofValue _ _=pure d)∨∃m,Deferred.ofValue _ _=stuck m
           unfold Deferred.ofValue
           split
           ·exact .inl ⟨_,rfl⟩
           ·exact .inl ⟨_,rfl⟩
           ·exact .inr ⟨_,rfl⟩
          ·unfold Frame.about
           dsimp only
           rw[hrun]
           exact hgl
          ·replace hd:(Deferred.ofValue _ _).run P w1=.ok d w2:=hd
           unfold Deferred.ofValue at hd
           split at hd
           ·cases hd
            exact⟨fun b' ts ty' cs e=>Target.noConfusion e,fun c e=>Target.noConfusion e⟩
           ·cases hd
            exact⟨fun b' ts ty' cs e=>Target.noConfusion e,fun c e=>Target.noConfusion e⟩
           ·cases hd
       ·generalize hr:(Instr.enterLoop fn tmps params assign body roundOf).runT P w #[]=r at hgood
        obtain⟨r,es⟩:=r
        obtain⟨e,w1,rfl,_⟩:=rT hgood
        exact SL.bF (o:=.stuck fb (Frame.pos P _)) (w':=w1) (es:=seen P fn es) (by simp only[hr,GStep.after];rfl) zs
     | refuse y=>exact SL.bF (o:=.unsupported _ _) (w':=w) (es:=#[]) rfl zs
   | inBlock id=>exact stay _ hk
   | inScope b=>exact stay _ hk
   | inLoop b=>exact stay _ (two _ _ hi hi)
   | inRegion ops l=>
     replace hi:ops.all (mV P)=true:=hi
     cases l with
     | nil=>exact stay _ hk
     | cons j l=>
       dsimp only
       split
       ·unfold stepG.oper Frame.oper?
        dsimp only
        cases ho:ops[j]? with
        | none=>exact SL.bF (o:=.stuck _ _) (w':=w) (es:=#[]) rfl zs
        | some o=>
          have RS:mV P o=true:=by
           rw[Array.all_eq_true_iff_forall_mem] at hi
           exact hi o (Array.mem_of_getElem? ho)
          have main:SL P F Z w (fun u=>stepG.apply P true {fn,tmps,todo:=.inRegion ops (j :: l) :: k,defers,mode:=.run,kind,roundOf } cs none (execOp (Frame.eval {fn,tmps,todo:=.inRegion ops (j :: l) :: k,defers,mode:=.run,kind,roundOf }) o) u):=by
           refine xA S hfr hcs hl (Zh S.hg S.hF.zero RS hl fun f hf=>hab f ?_)
           unfold Frame.about
           dsimp only
           rw[ho]
           exact hf
          dsimp only
          refine SL.congr main fun v=>?_
          cases roundOf with
          | none=>rfl
          | some r=>
            split
            ·rename_i hd
             simp only[mV,hd] at RS
             cases RS
            ·rfl
       ·exact SL.const (fr:=Frame.finish {fn,tmps,todo:=.inRegion ops (j :: l) :: k,defers,mode:=.run,kind,roundOf } undef) (cs:=cs) hl (fun v=>rfl) (hfr.finish undef) hcs
   | inRangeFunc l=>exact SL.bF (o:=.unsupported _ _) (w':=w) (es:=#[]) rfl zs
   | beginRound=>
     refine xA S hfr hcs hl ?_
     cases roundOf with
     | none=>exact(oN (R:=gH Z F) rv fun _:Unit=>pure .skip).rn hl
     | some l=>exact(tu (FH l)).rn hl
   | endRangeFunc l=>
     dsimp only
     by_cases hgood:fH ((Instr.endLoop l).runT P w #[]).1
     ·obtain⟨n,new,r,T⟩:=((QZ (P:=P) (Z:=Z) l).rn hl).told hgood
      cases r with
      | ok jump w1=>
        have hj:=T.val _ _ rfl
        refine T.go (fr':={fn,tmps,todo:=(jump.map Item.code).toList ++ k,defers,mode:=.run,kind,roundOf }) (cs':=cs) (es:=seen P fn new) (fun e he=>fT he) (fun u u' hu=>by simp[hu,lD,GStep.after,G,-Sem.runT_eq]) ⟨hfr.fn,fun x hx=>?_,hfr.defers,hfr.kind⟩ hcs
        rcases List.mem_append.1 hx with hx|hx
        ·cases jump with
         | none=>simp at hx
         | some c=>
           simp only[Option.map_some,Option.toList_some,List.mem_singleton] at hx
           subst hx
           obtain⟨f,hf⟩:=hj c rfl
           exact((S.hZ _ _).1 hf).2
        ·exact hk x hx
      | halt e w1=>
        have hgx:fH (.halt e w1:Result (Option Code)):=by rw[T.run] at hgood;exact hgood
        cases e with
        | panic v=>exact T.go (fr':=Frame.raise {fn,tmps,todo:=.endRangeFunc l :: k,defers,mode:=.run,kind,roundOf } [{v,recovered:=false }]) (cs':=cs) (es:=seen P fn new) (fun e he=>fT he) (fun u u' hu=>by simp[hu,lD,GStep.after,G,-Sem.runT_eq]) (hfr.raise _) hcs
        | goexit=>exact SL.bF (o:=.stuck fb (Frame.pos P _)) (w':=w1) (es:=seen P fn new) (by simp only[T.run,GStep.after];rfl) zs
        | _=>exact hgx.elim
     ·generalize hr:(Instr.endLoop l).runT P w #[]=r at hgood
      obtain⟨r,es⟩:=r
      obtain⟨e,w1,rfl,hp,_⟩:=rT hgood
      cases e <;> first|exact absurd rfl (hp _)|exact SL.bF (o:=.stuck fb (Frame.pos P _)) (w':=w1) (es:=seen P fn es) (by simp only[hr,GStep.after];rfl) zs
   | call x b c e=>exact False.elim hi
   | _=>exact False.elim hi
theorem Ab(S:kH P F Z){fr:Frame}{cs:List Frame}(hfr:Fr P F fr)(hcs:∀c∈cs,Fr P F c){w:World}(hl:Lv Z w)(hab:∀f,fr.about P w=some f→F f):SL P F Z w (fun u=>stepG P true (G fr cs) u):=by
 cases hm:fr.mode with
 | run=>exact SL.congr (Yg S hfr hcs hm hl hab) fun v=>by simp[stepG,G,hm]
 | returning=>exact SL.congr (DY S hfr hcs hl) fun v=>by simp[stepG,G,hm]
 | panicking c=>exact SL.congr (DY S hfr hcs hl) fun v=>by simp[stepG,G,hm]
def kX(gs:Array Goroutine):Prop:=∀i g,0<i→gs[i]? =some g→g.status=.running∨g.status=.finished
def Gl(Z:Env)(l:Loc):Prop:=(∃a,l=.cell a∧¬ Z a.block)∨(∃r,l=.obj r∧¬ Z r)∨l=.output
def XI(Z:Env)(op:MemOp):Prop:=op.g=0∧(op.act≠.mark .disable∧op.act≠.mark .enable)∧(∀x,op.act.touch?=some x→Gl Z x.loc)∧∀a,op.act≠.mark (.release a)
structure Pt where
 fr:Frame
 cs:List Frame
 w:World
def Pt.on(a:Pt)(σ:Tape):Pt:=⟨a.fr,a.cs,{a.w with tape:=σ }⟩
def Pt.m(a:Pt):Machine:=solo (G a.fr a.cs) a.w
structure Pt.Ok(P:Program)(F:FuncId→Prop)(Z:Env)(a:Pt):Prop where
 fr:Fr P F a.fr
 cs:∀c∈a.cs,Fr P F c
 lv:Lv Z a.w
def qe(P:Program)(F:FuncId→Prop)(Z:Env)(a b:Pt):Prop:=b.Ok P F Z∧b.w.tape=a.w.tape∧∃n,b.w.drawn=a.w.drawn+n∧
 ∀ {K:Nat→Option Obj} (gs:Array Goroutine) (v:World) (sl:Option (Nat × Nat)),gs[0]? =some (G a.fr a.cs)→kX gs→pQ Z K a.w v→Agree n a.w v→∃gs2 v2 ops,runT P (crowd gs v sl) 0=(.next (crowd gs2 v2 sl),ops)∧gs2.size=gs.size∧gs2[0]? =some (G b.fr b.cs)∧
   (∀i,0<i→gs2[i]? =gs[i]?)∧pQ Z K b.w v2∧v2.drawn=v.drawn+n∧v2.tape=v.tape∧∀op∈ops,XI Z op
theorem nk{g:Goroutine}{w:World}{m1:Machine}(h:g.status=.blocked∨g.status=.waiting∨g.status=.finished)(hs:step P (solo g w)=.next m1):m1=solo g w:=by
 rw[step,stepT] at hs
 rcases h with h|h|h
 ·simp[move,ask,askOn,solo,runnable_eq,due,ahead,Goroutine.canRun,List.range_succ,pure,h] at hs
  split at hs <;> rename_i heq <;> split at heq <;> simp_all
 ·simp[move,ask,askOn,solo,runnable_eq,due,ahead,Goroutine.canRun,List.range_succ,pure,h] at hs
  rw[← hs];simp[solo]
 ·simp[move,ask,askOn,solo,runnable_eq,due,ahead,Goroutine.canRun,List.range_succ,pure,h] at hs
  split at hs <;> rename_i heq <;> split at heq <;> simp_all
theorem FD{I:Machine→Prop}{m m':Machine}(h:StepsIn I P m m'):∀ {g:Goroutine} {w:World},m=solo g w→(g.status=.blocked∨g.status=.waiting∨g.status=.finished)→m'=solo g w:=by
 induction h with
 | refl m=>intro g w e _;exact e
 | head hI hs _ ih=>
   intro g w e hd
   subst e
   exact ih (nk hd hs) hd
theorem yX{g g':Goroutine}{w w':World}(h:solo g w=solo g' w'):g=g'∧w=w':=by
 have h1:=congrArg Machine.gs h
 have h2:=congrArg Machine.world h
 exact⟨Array.singleton_inj.1 h1,h2⟩
theorem jK{I:Machine→Prop}{Fc:Fence}(hI:∀m,I m→m.fenced P Fc)(hal:Fc.alive=true){g:Goroutine}{w v:World}{fr:Frame}{cs:List Frame}(hd:Dead g)(h:StepsIn I P (solo g w) (solo (G fr cs) v)):False:=by
 rcases hd with hd|hd
 ·generalize hm:solo g w=m at h
  generalize hm':solo (G fr cs) v=m' at h
  cases h with
  | refl=>
    subst hm'
    have e:=(yX hm).1
    subst e
    exact hd rfl
  | head hI0 _ _=>
    subst hm
    have:=(hI _ hI0 g (by simp[solo])).1 hal
    rw[Option.isNone_iff_eq_none] at this
    exact hd this
 ·have e:=FD h rfl hd
  have e:=(yX e).1
  subst e
  rcases hd with hd|hd|hd <;> cases hd
theorem aY{a:Goroutine}{w w':World}{o:Outcome}{es:Array Event}(h:stepG P true a w=.ended o w' es):(runT P (solo a w) 0).1=.ended o w':=by
 simp[runT,solo,Array.swapAt!,Array.swapAt,h,GStep.es]
section
variable{gs:Array Goroutine}{w w1:World}{sl:Option (Nat × Nat)}{g g2:Goroutine}{es:Array Event}{cases:Array CommCase}{b:Bool}{shape:CommShape}
theorem PI(hi:gs[0]? =some g)(h:stepG P true g w=.comm g2 cases b shape w1 es)(hx:cases.any (illMade w1)=true):∃o w',(runT P (crowd gs w sl) 0).1=.ended o w':=by
 rw[runT_crowd_comm (i:=0) hi h]
 unfold communicate
 dsimp only
 rw[if_pos]
 ·exact⟨_,_,rfl⟩
 ·exact hx
theorem jY(ho:kX gs)(r:Nat)(send:Bool):partners (gs.setIfInBounds 0 ph) r send=[]:=
 partners_nil fun j g hj=>by
  rcases getElem?_stand gs 0 j g hj with⟨_,rfl⟩|⟨hne,hg⟩
  ·exact offersAt_ph r send
  ·refine offersAt_of_not_blocked (fun e=>?_) r send
   rcases ho j g zo hg with h|h <;> rw[h] at e <;> cases e
end
theorem qZ{gs:Array Goroutine}{w w1:World}{sl:Option (Nat × Nat)}{g:Goroutine}{fr:Frame}{cs:List Frame}{es:Array Event}{ch z:Value}{ok:Bool}
 (hi:gs[0]? =some g)(ho:kX gs)(h:stepG P true g w=.comm (G fr cs) #[⟨ch,none,z⟩] true (.recv ok) w1 es):
 (∃o w',(runT P (crowd gs w sl) 0).1=.ended o w')∨
 (∃g' ops,g'.status=.blocked∧runT P (crowd gs w sl) 0=(.next (crowd (gs.setIfInBounds 0 g') w1 sl),ops))∨
 (∃r cap buf closed s q tm,ch=.chan (some r)∧w1.heap[r]? =some (.chan cap buf closed s q tm)∧(0<buf.size∨buf=#[]∧closed=true)):=by
 have wait:illMade w1 ⟨ch,none,z⟩=false→ways w1 (gs.setIfInBounds 0 ph) ⟨ch,none,z⟩=[]→∃g' ops,g'.status=.blocked∧runT P (crowd gs w sl) 0=(.next (crowd (gs.setIfInBounds 0 g') w1 sl),ops):=fun h1 h2=>
  ⟨_,_,rfl,crowd_waits (i:=0) hi h fun cc hcc=>by
    obtain rfl:cc=⟨ch,none,z⟩:=by simpa using hcc
    exact⟨h1,h2⟩⟩
 have ill:illMade w1 ⟨ch,none,z⟩=true→∃o w',(runT P (crowd gs w sl) 0).1=.ended o w':=fun h1=>PI hi h (by simp[h1])
 cases ch with
 | chan c=>
   cases c with
   | none=>exact .inr (.inl (wait rfl rfl))
   | some r=>
     cases hr:w1.heap[r]? with
     | none=>exact .inl (ill (by simp[illMade,hr]))
     | some x=>
       cases x with
       | chan cap buf closed s q tm=>
         by_cases hb:0<buf.size
         ·exact .inr (.inr ⟨r,cap,buf,closed,s,q,tm,rfl,hr,.inl hb⟩)
         ·have hb0:buf=#[]:=Array.eq_empty_of_size_eq_zero zo
          cases closed with
          | true=>exact .inr (.inr ⟨r,cap,buf,true,s,q,tm,rfl,hr,.inr ⟨hb0,rfl⟩⟩)
          | false=>exact .inr (.inl (wait (by simp[illMade,hr]) (by subst hb0;simp[ways,hr,jY ho])))
       | _=>exact .inl (ill (by simp[illMade,hr]))
 | _=>exact .inl (ill (by simp[illMade]))
def Me(ok:Bool)(z:Value)(buf:Array Value):Value:=recvd ok (if 0<buf.size then buf.getD 0 undef else z) (decide (0<buf.size))
def lY(w:World)(r cap:Nat)(buf:Array Value)(closed:Bool)(s q:Nat)(tm:Bool):World:=if 0<buf.size then w.setChan r cap (buf.extract 1 buf.size) closed s (q+1) tm else w
section
variable{w v:World}{r cap s q:Nat}{buf:Array Value}{closed tm:Bool}
theorem fQ:(lY w r cap buf closed s q tm).drawn=w.drawn∧(lY w r cap buf closed s q tm).tape=w.tape:=by unfold lY;split <;> exact⟨rfl,rfl⟩
theorem Fp(h:Lv Z w)(hz:¬ Z r):Lv Z (lY w r cap buf closed s q tm):=by
 unfold lY
 split
 ·exact h.set hz trivial
 ·exact h
theorem I9{K:Nat→Option Obj}(hz:¬ Z r)(h:pQ Z K w v):pQ Z K (lY w r cap buf closed s q tm) (lY v r cap buf closed s q tm):=by
 unfold lY
 split
 ·exact h.set hz _
 ·exact h
end
theorem uR{gs:Array Goroutine}{w w1:World}{sl:Option (Nat × Nat)}{g:Goroutine}{fr:Frame}{cs:List Frame}{es:Array Event}{z:Value}{ok:Bool}{r cap s q:Nat}{buf:Array Value}{closed tm:Bool}
 (hi:gs[0]? =some g)(ho:kX gs)(h:stepG P true g w=.comm (G fr cs) #[⟨.chan (some r),none,z⟩] true (.recv ok) w1 es)(hc:w1.heap[r]? =some (.chan cap buf closed s q tm))(hb:0<buf.size∨buf=#[]∧closed=true):
 ∃ops,(∀op∈ops,op.g=0∧op.act.touch?=none∧∀m,op.act≠.mark m)∧runT P (crowd gs w sl) 0=(.next (crowd (gs.setIfInBounds 0 (G (fr.finish (Me ok z buf)) cs)) (lY w1 r cap buf closed s q tm) sl),
  MemOp.ofEvents 0 g.frame.fn g.frame.place es ++ ops):=by
 rcases hb with hb|⟨rfl,rfl⟩
 ·have e:=crowd_recv_buf (P:=P) (sl:=sl) (i:=0) (z:=z) hi h hc hb (jY ho r true)
  rw[finishComm_recv] at e
  simp only[Me,lY,if_pos hb,decide_eq_true hb]
  exact⟨_,by simp[MemAct.touch?],e⟩
 ·have e:=crowd_recv_closed (P:=P) (sl:=sl) (i:=0) (z:=z) hi h hc (jY ho r true)
  rw[finishComm_recv] at e
  exact⟨_,by simp[MemAct.touch?],e⟩
theorem kg{fn:FuncId}{pos:String}{es:Array Event}(h:∀e∈es,Gi Z e):∀op∈MemOp.ofEvents 0 fn pos es,XI Z op:=fun op hop=>by
 obtain⟨e,he,rfl⟩:=Go.Conc.mem_ofEvents hop
 obtain⟨loc,wr,sy⟩:=e
 refine⟨rfl,?_,fun x hx=>?_,fun a=>?_⟩
 ·rcases h _ he with(h|h)|⟨a,h,hz⟩|⟨r,h,hz⟩ <;> simp only at h <;> subst h <;> cases wr <;> cases sy <;> simp[MemAct.ofEvent]
 ·rcases h _ he with(h|h)|⟨a,h,hz⟩|⟨r,h,hz⟩
  ·simp only at h
   subst h
   cases hx
  ·simp only at h
   subst h
   simp only[MemAct.ofEvent,MemAct.touch?,Option.some.injEq] at hx
   subst hx
   exact .inr (.inr rfl)
  ·simp only at h
   subst h
   simp only[MemAct.ofEvent,MemAct.touch?,Option.some.injEq] at hx
   subst hx
   exact .inl ⟨a,rfl,hz⟩
  ·simp only at h
   subst h
   cases wr <;> cases sy <;> simp only[MemAct.ofEvent,MemAct.touch?,Option.some.injEq] at hx <;> first|cases hx;done|(subst hx;exact .inr (.inl ⟨r,rfl,hz⟩))
 ·rcases h _ he with(h|h)|⟨a,h,hz⟩|⟨r,h,hz⟩ <;> simp only at h <;> subst h <;> cases wr <;> cases sy <;> simp[MemAct.ofEvent]
theorem q9{I:Machine→Prop}{m m':Machine}(h:StepsIn I P m m'):m.gs.size≤m'.gs.size:=by
 induction h with
 | refl=>exact zL
 | head _ hs _ ih=>exact Nat.le_trans (stepT_size P _ _ _ hs) ih
theorem Ob{Fc:Fence}(S:kH P Fc.fn Z){I:Machine→Prop}(hI:∀m,I m→m.fenced P Fc)(hal:Fc.alive=true){a:Pt}(ok:a.Ok P Fc.fn Z){m1:Machine}{fr':Frame}{cs':List Frame}{v':World}(hI0:I a.m)(hs:step P a.m=.next m1)
 (hp:StepsIn I P m1 (solo (G fr' cs') v')):∃b,m1=b.m∧qe P Fc.fn Z a b:=by
 have hsl:=Ab S ok.fr ok.cs ok.lv (fun f hf=>(hI _ hI0 (G a.fr a.cs) (by simp[Pt.m,solo])).2.2.1 f hf)
 rw[Pt.m,step,stepT_solo rfl] at hs
 unfold SL at hsl
 dsimp only at hsl
 cases hgw:stepG P true (G a.fr a.cs) a.w with
 | go g' w' es=>
   rw[hgw] at hsl
   rw[runT_solo_go hgw] at hs
   cases hs
   rcases hsl with hd|⟨⟨RP,cs2,rfl,h1,h2⟩,n,M⟩
   ·exact(jK hI hal hd hp).elim
   refine⟨⟨RP,cs2,w'⟩,rfl,⟨h1,h2,M.2.2.1⟩,M.2.1,n,M.1,fun gs v sl h0 ho jV hag=>?_⟩
   obtain⟨v1,e1,s1,d1,t1⟩:=M.2.2.2.2 v jV hag
   have hlt:0<gs.size:=(Array.getElem?_eq_some_iff.1 h0).1
   refine⟨_,v1,_,runT_crowd_go (i:=0) h0 e1,zs,by simp[hlt],fun i hi=>?_,s1,d1,t1,kg M.2.2.2.1⟩
   rw[Array.getElem?_setIfInBounds_ne zo,Array.getElem?_map]
   cases hg:gs[i]? with
   | none=>rfl
   | some g=>
     have:woken P (G a.fr a.cs) (G RP cs2) v1 g=g:=by
      unfold woken
      split
      ·exact again_running _ (ho i g hi hg)
      ·rfl
     simp[this]
 | comm g' cases b sh w' es=>
   rw[hgw] at hsl
   obtain⟨⟨RP,cs2,rfl,h1,h2⟩,⟨rfl,⟨ch,send,z⟩,Vm,rfl,hsend,rfl⟩,n,M⟩:=hsl
   simp only at hsend
   subst hsend
   have ho1:kX #[G a.fr a.cs]:=fun i g hi hg=>by
    rw[Array.getElem?_eq_none zm] at hg;cases hg
   rw[solo_eq_crowd] at hs
   rcases qZ (P:=P) (gs:=#[G a.fr a.cs]) (sl:=none) rfl ho1 hgw with⟨o,w2,e⟩|⟨g',ops,hg',e⟩|⟨r,cap,buf,closed,s,q,tm,rfl,hc,hb⟩
   ·rw[e] at hs;cases hs
   ·rw[e] at hs
    cases hs
    exact(jK (g:=g') hI hal (.inr (.inl hg')) hp).elim
   ·have hnz:¬ Z r:=fun hz=>by
     have:=M.2.2.1.dead r hz
     rw[this] at hc
     simp[X0] at hc
    obtain⟨ops,_,e⟩:=uR (P:=P) (gs:=#[G a.fr a.cs]) (sl:=none) rfl ho1 hgw hc hb
    rw[e] at hs
    simp only[Stepped.next.injEq] at hs
    refine⟨⟨RP.finish (Me Vm z buf),cs2,lY w' r cap buf closed s q tm⟩,hs.symm,⟨h1.finish _,h2,Fp M.2.2.1 hnz⟩,fQ.2.trans M.2.1,n,fQ.1.trans M.1,fun gs v sl h0 ho jV hag=>?_⟩
    obtain⟨v1,e1,s1,d1,t1⟩:=M.2.2.2.2 v jV hag
    have hlt:0<gs.size:=(Array.getElem?_eq_some_iff.1 h0).1
    obtain⟨ops,hops,e⟩:=uR (P:=P) (gs:=gs) (sl:=sl) h0 ho e1 ((s1.same r hnz).trans hc) hb
    refine⟨_,_,_,e,zs,by simp[hlt],fun i hi=>Array.getElem?_setIfInBounds_ne zo,I9 hnz s1,fQ.1.trans d1,fQ.2.trans t1,fun op hop=>?_⟩
    rcases Array.mem_append.1 hop with hop|hop
    ·exact kg M.2.2.2.1 op hop
    ·obtain⟨k1,k2,k3⟩:=hops op hop
     exact⟨k1,⟨k3 _,k3 _⟩,fun x hx=>(by rw[k2] at hx;cases hx),fun a=>k3 _⟩
 | ended o w' es=>
   rw[aY hgw] at hs
   cases hs
 | spawn g' child w' es=>
   exfalso
   have h1:=q9 (P:=P) hp
   rw[runT_solo_spawn hgw] at hs
   cases hs
   simp[solo,duo] at h1
 | _=>rw[hgw] at hsl;exact hsl.elim
end
section
open Go.Conc
variable{P:Program}{Z:Env}
def Tf(P:Program)(Fc:Fence)(St:Frame→List Frame→Prop)(m:Machine):Prop:=m.fenced P Fc∧∀fr cs,m.gs[0]? =some (G fr cs)→¬ St fr cs
def Way(P:Program)(Fc:Fence)(St:Frame→List Frame→Prop)(Post:Pt→Prop)(a:Pt):Prop:=∃b:Pt,StepsIn (Tf P Fc St) P a.m b.m∧St b.fr b.cs∧Post b
structure lM(P:Program)(Fc:Fence)(Z:Env)(St:Frame→List Frame→Prop)(b a:Pt):Prop where
 ok:a.Ok P Fc.fn Z
 not:¬ St a.fr a.cs
 more:∃τ:Tape,(∀j,j<a.w.drawn→τ j=a.w.tape j)∧step P (a.on τ).m=.next b.m∧qe P Fc.fn Z (a.on τ) b
inductive Ti (P:Program) (Fc:Fence) (Z:Env) (St:Frame→List Frame→Prop) (s0:Pt):Pt→Prop
 | refl:Ti P Fc Z St s0 s0
 | step {a b:Pt}:Ti P Fc Z St s0 a→lM P Fc Z St b a→Ti P Fc Z St s0 b
section
variable{Fc:Fence}{St:Frame→List Frame→Prop}{Post:Pt→Prop}
theorem Md{a b:Pt}(h:a.m=b.m):a=b:=by
 obtain⟨h1,h2⟩:=yX h
 obtain⟨fr,cs,w⟩:=a
 obtain⟨fr',cs',w'⟩:=b
 have e1:fr=fr':=congrArg Goroutine.frame h1
 have e2:cs=cs':=congrArg Goroutine.callers h1
 have e3:w=w':=h2
 rw[e1,e2,e3]
theorem Pt.Ok.on{a:Pt}(h:a.Ok P Fc.fn Z)(σ:Tape):(a.on σ).Ok P Fc.fn Z:=⟨h.fr,h.cs,⟨h.lv.dead,h.lv.live⟩⟩
theorem Way.first(S:kH P Fc.fn Z)(hal:Fc.alive=true){a:Pt}(ok:a.Ok P Fc.fn Z)(h:Way P Fc St Post a):(St a.fr a.cs∧Post a)∨(¬ St a.fr a.cs∧∃b,step P a.m=.next b.m∧qe P Fc.fn Z a b∧Way P Fc St Post b):=by
 obtain⟨c,hp,hs,hpost⟩:=h
 generalize hm:a.m=m at hp
 generalize hm':c.m=m' at hp
 cases hp with
 | refl=>
   subst hm'
   obtain rfl:=Md hm
   exact .inl ⟨hs,hpost⟩
 | head hI hst hp=>
   subst hm
   subst hm'
   refine .inr ⟨hI.2 _ _ (by simp[Pt.m,solo]),?_⟩
   obtain⟨b,rfl,hn⟩:=Ob S (fun m h=>h.1) hal ok hI hst hp
   exact⟨b,hst,hn,c,hp,hs,hpost⟩
theorem qe.drawn{F:FuncId→Prop}{a b:Pt}(h:qe P F Z a b):a.w.drawn≤b.w.drawn:=by
 obtain⟨_,_,n,h,_⟩:=h
 omega
theorem Bv{g g2:Goroutine}{gs2:Array Goroutine}{w v2:World}{sl:Option (Nat × Nat)}(h:crowd gs2 v2 sl=solo g w)(hg:gs2[0]? =some g2):g2=g∧v2=w:=by
 have h1:=congrArg Machine.gs h
 have h2:=congrArg Machine.world h
 simp only[crowd,solo] at h1 h2
 subst h1
 exact⟨by simpa using hg.symm,h2⟩
theorem Dx{F:FuncId→Prop}{a b b':Pt}{τ σ:Tape}(ha:a.Ok P F Z)(h:qe P F Z (a.on τ) b)(hσ:∀j,j<b.w.drawn→σ j=b.w.tape j)(hs:step P (a.on σ).m=.next b'.m)(hl:Lv Z b'.w):b'=b.on σ:=by
 obtain⟨hb,ht,n,hd,hc⟩:=h
 obtain⟨gs2,v2,ops,e,hsz,h0,_,s2,d2,t2,_⟩:=hc #[G a.fr a.cs] {a.w with tape:=σ } none rfl (fun i g hi hg=>by
  rw[Array.getElem?_eq_none zm] at hg;cases hg) (K:=fun _=>none) ⟨rfl,fun _ _=>rfl,rfl,rfl,fun _ _ _ hk _=>by cases hk⟩ (fun k hk q=>by
   show σ (a.w.drawn+k) q=τ (a.w.drawn+k) q
   have hd':b.w.drawn=a.w.drawn+n:=hd
   rw[hσ _ zo,ht]
   rfl)
 rw[step,Pt.m,stepT_solo rfl,solo_eq_crowd] at hs
 have hs':(runT P (crowd #[G a.fr a.cs] {a.w with tape:=σ } none) 0).1=.next b'.m:=hs
 rw[e] at hs'
 simp only[Stepped.next.injEq] at hs'
 obtain⟨e1,e2⟩:=Bv hs' h0
 obtain⟨fr,cs,w'⟩:=b'
 have f1:b.fr=fr:=congrArg Goroutine.frame e1
 have f2:b.cs=cs:=congrArg Goroutine.callers e1
 simp only at e2 hl
 subst e2
 have hh:v2.heap=b.w.heap:=by
  apply Array.ext_getElem?
  intro i
  by_cases hz:Z i
  ·rw[hl.dead i hz,hb.lv.dead i hz]
  ·exact s2.same i hz
 obtain⟨heap,tape,drawn,os,output⟩:=v2
 have q1:=s2.os
 have q2:=s2.output
 simp only at hh d2 t2 q1 q2
 unfold Pt.on
 rw[f1,f2]
 congr 1
 rw[hh,q1,q2,t2,d2]
 congr 1
 exact hd.symm
theorem Az(S:kH P Fc.fn Z)(hal:Fc.alive=true){s0:Pt}(H:∀σ:Tape,Way P Fc St Post (s0.on σ)):
 ∀ {u:Pt},Ti P Fc Z St s0 u→∀σ:Tape,(∀j,j<u.w.drawn→σ j=u.w.tape j)→Way P Fc St Post (u.on σ):=by
 intro u h
 induction h with
 | refl=>intro σ _;exact H σ
 | @step a b _ hs ih=>
   intro σ hσ
   obtain⟨τ,hτ,hst,hn⟩:=hs.more
   have hmono:a.w.drawn≤b.w.drawn:=hn.drawn
   rcases(ih σ fun j hj=>by
    rw[hσ j zo,hn.2.1]
    exact hτ j hj).first S hal (hs.ok.on σ) with⟨h1,_⟩|⟨_,b',hst',hn',hw⟩
   ·exact absurd h1 hs.not
   ·rw[← Dx hs.ok hn hσ hst' hn'.1.lv]
    exact hw
theorem Ki(S:kH P Fc.fn Z)(hal:Fc.alive=true){s0:Pt}(H:∀σ:Tape,Way P Fc St Post (s0.on σ)):Acc (lM P Fc Z St) s0:=by
 refine Classical.byContradiction fun hn=>?_
 have next:∀a:{a:Pt // ¬ Acc (lM P Fc Z St) a },∃b:{a:Pt // ¬ Acc (lM P Fc Z St) a },lM P Fc Z St b.1 a.1:=fun a=>by
  refine Classical.byContradiction fun h=>a.2 ⟨a.1,fun b hb=>Classical.byContradiction fun hb2=>h ⟨⟨b,hb2⟩,hb⟩⟩
 let f:Nat→{a:Pt // ¬ Acc (lM P Fc Z St) a }:=fun n=>Nat.rec ⟨s0,hn⟩ (fun _ a=>Classical.choose (next a)) n
 have hf:∀i,lM P Fc Z St (f (i+1)).1 (f i).1:=fun i=>Classical.choose_spec (next (f i))
 have mono:∀i,(f i).1.w.drawn≤(f (i+1)).1.w.drawn:=fun i=>by
  obtain⟨τ,_,_,hn⟩:=(hf i).more
  exact hn.drawn
 have VE:∀i j,j<(f i).1.w.drawn→(f (i+1)).1.w.tape j=(f i).1.w.tape j:=fun i j hj=>by
  obtain⟨τ,hτ,_,hn⟩:=(hf i).more
  rw[hn.2.1];exact hτ j hj
 have mono':∀i k,(f i).1.w.drawn≤(f (i+k)).1.w.drawn:=fun i k=>by
  induction k with
  | zero=>exact zL
  | succ k ih=>exact Nat.le_trans ih (mono (i+k))
 have same:∀i k j,j<(f i).1.w.drawn→(f (i+k)).1.w.tape j=(f i).1.w.tape j:=fun i k j hj=>by
  induction k with
  | zero=>rfl
  | succ k ih=>exact(VE (i+k) j (Nat.lt_of_lt_of_le hj (mono' i k))).trans ih
 classical
 let σ:Tape:=fun j=>if h:∃i,j<(f i).1.w.drawn then(f (Classical.choose h)).1.w.tape j else fun _=>0
 have hσ:∀i j,j<(f i).1.w.drawn→σ j=(f i).1.w.tape j:=fun i j hj=>by
  have hx:∃i,j<(f i).1.w.drawn:=⟨i,hj⟩
  have e:σ j=(f (Classical.choose hx)).1.w.tape j:=dif_pos hx
  rw[e]
  have hc:=Classical.choose_spec hx
  generalize Classical.choose hx=c at hc
  rcases Nat.le_total c i with l|l
  ·obtain⟨k,rfl⟩:=Nat.exists_eq_add_of_le l
   exact(same c k j hc).symm
  ·obtain⟨k,rfl⟩:=Nat.exists_eq_add_of_le l
   exact same i k j hj
 obtain⟨c,hp,hs,_⟩:=H σ
 have key:∀ {m m':Machine},StepsIn (Tf P Fc St) P m m'→m'=c.m→∀i,m=((f i).1.on σ).m→False:=by
  intro m m' h
  induction h with
  | refl m=>
    rintro rfl i e
    have:=Md e
    subst this
    exact(hf i).not hs
  | @head m m1 m2 hI hst hp ih=>
    rintro rfl i rfl
    obtain⟨b',rfl,hn'⟩:=Ob S (fun m h=>h.1) hal ((hf i).ok.on σ) hI hst hp
    obtain⟨τ,hτ,_,hn⟩:=(hf i).more
    have:=Dx (hf i).ok hn (hσ (i+1)) hst hn'.1.lv
    exact ih rfl (i+1) (by rw[this])
 exact key hp rfl 0 rfl
end
end
section
open Go.Conc Go.ConcN Go.aP
open Go.ConcR (g_of_ofEvents)
variable[Inhabited cu.aV]{P:Program}{Z:Env}
section
variable{Shun:Loc→Prop}{t u:Trace}
theorem Cy(h:After Shun t)(hS:∀l,Shun l→¬ Gl Z l)(hu:∀op∈u,XI Z op):After Shun (t ++ u):=by
 have h0:∀op∈u,op.g=0:=fun op hop=>(hu op hop).1
 refine⟨fun said=>noRace_append (h.clean said) h0 fun i a ha op hop x hx hc=>?_,fun i a ha hm=>?_,handedOver_app h.over fun op hop=>.inl (h0 op hop),?_⟩
 ·rcases h.known i a ha hc.2.1 with hk|⟨h1,h2⟩
  ·exact hk
  ·exact absurd ((hu op hop).2.2.1 x hx) (hS _ (hc.1 ▸ h1))
 ·obtain⟨op,hop,hx⟩:=touch_of ha
  rcases getElem?_append_cases hop with⟨hi,hop'⟩|⟨_,hopu⟩
  ·rcases h.known i a (by rw[touchAt_of hop'];exact hx) hm with hk|hk
   ·exact .inl (hk.app _)
   ·exact .inr hk
  ·have:=knows_own hop
   rw[h0 op hopu] at this
   exact .inl this
 ·rw[Deaf_still t 0 u fun op hop=>(hu op hop).2.1];exact h.hears
end
theorem Qz{gs:Array Goroutine}{t:Trace}{q:Nat→Nat}(h:Leavers P t gs q):kX gs:=fun i g hi hg=>(h.old i g hi hg).status
theorem uq{gs:Array Goroutine}{a:Goroutine}{t:Trace}{q:Nat→Nat}(h0:gs[0]? =some a)(hrun:a.status=.running)(h:Leavers P t gs q):∀g∈gs,awake g:=by
 intro g hg
 obtain⟨i,hi⟩:=Array.mem_iff_getElem?.1 hg
 rcases Nat.eq_zero_or_pos i with rfl|hpos
 ·rw[h0] at hi;cases hi;exact awake_of (.inl hrun)
 ·exact awake_of ((h.old i g hpos hi).status.elim .inl fun x=>.inr (.inr x))
theorem nY{gs:Array Goroutine}{a:Goroutine}{t:Trace}{q:Nat→Nat}{Shun:Loc→Prop}{w:World}{sl:Option (Nat × Nat)}(h0:gs[0]? =some a)(hrun:a.status=.running)(hL:Leavers P t gs q)(hA:After Shun t)
 {i:Nat}{g:Goroutine}(hi:gs[i]? =some g)(hg:g.status=.running)(hpos:0<i):
 ∃gs' ops q',runT P (crowd gs w sl) i=(.next (crowd gs' w sl),ops)∧gs'.size=gs.size∧gs'[0]? =some a∧Leavers P (t ++ ops) gs' q'∧After Shun (t ++ ops)∧sumTo gs.size q'<sumTo gs.size q:=by
 have hq:=hL.old i g hpos hi
 have hi0:(i == 0)=false:=zm
 have hlt:i<gs.size:=(Array.getElem?_eq_some_iff.1 hi).1
 cases hqi:q i with
 | zero=>rw[hqi] at hq;rw[hq.1] at hg;cases hg
 | succ k=>
   rw[hqi] at hq
   rcases hq with⟨hf,_⟩|⟨_,g',es,hm,hstp,hq'⟩
   ·rw[hf] at hg;cases hg
   have hr:=runT_crowd_go (P:=P) (w:=w) (sl:=sl) (i:=i) hi (by rw[hi0];exact hstp w)
   have hsum:sumTo gs.size (upd q i k)+(k+1)=sumTo gs.size q+k:=by
    have:=sumTo_upd q k id hlt
    simpa [hqi] using this
   refine⟨_,_,upd q i k,hr,zs,?_,⟨fun j x hj hx=>?_,fun j hj=>?_⟩,hA.mute zo hm,?_⟩
   ·rw[Array.getElem?_setIfInBounds_ne zo,Array.getElem?_map,h0]
    simp[woken_run hrun]
   ·by_cases e:i=j
    ·subst e
     rw[Array.getElem?_setIfInBounds_self_of_lt (by simpa using hlt)] at hx
     cases hx
     rw[upd_same,Deaf_own]
     exact hq'
    ·rw[Array.getElem?_setIfInBounds_ne e,Array.getElem?_map] at hx
     obtain⟨y,hy,rfl⟩:=Option.map_eq_some_iff.1 hx
     have hqj:=hL.old j y hj hy
     rw[woken_quitsD hqj,upd_ne q k (Ne.symm e),Deaf_other t e _ g_of_ofEvents]
     exact hqj
   ·rw[Deaf_other t (g':=i) (by simp at hj;omega) _ g_of_ofEvents]
    exact hL.above j (by simpa using hj)
   ·omega
section
variable{Fc:Fence}{St:Frame→List Frame→Prop}{Post:Pt→Prop}{Shun:Loc→Prop}
theorem MP(S:kH P Fc.fn Z)(hal:Fc.alive=true)(hS:∀l,Shun l→¬ Gl Z l){K:Nat→Option Obj}{s0:Pt}(H:∀σ:Tape,Way P Fc St Post (s0.on σ)):
 ∀ (b:Pt),Acc (lM P Fc Z St) b→b.Ok P Fc.fn Z→Ti P Fc Z St s0 b→∀ (M:Nat) (gs:Array Goroutine) (v:World) (sl:Option (Nat × Nat)) (t:Trace) (q:Nat→Nat),sumTo gs.size q=M→gs[0]? =some (G b.fr b.cs)→pQ Z K b.w v→Leavers P t gs q→After Shun t→
   ∃ (N:Nat) (gs':Array Goroutine) (b':Pt) (v':World) (sl':Option (Nat × Nat)) (t':Trace) (q':Nat→Nat),
     runNT P N (crowd gs v sl) t=(.next (crowd gs' v' sl'),t')∧gs'.size=gs.size∧gs'[0]? =some (G b'.fr b'.cs)∧St b'.fr b'.cs∧Post b'∧b'.Ok P Fc.fn Z∧pQ Z K b'.w v'∧Leavers P t' gs' q'∧After Shun t':=by
 intro b hacc
 induction hacc with
 | intro b _ ihb=>
   intro ok hR M
   induction M using Nat.strongRecOn with
   | _ M ihM=>
     intro gs v sl t q hM h0 jV hL hA
     by_cases hst:St b.fr b.cs
     ·have hw:=Az S hal H hR b.w.tape fun _ _=>rfl
      rcases hw.first S hal (ok.on _) with⟨_,hp⟩|⟨h1,_⟩
      ·exact⟨0,gs,b,v,sl,t,q,rfl,rfl,h0,hst,hp,ok,jV,hL,hA⟩
      ·exact absurd hst h1
     obtain⟨i,g,d,sl',hi,hg,hpick⟩:=crowd_pick (P:=P) (w:=v) (sl:=sl) (uq h0 rfl hL) ⟨0,_,h0,rfl⟩
     rcases Nat.eq_zero_or_pos i with rfl|hpos
     ·let σ:Tape:=fun j=>if j<b.w.drawn then b.w.tape j else(v.at d).tape ((v.at d).drawn+(j - b.w.drawn))
      have hσ:∀j,j<b.w.drawn→σ j=b.w.tape j:=fun j hj=>if_pos hj
      rcases(Az S hal H hR σ hσ).first S hal (ok.on σ) with⟨h1,_⟩|⟨_,b',hstp,hn,hw⟩
      ·exact absurd h1 hst
      have hs:lM P Fc Z St b' b:=⟨ok,hst,σ,hσ,hstp,hn⟩
      obtain⟨hb',ht,n,hd,hc⟩:=hn
      obtain⟨gs2,v2,ops,e,hsz,hz,hrest,s2,d2,t2,hops⟩:=hc gs (v.at d) sl' h0 (Qz hL) ⟨jV.size,jV.same,jV.os,jV.output,jV.kept⟩ (fun k hk z=>by
       show(v.at d).tape ((v.at d).drawn+k) z=σ (b.w.drawn+k) z
       simp only[σ]
       rw[if_neg zo,Nat.add_sub_cancel_left])
      have hL2:Leavers P (t ++ ops) gs2 q:=⟨fun j x hj hx=>by
       rw[hrest j hj] at hx
       rw[Deaf_other t (g:=j) (g':=0) zo _ fun op hop=>(hops op hop).1]
       exact hL.old j x hj hx,fun j hj=>by
       have hpos:0<gs2.size:=(Array.getElem?_eq_some_iff.1 hz).1
       rw[Deaf_other t (g:=j) (g':=0) zo _ fun op hop=>(hops op hop).1]
       exact hL.above j zo⟩
      obtain⟨N,gs',b2,v',sl2,t',q',hr,x1,x2,x3,x4,x5,x6,x7,x8⟩:=ihb b' hs hb' (.step hR hs) _ gs2 v2 sl' (t ++ ops) q rfl hz s2 hL2 (Cy hA hS hops)
      exact⟨N+1,gs',b2,v',sl2,t',q',by simp only[runNT,hpick,e];exact hr,x1.trans hsz,x2,x3,x4,x5,x6,x7,x8⟩
     ·obtain⟨gs2,ops,q2,e,hsz,hz,hL2,hA2,hlt⟩:=nY (w:=v.at d) (sl:=sl') h0 rfl hL hA hi hg hpos
      obtain⟨N,gs',b2,v',sl2,t',q',hr,x1,x2,x3,x4,x5,x6,x7,x8⟩:=ihM _ (by rw[hsz];omega) gs2 (v.at d) sl' (t ++ ops) q2 rfl hz ⟨jV.size,jV.same,jV.os,jV.output,jV.kept⟩ hL2 hA2
      exact⟨N+1,gs',b2,v',sl2,t',q',by simp only[runNT,hpick,e];exact hr,x1.trans hsz,x2,x3,x4,x5,x6,x7,x8⟩
end
theorem KL{Shun:Loc→Prop}{Post:Value→World→Prop}{a:Goroutine}(hrun:a.status=.running)(hS:∀l,Shun l→¬ Gl Z l){v:World}(hend:∀d,∃r es,stepG P true a (v.at d)=.ended (.done r) (v.at d) es∧(∀e∈es,Gi Z e)∧Post r (v.at d)):
 ∀ (M d0:Nat) (gs:Array Goroutine) (sl:Option (Nat × Nat)) (t:Trace) (q:Nat→Nat),sumTo gs.size q=M→gs[0]? =some a→Leavers P t gs q→After Shun t→
   ∃N last o w' t',runNT P (N+1) (crowd gs (v.at d0) sl) t=(.ended o w',t')∧runN P N (crowd gs (v.at d0) sl)=.next last∧step P last=.ended o w'∧Good P Post last o w' t':=by
 intro M
 induction M using Nat.strongRecOn with
 | _ M ih=>
   intro d0 gs sl t q hM h0 hL hA
   obtain⟨i,g,d,sl',hi,hg,hpick⟩:=crowd_pick (P:=P) (w:=v.at d0) (sl:=sl) (uq h0 hrun hL) ⟨0,_,h0,hrun⟩
   rcases Nat.eq_zero_or_pos i with rfl|hpos
   ·obtain rfl:g=a:=by rw[h0] at hi;exact(Option.some.inj hi).symm
    obtain⟨r,es,he,hes,hpost⟩:=hend d
    have he':stepG P (0 == 0) g ((v.at d0).at d)=.ended (.done r) (v.at d) es:=he
    have e:=runT_many_ended (sl:=sl') hi he'
    have hA':After Shun (t ++ MemOp.ofEvents 0 g.frame.fn g.frame.place es):=Cy hA hS (kg hes)
    have hst:stepT P (crowd gs (v.at d0) sl)=(.ended (.done r) (v.at d),MemOp.ofEvents 0 g.frame.fn g.frame.place es):=hpick.trans e
    refine⟨0,crowd gs (v.at d0) sl,.done r,v.at d,t ++ MemOp.ofEvents 0 g.frame.fn g.frame.place es,by simp only[runNT,hst],rfl,by rw[step,hst],r,rfl,hpost,hA'.clean,hA'.over,⟨fun x hx=>?_,rfl⟩,fun j x hx hj=>?_⟩
    ·obtain⟨k,hk⟩:=List.mem_iff_getElem?.1 hx
     rw[List.getElem?_drop] at hk
     exact⟨_,(hL.old (1+k) x zo (by simpa [crowd] using hk)).leaves⟩
    ·refine⟨q j,?_⟩
     have e2:(t ++ MemOp.ofEvents 0 g.frame.fn g.frame.place es).deaf j (t ++ MemOp.ofEvents 0 g.frame.fn g.frame.place es).size=Deaf t j:=Deaf_other t (g:=j) (g':=0) zo _ g_of_ofEvents
     rw[e2]
     exact(hL.old j x zo hx).hears _
   ·obtain⟨gs2,ops,q2,e,hsz,hz,hL2,hA2,hlt⟩:=nY (w:=v.at d) (sl:=sl') h0 hrun hL hA hi hg hpos
    obtain⟨N,last,o,w',t',h1,h2,h3,h4⟩:=ih _ (by rw[hsz];omega) d gs2 sl' (t ++ ops) q2 rfl hz hL2 hA2
    have hst:stepT P (crowd gs (v.at d0) sl)=(.next (crowd gs2 (v.at d) sl'),ops):=hpick.trans e
    refine⟨N+1,last,o,w',t',by rw[runNT];simp only[hst];exact h1,?_,h3,h4⟩
    rw[← runNT_fst P _ _ t]
    simp only[runNT,hst]
    rw[runNT_fst];exact h2
end
section
open Go.Conc Go.ConcN Go.aP Go.Conc.Lib
open Go.ConcR (g_of_ofEvents WgAt stA DC0)
variable[Inhabited cu.aV]
section
variable{P:Program}{L:WgLink}{Wg:Nat}{Shun:Loc→Prop}{R:Goroutine}
theorem Iu{w:World}(hl:WgLive L.tWg Wg w):∀ (M m d0:Nat) (a:Goroutine) (gs:Array Goroutine) (sl:Option (Nat × Nat)) (t:Trace) (q:Nat→Nat),m+sumTo gs.size q≤M→gM P L Wg (fun g _=>g=R) m a w→gs[0]? =some a→Leavers P t gs q→After Shun t→
 ∃N gs' d sl' t' q',runNT P N (crowd gs (w.at d0) sl) t=(.next (crowd gs' (w.at d) sl'),t')∧gs'.size=gs.size∧gs'[0]? =some R∧Leavers P t' gs' q'∧After Shun t':=by
 intro M
 induction M with
 | zero=>
   intro m d0 a gs sl t q hM hG h0 hL hA
   obtain rfl:m=0:=zo
   have e:a=R:=hG w fun x=>x
   subst e
   exact⟨0,gs,d0,sl,t,q,rfl,rfl,h0,hL,hA⟩
 | succ M ih=>
   intro m d0 a gs sl t q hM hG h0 hL hA
   have stop:(∀w₁,Gr L Wg w w₁→a=R)→∃N gs' d sl' t' q',runNT P N (crowd gs (w.at d0) sl) t=(.next (crowd gs' (w.at d) sl'),t')∧gs'.size=gs.size∧gs'[0]? =some R∧Leavers P t' gs' q'∧After Shun t':=fun h=>by
    have e:a=R:=h w fun x=>x
    subst e
    exact⟨0,gs,d0,sl,t,q,rfl,rfl,h0,hL,hA⟩
   cases m with
   | zero=>exact stop hG
   | succ m=>
     have hG0:=hG
     rcases hG with hG|⟨hrun,hG⟩
     ·exact stop hG
     obtain⟨i,g,d,sl',hi,hg,hpick⟩:=crowd_pick (P:=P) (w:=w.at d0) (sl:=sl) (uq h0 hrun hL) ⟨0,_,h0,hrun⟩
     have hpick':stepT P (crowd gs (w.at d0) sl)=runT P (crowd gs (w.at d) sl') i:=hpick
     rcases Nat.eq_zero_or_pos i with rfl|hpos
     ·obtain rfl:g=a:=by rw[h0] at hi;exact(Option.some.inj hi).symm
      have hs:=hG (w.at d) fun x=>x
      cases hgo:stepG P true g (w.at d) with
      | go a' w' es=>
        rw[hgo,goes_go] at hs
        obtain⟨⟨rfl,rfl⟩,hG'⟩:=hs
        have e:=runT_crowd_go (P:=P) (sl:=sl') (i:=0) hi (show stepG P (0 == 0) g (w.at d)=_ from hgo)
        have hlt:0<gs.size:=(Array.getElem?_eq_some_iff.1 h0).1
        have hsz:((gs.map (woken P g a' (w.at d))).setIfInBounds 0 a').size=gs.size:=zs
        obtain⟨N,gs',d',sl2,t',q',hr,x1,x2,x3,x4⟩:=ih m d a' ((gs.map (woken P g a' (w.at d))).setIfInBounds 0 a') sl' (t ++ MemOp.ofEvents 0 g.frame.fn g.frame.place #[]) q (by rw[hsz];omega) (fI hG' hl) (by simp[hlt])
         ⟨fun j x hj hx=>by
          have hne:0≠j:=zo
          rw[Array.getElem?_setIfInBounds_ne hne,Array.getElem?_map] at hx
          obtain⟨y,hy,rfl⟩:=Option.map_eq_some_iff.1 hx
          have hq:=hL.old j y hj hy
          rw[woken_quitsD hq,Deaf_other t (g':=0) zo _ g_of_ofEvents]
          exact hq,fun j hj=>by
          rw[Deaf_other t (g':=0) (by simp at hj;omega) _ g_of_ofEvents]
          exact hL.above j (by simpa using hj)⟩ (hA.own zs zs)
        exact⟨N+1,gs',d',sl2,t',q',by simp only[runNT,hpick',e];exact hr,x1.trans hsz,x2,x3,x4⟩
      | _=>rw[hgo] at hs;exact hs.elim
     ·obtain⟨gs2,ops,q2,e,hsz,hz,hL2,hA2,hlt⟩:=nY (w:=w.at d) (sl:=sl') h0 hrun hL hA hi hg hpos
      obtain⟨N,gs',d',sl2,t',q',hr,x1,x2,x3,x4⟩:=ih (m+1) d a gs2 sl' (t ++ ops) q2 (by rw[hsz];omega) hG0 hz hL2 hA2
      exact⟨N+1,gs',d',sl2,t',q',by simp only[runNT,hpick',e];exact hr,x1.trans hsz,x2,x3,x4⟩
end
section
variable{S:Site}{O C:Nat→Nat→Prop}{w:World}{t:Trace}{a:Goroutine}
theorem Qb(jr:Lay O C S.Sh w)(h0:O 0=mE)(c0:C 0=S.Cb)(z:∀k b,0<k→¬ O k b∧¬ C k b)(hv:S.V0 w)(hwg:WgAt S.ty S.Wg w 0 0)(hch:∃s q,w.heap[S.Ch]? =some (.chan S.n #[] false s q false))
 (hct:CT (cu.In S.Sh) (aP.iF O) (aP.Em C) t 0)(BH:cu.RO t w)(hnr:NoRelease (stA S.Wg) t)(hd:Deaf t 0=0)(EK:OO S t)(h:S.Sp S.n a w)(sl:Option (Nat × Nat)):∃μ,Inv S μ (crowd #[a] w sl) t:=by
 obtain⟨s,q,hch⟩:=hch
 have hcom:∀rk:Nat→Rank S.P,Com S O C (fun _=>0) (fun _=>0) rk 0 #[a] w t (fun _=>⟨0,0,0⟩) 0:=fun rk=>
  ⟨rfl,jr,c0,fun i hi=>zo,z,hv,fun i hi=>zo,fun i hi=>zo,hct,BH,hnr,hd,fun i hi=>zo,fun i hi=>zo,⟨#[],s,q,hch,zs⟩,EK⟩
 have hmode:∀tag,isOpen tag→pend tag=0→(∀vs,tag≠.w2 vs)→ConcN.Mode 0 (fun _=>(⟨0,0,0⟩:WD)) tag 0 0:=fun tag h1 h2 h3=>by
  have:=ConcN.Mode.opn (j:=0) (D:=fun _=>(⟨0,0,0⟩:WD)) h1 (fun i hi=>zo) (fun vs e=>absurd e (h3 vs))
  simpa [Vc,sumTo,h2] using this
 generalize hn:S.n=n at h
 cases n with
 | zero=>
   obtain⟨m,hk⟩:=h
   obtain⟨x⟩:Nonempty (Rank S.P):=⟨⟨mP (fun _=>False) (fun _=>True) true (fun _ _ _=>True) a w mE,FY (.stop fun _ _ _=>trivial)⟩⟩
   exact⟨_,#[a],w,sl,0,_,.kd,0,m,0,a,0,0,O,C,_,_,fun _=>x,rfl,rfl,by rw[h0];exact .kd hn.symm hk,hcom _,hwg,hmode .kd trivial rfl zs,rfl⟩
 | succ r=>
   have hk:cu.Wk S.P true S.Cb S.V0 (S.Bo (S.n - (r+1)) (S.Sp r)) a w mE:=h
   rw[show S.n - (r+1)=0 by omega] at hk
   obtain⟨x,hx⟩:=tT hk
   exact⟨_,#[a],w,sl,0,_,.sp r 5,0,0,0,a,0,0,O,C,_,_,fun _=>x,rfl,rfl,by rw[h0];exact .skd zo hx hk,hcom _,hwg,hmode (.sp r 5) trivial rfl zs,rfl⟩
end
def Dead'(S:Site)(jw:FuncId→Code→Prop)(Z0:Nat→Prop)(w:World):Env:=⟨fun q=>(¬ S.Cb q∨Z0 q)∧q≠S.Ch∧q<w.heap.size,jw⟩
theorem PE{S:Site}{jw:FuncId→Code→Prop}{Z0:Nat→Prop}{Fc:Fence}{St:Frame→List Frame→Prop}{Post:Pt→Prop}{PV:Value→World→Prop}{Rs:Goroutine→Prop}(hal:Fc.alive=true)(hS:S.Ok)(hfin:∀g,S.Fin g→∃R,Rs R∧Xt S.P S.L S.Wg R g)
 (ye:∀R,Rs R→∀ (w:World) (buf:Array Value) (s z:Nat),S.V0 w→w.heap[S.Ch]? =some (.chan S.n buf false s z false)→buf.toList.Perm (((List.range S.n).filter S.bit).map fun(i:Nat)=>int i64 i)→Dead' S jw Z0 w S.Wg→
  ∃s0:Pt,G s0.fr s0.cs=R∧kH S.P Fc.fn (Dead' S jw Z0 w)∧s0.Ok S.P Fc.fn (Dead' S jw Z0 w)∧pQ (Dead' S jw Z0 w) (fun q=>w.heap[q]?) s0.w w∧(∀σ:Tape,Way S.P Fc St Post (s0.on σ))∧
   ∀ (b:Pt) (v:World),St b.fr b.cs→Post b→b.Ok S.P Fc.fn (Dead' S jw Z0 w)→pQ (Dead' S jw Z0 w) (fun q=>w.heap[q]?) b.w v→∃r es,stepG S.P true (G b.fr b.cs) v=.ended (.done r) v es∧(∀e∈es,Gi (Dead' S jw Z0 w) e)∧PV r v)
 {μ:vW S}{m:Machine}{t:Trace}(hI:Inv S μ m t):
 ∃N last o w' t',runNT S.P (N+1) m t=(.ended o w',t')∧runN S.P N m=.next last∧step S.P last=.ended o w'∧Good S.P PV last o w' t':=by
 obtain⟨N1,m1,t1,r1,hE⟩:=PG hS μ m t hI
 obtain⟨gs,w,sl,q,a,O,C,pre,rfl,h0,hf,hL,hA,hwl,hv,jr,_,hC,BH,buf,s,z,hch,hperm⟩:=hE.after
 obtain⟨R,hR0,hfin⟩:=hfin a hf
 obtain⟨mm,hG⟩:=hfin w hwl
 obtain⟨N2,gs2,d,sl2,t2,q2,r2,hsz2,h02,hL2,hA2⟩:=Iu hwl _ mm w.drawn a gs sl t1 q zL hG h0 hL hA
 have r2':runNT S.P N2 (crowd gs w sl) t1=(.next (crowd gs2 (w.at d) sl2),t2):=r2
 have Uo:Dead' S jw Z0 (w.at d) S.Wg:=And.intro (.inl fun h=>jr.cS 0 _ (by rw[hC];exact h) (.inl rfl)) (And.intro hS.wc (jr.NY _ (.inl rfl)))
 obtain⟨s0,hR,hset,hok,jV,UK,hend⟩:=ye R hR0 (w.at d) buf s z ⟨hv.live,hv.tab,hv.chan,hv.env⟩ hch hperm Uo
 have du:∀l,ShN S.Wg l→¬ Gl (Dead' S jw Z0 (w.at d)) l:=by
  rintro l ⟨ad,rfl,hb⟩ (⟨a',e,hz⟩|⟨r,e,_⟩|e)
  ·cases e;exact hz (by rw[hb];exact Uo)
  ·cases e
  ·cases e
 obtain⟨N3,Hm,b,v,IF,t3,q3,r3,Uz,h03,hst,hpost,xi,Ik,hL3,hA3⟩:=MP hset hal du UK s0 (Ki hset hal UK) hok .refl _ gs2 (w.at d) sl2 t2 q2 rfl (by rw[hR];exact h02) jV hL2 hA2
 obtain⟨N4,last,o,w',t4,r4,r5,r6,r7⟩:=KL (a:=G b.fr b.cs) (v:=v) rfl du (fun d'=>hend b (v.at d') hst hpost xi ⟨Ik.size,Ik.same,Ik.os,Ik.output,Ik.kept⟩) _ v.drawn Hm IF t3 q3 rfl h03 hL3 hA3
 have r4':runNT S.P (N4+1) (crowd Hm v IF) t3=(.ended o w',t4):=r4
 have r5':runN S.P N4 (crowd Hm v IF)=.next last:=r5
 have whole:∀k,runNT S.P (N1+(N2+(N3+k))) m t=runNT S.P k (crowd Hm v IF) t3:=fun k=>by
  rw[runNT_add,r1]
  show runNT S.P (N2+(N3+k)) (crowd gs w sl) t1=_
  rw[runNT_add,r2']
  show runNT S.P (N3+k) (crowd gs2 (w.at d) sl2) t2=_
  rw[runNT_add,r3]
 refine⟨N1+(N2+(N3+N4)),last,o,w',t4,?_,?_,r6,r7⟩
 ·rw[show N1+(N2+(N3+N4))+1=N1+(N2+(N3+(N4+1))) by omega,whole]
  exact r4'
 ·rw[← runNT_fst S.P _ _ t,whole,runNT_fst]
  exact r5'
end
section
open Go.Conc
variable{P:Program}{Z:Env}{F:FuncId→Prop}
def kG(n:Nat)(e:Event):Prop:=(∀a,e.loc=.cell a→a.block<n)∧∀r,e.loc=.obj r→r<n
theorem kG.le{n m:Nat}{e:Event}(h:kG n e)(l:n≤m):kG m e:=⟨fun a ha=>Nat.lt_of_lt_of_le (h.1 a ha) l,fun r hr=>Nat.lt_of_lt_of_le (h.2 r hr) l⟩
theorem kG.cell{n:Nat}{a:Addr}{x y:Bool}(h:a.block<n):kG n ⟨.cell a,x,y⟩:=⟨fun b hb=>by cases hb;exact h,fun r hr=>by cases hr⟩
theorem kG.obj{n r:Nat}{x y:Bool}(h:r<n):kG n ⟨.obj r,x,y⟩:=⟨fun b hb=>(by cases hb),fun q hq=>by cases hq;exact h⟩
theorem kG.mark{n:Nat}{m:Mark}{x y:Bool}:kG n ⟨.mark m,x,y⟩:=⟨fun b hb=>(by cases hb),fun q hq=>by cases hq⟩
theorem kG.output{n:Nat}{x y:Bool}:kG n ⟨.output,x,y⟩:=⟨fun b hb=>(by cases hb),fun q hq=>by cases hq⟩
def EE{α:Type}:Result α→World
 | .ok _ w=>w
 | .halt _ w=>w
def RunIn{α:Type}(w:World)(es:Array Event)(p:Result α × Array Event):Prop:=w.heap.size≤(EE p.1).heap.size∧∀e∈p.2,e∈es∨kG (EE p.1).heap.size e
theorem RunIn.mk'{α:Type}{w w1:World}{es es1:Array Event}{p:Result α × Array Event}(h:RunIn w1 es1 p)(hs:w.heap.size≤w1.heap.size)(he:∀e∈es1,e∈es∨kG w1.heap.size e):RunIn w es p:=
 ⟨Nat.le_trans hs h.1,fun e h0=>(h.2 e h0).elim (fun h1=>(he e h1).imp id (·.le h.1)) .inr⟩
theorem RunIn.push{α:Type}{w w1:World}{es:Array Event}{e0:Event}{p:Result α × Array Event}(h:RunIn w1 (es.push e0) p)(hs:w.heap.size≤w1.heap.size)(he:kG w1.heap.size e0):RunIn w es p:=
 h.mk' hs fun e h0=>by
  rcases Array.mem_push.1 h0 with h1|rfl
  ·exact .inl h1
  ·exact .inr he
theorem RunIn.self{α:Type}{w:World}{es:Array Event}{r:Result α}(h:EE r=w):RunIn w es (r,es):=⟨by rw[h];exact zL,fun e he=>.inl he⟩
theorem Nh{w:World}{a:Addr}{v:Value}(h:w.cell? a=some v):a.block<w.heap.size:=by
 unfold World.cell? at h
 split at h
 ·exact(Array.getElem?_eq_some_iff.1 ‹_›).1
 ·cases h
theorem Ow{w:World}{b u:Addr × TypeId}{k:Addr}{at_:Bool}{x:Array Value × TypeId × (Nat × Nat) × Nat × Value × List (Nat × Nat × List UInt8)}(h:w.seen P b.1 b.2 k at_=.ok x):b.1.block<w.heap.size:=by
 refine Classical.byContradiction fun hn=>?_
 have hg:w.heap[b.1.block]? =none:=Array.getElem?_eq_none zo
 unfold World.seen at h
 simp only[bind,Except.bind,hg] at h
 repeat' split at h
 all_goals first|cases h|simp_all [throw,throwThe,MonadExceptOf.throw]
theorem JD{w:World}{b:Addr}{u:TypeId}{k:Addr}{at_:Bool}{x:Value × List Addr}(h:w.viewLoad P b u k at_=.ok x):∀a∈x.2,a.block<w.heap.size:=by
 unfold World.viewLoad at h
 cases hs:w.seen P b u k at_ with
 | error e=>simp[hs,bind,Except.bind] at h
 | ok y=>
   have hb:=Ow (b:=(b,u)) (u:=(b,u)) hs
   obtain⟨c,e,f,first,like,cells⟩:=y
   simp only[hs,bind,Except.bind] at h
   split at h
   ·simp only[pure,Except.pure,Except.ok.injEq] at h
    subst h
    intro a ha
    obtain⟨y,_,rfl⟩:=List.mem_map.1 ha
    exact hb
   ·cases h
theorem FV{w:World}{b:Addr}{u:TypeId}{k:Addr}{v:Value}{at_:Bool}{x:World × List Addr}(h:w.viewStore P b u k v at_=.ok x):x.1.heap.size=w.heap.size∧∀a∈x.2,a.block<w.heap.size:=by
 unfold World.viewStore at h
 cases hs:w.seen P b u k at_ with
 | error e=>
   simp only[hs,bind,Except.bind] at h
   repeat' split at h
   all_goals cases h
 | ok y=>
   have hb:=Ow (b:=(b,u)) (u:=(b,u)) hs
   obtain⟨c,e,f,first,like,cells⟩:=y
   simp only[hs,bind,Except.bind] at h
   repeat' split at h
   all_goals first|(cases h;done)|skip
   all_goals
    simp only[pure,Except.pure,Except.ok.injEq] at h
    subst h
    refine⟨zs,fun a ha=>?_⟩
    obtain⟨y,_,rfl⟩:=List.mem_map.1 ha
    exact hb
theorem KR{w:World}{a:Addr}{at_:Bool}{x:Value × List Addr}(h:w.farLoad P a at_=.ok x):∀b∈x.2,b.block<w.heap.size:=by
 unfold World.farLoad at h
 split at h
 ·split at h
  ·cases h;exact JD ‹_›
  ·cases h
 ·cases h
theorem Ia{w:World}{a:Addr}{v:Value}{at_:Bool}{x:World × List Addr}(h:w.farStore P a v at_=.ok x):x.1.heap.size=w.heap.size∧∀b∈x.2,b.block<w.heap.size:=by
 unfold World.farStore at h
 split at h
 ·split at h
  ·cases h;exact FV ‹_›
  ·cases h
 ·cases h
theorem xC{α:Type}(q:Ask α):∀w:World,(w.ask q).2.heap=w.heap:=by
 induction q with
 | done a=>exact fun w=>rfl
 | ask what range k ih=>
   intro w
   unfold World.ask
   dsimp only
   split
   ·exact ih _ w
   ·exact ih _ _
theorem Af(w:World)(c:Sys):(w.sys c).2.heap=w.heap:=by
 unfold World.sys
 have h:=xC (Kernel.perform c w.os) w
 generalize w.ask (Kernel.perform c w.os)=x at h
 split
 ·rfl
 ·exact h
theorem Dh{w:World}{l:List Addr}{x y:Bool}{es:Array Event}(h:∀b∈l,b.block<w.heap.size):∀e∈es ++ l.toArray.map (⟨.cell ·,x,y⟩),e∈es∨kG w.heap.size e:=fun e he=>by
 rcases Array.mem_append.1 he with he|he
 ·exact .inl he
 ·obtain⟨b,hb,rfl⟩:=Array.mem_map.1 he
  exact .inr (.cell (h b (by simpa using hb)))
theorem Fw{α:Type}(s:Sem α):∀ (w:World) (es:Array Event),RunIn w es (s.runT P w es):=by
 induction s with
 | pure a=>exact fun w es=>.self rfl
 | load m a k ih=>
   intro w es
   simp only[Sem.runT]
   split
   ·exact(ih _ w _).push zL (.cell (Nh ‹_›))
   ·split
    ·exact(ih _ w _).mk' zL (Dh (KR ‹_›))
    ·exact .self rfl
 | store m a v k ih=>
   intro w es
   have main:RunIn w es (match w.cell? a with
    | some _=>if w.frozen? a then((.halt (.unsupported (.unsafePointer "a write to bytes that a string shares")) w:Result α),es) else k.runT P (w.setCell a v) (es.push ⟨.cell a,true,m == .atomic⟩)
    | none=>match w.farStore P a v (m == .atomic) with
      | .ok (w,touched)=>k.runT P w (es ++ touched.toArray.map (⟨.cell ·,true,m == .atomic⟩))
      | .error h=>(.halt h w,es)):=by
    split
    ·split
     ·exact .self rfl
     ·exact(ih _ _).push (by simp[World.setCell]) (.cell (by simpa [World.setCell] using Nh ‹_›))
    ·split
     ·have:=Ia ‹_›
      exact(ih _ _).mk' (by rw[this.1];exact zL) (Dh (by rw[this.1];exact this.2))
     ·exact .self rfl
   cases v <;> first|exact .self rfl|exact main
 | new o k ih=>
   intro w es
   exact(ih _ _ _).mk' zs fun e he=>.inl he
 | shape r k ih=>exact fun w es=>ih _ w es
 | freeze a n k ih=>exact fun w es=>(ih (w.freeze a n) es).mk' (by rw[(gW w a n).1];exact zL) fun e he=>.inl he
 | frozen a k ih=>exact fun w es=>ih _ w es
 | getObj r k ih=>
   intro w es
   simp only[Sem.runT]
   split
   ·exact .self rfl
   ·exact(ih _ w _).push zL (.obj (Array.getElem?_eq_some_iff.1 ‹_›).1)
   ·exact .self rfl
 | setObj r o k ih=>
   intro w es
   simp only[Sem.runT]
   split
   ·exact .self rfl
   ·exact(ih _ _).push zs (.obj (by simpa using (Array.getElem?_eq_some_iff.1 ‹_›).1))
   ·exact .self rfl
 | choose q k ih=>
   intro w es
   simp only[Sem.runT]
   split
   ·exact ih _ w es
   ·exact(ih _ {w with drawn:=w.drawn+1 } es).mk' zL fun e he=>.inl he
 | sys c k ih=>
   intro w es
   exact(ih _ (w.sys c).2 _).push (by rw[Af];exact zL) .output
 | program k ih=>exact fun w es=>ih P w es
 | mark m k ih=>exact fun w es=>(ih w _).push zL .mark
 | halt h=>exact fun w es=>.self rfl
def vV(w:World):GStep→Prop
 | .go g w' es=>g.dying=none→w.heap.size≤w'.heap.size∧∀e∈es,kG w'.heap.size e
 | .comm _ _ _ _ w' es=>w.heap.size≤w'.heap.size∧∀e∈es,kG w'.heap.size e
 | _=>True
theorem bY{g:Goroutine}{w:World}:vV w (.go g w):=fun _=>⟨zL,fun e he=>by simp at he⟩
theorem Yn{g:Goroutine}{w w':World}(h:w'.heap=w.heap):vV w (.go g w'):=fun _=>⟨by rw[h];exact zL,fun e he=>by simp at he⟩
theorem Ih{g:Goroutine}{w:World}{c:Array CommCase}{b:Bool}{sh:CommShape}:vV w (.comm g c b sh w):=⟨zL,fun e he=>by simp at he⟩
theorem vV.after{w w1:World}{es:Array Event}{st:GStep}(h1:w.heap.size≤w1.heap.size)(h2:∀e∈es,kG w1.heap.size e)(h:vV w1 st):vV w (st.after es):=by
 have both:∀ {w2:World} {es2:Array Event},(w1.heap.size≤w2.heap.size∧∀e∈es2,kG w2.heap.size e)→w.heap.size≤w2.heap.size∧∀e∈es ++ es2,kG w2.heap.size e:=fun⟨a,b⟩=>
  ⟨Nat.le_trans h1 a,fun e he=>(Array.mem_append.1 he).elim (fun h0=>(h2 e h0).le a) (b e)⟩
 cases st with
 | go g w2 es2=>exact fun hd=>both (h hd)
 | comm g c b sh w2 es2=>exact both h
 | _=>trivial
theorem CS{fr:Frame}{m:String}{w:World}:vV w (endThrow fr m w):=fun h=>by cases h
theorem EJ{α:Type}{s:Sem α}{w:World}{fn:FuncId}{f:Result α→GStep}(h:∀r,vV (EE r) (f r)):vV w (GStep.after (seen P fn (s.runT P w #[]).2) (f (s.runT P w #[]).1)):=by
 have hr:=Fw (P:=P) s w #[]
 generalize s.runT P w #[]=x at hr
 obtain⟨r,es⟩:=x
 exact vV.after hr.1 (fun e he=>(hr.2 e (fT he)).elim (fun h0=>by simp at h0) id) (h r)
theorem mM(S:kH P F Z){fr:Frame}(hk:fr.kind=.normal)(hf:F fr.fn){cs:List Frame}{v:Value}{w:World}:vV w (doReturn P true fr cs none v w):=by
 cases cs with
 | cons c cs=>simp only[doReturn,hk];exact bY
 | nil=>simp only[doReturn,hk,S.inits _ hf];exact zT
theorem xX(S:kH P F Z){fr:Frame}(hfr:Fr P F fr){cs:List Frame}{w:World}:vV w (unwind P true fr cs none w):=by
 obtain⟨fn,tmps,todo,defers,mode,kind,roundOf⟩:=fr
 cases defers with
 | cons d ds=>
   obtain⟨c,hc⟩:=hfr.defers d zs
   obtain⟨t,args⟩:=d
   simp only at hc
   subst hc
   simp only[unwind]
   refine EJ (s:=Instr.takeDeferred c) (f:=fun r=>match r with
    | .ok calls w=>.go {frame:={fn,tmps,todo,defers:=calls ++ ds,mode,kind,roundOf },callers:=cs,status:=.running,dying:=none } w
    | .halt _ w=>.ended (.stuck "the deferred calls of a range-over-func loop have been taken" (Frame.pos P _)) w) fun r=>?_
   cases r with
   | ok v w1=>exact bY
   | halt e w1=>trivial
 | nil=>
   cases mode with
   | run=>simp only[unwind];trivial
   | returning=>
     unfold unwind
     dsimp only
     split
     ·exact mM S hfr.kind hfr.fn
     ·rename_i f2 _
      refine EJ (fn:=fn) (s:=results f2 tmps) (f:=fun r=>match r with
       | .ok v w=>doReturn P true _ cs none v w
       | .halt (.stuck s) w=>.ended (.stuck s (Frame.pos P _)) w
       | .halt _ w=>.ended (.stuck sQ7 (Frame.pos P _)) w) fun r=>?_
      cases r with
      | ok v w1=>exact mM S hfr.kind hfr.fn
      | halt e w1=>cases e <;> trivial
   | panicking chain=>
     unfold unwind
     dsimp only
     split
     ·trivial
     ·cases cs with
      | cons c cs=>exact bY
      | nil=>
        dsimp only
        split
        ·exact bY
        ·split
         ·exact fun h=>by cases h
         ·trivial
         ·trivial
theorem jO(S:kH P F Z){fr:Frame}(hk:fr.kind=.normal){cs:List Frame}{s:Sem Next}{w:World}:vV w (stepG.apply P true fr cs none s w):=by
 have hek:(fr.kind == CallKind.early)=false:=by rw[hk];rfl
 have hr:=Fw (P:=P) s w #[]
 unfold stepG.apply
 simp only[if_true,hek]
 generalize s.runT P w #[]=x at hr
 obtain⟨r,es⟩:=x
 have ev:∀es':Array Event,(∀e∈es',e∈es)→∀e∈seen P fr.fn es',kG (EE r).heap.size e:=fun es' h e he=>(hr.2 e (h e (fT he))).elim (fun h0=>by simp at h0) id
 cases r with
 | ok nx w1=>
   refine vV.after hr.1 (ev _ fun e he=>by simpa using he) ?_
   cases nx <;> dsimp only <;> first|exact bY|exact Ih|exact zT|skip
   all_goals (repeat' split)
   all_goals first|exact bY|exact Ih|exact zT|exact CS
 | halt h w1=>
   cases h with
   | unsupported u=>
     cases u <;> first|(refine vV.after hr.1 (ev _ fun e he=>by first|exact he|simp at he) ?_;exact zT)|skip
     refine vV.after hr.1 (ev _ fun e he=>by first|exact he|simp at he) ?_
     obtain⟨o,w2,es2,e1,_⟩:=vk S fr cs _ w1
     show vV w1 (early P fr cs none _ w1)
     rw[e1];trivial
   | fatal m=>
     refine vV.after hr.1 (ev _ fun e he=>by first|exact he|simp at he) ?_
     show vV w1 (endFatal P fr cs none m w1)
     unfold endFatal
     dsimp only
     repeat' split
     all_goals first|trivial|exact fun h=>by cases h
   | _=>exact vV.after hr.1 (ev _ fun e he=>by first|exact he|simp at he) (by first|exact bY|exact CS|trivial)
theorem GV{q:Question}{w w1:World}{t:Nat}(h:(choose q).run P w=.ok t w1):w1.heap=w.heap:=by
 simp only[choose,Sem.run] at h
 split at h <;> (cases h;rfl)
theorem Ub(S:kH P F Z){fr:Frame}(hfr:Fr P F fr){cs:List Frame}{w:World}:vV w (stepG.exec P true true fr cs none w):=by
 have leave:∀jump:Option Code,vV w (match fr.roundOf with
  | none=>if jump matches none|some .ret then .go {frame:={fr with mode:=.returning },callers:=cs,status:=.running,dying:=none } w else .ended (.stuck CE (fr.pos P)) w
  | some l=>
    let (r,es):=(Instr.endRound l jump).runT P w #[]
    GStep.after (seen P fr.fn es) <| match r with
    | .ok v w=>doReturn P true fr cs none v w
    | .halt _ w=>.ended (.stuck fb (fr.pos P)) w):=fun jump=>by
  obtain⟨fn,tmps,todo,defers,mode,kind,roundOf⟩:=fr
  cases roundOf with
  | none=>
    cases jump with
    | none=>exact bY
    | some c=>cases c <;> first|exact bY|exact zT
  | some l=>
    refine EJ (s:=Instr.endRound l jump) (f:=fun r=>match r with
     | .ok v w=>doReturn P true _ cs none v w
     | .halt _ w=>.ended (.stuck fb (Frame.pos P _)) w) fun r=>?_
    cases r with
    | ok v w1=>exact mM S hfr.kind hfr.fn
    | halt e w1=>exact zT
 obtain⟨fn,tmps,todo,defers,mode,kind,roundOf⟩:=fr
 have hk0:kind=.normal:=hfr.kind
 unfold stepG.exec
 cases todo with
 | nil=>exact leave none
 | cons i k=>
   cases i with
   | code c=>
     cases c with
     | skip=>exact bY
     | label l=>exact bY
     | ret=>exact leave (some .ret)
     | seq a b=>exact bY
     | cond x a b=>
       dsimp only
       generalize Frame.eval _ x=v
       cases v with
       | bool t=>exact bY
       | _=>exact zT
     | block id b=>exact bY
     | loop b=>exact bY
     | scope b=>exact bY
     | exit id=>
       have:=leave (some (.exit id))
       dsimp only at this⊢
       cases he:exitTo id k with
       | none=>exact this
       | some k'=>exact bY
     | goto l=>
       have:=leave (some (.goto l))
       dsimp only at this⊢
       cases he:gotoIn l k with
       | none=>exact this
       | some k'=>exact bY
     | region id ops draw=>
       cases draw with
       | false=>exact bY
       | true=>
         dsimp only
         cases hr:(choose (.order fn id)).run P w with
         | ok t w1=>exact Yn (GV hr)
         | halt e w1=>exact zT
     | rangeFunc f params assign body=>
       have hr:=Fw (P:=P) (Instr.enterLoop fn tmps params assign body roundOf) w #[]
       dsimp only
       generalize (Instr.enterLoop fn tmps params assign body roundOf).runT P w #[]=x at hr
       obtain⟨r,es⟩:=x
       refine vV.after hr.1 (fun e he=>(hr.2 e (fT he)).elim (fun h0=>by simp at h0) id) ?_
       cases r with
       | ok x w1=>exact jO S hk0
       | halt e w1=>exact zT
     | refuse y=>exact zT
   | inBlock id=>exact bY
   | inScope b=>exact bY
   | inLoop b=>exact bY
   | inRegion ops l=>
     cases l with
     | nil=>exact bY
     | cons j l=>
       dsimp only
       split
       ·unfold stepG.oper
        split
        ·exact zT
        ·dsimp only
         split
         ·exact jO S hk0
         ·exact jO S hk0
       ·exact bY
   | inRangeFunc l=>exact zT
   | beginRound=>exact jO S hk0
   | endRangeFunc l=>
     have hr:=Fw (P:=P) (Instr.endLoop l) w #[]
     dsimp only
     generalize (Instr.endLoop l).runT P w #[]=x at hr
     obtain⟨r,es⟩:=x
     refine vV.after hr.1 (fun e he=>(hr.2 e (fT he)).elim (fun h0=>by simp at h0) id) ?_
     cases r with
     | ok x w1=>exact bY
     | halt e w1=>cases e <;> first|exact bY|exact zT
   | call x b c e=>exact jO S hk0
   | _=>
     rename_i row args
     dsimp only
     cases Extern.next row with
     | none=>exact zT
     | some x=>exact jO S hk0
theorem Oy(S:kH P F Z){fr:Frame}(hfr:Fr P F fr){cs:List Frame}{w:World}:vV w (stepG P true (G fr cs) w):=by
 cases hm:fr.mode with
 | run=>simp only[stepG,G,hm];exact Ub S hfr
 | returning=>simp only[stepG,G,hm];exact xX S hfr
 | panicking c=>simp only[stepG,G,hm];exact xX S hfr
def Cu(n:Nat)(l:Loc):Prop:=(∀a,l=.cell a→a.block<n)∧∀r,l=.obj r→r<n
def iH(t:Trace)(n:Nat):Prop:=∀op∈t,op.g=0∧(op.act≠.mark .disable∧op.act≠.mark .enable)∧(∀a,op.act≠.mark (.release a))∧∀x,op.act.touch?=some x→Cu n x.loc
theorem iH.nil(n:Nat):iH #[] n:=fun op h=>by simp at h
theorem Cu.le{n m:Nat}{l:Loc}(h:Cu n l)(k:n≤m):Cu m l:=⟨fun a e=>Nat.lt_of_lt_of_le (h.1 a e) k,fun r e=>Nat.lt_of_lt_of_le (h.2 r e) k⟩
theorem iH.app{t u:Trace}{n m:Nat}(h:iH t n)(k:n≤m)(hu:iH u m):iH (t ++ u) m:=fun op hop=>(Array.mem_append.1 hop).elim (fun h0=>let ⟨a,b,c,d⟩:=h op h0;⟨a,b,c,fun x hx=>(d x hx).le k⟩) (hu op)
theorem mq{n:Nat}{fn:FuncId}{pos:String}{es:Array Event}(hok:∀e∈es,Gi Z e)(h:∀e∈es,kG n e):∀op∈MemOp.ofEvents 0 fn pos es,∀x,op.act.touch?=some x→Cu n x.loc:=fun op hop x hx=>by
 obtain⟨e,he,rfl⟩:=Go.Conc.mem_ofEvents hop
 have h1:=h e he
 obtain⟨loc,wr,sy⟩:=e
 rcases hok _ he with(h2|h2)|⟨a,h2,hz⟩|⟨r,h2,hz⟩
 ·simp only at h2;subst h2;cases hx
 ·simp only at h2;subst h2
  simp only[MemAct.ofEvent,MemAct.touch?,Option.some.injEq] at hx
  subst hx
  exact h1
 ·simp only at h2;subst h2
  simp only[MemAct.ofEvent,MemAct.touch?,Option.some.injEq] at hx
  subst hx
  exact h1
 ·simp only at h2;subst h2
  cases wr <;> cases sy <;> simp only[MemAct.ofEvent,MemAct.touch?,Option.some.injEq] at hx <;> first|cases hx;done|(subst hx;exact h1)
theorem sJ{n:Nat}{u:Trace}(h:∀op∈u,XI Z op)(h2:∀op∈u,∀x,op.act.touch?=some x→Cu n x.loc):iH u n:=fun op hop=>let ⟨a,b,_,d⟩:=h op hop;⟨a,b,d,h2 op hop⟩
theorem Qh{Fc:Fence}(S:kH P Fc.fn Z){I:Machine→Prop}(hI:∀m,I m→m.fenced P Fc)(hal:Fc.alive=true){a:Pt}(ok:a.Ok P Fc.fn Z){m1:Machine}{fr':Frame}{cs':List Frame}{v':World}(hI0:I a.m)(hs:step P a.m=.next m1)
 (hp:StepsIn I P m1 (solo (G fr' cs') v')):∃ (b:Pt) (ops:Trace),m1=b.m∧b.Ok P Fc.fn Z∧stepT P a.m=(.next b.m,ops)∧a.w.heap.size≤b.w.heap.size∧iH ops b.w.heap.size:=by
 have hsl:=Ab S ok.fr ok.cs ok.lv (fun f hf=>(hI _ hI0 (G a.fr a.cs) (by simp[Pt.m,solo])).2.2.1 f hf)
 have hin:=Oy S ok.fr (cs:=a.cs) (w:=a.w)
 have hT:stepT P a.m=runT P (solo (G a.fr a.cs) a.w) 0:=by rw[Pt.m,stepT_solo rfl]
 rw[step,hT] at hs
 unfold SL at hsl
 dsimp only at hsl
 cases hgw:stepG P true (G a.fr a.cs) a.w with
 | go g' w' es=>
   rw[hgw] at hsl hin
   rw[runT_solo_go hgw] at hs hT
   cases hs
   rcases hsl with hd|⟨⟨RP,cs2,rfl,h1,h2⟩,n,M⟩
   ·exact(jK hI hal hd hp).elim
   have hin':=hin rfl
   exact⟨⟨RP,cs2,w'⟩,_,rfl,⟨h1,h2,M.2.2.1⟩,hT,hin'.1,sJ (kg M.2.2.2.1) (mq M.2.2.2.1 hin'.2)⟩
 | comm g' cases b sh w' es=>
   rw[hgw] at hsl hin
   obtain⟨⟨RP,cs2,rfl,h1,h2⟩,⟨rfl,⟨ch,send,z⟩,Vm,rfl,hsend,rfl⟩,n,M⟩:=hsl
   simp only at hsend
   subst hsend
   have ho1:kX #[G a.fr a.cs]:=fun i g hi hg=>by
    rw[Array.getElem?_eq_none zm] at hg;cases hg
   rw[solo_eq_crowd] at hs hT
   rcases qZ (P:=P) (gs:=#[G a.fr a.cs]) (sl:=none) rfl ho1 hgw with⟨o,w2,e⟩|⟨g',ops,hg',e⟩|⟨r,cap,buf,closed,s,q,tm,rfl,hc,hb⟩
   ·rw[e] at hs;cases hs
   ·rw[e] at hs
    cases hs
    exact(jK (g:=g') hI hal (.inr (.inl hg')) hp).elim
   ·have hnz:¬ Z r:=fun hz=>by
     have:=M.2.2.1.dead r hz
     rw[this] at hc
     simp[X0] at hc
    obtain⟨ops,hops,e⟩:=uR (P:=P) (gs:=#[G a.fr a.cs]) (sl:=none) rfl ho1 hgw hc hb
    rw[e] at hs hT
    simp only[Stepped.next.injEq] at hs
    have hsz:w'.heap.size≤(lY w' r cap buf closed s q tm).heap.size:=by
     unfold lY
     split <;> simp[World.setChan]
    refine⟨⟨RP.finish (Me Vm z buf),cs2,lY w' r cap buf closed s q tm⟩,_,hs.symm,⟨h1.finish _,h2,Fp M.2.2.1 hnz⟩,hT,Nat.le_trans hin.1 hsz,iH.app (sJ (kg M.2.2.2.1) (mq M.2.2.2.1 hin.2)) hsz fun op hop=>?_⟩
    obtain⟨k1,k2,k3⟩:=hops op hop
    exact⟨k1,⟨k3 _,k3 _⟩,fun a=>k3 _,fun x hx=>(by rw[k2] at hx;cases hx)⟩
 | ended o w' es=>
   rw[aY hgw] at hs
   cases hs
 | spawn g' child w' es=>
   exfalso
   have h1:=q9 (P:=P) hp
   rw[runT_solo_spawn hgw] at hs
   cases hs
   simp[solo,duo] at h1
 | _=>rw[hgw] at hsl;exact hsl.elim
end
end Go.dP
