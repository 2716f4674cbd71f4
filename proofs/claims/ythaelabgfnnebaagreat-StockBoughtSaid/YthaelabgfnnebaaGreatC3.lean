/- Par17 Par17b Par18 -/
import Derived.Test.YthaelabgfnnebaaGreatC2
set_option maxRecDepth 100000
set_option maxHeartbeats 16000000
set_option linter.unusedVariables false
set_option linter.unusedSectionVars false
set_option linter.unusedSimpArgs false
namespace Go.cu
section
variable[Inhabited aS]
open Go.Conc
variable{P:Program}{ρ:Ren}
theorem Dead.heap{α:Type}{s:Sem α}(h:Dead s):∀ (w:World) (e:Halt) (w1:World),s.run P w=.halt e w1→w1.heap=w.heap:=by
 induction s with
 | shape r k ih=>intro w e w1 hr;exact ih _ (h _) w e w1 hr
 | frozen r k ih=>intro w e w1 hr;exact ih _ (h _) w e w1 hr
 | choose q k ih=>
   intro w e w1 hr
   simp only[Sem.run] at hr
   split at hr
   ·have:=ih _ (h _) _ _ _ hr;exact this
   ·have:=ih _ (h _) _ _ _ hr;exact this
 | mark m k ih=>intro w e w1 hr;exact ih h w e w1 hr
 | halt e0=>intro w e w1 hr;simp only[Sem.run,Result.halt.injEq] at hr;rw[hr.2]
 | _=>exact h.elim
theorem SR.Lg{α β:Type}{Q:Ren→α→β→Prop}{s:Sem α}:∀ {ρ:Ren} {s':Sem β} {w w':World},SR P Q ρ s s'→WR ρ w w'→∀ {e:Halt} {w1:World},s.run P w=.halt e w1→∃ρ1 w1',Le ρ ρ1∧WR ρ1 w1 w1':=by
 induction s with
 | pure a=>rintro ρ s' w w' h hw e w1 hr;simp[Sem.run] at hr
 | load m a k ih=>
   rintro ρ s' w w' ⟨a',k',rfl,rfl,ha,hk⟩ hw e w1 hr
   cases hv:w.cell? a with
   | none=>
     obtain⟨e0,he,ht⟩:=Sm (P:=P) hw ha.1 (a:=a) (Mode.plain == Mode.atomic)
     simp only[Sem.run,hv,he,Result.halt.injEq] at hr
     exact⟨ρ,w',.refl ρ,hr.2 ▸ hw⟩
   | some v=>
     obtain⟨v',hv',ot⟩:=qU hw ha hv
     simp only[Sem.run,hv] at hr
     exact ih v (hk ρ (.refl hw.inj) v v' ot) hw hr
 | store m a v k ih=>
   rintro ρ s' w w' ⟨a',v',k',rfl,rfl,ha,hv,hk⟩ hw e w1 hr
   by_cases h1:∀c,v≠.agg c
   ·by_cases h2:∀c,v≠.tuple c
    ·rw[run_store h1 h2] at hr
     cases hx:w.cell? a with
     | none=>
       obtain⟨e0,he,ht⟩:=LM (P:=P) hw ha.1 (a:=a) v (Mode.plain == Mode.atomic)
       simp only[hx,he,Result.halt.injEq] at hr
       exact⟨ρ,w',.refl ρ,hr.2 ▸ hw⟩
     | some x0=>
       cases hf:w.frozen? a with
       | true=>simp only[hx,hf,if_true,Result.halt.injEq] at hr;exact⟨ρ,w',.refl ρ,hr.2 ▸ hw⟩
       | false=>simp only[hx,hf,Bool.false_eq_true,if_false] at hr;exact ih hk (hw.setCell ha hv) hr
    ·simp only[ne_eq,Classical.not_forall,Classical.not_not] at h2
     obtain⟨c,rfl⟩:=h2
     simp only[Sem.run,Result.halt.injEq] at hr
     exact⟨ρ,w',.refl ρ,hr.2 ▸ hw⟩
   ·simp only[ne_eq,Classical.not_forall,Classical.not_not] at h1
    obtain⟨c,rfl⟩:=h1
    simp only[Sem.run,Result.halt.injEq] at hr
    exact⟨ρ,w',.refl ρ,hr.2 ▸ hw⟩
 | new o k ih=>
   rintro ρ s' w w' ⟨o',k',rfl,ho,hk⟩ hw e w1 hr
   obtain⟨le,hw2⟩:=hw.new ho
   obtain⟨ρ1,w1',h1,h2⟩:=ih w.heap.size (hk _ ⟨le,hw2.inj⟩ w.heap.size w'.heap.size (by simp[Ren.put])) hw2 hr
   exact⟨ρ1,w1',le.trans h1,h2⟩
 | shape r k ih=>
   rintro ρ s' w w' ⟨r',k',rfl,e0,hk⟩ hw e w1 hr
   exact ih (w.shape? r) (hk _) hw hr
 | getObj r k ih=>
   rintro ρ s' w w' ⟨r',k',rfl,e0,hk⟩ hw e w1 hr
   obtain⟨o,o',h1,h2,ho⟩:=hw.obj _ _ e0
   have hcell:(∃c t f,o=.cells c t f)∨∀c t f,o≠.cells c t f:=by cases ho <;> first|exact .inl ⟨_,_,_,rfl⟩|exact .inr (fun _ _ _ h=>by cases h)
   rcases hcell with⟨c,t,f,rfl⟩|hn
   ·simp only[Sem.run,h1,Result.halt.injEq] at hr
    exact⟨ρ,w',.refl ρ,hr.2 ▸ hw⟩
   ·have:(Sem.getObj r k).run P w=(k o).run P w:=by
     cases o <;> first|exact absurd rfl (hn _ _ _)|simp only[Sem.run,h1]
    rw[this] at hr
    exact ih o (hk ρ (.refl hw.inj) _ _ ho) hw hr
 | setObj r o k ih=>
   rintro ρ s' w w' ⟨r',o',k',rfl,e0,ho,hk⟩ hw e w1 hr
   obtain⟨p,p',h1,h2,hp⟩:=hw.obj _ _ e0
   have hcell:(∃c t f,p=.cells c t f)∨∀c t f,p≠.cells c t f:=by cases hp <;> first|exact .inl ⟨_,_,_,rfl⟩|exact .inr (fun _ _ _ h=>by cases h)
   rcases hcell with⟨c,t,f,rfl⟩|hn
   ·simp only[Sem.run,h1,Result.halt.injEq] at hr
    exact⟨ρ,w',.refl ρ,hr.2 ▸ hw⟩
   ·have:(Sem.setObj r o k).run P w=k.run P {w with heap:=w.heap.setIfInBounds r o }:=by
     cases p <;> first|exact absurd rfl (hn _ _ _)|simp only[Sem.run,h1]
    rw[this] at hr
    exact ih hk (hw.setObj e0 ho) hr
 | choose q k ih=>
   rintro ρ s' w w' ⟨k',rfl,hk⟩ hw e w1 hr
   by_cases hf:q.forced=true
   ·simp only[Sem.run,if_pos hf] at hr
    exact ih 0 (hk _) hw hr
   ·have hw2:WR ρ {w with drawn:=w.drawn+1 } {w' with drawn:=w'.drawn+1 }:=⟨hw.obj,hw.inj⟩
    simp only[Sem.run,if_neg hf] at hr
    exact ih _ (hk _) hw2 hr
 | program k ih=>
   rintro ρ s' w w' ⟨k',rfl,hk⟩ hw e w1 hr
   exact ih P hk hw hr
 | halt h0=>
   rintro ρ s' w w' ht hw e w1 hr
   simp only[Sem.run,Result.halt.injEq] at hr
   exact⟨ρ,w',.refl ρ,hr.2 ▸ hw⟩
 | freeze a n k ih=>intro ρ s' w w' h;exact h.elim
 | frozen a k ih=>
   intro ρ s' w w' h hw e w1 hr
   have:=(h (w.frozen? a)).heap (P:=P) w e w1 hr
   exact⟨ρ,w',.refl ρ,⟨fun b b' eb=>by obtain⟨o,o',h1,h2,h3⟩:=hw.obj b b' eb;exact⟨o,o',by rw[this];exact h1,h2,h3⟩,hw.inj⟩⟩
 | sys c k ih=>intro ρ s' w w' h;exact h.elim
 | mark m k ih=>
   rintro ρ s' w w' ⟨k',rfl,rfl,hk⟩ hw e w1 hr
   exact ih hk hw hr
theorem SR.ok{α β:Type}{Q:Ren→α→β→Prop}{s:Sem α}{s':Sem β}{w w' w1:World}{a:α}(h:SR P Q ρ s s')(hw:WR ρ w w')(hr:s.run P w=.ok a w1):∃ρ1 b w1',Q ρ1 a b∧WR ρ1 w1 w1'∧Le ρ ρ1:=by
 have hw2:WR ρ w {w' with tape:=w.tape,drawn:=w.drawn }:=⟨hw.obj,hw.inj⟩
 obtain⟨ρ1,b,w1',O1,new,_,hq,hR⟩:=SR.runT (C:=fun _=>True) (O:=fun _=>True) (es:=#[]) h hw2 (fun k q=>rfl) (fun _ _ _=>.inr trivial) hr
 exact⟨ρ1,b,w1',hq,hR.wr,hR.le⟩
theorem vN{α:Type}(a:Ask α):∀w:World,(w.ask a).2.heap=w.heap:=by
 induction a with
 | done a=>intro w;simp[World.ask]
 | ask what range k ih=>
   intro w
   simp only[World.ask]
   split
   ·exact ih _ _
   ·rw[ih]
theorem xA(w:World)(c:Sys):(w.sys c).2.heap=w.heap:=by
 unfold World.sys
 have:=vN (Kernel.perform c w.os) w
 generalize w.ask (Kernel.perform c w.os)=r at this
 obtain⟨⟨r,os⟩,w1⟩:=r
 simp only at this
 cases r <;> simp[this]
def Pushes{α:Type}:Sem α→Prop
 | .pure _=>True
 | .load _ _ k=>∀v,Pushes (k v)
 | .store _ _ _ _=>False
 | .new _ k=>∀r,Pushes (k r)
 | .shape _ k=>∀r,Pushes (k r)
 | .freeze _ _ _=>False
 | .frozen _ k=>∀r,Pushes (k r)
 | .getObj _ k=>∀r,Pushes (k r)
 | .setObj _ _ _=>False
 | .choose _ k=>∀r,Pushes (k r)
 | .sys _ k=>∀r,Pushes (k r)
 | .program k=>∀r,Pushes (k r)
 | .mark _ k=>Pushes k
 | .halt _=>True
def Result.world{α:Type}:Result α→World
 | .ok _ w=>w
 | .halt _ w=>w
theorem Pushes.old{α:Type}{s:Sem α}(h:Pushes s):∀w:World,w.heap.size≤(Result.world (s.run P w)).heap.size∧∀b,b<w.heap.size→(Result.world (s.run P w)).heap[b]? =w.heap[b]?:=by
 induction s with
 | pure a=>intro w;exact⟨Nat.le_refl _,fun _ _=>rfl⟩
 | load m a k ih=>
   intro w
   simp only[Sem.run]
   cases w.cell? a with
   | some v=>exact ih v (h v) w
   | none=>
     simp only
     cases w.farLoad P a (m == .atomic) with
     | ok r=>obtain⟨v,t⟩:=r;exact ih v (h v) w
     | error e=>exact⟨Nat.le_refl _,fun _ _=>rfl⟩
 | new o k ih=>
   intro w
   simp only[Sem.run]
   obtain⟨h1,h2⟩:=ih w.heap.size (h _) {w with heap:=w.heap.push o }
   simp only[Array.size_push] at h1
   refine⟨zo,fun b hb=>?_⟩
   rw[h2 b zm]
   simp only[Array.getElem?_push_lt hb]
   rw[Array.getElem?_eq_getElem hb]
 | shape r k ih=>intro w;exact ih _ (h _) w
 | frozen r k ih=>intro w;exact ih _ (h _) w
 | getObj r k ih=>
   intro w
   simp only[Sem.run]
   cases w.heap[r]? with
   | none=>exact⟨Nat.le_refl _,fun _ _=>rfl⟩
   | some o=>cases o <;> first|exact⟨Nat.le_refl _,fun _ _=>rfl⟩|exact ih _ (h _) w
 | choose q k ih=>
   intro w
   simp only[Sem.run]
   split
   ·exact ih _ (h _) w
   ·exact ih _ (h _) {w with drawn:=w.drawn+1 }
 | sys c k ih=>
   intro w
   simp only[Sem.run]
   have:=ih (w.sys c).1 (h _) (w.sys c).2
   rw[xA] at this
   exact this
 | program k ih=>intro w;exact ih P (h P) w
 | mark m k ih=>intro w;exact ih h w
 | halt e=>intro w;exact⟨Nat.le_refl _,fun _ _=>rfl⟩
 | _=>exact h.elim
theorem Pushes.bind{α β:Type}{s:Sem α}{f:α→Sem β}(h:Pushes s)(hf:∀a,Pushes (f a)):Pushes (s >>= f):=by
 show Pushes (s.bind f)
 induction s with
 | pure a=>exact hf a
 | load m a k ih=>exact fun v=>ih v (h v)
 | new o k ih=>exact fun v=>ih v (h v)
 | shape r k ih=>exact fun v=>ih v (h v)
 | frozen r k ih=>exact fun v=>ih v (h v)
 | getObj r k ih=>exact fun v=>ih v (h v)
 | choose r k ih=>exact fun v=>ih v (h v)
 | sys r k ih=>exact fun v=>ih v (h v)
 | program k ih=>exact fun v=>ih v (h v)
 | mark m k ih=>exact ih h
 | halt e=>trivial
 | _=>exact h.elim
theorem Gc(x:Value)(w:World):∃e w2,(Instr.panic x).run P w=.halt e w2∧sj e∧∀b,b<w.heap.size→w2.heap[b]? =w.heap[b]?:=by
 have hel:∀t,Pushes (elemOf t):=fun t=>by
  unfold elemOf
  refine Pushes.bind (fun p=>?_) fun d=>?_
  ·show Pushes (match p.underlying t with|some d=>pure d|none=>stuck "no such type")
   cases p.underlying t <;> trivial
  ·cases d <;> trivial
 have hrp:Pushes (runtimePanic .panicNil:Sem Value):=Pushes.bind (s:=program) (fun p=>trivial) fun p=>Pushes.bind (hel _) fun e=>Pushes.bind (s:=newVar e (.agg #[])) (fun r=>trivial) fun r=>trivial
 have hnil:Pushes (Instr.panic .nilIface):=by
  unfold Instr.panic Instr.panicnil
  refine Pushes.bind (Pushes.bind (fun r=>trivial) fun r=>?_) fun n=>?_
  ·cases r <;> first|trivial|exact fun p=>trivial
  ·split
   ·trivial
   ·exact hrp
 have key:∀s:Sem Value,Pushes s→(∀w1 v,s.run P w≠.ok v w1)→(∀e w1,s.run P w=.halt e w1→sj e)→∃e w2,s.run P w=.halt e w2∧sj e∧∀b,b<w.heap.size→w2.heap[b]? =w.heap[b]?:=fun s hs h1 h2=>by
  have:=(hs.old (P:=P) w).2
  cases hr:s.run P w with
  | ok v w1=>exact absurd hr (h1 w1 v)
  | halt e w1=>rw[hr] at this;exact⟨e,w1,rfl,h2 e w1 hr,this⟩
 cases x with
 | iface t v=>exact⟨_,w,rfl,trivial,fun _ _=>rfl⟩
 | nilIface=>
   have hr:∀w1,∃e w2,(runtimePanic .panicNil:Sem Value).run P w1=.halt e w2∧sj e:=fun w1=>by
    unfold runtimePanic
    simp only[program,Bind.bind,Sem.bind,Sem.run,elemOf,underlying]
    cases P.underlying P.rt.panicNilError with
    | none=>exact⟨_,_,rfl,trivial⟩
    | some d=>cases d <;> exact⟨_,_,rfl,trivial⟩
   have hp:(∃n w1,Instr.panicnil.run P w=.ok n w1)∨∃w1 m,Instr.panicnil.run P w=.halt (.stuck m) w1:=by
    unfold Instr.panicnil
    simp only[sys,program,Bind.bind,Sem.bind,Sem.run]
    cases (w.sys .env).1 <;> first|exact .inl ⟨_,_,rfl⟩|exact .inr ⟨_,_,rfl⟩
   refine key _ hnil ?_ ?_
   ·intro w1 v h
    simp only[Instr.panic,Sem.run_bind] at h
    rcases hp with⟨n,w2,e⟩|⟨w2,m,e⟩
    ·rw[e] at h
     change Sem.run P (if (n == 1)=true then goPanic Value.nilIface else runtimePanic RuntimeError.panicNil) w2=_ at h
     split at h
     ·cases h
     ·obtain⟨e3,w3,e4,_⟩:=hr w2;rw[e4] at h;cases h
    ·rw[e] at h;cases h
   ·intro e0 w1 h
    simp only[Instr.panic,Sem.run_bind] at h
    rcases hp with⟨n,w2,e⟩|⟨w2,m,e⟩
    ·rw[e] at h
     change Sem.run P (if (n == 1)=true then goPanic Value.nilIface else runtimePanic RuntimeError.panicNil) w2=_ at h
     split at h
     ·simp only[goPanic,Sem.run,Result.halt.injEq] at h;rw[← h.1];trivial
     ·obtain⟨e3,w3,e4,ht⟩:=hr w2;rw[e4] at h;cases h;exact ht
    ·rw[e] at h;cases h;trivial
 | _=>exact⟨_,w,rfl,trivial,fun _ _=>rfl⟩
def Bad(P:Program)(s:GStep):Prop:=(∃o w es,s=.ended o w es)∨∃g w es,s=.go g w es∧Mq P g w
theorem jq{es:Array Event}{s:GStep}(h:Bad P s):Bad P (GStep.after es s):=by
 rcases h with⟨o,w,e,rfl⟩|⟨g,w,e,rfl,hd⟩
 ·exact .inl ⟨_,_,_,rfl⟩
 ·exact .inr ⟨_,_,_,rfl,hd⟩
theorem CZ(fr:Frame)(L:List Frame)(m:String)(w:World):Bad P (endFatal P fr L none m w):=by
 unfold endFatal
 dsimp only
 split
 ·exact .inr ⟨_,_,_,rfl,⟨.inl rfl⟩⟩
 ·exact .inl ⟨_,_,_,rfl⟩
 ·exact .inl ⟨_,_,_,rfl⟩
theorem lu{fr:Frame}{L:List Frame}{s:Sem Next}{w w2:World}{e:Halt}(hk:fr.kind=.normal)(hr:s.run P w=.halt e w2)(ht:sj e)(hd:iU P w2 fr)(hL:∀c∈L,iU P w2 c):Bad P (stepG.apply P true fr L none s w):=by
 have mT:∀vs,Mq P {frame:=fr.raise vs,callers:=L,status:=.running,dying:=none } w2:=fun vs=>
  ⟨.inr (.inr ⟨rfl,rfl,(raise_mode fr vs).1,hd.raise vs,hL⟩)⟩
 have lost:∀ (o:Outcome) (w:World),Bad P (.ended o w):=fun o w=>.inl ⟨o,w,_,rfl⟩
 unfold stepG.apply
 dsimp only
 rw[if_pos rfl]
 have hT:=Sem.runT_fst P s w #[]
 rw[hr] at hT
 generalize gx:Sem.runT P s w #[]=T at hT⊢
 obtain⟨r,es⟩:=T
 simp only at hT
 subst hT
 dsimp only
 refine jq ?_
 cases e with
 | panic v=>exact .inr ⟨_,_,_,rfl,mT _⟩
 | blocked=>exact ht.elim
 | waiting=>exact ht.elim
 | exit c=>exact lost _ _
 | fatal m=>exact CZ _ _ _ _
 | throw m=>exact .inr ⟨_,_,_,rfl,⟨.inl rfl⟩⟩
 | unsupported u=>
   cases u with
   | initOrder g=>exact ht.elim
   | _=>exact lost _ _
 | stuck s=>exact lost _ _
 | goexit=>exact ht.elim
theorem wJ{w w':World}{a b:List Deferred}(h:dO ρ a b)(hw:WR ρ w w'):∀d∈a,vF w d:=by
 obtain⟨x,x',rfl,rfl,_,h2⟩:=h
 intro d hd
 obtain⟨r,hr,rfl⟩:=List.mem_map.1 hd
 obtain⟨i,hi,rfl⟩:=List.mem_iff_getElem.1 hr
 obtain⟨r',_,e⟩:=h2 i x[i] (by simp[hi])
 refine⟨x[i],rfl,fun ds hds=>?_⟩
 obtain⟨o,o',h1,_,h3⟩:=hw.obj _ _ e
 rw[hds] at h1
 cases h1
 cases h3 with
 | defs h=>
   rcases h with h|h
   ·cases h
   ·cases h;rfl
def NE(F:FuncId→Prop)(ρ:Ren):Next→Next→Prop
 | .enter f a,n=>∃a',n=.enter f a'∧dU ρ a a'∧F f
 | .round l f t a b,n=>∃l' t',n=.round l' f t' a b∧ρ l=some l'∧dU ρ t t'∧jc f a∧jc f b
 | _,_=>False
theorem ML{F:FuncId→Prop}(hi:dI ρ){v v':Value}(hl:ZF P F v)(hv:VR ρ v v'){a a':Array Value}(ha:dU ρ a a'):SR P (NE F) ρ (oN v a) (oN v' a'):=by
 cases hv with
 | func g e1 h1 e2 h2=>
   obtain⟨f,c,hF,hg,hb,hn⟩:=hl _ _ _ rfl
   have key:∀ (x y:Array Value),oN (.func (.func g) x y) a=callFunc g ((x ++ a) ++ y):=fun _ _=>rfl
   have key':∀ (x y:Array Value),oN (.func (.func g) x y) a'=callFunc g ((x ++ a') ++ y):=fun _ _=>rfl
   rw[key,key']
   have hbn:f.body.isNone=false:=by rw[hb];rfl
   have hargs:=(dU.append (ρ:=ρ) (dU.append ⟨e1,h1⟩ ha) ⟨e2,h2⟩)
   unfold callFunc
   refine⟨_,rfl,?_⟩
   show SR P (NE F) ρ (match P.funcs[g]? with|none=>_|some fn=>_) (match P.funcs[g]? with|none=>_|some fn=>_)
   rw[hg]
   simp only[hn,hbn,Bool.false_eq_true,if_false]
   exact SR.pure ⟨_,rfl,hargs,hF⟩
 | yield hr=>
   show SR P (NE F) ρ (Instr.yield _ (#[] ++ a)) (Instr.yield _ (#[] ++ a'))
   rw[Array.empty_append,Array.empty_append]
   refine SR.imp (fun ρ1 n n' h=>?_) hi (Ce hi hr ha)
   cases n <;> first|exact h.elim|exact h
 | nilFunc=>exact aP (e:=.nilDeref) zs zs
 | _=>exact trivial
theorem Ot(hg:P.globals.size=0){F:FuncId→Prop}(hF:gG P F)(hin:∀g,F g→P.inits.idxOf? g=none){s s':Frame × List Frame}{w w' w1:World}{e:Halt}(hst:Yn ρ s s')(ok:Ez P F s)(hw:WR ρ w w')(hl:Ag P F s.1)
 (hne:¬ (s.1.mode=.returning∧s.2=[]∧s.1.defers=[]))(h:(fK P s.1 s.2).run P w=.halt e w1):Bad P (stepG P true (G s.1 s.2) w):=by
 obtain⟨fr,L⟩:=s
 obtain⟨fr',L'⟩:=s'
 obtain⟨hfr,hL⟩:=hst
 obtain⟨ok,oZ⟩:=ok
 simp only at hfr hL ok oZ hl hne h⊢
 have lost:∀ (o:Outcome) (w:World),Bad P (.ended o w):=fun o w=>.inl ⟨o,w,_,rfl⟩
 have hsome:∀c,jE P F c→(P.funcs[c.fn]?).isSome=true:=fun c hc=>by
  obtain⟨f,_,h1,_⟩:=hF.sv _ hc.fn
  rw[h1];rfl
 have Ap:∀ {ρ1:Ren} {w2 w2':World},Le ρ ρ1→WR ρ1 w2 w2'→∀c∈L,iU P w2 c:=by
  intro ρ1 w2 w2' l hw2
  clear hl hne h hfr
  induction hL with
  | nil=>intro c hc;cases hc
  | cons h1 h2 ih=>
    simp only[List.forall_mem_cons] at oZ⊢
    exact⟨⟨hsome _ oZ.1,wJ (h1.defers.mono l) hw2⟩,ih oZ.2⟩
 have EZ:∀ {ρ1:Ren} {w2 w2':World},Le ρ ρ1→WR ρ1 w2 w2'→iU P w2 fr:=fun l hw2=>⟨hsome _ ok,wJ (hfr.defers.mono l) hw2⟩
 have hev:∀x,pQ x→VR ρ (fr.eval x) (fr'.eval x):=fun x=>Fa hfr
 have hi:=hw.inj
 have hsf:=hsome fr ok
 have hleave:∀jump,(kR fr L jump).run P w=.halt e w1→Bad P (iA P true fr L jump w):=by
  intro jump hh
  unfold kR at hh
  unfold iA
  cases hr:fr.roundOf with
  | none=>
    rw[hr] at hh
    dsimp only at hh⊢
    cases jump with
    | none=>simp only[Pure.pure,Sem.run] at hh;cases hh
    | some j=>
      cases j with
      | ret=>simp only[Pure.pure,Sem.run] at hh;cases hh
      | _=>rw[if_neg zs];exact lost _ _
  | some l=>
    rw[hr] at hh
    dsimp only at hh⊢
    have hT:=Sem.runT_fst P (Instr.endRound l jump) w #[]
    generalize gx:Sem.runT P (Instr.endRound l jump) w #[]=T at hT⊢
    obtain⟨r,es⟩:=T
    simp only at hT
    subst hT
    refine jq ?_
    cases hrun:(Instr.endRound l jump).run P w with
    | halt e2 w2=>exact lost _ _
    | ok v w2=>
      cases L with
      | cons c L=>exfalso;simp[Sem.run_bind,hrun,Sem.run,pure] at hh
      | nil=>
        have:=hin _ ok.fn
        simp only[doReturn,ok.kind,this,Bool.not_true,Bool.false_eq_true,if_false]
        exact lost _ _
 obtain⟨hfn,htodo,⟨dx,hd⟩,hm,hk⟩:=ok
 obtain⟨fn,tmps,todo,defers,mode,kind,roundOf⟩:=fr
 simp only at hfn htodo hd hm hk hne
 subst hk
 rcases hm with rfl|rfl
 ·unfold fK at h
  dsimp only at h
  cases todo with
  | nil=>
    have e1:stepG P true (G {fn:=fn,tmps:=tmps,todo:=[],defers:=defers,mode:=.run,kind:=.normal,roundOf:=roundOf } L) w=iA P true {fn:=fn,tmps:=tmps,todo:=[],defers:=defers,mode:=.run,kind:=.normal,roundOf:=roundOf } L none w:=by
     simp only[G,stepG,stepG.exec,iA] <;> rfl
    rw[e1];exact hleave none h
  | cons i k=>
    have ht:=htodo i zs
    cases i with
    | code c=>
      cases c with
      | ret=>
        have e1:stepG P true (G {fn:=fn,tmps:=tmps,todo:=.code .ret :: k,defers:=defers,mode:=.run,kind:=.normal,roundOf:=roundOf } L) w=iA P true {fn:=fn,tmps:=tmps,todo:=.code .ret :: k,defers:=defers,mode:=.run,kind:=.normal,roundOf:=roundOf } L (some .ret) w:=by
         simp only[G,stepG,stepG.exec,iA] <;> rfl
        rw[e1];exact hleave _ h
      | cond x a b=>
        dsimp only at h
        generalize yW:Frame.eval {fn:=fn,tmps:=tmps,todo:=.code (.cond x a b) :: k,defers:=defers,mode:=.run,kind:=.normal,roundOf:=roundOf } x=v at h
        cases v with
        | bool b=>simp only[Pure.pure,Sem.run] at h;cases h
        | _=>simp only[G,stepG,stepG.exec,yW];exact lost _ _
      | exit id=>
        dsimp only at h
        cases he:exitTo id k with
        | none=>
          rw[he] at h
          have e1:stepG P true (G {fn:=fn,tmps:=tmps,todo:=.code (.exit id) :: k,defers:=defers,mode:=.run,kind:=.normal,roundOf:=roundOf } L) w=iA P true {fn:=fn,tmps:=tmps,todo:=.code (.exit id) :: k,defers:=defers,mode:=.run,kind:=.normal,roundOf:=roundOf } L (some (.exit id)) w:=by
           simp only[G,stepG,stepG.exec,iA,he] <;> rfl
          rw[e1];exact hleave _ h
        | some k'=>rw[he] at h;simp only[Pure.pure,Sem.run] at h;cases h
      | region id ops draw=>
        cases draw with
        | false=>simp only[Bool.not_false,if_true,Pure.pure,Sem.run] at h;cases h
        | true=>
          simp only[Bool.not_true,Bool.false_eq_true,if_false,choose,Bind.bind,Sem.bind,Pure.pure,Sem.run] at h
          split at h <;> cases h
      | goto l=>exact ht.elim
      | rangeFunc f ps a b=>
        dsimp only at h
        have hf:=hev f ht.1
        have bo:=hl.iter f ps a b k rfl rfl
        have hent:=oQ (P:=P) hi hfr.tmps ps ((hF.env _ _).2 ⟨hfn,ht.2.1⟩) ((hF.env _ _).2 ⟨hfn,ht.2.2⟩) hfr.round
        simp only[G,stepG,stepG.exec]
        have hT:=Sem.runT_fst P (Instr.enterLoop fn tmps ps a b roundOf) w #[]
        generalize gx:Sem.runT P (Instr.enterLoop fn tmps ps a b roundOf) w #[]=T at hT⊢
        obtain⟨r,es⟩:=T
        simp only at hT
        subst hT
        refine jq ?_
        cases hrun:(Instr.enterLoop fn tmps ps a b roundOf).run P w with
        | halt e2 w2=>exact lost _ _
        | ok x w2=>
          obtain⟨ρ1,x',w2',hx,hw2,l1⟩:=hent.ok hw hrun
          obtain⟨l,mark⟩:=x
          dsimp only
          have hcs:=ML (F:=F) hw2.inj bo (hf.mono l1) (dU.push (dU.nil ρ1) (.yield hx.1))
          have e0:(do let d ← resolve (Frame.eval {fn:=fn,tmps:=tmps,todo:=.inRangeFunc l :: k,defers:=mark ++ defers,mode:=.run,kind:=.normal,roundOf:=roundOf }) {callee:=.value f,args:=#[.const (.func (.yield l) #[] #[])],argTypes:=#[] } 0;invoke d.target d.args:Sem Next)=oN (Frame.eval {fn:=fn,tmps:=tmps,todo:=.code (.rangeFunc f ps a b) :: k,defers:=defers,mode:=.run,kind:=.normal,roundOf:=roundOf } f) #[.func (.yield l) #[] #[]]:=by
           unfold oN
           cases f <;> simp[resolve,Frame.eval]
          rw[e0]
          cases FE:(oN (Frame.eval {fn:=fn,tmps:=tmps,todo:=.code (.rangeFunc f ps a b) :: k,defers:=defers,mode:=.run,kind:=.normal,roundOf:=roundOf } f) #[.func (.yield l) #[] #[]]).run P w2 with
          | halt e3 w3=>
            obtain⟨ρ2,w3',l2,hw3⟩:=hcs.Lg hw2 FE
            refine lu rfl FE ((hcs.lc hw2).1 e3 w3 FE) ⟨hsf,?_⟩ (Ap (l1.trans l2) hw3)
            exact wJ (((hx.2).mono l2).append (hfr.defers.mono (l1.trans l2))) hw3
          | ok n w3=>
            exfalso
            obtain⟨ρ2,n',w3',hn,_,_⟩:=hcs.ok hw2 FE
            simp only[Sem.run_bind,hrun] at h
            change ((Sem.run P (oN _ _) w2).andThen fun a w'=>Sem.run P (tV P _ L a) w')=_ at h
            rw[FE] at h
            change Sem.run P (tV P _ L n) w3=_ at h
            cases n with
            | enter f args=>simp[tV,Sem.run,pure] at h
            | round l g t a b=>simp[tV,Sem.run,pure] at h
            | _=>exact hn.elim
      | refuse y=>simp only[G,stepG,stepG.exec];exact lost _ _
      | _=>simp only[Pure.pure,Sem.run] at h;cases h
    | inRegion ops l=>
      cases l with
      | nil=>simp only[Pure.pure,Sem.run] at h;cases h
      | cons j l=>
        dsimp only at h
        cases hwn:((ops[j]?).map (Region.wanted · (yielded ops tmps))).getD false with
        | false=>
          rw[hwn] at h
          simp only[Bool.false_eq_true,if_false,Pure.pure,Sem.run] at h
          cases h
        | true=>
          rw[hwn] at h
          simp only[if_true] at h
          cases ho:ops[j]? with
          | none=>rw[ho] at hwn;simp at hwn
          | some o=>
            have hwo:Region.wanted o (yielded ops tmps)=true:=by rw[ho] at hwn;exact hwn
            rw[ho] at h
            dsimp only at h
            have Pq:pO P o:=ht o (Array.mem_of_getElem? ho)
            have hnd:∀c,o.op≠.defer c:=fun c e=>by have:=Pq.2;rw[e] at this;exact this
            have hop:stepG.oper P true {fn:=fn,tmps:=tmps,todo:=.inRegion ops (j :: l) :: k,defers:=defers,mode:=.run,kind:=.normal,roundOf:=roundOf } L none w
             =stepG.apply P true {fn:=fn,tmps:=tmps,todo:=.inRegion ops (j :: l) :: k,defers:=defers,mode:=.run,kind:=.normal,roundOf:=roundOf } L none (execOp (Frame.eval {fn:=fn,tmps:=tmps,todo:=.inRegion ops (j :: l) :: k,defers:=defers,mode:=.run,kind:=.normal,roundOf:=roundOf }) o) w:=by
             simp only[stepG.oper,Frame.oper?,ho]
             split
             ·rename_i e0;exact absurd e0 (hnd _)
             ·rfl
            have hG:stepG P true (G {fn:=fn,tmps:=tmps,todo:=.inRegion ops (j :: l) :: k,defers:=defers,mode:=.run,kind:=.normal,roundOf:=roundOf } L) w
             =stepG.apply P true {fn:=fn,tmps:=tmps,todo:=.inRegion ops (j :: l) :: k,defers:=defers,mode:=.run,kind:=.normal,roundOf:=roundOf } L none (execOp (Frame.eval {fn:=fn,tmps:=tmps,todo:=.inRegion ops (j :: l) :: k,defers:=defers,mode:=.run,kind:=.normal,roundOf:=roundOf }) o) w:=by
             rw[← hop]
             simp only[G,stepG,stepG.exec,ho,hwo,Option.map_some,Option.getD_some,if_true]
            rw[hG]
            cases hpn:ru o.op with
            | true=>
              have hx:∃x,o.op=.panic x:=by cases hq:o.op <;> rw[hq] at hpn <;> first|(cases hpn;done)|exact⟨_,rfl⟩
              obtain⟨x,hx⟩:=hx
              obtain⟨e3,w3,h3,ht3,hold⟩:=Gc (P:=P) (Frame.eval {fn:=fn,tmps:=tmps,todo:=.inRegion ops (j :: l) :: k,defers:=defers,mode:=.run,kind:=.normal,roundOf:=roundOf } x) w
              have hrun:(execOp (Frame.eval {fn:=fn,tmps:=tmps,todo:=.inRegion ops (j :: l) :: k,defers:=defers,mode:=.run,kind:=.normal,roundOf:=roundOf }) o).run P w=.halt e3 w3:=by
               simp only[execOp,hx,Sem.run_bind,h3]
               rfl
              have hwx:WR ρ w3 w':=⟨fun b b' eb=>by
               obtain⟨o,o',h1,h2,h3⟩:=hw.obj b b' eb
               exact⟨o,o',by rw[hold b (hw.lt eb).1];exact h1,h2,h3⟩,hw.inj⟩
              exact lu rfl hrun ht3 (EZ (.refl ρ) hwx) (Ap (.refl ρ) hwx)
            | false=>
              rw[hpn] at h
              simp only[Bool.false_eq_true,if_false] at h
              have hsup:=Tv Pq hpn fun c f hc hf=>hl.op ops j l k o c f rfl rfl ho hc hf
              have hx:=vW (ev':=fr'.eval) hg hi hsup fun x hx=>hev x (Pq.1 x hx)
              cases hrun:(execOp (Frame.eval {fn:=fn,tmps:=tmps,todo:=.inRegion ops (j :: l) :: k,defers:=defers,mode:=.run,kind:=.normal,roundOf:=roundOf }) o).run P w with
              | halt e3 w3=>
                obtain⟨ρ2,w3',l2,hw3⟩:=hx.Lg hw hrun
                exact lu rfl hrun ((hx.lc hw).1 e3 w3 hrun) (EZ l2 hw3) (Ap l2 hw3)
              | ok n w3=>
                exfalso
                obtain⟨ρ2,n',w3',hn,_,_⟩:=hx.ok hw hrun
                simp only[Sem.run_bind,hrun] at h
                change Sem.run P (uf P _ L n) w3=_ at h
                cases n with
                | value v=>simp[uf,Sem.run,pure] at h
                | skip=>simp[uf,Sem.run,pure] at h
                | enter f args=>simp[uf,Sem.run,pure] at h
                | round l g t a b=>simp[uf,Sem.run,pure] at h
                | _=>exact hn.elim
    | inRangeFunc l=>simp only[G,stepG,stepG.exec];exact lost _ _
    | endRangeFunc l=>
      dsimp only at h
      have htd:=hfr.todo
      generalize ht':fr'.todo=td' at htd
      cases htd with
      | cons hii hkk=>
      cases hii with
      | endRangeFunc hlp=>
      have hx:=tN (P:=P) hi hlp
      simp only[G,stepG,stepG.exec]
      have hT:=Sem.runT_fst P (Instr.endLoop l) w #[]
      generalize gx:Sem.runT P (Instr.endLoop l) w #[]=T at hT⊢
      obtain⟨r,es⟩:=T
      simp only at hT
      subst hT
      refine jq ?_
      cases hrun:(Instr.endLoop l).run P w with
      | ok v w2=>exfalso;simp[Sem.run_bind,hrun,Sem.run,pure] at h
      | halt e2 w2=>
        obtain⟨ρ2,w3',l2,hw3⟩:=hx.Lg hw hrun
        cases e2 with
        | panic v=>exact .inr ⟨_,_,_,rfl,⟨.inr (.inr ⟨rfl,rfl,(raise_mode _ _).1,(EZ l2 hw3).raise _,Ap l2 hw3⟩)⟩⟩
        | _=>exact lost _ _
    | beginRound=>
      dsimp only at h
      have hG:stepG P true (G {fn:=fn,tmps:=tmps,todo:=.beginRound :: k,defers:=defers,mode:=.run,kind:=.normal,roundOf:=roundOf } L) w=stepG.apply P true {fn:=fn,tmps:=tmps,todo:=.beginRound :: k,defers:=defers,mode:=.run,kind:=.normal,roundOf:=roundOf } L none (do Option.elim roundOf (stuck gE) Instr.beginRound;pure .skip) w:=by
       simp only[G,stepG,stepG.exec]
       rfl
      rw[hG]
      cases roundOf with
      | none=>exact lu (e:=.stuck gE) (w2:=w) rfl (by simp[Sem.run_bind,stuck,Sem.run]) trivial (EZ (.refl ρ) hw) (Ap (.refl ρ) hw)
      | some l=>
        rcases hfr.round with⟨e1,_⟩|⟨l0,l',e1,e2,hl2⟩
        ·cases e1
        ·cases e1
         have hx:=ny (P:=P) hi hl2
         cases hrun:(Instr.beginRound l).run P w with
         | ok v w2=>exfalso;simp[Sem.run_bind,hrun,Sem.run,pure] at h
         | halt e2 w2=>
           obtain⟨ρ2,w3',l2,hw3⟩:=hx.Lg hw hrun
           refine lu (e:=e2) (w2:=w2) rfl ?_ ((hx.lc hw).1 e2 w2 hrun) (EZ l2 hw3) (Ap l2 hw3)
           simp only[Option.elim,Sem.run_bind,hrun]
           rfl
    | _=>first
      | exact(show False from ht).elim
      | (simp only[Pure.pure,Sem.run] at h;cases h)
 ·obtain⟨f,c,hf,_⟩:=hF.sv _ hfn
  unfold fK at h
  dsimp only at h
  cases dx with
  | cons r dx=>
    simp only[List.map_cons,iZ] at hd
    subst hd
    dsimp only at h
    simp only[G,stepG,unwind]
    have hT:=Sem.runT_fst P (Instr.takeDeferred r) w #[]
    generalize gx:Sem.runT P (Instr.takeDeferred r) w #[]=T at hT⊢
    obtain⟨q,es⟩:=T
    simp only at hT
    subst hT
    refine jq ?_
    cases hrun:(Instr.takeDeferred r).run P w with
    | ok v w2=>exfalso;simp[Sem.run_bind,hrun,Sem.run,pure] at h
    | halt e2 w2=>exact lost _ _
  | nil=>
    simp only[List.map_nil] at hd
    subst hd
    dsimp only at h
    rw[hf] at h
    cases L with
    | nil=>exact absurd ⟨rfl,rfl,rfl⟩ hne
    | cons c0 L=>
      dsimp only at h
      simp only[G,stepG,unwind,hf]
      have hT:=Sem.runT_fst P (results f tmps) w #[]
      generalize gx:Sem.runT P (results f tmps) w #[]=T at hT⊢
      obtain⟨r,es⟩:=T
      simp only at hT
      subst hT
      refine jq ?_
      cases hrun:(results f tmps).run P w with
      | ok v w2=>exfalso;simp[Sem.run_bind,hrun,Sem.run,pure] at h
      | halt e2 w2=>cases e2 <;> exact lost _ _
theorem R8{F:Fence}(hF:gG P F.fn){fr:Frame}{w:World}(h:∀f,fr.about P w=some f→F.fn f)
 (hn:∀f ps a b k,fr.mode=.run→fr.todo=.code (.rangeFunc f ps a b) :: k→∃x w1,(Instr.enterLoop fr.fn fr.tmps ps a b fr.roundOf).run P w=.ok x w1):Ag P F.fn fr:=by
 refine⟨fun ops i l k o c f hm ht ho hc hf g first cap hv=>?_,fun f ps a b k hm ht g first cap hv=>?_⟩
 ·have e:fr.about P w=some g:=by
   unfold Frame.about
   dsimp only
   rw[hm,ht]
   simp only[ho,hc,resolve,hf,hv,Deferred.ofValue,pure,Sem.run,Target.leads]
  obtain⟨fc,c,h1,h2,h3,h4⟩:=hF.sv g (h g e)
  exact⟨fc,c,h g e,h1,h2,h3⟩
 ·have e:fr.about P w=some g:=by
   obtain⟨⟨l,mk⟩,w1,hx⟩:=hn f ps a b k hm ht
   unfold Frame.about
   dsimp only
   rw[hm,ht]
   simp only[hx,resolve,hv,Deferred.ofValue,pure,Sem.run,Target.leads]
  obtain⟨fc,c,h1,h2,h3,h4⟩:=hF.sv g (h g e)
  exact⟨fc,c,h g e,h1,h2,h3⟩
structure Two(P:Program)(F:FuncId→Prop)(ρ:Ren)(s:Frame × List Frame)(w:World)(s':Frame × List Frame)(w':World):Prop where
 st:Yn ρ s s'
 ok:Ez P F s
 wr:WR ρ w w'
theorem live(hg:P.globals.size=0){F:Fence}(hF:gG P F.fn)(hin:∀g,F.fn g→P.inits.idxOf? g=none)(hal:F.alive=true){s s':Frame × List Frame}{w w' v:World}{fr:Frame}(h:Two P F.fn ρ s w s' w')
 (hp:StepsIn (Machine.fenced P F) P (solo (G s.1 s.2) w) (lone fr [] v))(hr:fr.mode=.returning):
 (s=(fr,[])∧w=v)∨(s.1.mode=.returning∧s.2=[]∧s.1.defers=[])∨
  (Ag P F.fn s.1∧∃s2 w2,(fK P s.1 s.2).run P w=.ok s2 w2∧StepsIn (Machine.fenced P F) P (solo (G s2.1 s2.2) w2) (lone fr [] v)):=by
 obtain⟨f0,L⟩:=s
 cases hp with
 | refl=>exact .inl ⟨rfl,rfl⟩
 | head hI hs hp=>
   rename_i m1
   by_cases hne:f0.mode=.returning∧L=[]∧f0.defers=[]
   ·exact .inr (.inl hne)
   refine .inr (.inr ?_)
   have hl:Ag P F.fn f0:=R8 (w:=w) hF (fun f hf=>(hI (G f0 L) (by simp[solo])).2.2.1 f hf) fun f ps a b k hm ht=>by
    cases hx:(Instr.enterLoop f0.fn f0.tmps ps a b f0.roundOf).run P w with
    | ok x w1=>exact⟨x,w1,rfl⟩
    | halt e w1=>
      exfalso
      obtain⟨fn,tmps,todo,defers,mode,kind,roundOf⟩:=f0
      simp only at hm ht hx
      subst hm
      subst ht
      have hT:=Sem.runT_fst P (Instr.enterLoop fn tmps ps a b roundOf) w #[]
      rw[hx] at hT
      have e1:∃o es,stepG P true (G {fn:=fn,tmps:=tmps,todo:=.code (.rangeFunc f ps a b) :: k,defers:=defers,mode:=.run,kind:=kind,roundOf:=roundOf } L) w=.ended o w1 es:=by
       simp only[G,stepG,stepG.exec]
       generalize Sem.runT P (Instr.enterLoop fn tmps ps a b roundOf) w #[]=T at hT⊢
       obtain⟨r,es⟩:=T
       simp only at hT
       subst hT
       exact⟨_,_,rfl⟩
      obtain⟨o,es,e1⟩:=e1
      rw[step,stepT_solo rfl,aU e1] at hs
      cases hs
   refine⟨hl,?_⟩
   cases hrun:(fK P f0 L).run P w with
   | ok s2 w2=>
     refine⟨s2,w2,rfl,?_⟩
     have hT:=Sem.runT_fst P (fK P f0 L) w #[]
     obtain⟨es',hstep,_⟩:=xq (cs:=[]) (main:=true) h.ok.1 (show(fK P f0 L).runT P w #[]=(.ok s2 w2,((fK P f0 L).runT P w #[]).2) by rw[← hrun,← hT])
     simp only[List.append_nil] at hstep
     rw[step,stepT_solo rfl,runT_solo_go hstep] at hs
     cases hs
     exact hp
   | halt e w1=>
     exfalso
     have hb:=Ot hg hF hin (s:=(f0,L)) h.st h.ok h.wr hl hne hrun
     rw[step,stepT_solo rfl] at hs
     rcases hb with⟨o,w2,es,e1⟩|⟨g,w2,es,e1,hd⟩
     ·rw[aU e1] at hs;cases hs
     ·rw[runT_solo_go e1] at hs
      cases hs
      obtain⟨g1,w3,e3,hd3⟩:=Na hal hp rfl hd
      have eg:g1={frame:=fr,callers:=[],status:=.running,dying:=none }:=by
       have:=congrArg Machine.gs e3
       simp only[lone,solo] at this
       exact(Array.singleton_inj.1 this).symm
      subst eg
      rcases hd3.cases with c|c|⟨_,_,⟨chain,c⟩,_⟩
      ·cases c
      ·rcases c with c|c|c <;> cases c
      ·simp only at c;rw[hr] at c;cases c
end
end Go.cu
