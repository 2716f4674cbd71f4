/- Par2 Par3 Par4 -/
import Derived.Test.YthaelabgfnnebaaGreatB5
import Derived.Laws.Sem
set_option maxRecDepth 100000
set_option maxHeartbeats 16000000
set_option linter.unusedVariables false
set_option linter.unusedSectionVars false
namespace Go.cu
section
variable[Inhabited aV]
def Fz(w:World)(b:Nat):Prop:=∃c e f,w.heap[b]? =some (.cells c e f)∧∀o,o<c.size→f.1≤o∧o<f.2
def Qu(O C:Nat→Prop)(e:Event):Prop:=e=⟨.mark .noRoom,false,true⟩∨
 e.sync=false∧((∃a,e.loc=.cell a∧(O a.block∨(e.write=false∧C a.block)))∨(∃r,e.loc=.obj r∧O r))
structure Ran(C O O1:Nat→Prop)(ρ ρ1:Ren)(w w1 w' w1':World)(new:List Event):Prop where
 le:Le ρ ρ1
 wr:WR ρ1 w1 w1'
 tuned:ku w1 w1'
 tape:w1'.tape=w'.tape
 os:w1'.os=w'.os
 output:w1'.output=w'.output
 size:w'.heap.size≤w1'.heap.size
 other:∀b,b<w'.heap.size→¬ O b→w1'.heap[b]? =w'.heap[b]?
 own:∀b,O1 b↔O b∨(w'.heap.size≤b∧b<w1'.heap.size)
 cl:∀b b',ρ1 b=some b'→(Fz w1 b∧C b')∨O1 b'
 evs:∀e∈new,Qu O1 C e
variable{P:Program}
theorem WR.lt{ρ:Ren}{w w':World}(h:WR ρ w w'){b b':Nat}(e:ρ b=some b'):b<w.heap.size∧b'<w'.heap.size:=by
 obtain⟨o,o',h1,h2,_⟩:=h.obj b b' e
 exact⟨(Array.getElem?_eq_some_iff.1 h1).1,(Array.getElem?_eq_some_iff.1 h2).1⟩
theorem q9{ρ:Ren}{w w':World}(h:WR ρ w w'){a a':Addr}(ha:AR ρ a a'){v:Value}(hv:w.cell? a=some v):∃v',w'.cell? a'=some v'∧VR ρ v v':=by
 obtain⟨o,o',h1,h2,ho⟩:=h.obj _ _ ha.1
 cases ho with
 | map k hk=>simp[World.cell?,h1] at hv
 | number l hk=>simp[World.cell?,h1] at hv
 | loop hk=>simp[World.cell?,h1] at hv
 | defs hk=>simp[World.cell?,h1] at hv
 | cells e hc hf=>
   simp only[World.cell?,h1] at hv
   simp only[World.cell?,h2,ha.2.1,ha.2.2]
   split at hv
   ·cases hv
   ·rename_i hs
    simp only[if_neg hs]
    rcases hc.get? a.off with⟨x,_⟩|⟨x,x',e1,e2,e3⟩
    ·rw[x] at hv;cases hv
    ·rw[e1] at hv;cases hv;exact⟨x',e2,e3⟩
theorem JH{ρ:Ren}{w w':World}(h:WR ρ w w'){a a':Addr}(ha:AR ρ a a')(hv:w.frozen? a=false):w'.frozen? a'=false:=by
 obtain⟨o,o',h1,h2,ho⟩:=h.obj _ _ ha.1
 cases ho with
 | map k hk=>simp[World.frozen?,h2]
 | number l hk=>simp[World.frozen?,h2]
 | loop hk=>simp[World.frozen?,h2]
 | defs hk=>simp[World.frozen?,h2]
 | cells e hc hf=>
   rename_i f f'
   obtain⟨lo,hi⟩:=f
   obtain⟨lo',hi'⟩:=f'
   simp only[World.frozen?,h1] at hv
   simp only[World.frozen?,h2,ha.2.1]
   by_cases c:lo'≤a.off∧a.off<hi'
   ·have:=hf a.off c.1 c.2
    simp only at this
    simp[this.1,this.2] at hv
   ·simp only[Bool.and_eq_false_iff,decide_eq_false_iff_not]
    omega
theorem sX{ρ:Ren}{w w':World}(h:WR ρ w w'){a:Addr}{b':Nat}(ha:ρ a.block=some b')(at_:Bool):∃e,w.farLoad P a at_=.error e:=by
 obtain⟨o,o',h1,h2,ho⟩:=h.obj _ _ ha
 cases ho <;> exact⟨_,by simp only[World.farLoad,h1];rfl⟩
theorem fi{ρ:Ren}{w w':World}(h:WR ρ w w'){a:Addr}{b':Nat}(ha:ρ a.block=some b')(v:Value)(at_:Bool):∃e,w.farStore P a v at_=.error e:=by
 obtain⟨o,o',h1,h2,ho⟩:=h.obj _ _ ha
 cases ho <;> exact⟨_,by simp only[World.farStore,h1];rfl⟩
theorem gq(w:World)(a:Addr)(v:Value){b:Nat}(h:b≠a.block):(w.setCell a v).heap[b]? =w.heap[b]?:=by
 simp[World.setCell,Array.getElem?_modify,Ne.symm h]
theorem ni(w:World)(a:Addr)(v:Value){c:Array Value}{e:TypeId}{f:Nat × Nat}(h:w.heap[a.block]? =some (.cells c e f)):
 (w.setCell a v).heap[a.block]? =some (.cells (if a.spot.isSome then c else c.setIfInBounds a.off v) e f):=by
 simp[World.setCell,Array.getElem?_modify,h]
theorem size_setCell(w:World)(a:Addr)(v:Value):(w.setCell a v).heap.size=w.heap.size:=by simp[World.setCell]
theorem WR.setCell{ρ:Ren}{w w':World}(h:WR ρ w w'){a a':Addr}(ha:AR ρ a a'){v v':Value}(hv:VR ρ v v'):WR ρ (w.setCell a v) (w'.setCell a' v'):=by
 refine⟨fun b b' e=>?_,h.inj⟩
 obtain⟨o,o',h1,h2,ho⟩:=h.obj b b' e
 by_cases hb:b=a.block
 ·subst hb
  have hb':b'=a'.block:=by have:=ha.1;rw[e] at this;exact Option.some.inj this
  subst hb'
  cases ho with
  | map k hk=>
    refine⟨_,_,?_,?_,.map k hk⟩
    ·simp[World.setCell,Array.getElem?_modify,h1]
    ·simp[World.setCell,Array.getElem?_modify,h2]
  | number k hk=>
    refine⟨_,_,?_,?_,.number k hk⟩
    ·simp[World.setCell,Array.getElem?_modify,h1]
    ·simp[World.setCell,Array.getElem?_modify,h2]
  | loop hk=>
    refine⟨_,_,?_,?_,.loop hk⟩
    ·simp[World.setCell,Array.getElem?_modify,h1]
    ·simp[World.setCell,Array.getElem?_modify,h2]
  | defs hk=>
    refine⟨_,_,?_,?_,.defs hk⟩
    ·simp[World.setCell,Array.getElem?_modify,h1]
    ·simp[World.setCell,Array.getElem?_modify,h2]
  | cells e1 hc hf=>
    refine⟨_,_,ni w a v h1,ni w' a' v' h2,?_⟩
    rw[ha.2.1,ha.2.2]
    split
    ·exact .cells e1 hc hf
    ·exact .cells e1 (hc.set _ hv) hf
 ·have hb':b'≠a'.block:=fun e2=>hb (h.inj _ _ _ e (by rw[e2];exact ha.1))
  exact⟨o,o',by rw[gq _ _ _ hb];exact h1,by rw[gq _ _ _ hb'];exact h2,ho⟩
theorem Fz.setCell{w:World}{a:Addr}{v:Value}{b:Nat}(h:Fz w b)(ha:∀c e f,w.heap[a.block]? =some (.cells c e f)→¬ (f.1≤a.off∧a.off<f.2)∧a.off<c.size):Fz (w.setCell a v) b:=by
 obtain⟨c,e,f,h1,h2⟩:=h
 by_cases hb:b=a.block
 ·subst hb
  obtain⟨h3,h4⟩:=ha c e f h1
  exact absurd (h2 _ h4) h3
 ·exact⟨c,e,f,by rw[gq _ _ _ hb];exact h1,h2⟩
theorem GQ{ρ:Ren}{C O:Nat→Prop}{w:World}(hc:∀b b',ρ b=some b'→(Fz w b∧C b')∨O b'){a a':Addr}(ha:AR ρ a a'){v:Value}(hv:w.cell? a=some v)(hf:w.frozen? a=false):O a'.block:=by
 rcases hc _ _ ha.1 with⟨⟨c,e,f,h1,h2⟩,_⟩|h
 ·obtain⟨lo,hi⟩:=f
  simp only[World.cell?,h1] at hv
  split at hv
  ·cases hv
  ·have:=h2 a.off (Array.getElem?_eq_some_iff.1 hv).1
   simp only[World.frozen?,h1] at hf
   simp only at this
   simp[this.1,this.2] at hf
 ·exact h
theorem ku.draw{w w':World}(h:ku w w'):ku {w with drawn:=w.drawn+1 } {w' with drawn:=w'.drawn+1 }:=by
 intro k q
 have:=h (1+k) q
 simpa only[Nat.add_assoc] using this
def Ren.put(ρ:Ren)(b b':Nat):Ren:=fun x=>if x=b then some b' else ρ x
theorem WR.new{ρ:Ren}{w w':World}(h:WR ρ w w'){o o':Obj}(ho:OR ρ o o'):Le ρ (Ren.put ρ w.heap.size w'.heap.size)∧WR (Ren.put ρ w.heap.size w'.heap.size) {w with heap:=w.heap.push o } {w' with heap:=w'.heap.push o' }:=by
 have le:Le ρ (Ren.put ρ w.heap.size w'.heap.size):=fun b b' e=>by
  have:=(h.lt e).1
  simp only[Ren.put]
  rw[if_neg zo];exact e
 refine⟨le,⟨fun b b' e=>?_,fun a b c ea eb=>?_⟩⟩
 ·simp only[Ren.put] at e
  split at e
  ·rename_i hb
   subst hb;cases e
   exact⟨o,o',zs,zs,ho.mono le⟩
  ·obtain⟨x,x',h1,h2,h3⟩:=h.obj b b' e
   have l1:=(h.lt e).1
   have l2:=(h.lt e).2
   exact⟨x,x',by simp only[Array.getElem?_push_lt l1];rw[← h1,Array.getElem?_eq_getElem l1],by simp only[Array.getElem?_push_lt l2];rw[← h2,Array.getElem?_eq_getElem l2],h3.mono le⟩
 ·simp only[Ren.put] at ea eb
  split at ea <;> split at eb
  ·omega
  ·cases ea;have:=(h.lt eb).2;omega
  ·cases eb;have:=(h.lt ea).2;omega
  ·exact h.inj _ _ _ ea eb
theorem Fz.push{w:World}{o:Obj}{b:Nat}(h:Fz w b):Fz {w with heap:=w.heap.push o } b:=by
 obtain⟨c,e,f,h1,h2⟩:=h
 have l:=(Array.getElem?_eq_some_iff.1 h1).1
 exact⟨c,e,f,by simp only[Array.getElem?_push_lt l];rw[← h1,Array.getElem?_eq_getElem l],h2⟩
theorem OX{ρ:Ren}{w w':World}(h:WR ρ w w'){r r':Nat}(e:ρ r=some r'):w'.shape? r'=w.shape? r:=by
 obtain⟨o,o',h1,h2,ho⟩:=h.obj _ _ e
 cases ho with
 | map k hk=>simp[World.shape?,h1,h2]
 | number k hk=>simp[World.shape?,h1,h2]
 | loop hk=>simp[World.shape?,h1,h2]
 | defs hk=>simp[World.shape?,h1,h2]
 | cells e hc hf=>simp[World.shape?,h1,h2,hc.1]
theorem WR.setObj{ρ:Ren}{w w':World}(h:WR ρ w w'){r r':Nat}(e:ρ r=some r'){o o':Obj}(ho:OR ρ o o'):WR ρ {w with heap:=w.heap.setIfInBounds r o } {w' with heap:=w'.heap.setIfInBounds r' o' }:=by
 refine⟨fun b b' eb=>?_,h.inj⟩
 by_cases hb:b=r
 ·subst hb
  have hb':b'=r':=by rw[e] at eb;exact(Option.some.inj eb).symm
  subst hb'
  obtain⟨l1,l2⟩:=h.lt e
  exact⟨o,o',by simp[l1],by simp[l2],ho⟩
 ·have hb':b'≠r':=fun e2=>hb (h.inj _ _ _ eb (by rw[e2];exact e))
  obtain⟨x,x',h1,h2,h3⟩:=h.obj b b' eb
  exact⟨x,x',by simp only[Array.getElem?_setIfInBounds_ne (Ne.symm hb)];exact h1,by simp only[Array.getElem?_setIfInBounds_ne (Ne.symm hb')];exact h2,h3⟩
theorem Xl{ρ:Ren}{v v':Value}(h:VR ρ v v')(h1:∀c,v≠.agg c)(h2:∀c,v≠.tuple c):(∀c,v'≠.agg c)∧(∀c,v'≠.tuple c):=by
 cases h <;> first|exact absurd rfl (h1 _)|exact absurd rfl (h2 _)|exact⟨zs,zs⟩
theorem run_store{α:Type}{m:Mode}{a:Addr}{v:Value}{k:Sem α}{w:World}(h1:∀c,v≠.agg c)(h2:∀c,v≠.tuple c):(Sem.store m a v k).run P w=match w.cell? a with
 | some _=>if w.frozen? a then .halt (.unsupported (.unsafePointer "a write to bytes that a string shares")) w else k.run P (w.setCell a v)
 | none=>match w.farStore P a v (m == .atomic) with
   | .ok (w,_)=>k.run P w
   | .error h=>.halt h w:=by
 cases v <;> first|rfl|exact absurd rfl (h1 _)|exact absurd rfl (h2 _)
theorem Kz{α:Type}{m:Mode}{a:Addr}{v:Value}{k:Sem α}{w:World}{es:Array Event}(h1:∀c,v≠.agg c)(h2:∀c,v≠.tuple c){x:Value}(hx:w.cell? a=some x)(hf:w.frozen? a=false):
 (Sem.store m a v k).runT P w es=k.runT P (w.setCell a v) (es.push ⟨.cell a,true,m == .atomic⟩):=by
 have e:(Sem.store m a v k).runT P w es=match w.cell? a with
  | some _=>
    if w.frozen? a then(.halt (.unsupported (.unsafePointer "a write to bytes that a string shares")) w,es)
    else k.runT P (w.setCell a v) (es.push ⟨.cell a,true,m == .atomic⟩)
  | none=>match w.farStore P a v (m == .atomic) with
    | .ok (w,touched)=>k.runT P w (es ++ touched.toArray.map (⟨.cell ·,true,m == .atomic⟩))
    | .error h=>(.halt h w,es):=by
  cases v <;> first|rfl|exact absurd rfl (h1 _)|exact absurd rfl (h2 _)
 rw[e,hx]
 simp[hf]
theorem Ran.trans{C O O1 O2:Nat→Prop}{ρ ρ1 ρ2:Ren}{w w1 w2 v v1 v2:World}{n m:List Event}(h:Ran C O O1 ρ ρ1 w w1 v v1 n)(k:Ran C O1 O2 ρ1 ρ2 w1 w2 v1 v2 m):Ran C O O2 ρ ρ2 w w2 v v2 (n ++ m):=by
 refine⟨h.le.trans k.le,k.wr,k.tuned,k.tape.trans h.tape,k.os.trans h.os,k.output.trans h.output,Nat.le_trans h.size k.size,fun b hb ho=>?_,fun b=>?_,k.cl,fun e he=>?_⟩
 ·rw[k.other b (Nat.lt_of_lt_of_le hb h.size) (fun o1=>by rcases(h.own b).1 o1 with o|⟨o,_⟩;exact ho o;omega)]
  exact h.other b hb ho
 ·rw[k.own,h.own]
  have:=h.size
  have:=k.size
  constructor
  ·rintro((a|⟨a,b⟩)|⟨a,b⟩)
   ·exact .inl a
   ·exact .inr ⟨a,zo⟩
   ·exact .inr ⟨zo,b⟩
  ·rintro(a|⟨a,b⟩)
   ·exact .inl (.inl a)
   ·rcases Nat.lt_or_ge ‹Nat› v1.heap.size with c|c
    ·exact .inl (.inr ⟨a,c⟩)
    ·exact .inr ⟨c,b⟩
 ·rcases List.mem_append.1 he with he|he
  ·rcases h.evs e he with e0|⟨s,q⟩
   ·exact .inl e0
   refine .inr ⟨s,?_⟩
   rcases q with⟨a,ea,q|q⟩|⟨r,er,q⟩
   ·exact .inl ⟨a,ea,.inl ((k.own _).2 (.inl q))⟩
   ·exact .inl ⟨a,ea,.inr q⟩
   ·exact .inr ⟨r,er,(k.own _).2 (.inl q)⟩
  ·exact k.evs e he
theorem Ran.still{C O:Nat→Prop}{ρ:Ren}{w w1 v v1:World}{n:List Event}(wr:WR ρ w1 v1)(tu:ku w1 v1)(tape:v1.tape=v.tape)(os:v1.os=v.os)(out:v1.output=v.output)(size:v1.heap.size=v.heap.size)
 (other:∀b,b<v.heap.size→¬ O b→v1.heap[b]? =v.heap[b]?)(cl:∀b b',ρ b=some b'→(Fz w1 b∧C b')∨O b')(evs:∀e∈n,Qu O C e):Ran C O O ρ ρ w w1 v v1 n:=
 ⟨.refl ρ,wr,tu,tape,os,out,zo,other,fun b=>⟨.inl,fun h=>h.elim id fun⟨a,b⟩=>zo⟩,cl,evs⟩
theorem Dead.run{α:Type}{s:Sem α}(h:Dead s):∀w:World,(∀a w1,s.run P w≠.ok a w1)∧∀e w1,s.run P w=.halt e w1→sK e:=by
 induction s with
 | shape r k ih=>intro w;exact ih _ (h _) w
 | frozen r k ih=>intro w;exact ih _ (h _) w
 | choose q k ih=>
   intro w
   simp only[Sem.run]
   split
   ·exact ih _ (h _) _
   ·exact ih _ (h _) _
 | mark m k ih=>intro w;exact ih h w
 | halt e=>intro w;exact⟨fun a w1 e=>by simp[Sem.run] at e,fun e' w1 e2=>by simp only[Sem.run,Result.halt.injEq] at e2;rw[← e2.1];exact h⟩
 | _=>exact h.elim
theorem SR.runT{α β:Type}{Q:Ren→α→β→Prop}{C:Nat→Prop}{s:Sem α}:∀ {ρ:Ren} {s':Sem β} {w w':World} {O:Nat→Prop} {es:Array Event},SR P Q ρ s s'→WR ρ w w'→ku w w'→
 (∀b b',ρ b=some b'→(Fz w b∧C b')∨O b')→∀ {a:α} {w1:World},s.run P w=.ok a w1→
 ∃ρ1 b w1' O1 new,s'.runT P w' es=(.ok b w1',es ++ new.toArray)∧Q ρ1 a b∧Ran C O O1 ρ ρ1 w w1 w' w1' new:=by
 induction s with
 | pure a=>
   rintro ρ s' w w' O es ⟨b,rfl,hq⟩ hw ht hc a' w1 hr
   simp only[Sem.run,Result.ok.injEq] at hr
   obtain⟨rfl,rfl⟩:=hr
   exact⟨ρ,b,w',O,[],by simp[Sem.runT],hq,.still hw ht rfl rfl rfl rfl (fun _ _ _=>rfl) hc zs⟩
 | load m a k ih=>
   rintro ρ s' w w' O es ⟨a',k',rfl,rfl,ha,hk⟩ hw ht hc x w1 hr
   cases hv:w.cell? a with
   | none=>
     obtain⟨e,he⟩:=sX (P:=P) hw ha.1 (a:=a) (Mode.plain == Mode.atomic)
     simp only[Sem.run,hv,he] at hr
     cases hr
   | some v=>
     obtain⟨v',hv',rm⟩:=q9 hw ha hv
     simp only[Sem.run,hv] at hr
     obtain⟨ρ1,b,w1',O1,new,h1,h2,h3⟩:=ih v (es:=es.push ⟨.cell a',false,false⟩) (hk ρ (.refl hw.inj) v v' rm) hw ht hc hr
     refine⟨ρ1,b,w1',O1,⟨.cell a',false,false⟩ :: new,?_,h2,?_⟩
     ·simp only[Sem.runT,hv']
      have:(Mode.plain == Mode.atomic)=false:=rfl
      rw[this,h1];simp
     ·refine Ran.trans (n:=[⟨.cell a',false,false⟩]) (.still hw ht rfl rfl rfl rfl (fun _ _ _=>rfl) hc ?_) h3
      intro e he
      simp only[List.mem_singleton] at he
      subst he
      refine .inr ⟨rfl,.inl ⟨a',rfl,?_⟩⟩
      rcases hc _ _ ha.1 with h|h
      ·exact .inr ⟨rfl,h.2⟩
      ·exact .inl h
 | store m a v k ih=>
   rintro ρ s' w w' O es ⟨a',v',k',rfl,rfl,ha,hv,hk⟩ hw ht hc x w1 hr
   by_cases h1:∀c,v≠.agg c
   ·by_cases h2:∀c,v≠.tuple c
    ·obtain⟨h1',h2'⟩:=Xl hv h1 h2
     rw[run_store h1 h2] at hr
     cases hx:w.cell? a with
     | none=>
       obtain⟨e,he⟩:=fi (P:=P) hw ha.1 (a:=a) v (Mode.plain == Mode.atomic)
       simp only[hx,he] at hr
       cases hr
     | some x0=>
       simp only[hx] at hr
       cases hf:w.frozen? a with
       | true=>simp only[hf,if_true] at hr;cases hr
       | false=>
         simp only[hf,Bool.false_eq_true,if_false] at hr
         obtain⟨x0',hx',_⟩:=q9 hw ha hx
         have hf':=JH hw ha hf
         have hO:=GQ hc ha hx hf
         have hc2:∀b b',ρ b=some b'→(Fz (w.setCell a v) b∧C b')∨O b':=fun b b' e=>by
          rcases hc b b' e with⟨h,hC⟩|h
          ·refine .inl ⟨h.setCell fun c e f hh=>?_,hC⟩
           simp only[World.cell?,hh] at hx
           simp only[World.frozen?,hh] at hf
           split at hx
           ·cases hx
           ·refine⟨fun⟨p,q⟩=>?_,(Array.getElem?_eq_some_iff.1 hx).1⟩
            simp[p,q] at hf
          ·exact .inr h
         have ht2:ku (w.setCell a v) (w'.setCell a' v'):=ht
         obtain⟨ρ1,b,w1',O1,new,r1,r2,r3⟩:=ih (es:=es.push ⟨.cell a',true,false⟩) hk (hw.setCell ha hv) ht2 hc2 hr
         refine⟨ρ1,b,w1',O1,⟨.cell a',true,false⟩ :: new,?_,r2,?_⟩
         ·rw[Kz h1' h2' hx' hf']
          have:(Mode.plain == Mode.atomic)=false:=rfl
          rw[this,r1];simp
         ·refine Ran.trans (n:=[⟨.cell a',true,false⟩]) (.still (hw.setCell ha hv) ht2 rfl rfl rfl (size_setCell _ _ _) (fun b _ ho=>gq _ _ _ (fun e=>ho (e ▸ hO))) hc2 ?_) r3
          intro e he
          simp only[List.mem_singleton] at he
          subst he
          exact .inr ⟨rfl,.inl ⟨a',rfl,.inl hO⟩⟩
    ·simp only[ne_eq,Classical.not_forall,Classical.not_not] at h2
     obtain⟨c,rfl⟩:=h2
     simp only[Sem.run] at hr
     cases hr
   ·simp only[ne_eq,Classical.not_forall,Classical.not_not] at h1
    obtain⟨c,rfl⟩:=h1
    simp only[Sem.run] at hr
    cases hr
 | new o k ih=>
   rintro ρ s' w w' O es ⟨o',k',rfl,ho,hk⟩ hw ht hc x w1 hr
   simp only[Sem.run] at hr
   obtain⟨le,hw2⟩:=hw.new ho
   have hc2:∀b b',Ren.put ρ w.heap.size w'.heap.size b=some b'→(Fz {w with heap:=w.heap.push o } b∧C b')∨(O b'∨b'=w'.heap.size):=fun b b' e=>by
    simp only[Ren.put] at e
    split at e
    ·cases e;exact .inr (.inr rfl)
    ·rcases hc b b' e with⟨h,hC⟩|h
     ·exact .inl ⟨h.push,hC⟩
     ·exact .inr (.inl h)
   have ht2:ku {w with heap:=w.heap.push o } {w' with heap:=w'.heap.push o' }:=ht
   obtain⟨ρ1,b,w1',O1,new,r1,r2,r3⟩:=ih w.heap.size (es:=es) (hk _ ⟨le,hw2.inj⟩ w.heap.size w'.heap.size (by simp[Ren.put])) hw2 ht2 hc2 hr
   refine⟨ρ1,b,w1',O1,new,?_,r2,?_⟩
   ·simp only[Sem.runT];exact r1
   ·have h0:Ran C O (fun b=>O b∨b=w'.heap.size) ρ (Ren.put ρ w.heap.size w'.heap.size) w {w with heap:=w.heap.push o } w' {w' with heap:=w'.heap.push o' } []:=by
     refine⟨le,hw2,ht2,rfl,rfl,rfl,zs,fun b hb _=>by simp only[Array.getElem?_push_lt hb];rw[Array.getElem?_eq_getElem hb],fun b=>?_,hc2,zs⟩
     simp only[Array.size_push]
     constructor
     ·rintro(h|h)
      ·exact .inl h
      ·exact .inr zo
     ·rintro(h|h)
      ·exact .inl h
      ·exact .inr zo
    have:=h0.trans r3
    simpa using this
 | shape r k ih=>
   rintro ρ s' w w' O es ⟨r',k',rfl,e,hk⟩ hw ht hc x w1 hr
   simp only[Sem.run] at hr
   obtain⟨ρ1,b,w1',O1,new,h1,h2,h3⟩:=ih (w.shape? r) (es:=es) (hk _) hw ht hc hr
   exact⟨ρ1,b,w1',O1,new,by simp only[Sem.runT,OX hw e];exact h1,h2,h3⟩
 | getObj r k ih=>
   rintro ρ s' w w' O es ⟨r',k',rfl,e,hk⟩ hw ht hc x w1 hr
   obtain⟨o,o',h1,h2,ho⟩:=hw.obj _ _ e
   cases ho with
   | cells e1 hc1 hf1=>simp only[Sem.run,h1] at hr;cases hr
   | map c hm=>
     simp only[Sem.run,h1] at hr
     obtain⟨ρ1,b,w1',O1,new,r1,r2,r3⟩:=ih _ (es:=es.push ⟨.obj r',false,false⟩) (hk ρ (.refl hw.inj) _ _ (.map c hm)) hw ht hc hr
     refine⟨ρ1,b,w1',O1,⟨.obj r',false,false⟩ :: new,?_,r2,?_⟩
     ·simp only[Sem.runT,h2]
      show(k' _).runT P w' (es.push ⟨.obj r',false,false⟩)=_
      rw[r1];simp
     ·refine Ran.trans (n:=[⟨.obj r',false,false⟩]) (.still hw ht rfl rfl rfl rfl (fun _ _ _=>rfl) hc ?_) r3
      intro e' he
      simp only[List.mem_singleton] at he
      subst he
      refine .inr ⟨rfl,.inr ⟨r',rfl,?_⟩⟩
      rcases hc _ _ e with⟨⟨c,e2,f,h3,_⟩,_⟩|h
      ·rw[h1] at h3;cases h3
      ·exact h
   | number c hm=>
     simp only[Sem.run,h1] at hr
     obtain⟨ρ1,b,w1',O1,new,r1,r2,r3⟩:=ih _ (es:=es.push ⟨.obj r',false,false⟩) (hk ρ (.refl hw.inj) _ _ (.number c hm)) hw ht hc hr
     refine⟨ρ1,b,w1',O1,⟨.obj r',false,false⟩ :: new,?_,r2,?_⟩
     ·simp only[Sem.runT,h2]
      show(k' _).runT P w' (es.push ⟨.obj r',false,false⟩)=_
      rw[r1];simp
     ·refine Ran.trans (n:=[⟨.obj r',false,false⟩]) (.still hw ht rfl rfl rfl rfl (fun _ _ _=>rfl) hc ?_) r3
      intro e' he
      simp only[List.mem_singleton] at he
      subst he
      refine .inr ⟨rfl,.inr ⟨r',rfl,?_⟩⟩
      rcases hc _ _ e with⟨⟨c,e2,f,h3,_⟩,_⟩|h
      ·rw[h1] at h3;cases h3
      ·exact h
   | loop hm=>
     simp only[Sem.run,h1] at hr
     obtain⟨ρ1,b,w1',O1,new,r1,r2,r3⟩:=ih _ (es:=es.push ⟨.obj r',false,false⟩) (hk ρ (.refl hw.inj) _ _ (.loop hm)) hw ht hc hr
     refine⟨ρ1,b,w1',O1,⟨.obj r',false,false⟩ :: new,?_,r2,?_⟩
     ·simp only[Sem.runT,h2]
      show(k' _).runT P w' (es.push ⟨.obj r',false,false⟩)=_
      rw[r1];simp
     ·refine Ran.trans (n:=[⟨.obj r',false,false⟩]) (.still hw ht rfl rfl rfl rfl (fun _ _ _=>rfl) hc ?_) r3
      intro e' he
      simp only[List.mem_singleton] at he
      subst he
      refine .inr ⟨rfl,.inr ⟨r',rfl,?_⟩⟩
      rcases hc _ _ e with⟨⟨c,e2,f,h3,_⟩,_⟩|h
      ·rw[h1] at h3;cases h3
      ·exact h
   | defs hm=>
     simp only[Sem.run,h1] at hr
     obtain⟨ρ1,b,w1',O1,new,r1,r2,r3⟩:=ih _ (es:=es.push ⟨.obj r',false,false⟩) (hk ρ (.refl hw.inj) _ _ (.defs hm)) hw ht hc hr
     refine⟨ρ1,b,w1',O1,⟨.obj r',false,false⟩ :: new,?_,r2,?_⟩
     ·simp only[Sem.runT,h2]
      show(k' _).runT P w' (es.push ⟨.obj r',false,false⟩)=_
      rw[r1];simp
     ·refine Ran.trans (n:=[⟨.obj r',false,false⟩]) (.still hw ht rfl rfl rfl rfl (fun _ _ _=>rfl) hc ?_) r3
      intro e' he
      simp only[List.mem_singleton] at he
      subst he
      refine .inr ⟨rfl,.inr ⟨r',rfl,?_⟩⟩
      rcases hc _ _ e with⟨⟨c,e2,f,h3,_⟩,_⟩|h
      ·rw[h1] at h3;cases h3
      ·exact h
 | setObj r o k ih=>
   rintro ρ s' w w' O es ⟨r',o',k',rfl,e,ho,hk⟩ hw ht hc x w1 hr
   obtain⟨p,p',h1,h2,hp⟩:=hw.obj _ _ e
   cases hp with
   | cells e1 hc1 hf1=>simp only[Sem.run,h1] at hr;cases hr
   | map c hm=>
     simp only[Sem.run,h1] at hr
     have hO:O r':=by
      rcases hc _ _ e with⟨⟨c,e2,f,h3,_⟩,_⟩|h
      ·rw[h1] at h3;cases h3
      ·exact h
     have hw2:=hw.setObj e ho
     have hc2:∀b b',ρ b=some b'→(Fz {w with heap:=w.heap.setIfInBounds r o } b∧C b')∨O b':=fun b b' eb=>by
      rcases hc b b' eb with⟨⟨c,e2,f,h3,h4⟩,hC⟩|h
      ·refine .inl ⟨⟨c,e2,f,?_,h4⟩,hC⟩
       have:r≠b:=fun er=>by subst er;rw[h1] at h3;cases h3
       simp only[Array.getElem?_setIfInBounds_ne this];exact h3
      ·exact .inr h
     have ht2:ku {w with heap:=w.heap.setIfInBounds r o } {w' with heap:=w'.heap.setIfInBounds r' o' }:=ht
     obtain⟨ρ1,b,w1',O1,new,r1,r2,r3⟩:=ih (es:=es.push ⟨.obj r',true,o'.isChan⟩) hk hw2 ht2 hc2 hr
     have hch:o'.isChan=false:=by cases ho <;> rfl
     refine⟨ρ1,b,w1',O1,⟨.obj r',true,false⟩ :: new,?_,r2,?_⟩
     ·simp only[Sem.runT,h2]
      rw[r1,hch];simp
     ·refine Ran.trans (n:=[⟨.obj r',true,false⟩]) (.still hw2 ht2 rfl rfl rfl zs (fun b _ hb=>?_) hc2 ?_) r3
      ·have:r'≠b:=fun er=>hb (er ▸ hO)
       simp only[Array.getElem?_setIfInBounds_ne this]
      ·intro e' he
       simp only[List.mem_singleton] at he
       subst he
       exact .inr ⟨rfl,.inr ⟨r',rfl,hO⟩⟩
   | number c hm=>
     simp only[Sem.run,h1] at hr
     have hO:O r':=by
      rcases hc _ _ e with⟨⟨c,e2,f,h3,_⟩,_⟩|h
      ·rw[h1] at h3;cases h3
      ·exact h
     have hw2:=hw.setObj e ho
     have hc2:∀b b',ρ b=some b'→(Fz {w with heap:=w.heap.setIfInBounds r o } b∧C b')∨O b':=fun b b' eb=>by
      rcases hc b b' eb with⟨⟨c,e2,f,h3,h4⟩,hC⟩|h
      ·refine .inl ⟨⟨c,e2,f,?_,h4⟩,hC⟩
       have:r≠b:=fun er=>by subst er;rw[h1] at h3;cases h3
       simp only[Array.getElem?_setIfInBounds_ne this];exact h3
      ·exact .inr h
     have ht2:ku {w with heap:=w.heap.setIfInBounds r o } {w' with heap:=w'.heap.setIfInBounds r' o' }:=ht
     obtain⟨ρ1,b,w1',O1,new,r1,r2,r3⟩:=ih (es:=es.push ⟨.obj r',true,o'.isChan⟩) hk hw2 ht2 hc2 hr
     have hch:o'.isChan=false:=by cases ho <;> rfl
     refine⟨ρ1,b,w1',O1,⟨.obj r',true,false⟩ :: new,?_,r2,?_⟩
     ·simp only[Sem.runT,h2]
      rw[r1,hch];simp
     ·refine Ran.trans (n:=[⟨.obj r',true,false⟩]) (.still hw2 ht2 rfl rfl rfl zs (fun b _ hb=>?_) hc2 ?_) r3
      ·have:r'≠b:=fun er=>hb (er ▸ hO)
       simp only[Array.getElem?_setIfInBounds_ne this]
      ·intro e' he
       simp only[List.mem_singleton] at he
       subst he
       exact .inr ⟨rfl,.inr ⟨r',rfl,hO⟩⟩
   | loop hm=>
     simp only[Sem.run,h1] at hr
     have hO:O r':=by
      rcases hc _ _ e with⟨⟨c,e2,f,h3,_⟩,_⟩|h
      ·rw[h1] at h3;cases h3
      ·exact h
     have hw2:=hw.setObj e ho
     have hc2:∀b b',ρ b=some b'→(Fz {w with heap:=w.heap.setIfInBounds r o } b∧C b')∨O b':=fun b b' eb=>by
      rcases hc b b' eb with⟨⟨c,e2,f,h3,h4⟩,hC⟩|h
      ·refine .inl ⟨⟨c,e2,f,?_,h4⟩,hC⟩
       have:r≠b:=fun er=>by subst er;rw[h1] at h3;cases h3
       simp only[Array.getElem?_setIfInBounds_ne this];exact h3
      ·exact .inr h
     have ht2:ku {w with heap:=w.heap.setIfInBounds r o } {w' with heap:=w'.heap.setIfInBounds r' o' }:=ht
     obtain⟨ρ1,b,w1',O1,new,r1,r2,r3⟩:=ih (es:=es.push ⟨.obj r',true,o'.isChan⟩) hk hw2 ht2 hc2 hr
     have hch:o'.isChan=false:=by cases ho <;> rfl
     refine⟨ρ1,b,w1',O1,⟨.obj r',true,false⟩ :: new,?_,r2,?_⟩
     ·simp only[Sem.runT,h2]
      rw[r1,hch];simp
     ·refine Ran.trans (n:=[⟨.obj r',true,false⟩]) (.still hw2 ht2 rfl rfl rfl zs (fun b _ hb=>?_) hc2 ?_) r3
      ·have:r'≠b:=fun er=>hb (er ▸ hO)
       simp only[Array.getElem?_setIfInBounds_ne this]
      ·intro e' he
       simp only[List.mem_singleton] at he
       subst he
       exact .inr ⟨rfl,.inr ⟨r',rfl,hO⟩⟩
   | defs hm=>
     simp only[Sem.run,h1] at hr
     have hO:O r':=by
      rcases hc _ _ e with⟨⟨c,e2,f,h3,_⟩,_⟩|h
      ·rw[h1] at h3;cases h3
      ·exact h
     have hw2:=hw.setObj e ho
     have hc2:∀b b',ρ b=some b'→(Fz {w with heap:=w.heap.setIfInBounds r o } b∧C b')∨O b':=fun b b' eb=>by
      rcases hc b b' eb with⟨⟨c,e2,f,h3,h4⟩,hC⟩|h
      ·refine .inl ⟨⟨c,e2,f,?_,h4⟩,hC⟩
       have:r≠b:=fun er=>by subst er;rw[h1] at h3;cases h3
       simp only[Array.getElem?_setIfInBounds_ne this];exact h3
      ·exact .inr h
     have ht2:ku {w with heap:=w.heap.setIfInBounds r o } {w' with heap:=w'.heap.setIfInBounds r' o' }:=ht
     obtain⟨ρ1,b,w1',O1,new,r1,r2,r3⟩:=ih (es:=es.push ⟨.obj r',true,o'.isChan⟩) hk hw2 ht2 hc2 hr
     have hch:o'.isChan=false:=by cases ho <;> rfl
     refine⟨ρ1,b,w1',O1,⟨.obj r',true,false⟩ :: new,?_,r2,?_⟩
     ·simp only[Sem.runT,h2]
      rw[r1,hch];simp
     ·refine Ran.trans (n:=[⟨.obj r',true,false⟩]) (.still hw2 ht2 rfl rfl rfl zs (fun b _ hb=>?_) hc2 ?_) r3
      ·have:r'≠b:=fun er=>hb (er ▸ hO)
       simp only[Array.getElem?_setIfInBounds_ne this]
      ·intro e' he
       simp only[List.mem_singleton] at he
       subst he
       exact .inr ⟨rfl,.inr ⟨r',rfl,hO⟩⟩
 | choose q k ih=>
   rintro ρ s' w w' O es ⟨k',rfl,hk⟩ hw ht hc x w1 hr
   simp only[Sem.run] at hr
   by_cases hf:q.forced=true
   ·rw[if_pos hf] at hr
    obtain⟨ρ1,b,w1',O1,new,h1,h2,h3⟩:=ih 0 (es:=es) (hk _) hw ht hc hr
    exact⟨ρ1,b,w1',O1,new,by simp only[Sem.runT,if_pos hf];exact h1,h2,h3⟩
   ·rw[if_neg hf] at hr
    have hq:w'.tape w'.drawn q=w.tape w.drawn q:=(ht 0 q).symm
    have hw2:WR ρ {w with drawn:=w.drawn+1 } {w' with drawn:=w'.drawn+1 }:=⟨hw.obj,hw.inj⟩
    have hc2:∀b b',ρ b=some b'→(Fz {w with drawn:=w.drawn+1 } b∧C b')∨O b':=hc
    obtain⟨ρ1,b,w1',O1,new,h1,h2,h3⟩:=ih _ (es:=es) (hk (q.cut (w.tape w.drawn q))) hw2 ht.draw hc2 hr
    refine⟨ρ1,b,w1',O1,new,by simp only[Sem.runT,if_neg hf,hq];exact h1,h2,?_⟩
    have:=Ran.trans (n:=[]) (O:=O) (w:=w) (v:=w') (.still hw2 ht.draw rfl rfl rfl rfl (fun _ _ _=>rfl) hc2 zs) h3
    simpa using this
 | program k ih=>
   rintro ρ s' w w' O es ⟨k',rfl,hk⟩ hw ht hc x w1 hr
   simp only[Sem.run] at hr
   obtain⟨ρ1,b,w1',O1,new,h1,h2,h3⟩:=ih P (es:=es) hk hw ht hc hr
   exact⟨ρ1,b,w1',O1,new,by simp only[Sem.runT];exact h1,h2,h3⟩
 | halt h=>intro ρ s' w w' O es _ _ _ _ a w1 hr;simp only[Sem.run] at hr;cases hr
 | freeze a n k ih=>intro ρ s' w w' O es h;exact h.elim
 | frozen a k ih=>intro ρ s' w w' O es h _ _ _ a1 w1 hr;simp only[Sem.run] at hr;exact((h _).run (P:=P) w).1 _ _ hr |>.elim
 | sys c k ih=>intro ρ s' w w' O es h;exact h.elim
 | mark m k ih=>
   rintro ρ s' w w' O es ⟨k',rfl,rfl,hk⟩ hw ht hc x w1 hr
   simp only[Sem.run] at hr
   obtain⟨ρ1,b,w1',O1,new,h1,h2,h3⟩:=ih (es:=es.push ⟨.mark .noRoom,false,true⟩) hk hw ht hc hr
   refine⟨ρ1,b,w1',O1,⟨.mark .noRoom,false,true⟩ :: new,by simp only[Sem.runT];rw[h1];simp,h2,?_⟩
   exact Ran.trans (n:=[⟨.mark .noRoom,false,true⟩]) (.still hw ht rfl rfl rfl rfl (fun _ _ _=>rfl) hc fun e he=>.inl (List.mem_singleton.1 he)) h3
end
section
variable[Inhabited aV]
variable{P:Program}{ρ:Ren}
def lZ{α:Type}:Ren→α→α→Prop:=fun _ a b=>a=b
theorem Xj{α:Type}:nh (lZ (α:=α)):=fun _ _ _ _ _ h=>h
theorem H6{α β:Type}{Q:Ren→α→β→Prop}(why:String)(s':Sem β):SR P Q ρ (stuck why) s':=trivial
theorem xU{α β:Type}{Q:Ren→α→β→Prop}(u:Unsupported)(s':Sem β)(hu:sK (.unsupported u):=by trivial):SR P Q ρ (unsupported u) s':=hu
theorem iH:SR P (fun ρ' a b=>a=P∧b=P) ρ program program:=⟨_,rfl,_,rfl,rfl,rfl⟩
theorem aL(t:TypeId):SR P lZ ρ (underlying t) (underlying t):=by
 refine⟨_,rfl,?_⟩
 show SR P lZ ρ (match P.underlying t with|some d=>pure d|none=>stuck "no such type") (match P.underlying t with|some d=>pure d|none=>stuck "no such type")
 cases P.underlying t with
 | none=>exact H6 _ _
 | some d=>exact SR.pure rfl
theorem fZ(t:TypeId):SR P lZ ρ (typeInfo t) (typeInfo t):=by
 refine⟨_,rfl,?_⟩
 show SR P lZ ρ (match P.info? t with|some d=>pure d|none=>stuck "no such type") (match P.info? t with|some d=>pure d|none=>stuck "no such type")
 cases P.info? t with
 | none=>exact H6 _ _
 | some d=>exact SR.pure rfl
theorem aX(hi:dL ρ)(t:TypeId):SR P lZ ρ (sizeOf t) (sizeOf t):=
 (fZ t).bind' hi fun _ _ a b e=>by cases e;exact SR.pure rfl
theorem xM(hi:dL ρ)(t:TypeId):SR P lZ ρ (isAgg t) (isAgg t):=
 (aL t).bind' hi fun _ _ a b e=>by
  cases e
  cases a <;> exact SR.pure rfl
def Nf(P:Program)(t:TypeId):Prop:=∀i z,P.info? t=some i→i.zero=some z→∀ρ,VR ρ z z
theorem iQ(hi:dL ρ){t:TypeId}(hz:Nf P t):SR P VR ρ (zeroValue t) (zeroValue t):=by
 refine⟨_,rfl,?_⟩
 have e:∀ (o:Option TypeInfo),P.info? t=o→SR P VR ρ (Sem.bind (match o with|some d=>pure d|none=>stuck "no such type") fun i=>(match i.zero with|some v=>pure v|none=>unsupported (.resourceLimit Xy):Sem Value))
  (Sem.bind (match o with|some d=>pure d|none=>stuck "no such type") fun i=>(match i.zero with|some v=>pure v|none=>unsupported (.resourceLimit Xy):Sem Value)):=by
  intro o ho
  cases o with
  | none=>exact trivial
  | some i=>
    show SR P VR ρ (match i.zero with|some v=>pure v|none=>unsupported (.resourceLimit Xy)) (match i.zero with|some v=>pure v|none=>unsupported (.resourceLimit Xy))
    cases hz0:i.zero with
    | none=>exact xU _ _
    | some z=>exact SR.pure (hz i z ho hz0 ρ)
 exact e _ rfl
theorem AR.add{a a':Addr}(h:AR ρ a a')(n:Nat):AR ρ (a.add n) (a'.add n):=by
 unfold Addr.add
 split
 ·exact h
 ·exact⟨h.1,by simp[h.2.1],rfl⟩
inductive LR (ρ:Ren):List Value→List Value→Prop
 | nil:LR ρ [] []
 | cons {v v':Value} {l l':List Value}:VR ρ v v'→LR ρ l l'→LR ρ (v :: l) (v' :: l')
theorem LR.mono{ρ':Ren}(l:Le ρ ρ'){x x':List Value}(h:LR ρ x x'):LR ρ' x x':=by
 induction h with
 | nil=>exact .nil
 | cons h _ ih=>exact .cons (h.mono l) ih
theorem LR.of:∀ {l l':List Value},l.length=l'.length→(∀ (i:Nat) (h:i<l.length) (h':i<l'.length),VR ρ l[i] l'[i])→LR ρ l l'
 | [],[],_,_=>.nil
 | v :: l,v' :: l',e,h=>.cons (h 0 zs zs) (LR.of (by simpa using e) fun i a b=>h (i+1) (by simpa using a) (by simpa using b))
 | [],_ :: _,e,_=>by simp at e
 | _ :: _,[],e,_=>by simp at e
theorem dY.list{x x':Array Value}(h:dY ρ x x'):LR ρ x.toList x'.toList:=
 LR.of (by simpa using h.1) fun i a b=>by simpa using h.2 i (by simpa using a) (by simpa using b)
theorem Gw{a a':Addr}(h:AR ρ a a'):SR P VR ρ (load a) (load a'):=⟨_,_,rfl,rfl,h,fun _ _ v v' hv=>⟨v',rfl,hv⟩⟩
theorem Pj{a a':Addr}(h:AR ρ a a'){v v':Value}(hv:VR ρ v v'):SR P lZ ρ (store a v) (store a' v'):=⟨_,_,_,rfl,rfl,h,hv,(),rfl,rfl⟩
theorem rH{a a':Addr}(n:Nat):∀ {ρ:Ren},dL ρ→AR ρ a a'→∀ (i:Nat) {acc acc':Array Value},dY ρ acc acc'→SR P dY ρ (loadCellsFrom a i n acc) (loadCellsFrom a' i n acc'):=by
 induction n with
 | zero=>exact fun _ _ i _ _ h=>SR.pure h
 | succ n ih=>exact fun hi ha i _ _ h=>(Gw (ha.add i)).bind' hi fun ρ' l v v' hv=>ih l.2 (ha.mono l.1) (i+1) ((h.mono l.1).push hv)
theorem pG(hi:dL ρ){a a':Addr}(ha:AR ρ a a')(n:Nat):SR P dY ρ (loadCells a n) (loadCells a' n):=rH n hi ha 0 (.nil ρ)
theorem nV{a a':Addr}(hi:dL ρ)(ha:AR ρ a a'){l l':List Value}(h:LR ρ l l')(i:Nat:=0):SR P lZ ρ (storeCells a l i) (storeCells a' l' i):=by
 induction h generalizing i with
 | nil=>exact SR.pure rfl
 | cons hv _ ih=>exact(Pj (ha.add i) hv).bind' hi fun ρ' l _ _ _=>(ih (i+1)).mono Xj l.1
theorem uF(hi:dL ρ)(t:TypeId){a a':Addr}(ha:AR ρ a a'):SR P VR ρ (loadVar t a) (loadVar t a'):=by
 unfold loadVar
 refine(xM hi t).bind' hi ?_
 intro ρ1 l1 x y e
 cases e
 cases x with
 | false=>exact Gw (ha.mono l1.1)
 | true=>
   refine(aX l1.2 t).bind' l1.2 ?_
   intro ρ2 l2 m n e
   cases e
   refine(pG l2.2 (ha.mono (l1.1.trans l2.1)) m).bind' l2.2 ?_
   intro ρ3 _ c c' hc
   exact SR.pure (.agg hc.1 hc.2)
theorem Eu(hi:dL ρ)(t:TypeId){a a':Addr}(ha:AR ρ a a'){v v':Value}(hv:VR ρ v v'):SR P lZ ρ (storeVar t a v) (storeVar t a' v'):=by
 unfold storeVar
 refine(aX hi t).bind' hi ?_
 intro ρ1 l1 m n e
 cases e
 have hc:=(hv.mono l1.1).cells
 by_cases hm:v.cells.size≠m
 ·have hm':v'.cells.size≠m:=by rw[← hc.1];exact hm
  simp only[if_pos hm,if_pos hm']
  exact trivial
 ·have hm':¬ v'.cells.size≠m:=by rw[← hc.1];exact hm
  simp only[if_neg hm,if_neg hm']
  exact nV l1.2 (ha.mono l1.1) hc.list
theorem qG(t:TypeId){c c':Array Value}(h:dY ρ c c'):SR P AR ρ (newRow t c) (newRow t c'):=
 ⟨_,_,rfl,.cells t h (fun o h1 h2=>by simp at h2),fun _ _ r r' hr=>⟨_,rfl,hr,rfl,rfl⟩⟩
theorem xB(t:TypeId){v v':Value}(h:VR ρ v v'):SR P AR ρ (newVar t v) (newVar t v'):=qG t h.cells
theorem gU{v v':Value}(h:VR ρ v v'):SR P AR ρ (Instr.sureAddr v) (Instr.sureAddr v'):=by
 cases h with
 | ptr h=>exact SR.pure h
 | _=>exact trivial
theorem JY(hi:dL ρ)(t:TypeId){v v':Value}(h:VR ρ v v'):SR P VR ρ (Instr.loadAt t v) (Instr.loadAt t v'):=
 (gU h).bind' hi fun _ l _ _ ha=>uF l.2 t ha
theorem Ib(hi:dL ρ)(t:TypeId){a a' v v':Value}(h:VR ρ a a')(hv:VR ρ v v'):SR P lZ ρ (Instr.storeAt t a v) (Instr.storeAt t a' v'):=
 (gU h).bind' hi fun _ l _ _ ha=>Eu l.2 t ha (hv.mono l.1)
theorem Ni(hi:dL ρ){t:TypeId}(hz:Nf P t){v v':Value}:SR P VR ρ (Instr.alloc t true v) (Instr.alloc t true v'):=
 (iQ hi hz).bind' hi fun ρ1 l1 z z' h=>(xB t h).bind' l1.2 fun _ _ _ _ ha=>SR.pure (.ptr ha)
theorem VU(hi:dL ρ)(t:TypeId){v v':Value}(h:VR ρ v v'):SR P VR ρ (Instr.box t v) (Instr.box t v'):=
 (xB t h).bind' hi fun _ _ _ _ ha=>SR.pure (.ptr ha)
theorem GU(hi:dL ρ)(t:TypeId){c c':Array Value}(h:dY ρ c c')(off:Nat):SR P VR ρ (part t c off) (part t c' off):=by
 unfold part
 refine(xM hi t).bind' hi ?_
 intro ρ1 l1 x y e
 cases e
 cases x with
 | true=>
   refine(aX l1.2 t).bind' l1.2 ?_
   intro ρ2 l2 m n e
   cases e
   have:=(h.mono (l1.1.trans l2.1)).extract off (off+m)
   exact SR.pure (.agg this.1 this.2)
 | false=>
   rcases(h.mono l1.1).get? off with⟨e1,e2⟩|⟨v,v',e1,e2,hv⟩
   ·simp only[e1,e2];exact trivial
   ·simp only[e1,e2];exact SR.pure hv
theorem Nj{v v':Value}(h:VR ρ v v'):SR P dY ρ (asAgg v) (asAgg v'):=by
 cases h with
 | agg e h=>exact SR.pure ⟨e,h⟩
 | _=>exact trivial
theorem NV(hi:dL ρ)(t:TypeId){v v':Value}(h:VR ρ v v')(i:Nat):SR P VR ρ (Instr.field t v i) (Instr.field t v' i):=by
 unfold Instr.field
 refine(aL t).bind' hi ?_
 intro ρ1 l1 x y e
 cases e
 cases x with
 | struct fs=>
   dsimp only
   cases fs[i]? with
   | none=>exact trivial
   | some f=>exact(Nj (h.mono l1.1)).bind' l1.2 fun _ l2 _ _ hc=>GU l2.2 f.type hc f.offset
 | _=>exact trivial
theorem FU{v v':Value}(h:VR ρ v v')(i:Nat):SR P VR ρ (Instr.extract v i) (Instr.extract v' i):=by
 cases h with
 | tuple e h=>
   rename_i x x'
   simp only[Instr.extract]
   rcases(dY.get? ⟨e,h⟩ i:(x[i]? =none∧x'[i]? =none)∨_) with⟨e1,e2⟩|⟨w,w',e1,e2,hv⟩
   ·simp only[e1,e2];exact trivial
   ·simp only[e1,e2];exact SR.pure hv
 | _=>exact trivial
theorem wS{f:Array Value→Value × Nat→Array Value}{off:Nat}(hf:∀cs c j,f cs (c,j)=cs.setIfInBounds (off+j) c):∀ {l l':List Value},LR ρ l l'→∀ (k:Nat) {c c':Array Value},dY ρ c c'→dY ρ ((l.zipIdx k).foldl f c) ((l'.zipIdx k).foldl f c'):=by
 intro l l' h
 induction h with
 | nil=>exact fun _ _ _ h=>h
 | cons hv _ ih=>
   intro k c c' hc
   simp only[List.zipIdx_cons,List.foldl_cons,hf]
   exact ih (k+1) (hc.set _ hv)
inductive jJ (ρ:Ren):List (Nat × Value)→List (Nat × Value)→Prop
 | nil:jJ ρ [] []
 | cons (i:Nat) {v v':Value} {l l':List (Nat × Value)}:VR ρ v v'→jJ ρ l l'→jJ ρ ((i,v) :: l) ((i,v') :: l')
theorem wO(place:Nat→Option (Nat × Nat)):∀ {l l':List (Nat × Value)},jJ ρ l l'→∀ {c c':Array Value},dY ρ c c'→
 (Instr.fill place c l=none∧Instr.fill place c' l'=none)∨∃x x',Instr.fill place c l=some x∧Instr.fill place c' l'=some x'∧dY ρ x x':=by
 intro l l' h
 induction h with
 | nil=>exact fun hc=>.inr ⟨_,_,rfl,rfl,hc⟩
 | cons i hv _ ih=>
   rename_i v v' l l' _
   intro c c' hc
   unfold Instr.fill
   cases place i with
   | none=>exact .inl ⟨rfl,rfl⟩
   | some p=>
     obtain⟨off,size⟩:=p
     have hcv:=hv.cells
     dsimp only
     rw[← hcv.1,← hc.1]
     cases (decide (v.cells.size≠size) || decide (off+v.cells.size > c.size)) with
     | true=>exact .inl ⟨rfl,rfl⟩
     | false=>
       refine ih ?_
       have:=wS (ρ:=ρ) (f:=fun cs x=>cs.setIfInBounds (off+x.2) x.1) (off:=off) (fun _ _ _=>rfl) hcv.list 0 hc
       rw[← Array.foldl_toList,← Array.foldl_toList,Array.toList_zipIdx,Array.toList_zipIdx]
       exact this
theorem J5{α β:Type}(f:α→Sem β)(hf:∀a {ρ:Ren},dL ρ→SR P lZ ρ (f a) (f a)):∀l:List α,∀ {ρ:Ren},dL ρ→SR P lZ ρ (l.mapM f) (l.mapM f):=by
 intro l
 induction l with
 | nil=>intro ρ hi;simp only[List.mapM_nil];exact SR.pure rfl
 | cons a l ih=>
   intro ρ hi
   simp only[List.mapM_cons]
   refine(hf a hi).bind' hi ?_
   intro ρ1 l1 x y e
   cases e
   refine(ih l1.2).bind' l1.2 ?_
   intro ρ2 l2 x y e
   cases e
   exact SR.pure rfl
theorem Oz{α β:Type}(f:α→Sem β)(hf:∀a {ρ:Ren},dL ρ→SR P lZ ρ (f a) (f a))(xs:Array α)(hi:dL ρ):SR P lZ ρ (xs.mapM f) (xs.mapM f):=by
 rw[Array.mapM_eq_mapM_toList]
 have e:∀ (s:Sem (List β)),(Functor.map List.toArray s)=(s >>= fun l=>pure l.toArray):=fun s=>rfl
 rw[e]
 refine(J5 f hf xs.toList hi).bind' hi ?_
 intro ρ1 l1 x y e
 cases e
 exact SR.pure rfl
theorem Nr(hi:dL ρ){t:TypeId}(hz:Nf P t){l l':Array (Nat × Value)}(h:jJ ρ l.toList l'.toList)(hm:∀ {ρ'},Le ρ ρ'→jJ ρ' l.toList l'.toList):SR P VR ρ (Instr.build t l) (Instr.build t l'):=by
 unfold Instr.build
 refine(iQ hi hz).bind' hi ?_
 intro ρ1 l1 z z' hzz
 refine(aL t).bind' l1.2 ?_
 intro ρ2 l2 d d' e
 cases e
 cases d with
 | struct fs=>
   dsimp only
   refine(Oz _ (fun f {ρ'} hi'=>(aX hi' f.type).bind' hi' fun _ _ _ _ e=>by cases e;exact SR.pure rfl) fs l2.2).bind' l2.2 ?_
   intro ρ3 l3 p p' e
   cases e
   rcases wO (ρ:=ρ3) (p[·]?) (hm (l1.1.trans (l2.1.trans l3.1))) (hzz.mono (l2.1.trans l3.1)).cells with⟨e1,e2⟩|⟨x,x',e1,e2,hx⟩
   ·simp only[e1,e2];exact trivial
   ·simp only[e1,e2];exact SR.pure (.agg hx.1 hx.2)
 | array n el=>
   dsimp only
   refine(aX l2.2 el).bind' l2.2 ?_
   intro ρ3 l3 p p' e
   cases e
   rcases wO (ρ:=ρ3) (fun i=>some (i * p,p)) (hm (l1.1.trans (l2.1.trans l3.1))) (hzz.mono (l2.1.trans l3.1)).cells with⟨e1,e2⟩|⟨x,x',e1,e2,hx⟩
   ·simp only[e1,e2];exact trivial
   ·simp only[e1,e2];exact SR.pure (.agg hx.1 hx.2)
 | _=>exact trivial
end
end Go.cu
