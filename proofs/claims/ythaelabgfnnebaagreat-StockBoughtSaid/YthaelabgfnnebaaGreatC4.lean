/- Par19 Par20 Par21 Par22 Par23 Par24 -/
import Derived.Test.YthaelabgfnnebaaGreatC3
import Derived.Conc.CrowdTrace
import Derived.Conc.Crowd
set_option maxRecDepth 100000
set_option maxHeartbeats 16000000
set_option linter.unusedVariables false
set_option linter.unusedSectionVars false
namespace Go.cu
section
variable[Inhabited aS]
open Go.Conc
variable{P:Program}
abbrev St:=(Frame × List Frame) × World
def Qh(P:Program)(a b:St):Prop:=(fK P a.1.1 a.1.2).run P a.2=.ok b.1 b.2
def sQ(a:St)(τ:Tape):St:=(a.1,on a.2 τ)
def Rl(P:Program)(F:FuncId→Prop)(a:St):Prop:=Ag P F a.1.1∧∃ρ s' w',Two P F ρ a.1 a.2 s' w'
def kZ(P:Program)(F:FuncId→Prop)(b a:St):Prop:=∃τ:Tape,Rl P F a∧(∀j,j<a.2.drawn→τ j=a.2.tape j)∧Qh P (sQ a τ) b
inductive Qw (P:Program) (F:FuncId→Prop) (s0:St):St→Prop
 | refl:Qw P F s0 s0
 | step {a b:St}:Qw P F s0 a→kZ P F b a→Qw P F s0 b
theorem Two.on{F:FuncId→Prop}{ρ:Ren}{s s':Frame × List Frame}{w w':World}(h:Two P F ρ s w s' w')(τ:Tape):Two P F ρ s (on w τ) s' w':=⟨h.st,h.ok,⟨h.wr.obj,h.wr.inj⟩⟩
theorem loc(hg:P.globals.size=0){F:FuncId→Prop}(hF:gG P F){a b:St}{τ:Tape}(hr:Rl P F a)(h:Qh P (sQ a τ) b):
 b.2.tape=τ∧a.2.drawn≤b.2.drawn∧∀σ:Tape,(∀j,j<b.2.drawn→σ j=τ j)→Qh P (sQ a σ) (sQ b σ):=by
 obtain⟨hl,ρ,s',w',ht⟩:=hr
 have hlc:=(BH hg hF ht.wr.inj ht.st ht.ok hl).lc (ht.on τ).wr
 obtain⟨h1,h2,h3⟩:=hlc.2 b.1 b.2 h
 exact⟨h1,h2,fun σ hσ=>h3 σ fun j _ hj=>hσ j hj⟩
def Way(P:Program)(F:Fence)(Post:Frame→World→Prop)(a:St):Prop:=
 ∃fr v,StepsIn (Machine.fenced P F) P (solo (G a.1.1 a.1.2) a.2) (lone fr [] v)∧fr.mode=.returning∧fr.defers=[]∧Post fr v
theorem cQ{fr:Frame}(h:fr.mode=.returning)(hd:fr.defers=[]){w:World}{b:St}:¬ Qh P ((fr,[]),w) b:=by
 intro hg
 unfold Qh fK at hg
 simp only[h,hd] at hg
 split at hg
 ·simp_all
 ·simp only[stuck,Sem.run] at hg;cases hg
theorem xR(hg:P.globals.size=0){F:Fence}(hF:gG P F.fn)(hin:∀g,F.fn g→P.inits.idxOf? g=none)(hal:F.alive=true){Post:Frame→World→Prop}{s0:St}(H:∀σ:Tape,Way P F Post (sQ s0 σ)):
 ∀ {u:St},Qw P F.fn s0 u→∀σ:Tape,(∀j,j<u.2.drawn→σ j=u.2.tape j)→Way P F Post (sQ u σ):=by
 intro u h
 induction h with
 | refl=>intro σ _;exact H σ
 | @step a b _ hs ih=>
   intro σ hσ
   obtain⟨τ,hrl,hτ,hgo⟩:=hs
   obtain⟨e1,e2,e3⟩:=loc hg hF hrl hgo
   have Ry:=e3 σ fun j hj=>(hσ j hj).trans (by rw[e1])
   obtain⟨fr,v,hp,hm,hdf,hpost⟩:=ih σ fun j hj=>by
    have:=hσ j (Nat.lt_of_lt_of_le hj e2)
    rw[e1] at this
    rw[this];exact hτ j hj
   obtain⟨hl,ρ,s',w',ht⟩:=hrl
   rcases live hg hF hin hal (ht.on σ) hp hm with⟨ea,_⟩|⟨em,eL,ed⟩|⟨_,s2,w2,er,hp2⟩
   ·exfalso
    have:sQ a σ=((fr,[]),on a.2 σ):=by simp only[sQ,← ea]
    rw[this] at Ry
    exact cQ hm hdf Ry
   ·exfalso
    have:sQ a σ=((a.1.1,[]),on a.2 σ):=by simp only[sQ,← eL]
    rw[this] at Ry
    exact cQ em ed Ry
   ·have YO:(fK P a.1.1 a.1.2).run P (on a.2 σ)=.ok b.1 (on b.2 σ):=Ry
    rw[er] at YO
    cases YO
    exact⟨fr,v,hp2,hm,hdf,hpost⟩
theorem Kg{F:FuncId→Prop}{a b:St}(ok:jE P F a.1.1)(h:Qh P a b):step P (solo (G a.1.1 a.1.2) a.2)=.next (solo (G b.1.1 b.1.2) b.2):=by
 have hT:=Sem.runT_fst P (fK P a.1.1 a.1.2) a.2 #[]
 unfold Qh at h
 obtain⟨es',hstep,_⟩:=xq (cs:=[]) (main:=true) ok (show(fK P a.1.1 a.1.2).runT P a.2 #[]=(.ok b.1 b.2,((fK P a.1.1 a.1.2).runT P a.2 #[]).2) by rw[← h,← hT])
 simp only[List.append_nil] at hstep
 rw[step,stepT_solo rfl,runT_solo_go hstep]
theorem Iu(hg:P.globals.size=0){F:Fence}(hF:gG P F.fn)(hin:∀g,F.fn g→P.inits.idxOf? g=none)(hal:F.alive=true){Post:Frame→World→Prop}{s0:St}(H:∀σ:Tape,Way P F Post (sQ s0 σ)):Acc (kZ P F.fn) s0:=by
 refine Classical.byContradiction fun hn=>?_
 have next:∀a:{a:St // ¬ Acc (kZ P F.fn) a },∃b:{a:St // ¬ Acc (kZ P F.fn) a },kZ P F.fn b.1 a.1:=fun a=>by
  refine Classical.byContradiction fun h=>a.2 ⟨a.1,fun b hb=>Classical.byContradiction fun hb2=>h ⟨⟨b,hb2⟩,hb⟩⟩
 let f:Nat→{a:St // ¬ Acc (kZ P F.fn) a }:=fun n=>Nat.rec ⟨s0,hn⟩ (fun _ a=>Classical.choose (next a)) n
 have hf:∀i,kZ P F.fn (f (i+1)).1 (f i).1:=fun i=>Classical.choose_spec (next (f i))
 have mono:∀i,(f i).1.2.drawn≤(f (i+1)).1.2.drawn:=fun i=>by
  obtain⟨τ,hrl,hτ,hgo⟩:=hf i
  exact(loc hg hF hrl hgo).2.1
 have S9:∀i j,j<(f i).1.2.drawn→(f (i+1)).1.2.tape j=(f i).1.2.tape j:=fun i j hj=>by
  obtain⟨τ,hrl,hτ,hgo⟩:=hf i
  rw[(loc hg hF hrl hgo).1];exact hτ j hj
 have mono':∀i k,(f i).1.2.drawn≤(f (i+k)).1.2.drawn:=fun i k=>by
  induction k with
  | zero=>exact Nat.le_refl _
  | succ k ih=>exact Nat.le_trans ih (mono (i+k))
 have same:∀i k j,j<(f i).1.2.drawn→(f (i+k)).1.2.tape j=(f i).1.2.tape j:=fun i k j hj=>by
  induction k with
  | zero=>rfl
  | succ k ih=>exact(S9 (i+k) j (Nat.lt_of_lt_of_le hj (mono' i k))).trans ih
 classical
 let σ:Tape:=fun j=>if h:∃i,j<(f i).1.2.drawn then(f (Classical.choose h)).1.2.tape j else fun _=>0
 have hσ:∀i j,j<(f i).1.2.drawn→σ j=(f i).1.2.tape j:=fun i j hj=>by
  have hx:∃i,j<(f i).1.2.drawn:=⟨i,hj⟩
  have e:σ j=(f (Classical.choose hx)).1.2.tape j:=dif_pos hx
  rw[e]
  have hc:=Classical.choose_spec hx
  generalize Classical.choose hx=c at hc
  rcases Nat.le_total c i with l|l
  ·obtain⟨k,rfl⟩:=Nat.exists_eq_add_of_le l
   exact(same c k j hc).symm
  ·obtain⟨k,rfl⟩:=Nat.exists_eq_add_of_le l
   exact same i k j hj
 have go:∀i,Qh P (sQ (f i).1 σ) (sQ (f (i+1)).1 σ)∧jE P F.fn (f i).1.1.1:=fun i=>by
  obtain⟨τ,hrl,hτ,hgo⟩:=hf i
  obtain⟨e1,e2,e3⟩:=loc hg hF hrl hgo
  refine⟨e3 σ fun j hj=>by rw[hσ (i+1) j hj,e1],?_⟩
  obtain⟨_,_,_,_,ht⟩:=hrl
  exact ht.ok.1
 obtain⟨fr,v,hp,hm,hdf,_⟩:=H σ
 have key:∀ {m m':Machine},StepsIn (Machine.fenced P F) P m m'→∀i,m=solo (G (sQ (f i).1 σ).1.1 (sQ (f i).1 σ).1.2) (sQ (f i).1 σ).2→m'≠lone fr [] v:=by
  intro m m' h
  induction h with
  | refl m=>
    rintro i e e2
    rw[e] at e2
    have eg:=congrArg Machine.gs e2
    simp only[lone,solo] at eg
    have eg:=Array.singleton_inj.1 eg
    have e3:(sQ (f i).1 σ).1.1=fr:=congrArg Goroutine.frame eg
    have e4:(sQ (f i).1 σ).1.2=[]:=congrArg Goroutine.callers eg
    have hgo:=(go i).1
    have:sQ (f i).1 σ=((fr,[]),(sQ (f i).1 σ).2):=by rw[← e3,← e4]
    rw[this] at hgo
    exact cQ hm hdf hgo
  | head hI hs _ ih=>
    rintro i e
    subst e
    rw[Kg (a:=sQ (f i).1 σ) (go i).2 (go i).1] at hs
    cases hs
    exact ih (i+1) rfl
 exact key hp 0 rfl rfl
def Keeps(C O:Nat→Prop)(w w2:World):Prop:=∀b,O b∨C b→w2.heap[b]? =w.heap[b]?
structure Did(C O O1:Nat→Prop)(w w1:World)(new:List Event):Prop where
 tape:w1.tape=w.tape
 os:w1.os=w.os
 output:w1.output=w.output
 size:w.heap.size≤w1.heap.size
 other:∀b,b<w.heap.size→¬ O b→w1.heap[b]? =w.heap[b]?
 own:∀b,O1 b↔O b∨(w.heap.size≤b∧b<w1.heap.size)
 evs:∀e∈new,PG O1 C e
theorem Ran.did{C O O1:Nat→Prop}{ρ ρ1:Ren}{w w1 v v1:World}{new:List Event}(h:Ran C O O1 ρ ρ1 w w1 v v1 new):Did C O O1 v v1 new:=⟨h.tape,h.os,h.output,h.size,h.other,h.own,h.evs⟩
inductive yw (P:Program) (F:FuncId→Prop) (C:Nat→Prop) (Q:Frame→World→(Nat→Prop)→Prop):Frame × List Frame→World→(Nat→Prop)→Prop
 | done {fr:Frame} {w:World} {O:Nat→Prop}:jE P F fr→fr.mode=.returning→fr.defers=[]→(∀w2,Keeps C O w w2→Q fr w2 O)→yw P F C Q (fr,[]) w O
 | step {s:Frame × List Frame} {w:World} {O:Nat→Prop} (X:Frame × List Frame→World→(Nat→Prop)→Prop):jE P F s.1→(s.1.mode=.returning→s.2=[]→s.1.defers≠[])→
  (∀w2,Keeps C O w w2→∃s2 w3 O2 new,(fK P s.1 s.2).runT P w2 #[]=(.ok s2 w3,List.toArray new)∧Did C O O2 w2 w3 new∧X s2 w3 O2)→(∀s2 w3 O2,X s2 w3 O2→yw P F C Q s2 w3 O2)→yw P F C Q s w O
theorem Nc{F:FuncId→Prop}(hF:gG P F)(hin:∀g,F g→P.inits.idxOf? g=none){fr:Frame}(ok:jE P F fr)(hm:fr.mode=.returning)(hd:fr.defers=[]){w:World}{m1:Machine}:step P (solo (G fr []) w)≠.next m1:=by
 intro hs
 obtain⟨f,c,hf,_⟩:=hF.sv _ ok.fn
 rw[step,stepT_solo rfl] at hs
 have hT:=Sem.runT_fst P (results f fr.tmps) w #[]
 have e:stepG P true (G fr []) w=unwind P true fr [] none w:=by simp[G,stepG,hm]
 have:∃o w2 es,stepG P true (G fr []) w=.ended o w2 es:=by
  rw[e]
  simp only[unwind,hd,hm,hf]
  generalize gx:Sem.runT P (results f fr.tmps) w #[]=T at hT⊢
  obtain⟨r,es⟩:=T
  dsimp only
  cases r with
  | ok v w2=>
    simp only[doReturn,ok.kind,hin _ ok.fn,Bool.not_true,Bool.false_eq_true,if_false]
    exact⟨_,_,_,rfl⟩
  | halt h w2=>cases h <;> exact⟨_,_,_,rfl⟩
 obtain⟨o,w2,es,e2⟩:=this
 rw[aU e2] at hs
 cases hs
theorem jY.ok{a b:Item}{ρ:Ren}(h:jY ρ a b)(k:kK P a):kK P b:=by cases h <;> exact k
theorem fB.ok{a b:List Item}{ρ:Ren}(h:fB ρ a b)(k:∀i∈a,kK P i):∀i∈b,kK P i:=by
 induction h with
 | nil=>exact k
 | cons h _ ih=>
   simp only[List.forall_mem_cons] at k⊢
   exact⟨h.ok k.1,ih k.2⟩
theorem Ae.On{F:FuncId→Prop}{ρ:Ren}{a b:Frame}(h:Ae ρ a b)(k:jE P F a):jE P F b:=by
 refine⟨by rw[h.fn];exact k.fn,h.todo.ok k.todo,?_,by rw[h.mode];exact k.mode,by rw[h.kind];exact k.kind⟩
 obtain⟨x,x',_,e,_⟩:=h.defers
 exact⟨x',e⟩
theorem dO.LK{a b:List Deferred}{ρ:Ren}(h:dO ρ a b):b=[]↔a=[]:=by
 obtain⟨x,x',rfl,rfl,e,_⟩:=h
 cases x <;> cases x' <;> simp_all
theorem WR.keeps{C O:Nat→Prop}{ρ:Ren}{w w' w2:World}(h:WR ρ w w')(hc:∀b b',ρ b=some b'→(Fz w b∧C b')∨O b')(k:Keeps C O w' w2):WR ρ w w2:=by
 refine⟨fun b b' e=>?_,h.inj⟩
 obtain⟨o,o',h1,h2,h3⟩:=h.obj b b' e
 refine⟨o,o',h1,?_,h3⟩
 rw[k b' ((hc b b' e).elim (fun x=>.inr x.2) .inl)];exact h2
theorem Wx(hg:P.globals.size=0){F:Fence}(hF:gG P F.fn)(hin:∀g,F.fn g→P.inits.idxOf? g=none)(hal:F.alive=true){Post:Frame→World→Prop}{C:Nat→Prop}{Q:Frame→World→(Nat→Prop)→Prop}{s0:St}{ρ0:Ren}(H:∀σ:Tape,Way P F Post (sQ s0 σ))
 (hQ:∀ρ fr w fr' w2 O,Le ρ0 ρ→Post fr w→Ae ρ fr fr'→WR ρ w w2→(∀b b',ρ b=some b'→(Fz w b∧C b')∨O b')→Q fr' w2 O):
 ∀ {a:St},Acc (kZ P F.fn) a→Qw P F.fn s0 a→∀ {ρ:Ren} {s':Frame × List Frame} {w':World} {O:Nat→Prop},Two P F.fn ρ a.1 a.2 s' w'→(∀b b',ρ b=some b'→(Fz a.2 b∧C b')∨O b')→Le ρ0 ρ→yw P F.fn C Q s' w' O:=by
 intro a ha
 induction ha with
 | intro a _ ih=>
 intro bu ρ s' w' O ht hc hle
 have LF:s'.1.mode=a.1.1.mode:=ht.st.1.mode
 have eqd:s'.1.defers=[]↔a.1.1.defers=[]:=ht.st.1.defers.LK
 have eql:a.1.2=[]↔s'.2=[]:=by
  have hL:=ht.st.2
  generalize a.1.2=x at hL⊢
  generalize s'.2=y at hL⊢
  cases hL <;> simp
 by_cases hend:a.1.1.mode=.returning∧a.1.2=[]∧a.1.1.defers=[]
 ·obtain⟨f',L'⟩:=s'
  have hL':L'=[]:=eql.1 hend.2.1
  subst hL'
  refine .done (ht.st.1.On ht.ok.1) (LF.trans hend.1) (eqd.2 hend.2.2) fun w2 hk=>?_
  obtain⟨fr,v,hp,hm,hdf,hpost⟩:=xR hg hF hin hal H bu a.2.tape fun _ _=>rfl
  have ea:sQ a a.2.tape=a:=rfl
  rw[ea] at hp
  have:a.1=(fr,[])∧a.2=v:=by
   obtain⟨⟨f0,L⟩,w0⟩:=a
   obtain⟨e1,e2,e3⟩:=hend
   simp only at e1 e2 e3 hp
   subst e2
   generalize hm0:solo (G f0 []) w0=m0 at hp
   generalize hm1:lone fr [] v=m1 at hp
   cases hp with
   | refl=>
     subst hm0
     have eg:=congrArg Machine.gs hm1
     simp only[lone,solo] at eg
     have ef:fr=f0:=congrArg Goroutine.frame (Array.singleton_inj.1 eg)
     have ew:v=w0:=congrArg Machine.world hm1
     exact⟨by rw[ef],ew.symm⟩
   | head hI hs hp=>subst hm0;exact absurd hs (Nc hF hin ht.ok.1 e1 e3)
  obtain⟨e1,e2⟩:=this
  subst e2
  have hfr:=ht.st.1
  rw[e1] at hfr
  exact hQ ρ fr a.2 f' w2 O hle hpost hfr (ht.wr.keeps hc hk) hc
 ·refine .step (fun s2 w3 O2=>∃ρ1 b,Two P F.fn ρ1 b.1 b.2 s2 w3∧(∀x x',ρ1 x=some x'→(Fz b.2 x∧C x')∨O2 x')∧kZ P F.fn b a∧Le ρ0 ρ1) (ht.st.1.On ht.ok.1) (fun hm hL hd=>hend ⟨LF.symm.trans hm,eql.2 hL,eqd.1 hd⟩) (fun w2 hk=>?_) ?_
  rotate_left
  ·rintro s2 w3 O2 ⟨ρ1,b,h1,h2,h3,h4⟩
   exact ih b h3 (.step bu h3) h1 h2 h4
  let τ:Tape:=fun j=>if j<a.2.drawn then a.2.tape j else w2.tape (j - a.2.drawn+w2.drawn)
  have hτ:∀j,j<a.2.drawn→τ j=a.2.tape j:=fun j hj=>if_pos hj
  obtain⟨fr,v,hp,hm,hdf,hpost⟩:=xR hg hF hin hal H bu τ hτ
  have YG:¬ ((sQ a τ).1.1.mode=.returning∧(sQ a τ).1.2=[]∧(sQ a τ).1.1.defers=[]):=hend
  rcases live hg hF hin hal (ht.on τ) hp hm with⟨ea,_⟩|em|⟨hl,s2,w3,er,_⟩
  ·exact absurd ⟨by show a.1.1.mode=_;rw[ea];exact hm,by show a.1.2=_;rw[ea],by show a.1.1.defers=_;rw[ea];exact hdf⟩ YG
  ·exact absurd em YG
  have hw2:WR ρ (on a.2 τ) w2:=⟨(ht.wr.keeps hc hk).obj,ht.wr.inj⟩
  have b8:jZ (on a.2 τ) w2:=fun k q=>by
   show τ (a.2.drawn+k) q=_
   simp only[τ]
   rw[if_neg zo]
   rw[show a.2.drawn+k - a.2.drawn+w2.drawn=w2.drawn+k by omega]
  obtain⟨ρ1,s3,w4,O2,new,h1,h2,h3⟩:=SR.runT (es:=#[]) (BH hg hF ht.wr.inj ht.st ht.ok hl) hw2 b8 hc er
  refine⟨s3,w4,O2,new,by simpa using h1,h3.did,?_⟩
  have hsucc:kZ P F.fn (s2,w3) a:=⟨τ,⟨hl,ρ,s',w',ht⟩,hτ,er⟩
  exact⟨ρ1,(s2,w3),⟨h2.1,h2.2,h3.wr⟩,h3.cl,hsucc,hle.trans h3.le⟩
def il(C O:Nat→Prop)(ρ:Ren)(w:World):Prop:=∀b b',ρ b=some b'→(Fz w b∧C b')∨O b'
def Gives(P:Program)(C:Nat→Prop)(ρ0:Ren)(f:FuncId)(R:Value→World→Prop)(fr':Frame)(w2:World)(O:Nat→Prop):Prop:=
 fr'.fn=f∧fr'.defers=[]∧fr'.kind=.normal∧fr'.mode=.returning∧∃fn ρ1 v v' w w3 O3 new,P.funcs[f]? =some fn∧(results fn fr'.tmps).runT P w2 #[]=(.ok v' w3,List.toArray new)∧R v w∧VR ρ1 v v'∧WR ρ1 w w3∧Le ρ0 ρ1∧Did C O O3 w2 w3 new∧il C O3 ρ1 w
theorem uG(hg:P.globals.size=0){F:Fence}(hF:gG P F.fn)(hin:∀g,F.fn g→P.inits.idxOf? g=none)(hal:F.alive=true){n:Nat}(hroom:F.room (1+n)){f:FuncId}{args args':Array Value}{w w':World}{R:Value→World→Prop}
 (H:∀σ:Tape,CallsIn F n P f args (on w σ) (fun e v=>∃x,e=.returned x∧R x v)){ρ:Ren}{C O:Nat→Prop}(ha:dU ρ args args')(hw:WR ρ w w')(hc:il C O ρ w):
 yw P F.fn C (Gives P C ρ f R) (Frame.enter P f args' .normal,[]) w' O:=by
 have hf:F.fn f:=(H w.tape).1
 let Post:Frame→World→Prop:=fun fr v=>fr.fn=f∧∃x,R x v∧fr.leaving P v (.returned x)
 have HW:∀σ:Tape,Way P F Post (sQ ((Frame.enter P f args .normal,[]),w) σ):=fun σ=>by
  obtain⟨e,v,fr,⟨x,rfl,hR⟩,hp,hfn,hl⟩:=(H σ).2 [] (by simpa using hroom)
  exact⟨fr,v,hp,hl.1,hl.2.1,hfn,x,hR,hl⟩
 have hacc:=Iu hg hF hin hal HW
 have ht:Two P F.fn ρ (Frame.enter P f args .normal,[]) w (Frame.enter P f args' .normal,[]) w':=⟨⟨sG ha,.nil⟩,⟨vU hF hf _,zs⟩,hw⟩
 refine Wx (ρ0:=ρ) hg hF hin hal HW ?_ hacc .refl ht hc (.refl ρ)
 rintro ρ1 fr v fr' w2 O1 hle ⟨hfn,x,hR,hm,hd,hk,fn,hfs,hres⟩ hfr hwr hcl
 refine⟨hfr.fn.trans hfn,hfr.defers.LK.2 hd,hfr.kind.trans hk,hfr.mode.trans hm,?_⟩
 have hsr:=uh (P:=P) hwr.inj fn hfr.tmps
 let τ:Tape:=fun j=>w2.tape (j - v.drawn+w2.drawn)
 obtain⟨_,_,h3⟩:=(hsr.lc hwr).2 x v hres
 have hrun:=h3 τ fun j h1 h2=>zo
 have hw2:WR ρ1 (on v τ) w2:=⟨hwr.obj,hwr.inj⟩
 have b8:jZ (on v τ) w2:=fun k q=>by
  show w2.tape (v.drawn+k - v.drawn+w2.drawn) q=_
  rw[show v.drawn+k - v.drawn+w2.drawn=w2.drawn+k by omega]
 obtain⟨ρ2,v',w3,O3,new,r1,r2,r3⟩:=SR.runT (C:=C) (O:=O1) (es:=#[]) hsr hw2 b8 hcl hrun
 rw[hfn] at hfs
 exact⟨fn,ρ2,x,v',v,w3,O3,new,hfs,by simpa using r1,hR,r2,⟨r3.wr.obj,r3.wr.inj⟩,hle.trans r3.le,r3.did,r3.cl⟩
end
section
variable[Inhabited aS]
open Go.Conc
variable{P:Program}{F:FuncId→Prop}{C:Nat→Prop}{Q:Frame→World→(Nat→Prop)→Prop}
theorem Keeps.refl(C O:Nat→Prop)(w:World):Keeps C O w w:=fun _ _=>rfl
theorem Keeps.trans{O:Nat→Prop}{w w1 w2:World}(h:Keeps C O w w1)(k:Keeps C O w1 w2):Keeps C O w w2:=fun b hb=>(k b hb).trans (h b hb)
theorem yw.keeps{s:Frame × List Frame}{w w2:World}{O:Nat→Prop}(h:yw P F C Q s w O)(k:Keeps C O w w2):yw P F C Q s w2 O:=by
 cases h with
 | done h1 h2 LL h3=>exact .done h1 h2 LL fun w3 k3=>h3 w3 (k.trans k3)
 | step X h1 h2 h3 h4=>exact .step X h1 h2 (fun w3 k3=>h3 w3 (k.trans k3)) h4
open Classical in
noncomputable def view(C O:Nat→Prop)(w:World):Nat→Option Obj:=fun b=>if O b∨C b then w.heap[b]? else none
theorem Kw{O:Nat→Prop}{w w2:World}(k:Keeps C O w w2):view C O w2=view C O w:=by
 funext b
 unfold view
 split
 ·rename_i h;exact k b h
 ·rfl
theorem wH{O:Nat→Prop}{w w2:World}(e:view C O w2=view C O w):Keeps C O w w2:=fun b hb=>by
 have:=congrFun e b
 unfold view at this
 rwa[if_pos hb,if_pos hb] at this
structure PS where
 s:Frame × List Frame
 O:Nat→Prop
 v:Nat→Option Obj
noncomputable def ps(C:Nat→Prop)(s:Frame × List Frame)(w:World)(O:Nat→Prop):PS:=⟨s,O,view C O w⟩
def kx(P:Program)(C:Nat→Prop)(y x:PS):Prop:=
 ∃w2 w3 new,view C x.O w2=x.v∧(fK P x.s.1 x.s.2).runT P w2 #[]=(.ok y.s w3,List.toArray new)∧Did C x.O y.O w2 w3 new∧y.v=view C y.O w3
def Rank(P:Program)(C:Nat→Prop):={x:PS // Acc (kx P C) x }
def kM(P:Program)(C:Nat→Prop)(y x:Rank P C):Prop:=kx P C y.1 x.1
theorem Bp(P:Program)(C:Nat→Prop):WellFounded (kM P C):=⟨fun⟨x,hx⟩=>by
 induction hx with
 | intro x hx ih=>exact⟨_,fun y hy=>ih y.1 hy⟩⟩
end
section
variable[Inhabited aS]
open Go.Conc Go.ConcN
variable{P:Program}
def Dec{X:Type}(r:X→X→Prop)(n:Nat)(y x:Nat→X):Prop:=∃i,i<n∧r (y i) (x i)∧∀k,k≠i→y k=x k
theorem Z7{X:Type}{r:X→X→Prop}(hr:WellFounded r)(n:Nat):WellFounded (Dec r n):=by
 induction n with
 | zero=>exact⟨fun x=>⟨_,fun y ⟨i,hi,_⟩=>absurd hi (Nat.not_lt_zero i)⟩⟩
 | succ n ihn=>
   have key:∀a:X,∀f:Nat→X,f n=a→Acc (Dec r (n+1)) f:=by
    intro a
    induction a using hr.induction with
    | _ a iha=>
      intro f
      induction f using ihn.induction with
      | _ f ihf=>
        intro hfa
        refine⟨_,fun y ⟨i,hi,h1,h2⟩=>?_⟩
        by_cases e:i=n
        ·subst e
         exact iha (y i) (hfa ▸ h1) y rfl
        ·exact ihf y ⟨i,zo,h1,h2⟩ ((h2 n (fun e2=>e e2.symm)).trans hfa)
   exact⟨fun f=>key (f n) f rfl⟩
structure Lay(O:Nat→Nat→Prop)(C S:Nat→Prop)(w:World):Prop where
 own:∀k k' b,O k b→O k' b→k=k'
 oJ:∀k b,O k b→¬ C b
 nu:∀k b,O k b→¬ S b
 cS:∀b,C b→¬ S b
 LC:∀k b,O k b→b<w.heap.size
 Nq:∀b,C b→b<w.heap.size
 LD:∀b,S b→b<w.heap.size
def qJ(O:Nat→Nat→Prop)(k:Nat)(O1:Nat→Prop):Nat→Nat→Prop:=fun i b=>if i=k then O1 b else O i b
theorem bI(O:Nat→Nat→Prop)(k:Nat)(O1:Nat→Prop):qJ O k O1 k=O1:=by funext b;simp[qJ]
theorem dR(O:Nat→Nat→Prop){k i:Nat}(O1:Nat→Prop)(h:i≠k):qJ O k O1 i=O i:=by funext b;simp[qJ,h]
section
variable{O:Nat→Nat→Prop}{C S:Nat→Prop}{w w1:World}{k:Nat}{O1:Nat→Prop}{new:List Event}
theorem Lay.did(h:Lay O C S w)(d:Did C (O k) O1 w w1 new):Lay (qJ O k O1) C S w1:=by
 have hs:=d.size
 have old:∀i b,qJ O k O1 i b→O i b∨(i=k∧w.heap.size≤b∧b<w1.heap.size):=fun i b hb=>by
  by_cases e:i=k
  ·subst e
   rw[bI] at hb
   rcases(d.own b).1 hb with h1|h1
   ·exact .inl h1
   ·exact .inr ⟨rfl,h1⟩
  ·rw[dR O O1 e] at hb;exact .inl hb
 refine⟨fun i i' b a a'=>?_,fun i b a c=>?_,fun i b a c=>?_,h.cS,fun i b a=>?_,fun b a=>Nat.lt_of_lt_of_le (h.Nq b a) hs,fun b a=>Nat.lt_of_lt_of_le (h.LD b a) hs⟩
 ·rcases old i b a with x|⟨ei,x,_⟩ <;> rcases old i' b a' with x'|⟨xv,x',_⟩
  ·exact h.own _ _ _ x x'
  ·have:=h.LC _ _ x;omega
  ·have:=h.LC _ _ x';omega
  ·exact ei.trans xv.symm
 ·rcases old i b a with x|⟨_,x,_⟩
  ·exact h.oJ _ _ x c
  ·have:=h.Nq _ c;omega
 ·rcases old i b a with x|⟨_,x,_⟩
  ·exact h.nu _ _ x c
  ·have:=h.LD _ c;omega
 ·rcases old i b a with x|⟨_,_,x⟩
  ·exact Nat.lt_of_lt_of_le (h.LC _ _ x) hs
  ·exact x
theorem Lay.keeps(h:Lay O C S w)(d:Did C (O k) O1 w w1 new){i:Nat}(hi:i≠k):Keeps C (O i) w w1:=fun b hb=>by
 rcases hb with hb|hb
 ·exact d.other b (h.LC _ _ hb) fun e=>hi (h.own _ _ _ hb e)
 ·exact d.other b (h.Nq _ hb) fun e=>h.oJ _ _ e hb
theorem Lay.shared(h:Lay O C S w)(d:Did C (O k) O1 w w1 new){b:Nat}(hb:S b):w1.heap[b]? =w.heap[b]?:=d.other b (h.LD _ hb) fun e=>h.nu _ _ e hb
def In(X:Nat→Prop):Loc→Prop
 | .cell a=>X a.block
 | .obj r=>X r
 | _=>False
def gX(O:Nat→Nat→Prop)(k:Nat)(l:Loc):Prop:=In (O k) l
def Cw(C:Nat→Prop)(_:Nat)(l:Loc):Prop:=In C l
theorem Lay.apart(h:Lay O C S w):Apart (In S) (gX O) (Cw C):=by
 refine⟨fun k k' l a b=>?_,fun k k' l a b=>?_,fun k l a b=>?_,fun k l a b=>?_⟩ <;> cases l <;> simp only[gX,Cw,In] at a b
 ·exact h.own _ _ _ a b
 ·exact h.own _ _ _ a b
 ·exact h.oJ _ _ a b
 ·exact h.oJ _ _ a b
 ·exact h.nu _ _ a b
 ·exact h.nu _ _ a b
 ·exact h.cS _ a b
 ·exact h.cS _ a b
def Pm(t:Trace)(w:World):Prop:=∀i a,touchAt t i=some a→∀b,In (fun x=>x=b) a.loc→b<w.heap.size
theorem wL{e:Event}(h:PG O1 C e)(k:Nat)(fn:FuncId)(pos:String):OkW (In S) (gX (qJ O k O1)) (Cw C) k {g:=k,fn,pos,act:=.ofEvent e }:=by
 rcases h with rfl|⟨hs,h⟩
 ·exact⟨rfl,fun x hx=>by simp[MemAct.ofEvent,MemAct.touch?] at hx⟩
 obtain⟨loc,wr,sy⟩:=e
 simp only at hs h
 subst hs
 refine⟨rfl,fun x hx=>?_⟩
 rcases h with⟨a,rfl,h⟩|⟨r,rfl,h⟩
 ·have e1:MemAct.ofEvent ⟨.cell a,wr,false⟩=.access ⟨.cell a,wr,false⟩:=by cases wr <;> rfl
  rw[e1] at hx
  simp only[MemAct.touch?,Option.some.injEq] at hx
  subst hx
  rcases h with h|⟨hw,h⟩
  ·exact .inr (.inl (by simp only[gX,In,bI];exact h))
  ·exact .inr (.inr ⟨h,hw⟩)
 ·have e1:MemAct.ofEvent ⟨.obj r,wr,false⟩=.access ⟨.obj r,wr,false⟩:=by cases wr <;> rfl
  rw[e1] at hx
  simp only[MemAct.touch?,Option.some.injEq] at hx
  subst hx
  exact .inr (.inl (by simp only[gX,In,bI];exact h))
theorem CT.grow{Sh:Loc→Prop}{Own Own' Rd:Nat→Loc→Prop}{t:Trace}{j:Nat}(h:CT Sh Own Rd t j)(le:∀k l,Own k l→Own' k l)(hnew:∀k l,Own' k l→Own k l∨∀i a,touchAt t i=some a→a.loc≠l):CT Sh Own' Rd t j:=by
 refine⟨h.quiet,fun k k1 kj l hl=>?_,h.rd,fun l hs hl=>h.free l hs fun k k1 kj=>⟨fun ho=>(hl k k1 kj).1 (le k l ho),(hl k k1 kj).2⟩,fun l hs hl=>h.mine l hs fun k k1 kj ho=>hl k k1 kj (le k l ho),h.nr,h.gs⟩
 rcases hnew k l hl with ho|ho
 ·exact h.own k k1 kj l ho
 ·exact fun i a ha e=>absurd e (ho i a ha)
end
theorem Did.sub{C O O1:Nat→Prop}{w w1:World}{new l:List Event}(h:Did C O O1 w w1 new)(hl:∀e∈l,e∈new):Did C O O1 w w1 l:=
 ⟨h.tape,h.os,h.output,h.size,h.other,h.own,fun e he=>h.evs e (hl e he)⟩
theorem QY{C O O1:Nat→Prop}{w w1:World}{new:List Event}(h:Did C O O1 w w1 new)(fn:FuncId):Did C O O1 w w1 (seen P fn new.toArray).toList:=h.sub fun e he=>by
 have:=lI (P:=P) (fn:=fn) (Array.mem_def.2 he)
 simpa using this
inductive Wk (P:Program) (main:Bool) (C:Nat→Prop) (V:World→Prop) (K:Goroutine→World→(Nat→Prop)→Prop):Goroutine→World→(Nat→Prop)→Prop
 | stop {g:Goroutine} {w:World} {O:Nat→Prop}:(∀w2,Keeps C O w w2→V w2→K g w2 O)→Wk P main C V K g w O
 | step {g:Goroutine} {w:World} {O:Nat→Prop} (X:Goroutine→World→(Nat→Prop)→Prop):g.status=.running→
  (∀w2,Keeps C O w w2→V w2→∃g2 w3 O2 es,stepG P main g w2=.go g2 w3 es∧Did C O O2 w2 w3 es.toList∧X g2 w3 O2)→(∀g2 w3 O2,X g2 w3 O2→Wk P main C V K g2 w3 O2)→Wk P main C V K g w O
section
variable{main:Bool}{C:Nat→Prop}{V:World→Prop}{K:Goroutine→World→(Nat→Prop)→Prop}
theorem Wk.keeps{g:Goroutine}{w w2:World}{O:Nat→Prop}(h:Wk P main C V K g w O)(k:Keeps C O w w2):Wk P main C V K g w2 O:=by
 cases h with
 | stop h=>exact .stop fun w3 k3=>h w3 (k.trans k3)
 | step X h0 h1 h2=>exact .step X h0 (fun w3 k3=>h1 w3 (k.trans k3)) h2
theorem Wk.mono{K':Goroutine→World→(Nat→Prop)→Prop}(hK:∀g w O,K g w O→K' g w O){g:Goroutine}{w:World}{O:Nat→Prop}(h:Wk P main C V K g w O):Wk P main C V K' g w O:=by
 induction h with
 | stop h=>exact .stop fun w2 k v=>hK _ _ _ (h w2 k v)
 | step X h0 h1 h2 ih=>exact .step X h0 h1 ih
theorem Wk.idle{g g2:Goroutine}{w:World}{O:Nat→Prop}(h0:g.status=.running)(h:∀w2,V w2→stepG P main g w2=.go g2 w2 #[])(k:Wk P main C V K g2 w O):Wk P main C V K g w O:=
 .step (fun g' w' O'=>g'=g2∧O'=O∧Keeps C O w w') h0 (fun w2 k2 v2=>⟨g2,w2,O,#[],h w2 v2,⟨rfl,rfl,rfl,Nat.le_refl _,fun _ _ _=>rfl,fun b=>⟨.inl,fun h=>h.elim id fun⟨a,b⟩=>absurd b zo⟩,fun e he=>by simp at he⟩,rfl,rfl,k2⟩)
  (fun g' w' O' ⟨e1,e2,k2⟩=>by subst e1;subst e2;exact k.keeps k2)
theorem Wk.Wo{F:FuncId→Prop}{Q:Frame→World→(Nat→Prop)→Prop}{O0:Nat→Prop}{s:Frame × List Frame}{w:World}{O:Nat→Prop}(h:yw P F C Q s w O)(cs:List Frame)(hO:∀b,O0 b→O b)
 (hK:∀fr w O,(∀b,O0 b→O b)→(∀w2,Keeps C O w w2→Q fr w2 O)→Wk P main C V K (G fr cs) w O):Wk P main C V K (G s.1 (s.2 ++ cs)) w O:=by
 induction h with
 | @done fr w O h1 h2 LL h3=>exact hK fr w O hO h3
 | @step s w O X h1 h2 h3 h4 ih=>
   refine .step (fun g2 w3 O2=>∃s2,g2=G s2.1 (s2.2 ++ cs)∧X s2 w3 O2∧∀b,O0 b→O2 b) rfl (fun w2 k v=>?_) (fun g2 w3 O2 ⟨s2,e,hx,ho⟩=>e ▸ ih s2 w3 O2 hx ho)
   obtain⟨s2,w3,O2,new,r1,r2,r3⟩:=h3 w2 k
   obtain⟨es',e1,e2⟩:=xq (cs:=cs) (main:=main) h1 r1
   exact⟨_,w3,O2,es',e1,r2.sub (fun e he=>by simpa using e2 e (Array.mem_def.2 he)),s2,rfl,r3,fun b hb=>(r2.own b).2 (.inl (hO b hb))⟩
theorem Wk.ret{f:FuncId}{ρ0:Ren}{R:Value→World→Prop}{fr:Frame}{c:Frame}{cs:List Frame}{w:World}{O:Nat→Prop}(h:∀w2,Keeps C O w w2→Gives P C ρ0 f R fr w2 O)
 (hk:∀ρ1 v v' w1 w3 O3,R v w1→VR ρ1 v v'→WR ρ1 w1 w3→Le ρ0 ρ1→il C O3 ρ1 w1→(∀b,O b→O3 b)→Wk P main C V K (G (c.finish v') cs) w3 O3):Wk P main C V K (G fr (c :: cs)) w O:=by
 refine .step (fun g2 w3 O3=>Wk P main C V K g2 w3 O3) rfl (fun w2 k v=>?_) (fun _ _ _ hx=>hx)
 obtain⟨hfn,hd,hkd,hm,fn,ρ1,v,v',w1,w3,O3,new,hf,hr,hR,hv,hw,hle,mS,hcl⟩:=h w2 k
 refine⟨G (c.finish v') cs,w3,O3,seen P f new.toArray,?_,QY mS _,hk ρ1 v v' w1 w3 O3 hR hv hw hle hcl fun b hb=>(mS.own b).2 (.inl hb)⟩
 obtain⟨UI,tmps,todo,defers,mode,kind,roundOf⟩:=fr
 simp only at hfn hd hkd hm
 subst hfn;subst hd;subst hkd;subst hm
 simp[G,stepG,unwind,hf,hr,doReturn,GStep.after,-Sem.runT_eq]
theorem Wk.call{F:FuncId→Prop}{f:FuncId}{ρ0:Ren}{R:Value→World→Prop}{args:Array Value}{c:Frame}{cs:List Frame}{w:World}{O:Nat→Prop}(h:yw P F C (Gives P C ρ0 f R) (Frame.enter P f args .normal,[]) w O)
 (hk:∀ρ1 v v' w1 w3 O3,R v w1→VR ρ1 v v'→WR ρ1 w1 w3→Le ρ0 ρ1→il C O3 ρ1 w1→(∀b,O b→O3 b)→Wk P main C V K (G (c.finish v') cs) w3 O3):Wk P main C V K (G (Frame.enter P f args .normal) (c :: cs)) w O:=by
 have h1:=Wk.Wo (main:=main) (V:=V) (K:=K) (O0:=O) h (c :: cs) (fun _ hb=>hb) (fun fr w2 O2 hO hq=>Wk.ret hq fun ρ1 v v' w1 w3 O3 hR hv hw hle hcl hO3=>hk ρ1 v v' w1 w3 O3 hR hv hw hle hcl fun b hb=>hO3 b (hO b hb))
 simpa only[List.nil_append] using h1
end
end
end Go.cu
