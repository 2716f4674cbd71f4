/- Par15 Par16 -/
import Derived.Test.YthaelabgfnnebaaGreatC1
import Derived.Conc.Fork
import Derived.CallsIn
set_option maxRecDepth 100000
set_option maxHeartbeats 16000000
set_option linter.unusedVariables false
set_option linter.unusedSectionVars false
namespace Go.cu
section
variable[Inhabited aS]
variable{P:Program}{ρ:Ren}
inductive jY (ρ:Ren):Item→Item→Prop
 | code (c:Code):jY ρ (.code c) (.code c)
 | inBlock (i:Nat):jY ρ (.inBlock i) (.inBlock i)
 | inLoop (c:Code):jY ρ (.inLoop c) (.inLoop c)
 | inScope (c:Code):jY ρ (.inScope c) (.inScope c)
 | inRegion (o:Array Oper) (l:List Nat):jY ρ (.inRegion o l) (.inRegion o l)
 | beginRound:jY ρ .beginRound .beginRound
 | inRangeFunc {l l':Nat}:ρ l=some l'→jY ρ (.inRangeFunc l) (.inRangeFunc l')
 | endRangeFunc {l l':Nat}:ρ l=some l'→jY ρ (.endRangeFunc l) (.endRangeFunc l')
theorem jY.mono{ρ':Ren}(l:Le ρ ρ'){a b:Item}(h:jY ρ a b):jY ρ' a b:=by
 cases h with
 | code c=>exact .code c
 | inBlock i=>exact .inBlock i
 | inLoop c=>exact .inLoop c
 | inScope c=>exact .inScope c
 | inRegion o l=>exact .inRegion o l
 | beginRound=>exact .beginRound
 | inRangeFunc h=>exact .inRangeFunc (l _ _ h)
 | endRangeFunc h=>exact .endRangeFunc (l _ _ h)
inductive fB (ρ:Ren):List Item→List Item→Prop
 | nil:fB ρ [] []
 | cons {a b:Item} {x y:List Item}:jY ρ a b→fB ρ x y→fB ρ (a :: x) (b :: y)
theorem fB.mono{ρ':Ren}(l:Le ρ ρ'){a b:List Item}(h:fB ρ a b):fB ρ' a b:=by
 induction h with
 | nil=>exact .nil
 | cons h _ ih=>exact .cons (h.mono l) ih
theorem fB.append{a b c d:List Item}(h:fB ρ a b)(k:fB ρ c d):fB ρ (a ++ c) (b ++ d):=by
 induction h with
 | nil=>exact k
 | cons h _ ih=>exact .cons h ih
def Cx(ρ:Ren)(a b:Option Nat):Prop:=(a=none∧b=none)∨∃l l',a=some l∧b=some l'∧ρ l=some l'
theorem Cx.mono{ρ':Ren}(l:Le ρ ρ'){a b:Option Nat}(h:Cx ρ a b):Cx ρ' a b:=h.imp id fun⟨x,y,e1,e2,e3⟩=>⟨x,y,e1,e2,l _ _ e3⟩
structure Ae(ρ:Ren)(fr fr':Frame):Prop where
 fn:fr'.fn=fr.fn
 mode:fr'.mode=fr.mode
 kind:fr'.kind=fr.kind
 tmps:dU ρ fr.tmps fr'.tmps
 todo:fB ρ fr.todo fr'.todo
 defers:dO ρ fr.defers fr'.defers
 round:Cx ρ fr.roundOf fr'.roundOf
inductive Uo (ρ:Ren):List Frame→List Frame→Prop
 | nil:Uo ρ [] []
 | cons {a b:Frame} {l m:List Frame}:Ae ρ a b→Uo ρ l m→Uo ρ (a :: l) (b :: m)
theorem Ae.mono{ρ':Ren}(l:Le ρ ρ'){a b:Frame}(h:Ae ρ a b):Ae ρ' a b:=⟨h.fn,h.mode,h.kind,h.tmps.mono l,h.todo.mono l,h.defers.mono l,h.round.mono l⟩
theorem Uo.mono{ρ':Ren}(l:Le ρ ρ'){a b:List Frame}(h:Uo ρ a b):Uo ρ' a b:=by
 induction h with
 | nil=>exact .nil
 | cons h _ ih=>exact .cons (h.mono l) ih
def Yn(ρ:Ren)(a b:Frame × List Frame):Prop:=Ae ρ a.1 b.1∧Uo ρ a.2 b.2
theorem Fa{a b:Frame}(h:Ae ρ a b){x:Operand}(hx:pQ x):VR ρ (a.eval x) (b.eval x):=by
 cases x with
 | tmp t=>exact h.tmps.getD t
 | const v=>exact hx ρ
 | global g=>exact hx.elim
 | func f=>exact .func f rfl (fun i h=>by simp at h) rfl (fun i h=>by simp at h)
theorem Ub{a b:Frame}(h:Ae ρ a b){k k':List Item}(hk:fB ρ k k'):Ae ρ {a with todo:=k } {b with todo:=k' }:=⟨h.fn,h.mode,h.kind,h.tmps,hk,h.defers,h.round⟩
theorem iw{a b:Frame}(h:Ae ρ a b)(hk:∀i∈a.todo,kK P i){v v':Value}(hv:VR ρ v v'):Ae ρ (a.finish v) (b.finish v'):=by
 obtain⟨fn,tmps,todo,defers,mode,kind,roundOf⟩:=a
 obtain⟨fn',uz,todo',defers',YR,kind',wT⟩:=b
 obtain⟨h1,h2,h3,h4,h5,h6,h7⟩:=h
 simp only at h1 h2 h3 h4 h5 h6 h7 hk
 cases h5 with
 | nil=>exact⟨h1,h2,h3,h4,.nil,h6,h7⟩
 | @cons i i' k k' hi hks=>
   cases hi with
   | inRegion ops l=>
     cases l with
     | nil=>exact⟨h1,h2,h3,h4,.cons (.inRegion _ _) hks,h6,h7⟩
     | cons j l=>
       refine⟨h1,h2,h3,?_,.cons (.inRegion _ _) hks,h6,h7⟩
       simp only[Frame.finish]
       cases ((ops[j]?).bind (·.dst)) with
       | none=>exact h4
       | some d=>exact h4.set d hv
   | inRangeFunc hl=>exact⟨h1,h2,h3,h4,.cons (.endRangeFunc hl) hks,h6,h7⟩
   | beginRound=>exact⟨h1,h2,h3,h4,hks,h6,h7⟩
   | code c=>exact⟨h1,h2,h3,h4,.cons (.code c) hks,h6,h7⟩
   | inBlock i=>exact⟨h1,h2,h3,h4,.cons (.inBlock i) hks,h6,h7⟩
   | inLoop c=>exact⟨h1,h2,h3,h4,.cons (.inLoop c) hks,h6,h7⟩
   | inScope c=>exact⟨h1,h2,h3,h4,.cons (.inScope c) hks,h6,h7⟩
   | endRangeFunc hl=>exact⟨h1,h2,h3,h4,.cons (.endRangeFunc hl) hks,h6,h7⟩
theorem NH{α:Type}(f f':α→Sem Value)(hf:∀a {ρ':Ren},Ext ρ ρ'→SR P VR ρ' (f a) (f' a)):∀ (l:List α) {ρ':Ren},Ext ρ ρ'→SR P LR ρ' (l.mapM f) (l.mapM f'):=by
 intro l
 induction l with
 | nil=>intro ρ' hi;simp only[List.mapM_nil];exact SR.pure .nil
 | cons a l ih=>
   intro ρ1 hi
   simp only[List.mapM_cons]
   refine(hf a hi).bind' hi.2 fun ρ2 l2 x y hx=>?_
   refine(ih (hi.trans l2)).bind' l2.2 fun ρ3 l3 xs ys hxs=>?_
   exact SR.pure (.cons (hx.mono l3.1) hxs)
theorem LR.array{l l':List Value}(h:LR ρ l l'):dU ρ l.toArray l'.toArray:=by
 induction h with
 | nil=>exact .nil ρ
 | cons hv _ ih=>
   have:=dU.append (ρ:=ρ) (dU.push (.nil ρ) hv) ih
   simpa using this
theorem uh(hi:dI ρ)(fn:Func){x x':Array Value}(h:dU ρ x x'):SR P VR ρ (results fn x) (results fn x'):=by
 unfold results
 have key:SR P dU ρ (fn.results.mapM fun r=>(match r with| .tmp t=>pure (x.getD t undef)| .cell a t=>do loadVar t (← asAddr (x.getD a undef)):Sem Value))
  (fn.results.mapM fun r=>(match r with| .tmp t=>pure (x'.getD t undef)| .cell a t=>do loadVar t (← asAddr (x'.getD a undef)):Sem Value)):=by
  rw[Array.mapM_eq_mapM_toList,Array.mapM_eq_mapM_toList]
  have e:∀ (s:Sem (List Value)),(Functor.map List.toArray s)=(s >>= fun l=>pure l.toArray):=fun s=>rfl
  rw[e,e]
  refine(NH _ _ (fun r ρ1 l1=>?_) _ (.refl hi)).bind' hi fun ρ1 l1 xs ys hxs=>SR.pure hxs.array
  have h1:=h.mono l1.1
  cases r with
  | tmp t=>exact SR.pure (h1.getD t)
  | cell a t=>exact(vL (h1.getD a)).bind' l1.2 fun ρ2 l2 a a' ha=>tY l2.2 t ha
 refine key.bind' hi fun ρ1 l1 xs ys hxs=>SR.pure ?_
 have hs:=hxs.1
 by_cases c:xs.size=1
 ·have c':ys.size=1:=hs ▸ c
  simp only[c,c',dif_pos]
  exact hxs.2 0 zo zo
 ·have c':¬ ys.size=1:=hs ▸ c
  simp only[c,c',dif_neg,not_false_eq_true]
  exact .tuple hxs.1 hxs.2
theorem Hf(ops:Array Oper){x x':Array Value}(h:dU ρ x x'):yielded ops x'=yielded ops x:=by
 funext j
 unfold yielded
 cases ((ops[j]?).bind (·.dst)) with
 | none=>rfl
 | some d=>
   rcases h.get? d with⟨a,b⟩|⟨v,v',a,b,c⟩
   ·simp only[Option.bind_some,a,b]
   ·simp only[Option.bind_some,a,b]
    cases c <;> rfl
theorem jw{F:FuncId→Prop}{a:Frame}(h:jE P F a)(v:Value):jE P F (a.finish v):=by
 obtain⟨fn,tmps,todo,defers,mode,kind,roundOf⟩:=a
 obtain⟨h1,h2,h3,h4,h5⟩:=h
 unfold Frame.finish
 dsimp only at h1 h2 h3 h4 h5⊢
 split
 ·rename_i ops i rest k
  refine⟨h1,fun x hx=>?_,h3,h4,h5⟩
  rcases List.mem_cons.1 hx with rfl|hx
  ·exact h2 (.inRegion ops (i :: rest)) zs
  ·exact h2 x (by simp[hx])
 ·refine⟨h1,fun x hx=>?_,h3,h4,h5⟩
  rcases List.mem_cons.1 hx with rfl|hx
  ·trivial
  ·exact h2 x (by simp[hx])
 ·exact⟨h1,fun x hx=>h2 x (by simp[hx]),h3,h4,h5⟩
 ·exact(h2 _ List.mem_cons_self).elim
 ·exact(h2 _ List.mem_cons_self).elim
 ·exact⟨h1,h2,h3,h4,h5⟩
theorem sG{g:FuncId}{x x':Array Value}(h:dU ρ x x'):Ae ρ (Frame.enter P g x .normal) (Frame.enter P g x' .normal):=by
 refine⟨rfl,rfl,rfl,?_,.cons (.code _) .nil,.nil ρ,.inl ⟨rfl,rfl⟩⟩
 simp only[Frame.enter]
 rw[h.1]
 exact h.append ⟨rfl,fun i a b=>by simp only[Array.getElem_replicate];exact .undef ρ⟩
theorem vU{F:FuncId→Prop}(hF:gG P F){g:FuncId}(hg:F g)(x:Array Value):jE P F (Frame.enter P g x .normal):=by
 obtain⟨f,c,h1,h2,h3,h4⟩:=hF.sv g hg
 refine⟨hg,fun i hi=>?_,⟨[],rfl⟩,.inl rfl,rfl⟩
 simp only[Frame.enter,h1,Option.bind_some,h2,Option.getD_some,List.mem_singleton] at hi
 subst hi
 exact h4
theorem Bt{l l':Nat}{g:FuncId}{x x':Array Value}{a b:Code}(hl:ρ l=some l')(h:dU ρ x x'):Ae ρ (Frame.round l g x a b .normal) (Frame.round l' g x' a b .normal):=
 ⟨rfl,rfl,rfl,h,.cons (.code _) (.cons .beginRound (.cons (.code _) .nil)),.nil ρ,.inr ⟨l,l',rfl,rfl,hl⟩⟩
theorem Gl{F:FuncId→Prop}(hF:gG P F){g:FuncId}{a b:Code}(ha:jc g a)(hb:jc g b)(l:Nat)(x:Array Value):jE P F (Frame.round l g x a b .normal):=by
 have h1:=(hF.env g a).1 ha
 have h2:=(hF.env g b).1 hb
 refine⟨h1.1,fun i hi=>?_,⟨[],rfl⟩,.inl rfl,rfl⟩
 simp only[Frame.round,List.mem_cons,List.not_mem_nil,or_false] at hi
 rcases hi with rfl|rfl|rfl
 ·exact h1.2
 ·trivial
 ·exact h2.2
theorem ql{id:Nat}:∀ {k k':List Item},exitTo id k=some k'→∀i∈k',i∈k:=by
 intro k
 induction k with
 | nil=>intro k' h;simp[exitTo] at h
 | cons a k ih=>
   intro k' h i hi
   cases a with
   | inBlock j=>
     simp only[exitTo] at h
     split at h
     ·cases h;simp[hi]
     ·exact List.mem_cons_of_mem _ (ih h i hi)
   | _=>simp only[exitTo] at h;exact List.mem_cons_of_mem _ (ih h i hi)
theorem Je{id:Nat}{k k':List Item}(h:fB ρ k k'):(exitTo id k=none∧exitTo id k'=none)∨∃x x',exitTo id k=some x∧exitTo id k'=some x'∧fB ρ x x':=by
 induction h with
 | nil=>exact .inl ⟨rfl,rfl⟩
 | @cons a b x y hab hxy ih=>
   cases hab with
   | inBlock i=>
     simp only[exitTo]
     by_cases e:(i == id)=true
     ·simp only[e,if_true];exact .inr ⟨_,_,rfl,rfl,hxy⟩
     ·simp only[e];exact ih
   | _=>simp only[exitTo];exact ih
def Ez(P:Program)(F:FuncId→Prop)(s:Frame × List Frame):Prop:=jE P F s.1∧∀c∈s.2,jE P F c
structure Ag(P:Program)(F:FuncId→Prop)(fr:Frame):Prop where
 op:∀ops i l k o c f,fr.mode=.run→fr.todo=.inRegion ops (i :: l) :: k→ops[i]? =some o→o.op=.call c→c.callee=.value f→ZF P F (fr.eval f)
 iter:∀f ps a b k,fr.mode=.run→fr.todo=.code (.rangeFunc f ps a b) :: k→ZF P F (fr.eval f)
theorem Tv{F:FuncId→Prop}{ev:Operand→Value}{o:Oper}(h:pO P o)(hp:ru o.op=false)(hl:∀c f,o.op=.call c→c.callee=.value f→ZF P F (ev f)):Sup P F ev o:=by
 obtain⟨-,h⟩:=h
 unfold Sup
 cases hop:o.op <;> rw[hop] at h hp <;> simp only at h
 all_goals first|exact h|(cases hp;done)|skip
 case call c=>
  dsimp only
  cases hc:c.callee <;> rw[hc] at h <;> simp only at h
  ·exact hl c _ hop hc
  ·exact h
section
variable{F:FuncId→Prop}{fr fr':Frame}{L L':List Frame}
theorem NP(hF:gG P F)(h:Ae ρ fr fr')(hL:Uo ρ L L')(ok:jE P F fr)(oZ:∀c∈L,jE P F c){n n':Next}(hn:NR F ρ n n'):
 SR P (fun ρ a b=>Yn ρ a b∧Ez P F a) ρ (uf P fr L n) (uf P fr' L' n'):=by
 cases n with
 | value v=>obtain⟨v',rfl,hv⟩:=hn;exact SR.pure ⟨⟨iw (P:=P) h ok.todo hv,hL⟩,jw ok _,oZ⟩
 | skip=>cases hn;exact SR.pure ⟨⟨iw (P:=P) h ok.todo (.undef ρ),hL⟩,jw ok _,oZ⟩
 | enter g a=>
   obtain⟨a',rfl,ha,hg⟩:=hn
   exact SR.pure ⟨⟨sG ha,.cons h hL⟩,vU hF hg _,by simp only[List.forall_mem_cons];exact⟨ok,oZ⟩⟩
 | round l g t a b=>
   obtain⟨l',t',rfl,hl,ht,ha,hb⟩:=hn
   exact SR.pure ⟨⟨Bt hl ht,.cons h hL⟩,Gl hF ha hb _ _,by simp only[List.forall_mem_cons];exact⟨ok,oZ⟩⟩
 | _=>exact hn.elim
theorem Nu(hF:gG P F)(h:Ae ρ fr fr')(hL:Uo ρ L L')(ok:jE P F fr)(oZ:∀c∈L,jE P F c){n n':Next}(hn:NR F ρ n n'):
 SR P (fun ρ a b=>Yn ρ a b∧Ez P F a) ρ (tV P fr L n) (tV P fr' L' n'):=by
 cases n with
 | value v=>exact trivial
 | skip=>exact trivial
 | enter g a=>
   obtain⟨a',rfl,ha,hg⟩:=hn
   exact SR.pure ⟨⟨sG ha,.cons h hL⟩,vU hF hg _,by simp only[List.forall_mem_cons];exact⟨ok,oZ⟩⟩
 | round l g t a b=>
   obtain⟨l',t',rfl,hl,ht,ha,hb⟩:=hn
   exact SR.pure ⟨⟨Bt hl ht,.cons h hL⟩,Gl hF ha hb _ _,by simp only[List.forall_mem_cons];exact⟨ok,oZ⟩⟩
 | _=>exact hn.elim
theorem Jv(hF:gG P F)(hi:dI ρ)(h:Ae ρ fr fr')(hL:Uo ρ L L')(ok:jE P F fr)(oZ:∀c∈L,jE P F c)(jump:Option Code)(hj:∀j,jump=some j→gH P j):
 SR P (fun ρ a b=>Yn ρ a b∧Ez P F a) ρ (kR fr L jump) (kR fr' L' jump):=by
 obtain⟨fn,tmps,todo,defers,mode,kind,roundOf⟩:=fr
 obtain⟨fn',uz,todo',defers',YR,kind',wT⟩:=fr'
 obtain⟨h1,h2,h3,h4,h5,h6,h7⟩:=h
 simp only at h1 h2 h3 h4 h5 h6 h7
 unfold kR
 dsimp only
 rcases h7 with⟨rfl,rfl⟩|⟨l,l',rfl,rfl,hl⟩
 ·dsimp only
  have hret:Ae ρ {fn:=fn,tmps:=tmps,todo:=todo,defers:=defers,mode:=.returning,kind:=kind,roundOf:=none } {fn:=fn',tmps:=uz,todo:=todo',defers:=defers',mode:=.returning,kind:=kind',roundOf:=none }:=⟨h1,rfl,h3,h4,h5,h6,.inl ⟨rfl,rfl⟩⟩
  have YS:jE P F {fn:=fn,tmps:=tmps,todo:=todo,defers:=defers,mode:=.returning,kind:=kind,roundOf:=none }:=⟨ok.fn,ok.todo,ok.defers,.inr rfl,ok.kind⟩
  cases jump with
  | none=>exact SR.pure ⟨⟨hret,hL⟩,YS,oZ⟩
  | some j=>
    cases j with
    | ret=>exact SR.pure ⟨⟨hret,hL⟩,YS,oZ⟩
    | _=>exact trivial
 ·dsimp only
  cases hL with
  | nil=>exact trivial
  | cons h1 h2=>
    simp only[List.forall_mem_cons] at oZ
    refine(C8 hi hl jump fun r hr j e=>(hF.env _ _).2 ⟨((hF.env _ _).1 hr.assign).1,hj j e⟩).bind' hi fun ρ1 l1 v v' hv=>SR.pure ⟨⟨iw (P:=P) (h1.mono l1.1) oZ.1.todo hv,h2.mono l1.1⟩,jw oZ.1 _,oZ.2⟩
end
theorem BH(hg:P.globals.size=0){F:FuncId→Prop}(hF:gG P F)(hi:dI ρ){s s':Frame × List Frame}(h:Yn ρ s s')(ok:Ez P F s)(hl:Ag P F s.1):
 SR P (fun ρ a b=>Yn ρ a b∧Ez P F a) ρ (fK P s.1 s.2) (fK P s'.1 s'.2):=by
 obtain⟨fr,L⟩:=s
 obtain⟨fr',L'⟩:=s'
 obtain⟨h,hL⟩:=h
 obtain⟨ok,oZ⟩:=ok
 simp only at h hL ok oZ hl
 have hev:∀x,pQ x→VR ρ (fr.eval x) (fr'.eval x):=fun x=>Fa h
 have DM:∀k:List Item,(∀i∈k,kK P i)→jE P F {fr with todo:=k }:=fun k hk=>⟨ok.fn,hk,ok.defers,ok.mode,ok.kind⟩
 have go:∀ {ρ1:Ren},Le ρ ρ1→∀ {k k':List Item},fB ρ1 k k'→(∀i∈k,kK P i)→(Yn ρ1 ({fr with todo:=k },L) ({fr' with todo:=k' },L')∧Ez P F ({fr with todo:=k },L)):=fun l k k' hkk hk=>⟨⟨Ub (h.mono l) hkk,hL.mono l⟩,DM _ hk,oZ⟩
 have hy:∀ops,yielded ops fr'.tmps=yielded ops fr.tmps:=fun ops=>Hf ops h.tmps
 have hlv:=fun jump hj=>Jv hF hi h hL ok oZ jump hj
 have hnx:=fun{ρ1:Ren} (l1:Le ρ ρ1) {n n':Next} (hn:NR F ρ1 n n')=>NP hF (h.mono l1) (hL.mono l1) ok oZ hn
 have br:=ok.todo
 have hm:=ok.mode
 have hF':=h
 obtain⟨fn,tmps,todo,defers,mode,kind,roundOf⟩:=fr
 obtain⟨fn',uz,todo',defers',YR,kind',wT⟩:=fr'
 obtain⟨h1,h2,h3,h4,h5,h6,h7⟩:=h
 simp only at h1 h2 h3 h4 h5 h6 h7 hm br
 subst h1
 subst h2
 subst h3
 unfold fK
 dsimp only
 rcases hm with rfl|rfl
 ·dsimp only
  cases h5 with
  | nil=>exact hlv none (fun j e=>by cases e)
  | @cons i i' k k' hii hkk=>
    have hk:∀i∈k,kK P i:=fun i hi=>br i (List.mem_cons_of_mem _ hi)
    have hh:=br i List.mem_cons_self
    cases hii with
    | code c=>
      cases c with
      | skip=>exact SR.pure (go (.refl ρ) hkk hk)
      | label l=>exact SR.pure (go (.refl ρ) hkk hk)
      | ret=>exact hlv (some .ret) (fun j e=>by cases e;trivial)
      | seq a b=>exact SR.pure (go (.refl ρ) (.cons (.code _) (.cons (.code _) hkk)) (by simp only[List.forall_mem_cons];exact⟨hh.1,hh.2,hk⟩))
      | cond x a b=>
        dsimp only
        have:=hev x hh.1
        revert this
        generalize Frame.eval _ x=v
        generalize Frame.eval _ x=v'
        intro this
        cases this with
        | bool b=>exact SR.pure (go (.refl ρ) (.cons (.code _) hkk) (by simp only[List.forall_mem_cons];refine⟨?_,hk⟩;cases b <;> first|exact hh.2.1|exact hh.2.2))
        | _=>exact trivial
      | block id b=>exact SR.pure (go (.refl ρ) (.cons (.code _) (.cons (.inBlock _) hkk)) (by simp only[List.forall_mem_cons];exact⟨hh,trivial,hk⟩))
      | loop b=>exact SR.pure (go (.refl ρ) (.cons (.code _) (.cons (.inLoop _) hkk)) (by simp only[List.forall_mem_cons];exact⟨hh,hh,hk⟩))
      | scope b=>exact SR.pure (go (.refl ρ) (.cons (.code _) (.cons (.inScope _) hkk)) (by simp only[List.forall_mem_cons];exact⟨hh,hh,hk⟩))
      | exit id=>
        dsimp only
        rcases Je (id:=id) hkk with⟨e1,e2⟩|⟨x,x',e1,e2,hx⟩
        ·rw[e1,e2]
         exact hlv (some (.exit id)) (fun j e=>by cases e;trivial)
        ·rw[e1,e2]
         exact SR.pure (go (.refl ρ) hx fun i hi=>hk i (ql e1 i hi))
      | region id ops draw=>
        dsimp only
        have hr:∀l,∀i∈(Item.inRegion ops l :: k),kK P i:=fun l=>by simp only[List.forall_mem_cons];exact⟨hh,hk⟩
        cases draw with
        | false=>exact SR.pure (go (.refl ρ) (.cons (.inRegion _ _) hkk) (hr _))
        | true=>exact(nX _).aN hi fun ρ1 l1 t=>SR.pure (go l1.1 (.cons (.inRegion _ _) (hkk.mono l1.1)) (hr _))
      | goto l=>exact hh.elim
      | rangeFunc f ps a b=>
        dsimp only
        have hf:VR ρ _ _:=hev f hh.1
        have bo:ZF P F _:=hl.iter f ps a b k rfl rfl
        refine(oQ hi h4 ps ((hF.env _ _).2 ⟨ok.fn,hh.2.1⟩) ((hF.env _ _).2 ⟨ok.fn,hh.2.2⟩) h7).bind' hi fun ρ1 l1 e e' he=>?_
        refine(Am l1.2 bo (hf.mono l1.1) (dU.push (dU.nil ρ1) (.yield he.1))).bind' l1.2 fun ρ2 l2 n n' hn=>?_
        have l12:=l1.1.trans l2.1
        have hfr:Ae ρ2 {fn:=fn',tmps:=tmps,todo:=.inRangeFunc e.1 :: k,defers:=e.2 ++ defers,mode:=.run,kind:=kind',roundOf:=roundOf } {fn:=fn',tmps:=uz,todo:=.inRangeFunc e'.1 :: k',defers:=e'.2 ++ defers',mode:=.run,kind:=kind',roundOf:=wT }:=⟨rfl,rfl,rfl,h4.mono l12,.cons (.inRangeFunc (l2.1 _ _ he.1)) (hkk.mono l12),(he.2.mono l2.1).append (h6.mono l12),h7.mono l12⟩
        refine Nu hF hfr (hL.mono l12) ?_ oZ hn
        refine⟨ok.fn,by simp only[List.forall_mem_cons];exact⟨trivial,hk⟩,?_,.inl rfl,ok.kind⟩
        obtain⟨x,_,e1,_⟩:=he.2
        obtain⟨y,e2⟩:=ok.defers
        simp only at e2
        exact⟨x ++ y,by simp[e1,e2]⟩
      | refuse y=>exact trivial
    | inBlock id=>exact SR.pure (go (.refl ρ) hkk hk)
    | inScope b=>exact SR.pure (go (.refl ρ) hkk hk)
    | inLoop b=>exact SR.pure (go (.refl ρ) (.cons (.code _) (.cons (.inLoop _) hkk)) (by simp only[List.forall_mem_cons];exact⟨hh,hh,hk⟩))
    | inRangeFunc hlp=>exact trivial
    | endRangeFunc hlp=>
      dsimp only
      refine(tN hi hlp).bind' hi fun ρ1 l1 j j' ⟨hj,hok⟩=>?_
      subst hj
      refine SR.pure (go l1.1 ?_ ?_)
      ·cases j with
       | none=>exact hkk.mono l1.1
       | some c=>exact .cons (.code c) (hkk.mono l1.1)
      ·cases j with
       | none=>exact hk
       | some c=>
         obtain⟨f,hf⟩:=hok c rfl
         simp only[Option.map_some,Option.toList_some,List.singleton_append,List.forall_mem_cons]
         exact⟨((hF.env _ _).1 hf).2,hk⟩
    | beginRound=>
      dsimp only
      rcases h7 with⟨rfl,rfl⟩|⟨l,l',rfl,rfl,hl⟩
      ·exact trivial
      ·exact(ny hi hl).aN hi fun ρ1 l1 _=>SR.pure ⟨⟨iw (P:=P) (hF'.mono l1.1) ok.todo (.undef ρ1),hL.mono l1.1⟩,jw ok undef,oZ⟩
    | inRegion ops l=>
      cases l with
      | nil=>exact SR.pure (go (.refl ρ) hkk hk)
      | cons j l=>
        dsimp only
        rw[hy]
        cases hw:((ops[j]?).map (Region.wanted · (yielded ops tmps))).getD false with
        | false=>exact SR.pure ⟨⟨iw (P:=P) hF' ok.todo (.undef ρ),hL⟩,jw ok undef,oZ⟩
        | true=>
          simp only[if_true]
          cases ho:ops[j]? with
          | none=>exact trivial
          | some o=>
            have Pq:pO P o:=hh o (Array.mem_of_getElem? ho)
            dsimp only
            cases hpn:ru o.op with
            | true=>exact trivial
            | false=>
              simp only[Bool.false_eq_true,if_false]
              have hsup:=Tv Pq hpn fun c f hc hf=>hl.op ops j l k o c f rfl rfl ho hc hf
              exact(vW hg hi hsup fun x hx=>hev x (Pq.1 x hx)).bind' hi fun ρ1 l1 n n' hn=>hnx l1.1 hn
 ·dsimp only
  rcases h6.cases with⟨rfl,rfl⟩|⟨r,r',d,d',rfl,rfl,hr,hd⟩
  ·dsimp only
   cases P.funcs[fn']? with
   | none=>exact trivial
   | some LI=>
     cases hL with
     | nil=>exact trivial
     | cons h1 h2=>
       simp only[List.forall_mem_cons] at oZ
       refine(uh hi LI h4).bind' hi fun ρ1 l1 v v' hv=>SR.pure ⟨⟨iw (P:=P) (h1.mono l1.1) oZ.1.todo hv,h2.mono l1.1⟩,jw oZ.1 _,oZ.2⟩
  ·dsimp only[iZ]
   refine(sW hi hr).bind' hi fun ρ1 l1 a b ⟨ea,eb⟩=>?_
   subst ea
   subst eb
   refine SR.pure ⟨⟨⟨rfl,rfl,rfl,h4.mono l1.1,h5.mono l1.1,hd.mono l1.1,h7.mono l1.1⟩,hL.mono l1.1⟩,⟨ok.fn,ok.todo,?_,.inr rfl,ok.kind⟩,oZ⟩
   obtain⟨x,e⟩:=ok.defers
   cases x with
   | nil=>simp at e
   | cons q x=>simp only[List.map_cons,List.cons.injEq] at e;exact⟨x,by simp[e.2]⟩
end
section
variable[Inhabited aS]
open Go.Conc
variable{P:Program}{ρ:Ren}
def vF(w:World)(d:Deferred):Prop:=∃r,d=iZ r∧∀ds,w.heap[r]? =some (.deferred (some ds))→ds=[]
structure iU(P:Program)(w:World)(fr:Frame):Prop where
 fn:(P.funcs[fr.fn]?).isSome=true
 marks:∀d∈fr.defers,vF w d
structure Mq(P:Program)(g:Goroutine)(w:World):Prop where
 cases:g.dying.isSome=true∨(g.status=.blocked∨g.status=.waiting∨g.status=.finished)∨
  (g.status=.running∧g.dying=none∧(∃chain,g.frame.mode=.panicking chain)∧iU P w g.frame∧∀c∈g.callers,iU P w c)
theorem aU{a:Goroutine}{w w':World}{o:Outcome}{es:Array Event}(h:stepG P true a w=.ended o w' es):(runT P (solo a w) 0).1=.ended o w':=by
 simp[runT,solo,Array.swapAt!,Array.swapAt,h,GStep.es]
theorem mK{g:Goroutine}{w:World}{m1:Machine}(h:g.status=.blocked∨g.status=.waiting∨g.status=.finished)(hs:step P (solo g w)=.next m1):m1=solo g w:=by
 rw[step,stepT] at hs
 rcases h with h|h|h
 ·simp[move,ask,askOn,solo,runnable_eq,due,ahead,Goroutine.canRun,List.range_succ,pure,h] at hs
  split at hs <;> rename_i heq <;> split at heq <;> simp_all
 ·simp[move,ask,askOn,solo,runnable_eq,due,ahead,Goroutine.canRun,List.range_succ,pure,h] at hs
  rw[← hs];simp[solo]
 ·simp[move,ask,askOn,solo,runnable_eq,due,ahead,Goroutine.canRun,List.range_succ,pure,h] at hs
  split at hs <;> rename_i heq <;> split at heq <;> simp_all
theorem raise_mode(c:Frame)(vs:List PanicEntry):(∃chain,(c.raise vs).mode=.panicking chain)∧(c.raise vs).defers=c.defers∧(c.raise vs).fn=c.fn:=by
 unfold Frame.raise
 split
 ·exact⟨⟨_,rfl⟩,rfl,rfl⟩
 ·exact⟨⟨_,rfl⟩,rfl,rfl⟩
theorem iU.raise{w:World}{c:Frame}(h:iU P w c)(vs:List PanicEntry):iU P w (c.raise vs):=by
 obtain⟨_,r2,r3⟩:=raise_mode c vs
 exact⟨by rw[r3];exact h.fn,by rw[r2];exact h.marks⟩
theorem vF.taken{w:World}{d:Deferred}(h:vF w d)(q:Nat):vF {w with heap:=w.heap.setIfInBounds q (.deferred none) } d:=by
 obtain⟨r,e,h⟩:=h
 refine⟨r,e,fun ds hd=>?_⟩
 by_cases hq:q=r
 ·subst hq
  rcases Nat.lt_or_ge q w.heap.size with c|c
  ·simp[c] at hd
  ·simp[c] at hd
 ·simp only[Array.getElem?_setIfInBounds_ne hq] at hd
  exact h ds hd
theorem iU.taken{w:World}{c:Frame}(h:iU P w c)(q:Nat):iU P {w with heap:=w.heap.setIfInBounds q (.deferred none) } c:=⟨h.fn,fun d hd=>(h.marks d hd).taken q⟩
theorem Nb{g:Goroutine}{w:World}{m1:Machine}(hd:Mq P g w)(ha:g.dying.isNone=true)(hs:step P (solo g w)=.next m1):∃g1 w1,m1=solo g1 w1∧Mq P g1 w1:=by
 rcases hd.cases with h|h|⟨h1,h2,⟨chain,h3⟩,h4,h6⟩
 ·rw[Option.isNone_iff_eq_none] at ha;rw[ha] at h;cases h
 ·exact⟨g,w,mK h hs,⟨.inr (.inl h)⟩⟩
 ·obtain⟨fr,callers,status,dying,offers⟩:=g
  simp only at h1 h2 h3 h4 h6
  subst h1;subst h2
  rw[step,stepT_solo rfl] at hs
  have Dj:fr.catches P=false:=by
   unfold Frame.catches
   obtain⟨f,hf⟩:=Option.isSome_iff_exists.1 h4.fn
   rw[hf]
  have e:stepG P true {frame:=fr,callers:=callers,status:=.running,dying:=none,offers:=offers } w=unwind P true fr callers none w:=by
   simp[stepG,h3]
  have hmk:=h4.marks
  cases hdf:fr.defers with
  | cons d ds=>
    rw[hdf] at hmk
    simp only[List.forall_mem_cons] at hmk
    obtain⟨⟨r,rfl,hr⟩,hds⟩:=hmk
    have e1:stepG P true {frame:=fr,callers:=callers,status:=.running,dying:=none,offers:=offers } w
     =(let (r,es):=(Instr.takeDeferred r).runT P w #[]
      GStep.after (seen P fr.fn es) <| match r with
      | .ok calls w=>.go {frame:={fr with defers:=calls ++ ds },callers,status:=.running,dying:=none } w
      | .halt _ w=>.ended (.stuck "the deferred calls of a range-over-func loop have been taken" (fr.pos P)) w):=by
     rw[e];simp only[unwind,hdf,iZ] <;> rfl
    have key:(∃o,(runT P (solo {frame:=fr,callers:=callers,status:=.running,dying:=none,offers:=offers } w) 0).1=.ended o w)∨
     (w.heap[r]? =some (.deferred (some []))∧(runT P (solo {frame:=fr,callers:=callers,status:=.running,dying:=none,offers:=offers } w) 0).1=.next (solo {frame:={fr with defers:=ds },callers,status:=.running,dying:=none } {w with heap:=w.heap.setIfInBounds r (.deferred none) })):=by
     have bad:∀es:Array Event,∀h:Halt,(Instr.takeDeferred r).runT P w #[]=(.halt h w,es)→∃o,(runT P (solo {frame:=fr,callers:=callers,status:=.running,dying:=none,offers:=offers } w) 0).1=.ended o w:=fun es h hh=>by
      rw[hh] at e1
      exact⟨_,aU (es:=_) (e1.trans (by simp only[GStep.after] <;> rfl))⟩
     cases ho:w.heap[r]? with
     | none=>exact .inl (bad #[] _ (by simp[Instr.takeDeferred,getObj,Bind.bind,Sem.bind,Sem.runT,ho,-Sem.runT_eq];first|rfl|exact⟨rfl,rfl⟩))
     | some o=>
       cases o with
       | deferred c=>
         cases c with
         | none=>exact .inl (bad _ _ (by simp[Instr.takeDeferred,getObj,Bind.bind,Sem.bind,Sem.runT,ho,stuck,-Sem.runT_eq];first|rfl|exact⟨rfl,rfl⟩))
         | some l=>
           obtain rfl:=hr l ho
           refine .inr ⟨rfl,?_⟩
           have hrun:∃es,(Instr.takeDeferred r).runT P w #[]=(.ok [] {w with heap:=w.heap.setIfInBounds r (.deferred none) },es):=⟨_,by simp[Instr.takeDeferred,getObj,setObj,Bind.bind,Sem.bind,Sem.runT,ho,Pure.pure,-Sem.runT_eq];rfl⟩
           obtain⟨es,hrun⟩:=hrun
           rw[hrun] at e1
           have:=runT_solo_go (P:=P) (a:={frame:=fr,callers:=callers,status:=.running,dying:=none,offers:=offers }) (a':={frame:={fr with defers:=ds },callers,status:=.running,dying:=none }) (w:=w) (w':={w with heap:=w.heap.setIfInBounds r (.deferred none) }) (es:=seen P fr.fn es ++ #[]) (by rw[e1];simp[GStep.after])
           rw[this]
       | cells c t f=>exact .inl (bad _ _ (by simp[Instr.takeDeferred,getObj,Bind.bind,Sem.bind,Sem.runT,ho,-Sem.runT_eq];first|rfl|exact⟨rfl,rfl⟩))
       | _=>exact .inl (bad _ _ (by simp[Instr.takeDeferred,getObj,Bind.bind,Sem.bind,Sem.runT,ho,stuck,-Sem.runT_eq];first|rfl|exact⟨rfl,rfl⟩))
    rcases key with⟨o,k⟩|⟨_,k⟩
    ·rw[k] at hs;cases hs
    ·rw[k] at hs
     simp only[Stepped.next.injEq] at hs
     refine⟨_,_,hs.symm,⟨.inr (.inr ⟨rfl,rfl,⟨chain,h3⟩,⟨h4.fn,fun d hd=>(hds d hd).taken r⟩,fun c hc=>(h6 c hc).taken r⟩)⟩⟩
  | nil=>
    cases callers with
    | cons c rest=>
      have e2:stepG P true {frame:=fr,callers:=c :: rest,status:=.running,dying:=none,offers:=offers } w=.go {frame:=c.raise chain,callers:=rest,status:=.running,dying:=none } w #[]:=by
       rw[e];simp[unwind,hdf,h3,Dj]
      rw[runT_solo_go e2] at hs
      cases hs
      simp only[List.forall_mem_cons] at h6
      exact⟨_,w,rfl,⟨.inr (.inr ⟨rfl,rfl,(raise_mode c chain).1,h6.1.raise chain,h6.2⟩)⟩⟩
    | nil=>
      by_cases hg:chain.head?.any (·.goexit)=true
      ·have e2:stepG P true {frame:=fr,callers:=[],status:=.running,dying:=none,offers:=offers } w=.go {frame:=fr,callers:=[],status:=.finished,dying:=none } w #[]:=by
        rw[e];simp only[unwind,hdf,h3,Dj,Bool.false_eq_true,if_false,if_pos hg]
       rw[runT_solo_go e2] at hs
       cases hs
       exact⟨_,w,rfl,⟨.inr (.inl (.inr (.inr rfl)))⟩⟩
      ·cases hr:(reportChain chain false).run P w with
       | ok todo w2=>
         have e2:=e
         simp only[unwind,hdf,h3,Dj,Bool.false_eq_true,if_false,if_neg hg,hr] at e2
         rw[runT_solo_go e2] at hs
         cases hs
         exact⟨_,w2,rfl,⟨.inl rfl⟩⟩
       | halt h0 w2=>
         have e2:=e
         simp only[unwind,hdf,h3,Dj,Bool.false_eq_true,if_false,if_neg hg,hr] at e2
         cases h0 <;> (simp only at e2;rw[aU e2] at hs;cases hs)
theorem Na{F:Fence}(hal:F.alive=true){m m':Machine}(h:StepsIn (Machine.fenced P F) P m m'):∀ {g:Goroutine} {w:World},m=solo g w→Mq P g w→∃g1 w1,m'=solo g1 w1∧Mq P g1 w1:=by
 induction h with
 | refl m=>intro g w e hd;exact⟨g,w,e,hd⟩
 | head hI hs _ ih=>
   intro g w e hd
   subst e
   have ha:=(hI g (by simp[solo])).1 hal
   obtain⟨g1,w1,e1,hd1⟩:=Nb hd ha hs
   exact ih e1 hd1
end
end Go.cu
