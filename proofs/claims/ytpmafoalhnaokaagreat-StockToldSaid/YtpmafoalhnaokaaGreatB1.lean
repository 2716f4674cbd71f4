/- Par15 Par16 Par17 Par17b Par18 Par19 Par20 Par21 Par22 -/
import Derived.Test.YtpmafoalhnaokaaGreatB0
import Derived.Conc.Fork
import Derived.CallsIn
set_option maxRecDepth 100000
set_option maxHeartbeats 16000000
set_option linter.unusedVariables false
set_option linter.unusedSectionVars false
set_option linter.unusedSimpArgs false
namespace Go.bZ
section
variable[Inhabited aT]
variable{P:Program}{ρ:Ren}
inductive kG (ρ:Ren):Item→Item→Prop
 | code (c:Code):kG ρ (.code c) (.code c)
 | inBlock (i:Nat):kG ρ (.inBlock i) (.inBlock i)
 | inLoop (c:Code):kG ρ (.inLoop c) (.inLoop c)
 | inScope (c:Code):kG ρ (.inScope c) (.inScope c)
 | inRegion (o:Array Oper) (l:List Nat):kG ρ (.inRegion o l) (.inRegion o l)
 | beginRound:kG ρ .beginRound .beginRound
 | inRangeFunc {l l':Nat}:ρ l=some l'→kG ρ (.inRangeFunc l) (.inRangeFunc l')
 | endRangeFunc {l l':Nat}:ρ l=some l'→kG ρ (.endRangeFunc l) (.endRangeFunc l')
theorem kG.mono{ρ':Ren}(l:Le ρ ρ'){a b:Item}(h:kG ρ a b):kG ρ' a b:=by
 cases h with
 | code c=>exact .code c
 | inBlock i=>exact .inBlock i
 | inLoop c=>exact .inLoop c
 | inScope c=>exact .inScope c
 | inRegion o l=>exact .inRegion o l
 | beginRound=>exact .beginRound
 | inRangeFunc h=>exact .inRangeFunc (l _ _ h)
 | endRangeFunc h=>exact .endRangeFunc (l _ _ h)
inductive fG (ρ:Ren):List Item→List Item→Prop
 | nil:fG ρ [] []
 | cons {a b:Item} {x y:List Item}:kG ρ a b→fG ρ x y→fG ρ (a :: x) (b :: y)
theorem fG.mono{ρ':Ren}(l:Le ρ ρ'){a b:List Item}(h:fG ρ a b):fG ρ' a b:=by
 induction h with
 | nil=>exact .nil
 | cons h _ ih=>exact .cons (h.mono l) ih
theorem fG.append{a b c d:List Item}(h:fG ρ a b)(k:fG ρ c d):fG ρ (a ++ c) (b ++ d):=by
 induction h with
 | nil=>exact k
 | cons h _ ih=>exact .cons h ih
def Ea(ρ:Ren)(a b:Option Nat):Prop:=(a=none∧b=none)∨∃l l',a=some l∧b=some l'∧ρ l=some l'
theorem Ea.mono{ρ':Ren}(l:Le ρ ρ'){a b:Option Nat}(h:Ea ρ a b):Ea ρ' a b:=h.imp id fun⟨x,y,e1,e2,e3⟩=>⟨x,y,e1,e2,l _ _ e3⟩
structure Ci(ρ:Ren)(fr fr':Frame):Prop where
 fn:fr'.fn=fr.fn
 mode:fr'.mode=fr.mode
 kind:fr'.kind=fr.kind
 tmps:dW ρ fr.tmps fr'.tmps
 todo:fG ρ fr.todo fr'.todo
 defers:dQ ρ fr.defers fr'.defers
 round:Ea ρ fr.roundOf fr'.roundOf
inductive WS (ρ:Ren):List Frame→List Frame→Prop
 | nil:WS ρ [] []
 | cons {a b:Frame} {l m:List Frame}:Ci ρ a b→WS ρ l m→WS ρ (a :: l) (b :: m)
theorem Ci.mono{ρ':Ren}(l:Le ρ ρ'){a b:Frame}(h:Ci ρ a b):Ci ρ' a b:=⟨h.fn,h.mode,h.kind,h.tmps.mono l,h.todo.mono l,h.defers.mono l,h.round.mono l⟩
theorem WS.mono{ρ':Ren}(l:Le ρ ρ'){a b:List Frame}(h:WS ρ a b):WS ρ' a b:=by
 induction h with
 | nil=>exact .nil
 | cons h _ ih=>exact .cons (h.mono l) ih
def cD(ρ:Ren)(a b:Frame × List Frame):Prop:=Ci ρ a.1 b.1∧WS ρ a.2 b.2
theorem GN{a b:Frame}(h:Ci ρ a b){x:Operand}(hx:qM x):VR ρ (a.eval x) (b.eval x):=by
 cases x with
 | tmp t=>exact h.tmps.getD t
 | const v=>exact hx ρ
 | global g=>exact hx.elim
 | func f=>exact .func f rfl (fun i h=>by simp at h) rfl (fun i h=>by simp at h)
theorem Ww{a b:Frame}(h:Ci ρ a b){k k':List Item}(hk:fG ρ k k'):Ci ρ {a with todo:=k } {b with todo:=k' }:=⟨h.fn,h.mode,h.kind,h.tmps,hk,h.defers,h.round⟩
theorem iJ{a b:Frame}(h:Ci ρ a b)(hk:∀i∈a.todo,kS P i){v v':Value}(hv:VR ρ v v'):Ci ρ (a.finish v) (b.finish v'):=by
 obtain⟨fn,tmps,todo,defers,mode,kind,roundOf⟩:=a
 obtain⟨fn',vS,todo',defers',eE,kind',yH⟩:=b
 obtain⟨h1,h2,h3,h4,h5,h6,h7⟩:=h
 simp only at h1 h2 h3 h4 h5 h6 h7 hk
 cases h5 with
 | nil=>exact⟨h1,h2,h3,h4,.nil,h6,h7⟩
 | @cons i i' k k' hi hks=>
   cases hi with
   | inRegion ops l=>
     cases l with
     | nil=>exact⟨h1,h2,h3,h4,.cons (.inRegion _ _) hks,h6,h7⟩
     | cons j l=>
       refine⟨h1,h2,h3,?_,.cons (.inRegion _ _) hks,h6,h7⟩
       simp only[Frame.finish]
       cases ((ops[j]?).bind (·.dst)) with
       | none=>exact h4
       | some d=>exact h4.set d hv
   | inRangeFunc hl=>exact⟨h1,h2,h3,h4,.cons (.endRangeFunc hl) hks,h6,h7⟩
   | beginRound=>exact⟨h1,h2,h3,h4,hks,h6,h7⟩
   | code c=>exact⟨h1,h2,h3,h4,.cons (.code c) hks,h6,h7⟩
   | inBlock i=>exact⟨h1,h2,h3,h4,.cons (.inBlock i) hks,h6,h7⟩
   | inLoop c=>exact⟨h1,h2,h3,h4,.cons (.inLoop c) hks,h6,h7⟩
   | inScope c=>exact⟨h1,h2,h3,h4,.cons (.inScope c) hks,h6,h7⟩
   | endRangeFunc hl=>exact⟨h1,h2,h3,h4,.cons (.endRangeFunc hl) hks,h6,h7⟩
theorem PW{α:Type}(f f':α→Sem Value)(hf:∀a {ρ':Ren},Ext ρ ρ'→SR P VR ρ' (f a) (f' a)):∀ (l:List α) {ρ':Ren},Ext ρ ρ'→SR P LR ρ' (l.mapM f) (l.mapM f'):=by
 intro l
 induction l with
 | nil=>intro ρ' hi;simp only[List.mapM_nil];exact SR.pure .nil
 | cons a l ih=>
   intro ρ1 hi
   simp only[List.mapM_cons]
   refine(hf a hi).bind' hi.2 fun ρ2 l2 x y hx=>?_
   refine(ih (hi.trans l2)).bind' l2.2 fun ρ3 l3 xs ys hxs=>?_
   exact SR.pure (.cons (hx.mono l3.1) hxs)
theorem LR.array{l l':List Value}(h:LR ρ l l'):dW ρ l.toArray l'.toArray:=by
 induction h with
 | nil=>exact .nil ρ
 | cons hv _ ih=>
   have:=dW.append (ρ:=ρ) (dW.push (.nil ρ) hv) ih
   simpa using this
theorem vJ(hi:dL ρ)(fn:Func){x x':Array Value}(h:dW ρ x x'):SR P VR ρ (results fn x) (results fn x'):=by
 unfold results
 have key:SR P dW ρ (fn.results.mapM fun r=>(match r with| .tmp t=>pure (x.getD t undef)| .cell a t=>do loadVar t (← asAddr (x.getD a undef)):Sem Value))
  (fn.results.mapM fun r=>(match r with| .tmp t=>pure (x'.getD t undef)| .cell a t=>do loadVar t (← asAddr (x'.getD a undef)):Sem Value)):=by
  rw[Array.mapM_eq_mapM_toList,Array.mapM_eq_mapM_toList]
  have e:∀ (s:Sem (List Value)),(Functor.map List.toArray s)=(s >>= fun l=>pure l.toArray):=fun s=>rfl
  rw[e,e]
  refine(PW _ _ (fun r ρ1 l1=>?_) _ (.refl hi)).bind' hi fun ρ1 l1 xs ys hxs=>SR.pure hxs.array
  have h1:=h.mono l1.1
  cases r with
  | tmp t=>exact SR.pure (h1.getD t)
  | cell a t=>exact(xw (h1.getD a)).bind' l1.2 fun ρ2 l2 a a' ha=>vE l2.2 t ha
 refine key.bind' hi fun ρ1 l1 xs ys hxs=>SR.pure ?_
 have hs:=hxs.1
 by_cases c:xs.size=1
 ·have c':ys.size=1:=hs ▸ c
  simp only[c,c',dif_pos]
  exact hxs.2 0 zo zo
 ·have c':¬ ys.size=1:=hs ▸ c
  simp only[c,c',dif_neg,not_false_eq_true]
  exact .tuple hxs.1 hxs.2
theorem Jv(ops:Array Oper){x x':Array Value}(h:dW ρ x x'):yielded ops x'=yielded ops x:=by
 funext j
 unfold yielded
 cases ((ops[j]?).bind (·.dst)) with
 | none=>rfl
 | some d=>
   rcases h.get? d with⟨a,b⟩|⟨v,v',a,b,c⟩
   ·simp only[Option.bind_some,a,b]
   ·simp only[Option.bind_some,a,b]
    cases c <;> rfl
theorem jL{F:FuncId→Prop}{a:Frame}(h:jP P F a)(v:Value):jP P F (a.finish v):=by
 obtain⟨fn,tmps,todo,defers,mode,kind,roundOf⟩:=a
 obtain⟨h1,h2,h3,h4,h5⟩:=h
 unfold Frame.finish
 dsimp only at h1 h2 h3 h4 h5⊢
 split
 ·rename_i ops i rest k
  refine⟨h1,fun x hx=>?_,h3,h4,h5⟩
  rcases List.mem_cons.1 hx with rfl|hx
  ·exact h2 (.inRegion ops (i :: rest)) zs
  ·exact h2 x (by simp[hx])
 ·refine⟨h1,fun x hx=>?_,h3,h4,h5⟩
  rcases List.mem_cons.1 hx with rfl|hx
  ·trivial
  ·exact h2 x (by simp[hx])
 ·exact⟨h1,fun x hx=>h2 x (by simp[hx]),h3,h4,h5⟩
 ·exact(h2 _ List.mem_cons_self).elim
 ·exact(h2 _ List.mem_cons_self).elim
 ·exact⟨h1,h2,h3,h4,h5⟩
theorem uz{g:FuncId}{x x':Array Value}(h:dW ρ x x'):Ci ρ (Frame.enter P g x .normal) (Frame.enter P g x' .normal):=by
 refine⟨rfl,rfl,rfl,?_,.cons (.code _) .nil,.nil ρ,.inl ⟨rfl,rfl⟩⟩
 simp only[Frame.enter]
 rw[h.1]
 exact h.append ⟨rfl,fun i a b=>by simp only[Array.getElem_replicate];exact .undef ρ⟩
theorem xI{F:FuncId→Prop}(hF:gV P F){g:FuncId}(hg:F g)(x:Array Value):jP P F (Frame.enter P g x .normal):=by
 obtain⟨f,c,h1,h2,h3,h4⟩:=hF.sv g hg
 refine⟨hg,fun i hi=>?_,⟨[],rfl⟩,.inl rfl,rfl⟩
 simp only[Frame.enter,h1,Option.bind_some,h2,Option.getD_some,List.mem_singleton] at hi
 subst hi
 exact h4
theorem Dj{l l':Nat}{g:FuncId}{x x':Array Value}{a b:Code}(hl:ρ l=some l')(h:dW ρ x x'):Ci ρ (Frame.round l g x a b .normal) (Frame.round l' g x' a b .normal):=
 ⟨rfl,rfl,rfl,h,.cons (.code _) (.cons .beginRound (.cons (.code _) .nil)),.nil ρ,.inr ⟨l,l',rfl,rfl,hl⟩⟩
theorem IU{F:FuncId→Prop}(hF:gV P F){g:FuncId}{a b:Code}(ha:jr g a)(hb:jr g b)(l:Nat)(x:Array Value):jP P F (Frame.round l g x a b .normal):=by
 have h1:=(hF.env g a).1 ha
 have h2:=(hF.env g b).1 hb
 refine⟨h1.1,fun i hi=>?_,⟨[],rfl⟩,.inl rfl,rfl⟩
 simp only[Frame.round,List.mem_cons,List.not_mem_nil,or_false] at hi
 rcases hi with rfl|rfl|rfl
 ·exact h1.2
 ·trivial
 ·exact h2.2
theorem qR{id:Nat}:∀ {k k':List Item},exitTo id k=some k'→∀i∈k',i∈k:=by
 intro k
 induction k with
 | nil=>intro k' h;simp[exitTo] at h
 | cons a k ih=>
   intro k' h i hi
   cases a with
   | inBlock j=>
     simp only[exitTo] at h
     split at h
     ·cases h;simp[hi]
     ·exact List.mem_cons_of_mem _ (ih h i hi)
   | _=>simp only[exitTo] at h;exact List.mem_cons_of_mem _ (ih h i hi)
theorem KD{id:Nat}{k k':List Item}(h:fG ρ k k'):(exitTo id k=none∧exitTo id k'=none)∨∃x x',exitTo id k=some x∧exitTo id k'=some x'∧fG ρ x x':=by
 induction h with
 | nil=>exact .inl ⟨rfl,rfl⟩
 | @cons a b x y hab hxy ih=>
   cases hab with
   | inBlock i=>
     simp only[exitTo]
     by_cases e:(i == id)=true
     ·simp only[e,if_true];exact .inr ⟨_,_,rfl,rfl,hxy⟩
     ·simp only[e];exact ih
   | _=>simp only[exitTo];exact ih
def F7(P:Program)(F:FuncId→Prop)(s:Frame × List Frame):Prop:=jP P F s.1∧∀c∈s.2,jP P F c
structure Cj(P:Program)(F:FuncId→Prop)(fr:Frame):Prop where
 op:∀ops i l k o c f,fr.mode=.run→fr.todo=.inRegion ops (i :: l) :: k→ops[i]? =some o→o.op=.call c→c.callee=.value f→gv P F (fr.eval f)
 iter:∀f ps a b k,fr.mode=.run→fr.todo=.code (.rangeFunc f ps a b) :: k→gv P F (fr.eval f)
theorem VI{F:FuncId→Prop}{ev:Operand→Value}{o:Oper}(h:qL P o)(hp:sN o.op=false)(hl:∀c f,o.op=.call c→c.callee=.value f→gv P F (ev f)):Sup P F ev o:=by
 obtain⟨-,h⟩:=h
 unfold Sup
 cases hop:o.op <;> rw[hop] at h hp <;> simp only at h
 all_goals first|exact h|(cases hp;done)|skip
 case call c=>
  dsimp only
  cases hc:c.callee <;> rw[hc] at h <;> simp only at h
  ·exact hl c _ hop hc
  ·exact h
section
variable{F:FuncId→Prop}{fr fr':Frame}{L L':List Frame}
theorem P8(hF:gV P F)(h:Ci ρ fr fr')(hL:WS ρ L L')(ok:jP P F fr)(qz:∀c∈L,jP P F c){n n':Next}(hn:NR F ρ n n'):
 SR P (fun ρ a b=>cD ρ a b∧F7 P F a) ρ (vH P fr L n) (vH P fr' L' n'):=by
 cases n with
 | value v=>obtain⟨v',rfl,hv⟩:=hn;exact SR.pure ⟨⟨iJ (P:=P) h ok.todo hv,hL⟩,jL ok _,qz⟩
 | skip=>cases hn;exact SR.pure ⟨⟨iJ (P:=P) h ok.todo (.undef ρ),hL⟩,jL ok _,qz⟩
 | enter g a=>
   obtain⟨a',rfl,ha,hg⟩:=hn
   exact SR.pure ⟨⟨uz ha,.cons h hL⟩,xI hF hg _,by simp only[List.forall_mem_cons];exact⟨ok,qz⟩⟩
 | round l g t a b=>
   obtain⟨l',t',rfl,hl,ht,ha,hb⟩:=hn
   exact SR.pure ⟨⟨Dj hl ht,.cons h hL⟩,IU hF ha hb _ _,by simp only[List.forall_mem_cons];exact⟨ok,qz⟩⟩
 | _=>exact hn.elim
theorem PG(hF:gV P F)(h:Ci ρ fr fr')(hL:WS ρ L L')(ok:jP P F fr)(qz:∀c∈L,jP P F c){n n':Next}(hn:NR F ρ n n'):
 SR P (fun ρ a b=>cD ρ a b∧F7 P F a) ρ (vC P fr L n) (vC P fr' L' n'):=by
 cases n with
 | value v=>exact zT
 | skip=>exact zT
 | enter g a=>
   obtain⟨a',rfl,ha,hg⟩:=hn
   exact SR.pure ⟨⟨uz ha,.cons h hL⟩,xI hF hg _,by simp only[List.forall_mem_cons];exact⟨ok,qz⟩⟩
 | round l g t a b=>
   obtain⟨l',t',rfl,hl,ht,ha,hb⟩:=hn
   exact SR.pure ⟨⟨Dj hl ht,.cons h hL⟩,IU hF ha hb _ _,by simp only[List.forall_mem_cons];exact⟨ok,qz⟩⟩
 | _=>exact hn.elim
theorem La(hF:gV P F)(hi:dL ρ)(h:Ci ρ fr fr')(hL:WS ρ L L')(ok:jP P F fr)(qz:∀c∈L,jP P F c)(jump:Option Code)(hj:∀j,jump=some j→gW P j):
 SR P (fun ρ a b=>cD ρ a b∧F7 P F a) ρ (lq fr L jump) (lq fr' L' jump):=by
 obtain⟨fn,tmps,todo,defers,mode,kind,roundOf⟩:=fr
 obtain⟨fn',vS,todo',defers',eE,kind',yH⟩:=fr'
 obtain⟨h1,h2,h3,h4,h5,h6,h7⟩:=h
 simp only at h1 h2 h3 h4 h5 h6 h7
 unfold lq
 dsimp only
 rcases h7 with⟨rfl,rfl⟩|⟨l,l',rfl,rfl,hl⟩
 ·dsimp only
  have hret:Ci ρ {fn:=fn,tmps:=tmps,todo:=todo,defers:=defers,mode:=.returning,kind:=kind,roundOf:=none } {fn:=fn',tmps:=vS,todo:=todo',defers:=defers',mode:=.returning,kind:=kind',roundOf:=none }:=⟨h1,rfl,h3,h4,h5,h6,.inl ⟨rfl,rfl⟩⟩
  have eN:jP P F {fn:=fn,tmps:=tmps,todo:=todo,defers:=defers,mode:=.returning,kind:=kind,roundOf:=none }:=⟨ok.fn,ok.todo,ok.defers,.inr rfl,ok.kind⟩
  cases jump with
  | none=>exact SR.pure ⟨⟨hret,hL⟩,eN,qz⟩
  | some j=>
    cases j with
    | ret=>exact SR.pure ⟨⟨hret,hL⟩,eN,qz⟩
    | _=>exact zT
 ·dsimp only
  cases hL with
  | nil=>exact zT
  | cons h1 h2=>
    simp only[List.forall_mem_cons] at qz
    refine(Er hi hl jump fun r hr j e=>(hF.env _ _).2 ⟨((hF.env _ _).1 hr.assign).1,hj j e⟩).bind' hi fun ρ1 l1 v v' hv=>SR.pure ⟨⟨iJ (P:=P) (h1.mono l1.1) qz.1.todo hv,h2.mono l1.1⟩,jL qz.1 _,qz.2⟩
end
theorem Du(hg:P.globals.size=0){F:FuncId→Prop}(hF:gV P F)(hi:dL ρ){s s':Frame × List Frame}(h:cD ρ s s')(ok:F7 P F s)(hl:Cj P F s.1):
 SR P (fun ρ a b=>cD ρ a b∧F7 P F a) ρ (gu P s.1 s.2) (gu P s'.1 s'.2):=by
 obtain⟨fr,L⟩:=s
 obtain⟨fr',L'⟩:=s'
 obtain⟨h,hL⟩:=h
 obtain⟨ok,qz⟩:=ok
 simp only at h hL ok qz hl
 have hev:∀x,qM x→VR ρ (fr.eval x) (fr'.eval x):=fun x=>GN h
 have Wr:∀k:List Item,(∀i∈k,kS P i)→jP P F {fr with todo:=k }:=fun k hk=>⟨ok.fn,hk,ok.defers,ok.mode,ok.kind⟩
 have go:∀ {ρ1:Ren},Le ρ ρ1→∀ {k k':List Item},fG ρ1 k k'→(∀i∈k,kS P i)→(cD ρ1 ({fr with todo:=k },L) ({fr' with todo:=k' },L')∧F7 P F ({fr with todo:=k },L)):=fun l k k' hkk hk=>⟨⟨Ww (h.mono l) hkk,hL.mono l⟩,Wr _ hk,qz⟩
 have hy:∀ops,yielded ops fr'.tmps=yielded ops fr.tmps:=fun ops=>Jv ops h.tmps
 have hlv:=fun jump hj=>La hF hi h hL ok qz jump hj
 have hnx:=fun{ρ1:Ren} (l1:Le ρ ρ1) {n n':Next} (hn:NR F ρ1 n n')=>P8 hF (h.mono l1) (hL.mono l1) ok qz hn
 have ld:=ok.todo
 have hm:=ok.mode
 have hF':=h
 obtain⟨fn,tmps,todo,defers,mode,kind,roundOf⟩:=fr
 obtain⟨fn',vS,todo',defers',eE,kind',yH⟩:=fr'
 obtain⟨h1,h2,h3,h4,h5,h6,h7⟩:=h
 simp only at h1 h2 h3 h4 h5 h6 h7 hm ld
 subst h1
 subst h2
 subst h3
 unfold gu
 dsimp only
 rcases hm with rfl|rfl
 ·dsimp only
  cases h5 with
  | nil=>exact hlv none (fun j e=>by cases e)
  | @cons i i' k k' hii hkk=>
    have hk:∀i∈k,kS P i:=fun i hi=>ld i (List.mem_cons_of_mem _ hi)
    have hh:=ld i List.mem_cons_self
    cases hii with
    | code c=>
      cases c with
      | skip=>exact SR.pure (go (.refl ρ) hkk hk)
      | label l=>exact SR.pure (go (.refl ρ) hkk hk)
      | ret=>exact hlv (some .ret) (fun j e=>by cases e;trivial)
      | seq a b=>exact SR.pure (go (.refl ρ) (.cons (.code _) (.cons (.code _) hkk)) (by simp only[List.forall_mem_cons];exact⟨hh.1,hh.2,hk⟩))
      | cond x a b=>
        dsimp only
        have:=hev x hh.1
        revert this
        generalize Frame.eval _ x=v
        generalize Frame.eval _ x=v'
        intro this
        cases this with
        | bool b=>exact SR.pure (go (.refl ρ) (.cons (.code _) hkk) (by simp only[List.forall_mem_cons];refine⟨?_,hk⟩;cases b <;> first|exact hh.2.1|exact hh.2.2))
        | _=>exact zT
      | block id b=>exact SR.pure (go (.refl ρ) (.cons (.code _) (.cons (.inBlock _) hkk)) (by simp only[List.forall_mem_cons];exact⟨hh,zT,hk⟩))
      | loop b=>exact SR.pure (go (.refl ρ) (.cons (.code _) (.cons (.inLoop _) hkk)) (by simp only[List.forall_mem_cons];exact⟨hh,hh,hk⟩))
      | scope b=>exact SR.pure (go (.refl ρ) (.cons (.code _) (.cons (.inScope _) hkk)) (by simp only[List.forall_mem_cons];exact⟨hh,hh,hk⟩))
      | exit id=>
        dsimp only
        rcases KD (id:=id) hkk with⟨e1,e2⟩|⟨x,x',e1,e2,hx⟩
        ·rw[e1,e2]
         exact hlv (some (.exit id)) (fun j e=>by cases e;trivial)
        ·rw[e1,e2]
         exact SR.pure (go (.refl ρ) hx fun i hi=>hk i (qR e1 i hi))
      | region id ops draw=>
        dsimp only
        have hr:∀l,∀i∈(Item.inRegion ops l :: k),kS P i:=fun l=>by simp only[List.forall_mem_cons];exact⟨hh,hk⟩
        cases draw with
        | false=>exact SR.pure (go (.refl ρ) (.cons (.inRegion _ _) hkk) (hr _))
        | true=>exact(oL _).aO hi fun ρ1 l1 t=>SR.pure (go l1.1 (.cons (.inRegion _ _) (hkk.mono l1.1)) (hr _))
      | goto l=>exact hh.elim
      | rangeFunc f ps a b=>
        dsimp only
        have hf:VR ρ _ _:=hev f hh.1
        have kO:gv P F _:=hl.iter f ps a b k rfl rfl
        refine(qp hi h4 ps ((hF.env _ _).2 ⟨ok.fn,hh.2.1⟩) ((hF.env _ _).2 ⟨ok.fn,hh.2.2⟩) h7).bind' hi fun ρ1 l1 e e' he=>?_
        refine(Cr l1.2 kO (hf.mono l1.1) (dW.push (dW.nil ρ1) (.yield he.1))).bind' l1.2 fun ρ2 l2 n n' hn=>?_
        have l12:=l1.1.trans l2.1
        have hfr:Ci ρ2 {fn:=fn',tmps:=tmps,todo:=.inRangeFunc e.1 :: k,defers:=e.2 ++ defers,mode:=.run,kind:=kind',roundOf:=roundOf } {fn:=fn',tmps:=vS,todo:=.inRangeFunc e'.1 :: k',defers:=e'.2 ++ defers',mode:=.run,kind:=kind',roundOf:=yH }:=⟨rfl,rfl,rfl,h4.mono l12,.cons (.inRangeFunc (l2.1 _ _ he.1)) (hkk.mono l12),(he.2.mono l2.1).append (h6.mono l12),h7.mono l12⟩
        refine PG hF hfr (hL.mono l12) ?_ qz hn
        refine⟨ok.fn,by simp only[List.forall_mem_cons];exact⟨zT,hk⟩,?_,.inl rfl,ok.kind⟩
        obtain⟨x,_,e1,_⟩:=he.2
        obtain⟨y,e2⟩:=ok.defers
        simp only at e2
        exact⟨x ++ y,by simp[e1,e2]⟩
      | refuse y=>exact zT
    | inBlock id=>exact SR.pure (go (.refl ρ) hkk hk)
    | inScope b=>exact SR.pure (go (.refl ρ) hkk hk)
    | inLoop b=>exact SR.pure (go (.refl ρ) (.cons (.code _) (.cons (.inLoop _) hkk)) (by simp only[List.forall_mem_cons];exact⟨hh,hh,hk⟩))
    | inRangeFunc hlp=>exact zT
    | endRangeFunc hlp=>
      dsimp only
      refine(vg hi hlp).bind' hi fun ρ1 l1 j j' ⟨hj,hok⟩=>?_
      subst hj
      refine SR.pure (go l1.1 ?_ ?_)
      ·cases j with
       | none=>exact hkk.mono l1.1
       | some c=>exact .cons (.code c) (hkk.mono l1.1)
      ·cases j with
       | none=>exact hk
       | some c=>
         obtain⟨f,hf⟩:=hok c rfl
         simp only[Option.map_some,Option.toList_some,List.singleton_append,List.forall_mem_cons]
         exact⟨((hF.env _ _).1 hf).2,hk⟩
    | beginRound=>
      dsimp only
      rcases h7 with⟨rfl,rfl⟩|⟨l,l',rfl,rfl,hl⟩
      ·exact zT
      ·exact(nP hi hl).aO hi fun ρ1 l1 _=>SR.pure ⟨⟨iJ (P:=P) (hF'.mono l1.1) ok.todo (.undef ρ1),hL.mono l1.1⟩,jL ok undef,qz⟩
    | inRegion ops l=>
      cases l with
      | nil=>exact SR.pure (go (.refl ρ) hkk hk)
      | cons j l=>
        dsimp only
        rw[hy]
        cases hw:((ops[j]?).map (Region.wanted · (yielded ops tmps))).getD false with
        | false=>exact SR.pure ⟨⟨iJ (P:=P) hF' ok.todo (.undef ρ),hL⟩,jL ok undef,qz⟩
        | true=>
          simp only[if_true]
          cases ho:ops[j]? with
          | none=>exact zT
          | some o=>
            have Rx:qL P o:=hh o (Array.mem_of_getElem? ho)
            dsimp only
            cases hpn:sN o.op with
            | true=>exact zT
            | false=>
              simp only[Bool.false_eq_true,if_false]
              have hsup:=VI Rx hpn fun c f hc hf=>hl.op ops j l k o c f rfl rfl ho hc hf
              exact(xK hg hi hsup fun x hx=>hev x (Rx.1 x hx)).bind' hi fun ρ1 l1 n n' hn=>hnx l1.1 hn
 ·dsimp only
  rcases h6.cases with⟨rfl,rfl⟩|⟨r,r',d,d',rfl,rfl,hr,hd⟩
  ·dsimp only
   cases P.funcs[fn']? with
   | none=>exact zT
   | some fnc=>
     cases hL with
     | nil=>exact zT
     | cons h1 h2=>
       simp only[List.forall_mem_cons] at qz
       refine(vJ hi fnc h4).bind' hi fun ρ1 l1 v v' hv=>SR.pure ⟨⟨iJ (P:=P) (h1.mono l1.1) qz.1.todo hv,h2.mono l1.1⟩,jL qz.1 _,qz.2⟩
  ·dsimp only[jq]
   refine(uQ hi hr).bind' hi fun ρ1 l1 a b ⟨ea,eb⟩=>?_
   subst ea
   subst eb
   refine SR.pure ⟨⟨⟨rfl,rfl,rfl,h4.mono l1.1,h5.mono l1.1,hd.mono l1.1,h7.mono l1.1⟩,hL.mono l1.1⟩,⟨ok.fn,ok.todo,?_,.inr rfl,ok.kind⟩,qz⟩
   obtain⟨x,e⟩:=ok.defers
   cases x with
   | nil=>simp at e
   | cons q x=>simp only[List.map_cons,List.cons.injEq] at e;exact⟨x,by simp[e.2]⟩
end
section
variable[Inhabited aT]
open Go.Conc
variable{P:Program}{ρ:Ren}
def wW(w:World)(d:Deferred):Prop:=∃r,d=jq r∧∀ds,w.heap[r]? =some (.deferred (some ds))→ds=[]
structure jk(P:Program)(w:World)(fr:Frame):Prop where
 fn:(P.funcs[fr.fn]?).isSome=true
 marks:∀d∈fr.defers,wW w d
structure Oq(P:Program)(g:Goroutine)(w:World):Prop where
 cases:g.dying.isSome=true∨(g.status=.blocked∨g.status=.waiting∨g.status=.finished)∨
  (g.status=.running∧g.dying=none∧(∃chain,g.frame.mode=.panicking chain)∧jk P w g.frame∧∀c∈g.callers,jk P w c)
theorem aV{a:Goroutine}{w w':World}{o:Outcome}{es:Array Event}(h:stepG P true a w=.ended o w' es):(runT P (solo a w) 0).1=.ended o w':=by
 simp[runT,solo,Array.swapAt!,Array.swapAt,h,GStep.es]
theorem mZ{g:Goroutine}{w:World}{m1:Machine}(h:g.status=.blocked∨g.status=.waiting∨g.status=.finished)(hs:step P (solo g w)=.next m1):m1=solo g w:=by
 rw[step,stepT] at hs
 rcases h with h|h|h
 ·simp[move,ask,askOn,solo,runnable_eq,due,ahead,Goroutine.canRun,List.range_succ,pure,h] at hs
  split at hs <;> rename_i heq <;> split at heq <;> simp_all
 ·simp[move,ask,askOn,solo,runnable_eq,due,ahead,Goroutine.canRun,List.range_succ,pure,h] at hs
  rw[← hs];simp[solo]
 ·simp[move,ask,askOn,solo,runnable_eq,due,ahead,Goroutine.canRun,List.range_succ,pure,h] at hs
  split at hs <;> rename_i heq <;> split at heq <;> simp_all
theorem raise_mode(c:Frame)(vs:List PanicEntry):(∃chain,(c.raise vs).mode=.panicking chain)∧(c.raise vs).defers=c.defers∧(c.raise vs).fn=c.fn:=by
 unfold Frame.raise
 split
 ·exact⟨⟨_,rfl⟩,rfl,rfl⟩
 ·exact⟨⟨_,rfl⟩,rfl,rfl⟩
theorem jk.raise{w:World}{c:Frame}(h:jk P w c)(vs:List PanicEntry):jk P w (c.raise vs):=by
 obtain⟨_,r2,r3⟩:=raise_mode c vs
 exact⟨by rw[r3];exact h.fn,by rw[r2];exact h.marks⟩
theorem wW.taken{w:World}{d:Deferred}(h:wW w d)(q:Nat):wW {w with heap:=w.heap.setIfInBounds q (.deferred none) } d:=by
 obtain⟨r,e,h⟩:=h
 refine⟨r,e,fun ds hd=>?_⟩
 by_cases hq:q=r
 ·subst hq
  rcases Nat.lt_or_ge q w.heap.size with c|c
  ·simp[c] at hd
  ·simp[c] at hd
 ·simp only[Array.getElem?_setIfInBounds_ne hq] at hd
  exact h ds hd
theorem jk.taken{w:World}{c:Frame}(h:jk P w c)(q:Nat):jk P {w with heap:=w.heap.setIfInBounds q (.deferred none) } c:=⟨h.fn,fun d hd=>(h.marks d hd).taken q⟩
theorem Pj{g:Goroutine}{w:World}{m1:Machine}(hd:Oq P g w)(ha:g.dying.isNone=true)(hs:step P (solo g w)=.next m1):∃g1 w1,m1=solo g1 w1∧Oq P g1 w1:=by
 rcases hd.cases with h|h|⟨h1,h2,⟨chain,h3⟩,h4,h6⟩
 ·rw[Option.isNone_iff_eq_none] at ha;rw[ha] at h;cases h
 ·exact⟨g,w,mZ h hs,⟨.inr (.inl h)⟩⟩
 ·obtain⟨fr,callers,status,dying,offers⟩:=g
  simp only at h1 h2 h3 h4 h6
  subst h1;subst h2
  rw[step,stepT_solo rfl] at hs
  have EA:fr.catches P=false:=by
   unfold Frame.catches
   obtain⟨f,hf⟩:=Option.isSome_iff_exists.1 h4.fn
   rw[hf]
  have e:stepG P true {frame:=fr,callers:=callers,status:=.running,dying:=none,offers:=offers } w=unwind P true fr callers none w:=by
   simp[stepG,h3]
  have hmk:=h4.marks
  cases hdf:fr.defers with
  | cons d ds=>
    rw[hdf] at hmk
    simp only[List.forall_mem_cons] at hmk
    obtain⟨⟨r,rfl,hr⟩,hds⟩:=hmk
    have e1:stepG P true {frame:=fr,callers:=callers,status:=.running,dying:=none,offers:=offers } w
     =(let (r,es):=(Instr.takeDeferred r).runT P w #[]
      GStep.after (seen P fr.fn es) <| match r with
      | .ok calls w=>.go {frame:={fr with defers:=calls ++ ds },callers,status:=.running,dying:=none } w
      | .halt _ w=>.ended (.stuck "the deferred calls of a range-over-func loop have been taken" (fr.pos P)) w):=by
     rw[e];simp only[unwind,hdf,jq] <;> rfl
    have key:(∃o,(runT P (solo {frame:=fr,callers:=callers,status:=.running,dying:=none,offers:=offers } w) 0).1=.ended o w)∨
     (w.heap[r]? =some (.deferred (some []))∧(runT P (solo {frame:=fr,callers:=callers,status:=.running,dying:=none,offers:=offers } w) 0).1=.next (solo {frame:={fr with defers:=ds },callers,status:=.running,dying:=none } {w with heap:=w.heap.setIfInBounds r (.deferred none) })):=by
     have bad:∀es:Array Event,∀h:Halt,(Instr.takeDeferred r).runT P w #[]=(.halt h w,es)→∃o,(runT P (solo {frame:=fr,callers:=callers,status:=.running,dying:=none,offers:=offers } w) 0).1=.ended o w:=fun es h hh=>by
      rw[hh] at e1
      exact⟨_,aV (es:=_) (e1.trans (by simp only[GStep.after] <;> rfl))⟩
     cases ho:w.heap[r]? with
     | none=>exact .inl (bad #[] _ (by simp[Instr.takeDeferred,getObj,Bind.bind,Sem.bind,Sem.runT,ho,-Sem.runT_eq];first|rfl|exact⟨rfl,rfl⟩))
     | some o=>
       cases o with
       | deferred c=>
         cases c with
         | none=>exact .inl (bad _ _ (by simp[Instr.takeDeferred,getObj,Bind.bind,Sem.bind,Sem.runT,ho,stuck,-Sem.runT_eq];first|rfl|exact⟨rfl,rfl⟩))
         | some l=>
           obtain rfl:=hr l ho
           refine .inr ⟨rfl,?_⟩
           have hrun:∃es,(Instr.takeDeferred r).runT P w #[]=(.ok [] {w with heap:=w.heap.setIfInBounds r (.deferred none) },es):=⟨_,by simp[Instr.takeDeferred,getObj,setObj,Bind.bind,Sem.bind,Sem.runT,ho,Pure.pure,-Sem.runT_eq];rfl⟩
           obtain⟨es,hrun⟩:=hrun
           rw[hrun] at e1
           have:=runT_solo_go (P:=P) (a:={frame:=fr,callers:=callers,status:=.running,dying:=none,offers:=offers }) (a':={frame:={fr with defers:=ds },callers,status:=.running,dying:=none }) (w:=w) (w':={w with heap:=w.heap.setIfInBounds r (.deferred none) }) (es:=seen P fr.fn es ++ #[]) (by rw[e1];simp[GStep.after])
           rw[this]
       | cells c t f=>exact .inl (bad _ _ (by simp[Instr.takeDeferred,getObj,Bind.bind,Sem.bind,Sem.runT,ho,-Sem.runT_eq];first|rfl|exact⟨rfl,rfl⟩))
       | _=>exact .inl (bad _ _ (by simp[Instr.takeDeferred,getObj,Bind.bind,Sem.bind,Sem.runT,ho,stuck,-Sem.runT_eq];first|rfl|exact⟨rfl,rfl⟩))
    rcases key with⟨o,k⟩|⟨_,k⟩
    ·rw[k] at hs;cases hs
    ·rw[k] at hs
     simp only[Stepped.next.injEq] at hs
     refine⟨_,_,hs.symm,⟨.inr (.inr ⟨rfl,rfl,⟨chain,h3⟩,⟨h4.fn,fun d hd=>(hds d hd).taken r⟩,fun c hc=>(h6 c hc).taken r⟩)⟩⟩
  | nil=>
    cases callers with
    | cons c rest=>
      have e2:stepG P true {frame:=fr,callers:=c :: rest,status:=.running,dying:=none,offers:=offers } w=.go {frame:=c.raise chain,callers:=rest,status:=.running,dying:=none } w #[]:=by
       rw[e];simp[unwind,hdf,h3,EA]
      rw[runT_solo_go e2] at hs
      cases hs
      simp only[List.forall_mem_cons] at h6
      exact⟨_,w,rfl,⟨.inr (.inr ⟨rfl,rfl,(raise_mode c chain).1,h6.1.raise chain,h6.2⟩)⟩⟩
    | nil=>
      by_cases hg:chain.head?.any (·.goexit)=true
      ·have e2:stepG P true {frame:=fr,callers:=[],status:=.running,dying:=none,offers:=offers } w=.go {frame:=fr,callers:=[],status:=.finished,dying:=none } w #[]:=by
        rw[e];simp only[unwind,hdf,h3,EA,Bool.false_eq_true,if_false,if_pos hg]
       rw[runT_solo_go e2] at hs
       cases hs
       exact⟨_,w,rfl,⟨.inr (.inl (.inr (.inr rfl)))⟩⟩
      ·cases hr:(reportChain chain false).run P w with
       | ok todo w2=>
         have e2:=e
         simp only[unwind,hdf,h3,EA,Bool.false_eq_true,if_false,if_neg hg,hr] at e2
         rw[runT_solo_go e2] at hs
         cases hs
         exact⟨_,w2,rfl,⟨.inl rfl⟩⟩
       | halt h0 w2=>
         have e2:=e
         simp only[unwind,hdf,h3,EA,Bool.false_eq_true,if_false,if_neg hg,hr] at e2
         cases h0 <;> (simp only at e2;rw[aV e2] at hs;cases hs)
theorem Ph{F:Fence}(hal:F.alive=true){m m':Machine}(h:StepsIn (Machine.fenced P F) P m m'):∀ {g:Goroutine} {w:World},m=solo g w→Oq P g w→∃g1 w1,m'=solo g1 w1∧Oq P g1 w1:=by
 induction h with
 | refl m=>intro g w e hd;exact⟨g,w,e,hd⟩
 | head hI hs _ ih=>
   intro g w e hd
   subst e
   have ha:=(hI g (by simp[solo])).1 hal
   obtain⟨g1,w1,e1,hd1⟩:=Pj hd ha hs
   exact ih e1 hd1
theorem Dead.heap{α:Type}{s:Sem α}(h:Dead s):∀ (w:World) (e:Halt) (w1:World),s.run P w=.halt e w1→w1.heap=w.heap:=by
 induction s with
 | shape r k ih=>intro w e w1 hr;exact ih _ (h _) w e w1 hr
 | frozen r k ih=>intro w e w1 hr;exact ih _ (h _) w e w1 hr
 | choose q k ih=>
   intro w e w1 hr
   simp only[Sem.run] at hr
   split at hr
   ·have:=ih _ (h _) _ _ _ hr;exact this
   ·have:=ih _ (h _) _ _ _ hr;exact this
 | mark m k ih=>intro w e w1 hr;exact ih h w e w1 hr
 | halt e0=>intro w e w1 hr;simp only[Sem.run,Result.halt.injEq] at hr;rw[hr.2]
 | _=>exact h.elim
theorem SR.Nb{α β:Type}{Q:Ren→α→β→Prop}{s:Sem α}:∀ {ρ:Ren} {s':Sem β} {w w':World},SR P Q ρ s s'→WR ρ w w'→∀ {e:Halt} {w1:World},s.run P w=.halt e w1→∃ρ1 w1',Le ρ ρ1∧WR ρ1 w1 w1':=by
 induction s with
 | pure a=>rintro ρ s' w w' h hw e w1 hr;simp[Sem.run] at hr
 | load m a k ih=>
   rintro ρ s' w w' ⟨a',k',rfl,rfl,ha,hk⟩ hw e w1 hr
   cases hv:w.cell? a with
   | none=>
     obtain⟨e0,he,ht⟩:=UO (P:=P) hw ha.1 (a:=a) (Mode.plain == Mode.atomic)
     simp only[Sem.run,hv,he,Result.halt.injEq] at hr
     exact⟨ρ,w',.refl ρ,hr.2 ▸ hw⟩
   | some v=>
     obtain⟨v',hv',yr⟩:=sw hw ha hv
     simp only[Sem.run,hv] at hr
     exact ih v (hk ρ (.refl hw.inj) v v' yr) hw hr
 | store m a v k ih=>
   rintro ρ s' w w' ⟨a',v',k',rfl,rfl,ha,hv,hk⟩ hw e w1 hr
   by_cases h1:∀c,v≠.agg c
   ·by_cases h2:∀c,v≠.tuple c
    ·rw[run_store h1 h2] at hr
     cases hx:w.cell? a with
     | none=>
       obtain⟨e0,he,ht⟩:=NC (P:=P) hw ha.1 (a:=a) v (Mode.plain == Mode.atomic)
       simp only[hx,he,Result.halt.injEq] at hr
       exact⟨ρ,w',.refl ρ,hr.2 ▸ hw⟩
     | some x0=>
       cases hf:w.frozen? a with
       | true=>simp only[hx,hf,if_true,Result.halt.injEq] at hr;exact⟨ρ,w',.refl ρ,hr.2 ▸ hw⟩
       | false=>simp only[hx,hf,Bool.false_eq_true,if_false] at hr;exact ih hk (hw.setCell ha hv) hr
    ·simp only[ne_eq,Classical.not_forall,Classical.not_not] at h2
     obtain⟨c,rfl⟩:=h2
     simp only[Sem.run,Result.halt.injEq] at hr
     exact⟨ρ,w',.refl ρ,hr.2 ▸ hw⟩
   ·simp only[ne_eq,Classical.not_forall,Classical.not_not] at h1
    obtain⟨c,rfl⟩:=h1
    simp only[Sem.run,Result.halt.injEq] at hr
    exact⟨ρ,w',.refl ρ,hr.2 ▸ hw⟩
 | new o k ih=>
   rintro ρ s' w w' ⟨o',k',rfl,ho,hk⟩ hw e w1 hr
   obtain⟨le,hw2⟩:=hw.new ho
   obtain⟨ρ1,w1',h1,h2⟩:=ih w.heap.size (hk _ ⟨le,hw2.inj⟩ w.heap.size w'.heap.size (by simp[Ren.put])) hw2 hr
   exact⟨ρ1,w1',le.trans h1,h2⟩
 | shape r k ih=>
   rintro ρ s' w w' ⟨r',k',rfl,e0,hk⟩ hw e w1 hr
   exact ih (w.shape? r) (hk _) hw hr
 | getObj r k ih=>
   rintro ρ s' w w' ⟨r',k',rfl,e0,hk⟩ hw e w1 hr
   obtain⟨o,o',h1,h2,ho⟩:=hw.obj _ _ e0
   have hcell:(∃c t f,o=.cells c t f)∨∀c t f,o≠.cells c t f:=by cases ho <;> first|exact .inl ⟨_,_,_,rfl⟩|exact .inr (fun _ _ _ h=>by cases h)
   rcases hcell with⟨c,t,f,rfl⟩|hn
   ·simp only[Sem.run,h1,Result.halt.injEq] at hr
    exact⟨ρ,w',.refl ρ,hr.2 ▸ hw⟩
   ·have:(Sem.getObj r k).run P w=(k o).run P w:=by
     cases o <;> first|exact absurd rfl (hn _ _ _)|simp only[Sem.run,h1]
    rw[this] at hr
    exact ih o (hk ρ (.refl hw.inj) _ _ ho) hw hr
 | setObj r o k ih=>
   rintro ρ s' w w' ⟨r',o',k',rfl,e0,ho,hk⟩ hw e w1 hr
   obtain⟨p,p',h1,h2,hp⟩:=hw.obj _ _ e0
   have hcell:(∃c t f,p=.cells c t f)∨∀c t f,p≠.cells c t f:=by cases hp <;> first|exact .inl ⟨_,_,_,rfl⟩|exact .inr (fun _ _ _ h=>by cases h)
   rcases hcell with⟨c,t,f,rfl⟩|hn
   ·simp only[Sem.run,h1,Result.halt.injEq] at hr
    exact⟨ρ,w',.refl ρ,hr.2 ▸ hw⟩
   ·have:(Sem.setObj r o k).run P w=k.run P {w with heap:=w.heap.setIfInBounds r o }:=by
     cases p <;> first|exact absurd rfl (hn _ _ _)|simp only[Sem.run,h1]
    rw[this] at hr
    exact ih hk (hw.setObj e0 ho) hr
 | choose q k ih=>
   rintro ρ s' w w' ⟨k',rfl,hk⟩ hw e w1 hr
   by_cases hf:q.forced=true
   ·simp only[Sem.run,if_pos hf] at hr
    exact ih 0 (hk _) hw hr
   ·have hw2:WR ρ {w with drawn:=w.drawn+1 } {w' with drawn:=w'.drawn+1 }:=⟨hw.obj,hw.inj⟩
    simp only[Sem.run,if_neg hf] at hr
    exact ih _ (hk _) hw2 hr
 | program k ih=>
   rintro ρ s' w w' ⟨k',rfl,hk⟩ hw e w1 hr
   exact ih P hk hw hr
 | halt h0=>
   rintro ρ s' w w' ht hw e w1 hr
   simp only[Sem.run,Result.halt.injEq] at hr
   exact⟨ρ,w',.refl ρ,hr.2 ▸ hw⟩
 | freeze a n k ih=>intro ρ s' w w' h;exact h.elim
 | frozen a k ih=>
   intro ρ s' w w' h hw e w1 hr
   have:=(h (w.frozen? a)).heap (P:=P) w e w1 hr
   exact⟨ρ,w',.refl ρ,⟨fun b b' eb=>by obtain⟨o,o',h1,h2,h3⟩:=hw.obj b b' eb;exact⟨o,o',by rw[this];exact h1,h2,h3⟩,hw.inj⟩⟩
 | sys c k ih=>intro ρ s' w w' h;exact h.elim
 | mark m k ih=>
   rintro ρ s' w w' ⟨k',rfl,rfl,hk⟩ hw e w1 hr
   exact ih hk hw hr
theorem SR.ok{α β:Type}{Q:Ren→α→β→Prop}{s:Sem α}{s':Sem β}{w w' w1:World}{a:α}(h:SR P Q ρ s s')(hw:WR ρ w w')(hr:s.run P w=.ok a w1):∃ρ1 b w1',Q ρ1 a b∧WR ρ1 w1 w1'∧Le ρ ρ1:=by
 have hw2:WR ρ w {w' with tape:=w.tape,drawn:=w.drawn }:=⟨hw.obj,hw.inj⟩
 obtain⟨ρ1,b,w1',O1,new,_,hq,hR⟩:=SR.runT (C:=fun _=>True) (O:=fun _=>True) (es:=#[]) h hw2 (fun k q=>rfl) (fun _ _ _=>.inr trivial) hr
 exact⟨ρ1,b,w1',hq,hR.wr,hR.le⟩
theorem xA{α:Type}(a:Ask α):∀w:World,(w.ask a).2.heap=w.heap:=by
 induction a with
 | done a=>intro w;simp[World.ask]
 | ask what range k ih=>
   intro w
   simp only[World.ask]
   split
   ·exact ih _ _
   ·rw[ih]
theorem yX(w:World)(c:Sys):(w.sys c).2.heap=w.heap:=by
 unfold World.sys
 have:=xA (Kernel.perform c w.os) w
 generalize w.ask (Kernel.perform c w.os)=r at this
 obtain⟨⟨r,os⟩,w1⟩:=r
 simp only at this
 cases r <;> simp[this]
def Pushes{α:Type}:Sem α→Prop
 | .pure _=>True
 | .load _ _ k=>∀v,Pushes (k v)
 | .store _ _ _ _=>False
 | .new _ k=>∀r,Pushes (k r)
 | .shape _ k=>∀r,Pushes (k r)
 | .freeze _ _ _=>False
 | .frozen _ k=>∀r,Pushes (k r)
 | .getObj _ k=>∀r,Pushes (k r)
 | .setObj _ _ _=>False
 | .choose _ k=>∀r,Pushes (k r)
 | .sys _ k=>∀r,Pushes (k r)
 | .program k=>∀r,Pushes (k r)
 | .mark _ k=>Pushes k
 | .halt _=>True
def Result.world{α:Type}:Result α→World
 | .ok _ w=>w
 | .halt _ w=>w
theorem Pushes.old{α:Type}{s:Sem α}(h:Pushes s):∀w:World,w.heap.size≤(Result.world (s.run P w)).heap.size∧∀b,b<w.heap.size→(Result.world (s.run P w)).heap[b]? =w.heap[b]?:=by
 induction s with
 | pure a=>intro w;exact⟨zL,fun _ _=>rfl⟩
 | load m a k ih=>
   intro w
   simp only[Sem.run]
   cases w.cell? a with
   | some v=>exact ih v (h v) w
   | none=>
     simp only
     cases w.farLoad P a (m == .atomic) with
     | ok r=>obtain⟨v,t⟩:=r;exact ih v (h v) w
     | error e=>exact⟨zL,fun _ _=>rfl⟩
 | new o k ih=>
   intro w
   simp only[Sem.run]
   obtain⟨h1,h2⟩:=ih w.heap.size (h _) {w with heap:=w.heap.push o }
   simp only[Array.size_push] at h1
   refine⟨zo,fun b hb=>?_⟩
   rw[h2 b zm]
   simp only[Array.getElem?_push_lt hb]
   rw[Array.getElem?_eq_getElem hb]
 | shape r k ih=>intro w;exact ih _ (h _) w
 | frozen r k ih=>intro w;exact ih _ (h _) w
 | getObj r k ih=>
   intro w
   simp only[Sem.run]
   cases w.heap[r]? with
   | none=>exact⟨zL,fun _ _=>rfl⟩
   | some o=>cases o <;> first|exact⟨zL,fun _ _=>rfl⟩|exact ih _ (h _) w
 | choose q k ih=>
   intro w
   simp only[Sem.run]
   split
   ·exact ih _ (h _) w
   ·exact ih _ (h _) {w with drawn:=w.drawn+1 }
 | sys c k ih=>
   intro w
   simp only[Sem.run]
   have:=ih (w.sys c).1 (h _) (w.sys c).2
   rw[yX] at this
   exact this
 | program k ih=>intro w;exact ih P (h P) w
 | mark m k ih=>intro w;exact ih h w
 | halt e=>intro w;exact⟨zL,fun _ _=>rfl⟩
 | _=>exact h.elim
theorem Pushes.bind{α β:Type}{s:Sem α}{f:α→Sem β}(h:Pushes s)(hf:∀a,Pushes (f a)):Pushes (s >>= f):=by
 show Pushes (s.bind f)
 induction s with
 | pure a=>exact hf a
 | load m a k ih=>exact fun v=>ih v (h v)
 | new o k ih=>exact fun v=>ih v (h v)
 | shape r k ih=>exact fun v=>ih v (h v)
 | frozen r k ih=>exact fun v=>ih v (h v)
 | getObj r k ih=>exact fun v=>ih v (h v)
 | choose r k ih=>exact fun v=>ih v (h v)
 | sys r k ih=>exact fun v=>ih v (h v)
 | program k ih=>exact fun v=>ih v (h v)
 | mark m k ih=>exact ih h
 | halt e=>trivial
 | _=>exact h.elim
theorem IE(x:Value)(w:World):∃e w2,(Instr.panic x).run P w=.halt e w2∧um e∧∀b,b<w.heap.size→w2.heap[b]? =w.heap[b]?:=by
 have hel:∀t,Pushes (elemOf t):=fun t=>by
  unfold elemOf
  refine Pushes.bind (fun p=>?_) fun d=>?_
  ·show Pushes (match p.underlying t with|some d=>pure d|none=>stuck "no such type")
   cases p.underlying t <;> trivial
  ·cases d <;> trivial
 have hrp:Pushes (runtimePanic .panicNil:Sem Value):=Pushes.bind (s:=program) (fun p=>trivial) fun p=>Pushes.bind (hel _) fun e=>Pushes.bind (s:=newVar e (.agg #[])) (fun r=>trivial) fun r=>trivial
 have hnil:Pushes (Instr.panic .nilIface):=by
  unfold Instr.panic Instr.panicnil
  refine Pushes.bind (Pushes.bind (fun r=>trivial) fun r=>?_) fun n=>?_
  ·cases r <;> first|trivial|exact fun p=>trivial
  ·split
   ·trivial
   ·exact hrp
 have key:∀s:Sem Value,Pushes s→(∀w1 v,s.run P w≠.ok v w1)→(∀e w1,s.run P w=.halt e w1→um e)→∃e w2,s.run P w=.halt e w2∧um e∧∀b,b<w.heap.size→w2.heap[b]? =w.heap[b]?:=fun s hs h1 h2=>by
  have:=(hs.old (P:=P) w).2
  cases hr:s.run P w with
  | ok v w1=>exact absurd hr (h1 w1 v)
  | halt e w1=>rw[hr] at this;exact⟨e,w1,rfl,h2 e w1 hr,this⟩
 cases x with
 | iface t v=>exact⟨_,w,rfl,zT,fun _ _=>rfl⟩
 | nilIface=>
   have hr:∀w1,∃e w2,(runtimePanic .panicNil:Sem Value).run P w1=.halt e w2∧um e:=fun w1=>by
    unfold runtimePanic
    simp only[program,Bind.bind,Sem.bind,Sem.run,elemOf,underlying]
    cases P.underlying P.rt.panicNilError with
    | none=>exact⟨_,_,rfl,zT⟩
    | some d=>cases d <;> exact⟨_,_,rfl,zT⟩
   have hp:(∃n w1,Instr.panicnil.run P w=.ok n w1)∨∃w1 m,Instr.panicnil.run P w=.halt (.stuck m) w1:=by
    unfold Instr.panicnil
    simp only[sys,program,Bind.bind,Sem.bind,Sem.run]
    cases (w.sys .env).1 <;> first|exact .inl ⟨_,_,rfl⟩|exact .inr ⟨_,_,rfl⟩
   refine key _ hnil ?_ ?_
   ·intro w1 v h
    simp only[Instr.panic,Sem.run_bind] at h
    rcases hp with⟨n,w2,e⟩|⟨w2,m,e⟩
    ·rw[e] at h
     change Sem.run P (if (n == 1)=true then goPanic Value.nilIface else runtimePanic RuntimeError.panicNil) w2=_ at h
     split at h
     ·cases h
     ·obtain⟨e3,w3,e4,_⟩:=hr w2;rw[e4] at h;cases h
    ·rw[e] at h;cases h
   ·intro e0 w1 h
    simp only[Instr.panic,Sem.run_bind] at h
    rcases hp with⟨n,w2,e⟩|⟨w2,m,e⟩
    ·rw[e] at h
     change Sem.run P (if (n == 1)=true then goPanic Value.nilIface else runtimePanic RuntimeError.panicNil) w2=_ at h
     split at h
     ·simp only[goPanic,Sem.run,Result.halt.injEq] at h;rw[← h.1];trivial
     ·obtain⟨e3,w3,e4,ht⟩:=hr w2;rw[e4] at h;cases h;exact ht
    ·rw[e] at h;cases h;trivial
 | _=>exact⟨_,w,rfl,zT,fun _ _=>rfl⟩
def Bad(P:Program)(s:GStep):Prop:=(∃o w es,s=.ended o w es)∨∃g w es,s=.go g w es∧Oq P g w
theorem jI{es:Array Event}{s:GStep}(h:Bad P s):Bad P (GStep.after es s):=by
 rcases h with⟨o,w,e,rfl⟩|⟨g,w,e,rfl,hd⟩
 ·exact .inl ⟨_,_,_,rfl⟩
 ·exact .inr ⟨_,_,_,rfl,hd⟩
theorem Ep(fr:Frame)(L:List Frame)(m:String)(w:World):Bad P (endFatal P fr L none m w):=by
 unfold endFatal
 dsimp only
 split
 ·exact .inr ⟨_,_,_,rfl,⟨.inl rfl⟩⟩
 ·exact .inl ⟨_,_,_,rfl⟩
 ·exact .inl ⟨_,_,_,rfl⟩
theorem lN{fr:Frame}{L:List Frame}{s:Sem Next}{w w2:World}{e:Halt}(hk:fr.kind=.normal)(hr:s.run P w=.halt e w2)(ht:um e)(hd:jk P w2 fr)(hL:∀c∈L,jk P w2 c):Bad P (stepG.apply P true fr L none s w):=by
 have xe:∀vs,Oq P {frame:=fr.raise vs,callers:=L,status:=.running,dying:=none } w2:=fun vs=>
  ⟨.inr (.inr ⟨rfl,rfl,(raise_mode fr vs).1,hd.raise vs,hL⟩)⟩
 have lost:∀ (o:Outcome) (w:World),Bad P (.ended o w):=fun o w=>.inl ⟨o,w,_,rfl⟩
 unfold stepG.apply
 dsimp only
 rw[if_pos rfl]
 have hT:=Sem.runT_fst P s w #[]
 rw[hr] at hT
 generalize ri:Sem.runT P s w #[]=T at hT⊢
 obtain⟨r,es⟩:=T
 simp only at hT
 subst hT
 dsimp only
 refine jI ?_
 cases e with
 | panic v=>exact .inr ⟨_,_,_,rfl,xe _⟩
 | blocked=>exact ht.elim
 | waiting=>exact ht.elim
 | exit c=>exact lost _ _
 | fatal m=>exact Ep _ _ _ _
 | throw m=>exact .inr ⟨_,_,_,rfl,⟨.inl rfl⟩⟩
 | unsupported u=>
   cases u with
   | initOrder g=>exact ht.elim
   | _=>exact lost _ _
 | stuck s=>exact lost _ _
 | goexit=>exact ht.elim
theorem xZ{w w':World}{a b:List Deferred}(h:dQ ρ a b)(hw:WR ρ w w'):∀d∈a,wW w d:=by
 obtain⟨x,x',rfl,rfl,_,h2⟩:=h
 intro d hd
 obtain⟨r,hr,rfl⟩:=List.mem_map.1 hd
 obtain⟨i,hi,rfl⟩:=List.mem_iff_getElem.1 hr
 obtain⟨r',_,e⟩:=h2 i x[i] (by simp[hi])
 refine⟨x[i],rfl,fun ds hds=>?_⟩
 obtain⟨o,o',h1,_,h3⟩:=hw.obj _ _ e
 rw[hds] at h1
 cases h1
 cases h3 with
 | defs h=>
   rcases h with h|h
   ·cases h
   ·cases h;rfl
def NE(F:FuncId→Prop)(ρ:Ren):Next→Next→Prop
 | .enter f a,n=>∃a',n=.enter f a'∧dW ρ a a'∧F f
 | .round l f t a b,n=>∃l' t',n=.round l' f t' a b∧ρ l=some l'∧dW ρ t t'∧jr f a∧jr f b
 | _,_=>False
theorem OL{F:FuncId→Prop}(hi:dL ρ){v v':Value}(hl:gv P F v)(hv:VR ρ v v'){a a':Array Value}(ha:dW ρ a a'):SR P (NE F) ρ (qm v a) (qm v' a'):=by
 cases hv with
 | func g e1 h1 e2 h2=>
   obtain⟨f,c,hF,hg,hb,hn⟩:=hl _ _ _ rfl
   have key:∀ (x y:Array Value),qm (.func (.func g) x y) a=callFunc g ((x ++ a) ++ y):=fun _ _=>rfl
   have key':∀ (x y:Array Value),qm (.func (.func g) x y) a'=callFunc g ((x ++ a') ++ y):=fun _ _=>rfl
   rw[key,key']
   have hbn:f.body.isNone=false:=by rw[hb];rfl
   have hargs:=(dW.append (ρ:=ρ) (dW.append ⟨e1,h1⟩ ha) ⟨e2,h2⟩)
   unfold callFunc
   refine⟨_,rfl,?_⟩
   show SR P (NE F) ρ (match P.funcs[g]? with|none=>_|some fn=>_) (match P.funcs[g]? with|none=>_|some fn=>_)
   rw[hg]
   simp only[hn,hbn,Bool.false_eq_true,if_false]
   exact SR.pure ⟨_,rfl,hargs,hF⟩
 | yield hr=>
   show SR P (NE F) ρ (Instr.yield _ (#[] ++ a)) (Instr.yield _ (#[] ++ a'))
   rw[Array.empty_append,Array.empty_append]
   refine SR.imp (fun ρ1 n n' h=>?_) hi (DN hi hr ha)
   cases n <;> first|exact h.elim|exact h
 | nilFunc=>exact aQ (e:=.nilDeref) zs zs
 | _=>exact zT
theorem Qy(hg:P.globals.size=0){F:FuncId→Prop}(hF:gV P F)(hin:∀g,F g→P.inits.idxOf? g=none){s s':Frame × List Frame}{w w' w1:World}{e:Halt}(hst:cD ρ s s')(ok:F7 P F s)(hw:WR ρ w w')(hl:Cj P F s.1)
 (hne:¬ (s.1.mode=.returning∧s.2=[]∧s.1.defers=[]))(h:(gu P s.1 s.2).run P w=.halt e w1):Bad P (stepG P true (G s.1 s.2) w):=by
 obtain⟨fr,L⟩:=s
 obtain⟨fr',L'⟩:=s'
 obtain⟨hfr,hL⟩:=hst
 obtain⟨ok,qz⟩:=ok
 simp only at hfr hL ok qz hl hne h⊢
 have lost:∀ (o:Outcome) (w:World),Bad P (.ended o w):=fun o w=>.inl ⟨o,w,_,rfl⟩
 have hsome:∀c,jP P F c→(P.funcs[c.fn]?).isSome=true:=fun c hc=>by
  obtain⟨f,_,h1,_⟩:=hF.sv _ hc.fn
  rw[h1];rfl
 have Cv:∀ {ρ1:Ren} {w2 w2':World},Le ρ ρ1→WR ρ1 w2 w2'→∀c∈L,jk P w2 c:=by
  intro ρ1 w2 w2' l hw2
  clear hl hne h hfr
  induction hL with
  | nil=>intro c hc;cases hc
  | cons h1 h2 ih=>
    simp only[List.forall_mem_cons] at qz⊢
    exact⟨⟨hsome _ qz.1,xZ (h1.defers.mono l) hw2⟩,ih qz.2⟩
 have GH:∀ {ρ1:Ren} {w2 w2':World},Le ρ ρ1→WR ρ1 w2 w2'→jk P w2 fr:=fun l hw2=>⟨hsome _ ok,xZ (hfr.defers.mono l) hw2⟩
 have hev:∀x,qM x→VR ρ (fr.eval x) (fr'.eval x):=fun x=>GN hfr
 have hi:=hw.inj
 have hsf:=hsome fr ok
 have hleave:∀jump,(lq fr L jump).run P w=.halt e w1→Bad P (iL P true fr L jump w):=by
  intro jump hh
  unfold lq at hh
  unfold iL
  cases hr:fr.roundOf with
  | none=>
    rw[hr] at hh
    dsimp only at hh⊢
    cases jump with
    | none=>simp only[Pure.pure,Sem.run] at hh;cases hh
    | some j=>
      cases j with
      | ret=>simp only[Pure.pure,Sem.run] at hh;cases hh
      | _=>rw[if_neg zs];exact lost _ _
  | some l=>
    rw[hr] at hh
    dsimp only at hh⊢
    have hT:=Sem.runT_fst P (Instr.endRound l jump) w #[]
    generalize ri:Sem.runT P (Instr.endRound l jump) w #[]=T at hT⊢
    obtain⟨r,es⟩:=T
    simp only at hT
    subst hT
    refine jI ?_
    cases hrun:(Instr.endRound l jump).run P w with
    | halt e2 w2=>exact lost _ _
    | ok v w2=>
      cases L with
      | cons c L=>exfalso;simp[Sem.run_bind,hrun,Sem.run,pure] at hh
      | nil=>
        have:=hin _ ok.fn
        simp only[doReturn,ok.kind,this,Bool.not_true,Bool.false_eq_true,if_false]
        exact lost _ _
 obtain⟨hfn,htodo,⟨dx,hd⟩,hm,hk⟩:=ok
 obtain⟨fn,tmps,todo,defers,mode,kind,roundOf⟩:=fr
 simp only at hfn htodo hd hm hk hne
 subst hk
 rcases hm with rfl|rfl
 ·unfold gu at h
  dsimp only at h
  cases todo with
  | nil=>
    have e1:stepG P true (G {fn:=fn,tmps:=tmps,todo:=[],defers:=defers,mode:=.run,kind:=.normal,roundOf:=roundOf } L) w=iL P true {fn:=fn,tmps:=tmps,todo:=[],defers:=defers,mode:=.run,kind:=.normal,roundOf:=roundOf } L none w:=by
     simp only[G,stepG,stepG.exec,iL] <;> rfl
    rw[e1];exact hleave none h
  | cons i k=>
    have ht:=htodo i zs
    cases i with
    | code c=>
      cases c with
      | ret=>
        have e1:stepG P true (G {fn:=fn,tmps:=tmps,todo:=.code .ret :: k,defers:=defers,mode:=.run,kind:=.normal,roundOf:=roundOf } L) w=iL P true {fn:=fn,tmps:=tmps,todo:=.code .ret :: k,defers:=defers,mode:=.run,kind:=.normal,roundOf:=roundOf } L (some .ret) w:=by
         simp only[G,stepG,stepG.exec,iL] <;> rfl
        rw[e1];exact hleave _ h
      | cond x a b=>
        dsimp only at h
        generalize Ss:Frame.eval {fn:=fn,tmps:=tmps,todo:=.code (.cond x a b) :: k,defers:=defers,mode:=.run,kind:=.normal,roundOf:=roundOf } x=v at h
        cases v with
        | bool b=>simp only[Pure.pure,Sem.run] at h;cases h
        | _=>simp only[G,stepG,stepG.exec,Ss];exact lost _ _
      | exit id=>
        dsimp only at h
        cases he:exitTo id k with
        | none=>
          rw[he] at h
          have e1:stepG P true (G {fn:=fn,tmps:=tmps,todo:=.code (.exit id) :: k,defers:=defers,mode:=.run,kind:=.normal,roundOf:=roundOf } L) w=iL P true {fn:=fn,tmps:=tmps,todo:=.code (.exit id) :: k,defers:=defers,mode:=.run,kind:=.normal,roundOf:=roundOf } L (some (.exit id)) w:=by
           simp only[G,stepG,stepG.exec,iL,he] <;> rfl
          rw[e1];exact hleave _ h
        | some k'=>rw[he] at h;simp only[Pure.pure,Sem.run] at h;cases h
      | region id ops draw=>
        cases draw with
        | false=>simp only[Bool.not_false,if_true,Pure.pure,Sem.run] at h;cases h
        | true=>
          simp only[Bool.not_true,Bool.false_eq_true,if_false,choose,Bind.bind,Sem.bind,Pure.pure,Sem.run] at h
          split at h <;> cases h
      | goto l=>exact ht.elim
      | rangeFunc f ps a b=>
        dsimp only at h
        have hf:=hev f ht.1
        have kO:=hl.iter f ps a b k rfl rfl
        have hent:=qp (P:=P) hi hfr.tmps ps ((hF.env _ _).2 ⟨hfn,ht.2.1⟩) ((hF.env _ _).2 ⟨hfn,ht.2.2⟩) hfr.round
        simp only[G,stepG,stepG.exec]
        have hT:=Sem.runT_fst P (Instr.enterLoop fn tmps ps a b roundOf) w #[]
        generalize ri:Sem.runT P (Instr.enterLoop fn tmps ps a b roundOf) w #[]=T at hT⊢
        obtain⟨r,es⟩:=T
        simp only at hT
        subst hT
        refine jI ?_
        cases hrun:(Instr.enterLoop fn tmps ps a b roundOf).run P w with
        | halt e2 w2=>exact lost _ _
        | ok x w2=>
          obtain⟨ρ1,x',w2',hx,hw2,l1⟩:=hent.ok hw hrun
          obtain⟨l,mark⟩:=x
          dsimp only
          have hcs:=OL (F:=F) hw2.inj kO (hf.mono l1) (dW.push (dW.nil ρ1) (.yield hx.1))
          have e0:(do let d ← resolve (Frame.eval {fn:=fn,tmps:=tmps,todo:=.inRangeFunc l :: k,defers:=mark ++ defers,mode:=.run,kind:=.normal,roundOf:=roundOf }) {callee:=.value f,args:=#[.const (.func (.yield l) #[] #[])],argTypes:=#[] } 0;invoke d.target d.args:Sem Next)=qm (Frame.eval {fn:=fn,tmps:=tmps,todo:=.code (.rangeFunc f ps a b) :: k,defers:=defers,mode:=.run,kind:=.normal,roundOf:=roundOf } f) #[.func (.yield l) #[] #[]]:=by
           unfold qm
           cases f <;> simp[resolve,Frame.eval]
          rw[e0]
          cases H8:(qm (Frame.eval {fn:=fn,tmps:=tmps,todo:=.code (.rangeFunc f ps a b) :: k,defers:=defers,mode:=.run,kind:=.normal,roundOf:=roundOf } f) #[.func (.yield l) #[] #[]]).run P w2 with
          | halt e3 w3=>
            obtain⟨ρ2,w3',l2,hw3⟩:=hcs.Nb hw2 H8
            refine lN rfl H8 ((hcs.lc hw2).1 e3 w3 H8) ⟨hsf,?_⟩ (Cv (l1.trans l2) hw3)
            exact xZ (((hx.2).mono l2).append (hfr.defers.mono (l1.trans l2))) hw3
          | ok n w3=>
            exfalso
            obtain⟨ρ2,n',w3',hn,_,_⟩:=hcs.ok hw2 H8
            simp only[Sem.run_bind,hrun] at h
            change ((Sem.run P (qm _ _) w2).andThen fun a w'=>Sem.run P (vC P _ L a) w')=_ at h
            rw[H8] at h
            change Sem.run P (vC P _ L n) w3=_ at h
            cases n with
            | enter f args=>simp[vC,Sem.run,pure] at h
            | round l g t a b=>simp[vC,Sem.run,pure] at h
            | _=>exact hn.elim
      | refuse y=>simp only[G,stepG,stepG.exec];exact lost _ _
      | _=>simp only[Pure.pure,Sem.run] at h;cases h
    | inRegion ops l=>
      cases l with
      | nil=>simp only[Pure.pure,Sem.run] at h;cases h
      | cons j l=>
        dsimp only at h
        cases hwn:((ops[j]?).map (Region.wanted · (yielded ops tmps))).getD false with
        | false=>
          rw[hwn] at h
          simp only[Bool.false_eq_true,if_false,Pure.pure,Sem.run] at h
          cases h
        | true=>
          rw[hwn] at h
          simp only[if_true] at h
          cases ho:ops[j]? with
          | none=>rw[ho] at hwn;simp at hwn
          | some o=>
            have hwo:Region.wanted o (yielded ops tmps)=true:=by rw[ho] at hwn;exact hwn
            rw[ho] at h
            dsimp only at h
            have Rx:qL P o:=ht o (Array.mem_of_getElem? ho)
            have hnd:∀c,o.op≠.defer c:=fun c e=>by have:=Rx.2;rw[e] at this;exact this
            have hop:stepG.oper P true {fn:=fn,tmps:=tmps,todo:=.inRegion ops (j :: l) :: k,defers:=defers,mode:=.run,kind:=.normal,roundOf:=roundOf } L none w
             =stepG.apply P true {fn:=fn,tmps:=tmps,todo:=.inRegion ops (j :: l) :: k,defers:=defers,mode:=.run,kind:=.normal,roundOf:=roundOf } L none (execOp (Frame.eval {fn:=fn,tmps:=tmps,todo:=.inRegion ops (j :: l) :: k,defers:=defers,mode:=.run,kind:=.normal,roundOf:=roundOf }) o) w:=by
             simp only[stepG.oper,Frame.oper?,ho]
             split
             ·rename_i e0;exact absurd e0 (hnd _)
             ·rfl
            have hG:stepG P true (G {fn:=fn,tmps:=tmps,todo:=.inRegion ops (j :: l) :: k,defers:=defers,mode:=.run,kind:=.normal,roundOf:=roundOf } L) w
             =stepG.apply P true {fn:=fn,tmps:=tmps,todo:=.inRegion ops (j :: l) :: k,defers:=defers,mode:=.run,kind:=.normal,roundOf:=roundOf } L none (execOp (Frame.eval {fn:=fn,tmps:=tmps,todo:=.inRegion ops (j :: l) :: k,defers:=defers,mode:=.run,kind:=.normal,roundOf:=roundOf }) o) w:=by
             rw[← hop]
             simp only[G,stepG,stepG.exec,ho,hwo,Option.map_some,Option.getD_some,if_true]
            rw[hG]
            cases hpn:sN o.op with
            | true=>
              have hx:∃x,o.op=.panic x:=by cases hq:o.op <;> rw[hq] at hpn <;> first|(cases hpn;done)|exact⟨_,rfl⟩
              obtain⟨x,hx⟩:=hx
              obtain⟨e3,w3,h3,ht3,hold⟩:=IE (P:=P) (Frame.eval {fn:=fn,tmps:=tmps,todo:=.inRegion ops (j :: l) :: k,defers:=defers,mode:=.run,kind:=.normal,roundOf:=roundOf } x) w
              have hrun:(execOp (Frame.eval {fn:=fn,tmps:=tmps,todo:=.inRegion ops (j :: l) :: k,defers:=defers,mode:=.run,kind:=.normal,roundOf:=roundOf }) o).run P w=.halt e3 w3:=by
               simp only[execOp,hx,Sem.run_bind,h3]
               rfl
              have hwx:WR ρ w3 w':=⟨fun b b' eb=>by
               obtain⟨o,o',h1,h2,h3⟩:=hw.obj b b' eb
               exact⟨o,o',by rw[hold b (hw.lt eb).1];exact h1,h2,h3⟩,hw.inj⟩
              exact lN rfl hrun ht3 (GH (.refl ρ) hwx) (Cv (.refl ρ) hwx)
            | false=>
              rw[hpn] at h
              simp only[Bool.false_eq_true,if_false] at h
              have hsup:=VI Rx hpn fun c f hc hf=>hl.op ops j l k o c f rfl rfl ho hc hf
              have hx:=xK (ev':=fr'.eval) hg hi hsup fun x hx=>hev x (Rx.1 x hx)
              cases hrun:(execOp (Frame.eval {fn:=fn,tmps:=tmps,todo:=.inRegion ops (j :: l) :: k,defers:=defers,mode:=.run,kind:=.normal,roundOf:=roundOf }) o).run P w with
              | halt e3 w3=>
                obtain⟨ρ2,w3',l2,hw3⟩:=hx.Nb hw hrun
                exact lN rfl hrun ((hx.lc hw).1 e3 w3 hrun) (GH l2 hw3) (Cv l2 hw3)
              | ok n w3=>
                exfalso
                obtain⟨ρ2,n',w3',hn,_,_⟩:=hx.ok hw hrun
                simp only[Sem.run_bind,hrun] at h
                change Sem.run P (vH P _ L n) w3=_ at h
                cases n with
                | value v=>simp[vH,Sem.run,pure] at h
                | skip=>simp[vH,Sem.run,pure] at h
                | enter f args=>simp[vH,Sem.run,pure] at h
                | round l g t a b=>simp[vH,Sem.run,pure] at h
                | _=>exact hn.elim
    | inRangeFunc l=>simp only[G,stepG,stepG.exec];exact lost _ _
    | endRangeFunc l=>
      dsimp only at h
      have htd:=hfr.todo
      generalize ht':fr'.todo=td' at htd
      cases htd with
      | cons hii hkk=>
      cases hii with
      | endRangeFunc hlp=>
      have hx:=vg (P:=P) hi hlp
      simp only[G,stepG,stepG.exec]
      have hT:=Sem.runT_fst P (Instr.endLoop l) w #[]
      generalize ri:Sem.runT P (Instr.endLoop l) w #[]=T at hT⊢
      obtain⟨r,es⟩:=T
      simp only at hT
      subst hT
      refine jI ?_
      cases hrun:(Instr.endLoop l).run P w with
      | ok v w2=>exfalso;simp[Sem.run_bind,hrun,Sem.run,pure] at h
      | halt e2 w2=>
        obtain⟨ρ2,w3',l2,hw3⟩:=hx.Nb hw hrun
        cases e2 with
        | panic v=>exact .inr ⟨_,_,_,rfl,⟨.inr (.inr ⟨rfl,rfl,(raise_mode _ _).1,(GH l2 hw3).raise _,Cv l2 hw3⟩)⟩⟩
        | _=>exact lost _ _
    | beginRound=>
      dsimp only at h
      have hG:stepG P true (G {fn:=fn,tmps:=tmps,todo:=.beginRound :: k,defers:=defers,mode:=.run,kind:=.normal,roundOf:=roundOf } L) w=stepG.apply P true {fn:=fn,tmps:=tmps,todo:=.beginRound :: k,defers:=defers,mode:=.run,kind:=.normal,roundOf:=roundOf } L none (do Option.elim roundOf (stuck rm) Instr.beginRound;pure .skip) w:=by
       simp only[G,stepG,stepG.exec]
       rfl
      rw[hG]
      cases roundOf with
      | none=>exact lN (e:=.stuck rm) (w2:=w) rfl (by simp[Sem.run_bind,stuck,Sem.run]) trivial (GH (.refl ρ) hw) (Cv (.refl ρ) hw)
      | some l=>
        rcases hfr.round with⟨e1,_⟩|⟨l0,l',e1,e2,hl2⟩
        ·cases e1
        ·cases e1
         have hx:=nP (P:=P) hi hl2
         cases hrun:(Instr.beginRound l).run P w with
         | ok v w2=>exfalso;simp[Sem.run_bind,hrun,Sem.run,pure] at h
         | halt e2 w2=>
           obtain⟨ρ2,w3',l2,hw3⟩:=hx.Nb hw hrun
           refine lN (e:=e2) (w2:=w2) rfl ?_ ((hx.lc hw).1 e2 w2 hrun) (GH l2 hw3) (Cv l2 hw3)
           simp only[Option.elim,Sem.run_bind,hrun]
           rfl
    | _=>first
      | exact(show False from ht).elim
      | (simp only[Pure.pure,Sem.run] at h;cases h)
 ·obtain⟨f,c,hf,_⟩:=hF.sv _ hfn
  unfold gu at h
  dsimp only at h
  cases dx with
  | cons r dx=>
    simp only[List.map_cons,jq] at hd
    subst hd
    dsimp only at h
    simp only[G,stepG,unwind]
    have hT:=Sem.runT_fst P (Instr.takeDeferred r) w #[]
    generalize ri:Sem.runT P (Instr.takeDeferred r) w #[]=T at hT⊢
    obtain⟨q,es⟩:=T
    simp only at hT
    subst hT
    refine jI ?_
    cases hrun:(Instr.takeDeferred r).run P w with
    | ok v w2=>exfalso;simp[Sem.run_bind,hrun,Sem.run,pure] at h
    | halt e2 w2=>exact lost _ _
  | nil=>
    simp only[List.map_nil] at hd
    subst hd
    dsimp only at h
    rw[hf] at h
    cases L with
    | nil=>exact absurd ⟨rfl,rfl,rfl⟩ hne
    | cons c0 L=>
      dsimp only at h
      simp only[G,stepG,unwind,hf]
      have hT:=Sem.runT_fst P (results f tmps) w #[]
      generalize ri:Sem.runT P (results f tmps) w #[]=T at hT⊢
      obtain⟨r,es⟩:=T
      simp only at hT
      subst hT
      refine jI ?_
      cases hrun:(results f tmps).run P w with
      | ok v w2=>exfalso;simp[Sem.run_bind,hrun,Sem.run,pure] at h
      | halt e2 w2=>cases e2 <;> exact lost _ _
theorem UG{F:Fence}(hF:gV P F.fn){fr:Frame}{w:World}(h:∀f,fr.about P w=some f→F.fn f)
 (hn:∀f ps a b k,fr.mode=.run→fr.todo=.code (.rangeFunc f ps a b) :: k→∃x w1,(Instr.enterLoop fr.fn fr.tmps ps a b fr.roundOf).run P w=.ok x w1):Cj P F.fn fr:=by
 refine⟨fun ops i l k o c f hm ht ho hc hf g first cap hv=>?_,fun f ps a b k hm ht g first cap hv=>?_⟩
 ·have e:fr.about P w=some g:=by
   unfold Frame.about
   dsimp only
   rw[hm,ht]
   simp only[ho,hc,resolve,hf,hv,Deferred.ofValue,pure,Sem.run,Target.leads]
  obtain⟨fc,c,h1,h2,h3,h4⟩:=hF.sv g (h g e)
  exact⟨fc,c,h g e,h1,h2,h3⟩
 ·have e:fr.about P w=some g:=by
   obtain⟨⟨l,mk⟩,w1,hx⟩:=hn f ps a b k hm ht
   unfold Frame.about
   dsimp only
   rw[hm,ht]
   simp only[hx,resolve,hv,Deferred.ofValue,pure,Sem.run,Target.leads]
  obtain⟨fc,c,h1,h2,h3,h4⟩:=hF.sv g (h g e)
  exact⟨fc,c,h g e,h1,h2,h3⟩
structure Two(P:Program)(F:FuncId→Prop)(ρ:Ren)(s:Frame × List Frame)(w:World)(s':Frame × List Frame)(w':World):Prop where
 st:cD ρ s s'
 ok:F7 P F s
 wr:WR ρ w w'
theorem live(hg:P.globals.size=0){F:Fence}(hF:gV P F.fn)(hin:∀g,F.fn g→P.inits.idxOf? g=none)(hal:F.alive=true){s s':Frame × List Frame}{w w' v:World}{fr:Frame}(h:Two P F.fn ρ s w s' w')
 (hp:StepsIn (Machine.fenced P F) P (solo (G s.1 s.2) w) (lone fr [] v))(hr:fr.mode=.returning):
 (s=(fr,[])∧w=v)∨(s.1.mode=.returning∧s.2=[]∧s.1.defers=[])∨
  (Cj P F.fn s.1∧∃s2 w2,(gu P s.1 s.2).run P w=.ok s2 w2∧StepsIn (Machine.fenced P F) P (solo (G s2.1 s2.2) w2) (lone fr [] v)):=by
 obtain⟨f0,L⟩:=s
 cases hp with
 | refl=>exact .inl ⟨rfl,rfl⟩
 | head hI hs hp=>
   rename_i m1
   by_cases hne:f0.mode=.returning∧L=[]∧f0.defers=[]
   ·exact .inr (.inl hne)
   refine .inr (.inr ?_)
   have hl:Cj P F.fn f0:=UG (w:=w) hF (fun f hf=>(hI (G f0 L) (by simp[solo])).2.2.1 f hf) fun f ps a b k hm ht=>by
    cases hx:(Instr.enterLoop f0.fn f0.tmps ps a b f0.roundOf).run P w with
    | ok x w1=>exact⟨x,w1,rfl⟩
    | halt e w1=>
      exfalso
      obtain⟨fn,tmps,todo,defers,mode,kind,roundOf⟩:=f0
      simp only at hm ht hx
      subst hm
      subst ht
      have hT:=Sem.runT_fst P (Instr.enterLoop fn tmps ps a b roundOf) w #[]
      rw[hx] at hT
      have e1:∃o es,stepG P true (G {fn:=fn,tmps:=tmps,todo:=.code (.rangeFunc f ps a b) :: k,defers:=defers,mode:=.run,kind:=kind,roundOf:=roundOf } L) w=.ended o w1 es:=by
       simp only[G,stepG,stepG.exec]
       generalize Sem.runT P (Instr.enterLoop fn tmps ps a b roundOf) w #[]=T at hT⊢
       obtain⟨r,es⟩:=T
       simp only at hT
       subst hT
       exact⟨_,_,rfl⟩
      obtain⟨o,es,e1⟩:=e1
      rw[step,stepT_solo rfl,aV e1] at hs
      cases hs
   refine⟨hl,?_⟩
   cases hrun:(gu P f0 L).run P w with
   | ok s2 w2=>
     refine⟨s2,w2,rfl,?_⟩
     have hT:=Sem.runT_fst P (gu P f0 L) w #[]
     obtain⟨es',hstep,_⟩:=yQ (cs:=[]) (main:=true) h.ok.1 (show(gu P f0 L).runT P w #[]=(.ok s2 w2,((gu P f0 L).runT P w #[]).2) by rw[← hrun,← hT])
     simp only[List.append_nil] at hstep
     rw[step,stepT_solo rfl,runT_solo_go hstep] at hs
     cases hs
     exact hp
   | halt e w1=>
     exfalso
     have hb:=Qy hg hF hin (s:=(f0,L)) h.st h.ok h.wr hl hne hrun
     rw[step,stepT_solo rfl] at hs
     rcases hb with⟨o,w2,es,e1⟩|⟨g,w2,es,e1,hd⟩
     ·rw[aV e1] at hs;cases hs
     ·rw[runT_solo_go e1] at hs
      cases hs
      obtain⟨g1,w3,e3,hd3⟩:=Ph hal hp rfl hd
      have eg:g1={frame:=fr,callers:=[],status:=.running,dying:=none }:=by
       have:=congrArg Machine.gs e3
       simp only[lone,solo] at this
       exact(Array.singleton_inj.1 this).symm
      subst eg
      rcases hd3.cases with c|c|⟨_,_,⟨chain,c⟩,_⟩
      ·cases c
      ·rcases c with c|c|c <;> cases c
      ·simp only at c;rw[hr] at c;cases c
end
section
variable[Inhabited aT]
open Go.Conc
variable{P:Program}
abbrev St:=(Frame × List Frame) × World
def Sn(P:Program)(a b:St):Prop:=(gu P a.1.1 a.1.2).run P a.2=.ok b.1 b.2
def uL(a:St)(τ:Tape):St:=(a.1,on a.2 τ)
def Rl(P:Program)(F:FuncId→Prop)(a:St):Prop:=Cj P F a.1.1∧∃ρ s' w',Two P F ρ a.1 a.2 s' w'
def lK(P:Program)(F:FuncId→Prop)(b a:St):Prop:=∃τ:Tape,Rl P F a∧(∀j,j<a.2.drawn→τ j=a.2.tape j)∧Sn P (uL a τ) b
inductive SH (P:Program) (F:FuncId→Prop) (s0:St):St→Prop
 | refl:SH P F s0 s0
 | step {a b:St}:SH P F s0 a→lK P F b a→SH P F s0 b
theorem Two.on{F:FuncId→Prop}{ρ:Ren}{s s':Frame × List Frame}{w w':World}(h:Two P F ρ s w s' w')(τ:Tape):Two P F ρ s (on w τ) s' w':=⟨h.st,h.ok,⟨h.wr.obj,h.wr.inj⟩⟩
theorem loc(hg:P.globals.size=0){F:FuncId→Prop}(hF:gV P F){a b:St}{τ:Tape}(hr:Rl P F a)(h:Sn P (uL a τ) b):
 b.2.tape=τ∧a.2.drawn≤b.2.drawn∧∀σ:Tape,(∀j,j<b.2.drawn→σ j=τ j)→Sn P (uL a σ) (uL b σ):=by
 obtain⟨hl,ρ,s',w',ht⟩:=hr
 have hlc:=(Du hg hF ht.wr.inj ht.st ht.ok hl).lc (ht.on τ).wr
 obtain⟨h1,h2,h3⟩:=hlc.2 b.1 b.2 h
 exact⟨h1,h2,fun σ hσ=>h3 σ fun j _ hj=>hσ j hj⟩
def Way(P:Program)(F:Fence)(Post:Frame→World→Prop)(a:St):Prop:=
 ∃fr v,StepsIn (Machine.fenced P F) P (solo (G a.1.1 a.1.2) a.2) (lone fr [] v)∧fr.mode=.returning∧fr.defers=[]∧Post fr v
theorem mx{fr:Frame}(h:fr.mode=.returning)(hd:fr.defers=[]){w:World}{b:St}:¬ Sn P ((fr,[]),w) b:=by
 intro hg
 unfold Sn gu at hg
 simp only[h,hd] at hg
 split at hg
 ·simp_all
 ·simp only[stuck,Sem.run] at hg;cases hg
theorem Am(hg:P.globals.size=0){F:Fence}(hF:gV P F.fn)(hin:∀g,F.fn g→P.inits.idxOf? g=none)(hal:F.alive=true){Post:Frame→World→Prop}{s0:St}(H:∀σ:Tape,Way P F Post (uL s0 σ)):
 ∀ {u:St},SH P F.fn s0 u→∀σ:Tape,(∀j,j<u.2.drawn→σ j=u.2.tape j)→Way P F Post (uL u σ):=by
 intro u h
 induction h with
 | refl=>intro σ _;exact H σ
 | @step a b _ hs ih=>
   intro σ hσ
   obtain⟨τ,hrl,hτ,hgo⟩:=hs
   obtain⟨e1,e2,e3⟩:=loc hg hF hrl hgo
   have Ui:=e3 σ fun j hj=>(hσ j hj).trans (by rw[e1])
   obtain⟨fr,v,hp,hm,hdf,hpost⟩:=ih σ fun j hj=>by
    have:=hσ j (Nat.lt_of_lt_of_le hj e2)
    rw[e1] at this
    rw[this];exact hτ j hj
   obtain⟨hl,ρ,s',w',ht⟩:=hrl
   rcases live hg hF hin hal (ht.on σ) hp hm with⟨ea,_⟩|⟨em,eL,ed⟩|⟨_,s2,w2,er,hp2⟩
   ·exfalso
    have:uL a σ=((fr,[]),on a.2 σ):=by simp only[uL,← ea]
    rw[this] at Ui
    exact mx hm hdf Ui
   ·exfalso
    have:uL a σ=((a.1.1,[]),on a.2 σ):=by simp only[uL,← eL]
    rw[this] at Ui
    exact mx em ed Ui
   ·have eo:(gu P a.1.1 a.1.2).run P (on a.2 σ)=.ok b.1 (on b.2 σ):=Ui
    rw[er] at eo
    cases eo
    exact⟨fr,v,hp2,hm,hdf,hpost⟩
theorem LZ{F:FuncId→Prop}{a b:St}(ok:jP P F a.1.1)(h:Sn P a b):step P (solo (G a.1.1 a.1.2) a.2)=.next (solo (G b.1.1 b.1.2) b.2):=by
 have hT:=Sem.runT_fst P (gu P a.1.1 a.1.2) a.2 #[]
 unfold Sn at h
 obtain⟨es',hstep,_⟩:=yQ (cs:=[]) (main:=true) ok (show(gu P a.1.1 a.1.2).runT P a.2 #[]=(.ok b.1 b.2,((gu P a.1.1 a.1.2).runT P a.2 #[]).2) by rw[← h,← hT])
 simp only[List.append_nil] at hstep
 rw[step,stepT_solo rfl,runT_solo_go hstep]
theorem JW(hg:P.globals.size=0){F:Fence}(hF:gV P F.fn)(hin:∀g,F.fn g→P.inits.idxOf? g=none)(hal:F.alive=true){Post:Frame→World→Prop}{s0:St}(H:∀σ:Tape,Way P F Post (uL s0 σ)):Acc (lK P F.fn) s0:=by
 refine Classical.byContradiction fun hn=>?_
 have next:∀a:{a:St // ¬ Acc (lK P F.fn) a },∃b:{a:St // ¬ Acc (lK P F.fn) a },lK P F.fn b.1 a.1:=fun a=>by
  refine Classical.byContradiction fun h=>a.2 ⟨a.1,fun b hb=>Classical.byContradiction fun hb2=>h ⟨⟨b,hb2⟩,hb⟩⟩
 let f:Nat→{a:St // ¬ Acc (lK P F.fn) a }:=fun n=>Nat.rec ⟨s0,hn⟩ (fun _ a=>Classical.choose (next a)) n
 have hf:∀i,lK P F.fn (f (i+1)).1 (f i).1:=fun i=>Classical.choose_spec (next (f i))
 have mono:∀i,(f i).1.2.drawn≤(f (i+1)).1.2.drawn:=fun i=>by
  obtain⟨τ,hrl,hτ,hgo⟩:=hf i
  exact(loc hg hF hrl hgo).2.1
 have Vp:∀i j,j<(f i).1.2.drawn→(f (i+1)).1.2.tape j=(f i).1.2.tape j:=fun i j hj=>by
  obtain⟨τ,hrl,hτ,hgo⟩:=hf i
  rw[(loc hg hF hrl hgo).1];exact hτ j hj
 have mono':∀i k,(f i).1.2.drawn≤(f (i+k)).1.2.drawn:=fun i k=>by
  induction k with
  | zero=>exact zL
  | succ k ih=>exact Nat.le_trans ih (mono (i+k))
 have same:∀i k j,j<(f i).1.2.drawn→(f (i+k)).1.2.tape j=(f i).1.2.tape j:=fun i k j hj=>by
  induction k with
  | zero=>rfl
  | succ k ih=>exact(Vp (i+k) j (Nat.lt_of_lt_of_le hj (mono' i k))).trans ih
 classical
 let σ:Tape:=fun j=>if h:∃i,j<(f i).1.2.drawn then(f (Classical.choose h)).1.2.tape j else fun _=>0
 have hσ:∀i j,j<(f i).1.2.drawn→σ j=(f i).1.2.tape j:=fun i j hj=>by
  have hx:∃i,j<(f i).1.2.drawn:=⟨i,hj⟩
  have e:σ j=(f (Classical.choose hx)).1.2.tape j:=dif_pos hx
  rw[e]
  have hc:=Classical.choose_spec hx
  generalize Classical.choose hx=c at hc
  rcases Nat.le_total c i with l|l
  ·obtain⟨k,rfl⟩:=Nat.exists_eq_add_of_le l
   exact(same c k j hc).symm
  ·obtain⟨k,rfl⟩:=Nat.exists_eq_add_of_le l
   exact same i k j hj
 have go:∀i,Sn P (uL (f i).1 σ) (uL (f (i+1)).1 σ)∧jP P F.fn (f i).1.1.1:=fun i=>by
  obtain⟨τ,hrl,hτ,hgo⟩:=hf i
  obtain⟨e1,e2,e3⟩:=loc hg hF hrl hgo
  refine⟨e3 σ fun j hj=>by rw[hσ (i+1) j hj,e1],?_⟩
  obtain⟨_,_,_,_,ht⟩:=hrl
  exact ht.ok.1
 obtain⟨fr,v,hp,hm,hdf,_⟩:=H σ
 have key:∀ {m m':Machine},StepsIn (Machine.fenced P F) P m m'→∀i,m=solo (G (uL (f i).1 σ).1.1 (uL (f i).1 σ).1.2) (uL (f i).1 σ).2→m'≠lone fr [] v:=by
  intro m m' h
  induction h with
  | refl m=>
    rintro i e e2
    rw[e] at e2
    have eg:=congrArg Machine.gs e2
    simp only[lone,solo] at eg
    have eg:=Array.singleton_inj.1 eg
    have e3:(uL (f i).1 σ).1.1=fr:=congrArg Goroutine.frame eg
    have e4:(uL (f i).1 σ).1.2=[]:=congrArg Goroutine.callers eg
    have hgo:=(go i).1
    have:uL (f i).1 σ=((fr,[]),(uL (f i).1 σ).2):=by rw[← e3,← e4]
    rw[this] at hgo
    exact mx hm hdf hgo
  | head hI hs _ ih=>
    rintro i e
    subst e
    rw[LZ (a:=uL (f i).1 σ) (go i).2 (go i).1] at hs
    cases hs
    exact ih (i+1) rfl
 exact key hp 0 rfl rfl
def Keeps(C O:Nat→Prop)(w w2:World):Prop:=∀b,O b∨C b→w2.heap[b]? =w.heap[b]?
structure Did(C O O1:Nat→Prop)(w w1:World)(new:List Event):Prop where
 tape:w1.tape=w.tape
 os:w1.os=w.os
 output:w1.output=w.output
 size:w.heap.size≤w1.heap.size
 other:∀b,b<w.heap.size→¬ O b→w1.heap[b]? =w.heap[b]?
 own:∀b,O1 b↔O b∨(w.heap.size≤b∧b<w1.heap.size)
 evs:∀e∈new,RH O1 C e
theorem Ran.did{C O O1:Nat→Prop}{ρ ρ1:Ren}{w w1 v v1:World}{new:List Event}(h:Ran C O O1 ρ ρ1 w w1 v v1 new):Did C O O1 v v1 new:=⟨h.tape,h.os,h.output,h.size,h.other,h.own,h.evs⟩
inductive A8 (P:Program) (F:FuncId→Prop) (C:Nat→Prop) (Q:Frame→World→(Nat→Prop)→Prop):Frame × List Frame→World→(Nat→Prop)→Prop
 | done {fr:Frame} {w:World} {O:Nat→Prop}:jP P F fr→fr.mode=.returning→fr.defers=[]→(∀w2,Keeps C O w w2→Q fr w2 O)→A8 P F C Q (fr,[]) w O
 | step {s:Frame × List Frame} {w:World} {O:Nat→Prop} (X:Frame × List Frame→World→(Nat→Prop)→Prop):jP P F s.1→(s.1.mode=.returning→s.2=[]→s.1.defers≠[])→
  (∀w2,Keeps C O w w2→∃s2 w3 O2 new,(gu P s.1 s.2).runT P w2 #[]=(.ok s2 w3,List.toArray new)∧Did C O O2 w2 w3 new∧X s2 w3 O2)→(∀s2 w3 O2,X s2 w3 O2→A8 P F C Q s2 w3 O2)→A8 P F C Q s w O
theorem Pk{F:FuncId→Prop}(hF:gV P F)(hin:∀g,F g→P.inits.idxOf? g=none){fr:Frame}(ok:jP P F fr)(hm:fr.mode=.returning)(hd:fr.defers=[]){w:World}{m1:Machine}:step P (solo (G fr []) w)≠.next m1:=by
 intro hs
 obtain⟨f,c,hf,_⟩:=hF.sv _ ok.fn
 rw[step,stepT_solo rfl] at hs
 have hT:=Sem.runT_fst P (results f fr.tmps) w #[]
 have e:stepG P true (G fr []) w=unwind P true fr [] none w:=by simp[G,stepG,hm]
 have:∃o w2 es,stepG P true (G fr []) w=.ended o w2 es:=by
  rw[e]
  simp only[unwind,hd,hm,hf]
  generalize ri:Sem.runT P (results f fr.tmps) w #[]=T at hT⊢
  obtain⟨r,es⟩:=T
  dsimp only
  cases r with
  | ok v w2=>
    simp only[doReturn,ok.kind,hin _ ok.fn,Bool.not_true,Bool.false_eq_true,if_false]
    exact⟨_,_,_,rfl⟩
  | halt h w2=>cases h <;> exact⟨_,_,_,rfl⟩
 obtain⟨o,w2,es,e2⟩:=this
 rw[aV e2] at hs
 cases hs
theorem kG.ok{a b:Item}{ρ:Ren}(h:kG ρ a b)(k:kS P a):kS P b:=by cases h <;> exact k
theorem fG.ok{a b:List Item}{ρ:Ren}(h:fG ρ a b)(k:∀i∈a,kS P i):∀i∈b,kS P i:=by
 induction h with
 | nil=>exact k
 | cons h _ ih=>
   simp only[List.forall_mem_cons] at k⊢
   exact⟨h.ok k.1,ih k.2⟩
theorem Ci.okR{F:FuncId→Prop}{ρ:Ren}{a b:Frame}(h:Ci ρ a b)(k:jP P F a):jP P F b:=by
 refine⟨by rw[h.fn];exact k.fn,h.todo.ok k.todo,?_,by rw[h.mode];exact k.mode,by rw[h.kind];exact k.kind⟩
 obtain⟨x,x',_,e,_⟩:=h.defers
 exact⟨x',e⟩
theorem dQ.Nz{a b:List Deferred}{ρ:Ren}(h:dQ ρ a b):b=[]↔a=[]:=by
 obtain⟨x,x',rfl,rfl,e,_⟩:=h
 cases x <;> cases x' <;> simp_all
theorem WR.keeps{C O:Nat→Prop}{ρ:Ren}{w w' w2:World}(h:WR ρ w w')(hc:∀b b',ρ b=some b'→(Fz w b∧C b')∨O b')(k:Keeps C O w' w2):WR ρ w w2:=by
 refine⟨fun b b' e=>?_,h.inj⟩
 obtain⟨o,o',h1,h2,h3⟩:=h.obj b b' e
 refine⟨o,o',h1,?_,h3⟩
 rw[k b' ((hc b b' e).elim (fun x=>.inr x.2) .inl)];exact h2
theorem YV(hg:P.globals.size=0){F:Fence}(hF:gV P F.fn)(hin:∀g,F.fn g→P.inits.idxOf? g=none)(hal:F.alive=true){Post:Frame→World→Prop}{C:Nat→Prop}{Q:Frame→World→(Nat→Prop)→Prop}{s0:St}{ρ0:Ren}(H:∀σ:Tape,Way P F Post (uL s0 σ))
 (hQ:∀ρ fr w fr' w2 O,Le ρ0 ρ→Post fr w→Ci ρ fr fr'→WR ρ w w2→(∀b b',ρ b=some b'→(Fz w b∧C b')∨O b')→Q fr' w2 O):
 ∀ {a:St},Acc (lK P F.fn) a→SH P F.fn s0 a→∀ {ρ:Ren} {s':Frame × List Frame} {w':World} {O:Nat→Prop},Two P F.fn ρ a.1 a.2 s' w'→(∀b b',ρ b=some b'→(Fz a.2 b∧C b')∨O b')→Le ρ0 ρ→A8 P F.fn C Q s' w' O:=by
 intro a ha
 induction ha with
 | intro a _ ih=>
 intro lj ρ s' w' O ht hc hle
 have eqm:s'.1.mode=a.1.1.mode:=ht.st.1.mode
 have eqd:s'.1.defers=[]↔a.1.1.defers=[]:=ht.st.1.defers.Nz
 have eql:a.1.2=[]↔s'.2=[]:=by
  have hL:=ht.st.2
  generalize a.1.2=x at hL⊢
  generalize s'.2=y at hL⊢
  cases hL <;> simp
 by_cases hend:a.1.1.mode=.returning∧a.1.2=[]∧a.1.1.defers=[]
 ·obtain⟨f',L'⟩:=s'
  have hL':L'=[]:=eql.1 hend.2.1
  subst hL'
  refine .done (ht.st.1.okR ht.ok.1) (eqm.trans hend.1) (eqd.2 hend.2.2) fun w2 hk=>?_
  obtain⟨fr,v,hp,hm,hdf,hpost⟩:=Am hg hF hin hal H lj a.2.tape fun _ _=>rfl
  have ea:uL a a.2.tape=a:=rfl
  rw[ea] at hp
  have:a.1=(fr,[])∧a.2=v:=by
   obtain⟨⟨f0,L⟩,w0⟩:=a
   obtain⟨e1,e2,e3⟩:=hend
   simp only at e1 e2 e3 hp
   subst e2
   generalize hm0:solo (G f0 []) w0=m0 at hp
   generalize hm1:lone fr [] v=m1 at hp
   cases hp with
   | refl=>
     subst hm0
     have eg:=congrArg Machine.gs hm1
     simp only[lone,solo] at eg
     have ef:fr=f0:=congrArg Goroutine.frame (Array.singleton_inj.1 eg)
     have ew:v=w0:=congrArg Machine.world hm1
     exact⟨by rw[ef],ew.symm⟩
   | head hI hs hp=>subst hm0;exact absurd hs (Pk hF hin ht.ok.1 e1 e3)
  obtain⟨e1,e2⟩:=this
  subst e2
  have hfr:=ht.st.1
  rw[e1] at hfr
  exact hQ ρ fr a.2 f' w2 O hle hpost hfr (ht.wr.keeps hc hk) hc
 ·refine .step (fun s2 w3 O2=>∃ρ1 b,Two P F.fn ρ1 b.1 b.2 s2 w3∧(∀x x',ρ1 x=some x'→(Fz b.2 x∧C x')∨O2 x')∧lK P F.fn b a∧Le ρ0 ρ1) (ht.st.1.okR ht.ok.1) (fun hm hL hd=>hend ⟨eqm.symm.trans hm,eql.2 hL,eqd.1 hd⟩) (fun w2 hk=>?_) ?_
  rotate_left
  ·rintro s2 w3 O2 ⟨ρ1,b,h1,h2,h3,h4⟩
   exact ih b h3 (.step lj h3) h1 h2 h4
  let τ:Tape:=fun j=>if j<a.2.drawn then a.2.tape j else w2.tape (j - a.2.drawn+w2.drawn)
  have hτ:∀j,j<a.2.drawn→τ j=a.2.tape j:=fun j hj=>if_pos hj
  obtain⟨fr,v,hp,hm,hdf,hpost⟩:=Am hg hF hin hal H lj τ hτ
  have dt:¬ ((uL a τ).1.1.mode=.returning∧(uL a τ).1.2=[]∧(uL a τ).1.1.defers=[]):=hend
  rcases live hg hF hin hal (ht.on τ) hp hm with⟨ea,_⟩|em|⟨hl,s2,w3,er,_⟩
  ·exact absurd ⟨by show a.1.1.mode=_;rw[ea];exact hm,by show a.1.2=_;rw[ea],by show a.1.1.defers=_;rw[ea];exact hdf⟩ dt
  ·exact absurd em dt
  have hw2:WR ρ (on a.2 τ) w2:=⟨(ht.wr.keeps hc hk).obj,ht.wr.inj⟩
  have lr:kI (on a.2 τ) w2:=fun k q=>by
   show τ (a.2.drawn+k) q=_
   simp only[τ]
   rw[if_neg zo]
   rw[show a.2.drawn+k - a.2.drawn+w2.drawn=w2.drawn+k by omega]
  obtain⟨ρ1,s3,w4,O2,new,h1,h2,h3⟩:=SR.runT (es:=#[]) (Du hg hF ht.wr.inj ht.st ht.ok hl) hw2 lr hc er
  refine⟨s3,w4,O2,new,by simpa using h1,h3.did,?_⟩
  have hsucc:lK P F.fn (s2,w3) a:=⟨τ,⟨hl,ρ,s',w',ht⟩,hτ,er⟩
  exact⟨ρ1,(s2,w3),⟨h2.1,h2.2,h3.wr⟩,h3.cl,hsucc,hle.trans h3.le⟩
def sd(C O:Nat→Prop)(ρ:Ren)(w:World):Prop:=∀b b',ρ b=some b'→(Fz w b∧C b')∨O b'
def Gives(P:Program)(C:Nat→Prop)(ρ0:Ren)(f:FuncId)(R:Value→World→Prop)(fr':Frame)(w2:World)(O:Nat→Prop):Prop:=
 fr'.fn=f∧fr'.defers=[]∧fr'.kind=.normal∧fr'.mode=.returning∧∃fn ρ1 v v' w w3 O3 new,P.funcs[f]? =some fn∧(results fn fr'.tmps).runT P w2 #[]=(.ok v' w3,List.toArray new)∧R v w∧VR ρ1 v v'∧WR ρ1 w w3∧Le ρ0 ρ1∧Did C O O3 w2 w3 new∧sd C O3 ρ1 w
theorem vY(hg:P.globals.size=0){F:Fence}(hF:gV P F.fn)(hin:∀g,F.fn g→P.inits.idxOf? g=none)(hal:F.alive=true){n:Nat}(hroom:F.room (1+n)){f:FuncId}{args args':Array Value}{w w':World}{R:Value→World→Prop}
 (H:∀σ:Tape,CallsIn F n P f args (on w σ) (fun e v=>∃x,e=.returned x∧R x v)){ρ:Ren}{C O:Nat→Prop}(ha:dW ρ args args')(hw:WR ρ w w')(hc:sd C O ρ w):
 A8 P F.fn C (Gives P C ρ f R) (Frame.enter P f args' .normal,[]) w' O:=by
 have hf:F.fn f:=(H w.tape).1
 let Post:Frame→World→Prop:=fun fr v=>fr.fn=f∧∃x,R x v∧fr.leaving P v (.returned x)
 have HW:∀σ:Tape,Way P F Post (uL ((Frame.enter P f args .normal,[]),w) σ):=fun σ=>by
  obtain⟨e,v,fr,⟨x,rfl,hR⟩,hp,hfn,hl⟩:=(H σ).2 [] (by simpa using hroom)
  exact⟨fr,v,hp,hl.1,hl.2.1,hfn,x,hR,hl⟩
 have hacc:=JW hg hF hin hal HW
 have ht:Two P F.fn ρ (Frame.enter P f args .normal,[]) w (Frame.enter P f args' .normal,[]) w':=⟨⟨uz ha,.nil⟩,⟨xI hF hf _,zs⟩,hw⟩
 refine YV (ρ0:=ρ) hg hF hin hal HW ?_ hacc .refl ht hc (.refl ρ)
 rintro ρ1 fr v fr' w2 O1 hle ⟨hfn,x,hR,hm,hd,hk,fn,hfs,hres⟩ hfr hwr hcl
 refine⟨hfr.fn.trans hfn,hfr.defers.Nz.2 hd,hfr.kind.trans hk,hfr.mode.trans hm,?_⟩
 have hsr:=vJ (P:=P) hwr.inj fn hfr.tmps
 let τ:Tape:=fun j=>w2.tape (j - v.drawn+w2.drawn)
 obtain⟨_,_,h3⟩:=(hsr.lc hwr).2 x v hres
 have hrun:=h3 τ fun j h1 h2=>zo
 have hw2:WR ρ1 (on v τ) w2:=⟨hwr.obj,hwr.inj⟩
 have lr:kI (on v τ) w2:=fun k q=>by
  show w2.tape (v.drawn+k - v.drawn+w2.drawn) q=_
  rw[show v.drawn+k - v.drawn+w2.drawn=w2.drawn+k by omega]
 obtain⟨ρ2,v',w3,O3,new,r1,r2,r3⟩:=SR.runT (C:=C) (O:=O1) (es:=#[]) hsr hw2 lr hcl hrun
 rw[hfn] at hfs
 exact⟨fn,ρ2,x,v',v,w3,O3,new,hfs,by simpa using r1,hR,r2,⟨r3.wr.obj,r3.wr.inj⟩,hle.trans r3.le,r3.did,r3.cl⟩
end
section
variable[Inhabited aT]
open Go.Conc
variable{P:Program}{F:FuncId→Prop}{C:Nat→Prop}{Q:Frame→World→(Nat→Prop)→Prop}
theorem Keeps.refl(C O:Nat→Prop)(w:World):Keeps C O w w:=fun _ _=>rfl
theorem Keeps.trans{O:Nat→Prop}{w w1 w2:World}(h:Keeps C O w w1)(k:Keeps C O w1 w2):Keeps C O w w2:=fun b hb=>(k b hb).trans (h b hb)
theorem A8.keeps{s:Frame × List Frame}{w w2:World}{O:Nat→Prop}(h:A8 P F C Q s w O)(k:Keeps C O w w2):A8 P F C Q s w2 O:=by
 cases h with
 | done h1 h2 h2b h3=>exact .done h1 h2 h2b fun w3 k3=>h3 w3 (k.trans k3)
 | step X h1 h2 h3 h4=>exact .step X h1 h2 (fun w3 k3=>h3 w3 (k.trans k3)) h4
open Classical in
noncomputable def view(C O:Nat→Prop)(w:World):Nat→Option Obj:=fun b=>if O b∨C b then w.heap[b]? else none
theorem Mj{O:Nat→Prop}{w w2:World}(k:Keeps C O w w2):view C O w2=view C O w:=by
 funext b
 unfold view
 split
 ·rename_i h;exact k b h
 ·rfl
theorem xX{O:Nat→Prop}{w w2:World}(e:view C O w2=view C O w):Keeps C O w w2:=fun b hb=>by
 have:=congrFun e b
 unfold view at this
 rwa[if_pos hb,if_pos hb] at this
structure PS where
 s:Frame × List Frame
 O:Nat→Prop
 v:Nat→Option Obj
noncomputable def ps(C:Nat→Prop)(s:Frame × List Frame)(w:World)(O:Nat→Prop):PS:=⟨s,O,view C O w⟩
def tD(P:Program)(C:Nat→Prop)(y x:PS):Prop:=
 ∃w2 w3 new,view C x.O w2=x.v∧(gu P x.s.1 x.s.2).runT P w2 #[]=(.ok y.s w3,List.toArray new)∧Did C x.O y.O w2 w3 new∧y.v=view C y.O w3
def Rank(P:Program)(C:Nat→Prop):={x:PS // Acc (tD P C) x }
def kU(P:Program)(C:Nat→Prop)(y x:Rank P C):Prop:=tD P C y.1 x.1
theorem Dg(P:Program)(C:Nat→Prop):WellFounded (kU P C):=⟨fun⟨x,hx⟩=>by
 induction hx with
 | intro x hx ih=>exact⟨_,fun y hy=>ih y.1 hy⟩⟩
end
end Go.bZ
