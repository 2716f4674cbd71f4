/- Par15 Par16 Par17 -/
import Derived.Test.YthaelabgfnnebaaGreatB9
import Derived.Conc.Fork
import Derived.CallsIn
set_option maxRecDepth 100000
set_option maxHeartbeats 16000000
set_option linter.unusedVariables false
set_option linter.unusedSectionVars false
namespace Go.cu
section
variable[Inhabited aV]
variable{P:Program}{ρ:Ren}
inductive ko (ρ:Ren):Item→Item→Prop
 | code (c:Code):ko ρ (.code c) (.code c)
 | inBlock (i:Nat):ko ρ (.inBlock i) (.inBlock i)
 | inLoop (c:Code):ko ρ (.inLoop c) (.inLoop c)
 | inScope (c:Code):ko ρ (.inScope c) (.inScope c)
 | inRegion (o:Array Oper) (l:List Nat):ko ρ (.inRegion o l) (.inRegion o l)
 | beginRound:ko ρ .beginRound .beginRound
 | inRangeFunc {l l':Nat}:ρ l=some l'→ko ρ (.inRangeFunc l) (.inRangeFunc l')
 | endRangeFunc {l l':Nat}:ρ l=some l'→ko ρ (.endRangeFunc l) (.endRangeFunc l')
theorem ko.mono{ρ':Ren}(l:Le ρ ρ'){a b:Item}(h:ko ρ a b):ko ρ' a b:=by
 cases h with
 | code c=>exact .code c
 | inBlock i=>exact .inBlock i
 | inLoop c=>exact .inLoop c
 | inScope c=>exact .inScope c
 | inRegion o l=>exact .inRegion o l
 | beginRound=>exact .beginRound
 | inRangeFunc h=>exact .inRangeFunc (l _ _ h)
 | endRangeFunc h=>exact .endRangeFunc (l _ _ h)
inductive fE (ρ:Ren):List Item→List Item→Prop
 | nil:fE ρ [] []
 | cons {a b:Item} {x y:List Item}:ko ρ a b→fE ρ x y→fE ρ (a :: x) (b :: y)
theorem fE.mono{ρ':Ren}(l:Le ρ ρ'){a b:List Item}(h:fE ρ a b):fE ρ' a b:=by
 induction h with
 | nil=>exact .nil
 | cons h _ ih=>exact .cons (h.mono l) ih
theorem fE.append{a b c d:List Item}(h:fE ρ a b)(k:fE ρ c d):fE ρ (a ++ c) (b ++ d):=by
 induction h with
 | nil=>exact k
 | cons h _ ih=>exact .cons h ih
def Dl(ρ:Ren)(a b:Option Nat):Prop:=(a=none∧b=none)∨∃l l',a=some l∧b=some l'∧ρ l=some l'
theorem Dl.mono{ρ':Ren}(l:Le ρ ρ'){a b:Option Nat}(h:Dl ρ a b):Dl ρ' a b:=h.imp id fun⟨x,y,e1,e2,e3⟩=>⟨x,y,e1,e2,l _ _ e3⟩
structure Bj(ρ:Ren)(fr fr':Frame):Prop where
 fn:fr'.fn=fr.fn
 mode:fr'.mode=fr.mode
 kind:fr'.kind=fr.kind
 tmps:dY ρ fr.tmps fr'.tmps
 todo:fE ρ fr.todo fr'.todo
 defers:dU ρ fr.defers fr'.defers
 round:Dl ρ fr.roundOf fr'.roundOf
inductive Vf (ρ:Ren):List Frame→List Frame→Prop
 | nil:Vf ρ [] []
 | cons {a b:Frame} {l m:List Frame}:Bj ρ a b→Vf ρ l m→Vf ρ (a :: l) (b :: m)
theorem Bj.mono{ρ':Ren}(l:Le ρ ρ'){a b:Frame}(h:Bj ρ a b):Bj ρ' a b:=⟨h.fn,h.mode,h.kind,h.tmps.mono l,h.todo.mono l,h.defers.mono l,h.round.mono l⟩
theorem Vf.mono{ρ':Ren}(l:Le ρ ρ'){a b:List Frame}(h:Vf ρ a b):Vf ρ' a b:=by
 induction h with
 | nil=>exact .nil
 | cons h _ ih=>exact .cons (h.mono l) ih
def Zg(ρ:Ren)(a b:Frame × List Frame):Prop:=Bj ρ a.1 b.1∧Vf ρ a.2 b.2
theorem FT{a b:Frame}(h:Bj ρ a b){x:Operand}(hx:qj x):VR ρ (a.eval x) (b.eval x):=by
 cases x with
 | tmp t=>exact h.tmps.getD t
 | const v=>exact hx ρ
 | global g=>exact hx.elim
 | func f=>exact .func f rfl (fun i h=>by simp at h) rfl (fun i h=>by simp at h)
theorem UM{a b:Frame}(h:Bj ρ a b){k k':List Item}(hk:fE ρ k k'):Bj ρ {a with todo:=k } {b with todo:=k' }:=⟨h.fn,h.mode,h.kind,h.tmps,hk,h.defers,h.round⟩
theorem iy{a b:Frame}(h:Bj ρ a b)(hk:∀i∈a.todo,kQ P i){v v':Value}(hv:VR ρ v v'):Bj ρ (a.finish v) (b.finish v'):=by
 obtain⟨fn,tmps,todo,defers,mode,kind,roundOf⟩:=a
 obtain⟨fn',uR,todo',defers',ZJ,kind',xL⟩:=b
 obtain⟨h1,h2,h3,h4,h5,h6,h7⟩:=h
 simp only at h1 h2 h3 h4 h5 h6 h7 hk
 cases h5 with
 | nil=>exact⟨h1,h2,h3,h4,.nil,h6,h7⟩
 | @cons i i' k k' hi hks=>
   cases hi with
   | inRegion ops l=>
     cases l with
     | nil=>exact⟨h1,h2,h3,h4,.cons (.inRegion _ _) hks,h6,h7⟩
     | cons j l=>
       refine⟨h1,h2,h3,?_,.cons (.inRegion _ _) hks,h6,h7⟩
       simp only[Frame.finish]
       cases ((ops[j]?).bind (·.dst)) with
       | none=>exact h4
       | some d=>exact h4.set d hv
   | inRangeFunc hl=>exact⟨h1,h2,h3,h4,.cons (.endRangeFunc hl) hks,h6,h7⟩
   | beginRound=>exact⟨h1,h2,h3,h4,hks,h6,h7⟩
   | code c=>exact⟨h1,h2,h3,h4,.cons (.code c) hks,h6,h7⟩
   | inBlock i=>exact⟨h1,h2,h3,h4,.cons (.inBlock i) hks,h6,h7⟩
   | inLoop c=>exact⟨h1,h2,h3,h4,.cons (.inLoop c) hks,h6,h7⟩
   | inScope c=>exact⟨h1,h2,h3,h4,.cons (.inScope c) hks,h6,h7⟩
   | endRangeFunc hl=>exact⟨h1,h2,h3,h4,.cons (.endRangeFunc hl) hks,h6,h7⟩
theorem OA{α:Type}(f f':α→Sem Value)(hf:∀a {ρ':Ren},Ext ρ ρ'→SR P VR ρ' (f a) (f' a)):∀ (l:List α) {ρ':Ren},Ext ρ ρ'→SR P LR ρ' (l.mapM f) (l.mapM f'):=by
 intro l
 induction l with
 | nil=>intro ρ' hi;simp only[List.mapM_nil];exact SR.pure .nil
 | cons a l ih=>
   intro ρ1 hi
   simp only[List.mapM_cons]
   refine(hf a hi).bind' hi.2 fun ρ2 l2 x y hx=>?_
   refine(ih (hi.trans l2)).bind' l2.2 fun ρ3 l3 xs ys hxs=>?_
   exact SR.pure (.cons (hx.mono l3.1) hxs)
theorem LR.array{l l':List Value}(h:LR ρ l l'):dY ρ l.toArray l'.toArray:=by
 induction h with
 | nil=>exact .nil ρ
 | cons hv _ ih=>
   have:=dY.append (ρ:=ρ) (dY.push (.nil ρ) hv) ih
   simpa using this
theorem uI(hi:dL ρ)(fn:Func){x x':Array Value}(h:dY ρ x x'):SR P VR ρ (results fn x) (results fn x'):=by
 unfold results
 have key:SR P dY ρ (fn.results.mapM fun r=>(match r with| .tmp t=>pure (x.getD t undef)| .cell a t=>do loadVar t (← asAddr (x.getD a undef)):Sem Value))
  (fn.results.mapM fun r=>(match r with| .tmp t=>pure (x'.getD t undef)| .cell a t=>do loadVar t (← asAddr (x'.getD a undef)):Sem Value)):=by
  rw[Array.mapM_eq_mapM_toList,Array.mapM_eq_mapM_toList]
  have e:∀ (s:Sem (List Value)),(Functor.map List.toArray s)=(s >>= fun l=>pure l.toArray):=fun s=>rfl
  rw[e,e]
  refine(OA _ _ (fun r ρ1 l1=>?_) _ (.refl hi)).bind' hi fun ρ1 l1 xs ys hxs=>SR.pure hxs.array
  have h1:=h.mono l1.1
  cases r with
  | tmp t=>exact SR.pure (h1.getD t)
  | cell a t=>exact(wm (h1.getD a)).bind' l1.2 fun ρ2 l2 a a' ha=>uF l2.2 t ha
 refine key.bind' hi fun ρ1 l1 xs ys hxs=>SR.pure ?_
 have hs:=hxs.1
 by_cases c:xs.size=1
 ·have c':ys.size=1:=hs ▸ c
  simp only[c,c',dif_pos]
  exact hxs.2 0 zo zo
 ·have c':¬ ys.size=1:=hs ▸ c
  simp only[c,c',dif_neg,not_false_eq_true]
  exact .tuple hxs.1 hxs.2
theorem Iz(ops:Array Oper){x x':Array Value}(h:dY ρ x x'):yielded ops x'=yielded ops x:=by
 funext j
 unfold yielded
 cases ((ops[j]?).bind (·.dst)) with
 | none=>rfl
 | some d=>
   rcases h.get? d with⟨a,b⟩|⟨v,v',a,b,c⟩
   ·simp only[Option.bind_some,a,b]
   ·simp only[Option.bind_some,a,b]
    cases c <;> rfl
theorem jD{F:FuncId→Prop}{a:Frame}(h:jH P F a)(v:Value):jH P F (a.finish v):=by
 obtain⟨fn,tmps,todo,defers,mode,kind,roundOf⟩:=a
 obtain⟨h1,h2,h3,h4,h5⟩:=h
 unfold Frame.finish
 dsimp only at h1 h2 h3 h4 h5⊢
 split
 ·rename_i ops i rest k
  refine⟨h1,fun x hx=>?_,h3,h4,h5⟩
  rcases List.mem_cons.1 hx with rfl|hx
  ·exact h2 (.inRegion ops (i :: rest)) zs
  ·exact h2 x (by simp[hx])
 ·refine⟨h1,fun x hx=>?_,h3,h4,h5⟩
  rcases List.mem_cons.1 hx with rfl|hx
  ·trivial
  ·exact h2 x (by simp[hx])
 ·exact⟨h1,fun x hx=>h2 x (by simp[hx]),h3,h4,h5⟩
 ·exact(h2 _ List.mem_cons_self).elim
 ·exact(h2 _ List.mem_cons_self).elim
 ·exact⟨h1,h2,h3,h4,h5⟩
theorem sP{g:FuncId}{x x':Array Value}(h:dY ρ x x'):Bj ρ (Frame.enter P g x .normal) (Frame.enter P g x' .normal):=by
 refine⟨rfl,rfl,rfl,?_,.cons (.code _) .nil,.nil ρ,.inl ⟨rfl,rfl⟩⟩
 simp only[Frame.enter]
 rw[h.1]
 exact h.append ⟨rfl,fun i a b=>by simp only[Array.getElem_replicate];exact .undef ρ⟩
theorem wJ{F:FuncId→Prop}(hF:gJ P F){g:FuncId}(hg:F g)(x:Array Value):jH P F (Frame.enter P g x .normal):=by
 obtain⟨f,c,h1,h2,h3,h4⟩:=hF.sv g hg
 refine⟨hg,fun i hi=>?_,⟨[],rfl⟩,.inl rfl,rfl⟩
 simp only[Frame.enter,h1,Option.bind_some,h2,Option.getD_some,List.mem_singleton] at hi
 subst hi
 exact h4
theorem Co{l l':Nat}{g:FuncId}{x x':Array Value}{a b:Code}(hl:ρ l=some l')(h:dY ρ x x'):Bj ρ (Frame.round l g x a b .normal) (Frame.round l' g x' a b .normal):=
 ⟨rfl,rfl,rfl,h,.cons (.code _) (.cons .beginRound (.cons (.code _) .nil)),.nil ρ,.inr ⟨l,l',rfl,rfl,hl⟩⟩
theorem G8{F:FuncId→Prop}(hF:gJ P F){g:FuncId}{a b:Code}(ha:jh g a)(hb:jh g b)(l:Nat)(x:Array Value):jH P F (Frame.round l g x a b .normal):=by
 have h1:=(hF.env g a).1 ha
 have h2:=(hF.env g b).1 hb
 refine⟨h1.1,fun i hi=>?_,⟨[],rfl⟩,.inl rfl,rfl⟩
 simp only[Frame.round,List.mem_cons,List.not_mem_nil,or_false] at hi
 rcases hi with rfl|rfl|rfl
 ·exact h1.2
 ·trivial
 ·exact h2.2
theorem qy{id:Nat}:∀ {k k':List Item},exitTo id k=some k'→∀i∈k',i∈k:=by
 intro k
 induction k with
 | nil=>intro k' h;simp[exitTo] at h
 | cons a k ih=>
   intro k' h i hi
   cases a with
   | inBlock j=>
     simp only[exitTo] at h
     split at h
     ·cases h;simp[hi]
     ·exact List.mem_cons_of_mem _ (ih h i hi)
   | _=>simp only[exitTo] at h;exact List.mem_cons_of_mem _ (ih h i hi)
theorem JF{id:Nat}{k k':List Item}(h:fE ρ k k'):(exitTo id k=none∧exitTo id k'=none)∨∃x x',exitTo id k=some x∧exitTo id k'=some x'∧fE ρ x x':=by
 induction h with
 | nil=>exact .inl ⟨rfl,rfl⟩
 | @cons a b x y hab hxy ih=>
   cases hab with
   | inBlock i=>
     simp only[exitTo]
     by_cases e:(i == id)=true
     ·simp only[e,if_true];exact .inr ⟨_,_,rfl,rfl,hxy⟩
     ·simp only[e];exact ih
   | _=>simp only[exitTo];exact ih
def E9(P:Program)(F:FuncId→Prop)(s:Frame × List Frame):Prop:=jH P F s.1∧∀c∈s.2,jH P F c
structure Bn(P:Program)(F:FuncId→Prop)(fr:Frame):Prop where
 op:∀ops i l k o c f,fr.mode=.run→fr.todo=.inRegion ops (i :: l) :: k→ops[i]? =some o→o.op=.call c→c.callee=.value f→bu P F (fr.eval f)
 iter:∀f ps a b k,fr.mode=.run→fr.todo=.code (.rangeFunc f ps a b) :: k→bu P F (fr.eval f)
theorem Uj{F:FuncId→Prop}{ev:Operand→Value}{o:Oper}(h:qh P o)(hp:rF o.op=false)(hl:∀c f,o.op=.call c→c.callee=.value f→bu P F (ev f)):Sup P F ev o:=by
 obtain⟨-,h⟩:=h
 unfold Sup
 cases hop:o.op <;> rw[hop] at h hp <;> simp only at h
 all_goals first|exact h|(cases hp;done)|skip
 case call c=>
  dsimp only
  cases hc:c.callee <;> rw[hc] at h <;> simp only at h
  ·exact hl c _ hop hc
  ·exact h
section
variable{F:FuncId→Prop}{fr fr':Frame}{L L':List Frame}
theorem OG(hF:gJ P F)(h:Bj ρ fr fr')(hL:Vf ρ L L')(ok:jH P F fr)(pI:∀c∈L,jH P F c){n n':Next}(hn:NR F ρ n n'):
 SR P (fun ρ a b=>Zg ρ a b∧E9 P F a) ρ (uH P fr L n) (uH P fr' L' n'):=by
 cases n with
 | value v=>obtain⟨v',rfl,hv⟩:=hn;exact SR.pure ⟨⟨iy (P:=P) h ok.todo hv,hL⟩,jD ok _,pI⟩
 | skip=>cases hn;exact SR.pure ⟨⟨iy (P:=P) h ok.todo (.undef ρ),hL⟩,jD ok _,pI⟩
 | enter g a=>
   obtain⟨a',rfl,ha,hg⟩:=hn
   exact SR.pure ⟨⟨sP ha,.cons h hL⟩,wJ hF hg _,by simp only[List.forall_mem_cons];exact⟨ok,pI⟩⟩
 | round l g t a b=>
   obtain⟨l',t',rfl,hl,ht,ha,hb⟩:=hn
   exact SR.pure ⟨⟨Co hl ht,.cons h hL⟩,G8 hF ha hb _ _,by simp only[List.forall_mem_cons];exact⟨ok,pI⟩⟩
 | _=>exact hn.elim
theorem Ol(hF:gJ P F)(h:Bj ρ fr fr')(hL:Vf ρ L L')(ok:jH P F fr)(pI:∀c∈L,jH P F c){n n':Next}(hn:NR F ρ n n'):
 SR P (fun ρ a b=>Zg ρ a b∧E9 P F a) ρ (uD P fr L n) (uD P fr' L' n'):=by
 cases n with
 | value v=>exact trivial
 | skip=>exact trivial
 | enter g a=>
   obtain⟨a',rfl,ha,hg⟩:=hn
   exact SR.pure ⟨⟨sP ha,.cons h hL⟩,wJ hF hg _,by simp only[List.forall_mem_cons];exact⟨ok,pI⟩⟩
 | round l g t a b=>
   obtain⟨l',t',rfl,hl,ht,ha,hb⟩:=hn
   exact SR.pure ⟨⟨Co hl ht,.cons h hL⟩,G8 hF ha hb _ _,by simp only[List.forall_mem_cons];exact⟨ok,pI⟩⟩
 | _=>exact hn.elim
theorem JW(hF:gJ P F)(hi:dL ρ)(h:Bj ρ fr fr')(hL:Vf ρ L L')(ok:jH P F fr)(pI:∀c∈L,jH P F c)(jump:Option Code)(hj:∀j,jump=some j→gK P j):
 SR P (fun ρ a b=>Zg ρ a b∧E9 P F a) ρ (kV fr L jump) (kV fr' L' jump):=by
 obtain⟨fn,tmps,todo,defers,mode,kind,roundOf⟩:=fr
 obtain⟨fn',uR,todo',defers',ZJ,kind',xL⟩:=fr'
 obtain⟨h1,h2,h3,h4,h5,h6,h7⟩:=h
 simp only at h1 h2 h3 h4 h5 h6 h7
 unfold kV
 dsimp only
 rcases h7 with⟨rfl,rfl⟩|⟨l,l',rfl,rfl,hl⟩
 ·dsimp only
  have hret:Bj ρ {fn:=fn,tmps:=tmps,todo:=todo,defers:=defers,mode:=.returning,kind:=kind,roundOf:=none } {fn:=fn',tmps:=uR,todo:=todo',defers:=defers',mode:=.returning,kind:=kind',roundOf:=none }:=⟨h1,rfl,h3,h4,h5,h6,.inl ⟨rfl,rfl⟩⟩
  have ZK:jH P F {fn:=fn,tmps:=tmps,todo:=todo,defers:=defers,mode:=.returning,kind:=kind,roundOf:=none }:=⟨ok.fn,ok.todo,ok.defers,.inr rfl,ok.kind⟩
  cases jump with
  | none=>exact SR.pure ⟨⟨hret,hL⟩,ZK,pI⟩
  | some j=>
    cases j with
    | ret=>exact SR.pure ⟨⟨hret,hL⟩,ZK,pI⟩
    | _=>exact trivial
 ·dsimp only
  cases hL with
  | nil=>exact trivial
  | cons h1 h2=>
    simp only[List.forall_mem_cons] at pI
    refine(DI hi hl jump fun r hr j e=>(hF.env _ _).2 ⟨((hF.env _ _).1 hr.assign).1,hj j e⟩).bind' hi fun ρ1 l1 v v' hv=>SR.pure ⟨⟨iy (P:=P) (h1.mono l1.1) pI.1.todo hv,h2.mono l1.1⟩,jD pI.1 _,pI.2⟩
end
theorem Cx(hg:P.globals.size=0){F:FuncId→Prop}(hF:gJ P F)(hi:dL ρ){s s':Frame × List Frame}(h:Zg ρ s s')(ok:E9 P F s)(hl:Bn P F s.1):
 SR P (fun ρ a b=>Zg ρ a b∧E9 P F a) ρ (fT P s.1 s.2) (fT P s'.1 s'.2):=by
 obtain⟨fr,L⟩:=s
 obtain⟨fr',L'⟩:=s'
 obtain⟨h,hL⟩:=h
 obtain⟨ok,pI⟩:=ok
 simp only at h hL ok pI hl
 have hev:∀x,qj x→VR ρ (fr.eval x) (fr'.eval x):=fun x=>FT h
 have J':∀k:List Item,(∀i∈k,kQ P i)→jH P F {fr with todo:=k }:=fun k hk=>⟨ok.fn,hk,ok.defers,ok.mode,ok.kind⟩
 have go:∀ {ρ1:Ren},Le ρ ρ1→∀ {k k':List Item},fE ρ1 k k'→(∀i∈k,kQ P i)→(Zg ρ1 ({fr with todo:=k },L) ({fr' with todo:=k' },L')∧E9 P F ({fr with todo:=k },L)):=fun l k k' hkk hk=>⟨⟨UM (h.mono l) hkk,hL.mono l⟩,J' _ hk,pI⟩
 have hy:∀ops,yielded ops fr'.tmps=yielded ops fr.tmps:=fun ops=>Iz ops h.tmps
 have hlv:=fun jump hj=>JW hF hi h hL ok pI jump hj
 have hnx:=fun{ρ1:Ren} (l1:Le ρ ρ1) {n n':Next} (hn:NR F ρ1 n n')=>OG hF (h.mono l1) (hL.mono l1) ok pI hn
 have ep:=ok.todo
 have hm:=ok.mode
 have hF':=h
 obtain⟨fn,tmps,todo,defers,mode,kind,roundOf⟩:=fr
 obtain⟨fn',uR,todo',defers',ZJ,kind',xL⟩:=fr'
 obtain⟨h1,h2,h3,h4,h5,h6,h7⟩:=h
 simp only at h1 h2 h3 h4 h5 h6 h7 hm ep
 subst h1
 subst h2
 subst h3
 unfold fT
 dsimp only
 rcases hm with rfl|rfl
 ·dsimp only
  cases h5 with
  | nil=>exact hlv none (fun j e=>by cases e)
  | @cons i i' k k' hii hkk=>
    have hk:∀i∈k,kQ P i:=fun i hi=>ep i (List.mem_cons_of_mem _ hi)
    have hh:=ep i List.mem_cons_self
    cases hii with
    | code c=>
      cases c with
      | skip=>exact SR.pure (go (.refl ρ) hkk hk)
      | label l=>exact SR.pure (go (.refl ρ) hkk hk)
      | ret=>exact hlv (some .ret) (fun j e=>by cases e;trivial)
      | seq a b=>exact SR.pure (go (.refl ρ) (.cons (.code _) (.cons (.code _) hkk)) (by simp only[List.forall_mem_cons];exact⟨hh.1,hh.2,hk⟩))
      | cond x a b=>
        dsimp only
        have:=hev x hh.1
        revert this
        generalize Frame.eval _ x=v
        generalize Frame.eval _ x=v'
        intro this
        cases this with
        | bool b=>exact SR.pure (go (.refl ρ) (.cons (.code _) hkk) (by simp only[List.forall_mem_cons];refine⟨?_,hk⟩;cases b <;> first|exact hh.2.1|exact hh.2.2))
        | _=>exact trivial
      | block id b=>exact SR.pure (go (.refl ρ) (.cons (.code _) (.cons (.inBlock _) hkk)) (by simp only[List.forall_mem_cons];exact⟨hh,trivial,hk⟩))
      | loop b=>exact SR.pure (go (.refl ρ) (.cons (.code _) (.cons (.inLoop _) hkk)) (by simp only[List.forall_mem_cons];exact⟨hh,hh,hk⟩))
      | scope b=>exact SR.pure (go (.refl ρ) (.cons (.code _) (.cons (.inScope _) hkk)) (by simp only[List.forall_mem_cons];exact⟨hh,hh,hk⟩))
      | exit id=>
        dsimp only
        rcases JF (id:=id) hkk with⟨e1,e2⟩|⟨x,x',e1,e2,hx⟩
        ·rw[e1,e2]
         exact hlv (some (.exit id)) (fun j e=>by cases e;trivial)
        ·rw[e1,e2]
         exact SR.pure (go (.refl ρ) hx fun i hi=>hk i (qy e1 i hi))
      | region id ops draw=>
        dsimp only
        have hr:∀l,∀i∈(Item.inRegion ops l :: k),kQ P i:=fun l=>by simp only[List.forall_mem_cons];exact⟨hh,hk⟩
        cases draw with
        | false=>exact SR.pure (go (.refl ρ) (.cons (.inRegion _ _) hkk) (hr _))
        | true=>exact(oq _).aN hi fun ρ1 l1 t=>SR.pure (go l1.1 (.cons (.inRegion _ _) (hkk.mono l1.1)) (hr _))
      | goto l=>exact hh.elim
      | rangeFunc f ps a b=>
        dsimp only
        have hf:VR ρ _ _:=hev f hh.1
        have ej:bu P F _:=hl.iter f ps a b k rfl rfl
        refine(o9 hi h4 ps ((hF.env _ _).2 ⟨ok.fn,hh.2.1⟩) ((hF.env _ _).2 ⟨ok.fn,hh.2.2⟩) h7).bind' hi fun ρ1 l1 e e' he=>?_
        refine(Bu l1.2 ej (hf.mono l1.1) (dY.push (dY.nil ρ1) (.yield he.1))).bind' l1.2 fun ρ2 l2 n n' hn=>?_
        have l12:=l1.1.trans l2.1
        have hfr:Bj ρ2 {fn:=fn',tmps:=tmps,todo:=.inRangeFunc e.1 :: k,defers:=e.2 ++ defers,mode:=.run,kind:=kind',roundOf:=roundOf } {fn:=fn',tmps:=uR,todo:=.inRangeFunc e'.1 :: k',defers:=e'.2 ++ defers',mode:=.run,kind:=kind',roundOf:=xL }:=⟨rfl,rfl,rfl,h4.mono l12,.cons (.inRangeFunc (l2.1 _ _ he.1)) (hkk.mono l12),(he.2.mono l2.1).append (h6.mono l12),h7.mono l12⟩
        refine Ol hF hfr (hL.mono l12) ?_ pI hn
        refine⟨ok.fn,by simp only[List.forall_mem_cons];exact⟨trivial,hk⟩,?_,.inl rfl,ok.kind⟩
        obtain⟨x,_,e1,_⟩:=he.2
        obtain⟨y,e2⟩:=ok.defers
        simp only at e2
        exact⟨x ++ y,by simp[e1,e2]⟩
      | refuse y=>exact trivial
    | inBlock id=>exact SR.pure (go (.refl ρ) hkk hk)
    | inScope b=>exact SR.pure (go (.refl ρ) hkk hk)
    | inLoop b=>exact SR.pure (go (.refl ρ) (.cons (.code _) (.cons (.inLoop _) hkk)) (by simp only[List.forall_mem_cons];exact⟨hh,hh,hk⟩))
    | inRangeFunc hlp=>exact trivial
    | endRangeFunc hlp=>
      dsimp only
      refine(um hi hlp).bind' hi fun ρ1 l1 j j' ⟨hj,hok⟩=>?_
      subst hj
      refine SR.pure (go l1.1 ?_ ?_)
      ·cases j with
       | none=>exact hkk.mono l1.1
       | some c=>exact .cons (.code c) (hkk.mono l1.1)
      ·cases j with
       | none=>exact hk
       | some c=>
         obtain⟨f,hf⟩:=hok c rfl
         simp only[Option.map_some,Option.toList_some,List.singleton_append,List.forall_mem_cons]
         exact⟨((hF.env _ _).1 hf).2,hk⟩
    | beginRound=>
      dsimp only
      rcases h7 with⟨rfl,rfl⟩|⟨l,l',rfl,rfl,hl⟩
      ·exact trivial
      ·exact(nA hi hl).aN hi fun ρ1 l1 _=>SR.pure ⟨⟨iy (P:=P) (hF'.mono l1.1) ok.todo (.undef ρ1),hL.mono l1.1⟩,jD ok undef,pI⟩
    | inRegion ops l=>
      cases l with
      | nil=>exact SR.pure (go (.refl ρ) hkk hk)
      | cons j l=>
        dsimp only
        rw[hy]
        cases hw:((ops[j]?).map (Region.wanted · (yielded ops tmps))).getD false with
        | false=>exact SR.pure ⟨⟨iy (P:=P) hF' ok.todo (.undef ρ),hL⟩,jD ok undef,pI⟩
        | true=>
          simp only[if_true]
          cases ho:ops[j]? with
          | none=>exact trivial
          | some o=>
            have Ql:qh P o:=hh o (Array.mem_of_getElem? ho)
            dsimp only
            cases hpn:rF o.op with
            | true=>exact trivial
            | false=>
              simp only[Bool.false_eq_true,if_false]
              have hsup:=Uj Ql hpn fun c f hc hf=>hl.op ops j l k o c f rfl rfl ho hc hf
              exact(wL hg hi hsup fun x hx=>hev x (Ql.1 x hx)).bind' hi fun ρ1 l1 n n' hn=>hnx l1.1 hn
 ·dsimp only
  rcases h6.cases with⟨rfl,rfl⟩|⟨r,r',d,d',rfl,rfl,hr,hd⟩
  ·dsimp only
   cases P.funcs[fn']? with
   | none=>exact trivial
   | some Sx=>
     cases hL with
     | nil=>exact trivial
     | cons h1 h2=>
       simp only[List.forall_mem_cons] at pI
       refine(uI hi Sx h4).bind' hi fun ρ1 l1 v v' hv=>SR.pure ⟨⟨iy (P:=P) (h1.mono l1.1) pI.1.todo hv,h2.mono l1.1⟩,jD pI.1 _,pI.2⟩
  ·dsimp only[jg]
   refine(tT hi hr).bind' hi fun ρ1 l1 a b ⟨ea,eb⟩=>?_
   subst ea
   subst eb
   refine SR.pure ⟨⟨⟨rfl,rfl,rfl,h4.mono l1.1,h5.mono l1.1,hd.mono l1.1,h7.mono l1.1⟩,hL.mono l1.1⟩,⟨ok.fn,ok.todo,?_,.inr rfl,ok.kind⟩,pI⟩
   obtain⟨x,e⟩:=ok.defers
   cases x with
   | nil=>simp at e
   | cons q x=>simp only[List.map_cons,List.cons.injEq] at e;exact⟨x,by simp[e.2]⟩
end
section
variable[Inhabited aV]
open Go.Conc
variable{P:Program}{ρ:Ren}
def vS(w:World)(d:Deferred):Prop:=∃r,d=jg r∧∀ds,w.heap[r]? =some (.deferred (some ds))→ds=[]
structure jc(P:Program)(w:World)(fr:Frame):Prop where
 fn:(P.funcs[fr.fn]?).isSome=true
 marks:∀d∈fr.defers,vS w d
structure M0(P:Program)(g:Goroutine)(w:World):Prop where
 cases:g.dying.isSome=true∨(g.status=.blocked∨g.status=.waiting∨g.status=.finished)∨
  (g.status=.running∧g.dying=none∧(∃chain,g.frame.mode=.panicking chain)∧jc P w g.frame∧∀c∈g.callers,jc P w c)
theorem aY{a:Goroutine}{w w':World}{o:Outcome}{es:Array Event}(h:stepG P true a w=.ended o w' es):(runT P (solo a w) 0).1=.ended o w':=by
 simp[runT,solo,Array.swapAt!,Array.swapAt,h,GStep.es]
theorem mK{g:Goroutine}{w:World}{m1:Machine}(h:g.status=.blocked∨g.status=.waiting∨g.status=.finished)(hs:step P (solo g w)=.next m1):m1=solo g w:=by
 rw[step,stepT] at hs
 rcases h with h|h|h
 ·simp[move,ask,askOn,solo,runnable_eq,due,ahead,Goroutine.canRun,List.range_succ,pure,h] at hs
  split at hs <;> rename_i heq <;> split at heq <;> simp_all
 ·simp[move,ask,askOn,solo,runnable_eq,due,ahead,Goroutine.canRun,List.range_succ,pure,h] at hs
  rw[← hs];simp[solo]
 ·simp[move,ask,askOn,solo,runnable_eq,due,ahead,Goroutine.canRun,List.range_succ,pure,h] at hs
  split at hs <;> rename_i heq <;> split at heq <;> simp_all
theorem raise_mode(c:Frame)(vs:List PanicEntry):(∃chain,(c.raise vs).mode=.panicking chain)∧(c.raise vs).defers=c.defers∧(c.raise vs).fn=c.fn:=by
 unfold Frame.raise
 split
 ·exact⟨⟨_,rfl⟩,rfl,rfl⟩
 ·exact⟨⟨_,rfl⟩,rfl,rfl⟩
theorem jc.raise{w:World}{c:Frame}(h:jc P w c)(vs:List PanicEntry):jc P w (c.raise vs):=by
 obtain⟨_,r2,r3⟩:=raise_mode c vs
 exact⟨by rw[r3];exact h.fn,by rw[r2];exact h.marks⟩
theorem vS.taken{w:World}{d:Deferred}(h:vS w d)(q:Nat):vS {w with heap:=w.heap.setIfInBounds q (.deferred none) } d:=by
 obtain⟨r,e,h⟩:=h
 refine⟨r,e,fun ds hd=>?_⟩
 by_cases hq:q=r
 ·subst hq
  rcases Nat.lt_or_ge q w.heap.size with c|c
  ·simp[c] at hd
  ·simp[c] at hd
 ·simp only[Array.getElem?_setIfInBounds_ne hq] at hd
  exact h ds hd
theorem jc.taken{w:World}{c:Frame}(h:jc P w c)(q:Nat):jc P {w with heap:=w.heap.setIfInBounds q (.deferred none) } c:=⟨h.fn,fun d hd=>(h.marks d hd).taken q⟩
theorem NP{g:Goroutine}{w:World}{m1:Machine}(hd:M0 P g w)(ha:g.dying.isNone=true)(hs:step P (solo g w)=.next m1):∃g1 w1,m1=solo g1 w1∧M0 P g1 w1:=by
 rcases hd.cases with h|h|⟨h1,h2,⟨chain,h3⟩,h4,h6⟩
 ·rw[Option.isNone_iff_eq_none] at ha;rw[ha] at h;cases h
 ·exact⟨g,w,mK h hs,⟨.inr (.inl h)⟩⟩
 ·obtain⟨fr,callers,status,dying,offers⟩:=g
  simp only at h1 h2 h3 h4 h6
  subst h1;subst h2
  rw[step,stepT_solo rfl] at hs
  have DZ:fr.catches P=false:=by
   unfold Frame.catches
   obtain⟨f,hf⟩:=Option.isSome_iff_exists.1 h4.fn
   rw[hf]
  have e:stepG P true {frame:=fr,callers:=callers,status:=.running,dying:=none,offers:=offers } w=unwind P true fr callers none w:=by
   simp[stepG,h3]
  have hmk:=h4.marks
  cases hdf:fr.defers with
  | cons d ds=>
    rw[hdf] at hmk
    simp only[List.forall_mem_cons] at hmk
    obtain⟨⟨r,rfl,hr⟩,hds⟩:=hmk
    have e1:stepG P true {frame:=fr,callers:=callers,status:=.running,dying:=none,offers:=offers } w
     =(let (r,es):=(Instr.takeDeferred r).runT P w #[]
      GStep.after (seen P fr.fn es) <| match r with
      | .ok calls w=>.go {frame:={fr with defers:=calls ++ ds },callers,status:=.running,dying:=none } w
      | .halt _ w=>.ended (.stuck "the deferred calls of a range-over-func loop have been taken" (fr.pos P)) w):=by
     rw[e];simp only[unwind,hdf,jg] <;> rfl
    have key:(∃o,(runT P (solo {frame:=fr,callers:=callers,status:=.running,dying:=none,offers:=offers } w) 0).1=.ended o w)∨
     (w.heap[r]? =some (.deferred (some []))∧(runT P (solo {frame:=fr,callers:=callers,status:=.running,dying:=none,offers:=offers } w) 0).1=.next (solo {frame:={fr with defers:=ds },callers,status:=.running,dying:=none } {w with heap:=w.heap.setIfInBounds r (.deferred none) })):=by
     have bad:∀es:Array Event,∀h:Halt,(Instr.takeDeferred r).runT P w #[]=(.halt h w,es)→∃o,(runT P (solo {frame:=fr,callers:=callers,status:=.running,dying:=none,offers:=offers } w) 0).1=.ended o w:=fun es h hh=>by
      rw[hh] at e1
      exact⟨_,aY (es:=_) (e1.trans (by simp only[GStep.after] <;> rfl))⟩
     cases ho:w.heap[r]? with
     | none=>exact .inl (bad #[] _ (by simp[Instr.takeDeferred,getObj,Bind.bind,Sem.bind,Sem.runT,ho,-Sem.runT_eq];first|rfl|exact⟨rfl,rfl⟩))
     | some o=>
       cases o with
       | deferred c=>
         cases c with
         | none=>exact .inl (bad _ _ (by simp[Instr.takeDeferred,getObj,Bind.bind,Sem.bind,Sem.runT,ho,stuck,-Sem.runT_eq];first|rfl|exact⟨rfl,rfl⟩))
         | some l=>
           obtain rfl:=hr l ho
           refine .inr ⟨rfl,?_⟩
           have hrun:∃es,(Instr.takeDeferred r).runT P w #[]=(.ok [] {w with heap:=w.heap.setIfInBounds r (.deferred none) },es):=⟨_,by simp[Instr.takeDeferred,getObj,setObj,Bind.bind,Sem.bind,Sem.runT,ho,Pure.pure,-Sem.runT_eq];rfl⟩
           obtain⟨es,hrun⟩:=hrun
           rw[hrun] at e1
           have:=runT_solo_go (P:=P) (a:={frame:=fr,callers:=callers,status:=.running,dying:=none,offers:=offers }) (a':={frame:={fr with defers:=ds },callers,status:=.running,dying:=none }) (w:=w) (w':={w with heap:=w.heap.setIfInBounds r (.deferred none) }) (es:=seen P fr.fn es ++ #[]) (by rw[e1];simp[GStep.after])
           rw[this]
       | cells c t f=>exact .inl (bad _ _ (by simp[Instr.takeDeferred,getObj,Bind.bind,Sem.bind,Sem.runT,ho,-Sem.runT_eq];first|rfl|exact⟨rfl,rfl⟩))
       | _=>exact .inl (bad _ _ (by simp[Instr.takeDeferred,getObj,Bind.bind,Sem.bind,Sem.runT,ho,stuck,-Sem.runT_eq];first|rfl|exact⟨rfl,rfl⟩))
    rcases key with⟨o,k⟩|⟨_,k⟩
    ·rw[k] at hs;cases hs
    ·rw[k] at hs
     simp only[Stepped.next.injEq] at hs
     refine⟨_,_,hs.symm,⟨.inr (.inr ⟨rfl,rfl,⟨chain,h3⟩,⟨h4.fn,fun d hd=>(hds d hd).taken r⟩,fun c hc=>(h6 c hc).taken r⟩)⟩⟩
  | nil=>
    cases callers with
    | cons c rest=>
      have e2:stepG P true {frame:=fr,callers:=c :: rest,status:=.running,dying:=none,offers:=offers } w=.go {frame:=c.raise chain,callers:=rest,status:=.running,dying:=none } w #[]:=by
       rw[e];simp[unwind,hdf,h3,DZ]
      rw[runT_solo_go e2] at hs
      cases hs
      simp only[List.forall_mem_cons] at h6
      exact⟨_,w,rfl,⟨.inr (.inr ⟨rfl,rfl,(raise_mode c chain).1,h6.1.raise chain,h6.2⟩)⟩⟩
    | nil=>
      by_cases hg:chain.head?.any (·.goexit)=true
      ·have e2:stepG P true {frame:=fr,callers:=[],status:=.running,dying:=none,offers:=offers } w=.go {frame:=fr,callers:=[],status:=.finished,dying:=none } w #[]:=by
        rw[e];simp only[unwind,hdf,h3,DZ,Bool.false_eq_true,if_false,if_pos hg]
       rw[runT_solo_go e2] at hs
       cases hs
       exact⟨_,w,rfl,⟨.inr (.inl (.inr (.inr rfl)))⟩⟩
      ·cases hr:(reportChain chain false).run P w with
       | ok todo w2=>
         have e2:=e
         simp only[unwind,hdf,h3,DZ,Bool.false_eq_true,if_false,if_neg hg,hr] at e2
         rw[runT_solo_go e2] at hs
         cases hs
         exact⟨_,w2,rfl,⟨.inl rfl⟩⟩
       | halt h0 w2=>
         have e2:=e
         simp only[unwind,hdf,h3,DZ,Bool.false_eq_true,if_false,if_neg hg,hr] at e2
         cases h0 <;> (simp only at e2;rw[aY e2] at hs;cases hs)
theorem NM{F:Fence}(hal:F.alive=true){m m':Machine}(h:StepsIn (Machine.fenced P F) P m m'):∀ {g:Goroutine} {w:World},m=solo g w→M0 P g w→∃g1 w1,m'=solo g1 w1∧M0 P g1 w1:=by
 induction h with
 | refl m=>intro g w e hd;exact⟨g,w,e,hd⟩
 | head hI hs _ ih=>
   intro g w e hd
   subst e
   have ha:=(hI g (by simp[solo])).1 hal
   obtain⟨g1,w1,e1,hd1⟩:=NP hd ha hs
   exact ih e1 hd1
theorem Dead.heap{α:Type}{s:Sem α}(h:Dead s):∀ (w:World) (e:Halt) (w1:World),s.run P w=.halt e w1→w1.heap=w.heap:=by
 induction s with
 | shape r k ih=>intro w e w1 hr;exact ih _ (h _) w e w1 hr
 | frozen r k ih=>intro w e w1 hr;exact ih _ (h _) w e w1 hr
 | choose q k ih=>
   intro w e w1 hr
   simp only[Sem.run] at hr
   split at hr
   ·have:=ih _ (h _) _ _ _ hr;exact this
   ·have:=ih _ (h _) _ _ _ hr;exact this
 | mark m k ih=>intro w e w1 hr;exact ih h w e w1 hr
 | halt e0=>intro w e w1 hr;simp only[Sem.run,Result.halt.injEq] at hr;rw[hr.2]
 | _=>exact h.elim
theorem SR.LM{α β:Type}{Q:Ren→α→β→Prop}{s:Sem α}:∀ {ρ:Ren} {s':Sem β} {w w':World},SR P Q ρ s s'→WR ρ w w'→∀ {e:Halt} {w1:World},s.run P w=.halt e w1→∃ρ1 w1',Le ρ ρ1∧WR ρ1 w1 w1':=by
 induction s with
 | pure a=>rintro ρ s' w w' h hw e w1 hr;simp[Sem.run] at hr
 | load m a k ih=>
   rintro ρ s' w w' ⟨a',k',rfl,rfl,ha,hk⟩ hw e w1 hr
   cases hv:w.cell? a with
   | none=>
     obtain⟨e0,he,ht⟩:=Tq (P:=P) hw ha.1 (a:=a) (Mode.plain == Mode.atomic)
     simp only[Sem.run,hv,he,Result.halt.injEq] at hr
     exact⟨ρ,w',.refl ρ,hr.2 ▸ hw⟩
   | some v=>
     obtain⟨v',hv',rm⟩:=q9 hw ha hv
     simp only[Sem.run,hv] at hr
     exact ih v (hk ρ (.refl hw.inj) v v' rm) hw hr
 | store m a v k ih=>
   rintro ρ s' w w' ⟨a',v',k',rfl,rfl,ha,hv,hk⟩ hw e w1 hr
   by_cases h1:∀c,v≠.agg c
   ·by_cases h2:∀c,v≠.tuple c
    ·rw[run_store h1 h2] at hr
     cases hx:w.cell? a with
     | none=>
       obtain⟨e0,he,ht⟩:=Mt (P:=P) hw ha.1 (a:=a) v (Mode.plain == Mode.atomic)
       simp only[hx,he,Result.halt.injEq] at hr
       exact⟨ρ,w',.refl ρ,hr.2 ▸ hw⟩
     | some x0=>
       cases hf:w.frozen? a with
       | true=>simp only[hx,hf,if_true,Result.halt.injEq] at hr;exact⟨ρ,w',.refl ρ,hr.2 ▸ hw⟩
       | false=>simp only[hx,hf,Bool.false_eq_true,if_false] at hr;exact ih hk (hw.setCell ha hv) hr
    ·simp only[ne_eq,Classical.not_forall,Classical.not_not] at h2
     obtain⟨c,rfl⟩:=h2
     simp only[Sem.run,Result.halt.injEq] at hr
     exact⟨ρ,w',.refl ρ,hr.2 ▸ hw⟩
   ·simp only[ne_eq,Classical.not_forall,Classical.not_not] at h1
    obtain⟨c,rfl⟩:=h1
    simp only[Sem.run,Result.halt.injEq] at hr
    exact⟨ρ,w',.refl ρ,hr.2 ▸ hw⟩
 | new o k ih=>
   rintro ρ s' w w' ⟨o',k',rfl,ho,hk⟩ hw e w1 hr
   obtain⟨le,hw2⟩:=hw.new ho
   obtain⟨ρ1,w1',h1,h2⟩:=ih w.heap.size (hk _ ⟨le,hw2.inj⟩ w.heap.size w'.heap.size (by simp[Ren.put])) hw2 hr
   exact⟨ρ1,w1',le.trans h1,h2⟩
 | shape r k ih=>
   rintro ρ s' w w' ⟨r',k',rfl,e0,hk⟩ hw e w1 hr
   exact ih (w.shape? r) (hk _) hw hr
 | getObj r k ih=>
   rintro ρ s' w w' ⟨r',k',rfl,e0,hk⟩ hw e w1 hr
   obtain⟨o,o',h1,h2,ho⟩:=hw.obj _ _ e0
   have hcell:(∃c t f,o=.cells c t f)∨∀c t f,o≠.cells c t f:=by cases ho <;> first|exact .inl ⟨_,_,_,rfl⟩|exact .inr (fun _ _ _ h=>by cases h)
   rcases hcell with⟨c,t,f,rfl⟩|hn
   ·simp only[Sem.run,h1,Result.halt.injEq] at hr
    exact⟨ρ,w',.refl ρ,hr.2 ▸ hw⟩
   ·have:(Sem.getObj r k).run P w=(k o).run P w:=by
     cases o <;> first|exact absurd rfl (hn _ _ _)|simp only[Sem.run,h1]
    rw[this] at hr
    exact ih o (hk ρ (.refl hw.inj) _ _ ho) hw hr
 | setObj r o k ih=>
   rintro ρ s' w w' ⟨r',o',k',rfl,e0,ho,hk⟩ hw e w1 hr
   obtain⟨p,p',h1,h2,hp⟩:=hw.obj _ _ e0
   have hcell:(∃c t f,p=.cells c t f)∨∀c t f,p≠.cells c t f:=by cases hp <;> first|exact .inl ⟨_,_,_,rfl⟩|exact .inr (fun _ _ _ h=>by cases h)
   rcases hcell with⟨c,t,f,rfl⟩|hn
   ·simp only[Sem.run,h1,Result.halt.injEq] at hr
    exact⟨ρ,w',.refl ρ,hr.2 ▸ hw⟩
   ·have:(Sem.setObj r o k).run P w=k.run P {w with heap:=w.heap.setIfInBounds r o }:=by
     cases p <;> first|exact absurd rfl (hn _ _ _)|simp only[Sem.run,h1]
    rw[this] at hr
    exact ih hk (hw.setObj e0 ho) hr
 | choose q k ih=>
   rintro ρ s' w w' ⟨k',rfl,hk⟩ hw e w1 hr
   by_cases hf:q.forced=true
   ·simp only[Sem.run,if_pos hf] at hr
    exact ih 0 (hk _) hw hr
   ·have hw2:WR ρ {w with drawn:=w.drawn+1 } {w' with drawn:=w'.drawn+1 }:=⟨hw.obj,hw.inj⟩
    simp only[Sem.run,if_neg hf] at hr
    exact ih _ (hk _) hw2 hr
 | program k ih=>
   rintro ρ s' w w' ⟨k',rfl,hk⟩ hw e w1 hr
   exact ih P hk hw hr
 | halt h0=>
   rintro ρ s' w w' ht hw e w1 hr
   simp only[Sem.run,Result.halt.injEq] at hr
   exact⟨ρ,w',.refl ρ,hr.2 ▸ hw⟩
 | freeze a n k ih=>intro ρ s' w w' h;exact h.elim
 | frozen a k ih=>
   intro ρ s' w w' h hw e w1 hr
   have:=(h (w.frozen? a)).heap (P:=P) w e w1 hr
   exact⟨ρ,w',.refl ρ,⟨fun b b' eb=>by obtain⟨o,o',h1,h2,h3⟩:=hw.obj b b' eb;exact⟨o,o',by rw[this];exact h1,h2,h3⟩,hw.inj⟩⟩
 | sys c k ih=>intro ρ s' w w' h;exact h.elim
 | mark m k ih=>
   rintro ρ s' w w' ⟨k',rfl,rfl,hk⟩ hw e w1 hr
   exact ih hk hw hr
theorem SR.ok{α β:Type}{Q:Ren→α→β→Prop}{s:Sem α}{s':Sem β}{w w' w1:World}{a:α}(h:SR P Q ρ s s')(hw:WR ρ w w')(hr:s.run P w=.ok a w1):∃ρ1 b w1',Q ρ1 a b∧WR ρ1 w1 w1'∧Le ρ ρ1:=by
 have hw2:WR ρ w {w' with tape:=w.tape,drawn:=w.drawn }:=⟨hw.obj,hw.inj⟩
 obtain⟨ρ1,b,w1',O1,new,_,hq,hR⟩:=SR.runT (C:=fun _=>True) (O:=fun _=>True) (es:=#[]) h hw2 (fun k q=>rfl) (fun _ _ _=>.inr trivial) hr
 exact⟨ρ1,b,w1',hq,hR.wr,hR.le⟩
theorem wu{α:Type}(a:Ask α):∀w:World,(w.ask a).2.heap=w.heap:=by
 induction a with
 | done a=>intro w;simp[World.ask]
 | ask what range k ih=>
   intro w
   simp only[World.ask]
   split
   ·exact ih _ _
   ·rw[ih]
theorem xX(w:World)(c:Sys):(w.sys c).2.heap=w.heap:=by
 unfold World.sys
 have:=wu (Kernel.perform c w.os) w
 generalize w.ask (Kernel.perform c w.os)=r at this
 obtain⟨⟨r,os⟩,w1⟩:=r
 simp only at this
 cases r <;> simp[this]
def Pushes{α:Type}:Sem α→Prop
 | .pure _=>True
 | .load _ _ k=>∀v,Pushes (k v)
 | .store _ _ _ _=>False
 | .new _ k=>∀r,Pushes (k r)
 | .shape _ k=>∀r,Pushes (k r)
 | .freeze _ _ _=>False
 | .frozen _ k=>∀r,Pushes (k r)
 | .getObj _ k=>∀r,Pushes (k r)
 | .setObj _ _ _=>False
 | .choose _ k=>∀r,Pushes (k r)
 | .sys _ k=>∀r,Pushes (k r)
 | .program k=>∀r,Pushes (k r)
 | .mark _ k=>Pushes k
 | .halt _=>True
def Result.world{α:Type}:Result α→World
 | .ok _ w=>w
 | .halt _ w=>w
theorem Pushes.old{α:Type}{s:Sem α}(h:Pushes s):∀w:World,w.heap.size≤(Result.world (s.run P w)).heap.size∧∀b,b<w.heap.size→(Result.world (s.run P w)).heap[b]? =w.heap[b]?:=by
 induction s with
 | pure a=>intro w;exact⟨Nat.le_refl _,fun _ _=>rfl⟩
 | load m a k ih=>
   intro w
   simp only[Sem.run]
   cases w.cell? a with
   | some v=>exact ih v (h v) w
   | none=>
     simp only
     cases w.farLoad P a (m == .atomic) with
     | ok r=>obtain⟨v,t⟩:=r;exact ih v (h v) w
     | error e=>exact⟨Nat.le_refl _,fun _ _=>rfl⟩
 | new o k ih=>
   intro w
   simp only[Sem.run]
   obtain⟨h1,h2⟩:=ih w.heap.size (h _) {w with heap:=w.heap.push o }
   simp only[Array.size_push] at h1
   refine⟨zo,fun b hb=>?_⟩
   rw[h2 b zm]
   simp only[Array.getElem?_push_lt hb]
   rw[Array.getElem?_eq_getElem hb]
 | shape r k ih=>intro w;exact ih _ (h _) w
 | frozen r k ih=>intro w;exact ih _ (h _) w
 | getObj r k ih=>
   intro w
   simp only[Sem.run]
   cases w.heap[r]? with
   | none=>exact⟨Nat.le_refl _,fun _ _=>rfl⟩
   | some o=>cases o <;> first|exact⟨Nat.le_refl _,fun _ _=>rfl⟩|exact ih _ (h _) w
 | choose q k ih=>
   intro w
   simp only[Sem.run]
   split
   ·exact ih _ (h _) w
   ·exact ih _ (h _) {w with drawn:=w.drawn+1 }
 | sys c k ih=>
   intro w
   simp only[Sem.run]
   have:=ih (w.sys c).1 (h _) (w.sys c).2
   rw[xX] at this
   exact this
 | program k ih=>intro w;exact ih P (h P) w
 | mark m k ih=>intro w;exact ih h w
 | halt e=>intro w;exact⟨Nat.le_refl _,fun _ _=>rfl⟩
 | _=>exact h.elim
theorem Pushes.bind{α β:Type}{s:Sem α}{f:α→Sem β}(h:Pushes s)(hf:∀a,Pushes (f a)):Pushes (s >>= f):=by
 show Pushes (s.bind f)
 induction s with
 | pure a=>exact hf a
 | load m a k ih=>exact fun v=>ih v (h v)
 | new o k ih=>exact fun v=>ih v (h v)
 | shape r k ih=>exact fun v=>ih v (h v)
 | frozen r k ih=>exact fun v=>ih v (h v)
 | getObj r k ih=>exact fun v=>ih v (h v)
 | choose r k ih=>exact fun v=>ih v (h v)
 | sys r k ih=>exact fun v=>ih v (h v)
 | program k ih=>exact fun v=>ih v (h v)
 | mark m k ih=>exact ih h
 | halt e=>trivial
 | _=>exact h.elim
theorem GR(x:Value)(w:World):∃e w2,(Instr.panic x).run P w=.halt e w2∧sK e∧∀b,b<w.heap.size→w2.heap[b]? =w.heap[b]?:=by
 have hel:∀t,Pushes (elemOf t):=fun t=>by
  unfold elemOf
  refine Pushes.bind (fun p=>?_) fun d=>?_
  ·show Pushes (match p.underlying t with|some d=>pure d|none=>stuck "no such type")
   cases p.underlying t <;> trivial
  ·cases d <;> trivial
 have hrp:Pushes (runtimePanic .panicNil:Sem Value):=Pushes.bind (s:=program) (fun p=>trivial) fun p=>Pushes.bind (hel _) fun e=>Pushes.bind (s:=newVar e (.agg #[])) (fun r=>trivial) fun r=>trivial
 have hnil:Pushes (Instr.panic .nilIface):=by
  unfold Instr.panic Instr.panicnil
  refine Pushes.bind (Pushes.bind (fun r=>trivial) fun r=>?_) fun n=>?_
  ·cases r <;> first|trivial|exact fun p=>trivial
  ·split
   ·trivial
   ·exact hrp
 have key:∀s:Sem Value,Pushes s→(∀w1 v,s.run P w≠.ok v w1)→(∀e w1,s.run P w=.halt e w1→sK e)→∃e w2,s.run P w=.halt e w2∧sK e∧∀b,b<w.heap.size→w2.heap[b]? =w.heap[b]?:=fun s hs h1 h2=>by
  have:=(hs.old (P:=P) w).2
  cases hr:s.run P w with
  | ok v w1=>exact absurd hr (h1 w1 v)
  | halt e w1=>rw[hr] at this;exact⟨e,w1,rfl,h2 e w1 hr,this⟩
 cases x with
 | iface t v=>exact⟨_,w,rfl,trivial,fun _ _=>rfl⟩
 | nilIface=>
   have hr:∀w1,∃e w2,(runtimePanic .panicNil:Sem Value).run P w1=.halt e w2∧sK e:=fun w1=>by
    unfold runtimePanic
    simp only[program,Bind.bind,Sem.bind,Sem.run,elemOf,underlying]
    cases P.underlying P.rt.panicNilError with
    | none=>exact⟨_,_,rfl,trivial⟩
    | some d=>cases d <;> exact⟨_,_,rfl,trivial⟩
   have hp:(∃n w1,Instr.panicnil.run P w=.ok n w1)∨∃w1 m,Instr.panicnil.run P w=.halt (.stuck m) w1:=by
    unfold Instr.panicnil
    simp only[sys,program,Bind.bind,Sem.bind,Sem.run]
    cases (w.sys .env).1 <;> first|exact .inl ⟨_,_,rfl⟩|exact .inr ⟨_,_,rfl⟩
   refine key _ hnil ?_ ?_
   ·intro w1 v h
    simp only[Instr.panic,Sem.run_bind] at h
    rcases hp with⟨n,w2,e⟩|⟨w2,m,e⟩
    ·rw[e] at h
     change Sem.run P (if (n == 1)=true then goPanic Value.nilIface else runtimePanic RuntimeError.panicNil) w2=_ at h
     split at h
     ·cases h
     ·obtain⟨e3,w3,e4,_⟩:=hr w2;rw[e4] at h;cases h
    ·rw[e] at h;cases h
   ·intro e0 w1 h
    simp only[Instr.panic,Sem.run_bind] at h
    rcases hp with⟨n,w2,e⟩|⟨w2,m,e⟩
    ·rw[e] at h
     change Sem.run P (if (n == 1)=true then goPanic Value.nilIface else runtimePanic RuntimeError.panicNil) w2=_ at h
     split at h
     ·simp only[goPanic,Sem.run,Result.halt.injEq] at h;rw[← h.1];trivial
     ·obtain⟨e3,w3,e4,ht⟩:=hr w2;rw[e4] at h;cases h;exact ht
    ·rw[e] at h;cases h;trivial
 | _=>exact⟨_,w,rfl,trivial,fun _ _=>rfl⟩
end
end Go.cu
