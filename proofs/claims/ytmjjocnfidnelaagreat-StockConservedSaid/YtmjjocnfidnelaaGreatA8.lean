/- Par13b Par15 Par16 -/
import Derived.Test.YtmjjocnfidnelaaGreatA7
import Derived.Conc.Listed
import Derived.Conc.Fork
import Derived.CallsIn
set_option maxRecDepth 100000
set_option maxHeartbeats 16000000
set_option linter.unusedVariables false
set_option linter.unusedSectionVars false
namespace Go.cZ
section
variable[Inhabited aZ]
open Go.Conc
variable{P:Program}{ρ:Ren}
theorem lY{fn:FuncId}{es:Array Event}{e:Event}(h:e∈seen P fn es):e∈es:=by
 rw[seen_def] at h
 have:=seen_fold_sub _ _ _ _ _ h
 simpa using this
def Same(P:Program)(main:Bool)(g:Goroutine)(w:World)(g2:Goroutine)(w2:World)(es:Array Event):Prop:=∃es',stepG P main g w=.go g2 w2 es'∧∀e∈es',e∈es
theorem Same.of{main:Bool}{g g2:Goroutine}{w w2:World}{es:Array Event}(h:stepG P main g w=.go g2 w2 #[]):Same P main g w g2 w2 es:=⟨_,h,fun e he=>by simp at he⟩
theorem Same.seen{main:Bool}{g g2:Goroutine}{w w2:World}{es:Array Event}{f:FuncId}(h:stepG P main g w=.go g2 w2 (Go.seen P f es)):Same P main g w g2 w2 es:=⟨_,h,fun e he=>lY he⟩
theorem Same.M0{main:Bool}{g g2:Goroutine}{w w2:World}{es:Array Event}{f:FuncId}(h:stepG P main g w=.go g2 w2 (Go.seen P f es ++ #[])):Same P main g w g2 w2 es:=⟨_,h,fun e he=>lY (fn:=f) (by simpa using he)⟩
section
variable{main:Bool}{fr:Frame}{L cs:List Frame}{w w2:World}{c:Frame × List Frame}{es:Array Event}
theorem bind_ok{α β:Type}{x:Sem α}{f:α→Sem β}{w w2:World}{b:β}{es:Array Event}(h:(x >>= f).runT P w #[]=(.ok b w2,es)):
 ∃a w1 es1,x.runT P w #[]=(.ok a w1,es1)∧(f a).runT P w1 es1=(.ok b w2,es):=by
 rw[show(x >>= f)=x.bind f from rfl,Sem.runT_bind'] at h
 generalize hx:x.runT P w #[]=r at h
 obtain⟨r,es1⟩:=r
 cases r with
 | halt a b=>simp only[Prod.mk.injEq] at h;cases h.1
 | ok a w1=>exact⟨a,w1,es1,rfl,h⟩
theorem pure_ok{α:Type}{a b:α}{w w2:World}{es es2:Array Event}(h:(Pure.pure a:Sem α).runT P w es=(.ok b w2,es2)):b=a∧w2=w∧es2=es:=by
 simp only[Pure.pure,Sem.runT,Prod.mk.injEq,Result.ok.injEq] at h
 exact⟨h.1.1.symm,h.1.2.symm,h.2.symm⟩
theorem fu{α:Type}{m:String}{b:α}{w w2:World}{es es2:Array Event}(h:(stuck m:Sem α).runT P w es=(.ok b w2,es2)):False:=by
 simp only[stuck,Sem.runT,Prod.mk.injEq] at h;cases h.1
def iD(P:Program)(main:Bool)(fr:Frame)(L:List Frame)(jump:Option Code)(w:World):GStep:=
 match fr.roundOf with
 | none=>if jump matches none|some .ret then .go (G {fr with mode:=.returning } L) w else .ended (.stuck sQ4 (fr.pos P)) w
 | some l=>
   let (r,es):=(Instr.endRound l jump).runT P w #[]
   GStep.after (Go.seen P fr.fn es) <| match r with
   | .ok v w=>doReturn P main fr L none v w
   | .halt _ w=>.ended (.stuck sQ5 (fr.pos P)) w
theorem qR(hk:fr.kind=.normal){jump:Option Code}(hG:stepG P main (G fr (L ++ cs)) w=iD P main fr (L ++ cs) jump w)(h:(kZ fr L jump).runT P w #[]=(.ok c w2,es)):Same P main (G fr (L ++ cs)) w (G c.1 (c.2 ++ cs)) w2 es:=by
 unfold kZ at h
 unfold iD at hG
 cases hr:fr.roundOf with
 | none=>
   rw[hr] at h hG
   dsimp only at h hG
   split at h
   ·obtain⟨rfl,rfl,rfl⟩:=pure_ok h
    exact .of (by rw[hG];rfl)
   ·obtain⟨rfl,rfl,rfl⟩:=pure_ok h
    exact .of (by rw[hG];rfl)
   ·exact(fu h).elim
 | some l=>
   rw[hr] at h hG
   dsimp only at h hG
   cases L with
   | nil=>exact(fu h).elim
   | cons c0 L=>
     obtain⟨v,w1,es1,h1,h2⟩:=bind_ok h
     obtain⟨rfl,rfl,rfl⟩:=pure_ok h2
     rw[h1] at hG
     refine .M0 (f:=fr.fn) ?_
     rw[hG]
     simp[doReturn,hk,GStep.after,G]
end
theorem yJ{F:FuncId→Prop}{main:Bool}{fr:Frame}{L cs:List Frame}{w w2:World}{c:Frame × List Frame}{es:Array Event}(hf:jG P F fr)(h:(fV P fr L).runT P w #[]=(.ok c w2,es)):
 Same P main (G fr (L ++ cs)) w (G c.1 (c.2 ++ cs)) w2 es:=by
 obtain⟨hfn,htodo,⟨dx,hd⟩,hm,hk⟩:=hf
 obtain⟨fn,tmps,todo,defers,mode,kind,roundOf⟩:=fr
 simp only at hfn htodo hd hm hk
 subst hk
 rcases hm with rfl|rfl
 ·unfold fV at h
  dsimp only at h
  cases todo with
  | nil=>exact qR rfl (by simp only[G,stepG,stepG.exec,iD] <;> rfl) h
  | cons i k=>
    have ht:=htodo i zs
    cases i with
    | code c=>
      cases c with
      | ret=>exact qR rfl (by simp only[G,stepG,stepG.exec,iD] <;> rfl) h
      | cond x a b=>
        dsimp only at h
        generalize hev:Frame.eval {fn:=fn,tmps:=tmps,todo:=.code (.cond x a b) :: k,defers:=defers,mode:=.run,kind:=.normal,roundOf:=roundOf } x=v at h
        cases v with
        | bool b=>
          obtain⟨rfl,rfl,rfl⟩:=pure_ok h
          exact .of (by simp[G,stepG,stepG.exec,hev])
        | _=>exact(fu h).elim
      | exit id=>
        dsimp only at h
        cases he:exitTo id k with
        | none=>
          rw[he] at h
          exact qR rfl (by simp only[G,stepG,stepG.exec,iD,he];rfl) h
        | some k'=>
          rw[he] at h
          obtain⟨rfl,rfl,rfl⟩:=pure_ok h
          exact .of (by simp[G,stepG,stepG.exec,he])
      | region id ops draw=>
        cases draw with
        | false=>
          simp only[Bool.not_false,if_true] at h
          obtain⟨rfl,rfl,rfl⟩:=pure_ok h
          exact .of (by simp[G,stepG,stepG.exec])
        | true=>
          simp only[Bool.not_true,Bool.false_eq_true,if_false,choose,Bind.bind,Sem.bind,Pure.pure,Sem.runT] at h
          refine .of ?_
          simp only[G,stepG,stepG.exec,Bool.not_true,Bool.false_eq_true,if_false,choose,Sem.run]
          split at h
          ·rename_i hfo
           simp only[Prod.mk.injEq,Result.ok.injEq] at h
           obtain⟨⟨rfl,rfl⟩,rfl⟩:=h
           simp[hfo]
          ·rename_i hfo
           simp only[Prod.mk.injEq,Result.ok.injEq] at h
           obtain⟨⟨rfl,rfl⟩,rfl⟩:=h
           simp[hfo]
      | goto l=>exact ht.elim
      | rangeFunc f params assign body=>
        dsimp only at h
        obtain⟨e,w1,es1,h1,h2⟩:=bind_ok h
        rw[KQ] at h2
        simp only[Prod.mk.injEq] at h2
        obtain⟨h2,h3⟩:=h2
        generalize hq:(pG (Frame.eval {fn:=fn,tmps:=tmps,todo:=.code (.rangeFunc f params assign body) :: k,defers:=defers,mode:=.run,kind:=.normal,roundOf:=roundOf } f) #[.func (.yield e.1) #[] #[]] >>= fun n=>uV P {fn:=fn,tmps:=tmps,todo:=.inRangeFunc e.1 :: k,defers:=e.2 ++ defers,mode:=.run,kind:=.normal,roundOf:=roundOf } L n).runT P w1 #[]=q at h2 h3
        obtain⟨q1,es2⟩:=q
        simp only at h2 h3
        subst h2
        obtain⟨n,w4,Hk,h7,h8⟩:=bind_ok hq
        have hcall:(do let d ← resolve (Frame.eval {fn:=fn,tmps:=tmps,todo:=.inRangeFunc e.1 :: k,defers:=e.2 ++ defers,mode:=.run,kind:=.normal,roundOf:=roundOf }) {callee:=.value f,args:=#[.const (.func (.yield e.1) #[] #[])],argTypes:=#[] } 0;invoke d.target d.args:Sem Next).runT P w1 #[]=(.ok n w4,Hk):=by
         have e0:resolve (Frame.eval {fn:=fn,tmps:=tmps,todo:=.inRangeFunc e.1 :: k,defers:=e.2 ++ defers,mode:=.run,kind:=.normal,roundOf:=roundOf }) {callee:=.value f,args:=#[.const (.func (.yield e.1) #[] #[])],argTypes:=#[] } 0=Deferred.ofValue (Frame.eval {fn:=fn,tmps:=tmps,todo:=.code (.rangeFunc f params assign body) :: k,defers:=defers,mode:=.run,kind:=.normal,roundOf:=roundOf } f) #[.func (.yield e.1) #[] #[]]:=by
          cases f <;> simp[resolve,Frame.eval]
         rw[e0]
         exact h7
        have hsub:∀x∈Go.seen P fn es1 ++ Go.seen P fn Hk,x∈es1 ++ Hk:=fun x hx=>by
         rcases Array.mem_append.1 hx with hx|hx
         ·exact Array.mem_append.2 (.inl (lY hx))
         ·exact Array.mem_append.2 (.inr (lY hx))
        have hG:stepG P main (G {fn:=fn,tmps:=tmps,todo:=.code (.rangeFunc f params assign body) :: k,defers:=defers,mode:=.run,kind:=.normal,roundOf:=roundOf } (L ++ cs)) w
         =GStep.after (Go.seen P fn es1) (stepG.apply P true {fn:=fn,tmps:=tmps,todo:=.inRangeFunc e.1 :: k,defers:=e.2 ++ defers,mode:=.run,kind:=.normal,roundOf:=roundOf } (L ++ cs) none (do let d ← resolve (Frame.eval {fn:=fn,tmps:=tmps,todo:=.inRangeFunc e.1 :: k,defers:=e.2 ++ defers,mode:=.run,kind:=.normal,roundOf:=roundOf }) {callee:=.value f,args:=#[.const (.func (.yield e.1) #[] #[])],argTypes:=#[] } 0;invoke d.target d.args:Sem Next) w1):=by
         simp only[G,stepG,stepG.exec,h1]
        cases n with
        | enter g args=>
          obtain⟨rfl,rfl,rfl⟩:=pure_ok h8
          subst h3
          refine⟨_,?_,hsub⟩
          rw[hG]
          simp[stepG.apply,hcall,GStep.after,G,-Sem.runT_eq]
        | round l g t a b=>
          obtain⟨rfl,rfl,rfl⟩:=pure_ok h8
          subst h3
          refine⟨_,?_,hsub⟩
          rw[hG]
          simp[stepG.apply,hcall,GStep.after,G,-Sem.runT_eq]
        | _=>exact(fu h8).elim
      | refuse y=>exact(fu h).elim
      | _=>
        obtain⟨rfl,rfl,rfl⟩:=pure_ok h
        exact .of (by simp[G,stepG,stepG.exec])
    | inRegion ops l=>
      cases l with
      | nil=>
        obtain⟨rfl,rfl,rfl⟩:=pure_ok h
        exact .of (by simp[G,stepG,stepG.exec])
      | cons j l=>
        dsimp only at h
        cases hw:((ops[j]?).map (Region.wanted · (yielded ops tmps))).getD false with
        | false=>
          rw[hw] at h
          simp only[Bool.false_eq_true,if_false] at h
          obtain⟨rfl,rfl,rfl⟩:=pure_ok h
          exact .of (by simp[G,stepG,stepG.exec,hw])
        | true=>
          rw[hw] at h
          simp only[if_true] at h
          cases ho:ops[j]? with
          | none=>rw[ho] at h;exact(fu h).elim
          | some o=>
            rw[ho] at h
            have hwo:Region.wanted o (yielded ops tmps)=true:=by rw[ho] at hw;exact hw
            have QB:qx P o:=ht o (Array.mem_of_getElem? ho)
            have hnd:∀c,o.op≠.defer c:=fun c e=>by have:=QB.2;rw[e] at this;exact this
            have hop:stepG.oper P true {fn:=fn,tmps:=tmps,todo:=.inRegion ops (j :: l) :: k,defers:=defers,mode:=.run,kind:=.normal,roundOf:=roundOf } (L ++ cs) none w
             =stepG.apply P true {fn:=fn,tmps:=tmps,todo:=.inRegion ops (j :: l) :: k,defers:=defers,mode:=.run,kind:=.normal,roundOf:=roundOf } (L ++ cs) none (execOp (Frame.eval {fn:=fn,tmps:=tmps,todo:=.inRegion ops (j :: l) :: k,defers:=defers,mode:=.run,kind:=.normal,roundOf:=roundOf }) o) w:=by
             simp only[stepG.oper,Frame.oper?,ho]
             split
             ·rename_i e0;exact absurd e0 (hnd _)
             ·rfl
            have hG:stepG P main (G {fn:=fn,tmps:=tmps,todo:=.inRegion ops (j :: l) :: k,defers:=defers,mode:=.run,kind:=.normal,roundOf:=roundOf } (L ++ cs)) w
             =stepG.apply P true {fn:=fn,tmps:=tmps,todo:=.inRegion ops (j :: l) :: k,defers:=defers,mode:=.run,kind:=.normal,roundOf:=roundOf } (L ++ cs) none (execOp (Frame.eval {fn:=fn,tmps:=tmps,todo:=.inRegion ops (j :: l) :: k,defers:=defers,mode:=.run,kind:=.normal,roundOf:=roundOf }) o) w:=by
             rw[← hop]
             simp only[G,stepG,stepG.exec,ho,hwo,Option.map_some,Option.getD_some,if_true]
            dsimp only at h
            cases hpn:rY o.op with
            | true=>rw[hpn] at h;exact(fu h).elim
            | false=>
            rw[hpn] at h
            simp only[Bool.false_eq_true,if_false] at h
            obtain⟨n,w1,es1,hx,h2⟩:=bind_ok h
            cases n with
            | value v=>
              obtain⟨rfl,rfl,rfl⟩:=pure_ok h2
              exact .seen (f:=fn) (by rw[hG];simp[stepG.apply,hx,GStep.after,G,-Sem.runT_eq])
            | skip=>
              obtain⟨rfl,rfl,rfl⟩:=pure_ok h2
              exact .seen (f:=fn) (by rw[hG];simp[stepG.apply,hx,GStep.after,G,-Sem.runT_eq])
            | enter f args=>
              obtain⟨rfl,rfl,rfl⟩:=pure_ok h2
              exact .seen (f:=fn) (by rw[hG];simp[stepG.apply,hx,GStep.after,G,-Sem.runT_eq])
            | round l0 g t a b=>
              obtain⟨rfl,rfl,rfl⟩:=pure_ok h2
              exact .seen (f:=fn) (by rw[hG];simp[stepG.apply,hx,GStep.after,G,-Sem.runT_eq])
            | _=>exact(fu h2).elim
    | inRangeFunc l=>exact(fu h).elim
    | endRangeFunc l=>
      dsimp only at h
      obtain⟨j,w1,es1,hx,h2⟩:=bind_ok h
      obtain⟨rfl,rfl,rfl⟩:=pure_ok h2
      exact .M0 (f:=fn) (by simp[G,stepG,stepG.exec,hx,GStep.after,-Sem.runT_eq])
    | beginRound=>
      dsimp only at h
      cases roundOf with
      | none=>exact(fu h).elim
      | some l=>
        dsimp only at h
        obtain⟨u,w1,es1,hx,h2⟩:=bind_ok h
        obtain⟨rfl,rfl,rfl⟩:=pure_ok h2
        have hr:(do Option.elim (some l) (stuck sQ6) Instr.beginRound;pure .skip:Sem Next).runT P w #[]=(.ok .skip w2,es):=by
         rw[show ∀ {α β:Type} (x:Sem α) (f:α→Sem β),(x >>= f)=x.bind f from fun _ _=>rfl,Sem.runT_bind']
         simp only[Option.elim,hx,Pure.pure,Sem.runT]
        have hG:stepG P main (G {fn:=fn,tmps:=tmps,todo:=.beginRound :: k,defers:=defers,mode:=.run,kind:=.normal,roundOf:=some l } (L ++ cs)) w=stepG.apply P true {fn:=fn,tmps:=tmps,todo:=.beginRound :: k,defers:=defers,mode:=.run,kind:=.normal,roundOf:=some l } (L ++ cs) none (do Option.elim (some l) (stuck sQ6) Instr.beginRound;pure .skip) w:=by
         simp only[G,stepG,stepG.exec]
         rfl
        exact .seen (f:=fn) (by
         rw[hG]
         simp only[stepG.apply,hr,if_true]
         simp[GStep.after,G,-Sem.runT_eq])
    | _=>first
      | exact(show False from ht).elim
      | (obtain⟨rfl,rfl,rfl⟩:=pure_ok h
         exact .of (by simp[G,stepG,stepG.exec]))
 ·unfold fV at h
  dsimp only at h
  cases dx with
  | cons r dx=>
    simp only[List.map_cons,je] at hd
    subst hd
    dsimp only at h
    obtain⟨calls,w1,es1,hx,h2⟩:=bind_ok h
    obtain⟨rfl,rfl,rfl⟩:=pure_ok h2
    exact .M0 (f:=fn) (by simp[G,stepG,unwind,hx,GStep.after,-Sem.runT_eq])
  | nil=>
    simp only[List.map_nil] at hd
    subst hd
    dsimp only at h
    cases hfun:P.funcs[fn]? with
    | none=>rw[hfun] at h;exact(fu h).elim
    | some WN=>
      rw[hfun] at h
      cases L with
      | nil=>exact(fu h).elim
      | cons c0 L=>
        dsimp only at h
        obtain⟨v,w1,es1,hx,h2⟩:=bind_ok h
        obtain⟨rfl,rfl,rfl⟩:=pure_ok h2
        exact .M0 (f:=fn) (by simp[G,stepG,unwind,hfun,hx,doReturn,GStep.after,-Sem.runT_eq])
end
section
variable[Inhabited aZ]
variable{P:Program}{ρ:Ren}
inductive kD (ρ:Ren):Item→Item→Prop
 | code (c:Code):kD ρ (.code c) (.code c)
 | inBlock (i:Nat):kD ρ (.inBlock i) (.inBlock i)
 | inLoop (c:Code):kD ρ (.inLoop c) (.inLoop c)
 | inScope (c:Code):kD ρ (.inScope c) (.inScope c)
 | inRegion (o:Array Oper) (l:List Nat):kD ρ (.inRegion o l) (.inRegion o l)
 | beginRound:kD ρ .beginRound .beginRound
 | inRangeFunc {l l':Nat}:ρ l=some l'→kD ρ (.inRangeFunc l) (.inRangeFunc l')
 | endRangeFunc {l l':Nat}:ρ l=some l'→kD ρ (.endRangeFunc l) (.endRangeFunc l')
theorem kD.mono{ρ':Ren}(l:Le ρ ρ'){a b:Item}(h:kD ρ a b):kD ρ' a b:=by
 cases h with
 | code c=>exact .code c
 | inBlock i=>exact .inBlock i
 | inLoop c=>exact .inLoop c
 | inScope c=>exact .inScope c
 | inRegion o l=>exact .inRegion o l
 | beginRound=>exact .beginRound
 | inRangeFunc h=>exact .inRangeFunc (l _ _ h)
 | endRangeFunc h=>exact .endRangeFunc (l _ _ h)
inductive fI (ρ:Ren):List Item→List Item→Prop
 | nil:fI ρ [] []
 | cons {a b:Item} {x y:List Item}:kD ρ a b→fI ρ x y→fI ρ (a :: x) (b :: y)
theorem fI.mono{ρ':Ren}(l:Le ρ ρ'){a b:List Item}(h:fI ρ a b):fI ρ' a b:=by
 induction h with
 | nil=>exact .nil
 | cons h _ ih=>exact .cons (h.mono l) ih
theorem fI.append{a b c d:List Item}(h:fI ρ a b)(k:fI ρ c d):fI ρ (a ++ c) (b ++ d):=by
 induction h with
 | nil=>exact k
 | cons h _ ih=>exact .cons h ih
def DC(ρ:Ren)(a b:Option Nat):Prop:=(a=none∧b=none)∨∃l l',a=some l∧b=some l'∧ρ l=some l'
theorem DC.mono{ρ':Ren}(l:Le ρ ρ'){a b:Option Nat}(h:DC ρ a b):DC ρ' a b:=h.imp id fun⟨x,y,e1,e2,e3⟩=>⟨x,y,e1,e2,l _ _ e3⟩
structure BP(ρ:Ren)(fr fr':Frame):Prop where
 fn:fr'.fn=fr.fn
 mode:fr'.mode=fr.mode
 kind:fr'.kind=fr.kind
 tmps:dZ ρ fr.tmps fr'.tmps
 todo:fI ρ fr.todo fr'.todo
 defers:dV ρ fr.defers fr'.defers
 round:DC ρ fr.roundOf fr'.roundOf
inductive VF (ρ:Ren):List Frame→List Frame→Prop
 | nil:VF ρ [] []
 | cons {a b:Frame} {l m:List Frame}:BP ρ a b→VF ρ l m→VF ρ (a :: l) (b :: m)
theorem BP.mono{ρ':Ren}(l:Le ρ ρ'){a b:Frame}(h:BP ρ a b):BP ρ' a b:=⟨h.fn,h.mode,h.kind,h.tmps.mono l,h.todo.mono l,h.defers.mono l,h.round.mono l⟩
theorem VF.mono{ρ':Ren}(l:Le ρ ρ'){a b:List Frame}(h:VF ρ a b):VF ρ' a b:=by
 induction h with
 | nil=>exact .nil
 | cons h _ ih=>exact .cons (h.mono l) ih
def ZO(ρ:Ren)(a b:Frame × List Frame):Prop:=BP ρ a.1 b.1∧VF ρ a.2 b.2
theorem F8{a b:Frame}(h:BP ρ a b){x:Operand}(hx:qy x):VR ρ (a.eval x) (b.eval x):=by
 cases x with
 | tmp t=>exact h.tmps.getD t
 | const v=>exact hx ρ
 | global g=>exact hx.elim
 | func f=>exact .func f rfl (fun i h=>by simp at h) rfl (fun i h=>by simp at h)
theorem Vq{a b:Frame}(h:BP ρ a b){k k':List Item}(hk:fI ρ k k'):BP ρ {a with todo:=k } {b with todo:=k' }:=⟨h.fn,h.mode,h.kind,h.tmps,hk,h.defers,h.round⟩
theorem iA{a b:Frame}(h:BP ρ a b)(hk:∀i∈a.todo,kT P i){v v':Value}(hv:VR ρ v v'):BP ρ (a.finish v) (b.finish v'):=by
 obtain⟨fn,tmps,todo,defers,mode,kind,roundOf⟩:=a
 obtain⟨fn',vI,todo',defers',a8,kind',yB⟩:=b
 obtain⟨h1,h2,h3,h4,h5,h6,h7⟩:=h
 simp only at h1 h2 h3 h4 h5 h6 h7 hk
 cases h5 with
 | nil=>exact⟨h1,h2,h3,h4,.nil,h6,h7⟩
 | @cons i i' k k' hi hks=>
   cases hi with
   | inRegion ops l=>
     cases l with
     | nil=>exact⟨h1,h2,h3,h4,.cons (.inRegion _ _) hks,h6,h7⟩
     | cons j l=>
       refine⟨h1,h2,h3,?_,.cons (.inRegion _ _) hks,h6,h7⟩
       simp only[Frame.finish]
       cases ((ops[j]?).bind (·.dst)) with
       | none=>exact h4
       | some d=>exact h4.set d hv
   | inRangeFunc hl=>exact⟨h1,h2,h3,h4,.cons (.endRangeFunc hl) hks,h6,h7⟩
   | beginRound=>exact⟨h1,h2,h3,h4,hks,h6,h7⟩
   | code c=>exact⟨h1,h2,h3,h4,.cons (.code c) hks,h6,h7⟩
   | inBlock i=>exact⟨h1,h2,h3,h4,.cons (.inBlock i) hks,h6,h7⟩
   | inLoop c=>exact⟨h1,h2,h3,h4,.cons (.inLoop c) hks,h6,h7⟩
   | inScope c=>exact⟨h1,h2,h3,h4,.cons (.inScope c) hks,h6,h7⟩
   | endRangeFunc hl=>exact⟨h1,h2,h3,h4,.cons (.endRangeFunc hl) hks,h6,h7⟩
theorem OZ{α:Type}(f f':α→Sem Value)(hf:∀a {ρ':Ren},Ext ρ ρ'→SR P VR ρ' (f a) (f' a)):∀ (l:List α) {ρ':Ren},Ext ρ ρ'→SR P LR ρ' (l.mapM f) (l.mapM f'):=by
 intro l
 induction l with
 | nil=>intro ρ' hi;simp only[List.mapM_nil];exact SR.pure .nil
 | cons a l ih=>
   intro ρ1 hi
   simp only[List.mapM_cons]
   refine(hf a hi).bind' hi.2 fun ρ2 l2 x y hx=>?_
   refine(ih (hi.trans l2)).bind' l2.2 fun ρ3 l3 xs ys hxs=>?_
   exact SR.pure (.cons (hx.mono l3.1) hxs)
theorem LR.array{l l':List Value}(h:LR ρ l l'):dZ ρ l.toArray l'.toArray:=by
 induction h with
 | nil=>exact .nil ρ
 | cons hv _ ih=>
   have:=dZ.append (ρ:=ρ) (dZ.push (.nil ρ) hv) ih
   simpa using this
theorem vk(hi:dP ρ)(fn:Func){x x':Array Value}(h:dZ ρ x x'):SR P VR ρ (results fn x) (results fn x'):=by
 unfold results
 have key:SR P dZ ρ (fn.results.mapM fun r=>(match r with| .tmp t=>pure (x.getD t undef)| .cell a t=>do loadVar t (← asAddr (x.getD a undef)):Sem Value))
  (fn.results.mapM fun r=>(match r with| .tmp t=>pure (x'.getD t undef)| .cell a t=>do loadVar t (← asAddr (x'.getD a undef)):Sem Value)):=by
  rw[Array.mapM_eq_mapM_toList,Array.mapM_eq_mapM_toList]
  have e:∀ (s:Sem (List Value)),(Functor.map List.toArray s)=(s >>= fun l=>pure l.toArray):=fun s=>rfl
  rw[e,e]
  refine(OZ _ _ (fun r ρ1 l1=>?_) _ (.refl hi)).bind' hi fun ρ1 l1 xs ys hxs=>SR.pure hxs.array
  have h1:=h.mono l1.1
  cases r with
  | tmp t=>exact SR.pure (h1.getD t)
  | cell a t=>exact(wT (h1.getD a)).bind' l1.2 fun ρ2 l2 a a' ha=>uX l2.2 t ha
 refine key.bind' hi fun ρ1 l1 xs ys hxs=>SR.pure ?_
 have hs:=hxs.1
 by_cases c:xs.size=1
 ·have c':ys.size=1:=hs ▸ c
  simp only[c,c',dif_pos]
  exact hxs.2 0 zo zo
 ·have c':¬ ys.size=1:=hs ▸ c
  simp only[c,c',dif_neg,not_false_eq_true]
  exact .tuple hxs.1 hxs.2
theorem IV(ops:Array Oper){x x':Array Value}(h:dZ ρ x x'):yielded ops x'=yielded ops x:=by
 funext j
 unfold yielded
 cases ((ops[j]?).bind (·.dst)) with
 | none=>rfl
 | some d=>
   rcases h.get? d with⟨a,b⟩|⟨v,v',a,b,c⟩
   ·simp only[Option.bind_some,a,b]
   ·simp only[Option.bind_some,a,b]
    cases c <;> rfl
theorem jy{F:FuncId→Prop}{a:Frame}(h:jG P F a)(v:Value):jG P F (a.finish v):=by
 obtain⟨fn,tmps,todo,defers,mode,kind,roundOf⟩:=a
 obtain⟨h1,h2,h3,h4,h5⟩:=h
 unfold Frame.finish
 dsimp only at h1 h2 h3 h4 h5⊢
 split
 ·rename_i ops i rest k
  refine⟨h1,fun x hx=>?_,h3,h4,h5⟩
  rcases List.mem_cons.1 hx with rfl|hx
  ·exact h2 (.inRegion ops (i :: rest)) zs
  ·exact h2 x (by simp[hx])
 ·refine⟨h1,fun x hx=>?_,h3,h4,h5⟩
  rcases List.mem_cons.1 hx with rfl|hx
  ·trivial
  ·exact h2 x (by simp[hx])
 ·exact⟨h1,fun x hx=>h2 x (by simp[hx]),h3,h4,h5⟩
 ·exact(h2 _ List.mem_cons_self).elim
 ·exact(h2 _ List.mem_cons_self).elim
 ·exact⟨h1,h2,h3,h4,h5⟩
theorem tN{g:FuncId}{x x':Array Value}(h:dZ ρ x x'):BP ρ (Frame.enter P g x .normal) (Frame.enter P g x' .normal):=by
 refine⟨rfl,rfl,rfl,?_,.cons (.code _) .nil,.nil ρ,.inl ⟨rfl,rfl⟩⟩
 simp only[Frame.enter]
 rw[h.1]
 exact h.append ⟨rfl,fun i a b=>by simp only[Array.getElem_replicate];exact .undef ρ⟩
theorem xA{F:FuncId→Prop}(hF:gK P F){g:FuncId}(hg:F g)(x:Array Value):jG P F (Frame.enter P g x .normal):=by
 obtain⟨f,c,h1,h2,h3,h4⟩:=hF.sv g hg
 refine⟨hg,fun i hi=>?_,⟨[],rfl⟩,.inl rfl,rfl⟩
 simp only[Frame.enter,h1,Option.bind_some,h2,Option.getD_some,List.mem_singleton] at hi
 subst hi
 exact h4
theorem CO{l l':Nat}{g:FuncId}{x x':Array Value}{a b:Code}(hl:ρ l=some l')(h:dZ ρ x x'):BP ρ (Frame.round l g x a b .normal) (Frame.round l' g x' a b .normal):=
 ⟨rfl,rfl,rfl,h,.cons (.code _) (.cons .beginRound (.cons (.code _) .nil)),.nil ρ,.inr ⟨l,l',rfl,rfl,hl⟩⟩
theorem H9{F:FuncId→Prop}(hF:gK P F){g:FuncId}{a b:Code}(ha:jf g a)(hb:jf g b)(l:Nat)(x:Array Value):jG P F (Frame.round l g x a b .normal):=by
 have h1:=(hF.env g a).1 ha
 have h2:=(hF.env g b).1 hb
 refine⟨h1.1,fun i hi=>?_,⟨[],rfl⟩,.inl rfl,rfl⟩
 simp only[Frame.round,List.mem_cons,List.not_mem_nil,or_false] at hi
 rcases hi with rfl|rfl|rfl
 ·exact h1.2
 ·trivial
 ·exact h2.2
theorem qK{id:Nat}:∀ {k k':List Item},exitTo id k=some k'→∀i∈k',i∈k:=by
 intro k
 induction k with
 | nil=>intro k' h;simp[exitTo] at h
 | cons a k ih=>
   intro k' h i hi
   cases a with
   | inBlock j=>
     simp only[exitTo] at h
     split at h
     ·cases h;simp[hi]
     ·exact List.mem_cons_of_mem _ (ih h i hi)
   | _=>simp only[exitTo] at h;exact List.mem_cons_of_mem _ (ih h i hi)
theorem JO{id:Nat}{k k':List Item}(h:fI ρ k k'):(exitTo id k=none∧exitTo id k'=none)∨∃x x',exitTo id k=some x∧exitTo id k'=some x'∧fI ρ x x':=by
 induction h with
 | nil=>exact .inl ⟨rfl,rfl⟩
 | @cons a b x y hab hxy ih=>
   cases hab with
   | inBlock i=>
     simp only[exitTo]
     by_cases e:(i == id)=true
     ·simp only[e,if_true];exact .inr ⟨_,_,rfl,rfl,hxy⟩
     ·simp only[e];exact ih
   | _=>simp only[exitTo];exact ih
def Fu(P:Program)(F:FuncId→Prop)(s:Frame × List Frame):Prop:=jG P F s.1∧∀c∈s.2,jG P F c
structure BQ(P:Program)(F:FuncId→Prop)(fr:Frame):Prop where
 op:∀ops i l k o c f,fr.mode=.run→fr.todo=.inRegion ops (i :: l) :: k→ops[i]? =some o→o.op=.call c→c.callee=.value f→df P F (fr.eval f)
 iter:∀f ps a b k,fr.mode=.run→fr.todo=.code (.rangeFunc f ps a b) :: k→df P F (fr.eval f)
theorem UJ{F:FuncId→Prop}{ev:Operand→Value}{o:Oper}(h:qx P o)(hp:rY o.op=false)(hl:∀c f,o.op=.call c→c.callee=.value f→df P F (ev f)):Sup P F ev o:=by
 obtain⟨-,h⟩:=h
 unfold Sup
 cases hop:o.op <;> rw[hop] at h hp <;> simp only at h
 all_goals first|exact h|(cases hp;done)|skip
 case call c=>
  dsimp only
  cases hc:c.callee <;> rw[hc] at h <;> simp only at h
  ·exact hl c _ hop hc
  ·exact h
section
variable{F:FuncId→Prop}{fr fr':Frame}{L L':List Frame}
theorem Pk(hF:gK P F)(h:BP ρ fr fr')(hL:VF ρ L L')(ok:jG P F fr)(pW:∀c∈L,jG P F c){n n':Next}(hn:NR F ρ n n'):
 SR P (fun ρ a b=>ZO ρ a b∧Fu P F a) ρ (uZ P fr L n) (uZ P fr' L' n'):=by
 cases n with
 | value v=>obtain⟨v',rfl,hv⟩:=hn;exact SR.pure ⟨⟨iA (P:=P) h ok.todo hv,hL⟩,jy ok _,pW⟩
 | skip=>cases hn;exact SR.pure ⟨⟨iA (P:=P) h ok.todo (.undef ρ),hL⟩,jy ok _,pW⟩
 | enter g a=>
   obtain⟨a',rfl,ha,hg⟩:=hn
   exact SR.pure ⟨⟨tN ha,.cons h hL⟩,xA hF hg _,by simp only[List.forall_mem_cons];exact⟨ok,pW⟩⟩
 | round l g t a b=>
   obtain⟨l',t',rfl,hl,ht,ha,hb⟩:=hn
   exact SR.pure ⟨⟨CO hl ht,.cons h hL⟩,H9 hF ha hb _ _,by simp only[List.forall_mem_cons];exact⟨ok,pW⟩⟩
 | _=>exact hn.elim
theorem OJ(hF:gK P F)(h:BP ρ fr fr')(hL:VF ρ L L')(ok:jG P F fr)(pW:∀c∈L,jG P F c){n n':Next}(hn:NR F ρ n n'):
 SR P (fun ρ a b=>ZO ρ a b∧Fu P F a) ρ (uV P fr L n) (uV P fr' L' n'):=by
 cases n with
 | value v=>exact trivial
 | skip=>exact trivial
 | enter g a=>
   obtain⟨a',rfl,ha,hg⟩:=hn
   exact SR.pure ⟨⟨tN ha,.cons h hL⟩,xA hF hg _,by simp only[List.forall_mem_cons];exact⟨ok,pW⟩⟩
 | round l g t a b=>
   obtain⟨l',t',rfl,hl,ht,ha,hb⟩:=hn
   exact SR.pure ⟨⟨CO hl ht,.cons h hL⟩,H9 hF ha hb _ _,by simp only[List.forall_mem_cons];exact⟨ok,pW⟩⟩
 | _=>exact hn.elim
theorem Kl(hF:gK P F)(hi:dP ρ)(h:BP ρ fr fr')(hL:VF ρ L L')(ok:jG P F fr)(pW:∀c∈L,jG P F c)(jump:Option Code)(hj:∀j,jump=some j→gL P j):
 SR P (fun ρ a b=>ZO ρ a b∧Fu P F a) ρ (kZ fr L jump) (kZ fr' L' jump):=by
 obtain⟨fn,tmps,todo,defers,mode,kind,roundOf⟩:=fr
 obtain⟨fn',vI,todo',defers',a8,kind',yB⟩:=fr'
 obtain⟨h1,h2,h3,h4,h5,h6,h7⟩:=h
 simp only at h1 h2 h3 h4 h5 h6 h7
 unfold kZ
 dsimp only
 rcases h7 with⟨rfl,rfl⟩|⟨l,l',rfl,rfl,hl⟩
 ·dsimp only
  have hret:BP ρ {fn:=fn,tmps:=tmps,todo:=todo,defers:=defers,mode:=.returning,kind:=kind,roundOf:=none } {fn:=fn',tmps:=vI,todo:=todo',defers:=defers',mode:=.returning,kind:=kind',roundOf:=none }:=⟨h1,rfl,h3,h4,h5,h6,.inl ⟨rfl,rfl⟩⟩
  have a9:jG P F {fn:=fn,tmps:=tmps,todo:=todo,defers:=defers,mode:=.returning,kind:=kind,roundOf:=none }:=⟨ok.fn,ok.todo,ok.defers,.inr rfl,ok.kind⟩
  cases jump with
  | none=>exact SR.pure ⟨⟨hret,hL⟩,a9,pW⟩
  | some j=>
    cases j with
    | ret=>exact SR.pure ⟨⟨hret,hL⟩,a9,pW⟩
    | _=>exact trivial
 ·dsimp only
  cases hL with
  | nil=>exact trivial
  | cons h1 h2=>
    simp only[List.forall_mem_cons] at pW
    refine(D5 hi hl jump fun r hr j e=>(hF.env _ _).2 ⟨((hF.env _ _).1 hr.assign).1,hj j e⟩).bind' hi fun ρ1 l1 v v' hv=>SR.pure ⟨⟨iA (P:=P) (h1.mono l1.1) pW.1.todo hv,h2.mono l1.1⟩,jy pW.1 _,pW.2⟩
end
theorem CX(hg:P.globals.size=0){F:FuncId→Prop}(hF:gK P F)(hi:dP ρ){s s':Frame × List Frame}(h:ZO ρ s s')(ok:Fu P F s)(hl:BQ P F s.1):
 SR P (fun ρ a b=>ZO ρ a b∧Fu P F a) ρ (fV P s.1 s.2) (fV P s'.1 s'.2):=by
 obtain⟨fr,L⟩:=s
 obtain⟨fr',L'⟩:=s'
 obtain⟨h,hL⟩:=h
 obtain⟨ok,pW⟩:=ok
 simp only at h hL ok pW hl
 have hev:∀x,qy x→VR ρ (fr.eval x) (fr'.eval x):=fun x=>F8 h
 have OF:∀k:List Item,(∀i∈k,kT P i)→jG P F {fr with todo:=k }:=fun k hk=>⟨ok.fn,hk,ok.defers,ok.mode,ok.kind⟩
 have go:∀ {ρ1:Ren},Le ρ ρ1→∀ {k k':List Item},fI ρ1 k k'→(∀i∈k,kT P i)→(ZO ρ1 ({fr with todo:=k },L) ({fr' with todo:=k' },L')∧Fu P F ({fr with todo:=k },L)):=fun l k k' hkk hk=>⟨⟨Vq (h.mono l) hkk,hL.mono l⟩,OF _ hk,pW⟩
 have hy:∀ops,yielded ops fr'.tmps=yielded ops fr.tmps:=fun ops=>IV ops h.tmps
 have hlv:=fun jump hj=>Kl hF hi h hL ok pW jump hj
 have hnx:=fun{ρ1:Ren} (l1:Le ρ ρ1) {n n':Next} (hn:NR F ρ1 n n')=>Pk hF (h.mono l1) (hL.mono l1) ok pW hn
 have fy:=ok.todo
 have hm:=ok.mode
 have hF':=h
 obtain⟨fn,tmps,todo,defers,mode,kind,roundOf⟩:=fr
 obtain⟨fn',vI,todo',defers',a8,kind',yB⟩:=fr'
 obtain⟨h1,h2,h3,h4,h5,h6,h7⟩:=h
 simp only at h1 h2 h3 h4 h5 h6 h7 hm fy
 subst h1
 subst h2
 subst h3
 unfold fV
 dsimp only
 rcases hm with rfl|rfl
 ·dsimp only
  cases h5 with
  | nil=>exact hlv none (fun j e=>by cases e)
  | @cons i i' k k' hii hkk=>
    have hk:∀i∈k,kT P i:=fun i hi=>fy i (List.mem_cons_of_mem _ hi)
    have hh:=fy i List.mem_cons_self
    cases hii with
    | code c=>
      cases c with
      | skip=>exact SR.pure (go (.refl ρ) hkk hk)
      | label l=>exact SR.pure (go (.refl ρ) hkk hk)
      | ret=>exact hlv (some .ret) (fun j e=>by cases e;trivial)
      | seq a b=>exact SR.pure (go (.refl ρ) (.cons (.code _) (.cons (.code _) hkk)) (by simp only[List.forall_mem_cons];exact⟨hh.1,hh.2,hk⟩))
      | cond x a b=>
        dsimp only
        have:=hev x hh.1
        revert this
        generalize Frame.eval _ x=v
        generalize Frame.eval _ x=v'
        intro this
        cases this with
        | bool b=>exact SR.pure (go (.refl ρ) (.cons (.code _) hkk) (by simp only[List.forall_mem_cons];refine⟨?_,hk⟩;cases b <;> first|exact hh.2.1|exact hh.2.2))
        | _=>exact trivial
      | block id b=>exact SR.pure (go (.refl ρ) (.cons (.code _) (.cons (.inBlock _) hkk)) (by simp only[List.forall_mem_cons];exact⟨hh,trivial,hk⟩))
      | loop b=>exact SR.pure (go (.refl ρ) (.cons (.code _) (.cons (.inLoop _) hkk)) (by simp only[List.forall_mem_cons];exact⟨hh,hh,hk⟩))
      | scope b=>exact SR.pure (go (.refl ρ) (.cons (.code _) (.cons (.inScope _) hkk)) (by simp only[List.forall_mem_cons];exact⟨hh,hh,hk⟩))
      | exit id=>
        dsimp only
        rcases JO (id:=id) hkk with⟨e1,e2⟩|⟨x,x',e1,e2,hx⟩
        ·rw[e1,e2]
         exact hlv (some (.exit id)) (fun j e=>by cases e;trivial)
        ·rw[e1,e2]
         exact SR.pure (go (.refl ρ) hx fun i hi=>hk i (qK e1 i hi))
      | region id ops draw=>
        dsimp only
        have hr:∀l,∀i∈(Item.inRegion ops l :: k),kT P i:=fun l=>by simp only[List.forall_mem_cons];exact⟨hh,hk⟩
        cases draw with
        | false=>exact SR.pure (go (.refl ρ) (.cons (.inRegion _ _) hkk) (hr _))
        | true=>exact(oF _).aO hi fun ρ1 l1 t=>SR.pure (go l1.1 (.cons (.inRegion _ _) (hkk.mono l1.1)) (hr _))
      | goto l=>exact hh.elim
      | rangeFunc f ps a b=>
        dsimp only
        have hf:VR ρ _ _:=hev f hh.1
        have fw:df P F _:=hl.iter f ps a b k rfl rfl
        refine(pJ hi h4 ps ((hF.env _ _).2 ⟨ok.fn,hh.2.1⟩) ((hF.env _ _).2 ⟨ok.fn,hh.2.2⟩) h7).bind' hi fun ρ1 l1 e e' he=>?_
        refine(Ca l1.2 fw (hf.mono l1.1) (dZ.push (dZ.nil ρ1) (.yield he.1))).bind' l1.2 fun ρ2 l2 n n' hn=>?_
        have l12:=l1.1.trans l2.1
        have hfr:BP ρ2 {fn:=fn',tmps:=tmps,todo:=.inRangeFunc e.1 :: k,defers:=e.2 ++ defers,mode:=.run,kind:=kind',roundOf:=roundOf } {fn:=fn',tmps:=vI,todo:=.inRangeFunc e'.1 :: k',defers:=e'.2 ++ defers',mode:=.run,kind:=kind',roundOf:=yB }:=⟨rfl,rfl,rfl,h4.mono l12,.cons (.inRangeFunc (l2.1 _ _ he.1)) (hkk.mono l12),(he.2.mono l2.1).append (h6.mono l12),h7.mono l12⟩
        refine OJ hF hfr (hL.mono l12) ?_ pW hn
        refine⟨ok.fn,by simp only[List.forall_mem_cons];exact⟨trivial,hk⟩,?_,.inl rfl,ok.kind⟩
        obtain⟨x,_,e1,_⟩:=he.2
        obtain⟨y,e2⟩:=ok.defers
        simp only at e2
        exact⟨x ++ y,by simp[e1,e2]⟩
      | refuse y=>exact trivial
    | inBlock id=>exact SR.pure (go (.refl ρ) hkk hk)
    | inScope b=>exact SR.pure (go (.refl ρ) hkk hk)
    | inLoop b=>exact SR.pure (go (.refl ρ) (.cons (.code _) (.cons (.inLoop _) hkk)) (by simp only[List.forall_mem_cons];exact⟨hh,hh,hk⟩))
    | inRangeFunc hlp=>exact trivial
    | endRangeFunc hlp=>
      dsimp only
      refine(uP hi hlp).bind' hi fun ρ1 l1 j j' ⟨hj,hok⟩=>?_
      subst hj
      refine SR.pure (go l1.1 ?_ ?_)
      ·cases j with
       | none=>exact hkk.mono l1.1
       | some c=>exact .cons (.code c) (hkk.mono l1.1)
      ·cases j with
       | none=>exact hk
       | some c=>
         obtain⟨f,hf⟩:=hok c rfl
         simp only[Option.map_some,Option.toList_some,List.singleton_append,List.forall_mem_cons]
         exact⟨((hF.env _ _).1 hf).2,hk⟩
    | beginRound=>
      dsimp only
      rcases h7 with⟨rfl,rfl⟩|⟨l,l',rfl,rfl,hl⟩
      ·exact trivial
      ·exact(nM hi hl).aO hi fun ρ1 l1 _=>SR.pure ⟨⟨iA (P:=P) (hF'.mono l1.1) ok.todo (.undef ρ1),hL.mono l1.1⟩,jy ok undef,pW⟩
    | inRegion ops l=>
      cases l with
      | nil=>exact SR.pure (go (.refl ρ) hkk hk)
      | cons j l=>
        dsimp only
        rw[hy]
        cases hw:((ops[j]?).map (Region.wanted · (yielded ops tmps))).getD false with
        | false=>exact SR.pure ⟨⟨iA (P:=P) hF' ok.todo (.undef ρ),hL⟩,jy ok undef,pW⟩
        | true=>
          simp only[if_true]
          cases ho:ops[j]? with
          | none=>exact trivial
          | some o=>
            have QB:qx P o:=hh o (Array.mem_of_getElem? ho)
            dsimp only
            cases hpn:rY o.op with
            | true=>exact trivial
            | false=>
              simp only[Bool.false_eq_true,if_false]
              have hsup:=UJ QB hpn fun c f hc hf=>hl.op ops j l k o c f rfl rfl ho hc hf
              exact(xC hg hi hsup fun x hx=>hev x (QB.1 x hx)).bind' hi fun ρ1 l1 n n' hn=>hnx l1.1 hn
 ·dsimp only
  rcases h6.cases with⟨rfl,rfl⟩|⟨r,r',d,d',rfl,rfl,hr,hd⟩
  ·dsimp only
   cases P.funcs[fn']? with
   | none=>exact trivial
   | some WN=>
     cases hL with
     | nil=>exact trivial
     | cons h1 h2=>
       simp only[List.forall_mem_cons] at pW
       refine(vk hi WN h4).bind' hi fun ρ1 l1 v v' hv=>SR.pure ⟨⟨iA (P:=P) (h1.mono l1.1) pW.1.todo hv,h2.mono l1.1⟩,jy pW.1 _,pW.2⟩
  ·dsimp only[je]
   refine(uF hi hr).bind' hi fun ρ1 l1 a b ⟨ea,eb⟩=>?_
   subst ea
   subst eb
   refine SR.pure ⟨⟨⟨rfl,rfl,rfl,h4.mono l1.1,h5.mono l1.1,hd.mono l1.1,h7.mono l1.1⟩,hL.mono l1.1⟩,⟨ok.fn,ok.todo,?_,.inr rfl,ok.kind⟩,pW⟩
   obtain⟨x,e⟩:=ok.defers
   cases x with
   | nil=>simp at e
   | cons q x=>simp only[List.map_cons,List.cons.injEq] at e;exact⟨x,by simp[e.2]⟩
end
section
variable[Inhabited aZ]
open Go.Conc
variable{P:Program}{ρ:Ren}
def wL(w:World)(d:Deferred):Prop:=∃r,d=je r∧∀ds,w.heap[r]? =some (.deferred (some ds))→ds=[]
structure iZ(P:Program)(w:World)(fr:Frame):Prop where
 fn:(P.funcs[fr.fn]?).isSome=true
 marks:∀d∈fr.defers,wL w d
structure Nu(P:Program)(g:Goroutine)(w:World):Prop where
 cases:g.dying.isSome=true∨(g.status=.blocked∨g.status=.waiting∨g.status=.finished)∨
  (g.status=.running∧g.dying=none∧(∃chain,g.frame.mode=.panicking chain)∧iZ P w g.frame∧∀c∈g.callers,iZ P w c)
theorem aY{a:Goroutine}{w w':World}{o:Outcome}{es:Array Event}(h:stepG P true a w=.ended o w' es):(runT P (solo a w) 0).1=.ended o w':=by
 simp[runT,solo,Array.swapAt!,Array.swapAt,h,GStep.es]
theorem mW{g:Goroutine}{w:World}{m1:Machine}(h:g.status=.blocked∨g.status=.waiting∨g.status=.finished)(hs:step P (solo g w)=.next m1):m1=solo g w:=by
 rw[step,stepT] at hs
 rcases h with h|h|h
 ·simp[move,ask,askOn,solo,runnable_eq,due,ahead,Goroutine.canRun,List.range_succ,pure,h] at hs
  split at hs <;> rename_i heq <;> split at heq <;> simp_all
 ·simp[move,ask,askOn,solo,runnable_eq,due,ahead,Goroutine.canRun,List.range_succ,pure,h] at hs
  rw[← hs];simp[solo]
 ·simp[move,ask,askOn,solo,runnable_eq,due,ahead,Goroutine.canRun,List.range_succ,pure,h] at hs
  split at hs <;> rename_i heq <;> split at heq <;> simp_all
theorem raise_mode(c:Frame)(vs:List PanicEntry):(∃chain,(c.raise vs).mode=.panicking chain)∧(c.raise vs).defers=c.defers∧(c.raise vs).fn=c.fn:=by
 unfold Frame.raise
 split
 ·exact⟨⟨_,rfl⟩,rfl,rfl⟩
 ·exact⟨⟨_,rfl⟩,rfl,rfl⟩
theorem iZ.raise{w:World}{c:Frame}(h:iZ P w c)(vs:List PanicEntry):iZ P w (c.raise vs):=by
 obtain⟨_,r2,r3⟩:=raise_mode c vs
 exact⟨by rw[r3];exact h.fn,by rw[r2];exact h.marks⟩
theorem wL.taken{w:World}{d:Deferred}(h:wL w d)(q:Nat):wL {w with heap:=w.heap.setIfInBounds q (.deferred none) } d:=by
 obtain⟨r,e,h⟩:=h
 refine⟨r,e,fun ds hd=>?_⟩
 by_cases hq:q=r
 ·subst hq
  rcases Nat.lt_or_ge q w.heap.size with c|c
  ·simp[c] at hd
  ·simp[c] at hd
 ·simp only[Array.getElem?_setIfInBounds_ne hq] at hd
  exact h ds hd
theorem iZ.taken{w:World}{c:Frame}(h:iZ P w c)(q:Nat):iZ P {w with heap:=w.heap.setIfInBounds q (.deferred none) } c:=⟨h.fn,fun d hd=>(h.marks d hd).taken q⟩
theorem Ol{g:Goroutine}{w:World}{m1:Machine}(hd:Nu P g w)(ha:g.dying.isNone=true)(hs:step P (solo g w)=.next m1):∃g1 w1,m1=solo g1 w1∧Nu P g1 w1:=by
 rcases hd.cases with h|h|⟨h1,h2,⟨chain,h3⟩,h4,h6⟩
 ·rw[Option.isNone_iff_eq_none] at ha;rw[ha] at h;cases h
 ·exact⟨g,w,mW h hs,⟨.inr (.inl h)⟩⟩
 ·obtain⟨fr,callers,status,dying,offers⟩:=g
  simp only at h1 h2 h3 h4 h6
  subst h1;subst h2
  rw[step,stepT_solo rfl] at hs
  have Ed:fr.catches P=false:=by
   unfold Frame.catches
   obtain⟨f,hf⟩:=Option.isSome_iff_exists.1 h4.fn
   rw[hf]
  have e:stepG P true {frame:=fr,callers:=callers,status:=.running,dying:=none,offers:=offers } w=unwind P true fr callers none w:=by
   simp[stepG,h3]
  have hmk:=h4.marks
  cases hdf:fr.defers with
  | cons d ds=>
    rw[hdf] at hmk
    simp only[List.forall_mem_cons] at hmk
    obtain⟨⟨r,rfl,hr⟩,hds⟩:=hmk
    have e1:stepG P true {frame:=fr,callers:=callers,status:=.running,dying:=none,offers:=offers } w
     =(let (r,es):=(Instr.takeDeferred r).runT P w #[]
      GStep.after (seen P fr.fn es) <| match r with
      | .ok calls w=>.go {frame:={fr with defers:=calls ++ ds },callers,status:=.running,dying:=none } w
      | .halt _ w=>.ended (.stuck "the deferred calls of a range-over-func loop have been taken" (fr.pos P)) w):=by
     rw[e];simp only[unwind,hdf,je] <;> rfl
    have key:(∃o,(runT P (solo {frame:=fr,callers:=callers,status:=.running,dying:=none,offers:=offers } w) 0).1=.ended o w)∨
     (w.heap[r]? =some (.deferred (some []))∧(runT P (solo {frame:=fr,callers:=callers,status:=.running,dying:=none,offers:=offers } w) 0).1=.next (solo {frame:={fr with defers:=ds },callers,status:=.running,dying:=none } {w with heap:=w.heap.setIfInBounds r (.deferred none) })):=by
     have bad:∀es:Array Event,∀h:Halt,(Instr.takeDeferred r).runT P w #[]=(.halt h w,es)→∃o,(runT P (solo {frame:=fr,callers:=callers,status:=.running,dying:=none,offers:=offers } w) 0).1=.ended o w:=fun es h hh=>by
      rw[hh] at e1
      exact⟨_,aY (es:=_) (e1.trans (by simp only[GStep.after] <;> rfl))⟩
     cases ho:w.heap[r]? with
     | none=>exact .inl (bad #[] _ (by simp[Instr.takeDeferred,getObj,Bind.bind,Sem.bind,Sem.runT,ho,-Sem.runT_eq];first|rfl|exact⟨rfl,rfl⟩))
     | some o=>
       cases o with
       | deferred c=>
         cases c with
         | none=>exact .inl (bad _ _ (by simp[Instr.takeDeferred,getObj,Bind.bind,Sem.bind,Sem.runT,ho,stuck,-Sem.runT_eq];first|rfl|exact⟨rfl,rfl⟩))
         | some l=>
           obtain rfl:=hr l ho
           refine .inr ⟨rfl,?_⟩
           have hrun:∃es,(Instr.takeDeferred r).runT P w #[]=(.ok [] {w with heap:=w.heap.setIfInBounds r (.deferred none) },es):=⟨_,by simp[Instr.takeDeferred,getObj,setObj,Bind.bind,Sem.bind,Sem.runT,ho,Pure.pure,-Sem.runT_eq];rfl⟩
           obtain⟨es,hrun⟩:=hrun
           rw[hrun] at e1
           have:=runT_solo_go (P:=P) (a:={frame:=fr,callers:=callers,status:=.running,dying:=none,offers:=offers }) (a':={frame:={fr with defers:=ds },callers,status:=.running,dying:=none }) (w:=w) (w':={w with heap:=w.heap.setIfInBounds r (.deferred none) }) (es:=seen P fr.fn es ++ #[]) (by rw[e1];simp[GStep.after])
           rw[this]
       | cells c t f=>exact .inl (bad _ _ (by simp[Instr.takeDeferred,getObj,Bind.bind,Sem.bind,Sem.runT,ho,-Sem.runT_eq];first|rfl|exact⟨rfl,rfl⟩))
       | _=>exact .inl (bad _ _ (by simp[Instr.takeDeferred,getObj,Bind.bind,Sem.bind,Sem.runT,ho,stuck,-Sem.runT_eq];first|rfl|exact⟨rfl,rfl⟩))
    rcases key with⟨o,k⟩|⟨_,k⟩
    ·rw[k] at hs;cases hs
    ·rw[k] at hs
     simp only[Stepped.next.injEq] at hs
     refine⟨_,_,hs.symm,⟨.inr (.inr ⟨rfl,rfl,⟨chain,h3⟩,⟨h4.fn,fun d hd=>(hds d hd).taken r⟩,fun c hc=>(h6 c hc).taken r⟩)⟩⟩
  | nil=>
    cases callers with
    | cons c rest=>
      have e2:stepG P true {frame:=fr,callers:=c :: rest,status:=.running,dying:=none,offers:=offers } w=.go {frame:=c.raise chain,callers:=rest,status:=.running,dying:=none } w #[]:=by
       rw[e];simp[unwind,hdf,h3,Ed]
      rw[runT_solo_go e2] at hs
      cases hs
      simp only[List.forall_mem_cons] at h6
      exact⟨_,w,rfl,⟨.inr (.inr ⟨rfl,rfl,(raise_mode c chain).1,h6.1.raise chain,h6.2⟩)⟩⟩
    | nil=>
      by_cases hg:chain.head?.any (·.goexit)=true
      ·have e2:stepG P true {frame:=fr,callers:=[],status:=.running,dying:=none,offers:=offers } w=.go {frame:=fr,callers:=[],status:=.finished,dying:=none } w #[]:=by
        rw[e];simp only[unwind,hdf,h3,Ed,Bool.false_eq_true,if_false,if_pos hg]
       rw[runT_solo_go e2] at hs
       cases hs
       exact⟨_,w,rfl,⟨.inr (.inl (.inr (.inr rfl)))⟩⟩
      ·cases hr:(reportChain chain false).run P w with
       | ok todo w2=>
         have e2:=e
         simp only[unwind,hdf,h3,Ed,Bool.false_eq_true,if_false,if_neg hg,hr] at e2
         rw[runT_solo_go e2] at hs
         cases hs
         exact⟨_,w2,rfl,⟨.inl rfl⟩⟩
       | halt h0 w2=>
         have e2:=e
         simp only[unwind,hdf,h3,Ed,Bool.false_eq_true,if_false,if_neg hg,hr] at e2
         cases h0 <;> (simp only at e2;rw[aY e2] at hs;cases hs)
theorem Oj{F:Fence}(hal:F.alive=true){m m':Machine}(h:StepsIn (Machine.fenced P F) P m m'):∀ {g:Goroutine} {w:World},m=solo g w→Nu P g w→∃g1 w1,m'=solo g1 w1∧Nu P g1 w1:=by
 induction h with
 | refl m=>intro g w e hd;exact⟨g,w,e,hd⟩
 | head hI hs _ ih=>
   intro g w e hd
   subst e
   have ha:=(hI g (by simp[solo])).1 hal
   obtain⟨g1,w1,e1,hd1⟩:=Ol hd ha hs
   exact ih e1 hd1
end
end Go.cZ
