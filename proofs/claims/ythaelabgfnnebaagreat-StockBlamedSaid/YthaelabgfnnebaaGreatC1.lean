/- Par17b Par18 Par19 Par20 Par21 Par22 -/
import Derived.Test.YthaelabgfnnebaaGreatC0
set_option maxRecDepth 100000
set_option maxHeartbeats 16000000
set_option linter.unusedVariables false
set_option linter.unusedSectionVars false
set_option linter.unusedSimpArgs false
namespace Go.cu
section
variable[Inhabited aV]
open Go.Conc
variable{P:Program}{ρ:Ren}
def Bad(P:Program)(s:GStep):Prop:=(∃o w es,s=.ended o w es)∨∃g w es,s=.go g w es∧M0 P g w
theorem jr{es:Array Event}{s:GStep}(h:Bad P s):Bad P (GStep.after es s):=by
 rcases h with⟨o,w,e,rfl⟩|⟨g,w,e,rfl,hd⟩
 ·exact .inl ⟨_,_,_,rfl⟩
 ·exact .inr ⟨_,_,_,rfl,hd⟩
theorem DF(fr:Frame)(L:List Frame)(m:String)(w:World):Bad P (endFatal P fr L none m w):=by
 unfold endFatal
 dsimp only
 split
 ·exact .inr ⟨_,_,_,rfl,⟨.inl rfl⟩⟩
 ·exact .inl ⟨_,_,_,rfl⟩
 ·exact .inl ⟨_,_,_,rfl⟩
theorem lF{fr:Frame}{L:List Frame}{s:Sem Next}{w w2:World}{e:Halt}(hk:fr.kind=.normal)(hr:s.run P w=.halt e w2)(ht:sK e)(hd:jc P w2 fr)(hL:∀c∈L,jc P w2 c):Bad P (stepG.apply P true fr L none s w):=by
 have pS:∀vs,M0 P {frame:=fr.raise vs,callers:=L,status:=.running,dying:=none } w2:=fun vs=>
  ⟨.inr (.inr ⟨rfl,rfl,(raise_mode fr vs).1,hd.raise vs,hL⟩)⟩
 have lost:∀ (o:Outcome) (w:World),Bad P (.ended o w):=fun o w=>.inl ⟨o,w,_,rfl⟩
 unfold stepG.apply
 dsimp only
 rw[if_pos rfl]
 have hT:=Sem.runT_fst P s w #[]
 rw[hr] at hT
 generalize ld:Sem.runT P s w #[]=T at hT⊢
 obtain⟨r,es⟩:=T
 simp only at hT
 subst hT
 dsimp only
 refine jr ?_
 cases e with
 | panic v=>exact .inr ⟨_,_,_,rfl,pS _⟩
 | blocked=>exact ht.elim
 | waiting=>exact ht.elim
 | exit c=>exact lost _ _
 | fatal m=>exact DF _ _ _ _
 | throw m=>exact .inr ⟨_,_,_,rfl,⟨.inl rfl⟩⟩
 | unsupported u=>
   cases u with
   | initOrder g=>exact ht.elim
   | _=>exact lost _ _
 | stuck s=>exact lost _ _
 | goexit=>exact ht.elim
theorem xA{w w':World}{a b:List Deferred}(h:dU ρ a b)(hw:WR ρ w w'):∀d∈a,vS w d:=by
 obtain⟨x,x',rfl,rfl,_,h2⟩:=h
 intro d hd
 obtain⟨r,hr,rfl⟩:=List.mem_map.1 hd
 obtain⟨i,hi,rfl⟩:=List.mem_iff_getElem.1 hr
 obtain⟨r',_,e⟩:=h2 i x[i] (by simp[hi])
 refine⟨x[i],rfl,fun ds hds=>?_⟩
 obtain⟨o,o',h1,_,h3⟩:=hw.obj _ _ e
 rw[hds] at h1
 cases h1
 cases h3 with
 | defs h=>
   rcases h with h|h
   ·cases h
   ·cases h;rfl
def NE(F:FuncId→Prop)(ρ:Ren):Next→Next→Prop
 | .enter f a,n=>∃a',n=.enter f a'∧dY ρ a a'∧F f
 | .round l f t a b,n=>∃l' t',n=.round l' f t' a b∧ρ l=some l'∧dY ρ t t'∧jh f a∧jh f b
 | _,_=>False
theorem Nt{F:FuncId→Prop}(hi:dL ρ){v v':Value}(hl:bu P F v)(hv:VR ρ v v'){a a':Array Value}(ha:dY ρ a a'):SR P (NE F) ρ (oW v a) (oW v' a'):=by
 cases hv with
 | func g e1 h1 e2 h2=>
   obtain⟨f,c,hF,hg,hb,hn⟩:=hl _ _ _ rfl
   have key:∀ (x y:Array Value),oW (.func (.func g) x y) a=callFunc g ((x ++ a) ++ y):=fun _ _=>rfl
   have key':∀ (x y:Array Value),oW (.func (.func g) x y) a'=callFunc g ((x ++ a') ++ y):=fun _ _=>rfl
   rw[key,key']
   have hbn:f.body.isNone=false:=by rw[hb];rfl
   have hargs:=(dY.append (ρ:=ρ) (dY.append ⟨e1,h1⟩ ha) ⟨e2,h2⟩)
   unfold callFunc
   refine⟨_,rfl,?_⟩
   show SR P (NE F) ρ (match P.funcs[g]? with|none=>_|some fn=>_) (match P.funcs[g]? with|none=>_|some fn=>_)
   rw[hg]
   simp only[hn,hbn,Bool.false_eq_true,if_false]
   exact SR.pure ⟨_,rfl,hargs,hF⟩
 | yield hr=>
   show SR P (NE F) ρ (Instr.yield _ (#[] ++ a)) (Instr.yield _ (#[] ++ a'))
   rw[Array.empty_append,Array.empty_append]
   refine SR.imp (fun ρ1 n n' h=>?_) hi (CX hi hr ha)
   cases n <;> first|exact h.elim|exact h
 | nilFunc=>exact aR (e:=.nilDeref) zs zs
 | _=>exact trivial
theorem Ph(hg:P.globals.size=0){F:FuncId→Prop}(hF:gJ P F)(hin:∀g,F g→P.inits.idxOf? g=none){s s':Frame × List Frame}{w w' w1:World}{e:Halt}(hst:Zg ρ s s')(ok:E9 P F s)(hw:WR ρ w w')(hl:Bn P F s.1)
 (hne:¬ (s.1.mode=.returning∧s.2=[]∧s.1.defers=[]))(h:(fT P s.1 s.2).run P w=.halt e w1):Bad P (stepG P true (G s.1 s.2) w):=by
 obtain⟨fr,L⟩:=s
 obtain⟨fr',L'⟩:=s'
 obtain⟨hfr,hL⟩:=hst
 obtain⟨ok,pI⟩:=ok
 simp only at hfr hL ok pI hl hne h⊢
 have lost:∀ (o:Outcome) (w:World),Bad P (.ended o w):=fun o w=>.inl ⟨o,w,_,rfl⟩
 have hsome:∀c,jH P F c→(P.funcs[c.fn]?).isSome=true:=fun c hc=>by
  obtain⟨f,_,h1,_⟩:=hF.sv _ hc.fn
  rw[h1];rfl
 have Bz:∀ {ρ1:Ren} {w2 w2':World},Le ρ ρ1→WR ρ1 w2 w2'→∀c∈L,jc P w2 c:=by
  intro ρ1 w2 w2' l hw2
  clear hl hne h hfr
  induction hL with
  | nil=>intro c hc;cases hc
  | cons h1 h2 ih=>
    simp only[List.forall_mem_cons] at pI⊢
    exact⟨⟨hsome _ pI.1,xA (h1.defers.mono l) hw2⟩,ih pI.2⟩
 have FN:∀ {ρ1:Ren} {w2 w2':World},Le ρ ρ1→WR ρ1 w2 w2'→jc P w2 fr:=fun l hw2=>⟨hsome _ ok,xA (hfr.defers.mono l) hw2⟩
 have hev:∀x,qj x→VR ρ (fr.eval x) (fr'.eval x):=fun x=>FT hfr
 have hi:=hw.inj
 have hsf:=hsome fr ok
 have hleave:∀jump,(kV fr L jump).run P w=.halt e w1→Bad P (iB P true fr L jump w):=by
  intro jump hh
  unfold kV at hh
  unfold iB
  cases hr:fr.roundOf with
  | none=>
    rw[hr] at hh
    dsimp only at hh⊢
    cases jump with
    | none=>simp only[Pure.pure,Sem.run] at hh;cases hh
    | some j=>
      cases j with
      | ret=>simp only[Pure.pure,Sem.run] at hh;cases hh
      | _=>rw[if_neg zs];exact lost _ _
  | some l=>
    rw[hr] at hh
    dsimp only at hh⊢
    have hT:=Sem.runT_fst P (Instr.endRound l jump) w #[]
    generalize ld:Sem.runT P (Instr.endRound l jump) w #[]=T at hT⊢
    obtain⟨r,es⟩:=T
    simp only at hT
    subst hT
    refine jr ?_
    cases hrun:(Instr.endRound l jump).run P w with
    | halt e2 w2=>exact lost _ _
    | ok v w2=>
      cases L with
      | cons c L=>exfalso;simp[Sem.run_bind,hrun,Sem.run,pure] at hh
      | nil=>
        have:=hin _ ok.fn
        simp only[doReturn,ok.kind,this,Bool.not_true,Bool.false_eq_true,if_false]
        exact lost _ _
 obtain⟨hfn,htodo,⟨dx,hd⟩,hm,hk⟩:=ok
 obtain⟨fn,tmps,todo,defers,mode,kind,roundOf⟩:=fr
 simp only at hfn htodo hd hm hk hne
 subst hk
 rcases hm with rfl|rfl
 ·unfold fT at h
  dsimp only at h
  cases todo with
  | nil=>
    have e1:stepG P true (G {fn:=fn,tmps:=tmps,todo:=[],defers:=defers,mode:=.run,kind:=.normal,roundOf:=roundOf } L) w=iB P true {fn:=fn,tmps:=tmps,todo:=[],defers:=defers,mode:=.run,kind:=.normal,roundOf:=roundOf } L none w:=by
     simp only[G,stepG,stepG.exec,iB] <;> rfl
    rw[e1];exact hleave none h
  | cons i k=>
    have ht:=htodo i zs
    cases i with
    | code c=>
      cases c with
      | ret=>
        have e1:stepG P true (G {fn:=fn,tmps:=tmps,todo:=.code .ret :: k,defers:=defers,mode:=.run,kind:=.normal,roundOf:=roundOf } L) w=iB P true {fn:=fn,tmps:=tmps,todo:=.code .ret :: k,defers:=defers,mode:=.run,kind:=.normal,roundOf:=roundOf } L (some .ret) w:=by
         simp only[G,stepG,stepG.exec,iB] <;> rfl
        rw[e1];exact hleave _ h
      | cond x a b=>
        dsimp only at h
        generalize Ff:Frame.eval {fn:=fn,tmps:=tmps,todo:=.code (.cond x a b) :: k,defers:=defers,mode:=.run,kind:=.normal,roundOf:=roundOf } x=v at h
        cases v with
        | bool b=>simp only[Pure.pure,Sem.run] at h;cases h
        | _=>simp only[G,stepG,stepG.exec,Ff];exact lost _ _
      | exit id=>
        dsimp only at h
        cases he:exitTo id k with
        | none=>
          rw[he] at h
          have e1:stepG P true (G {fn:=fn,tmps:=tmps,todo:=.code (.exit id) :: k,defers:=defers,mode:=.run,kind:=.normal,roundOf:=roundOf } L) w=iB P true {fn:=fn,tmps:=tmps,todo:=.code (.exit id) :: k,defers:=defers,mode:=.run,kind:=.normal,roundOf:=roundOf } L (some (.exit id)) w:=by
           simp only[G,stepG,stepG.exec,iB,he] <;> rfl
          rw[e1];exact hleave _ h
        | some k'=>rw[he] at h;simp only[Pure.pure,Sem.run] at h;cases h
      | region id ops draw=>
        cases draw with
        | false=>simp only[Bool.not_false,if_true,Pure.pure,Sem.run] at h;cases h
        | true=>
          simp only[Bool.not_true,Bool.false_eq_true,if_false,choose,Bind.bind,Sem.bind,Pure.pure,Sem.run] at h
          split at h <;> cases h
      | goto l=>exact ht.elim
      | rangeFunc f ps a b=>
        dsimp only at h
        have hf:=hev f ht.1
        have ej:=hl.iter f ps a b k rfl rfl
        have hent:=o9 (P:=P) hi hfr.tmps ps ((hF.env _ _).2 ⟨hfn,ht.2.1⟩) ((hF.env _ _).2 ⟨hfn,ht.2.2⟩) hfr.round
        simp only[G,stepG,stepG.exec]
        have hT:=Sem.runT_fst P (Instr.enterLoop fn tmps ps a b roundOf) w #[]
        generalize ld:Sem.runT P (Instr.enterLoop fn tmps ps a b roundOf) w #[]=T at hT⊢
        obtain⟨r,es⟩:=T
        simp only at hT
        subst hT
        refine jr ?_
        cases hrun:(Instr.enterLoop fn tmps ps a b roundOf).run P w with
        | halt e2 w2=>exact lost _ _
        | ok x w2=>
          obtain⟨ρ1,x',w2',hx,hw2,l1⟩:=hent.ok hw hrun
          obtain⟨l,mark⟩:=x
          dsimp only
          have hcs:=Nt (F:=F) hw2.inj ej (hf.mono l1) (dY.push (dY.nil ρ1) (.yield hx.1))
          have e0:(do let d ← resolve (Frame.eval {fn:=fn,tmps:=tmps,todo:=.inRangeFunc l :: k,defers:=mark ++ defers,mode:=.run,kind:=.normal,roundOf:=roundOf }) {callee:=.value f,args:=#[.const (.func (.yield l) #[] #[])],argTypes:=#[] } 0;invoke d.target d.args:Sem Next)=oW (Frame.eval {fn:=fn,tmps:=tmps,todo:=.code (.rangeFunc f ps a b) :: k,defers:=defers,mode:=.run,kind:=.normal,roundOf:=roundOf } f) #[.func (.yield l) #[] #[]]:=by
           unfold oW
           cases f <;> simp[resolve,Frame.eval]
          rw[e0]
          cases Gi:(oW (Frame.eval {fn:=fn,tmps:=tmps,todo:=.code (.rangeFunc f ps a b) :: k,defers:=defers,mode:=.run,kind:=.normal,roundOf:=roundOf } f) #[.func (.yield l) #[] #[]]).run P w2 with
          | halt e3 w3=>
            obtain⟨ρ2,w3',l2,hw3⟩:=hcs.LM hw2 Gi
            refine lF rfl Gi ((hcs.lc hw2).1 e3 w3 Gi) ⟨hsf,?_⟩ (Bz (l1.trans l2) hw3)
            exact xA (((hx.2).mono l2).append (hfr.defers.mono (l1.trans l2))) hw3
          | ok n w3=>
            exfalso
            obtain⟨ρ2,n',w3',hn,_,_⟩:=hcs.ok hw2 Gi
            simp only[Sem.run_bind,hrun] at h
            change ((Sem.run P (oW _ _) w2).andThen fun a w'=>Sem.run P (uD P _ L a) w')=_ at h
            rw[Gi] at h
            change Sem.run P (uD P _ L n) w3=_ at h
            cases n with
            | enter f args=>simp[uD,Sem.run,pure] at h
            | round l g t a b=>simp[uD,Sem.run,pure] at h
            | _=>exact hn.elim
      | refuse y=>simp only[G,stepG,stepG.exec];exact lost _ _
      | _=>simp only[Pure.pure,Sem.run] at h;cases h
    | inRegion ops l=>
      cases l with
      | nil=>simp only[Pure.pure,Sem.run] at h;cases h
      | cons j l=>
        dsimp only at h
        cases hwn:((ops[j]?).map (Region.wanted · (yielded ops tmps))).getD false with
        | false=>
          rw[hwn] at h
          simp only[Bool.false_eq_true,if_false,Pure.pure,Sem.run] at h
          cases h
        | true=>
          rw[hwn] at h
          simp only[if_true] at h
          cases ho:ops[j]? with
          | none=>rw[ho] at hwn;simp at hwn
          | some o=>
            have hwo:Region.wanted o (yielded ops tmps)=true:=by rw[ho] at hwn;exact hwn
            rw[ho] at h
            dsimp only at h
            have Ql:qh P o:=ht o (Array.mem_of_getElem? ho)
            have hnd:∀c,o.op≠.defer c:=fun c e=>by have:=Ql.2;rw[e] at this;exact this
            have hop:stepG.oper P true {fn:=fn,tmps:=tmps,todo:=.inRegion ops (j :: l) :: k,defers:=defers,mode:=.run,kind:=.normal,roundOf:=roundOf } L none w
             =stepG.apply P true {fn:=fn,tmps:=tmps,todo:=.inRegion ops (j :: l) :: k,defers:=defers,mode:=.run,kind:=.normal,roundOf:=roundOf } L none (execOp (Frame.eval {fn:=fn,tmps:=tmps,todo:=.inRegion ops (j :: l) :: k,defers:=defers,mode:=.run,kind:=.normal,roundOf:=roundOf }) o) w:=by
             simp only[stepG.oper,Frame.oper?,ho]
             split
             ·rename_i e0;exact absurd e0 (hnd _)
             ·rfl
            have hG:stepG P true (G {fn:=fn,tmps:=tmps,todo:=.inRegion ops (j :: l) :: k,defers:=defers,mode:=.run,kind:=.normal,roundOf:=roundOf } L) w
             =stepG.apply P true {fn:=fn,tmps:=tmps,todo:=.inRegion ops (j :: l) :: k,defers:=defers,mode:=.run,kind:=.normal,roundOf:=roundOf } L none (execOp (Frame.eval {fn:=fn,tmps:=tmps,todo:=.inRegion ops (j :: l) :: k,defers:=defers,mode:=.run,kind:=.normal,roundOf:=roundOf }) o) w:=by
             rw[← hop]
             simp only[G,stepG,stepG.exec,ho,hwo,Option.map_some,Option.getD_some,if_true]
            rw[hG]
            cases hpn:rF o.op with
            | true=>
              have hx:∃x,o.op=.panic x:=by cases hq:o.op <;> rw[hq] at hpn <;> first|(cases hpn;done)|exact⟨_,rfl⟩
              obtain⟨x,hx⟩:=hx
              obtain⟨e3,w3,h3,ht3,hold⟩:=GR (P:=P) (Frame.eval {fn:=fn,tmps:=tmps,todo:=.inRegion ops (j :: l) :: k,defers:=defers,mode:=.run,kind:=.normal,roundOf:=roundOf } x) w
              have hrun:(execOp (Frame.eval {fn:=fn,tmps:=tmps,todo:=.inRegion ops (j :: l) :: k,defers:=defers,mode:=.run,kind:=.normal,roundOf:=roundOf }) o).run P w=.halt e3 w3:=by
               simp only[execOp,hx,Sem.run_bind,h3]
               rfl
              have hwx:WR ρ w3 w':=⟨fun b b' eb=>by
               obtain⟨o,o',h1,h2,h3⟩:=hw.obj b b' eb
               exact⟨o,o',by rw[hold b (hw.lt eb).1];exact h1,h2,h3⟩,hw.inj⟩
              exact lF rfl hrun ht3 (FN (.refl ρ) hwx) (Bz (.refl ρ) hwx)
            | false=>
              rw[hpn] at h
              simp only[Bool.false_eq_true,if_false] at h
              have hsup:=Uj Ql hpn fun c f hc hf=>hl.op ops j l k o c f rfl rfl ho hc hf
              have hx:=wL (ev':=fr'.eval) hg hi hsup fun x hx=>hev x (Ql.1 x hx)
              cases hrun:(execOp (Frame.eval {fn:=fn,tmps:=tmps,todo:=.inRegion ops (j :: l) :: k,defers:=defers,mode:=.run,kind:=.normal,roundOf:=roundOf }) o).run P w with
              | halt e3 w3=>
                obtain⟨ρ2,w3',l2,hw3⟩:=hx.LM hw hrun
                exact lF rfl hrun ((hx.lc hw).1 e3 w3 hrun) (FN l2 hw3) (Bz l2 hw3)
              | ok n w3=>
                exfalso
                obtain⟨ρ2,n',w3',hn,_,_⟩:=hx.ok hw hrun
                simp only[Sem.run_bind,hrun] at h
                change Sem.run P (uH P _ L n) w3=_ at h
                cases n with
                | value v=>simp[uH,Sem.run,pure] at h
                | skip=>simp[uH,Sem.run,pure] at h
                | enter f args=>simp[uH,Sem.run,pure] at h
                | round l g t a b=>simp[uH,Sem.run,pure] at h
                | _=>exact hn.elim
    | inRangeFunc l=>simp only[G,stepG,stepG.exec];exact lost _ _
    | endRangeFunc l=>
      dsimp only at h
      have htd:=hfr.todo
      generalize ht':fr'.todo=td' at htd
      cases htd with
      | cons hii hkk=>
      cases hii with
      | endRangeFunc hlp=>
      have hx:=um (P:=P) hi hlp
      simp only[G,stepG,stepG.exec]
      have hT:=Sem.runT_fst P (Instr.endLoop l) w #[]
      generalize ld:Sem.runT P (Instr.endLoop l) w #[]=T at hT⊢
      obtain⟨r,es⟩:=T
      simp only at hT
      subst hT
      refine jr ?_
      cases hrun:(Instr.endLoop l).run P w with
      | ok v w2=>exfalso;simp[Sem.run_bind,hrun,Sem.run,pure] at h
      | halt e2 w2=>
        obtain⟨ρ2,w3',l2,hw3⟩:=hx.LM hw hrun
        cases e2 with
        | panic v=>exact .inr ⟨_,_,_,rfl,⟨.inr (.inr ⟨rfl,rfl,(raise_mode _ _).1,(FN l2 hw3).raise _,Bz l2 hw3⟩)⟩⟩
        | _=>exact lost _ _
    | beginRound=>
      dsimp only at h
      have hG:stepG P true (G {fn:=fn,tmps:=tmps,todo:=.beginRound :: k,defers:=defers,mode:=.run,kind:=.normal,roundOf:=roundOf } L) w=stepG.apply P true {fn:=fn,tmps:=tmps,todo:=.beginRound :: k,defers:=defers,mode:=.run,kind:=.normal,roundOf:=roundOf } L none (do Option.elim roundOf (stuck lk) Instr.beginRound;pure .skip) w:=by
       simp only[G,stepG,stepG.exec]
       rfl
      rw[hG]
      cases roundOf with
      | none=>exact lF (e:=.stuck lk) (w2:=w) rfl (by simp[Sem.run_bind,stuck,Sem.run]) trivial (FN (.refl ρ) hw) (Bz (.refl ρ) hw)
      | some l=>
        rcases hfr.round with⟨e1,_⟩|⟨l0,l',e1,e2,hl2⟩
        ·cases e1
        ·cases e1
         have hx:=nA (P:=P) hi hl2
         cases hrun:(Instr.beginRound l).run P w with
         | ok v w2=>exfalso;simp[Sem.run_bind,hrun,Sem.run,pure] at h
         | halt e2 w2=>
           obtain⟨ρ2,w3',l2,hw3⟩:=hx.LM hw hrun
           refine lF (e:=e2) (w2:=w2) rfl ?_ ((hx.lc hw).1 e2 w2 hrun) (FN l2 hw3) (Bz l2 hw3)
           simp only[Option.elim,Sem.run_bind,hrun]
           rfl
    | _=>first
      | exact(show False from ht).elim
      | (simp only[Pure.pure,Sem.run] at h;cases h)
 ·obtain⟨f,c,hf,_⟩:=hF.sv _ hfn
  unfold fT at h
  dsimp only at h
  cases dx with
  | cons r dx=>
    simp only[List.map_cons,jg] at hd
    subst hd
    dsimp only at h
    simp only[G,stepG,unwind]
    have hT:=Sem.runT_fst P (Instr.takeDeferred r) w #[]
    generalize ld:Sem.runT P (Instr.takeDeferred r) w #[]=T at hT⊢
    obtain⟨q,es⟩:=T
    simp only at hT
    subst hT
    refine jr ?_
    cases hrun:(Instr.takeDeferred r).run P w with
    | ok v w2=>exfalso;simp[Sem.run_bind,hrun,Sem.run,pure] at h
    | halt e2 w2=>exact lost _ _
  | nil=>
    simp only[List.map_nil] at hd
    subst hd
    dsimp only at h
    rw[hf] at h
    cases L with
    | nil=>exact absurd ⟨rfl,rfl,rfl⟩ hne
    | cons c0 L=>
      dsimp only at h
      simp only[G,stepG,unwind,hf]
      have hT:=Sem.runT_fst P (results f tmps) w #[]
      generalize ld:Sem.runT P (results f tmps) w #[]=T at hT⊢
      obtain⟨r,es⟩:=T
      simp only at hT
      subst hT
      refine jr ?_
      cases hrun:(results f tmps).run P w with
      | ok v w2=>exfalso;simp[Sem.run_bind,hrun,Sem.run,pure] at h
      | halt e2 w2=>cases e2 <;> exact lost _ _
theorem Tf{F:Fence}(hF:gJ P F.fn){fr:Frame}{w:World}(h:∀f,fr.about P w=some f→F.fn f)
 (hn:∀f ps a b k,fr.mode=.run→fr.todo=.code (.rangeFunc f ps a b) :: k→∃x w1,(Instr.enterLoop fr.fn fr.tmps ps a b fr.roundOf).run P w=.ok x w1):Bn P F.fn fr:=by
 refine⟨fun ops i l k o c f hm ht ho hc hf g first cap hv=>?_,fun f ps a b k hm ht g first cap hv=>?_⟩
 ·have e:fr.about P w=some g:=by
   unfold Frame.about
   dsimp only
   rw[hm,ht]
   simp only[ho,hc,resolve,hf,hv,Deferred.ofValue,pure,Sem.run,Target.leads]
  obtain⟨fc,c,h1,h2,h3,h4⟩:=hF.sv g (h g e)
  exact⟨fc,c,h g e,h1,h2,h3⟩
 ·have e:fr.about P w=some g:=by
   obtain⟨⟨l,mk⟩,w1,hx⟩:=hn f ps a b k hm ht
   unfold Frame.about
   dsimp only
   rw[hm,ht]
   simp only[hx,resolve,hv,Deferred.ofValue,pure,Sem.run,Target.leads]
  obtain⟨fc,c,h1,h2,h3,h4⟩:=hF.sv g (h g e)
  exact⟨fc,c,h g e,h1,h2,h3⟩
structure Two(P:Program)(F:FuncId→Prop)(ρ:Ren)(s:Frame × List Frame)(w:World)(s':Frame × List Frame)(w':World):Prop where
 st:Zg ρ s s'
 ok:E9 P F s
 wr:WR ρ w w'
theorem live(hg:P.globals.size=0){F:Fence}(hF:gJ P F.fn)(hin:∀g,F.fn g→P.inits.idxOf? g=none)(hal:F.alive=true){s s':Frame × List Frame}{w w' v:World}{fr:Frame}(h:Two P F.fn ρ s w s' w')
 (hp:StepsIn (Machine.fenced P F) P (solo (G s.1 s.2) w) (lone fr [] v))(hr:fr.mode=.returning):
 (s=(fr,[])∧w=v)∨(s.1.mode=.returning∧s.2=[]∧s.1.defers=[])∨
  (Bn P F.fn s.1∧∃s2 w2,(fT P s.1 s.2).run P w=.ok s2 w2∧StepsIn (Machine.fenced P F) P (solo (G s2.1 s2.2) w2) (lone fr [] v)):=by
 obtain⟨f0,L⟩:=s
 cases hp with
 | refl=>exact .inl ⟨rfl,rfl⟩
 | head hI hs hp=>
   rename_i m1
   by_cases hne:f0.mode=.returning∧L=[]∧f0.defers=[]
   ·exact .inr (.inl hne)
   refine .inr (.inr ?_)
   have hl:Bn P F.fn f0:=Tf (w:=w) hF (fun f hf=>(hI (G f0 L) (by simp[solo])).2.2.1 f hf) fun f ps a b k hm ht=>by
    cases hx:(Instr.enterLoop f0.fn f0.tmps ps a b f0.roundOf).run P w with
    | ok x w1=>exact⟨x,w1,rfl⟩
    | halt e w1=>
      exfalso
      obtain⟨fn,tmps,todo,defers,mode,kind,roundOf⟩:=f0
      simp only at hm ht hx
      subst hm
      subst ht
      have hT:=Sem.runT_fst P (Instr.enterLoop fn tmps ps a b roundOf) w #[]
      rw[hx] at hT
      have e1:∃o es,stepG P true (G {fn:=fn,tmps:=tmps,todo:=.code (.rangeFunc f ps a b) :: k,defers:=defers,mode:=.run,kind:=kind,roundOf:=roundOf } L) w=.ended o w1 es:=by
       simp only[G,stepG,stepG.exec]
       generalize Sem.runT P (Instr.enterLoop fn tmps ps a b roundOf) w #[]=T at hT⊢
       obtain⟨r,es⟩:=T
       simp only at hT
       subst hT
       exact⟨_,_,rfl⟩
      obtain⟨o,es,e1⟩:=e1
      rw[step,stepT_solo rfl,aY e1] at hs
      cases hs
   refine⟨hl,?_⟩
   cases hrun:(fT P f0 L).run P w with
   | ok s2 w2=>
     refine⟨s2,w2,rfl,?_⟩
     have hT:=Sem.runT_fst P (fT P f0 L) w #[]
     obtain⟨es',hstep,_⟩:=xV (cs:=[]) (main:=true) h.ok.1 (show(fT P f0 L).runT P w #[]=(.ok s2 w2,((fT P f0 L).runT P w #[]).2) by rw[← hrun,← hT])
     simp only[List.append_nil] at hstep
     rw[step,stepT_solo rfl,runT_solo_go hstep] at hs
     cases hs
     exact hp
   | halt e w1=>
     exfalso
     have hb:=Ph hg hF hin (s:=(f0,L)) h.st h.ok h.wr hl hne hrun
     rw[step,stepT_solo rfl] at hs
     rcases hb with⟨o,w2,es,e1⟩|⟨g,w2,es,e1,hd⟩
     ·rw[aY e1] at hs;cases hs
     ·rw[runT_solo_go e1] at hs
      cases hs
      obtain⟨g1,w3,e3,hd3⟩:=NM hal hp rfl hd
      have eg:g1={frame:=fr,callers:=[],status:=.running,dying:=none }:=by
       have:=congrArg Machine.gs e3
       simp only[lone,solo] at this
       exact(Array.singleton_inj.1 this).symm
      subst eg
      rcases hd3.cases with c|c|⟨_,_,⟨chain,c⟩,_⟩
      ·cases c
      ·rcases c with c|c|c <;> cases c
      ·simp only at c;rw[hr] at c;cases c
end
section
variable[Inhabited aV]
open Go.Conc
variable{P:Program}
abbrev St:=(Frame × List Frame) × World
def QU(P:Program)(a b:St):Prop:=(fT P a.1.1 a.1.2).run P a.2=.ok b.1 b.2
def tK(a:St)(τ:Tape):St:=(a.1,on a.2 τ)
def Rl(P:Program)(F:FuncId→Prop)(a:St):Prop:=Bn P F a.1.1∧∃ρ s' w',Two P F ρ a.1 a.2 s' w'
def lC(P:Program)(F:FuncId→Prop)(b a:St):Prop:=∃τ:Tape,Rl P F a∧(∀j,j<a.2.drawn→τ j=a.2.tape j)∧QU P (tK a τ) b
inductive Q8 (P:Program) (F:FuncId→Prop) (s0:St):St→Prop
 | refl:Q8 P F s0 s0
 | step {a b:St}:Q8 P F s0 a→lC P F b a→Q8 P F s0 b
theorem Two.on{F:FuncId→Prop}{ρ:Ren}{s s':Frame × List Frame}{w w':World}(h:Two P F ρ s w s' w')(τ:Tape):Two P F ρ s (on w τ) s' w':=⟨h.st,h.ok,⟨h.wr.obj,h.wr.inj⟩⟩
theorem loc(hg:P.globals.size=0){F:FuncId→Prop}(hF:gJ P F){a b:St}{τ:Tape}(hr:Rl P F a)(h:QU P (tK a τ) b):
 b.2.tape=τ∧a.2.drawn≤b.2.drawn∧∀σ:Tape,(∀j,j<b.2.drawn→σ j=τ j)→QU P (tK a σ) (tK b σ):=by
 obtain⟨hl,ρ,s',w',ht⟩:=hr
 have hlc:=(Cx hg hF ht.wr.inj ht.st ht.ok hl).lc (ht.on τ).wr
 obtain⟨h1,h2,h3⟩:=hlc.2 b.1 b.2 h
 exact⟨h1,h2,fun σ hσ=>h3 σ fun j _ hj=>hσ j hj⟩
def Way(P:Program)(F:Fence)(Post:Frame→World→Prop)(a:St):Prop:=
 ∃fr v,StepsIn (Machine.fenced P F) P (solo (G a.1.1 a.1.2) a.2) (lone fr [] v)∧fr.mode=.returning∧fr.defers=[]∧Post fr v
theorem fj{fr:Frame}(h:fr.mode=.returning)(hd:fr.defers=[]){w:World}{b:St}:¬ QU P ((fr,[]),w) b:=by
 intro hg
 unfold QU fT at hg
 simp only[h,hd] at hg
 split at hg
 ·simp_all
 ·simp only[stuck,Sem.run] at hg;cases hg
theorem yI(hg:P.globals.size=0){F:Fence}(hF:gJ P F.fn)(hin:∀g,F.fn g→P.inits.idxOf? g=none)(hal:F.alive=true){Post:Frame→World→Prop}{s0:St}(H:∀σ:Tape,Way P F Post (tK s0 σ)):
 ∀ {u:St},Q8 P F.fn s0 u→∀σ:Tape,(∀j,j<u.2.drawn→σ j=u.2.tape j)→Way P F Post (tK u σ):=by
 intro u h
 induction h with
 | refl=>intro σ _;exact H σ
 | @step a b _ hs ih=>
   intro σ hσ
   obtain⟨τ,hrl,hτ,hgo⟩:=hs
   obtain⟨e1,e2,e3⟩:=loc hg hF hrl hgo
   have Sm:=e3 σ fun j hj=>(hσ j hj).trans (by rw[e1])
   obtain⟨fr,v,hp,hm,hdf,hpost⟩:=ih σ fun j hj=>by
    have:=hσ j (Nat.lt_of_lt_of_le hj e2)
    rw[e1] at this
    rw[this];exact hτ j hj
   obtain⟨hl,ρ,s',w',ht⟩:=hrl
   rcases live hg hF hin hal (ht.on σ) hp hm with⟨ea,_⟩|⟨em,eL,ed⟩|⟨_,s2,w2,er,hp2⟩
   ·exfalso
    have:tK a σ=((fr,[]),on a.2 σ):=by simp only[tK,← ea]
    rw[this] at Sm
    exact fj hm hdf Sm
   ·exfalso
    have:tK a σ=((a.1.1,[]),on a.2 σ):=by simp only[tK,← eL]
    rw[this] at Sm
    exact fj em ed Sm
   ·have ZG:(fT P a.1.1 a.1.2).run P (on a.2 σ)=.ok b.1 (on b.2 σ):=Sm
    rw[er] at ZG
    cases ZG
    exact⟨fr,v,hp2,hm,hdf,hpost⟩
theorem KE{F:FuncId→Prop}{a b:St}(ok:jH P F a.1.1)(h:QU P a b):step P (solo (G a.1.1 a.1.2) a.2)=.next (solo (G b.1.1 b.1.2) b.2):=by
 have hT:=Sem.runT_fst P (fT P a.1.1 a.1.2) a.2 #[]
 unfold QU at h
 obtain⟨es',hstep,_⟩:=xV (cs:=[]) (main:=true) ok (show(fT P a.1.1 a.1.2).runT P a.2 #[]=(.ok b.1 b.2,((fT P a.1.1 a.1.2).runT P a.2 #[]).2) by rw[← h,← hT])
 simp only[List.append_nil] at hstep
 rw[step,stepT_solo rfl,runT_solo_go hstep]
theorem Jc(hg:P.globals.size=0){F:Fence}(hF:gJ P F.fn)(hin:∀g,F.fn g→P.inits.idxOf? g=none)(hal:F.alive=true){Post:Frame→World→Prop}{s0:St}(H:∀σ:Tape,Way P F Post (tK s0 σ)):Acc (lC P F.fn) s0:=by
 refine Classical.byContradiction fun hn=>?_
 have next:∀a:{a:St // ¬ Acc (lC P F.fn) a },∃b:{a:St // ¬ Acc (lC P F.fn) a },lC P F.fn b.1 a.1:=fun a=>by
  refine Classical.byContradiction fun h=>a.2 ⟨a.1,fun b hb=>Classical.byContradiction fun hb2=>h ⟨⟨b,hb2⟩,hb⟩⟩
 let f:Nat→{a:St // ¬ Acc (lC P F.fn) a }:=fun n=>Nat.rec ⟨s0,hn⟩ (fun _ a=>Classical.choose (next a)) n
 have hf:∀i,lC P F.fn (f (i+1)).1 (f i).1:=fun i=>Classical.choose_spec (next (f i))
 have mono:∀i,(f i).1.2.drawn≤(f (i+1)).1.2.drawn:=fun i=>by
  obtain⟨τ,hrl,hτ,hgo⟩:=hf i
  exact(loc hg hF hrl hgo).2.1
 have TP:∀i j,j<(f i).1.2.drawn→(f (i+1)).1.2.tape j=(f i).1.2.tape j:=fun i j hj=>by
  obtain⟨τ,hrl,hτ,hgo⟩:=hf i
  rw[(loc hg hF hrl hgo).1];exact hτ j hj
 have mono':∀i k,(f i).1.2.drawn≤(f (i+k)).1.2.drawn:=fun i k=>by
  induction k with
  | zero=>exact Nat.le_refl _
  | succ k ih=>exact Nat.le_trans ih (mono (i+k))
 have same:∀i k j,j<(f i).1.2.drawn→(f (i+k)).1.2.tape j=(f i).1.2.tape j:=fun i k j hj=>by
  induction k with
  | zero=>rfl
  | succ k ih=>exact(TP (i+k) j (Nat.lt_of_lt_of_le hj (mono' i k))).trans ih
 classical
 let σ:Tape:=fun j=>if h:∃i,j<(f i).1.2.drawn then(f (Classical.choose h)).1.2.tape j else fun _=>0
 have hσ:∀i j,j<(f i).1.2.drawn→σ j=(f i).1.2.tape j:=fun i j hj=>by
  have hx:∃i,j<(f i).1.2.drawn:=⟨i,hj⟩
  have e:σ j=(f (Classical.choose hx)).1.2.tape j:=dif_pos hx
  rw[e]
  have hc:=Classical.choose_spec hx
  generalize Classical.choose hx=c at hc
  rcases Nat.le_total c i with l|l
  ·obtain⟨k,rfl⟩:=Nat.exists_eq_add_of_le l
   exact(same c k j hc).symm
  ·obtain⟨k,rfl⟩:=Nat.exists_eq_add_of_le l
   exact same i k j hj
 have go:∀i,QU P (tK (f i).1 σ) (tK (f (i+1)).1 σ)∧jH P F.fn (f i).1.1.1:=fun i=>by
  obtain⟨τ,hrl,hτ,hgo⟩:=hf i
  obtain⟨e1,e2,e3⟩:=loc hg hF hrl hgo
  refine⟨e3 σ fun j hj=>by rw[hσ (i+1) j hj,e1],?_⟩
  obtain⟨_,_,_,_,ht⟩:=hrl
  exact ht.ok.1
 obtain⟨fr,v,hp,hm,hdf,_⟩:=H σ
 have key:∀ {m m':Machine},StepsIn (Machine.fenced P F) P m m'→∀i,m=solo (G (tK (f i).1 σ).1.1 (tK (f i).1 σ).1.2) (tK (f i).1 σ).2→m'≠lone fr [] v:=by
  intro m m' h
  induction h with
  | refl m=>
    rintro i e e2
    rw[e] at e2
    have eg:=congrArg Machine.gs e2
    simp only[lone,solo] at eg
    have eg:=Array.singleton_inj.1 eg
    have e3:(tK (f i).1 σ).1.1=fr:=congrArg Goroutine.frame eg
    have e4:(tK (f i).1 σ).1.2=[]:=congrArg Goroutine.callers eg
    have hgo:=(go i).1
    have:tK (f i).1 σ=((fr,[]),(tK (f i).1 σ).2):=by rw[← e3,← e4]
    rw[this] at hgo
    exact fj hm hdf hgo
  | head hI hs _ ih=>
    rintro i e
    subst e
    rw[KE (a:=tK (f i).1 σ) (go i).2 (go i).1] at hs
    cases hs
    exact ih (i+1) rfl
 exact key hp 0 rfl rfl
def Keeps(C O:Nat→Prop)(w w2:World):Prop:=∀b,O b∨C b→w2.heap[b]? =w.heap[b]?
structure Did(C O O1:Nat→Prop)(w w1:World)(new:List Event):Prop where
 tape:w1.tape=w.tape
 os:w1.os=w.os
 output:w1.output=w.output
 size:w.heap.size≤w1.heap.size
 other:∀b,b<w.heap.size→¬ O b→w1.heap[b]? =w.heap[b]?
 own:∀b,O1 b↔O b∨(w.heap.size≤b∧b<w1.heap.size)
 evs:∀e∈new,Qu O1 C e
theorem Ran.did{C O O1:Nat→Prop}{ρ ρ1:Ren}{w w1 v v1:World}{new:List Event}(h:Ran C O O1 ρ ρ1 w w1 v v1 new):Did C O O1 v v1 new:=⟨h.tape,h.os,h.output,h.size,h.other,h.own,h.evs⟩
inductive yZ (P:Program) (F:FuncId→Prop) (C:Nat→Prop) (Q:Frame→World→(Nat→Prop)→Prop):Frame × List Frame→World→(Nat→Prop)→Prop
 | done {fr:Frame} {w:World} {O:Nat→Prop}:jH P F fr→fr.mode=.returning→fr.defers=[]→(∀w2,Keeps C O w w2→Q fr w2 O)→yZ P F C Q (fr,[]) w O
 | step {s:Frame × List Frame} {w:World} {O:Nat→Prop} (X:Frame × List Frame→World→(Nat→Prop)→Prop):jH P F s.1→(s.1.mode=.returning→s.2=[]→s.1.defers≠[])→
  (∀w2,Keeps C O w w2→∃s2 w3 O2 new,(fT P s.1 s.2).runT P w2 #[]=(.ok s2 w3,List.toArray new)∧Did C O O2 w2 w3 new∧X s2 w3 O2)→(∀s2 w3 O2,X s2 w3 O2→yZ P F C Q s2 w3 O2)→yZ P F C Q s w O
theorem NQ{F:FuncId→Prop}(hF:gJ P F)(hin:∀g,F g→P.inits.idxOf? g=none){fr:Frame}(ok:jH P F fr)(hm:fr.mode=.returning)(hd:fr.defers=[]){w:World}{m1:Machine}:step P (solo (G fr []) w)≠.next m1:=by
 intro hs
 obtain⟨f,c,hf,_⟩:=hF.sv _ ok.fn
 rw[step,stepT_solo rfl] at hs
 have hT:=Sem.runT_fst P (results f fr.tmps) w #[]
 have e:stepG P true (G fr []) w=unwind P true fr [] none w:=by simp[G,stepG,hm]
 have:∃o w2 es,stepG P true (G fr []) w=.ended o w2 es:=by
  rw[e]
  simp only[unwind,hd,hm,hf]
  generalize ld:Sem.runT P (results f fr.tmps) w #[]=T at hT⊢
  obtain⟨r,es⟩:=T
  dsimp only
  cases r with
  | ok v w2=>
    simp only[doReturn,ok.kind,hin _ ok.fn,Bool.not_true,Bool.false_eq_true,if_false]
    exact⟨_,_,_,rfl⟩
  | halt h w2=>cases h <;> exact⟨_,_,_,rfl⟩
 obtain⟨o,w2,es,e2⟩:=this
 rw[aY e2] at hs
 cases hs
theorem ko.ok{a b:Item}{ρ:Ren}(h:ko ρ a b)(k:kQ P a):kQ P b:=by cases h <;> exact k
theorem fE.ok{a b:List Item}{ρ:Ren}(h:fE ρ a b)(k:∀i∈a,kQ P i):∀i∈b,kQ P i:=by
 induction h with
 | nil=>exact k
 | cons h _ ih=>
   simp only[List.forall_mem_cons] at k⊢
   exact⟨h.ok k.1,ih k.2⟩
theorem Bj.T6{F:FuncId→Prop}{ρ:Ren}{a b:Frame}(h:Bj ρ a b)(k:jH P F a):jH P F b:=by
 refine⟨by rw[h.fn];exact k.fn,h.todo.ok k.todo,?_,by rw[h.mode];exact k.mode,by rw[h.kind];exact k.kind⟩
 obtain⟨x,x',_,e,_⟩:=h.defers
 exact⟨x',e⟩
theorem dU.Mq{a b:List Deferred}{ρ:Ren}(h:dU ρ a b):b=[]↔a=[]:=by
 obtain⟨x,x',rfl,rfl,e,_⟩:=h
 cases x <;> cases x' <;> simp_all
theorem WR.keeps{C O:Nat→Prop}{ρ:Ren}{w w' w2:World}(h:WR ρ w w')(hc:∀b b',ρ b=some b'→(Fz w b∧C b')∨O b')(k:Keeps C O w' w2):WR ρ w w2:=by
 refine⟨fun b b' e=>?_,h.inj⟩
 obtain⟨o,o',h1,h2,h3⟩:=h.obj b b' e
 refine⟨o,o',h1,?_,h3⟩
 rw[k b' ((hc b b' e).elim (fun x=>.inr x.2) .inl)];exact h2
theorem Xv(hg:P.globals.size=0){F:Fence}(hF:gJ P F.fn)(hin:∀g,F.fn g→P.inits.idxOf? g=none)(hal:F.alive=true){Post:Frame→World→Prop}{C:Nat→Prop}{Q:Frame→World→(Nat→Prop)→Prop}{s0:St}{ρ0:Ren}(H:∀σ:Tape,Way P F Post (tK s0 σ))
 (hQ:∀ρ fr w fr' w2 O,Le ρ0 ρ→Post fr w→Bj ρ fr fr'→WR ρ w w2→(∀b b',ρ b=some b'→(Fz w b∧C b')∨O b')→Q fr' w2 O):
 ∀ {a:St},Acc (lC P F.fn) a→Q8 P F.fn s0 a→∀ {ρ:Ren} {s':Frame × List Frame} {w':World} {O:Nat→Prop},Two P F.fn ρ a.1 a.2 s' w'→(∀b b',ρ b=some b'→(Fz a.2 b∧C b')∨O b')→Le ρ0 ρ→yZ P F.fn C Q s' w' O:=by
 intro a ha
 induction ha with
 | intro a _ ih=>
 intro ey ρ s' w' O ht hc hle
 have Su:s'.1.mode=a.1.1.mode:=ht.st.1.mode
 have eqd:s'.1.defers=[]↔a.1.1.defers=[]:=ht.st.1.defers.Mq
 have eql:a.1.2=[]↔s'.2=[]:=by
  have hL:=ht.st.2
  generalize a.1.2=x at hL⊢
  generalize s'.2=y at hL⊢
  cases hL <;> simp
 by_cases hend:a.1.1.mode=.returning∧a.1.2=[]∧a.1.1.defers=[]
 ·obtain⟨f',L'⟩:=s'
  have hL':L'=[]:=eql.1 hend.2.1
  subst hL'
  refine .done (ht.st.1.T6 ht.ok.1) (Su.trans hend.1) (eqd.2 hend.2.2) fun w2 hk=>?_
  obtain⟨fr,v,hp,hm,hdf,hpost⟩:=yI hg hF hin hal H ey a.2.tape fun _ _=>rfl
  have ea:tK a a.2.tape=a:=rfl
  rw[ea] at hp
  have:a.1=(fr,[])∧a.2=v:=by
   obtain⟨⟨f0,L⟩,w0⟩:=a
   obtain⟨e1,e2,e3⟩:=hend
   simp only at e1 e2 e3 hp
   subst e2
   generalize hm0:solo (G f0 []) w0=m0 at hp
   generalize hm1:lone fr [] v=m1 at hp
   cases hp with
   | refl=>
     subst hm0
     have eg:=congrArg Machine.gs hm1
     simp only[lone,solo] at eg
     have ef:fr=f0:=congrArg Goroutine.frame (Array.singleton_inj.1 eg)
     have ew:v=w0:=congrArg Machine.world hm1
     exact⟨by rw[ef],ew.symm⟩
   | head hI hs hp=>subst hm0;exact absurd hs (NQ hF hin ht.ok.1 e1 e3)
  obtain⟨e1,e2⟩:=this
  subst e2
  have hfr:=ht.st.1
  rw[e1] at hfr
  exact hQ ρ fr a.2 f' w2 O hle hpost hfr (ht.wr.keeps hc hk) hc
 ·refine .step (fun s2 w3 O2=>∃ρ1 b,Two P F.fn ρ1 b.1 b.2 s2 w3∧(∀x x',ρ1 x=some x'→(Fz b.2 x∧C x')∨O2 x')∧lC P F.fn b a∧Le ρ0 ρ1) (ht.st.1.T6 ht.ok.1) (fun hm hL hd=>hend ⟨Su.symm.trans hm,eql.2 hL,eqd.1 hd⟩) (fun w2 hk=>?_) ?_
  rotate_left
  ·rintro s2 w3 O2 ⟨ρ1,b,h1,h2,h3,h4⟩
   exact ih b h3 (.step ey h3) h1 h2 h4
  let τ:Tape:=fun j=>if j<a.2.drawn then a.2.tape j else w2.tape (j - a.2.drawn+w2.drawn)
  have hτ:∀j,j<a.2.drawn→τ j=a.2.tape j:=fun j hj=>if_pos hj
  obtain⟨fr,v,hp,hm,hdf,hpost⟩:=yI hg hF hin hal H ey τ hτ
  have Zx:¬ ((tK a τ).1.1.mode=.returning∧(tK a τ).1.2=[]∧(tK a τ).1.1.defers=[]):=hend
  rcases live hg hF hin hal (ht.on τ) hp hm with⟨ea,_⟩|em|⟨hl,s2,w3,er,_⟩
  ·exact absurd ⟨by show a.1.1.mode=_;rw[ea];exact hm,by show a.1.2=_;rw[ea],by show a.1.1.defers=_;rw[ea];exact hdf⟩ Zx
  ·exact absurd em Zx
  have hw2:WR ρ (on a.2 τ) w2:=⟨(ht.wr.keeps hc hk).obj,ht.wr.inj⟩
  have eE:ku (on a.2 τ) w2:=fun k q=>by
   show τ (a.2.drawn+k) q=_
   simp only[τ]
   rw[if_neg zo]
   rw[show a.2.drawn+k - a.2.drawn+w2.drawn=w2.drawn+k by omega]
  obtain⟨ρ1,s3,w4,O2,new,h1,h2,h3⟩:=SR.runT (es:=#[]) (Cx hg hF ht.wr.inj ht.st ht.ok hl) hw2 eE hc er
  refine⟨s3,w4,O2,new,by simpa using h1,h3.did,?_⟩
  have hsucc:lC P F.fn (s2,w3) a:=⟨τ,⟨hl,ρ,s',w',ht⟩,hτ,er⟩
  exact⟨ρ1,(s2,w3),⟨h2.1,h2.2,h3.wr⟩,h3.cl,hsucc,hle.trans h3.le⟩
def lL(C O:Nat→Prop)(ρ:Ren)(w:World):Prop:=∀b b',ρ b=some b'→(Fz w b∧C b')∨O b'
def Gives(P:Program)(C:Nat→Prop)(ρ0:Ren)(f:FuncId)(R:Value→World→Prop)(fr':Frame)(w2:World)(O:Nat→Prop):Prop:=
 fr'.fn=f∧fr'.defers=[]∧fr'.kind=.normal∧fr'.mode=.returning∧∃fn ρ1 v v' w w3 O3 new,P.funcs[f]? =some fn∧(results fn fr'.tmps).runT P w2 #[]=(.ok v' w3,List.toArray new)∧R v w∧VR ρ1 v v'∧WR ρ1 w w3∧Le ρ0 ρ1∧Did C O O3 w2 w3 new∧lL C O3 ρ1 w
theorem uW(hg:P.globals.size=0){F:Fence}(hF:gJ P F.fn)(hin:∀g,F.fn g→P.inits.idxOf? g=none)(hal:F.alive=true){n:Nat}(hroom:F.room (1+n)){f:FuncId}{args args':Array Value}{w w':World}{R:Value→World→Prop}
 (H:∀σ:Tape,CallsIn F n P f args (on w σ) (fun e v=>∃x,e=.returned x∧R x v)){ρ:Ren}{C O:Nat→Prop}(ha:dY ρ args args')(hw:WR ρ w w')(hc:lL C O ρ w):
 yZ P F.fn C (Gives P C ρ f R) (Frame.enter P f args' .normal,[]) w' O:=by
 have hf:F.fn f:=(H w.tape).1
 let Post:Frame→World→Prop:=fun fr v=>fr.fn=f∧∃x,R x v∧fr.leaving P v (.returned x)
 have HW:∀σ:Tape,Way P F Post (tK ((Frame.enter P f args .normal,[]),w) σ):=fun σ=>by
  obtain⟨e,v,fr,⟨x,rfl,hR⟩,hp,hfn,hl⟩:=(H σ).2 [] (by simpa using hroom)
  exact⟨fr,v,hp,hl.1,hl.2.1,hfn,x,hR,hl⟩
 have hacc:=Jc hg hF hin hal HW
 have ht:Two P F.fn ρ (Frame.enter P f args .normal,[]) w (Frame.enter P f args' .normal,[]) w':=⟨⟨sP ha,.nil⟩,⟨wJ hF hf _,zs⟩,hw⟩
 refine Xv (ρ0:=ρ) hg hF hin hal HW ?_ hacc .refl ht hc (.refl ρ)
 rintro ρ1 fr v fr' w2 O1 hle ⟨hfn,x,hR,hm,hd,hk,fn,hfs,hres⟩ hfr hwr hcl
 refine⟨hfr.fn.trans hfn,hfr.defers.Mq.2 hd,hfr.kind.trans hk,hfr.mode.trans hm,?_⟩
 have hsr:=uI (P:=P) hwr.inj fn hfr.tmps
 let τ:Tape:=fun j=>w2.tape (j - v.drawn+w2.drawn)
 obtain⟨_,_,h3⟩:=(hsr.lc hwr).2 x v hres
 have hrun:=h3 τ fun j h1 h2=>zo
 have hw2:WR ρ1 (on v τ) w2:=⟨hwr.obj,hwr.inj⟩
 have eE:ku (on v τ) w2:=fun k q=>by
  show w2.tape (v.drawn+k - v.drawn+w2.drawn) q=_
  rw[show v.drawn+k - v.drawn+w2.drawn=w2.drawn+k by omega]
 obtain⟨ρ2,v',w3,O3,new,r1,r2,r3⟩:=SR.runT (C:=C) (O:=O1) (es:=#[]) hsr hw2 eE hcl hrun
 rw[hfn] at hfs
 exact⟨fn,ρ2,x,v',v,w3,O3,new,hfs,by simpa using r1,hR,r2,⟨r3.wr.obj,r3.wr.inj⟩,hle.trans r3.le,r3.did,r3.cl⟩
end
section
variable[Inhabited aV]
open Go.Conc
variable{P:Program}{F:FuncId→Prop}{C:Nat→Prop}{Q:Frame→World→(Nat→Prop)→Prop}
theorem Keeps.refl(C O:Nat→Prop)(w:World):Keeps C O w w:=fun _ _=>rfl
theorem Keeps.trans{O:Nat→Prop}{w w1 w2:World}(h:Keeps C O w w1)(k:Keeps C O w1 w2):Keeps C O w w2:=fun b hb=>(k b hb).trans (h b hb)
theorem yZ.keeps{s:Frame × List Frame}{w w2:World}{O:Nat→Prop}(h:yZ P F C Q s w O)(k:Keeps C O w w2):yZ P F C Q s w2 O:=by
 cases h with
 | done h1 h2 SD h3=>exact .done h1 h2 SD fun w3 k3=>h3 w3 (k.trans k3)
 | step X h1 h2 h3 h4=>exact .step X h1 h2 (fun w3 k3=>h3 w3 (k.trans k3)) h4
open Classical in
noncomputable def view(C O:Nat→Prop)(w:World):Nat→Option Obj:=fun b=>if O b∨C b then w.heap[b]? else none
theorem KT{O:Nat→Prop}{w w2:World}(k:Keeps C O w w2):view C O w2=view C O w:=by
 funext b
 unfold view
 split
 ·rename_i h;exact k b h
 ·rfl
theorem xu{O:Nat→Prop}{w w2:World}(e:view C O w2=view C O w):Keeps C O w w2:=fun b hb=>by
 have:=congrFun e b
 unfold view at this
 rwa[if_pos hb,if_pos hb] at this
structure PS where
 s:Frame × List Frame
 O:Nat→Prop
 v:Nat→Option Obj
noncomputable def ps(C:Nat→Prop)(s:Frame × List Frame)(w:World)(O:Nat→Prop):PS:=⟨s,O,view C O w⟩
def nq(P:Program)(C:Nat→Prop)(y x:PS):Prop:=
 ∃w2 w3 new,view C x.O w2=x.v∧(fT P x.s.1 x.s.2).runT P w2 #[]=(.ok y.s w3,List.toArray new)∧Did C x.O y.O w2 w3 new∧y.v=view C y.O w3
def Rank(P:Program)(C:Nat→Prop):={x:PS // Acc (nq P C) x }
def kS(P:Program)(C:Nat→Prop)(y x:Rank P C):Prop:=nq P C y.1 x.1
theorem Ck(P:Program)(C:Nat→Prop):WellFounded (kS P C):=⟨fun⟨x,hx⟩=>by
 induction hx with
 | intro x hx ih=>exact⟨_,fun y hy=>ih y.1 hy⟩⟩
end
end Go.cu
