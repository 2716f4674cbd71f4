/- Crew21 -/
import Derived.Test.YtmjjocnfidnelaaGreatB3
set_option maxRecDepth 100000
set_option maxHeartbeats 16000000
set_option linter.unusedVariables false
set_option linter.unusedSectionVars false
namespace Go.aQ
section
open Go.Conc Go.ConcN Go.cZ Go.Conc.Lib
open Go.ConcR (WgAt stA smA rd wr Payload)
variable[Inhabited aZ]
section
variable{P:Program}{main:Bool}{C O:Nat→Prop}{V:World→Prop}{K:Goroutine→World→(Nat→Prop)→Prop}{b:Frame}{a:Act}{k:List Item}{cs:List Frame}{w:World}{ops:Array Oper}{i:Nat}{rest:List Nat}{o:Oper}
theorem listed_nil{w2:World}(he:(execOp a.eval o).events P w2 #[]=#[]):listed P b.fn a o w2=#[]:=by
 unfold listed;rw[he];exact seen_none P _
theorem EY{v:Value}(ho:ops[i]? =some o)(hw:Region.wanted o (yielded ops a.tmps)=true)(hk:b.kind≠.early)(hr:∀w2:World,(execOp a.eval o).run P w2=.ok (.value v) w2)(he:∀w2:World,(execOp a.eval o).events P w2 #[]=#[])
 (h:Wk P main C V K (G (b.at (a.put o.dst v) (.inRegion ops rest :: k)) cs) w O):Wk P main C V K (G (b.at a (.inRegion ops (i :: rest) :: k)) cs) w O:=
 Wk.idle rfl (fun w2 _=>by rw[stepG_value ho hw hk (hr w2),listed_nil (he w2)]) h
theorem wK{v:Value}{ad:Addr}(ho:ops[i]? =some o)(hw:Region.wanted o (yielded ops a.tmps)=true)(hk:b.kind≠.early)(hb:O ad.block∨C ad.block)
 (hr:∀w2:World,Keeps C O w w2→V w2→(execOp a.eval o).run P w2=.ok (.value v) w2∧listed P b.fn a o w2=#[⟨.cell ad,false,false⟩])
 (h:Wk P main C V K (G (b.at (a.put o.dst v) (.inRegion ops rest :: k)) cs) w O):Wk P main C V K (G (b.at a (.inRegion ops (i :: rest) :: k)) cs) w O:=
 .step (fun g2 w3 O2=>g2=G (b.at (a.put o.dst v) (.inRegion ops rest :: k)) cs∧O2=O∧Keeps C O w w3) rfl (fun w2 k2 v2=>by
  obtain⟨h1,h2⟩:=hr w2 k2 v2
  refine⟨_,w2,O,_,stepG_value ho hw hk h1,?_,rfl,rfl,k2⟩
  rw[h2]
  exact⟨rfl,rfl,rfl,Nat.le_refl _,fun _ _ _=>rfl,fun b=>⟨.inl,fun h=>h.elim id fun⟨x,y⟩=>absurd y zo⟩,fun e he=>by
   simp only[List.mem_singleton] at he
   subst he
   exact .inr ⟨rfl,.inl ⟨ad,rfl,hb.imp id fun h=>⟨rfl,h⟩⟩⟩⟩)
  fun g2 w3 O2 ⟨e1,e2,k2⟩=>by subst e1;subst e2;exact h.keeps k2
theorem Vu{obj:Obj}(ho:ops[i]? =some o)(hw:Region.wanted o (yielded ops a.tmps)=true)(hk:b.kind≠.early)
 (hr:∀w2:World,(execOp a.eval o).run P w2=.ok (.value (.pointer (some ⟨w2.heap.size,0,none⟩))) (w2.alloc obj))(he:∀w2:World,(execOp a.eval o).events P w2 #[]=#[])
 (h:∀w2,Keeps C O w w2→V w2→Wk P main C V K (G (b.at (a.put o.dst (.pointer (some ⟨w2.heap.size,0,none⟩))) (.inRegion ops rest :: k)) cs) (w2.alloc obj) (fun b=>O b∨b=w2.heap.size)):
 Wk P main C V K (G (b.at a (.inRegion ops (i :: rest) :: k)) cs) w O:=
 .step (fun g2 w3 O2=>∃w2,Keeps C O w w2∧V w2∧g2=G (b.at (a.put o.dst (.pointer (some ⟨w2.heap.size,0,none⟩))) (.inRegion ops rest :: k)) cs∧w3=w2.alloc obj∧O2=fun b=>O b∨b=w2.heap.size) rfl (fun w2 k2 v2=>by
  refine⟨_,_,fun b=>O b∨b=w2.heap.size,_,stepG_value ho hw hk (hr w2),?_,w2,k2,v2,rfl,rfl,rfl⟩
  rw[listed_nil (he w2)]
  have hsz:(w2.alloc obj).heap.size=w2.heap.size+1:=by show(w2.heap.push obj).size=_;exact Array.size_push ..
  refine⟨rfl,rfl,rfl,by rw[hsz];omega,fun b hb _=>?_,fun b=>⟨fun h=>h.imp id fun h=>?_,fun h=>h.imp id fun⟨x,y⟩=>?_⟩,fun e he=>by simp at he⟩
  ·show(w2.heap.push obj)[b]? =_
   rw[Array.getElem?_push,if_neg (Nat.ne_of_lt hb)]
  ·subst h;rw[hsz];exact⟨Nat.le_refl _,Nat.lt_succ_self _⟩
  ·rw[hsz] at y;omega)
  fun g2 w3 O2 ⟨w2,k2,v2,e1,e2,e3⟩=>by subst e1;subst e2;subst e3;exact h w2 k2 v2
theorem Vy{v:Value}{ad:Addr}(ho:ops[i]? =some o)(hw:Region.wanted o (yielded ops a.tmps)=true)(hk:b.kind≠.early)(hb:O ad.block)
 (hr:∀w2:World,Keeps C O w w2→V w2→(execOp a.eval o).run P w2=.ok .skip (w2.setCell ad v)∧listed P b.fn a o w2=#[⟨.cell ad,true,false⟩])
 (h:∀w2,Keeps C O w w2→V w2→Wk P main C V K (G (b.at (a.put o.dst undef) (.inRegion ops rest :: k)) cs) (w2.setCell ad v) O):Wk P main C V K (G (b.at a (.inRegion ops (i :: rest) :: k)) cs) w O:=
 .step (fun g2 w3 O2=>∃w2,Keeps C O w w2∧V w2∧g2=G (b.at (a.put o.dst undef) (.inRegion ops rest :: k)) cs∧w3=w2.setCell ad v∧O2=O) rfl (fun w2 k2 v2=>by
  obtain⟨h1,h2⟩:=hr w2 k2 v2
  refine⟨_,_,O,_,stepG_none ho hw hk h1,?_,w2,k2,v2,rfl,rfl,rfl⟩
  rw[h2]
  refine⟨rfl,rfl,rfl,by simp[World.setCell],fun b _ hn=>?_,fun b=>⟨.inl,fun h=>h.elim id fun⟨x,y⟩=>?_⟩,fun e he=>?_⟩
  ·have:b≠ad.block:=fun e=>hn (e ▸ hb)
   simp only[World.setCell,Array.getElem?_modify]
   rw[if_neg (Ne.symm this)]
  ·simp[World.setCell] at y;omega
  ·simp only[List.mem_singleton] at he
   subst he
   exact .inr ⟨rfl,.inl ⟨ad,rfl,.inl hb⟩⟩)
  fun g2 w3 O2 ⟨w2,k2,v2,e1,e2,e3⟩=>by subst e1;subst e2;subst e3;exact h w2 k2 v2
theorem Vv{f:FuncId}{fn:Func}{c:Code}{args:Array Operand}{ats:Array TypeId}(ho:ops[i]? =some o)(hw:Region.wanted o (yielded ops a.tmps)=true)(hk:b.kind≠.early)(hop:o.op=.call {callee:=.value (.func f),args,argTypes:=ats })
 (hf:P.funcs[f]? =some fn)(hname:(fn.name == "runtime.NumGoroutine")=false)(hb:fn.body=some c)
 (h:Wk P main C V K (G ((base f).at {tmps:=args.map a.eval ++ Array.replicate (fn.ntmps - (args.map a.eval).size) undef,defers:=[] } [.code c]) (b.at a (.inRegion ops (i :: rest) :: k) :: cs)) w O):Wk P main C V K (G (b.at a (.inRegion ops (i :: rest) :: k)) cs) w O:=by
 have hb':fn.body.isNone=false:=by rw[hb];rfl
 refine Wk.idle rfl (fun w2 _=>by rw[stepG_enter ho hw hk (run_call_body hop hf hname hb'),listed_nil (events_call_body hop hf hname hb' #[])]) ?_
 rw[enter_at _ hf hb]
 exact h
theorem Vw{f:FuncId}{args:Array Value}(ho:ops[i]? =some o)(hw:Region.wanted o (yielded ops a.tmps)=true)(hk:b.kind≠.early)(hr:∀w2:World,(execOp a.eval o).run P w2=.ok (.enter f args) w2)(he:∀w2:World,(execOp a.eval o).events P w2 #[]=#[])
 (h:Wk P main C V K (G (Frame.enter P f args .normal) (b.at a (.inRegion ops (i :: rest) :: k) :: cs)) w O):Wk P main C V K (G (b.at a (.inRegion ops (i :: rest) :: k)) cs) w O:=
 Wk.idle rfl (fun w2 _=>by rw[stepG_enter ho hw hk (hr w2),listed_nil (he w2)]) h
end
section
variable{P:Program}{L:WgLink}{Wg:Nat}{Stop Stop':Goroutine→World→Prop}{C O:Nat→Prop}{V:World→Prop}{K:Goroutine→World→(Nat→Prop)→Prop}
theorem Aj(hV:∀w,V w→WgLive L.tWg Wg w):∀ {m:Nat} {g:Goroutine} {w:World},gH P L Wg Stop m g w→V w→(∀g' w2,Keeps C O w w2→V w2→Stop g' w2→Wk P true C V K g' w2 O)→Wk P true C V K g w O
 | 0,g,w,h,hv,hK=>hK g w (Keeps.refl C O w) hv (h w fun x=>x)
 | m+1,g,w,h,hv,hK=>by
   rcases h with h|⟨hrun,h⟩
   ·exact hK g w (Keeps.refl C O w) hv (h w fun x=>x)
   ·refine .step (fun g2 w3 O2=>O2=O∧gH P L Wg Stop m g2 w3∧Keeps C O w w3∧V w3) hrun (fun w2 k v=>?_) ?_
    ·have hs:=h w2 fun _=>hV w2 v
     cases hgo:stepG P true g w2 with
     | go g2 w3 es=>
       rw[hgo,goes_go] at hs
       obtain⟨⟨rfl,rfl⟩,hG⟩:=hs
       exact⟨g2,w3,O,#[],rfl,FZ C O w3,rfl,hG,k,v⟩
     | _=>rw[hgo] at hs;exact hs.elim
    ·rintro g2 w3 O2 ⟨e,hG,k,v⟩
     rw[e]
     exact Aj hV hG v fun g' w2 k2 v=>hK g' w2 (k.trans k2) v
theorem jc(hS:∀g w,Stop g w→Stop' g w):∀ {m:Nat} {g:Goroutine} {w:World},gH P L Wg Stop m g w→gH P L Wg Stop' m g w
 | 0,g,w,h=>fun w1 h1=>hS _ _ (h w1 h1)
 | m+1,g,w,h=>by
   rcases h with h|⟨hrun,h⟩
   ·exact .inl fun w1 h1=>hS _ _ (h w1 h1)
   ·refine .inr ⟨hrun,fun w1 h1=>?_⟩
    have hs:=h w1 h1
    cases hgo:stepG P true g w1 with
    | go g2 w3 es=>
      rw[hgo,goes_go] at hs
      rw[goes_go]
      exact⟨hs.1,jc hS hs.2⟩
    | _=>rw[hgo] at hs;exact hs.elim
theorem Me:∀ {m:Nat} {g:Goroutine} {w:World},gH P L Wg Stop m g w→gH P L Wg Stop (m+1) g w
 | 0,g,w,h=>.inl h
 | m+1,g,w,h=>by
   rcases h with h|⟨hrun,h⟩
   ·exact .inl h
   ·refine .inr ⟨hrun,fun w1 h1=>?_⟩
    have hs:=h w1 h1
    cases hgo:stepG P true g w1 with
    | go g2 w3 es=>
      rw[hgo,goes_go] at hs
      rw[goes_go]
      exact⟨hs.1,Me hs.2⟩
    | _=>rw[hgo] at hs;exact hs.elim
theorem Z4{m n:Nat}{g:Goroutine}{w:World}(h:gH P L Wg Stop m g w)(hn:m≤n):gH P L Wg Stop n g w:=by
 induction hn with
 | refl=>exact h
 | step _ ih=>exact Me ih
theorem Md(n:Nat)(hn:∀g w,WgLive L.tWg Wg w→Stop g w→gH P L Wg Stop' n g w):∀ {m:Nat} {g:Goroutine} {w:World},gH P L Wg Stop m g w→WgLive L.tWg Wg w→gH P L Wg Stop' (m+n) g w
 | 0,g,w,h,hl=>by rw[Nat.zero_add];exact hn _ _ hl (h w fun x=>x)
 | m+1,g,w,h,hl=>by
   rcases h with h|⟨hrun,h⟩
   ·exact Z4 (hn _ _ hl (h w fun x=>x)) zo
   ·rw[show m+1+n=m+n+1 by omega]
    refine .inr ⟨hrun,fun w1 h1=>?_⟩
    have hs:=h w1 h1
    cases hgo:stepG P true g w1 with
    | go g2 w3 es=>
      rw[hgo,goes_go] at hs
      rw[goes_go]
      obtain⟨⟨rfl,rfl⟩,hG⟩:=hs
      exact⟨⟨rfl,rfl⟩,Md n hn hG (h1 hl)⟩
    | _=>rw[hgo] at hs;exact hs.elim
end
section
variable{P:Program}{L:WgLink}{Wg:Nat}{A A':Goroutine→World→Prop}{F F':Goroutine→Prop}
theorem Vs(hF:∀g,F g→F' g){g:Goroutine}{w:World}(h:Jk P Wg F g w):Jk P Wg F' g w:=let ⟨a,g',b,c⟩:=h;⟨a,g',b,hF _ c⟩
theorem Nq(hF:∀g,F g→F' g){g:Goroutine}{w:World}(h:ZQ P L Wg F g w):ZQ P L Wg F' g w:=let ⟨a,g',b,m,c⟩:=h;⟨a,g',b,m,jc (fun _ _=>Vs hF) c⟩
theorem lf(hF:∀g,F g→F' g){g:Goroutine}{w:World}(h:W4 P L Wg F g w):W4 P L Wg F' g w:=⟨h.1,fun x=>let ⟨g',b,m,c⟩:=h.2 x;⟨g',b,m,jc (fun _ _=>Nq hF) c⟩⟩
theorem ld(hF:∀g,F g→F' g){g:Goroutine}{w:World}(h:W3 P L Wg F g w):W3 P L Wg F' g w:=⟨h.1,h.2.1,h.2.2.1,fun x=>let ⟨g',b,m,c⟩:=h.2.2.2 x;⟨g',b,m,jc (fun _ _=>lf hF) c⟩⟩
theorem Zx(hF:∀g,F g→F' g){g:Goroutine}{w:World}(h:Ge P L Wg F g w):Ge P L Wg F' g w:=let ⟨a,g',b,m,c⟩:=h;⟨a,g',b,m,jc (fun _ _=>ld hF) c⟩
theorem kO(hA:∀g w,A g w→A' g w)(hF:∀g,F g→F' g){vs:Nat}{g:Goroutine}{w:World}(h:W2 P L Wg A F vs g w):W2 P L Wg A' F' vs g w:=
 ⟨h.1,fun v hv hw=>⟨fun e=>let ⟨g',b,m,c⟩:=(h.2 v hv hw).1 e;⟨g',b,m,jc (fun _ _=>Zx hF) c⟩,fun e=>let ⟨g',b,m,c⟩:=(h.2 v hv hw).2 e;⟨g',b,m,jc hA c⟩⟩⟩
theorem kz(hA:∀g w,A g w→A' g w)(hF:∀g,F g→F' g){g:Goroutine}{w:World}(h:W1 P L Wg A F g w):W1 P L Wg A' F' g w:=
 ⟨h.1,fun v hv hw=>let ⟨g',b,c,d⟩:=h.2 v hv hw;⟨g',b,fun e=>let ⟨m,x⟩:=c e;⟨m,jc (fun _ _=>Nq hF) x⟩,fun e=>let ⟨m,x⟩:=d e;⟨m,jc (fun _ _=>kO hA hF) x⟩⟩⟩
end
theorem KE{S:Site}(H:WgLib S.P S.L)(pl:Payload){b₀:Frame}{ops₀:Array Oper}{i₀:Nat}{rest₀:List Nat}{k₀:List Item}{cs:List Frame}{A:Act→Prop}
 (cA:S.tab S.bA=some (.cells #[S.vA] (@Payload.ety S.pA)))(cB:S.tab S.bB=some (.cells #[S.vB] (@Payload.ety S.pB)))(ab:S.bA≠S.bB)(tw:S.tab S.Wg=none)(wc:S.Wg≠S.Ch)(n31:S.n<2147483648)
 (hAn:S.Anch=fun g w=>∃a₀,A a₀∧AnchW S.L S.Wg (b₀.at a₀ (.inRegion ops₀ (i₀ :: rest₀) :: k₀)) cs g w)(hFi:S.Fin=fun g=>∃a₀,A a₀∧VT S.P S.L S.Wg (qE b₀ a₀ ops₀ i₀ rest₀ k₀ cs) g):S.Ok:=by
 refine⟨cA,cB,ab,fun e=>?_,fun e=>?_,wc,n31,fun g w h=>?_,fun g w h=>?_⟩
 ·rw[e,tw] at cA;cases cA
 ·rw[e,tw] at cB;cases cB
 ·rw[hAn] at h
  obtain⟨a₀,_,h⟩:=h
  exact RA h
 ·rw[hAn] at h
  obtain⟨a₀,ha,h⟩:=h
  obtain⟨m,h1⟩:=@Lp pl S.L S.P S.Wg b₀ a₀ ops₀ i₀ rest₀ k₀ cs H g w h
  refine⟨m,jc (fun g w h=>kz (fun g w h=>?_) (fun g h=>?_) h) h1⟩
  ·rw[hAn];exact⟨a₀,ha,h⟩
  ·rw[hFi];exact⟨a₀,ha,h⟩
end
end Go.aQ
