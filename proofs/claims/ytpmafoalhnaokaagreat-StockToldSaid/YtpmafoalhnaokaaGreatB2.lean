/- Par23 Par24 -/
import Derived.Test.YtpmafoalhnaokaaGreatB1
import Derived.Conc.CrowdTrace
import Derived.Conc.Crowd
set_option maxRecDepth 100000
set_option maxHeartbeats 16000000
set_option linter.unusedVariables false
set_option linter.unusedSectionVars false
namespace Go.bZ
section
variable[Inhabited aT]
open Go.Conc Go.ConcN
variable{P:Program}
def Dec{X:Type}(r:X→X→Prop)(n:Nat)(y x:Nat→X):Prop:=∃i,i<n∧r (y i) (x i)∧∀k,k≠i→y k=x k
theorem i9{X:Type}{r:X→X→Prop}(hr:WellFounded r)(n:Nat):WellFounded (Dec r n):=by
 induction n with
 | zero=>exact⟨fun x=>⟨_,fun y ⟨i,hi,_⟩=>absurd hi (Nat.not_lt_zero i)⟩⟩
 | succ n ihn=>
   have key:∀a:X,∀f:Nat→X,f n=a→Acc (Dec r (n+1)) f:=by
    intro a
    induction a using hr.induction with
    | _ a iha=>
      intro f
      induction f using ihn.induction with
      | _ f ihf=>
        intro hfa
        refine⟨_,fun y ⟨i,hi,h1,h2⟩=>?_⟩
        by_cases e:i=n
        ·subst e
         exact iha (y i) (hfa ▸ h1) y rfl
        ·exact ihf y ⟨i,zo,h1,h2⟩ ((h2 n (fun e2=>e e2.symm)).trans hfa)
   exact⟨fun f=>key (f n) f rfl⟩
structure Lay(O:Nat→Nat→Prop)(C S:Nat→Prop)(w:World):Prop where
 own:∀k k' b,O k b→O k' b→k=k'
 qh:∀k b,O k b→¬ C b
 nM:∀k b,O k b→¬ S b
 cS:∀b,C b→¬ S b
 Nt:∀k b,O k b→b<w.heap.size
 Py:∀b,C b→b<w.heap.size
 Nu:∀b,S b→b<w.heap.size
def rP(O:Nat→Nat→Prop)(k:Nat)(O1:Nat→Prop):Nat→Nat→Prop:=fun i b=>if i=k then O1 b else O i b
theorem bJ(O:Nat→Nat→Prop)(k:Nat)(O1:Nat→Prop):rP O k O1 k=O1:=by funext b;simp[rP]
theorem dS(O:Nat→Nat→Prop){k i:Nat}(O1:Nat→Prop)(h:i≠k):rP O k O1 i=O i:=by funext b;simp[rP,h]
section
variable{O:Nat→Nat→Prop}{C S:Nat→Prop}{w w1:World}{k:Nat}{O1:Nat→Prop}{new:List Event}
theorem Lay.did(h:Lay O C S w)(d:Did C (O k) O1 w w1 new):Lay (rP O k O1) C S w1:=by
 have hs:=d.size
 have old:∀i b,rP O k O1 i b→O i b∨(i=k∧w.heap.size≤b∧b<w1.heap.size):=fun i b hb=>by
  by_cases e:i=k
  ·subst e
   rw[bJ] at hb
   rcases(d.own b).1 hb with h1|h1
   ·exact .inl h1
   ·exact .inr ⟨rfl,h1⟩
  ·rw[dS O O1 e] at hb;exact .inl hb
 refine⟨fun i i' b a a'=>?_,fun i b a c=>?_,fun i b a c=>?_,h.cS,fun i b a=>?_,fun b a=>Nat.lt_of_lt_of_le (h.Py b a) hs,fun b a=>Nat.lt_of_lt_of_le (h.Nu b a) hs⟩
 ·rcases old i b a with x|⟨ei,x,_⟩ <;> rcases old i' b a' with x'|⟨PM,x',_⟩
  ·exact h.own _ _ _ x x'
  ·have:=h.Nt _ _ x;omega
  ·have:=h.Nt _ _ x';omega
  ·exact ei.trans PM.symm
 ·rcases old i b a with x|⟨_,x,_⟩
  ·exact h.qh _ _ x c
  ·have:=h.Py _ c;omega
 ·rcases old i b a with x|⟨_,x,_⟩
  ·exact h.nM _ _ x c
  ·have:=h.Nu _ c;omega
 ·rcases old i b a with x|⟨_,_,x⟩
  ·exact Nat.lt_of_lt_of_le (h.Nt _ _ x) hs
  ·exact x
theorem Lay.keeps(h:Lay O C S w)(d:Did C (O k) O1 w w1 new){i:Nat}(hi:i≠k):Keeps C (O i) w w1:=fun b hb=>by
 rcases hb with hb|hb
 ·exact d.other b (h.Nt _ _ hb) fun e=>hi (h.own _ _ _ hb e)
 ·exact d.other b (h.Py _ hb) fun e=>h.qh _ _ e hb
theorem Lay.shared(h:Lay O C S w)(d:Did C (O k) O1 w w1 new){b:Nat}(hb:S b):w1.heap[b]? =w.heap[b]?:=d.other b (h.Nu _ hb) fun e=>h.nM _ _ e hb
def In(X:Nat→Prop):Loc→Prop
 | .cell a=>X a.block
 | .obj r=>X r
 | _=>False
def iE(O:Nat→Nat→Prop)(k:Nat)(l:Loc):Prop:=In (O k) l
def D9(C:Nat→Prop)(_:Nat)(l:Loc):Prop:=In C l
theorem Lay.apart(h:Lay O C S w):Apart (In S) (iE O) (D9 C):=by
 refine⟨fun k k' l a b=>?_,fun k k' l a b=>?_,fun k l a b=>?_,fun k l a b=>?_⟩ <;> cases l <;> simp only[iE,D9,In] at a b
 ·exact h.own _ _ _ a b
 ·exact h.own _ _ _ a b
 ·exact h.qh _ _ a b
 ·exact h.qh _ _ a b
 ·exact h.nM _ _ a b
 ·exact h.nM _ _ a b
 ·exact h.cS _ a b
 ·exact h.cS _ a b
def Rt(t:Trace)(w:World):Prop:=∀i a,touchAt t i=some a→∀b,In (fun x=>x=b) a.loc→b<w.heap.size
theorem yj{e:Event}(h:RH O1 C e)(k:Nat)(fn:FuncId)(pos:String):OkW (In S) (iE (rP O k O1)) (D9 C) k {g:=k,fn,pos,act:=.ofEvent e }:=by
 rcases h with rfl|⟨hs,h⟩
 ·exact⟨rfl,fun x hx=>by simp[MemAct.ofEvent,MemAct.touch?] at hx⟩
 obtain⟨loc,wr,sy⟩:=e
 simp only at hs h
 subst hs
 refine⟨rfl,fun x hx=>?_⟩
 rcases h with⟨a,rfl,h⟩|⟨r,rfl,h⟩
 ·have e1:MemAct.ofEvent ⟨.cell a,wr,false⟩=.access ⟨.cell a,wr,false⟩:=by cases wr <;> rfl
  rw[e1] at hx
  simp only[MemAct.touch?,Option.some.injEq] at hx
  subst hx
  rcases h with h|⟨hw,h⟩
  ·exact .inr (.inl (by simp only[iE,In,bJ];exact h))
  ·exact .inr (.inr ⟨h,hw⟩)
 ·have e1:MemAct.ofEvent ⟨.obj r,wr,false⟩=.access ⟨.obj r,wr,false⟩:=by cases wr <;> rfl
  rw[e1] at hx
  simp only[MemAct.touch?,Option.some.injEq] at hx
  subst hx
  exact .inr (.inl (by simp only[iE,In,bJ];exact h))
theorem CT.grow{Sh:Loc→Prop}{Own Own' Rd:Nat→Loc→Prop}{t:Trace}{j:Nat}(h:CT Sh Own Rd t j)(le:∀k l,Own k l→Own' k l)(hnew:∀k l,Own' k l→Own k l∨∀i a,touchAt t i=some a→a.loc≠l):CT Sh Own' Rd t j:=by
 refine⟨h.quiet,fun k k1 kj l hl=>?_,h.rd,fun l hs hl=>h.free l hs fun k k1 kj=>⟨fun ho=>(hl k k1 kj).1 (le k l ho),(hl k k1 kj).2⟩,fun l hs hl=>h.mine l hs fun k k1 kj ho=>hl k k1 kj (le k l ho),h.nr,h.gs⟩
 rcases hnew k l hl with ho|ho
 ·exact h.own k k1 kj l ho
 ·exact fun i a ha e=>absurd e (ho i a ha)
end
theorem Did.sub{C O O1:Nat→Prop}{w w1:World}{new l:List Event}(h:Did C O O1 w w1 new)(hl:∀e∈l,e∈new):Did C O O1 w w1 l:=
 ⟨h.tape,h.os,h.output,h.size,h.other,h.own,fun e he=>h.evs e (hl e he)⟩
theorem TD{C O O1:Nat→Prop}{w w1:World}{new:List Event}(h:Did C O O1 w w1 new)(fn:FuncId):Did C O O1 w w1 (seen P fn new.toArray).toList:=h.sub fun e he=>by
 have:=lY (P:=P) (fn:=fn) (Array.mem_def.2 he)
 simpa using this
inductive Wk (P:Program) (main:Bool) (C:Nat→Prop) (V:World→Prop) (K:Goroutine→World→(Nat→Prop)→Prop):Goroutine→World→(Nat→Prop)→Prop
 | stop {g:Goroutine} {w:World} {O:Nat→Prop}:(∀w2,Keeps C O w w2→V w2→K g w2 O)→Wk P main C V K g w O
 | step {g:Goroutine} {w:World} {O:Nat→Prop} (X:Goroutine→World→(Nat→Prop)→Prop):g.status=.running→
  (∀w2,Keeps C O w w2→V w2→∃g2 w3 O2 es,stepG P main g w2=.go g2 w3 es∧Did C O O2 w2 w3 es.toList∧X g2 w3 O2)→(∀g2 w3 O2,X g2 w3 O2→Wk P main C V K g2 w3 O2)→Wk P main C V K g w O
section
variable{main:Bool}{C:Nat→Prop}{V:World→Prop}{K:Goroutine→World→(Nat→Prop)→Prop}
theorem Wk.keeps{g:Goroutine}{w w2:World}{O:Nat→Prop}(h:Wk P main C V K g w O)(k:Keeps C O w w2):Wk P main C V K g w2 O:=by
 cases h with
 | stop h=>exact .stop fun w3 k3=>h w3 (k.trans k3)
 | step X h0 h1 h2=>exact .step X h0 (fun w3 k3=>h1 w3 (k.trans k3)) h2
theorem Wk.mono{K':Goroutine→World→(Nat→Prop)→Prop}(hK:∀g w O,K g w O→K' g w O){g:Goroutine}{w:World}{O:Nat→Prop}(h:Wk P main C V K g w O):Wk P main C V K' g w O:=by
 induction h with
 | stop h=>exact .stop fun w2 k v=>hK _ _ _ (h w2 k v)
 | step X h0 h1 h2 ih=>exact .step X h0 h1 ih
theorem Wk.idle{g g2:Goroutine}{w:World}{O:Nat→Prop}(h0:g.status=.running)(h:∀w2,V w2→stepG P main g w2=.go g2 w2 #[])(k:Wk P main C V K g2 w O):Wk P main C V K g w O:=
 .step (fun g' w' O'=>g'=g2∧O'=O∧Keeps C O w w') h0 (fun w2 k2 v2=>⟨g2,w2,O,#[],h w2 v2,⟨rfl,rfl,rfl,zL,fun _ _ _=>rfl,fun b=>⟨.inl,fun h=>h.elim id fun⟨a,b⟩=>absurd b zo⟩,fun e he=>by simp at he⟩,rfl,rfl,k2⟩)
  (fun g' w' O' ⟨e1,e2,k2⟩=>by subst e1;subst e2;exact k.keeps k2)
theorem Wk.YN{F:FuncId→Prop}{Q:Frame→World→(Nat→Prop)→Prop}{O0:Nat→Prop}{s:Frame × List Frame}{w:World}{O:Nat→Prop}(h:A8 P F C Q s w O)(cs:List Frame)(hO:∀b,O0 b→O b)
 (hK:∀fr w O,(∀b,O0 b→O b)→(∀w2,Keeps C O w w2→Q fr w2 O)→Wk P main C V K (G fr cs) w O):Wk P main C V K (G s.1 (s.2 ++ cs)) w O:=by
 induction h with
 | @done fr w O h1 h2 h2b h3=>exact hK fr w O hO h3
 | @step s w O X h1 h2 h3 h4 ih=>
   refine .step (fun g2 w3 O2=>∃s2,g2=G s2.1 (s2.2 ++ cs)∧X s2 w3 O2∧∀b,O0 b→O2 b) rfl (fun w2 k v=>?_) (fun g2 w3 O2 ⟨s2,e,hx,ho⟩=>e ▸ ih s2 w3 O2 hx ho)
   obtain⟨s2,w3,O2,new,r1,r2,r3⟩:=h3 w2 k
   obtain⟨es',e1,e2⟩:=yQ (cs:=cs) (main:=main) h1 r1
   exact⟨_,w3,O2,es',e1,r2.sub (fun e he=>by simpa using e2 e (Array.mem_def.2 he)),s2,rfl,r3,fun b hb=>(r2.own b).2 (.inl (hO b hb))⟩
theorem Wk.ret{f:FuncId}{ρ0:Ren}{R:Value→World→Prop}{fr:Frame}{c:Frame}{cs:List Frame}{w:World}{O:Nat→Prop}(h:∀w2,Keeps C O w w2→Gives P C ρ0 f R fr w2 O)
 (hk:∀ρ1 v v' w1 w3 O3,R v w1→VR ρ1 v v'→WR ρ1 w1 w3→Le ρ0 ρ1→sd C O3 ρ1 w1→(∀b,O b→O3 b)→Wk P main C V K (G (c.finish v') cs) w3 O3):Wk P main C V K (G fr (c :: cs)) w O:=by
 refine .step (fun g2 w3 O3=>Wk P main C V K g2 w3 O3) rfl (fun w2 k v=>?_) (fun _ _ _ hx=>hx)
 obtain⟨hfn,hd,hkd,hm,fn,ρ1,v,v',w1,w3,O3,new,hf,hr,hR,hv,hw,hle,xd,hcl⟩:=h w2 k
 refine⟨G (c.finish v') cs,w3,O3,seen P f new.toArray,?_,TD xd _,hk ρ1 v v' w1 w3 O3 hR hv hw hle hcl fun b hb=>(xd.own b).2 (.inl hb)⟩
 obtain⟨aaq,tmps,todo,defers,mode,kind,roundOf⟩:=fr
 simp only at hfn hd hkd hm
 subst hfn;subst hd;subst hkd;subst hm
 simp[G,stepG,unwind,hf,hr,doReturn,GStep.after,-Sem.runT_eq]
theorem Wk.call{F:FuncId→Prop}{f:FuncId}{ρ0:Ren}{R:Value→World→Prop}{args:Array Value}{c:Frame}{cs:List Frame}{w:World}{O:Nat→Prop}(h:A8 P F C (Gives P C ρ0 f R) (Frame.enter P f args .normal,[]) w O)
 (hk:∀ρ1 v v' w1 w3 O3,R v w1→VR ρ1 v v'→WR ρ1 w1 w3→Le ρ0 ρ1→sd C O3 ρ1 w1→(∀b,O b→O3 b)→Wk P main C V K (G (c.finish v') cs) w3 O3):Wk P main C V K (G (Frame.enter P f args .normal) (c :: cs)) w O:=by
 have h1:=Wk.YN (main:=main) (V:=V) (K:=K) (O0:=O) h (c :: cs) (fun _ hb=>hb) (fun fr w2 O2 hO hq=>Wk.ret hq fun ρ1 v v' w1 w3 O3 hR hv hw hle hcl hO3=>hk ρ1 v v' w1 w3 O3 hR hv hw hle hcl fun b hb=>hO3 b (hO b hb))
 simpa only[List.nil_append] using h1
end
end
end Go.bZ
