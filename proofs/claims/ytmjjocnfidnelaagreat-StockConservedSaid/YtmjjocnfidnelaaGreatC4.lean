/- Qt W0 J0 J1 J2 J3 P1 P2 -/
import Derived.Test.YtmjjocnfidnelaaGreatC3
import Derived.Test.YtmjjocnfidnelaaGreatA3
import Derived.StillTail
import Derived.Lib.QuietBelowIn
set_option maxRecDepth 100000
set_option maxHeartbeats 16000000
set_option linter.unusedVariables false
set_option linter.unusedSectionVars false
open Go.IntKind(i64)
open Go.Proofs.Tryz
open Go.Value(int)
namespace Go.Proofs.YtmjjocnfidnelaaGreat
section
open Go Go.Sort Go.RowKit
section
variable{F:Fence}{n:Nat}{P:Program}{ops:Array Oper}{Q:Exit→Act→World→Prop}{md:Region.Mode}{S:World→Prop}{T:Act→World→Prop}{N:Nat}
def gY(md:Region.Mode)(ops:Array Oper):Nat→Nat→Array Bool→Bool
 | 0,_,listed=>Region.ready md ops listed == []
 | c+1,t,listed=>Region.ready md ops listed == [t] && gY md ops c (t+1) (listed.setIfInBounds t true)
theorem jg:∀ (l:List Oper) (t:Nat) (listed:Array Bool) (a:Act) (w:World),(∀j,j<l.length→l[j]? =ops[t+j]?)→gY md ops l.length t listed=true→wpListIn F n P ops Q l a w→wpAnyIn F n P md ops Q l.length listed a w
 | [],_,_,_,_,_,hB,h=>⟨by simpa [gY] using hB,h⟩
 | o :: l,t,listed,a,w,hl,hB,h=>by
   have h0:ops[t]? =some o:=by simpa using (hl 0 zs).symm
   simp only[List.length_cons,gY,Bool.and_eq_true,beq_iff_eq] at hB
   refine⟨(fun h0=>by rw[hB.1] at h0;cases h0),fun i hi=>?_⟩
   rw[hB.1] at hi
   obtain rfl:i=t:=by simpa using hi
   have hK:∀a w,wpListIn F n P ops Q l a w→wpAnyIn F n P md ops Q l.length (listed.setIfInBounds i true) a w:=fun a w h=>jg l (i+1) _ a w (fun j hj=>by have:=hl (j+1) (by simpa using hj);simpa [Nat.add_assoc,Nat.add_comm 1 j] using this) hB.2 h
   refine wpOpIn_mono (fun a' w' hq=>hK a' w' hq) ?_
   unfold wpOpIn
   simp only[h0]
   exact h
def Ao(F:Fence)(n:Nat)(P:Program)(md:Region.Mode)(ops:Array Oper)(S:World→Prop)(T:Act→World→Prop)(N:Nat):Nat→Array Bool→Act→Prop
 | 0,listed,a=>(gY md ops (ops.size - N) N listed=true∧Region.ready md ops listed=[N])∧∀w,S w→T a w
 | fuel+1,listed,a=>(Region.ready md ops listed≠[]∧∀i∈Region.ready md ops listed,i<N)∧∀i∈Region.ready md ops listed,qOpIn F n P ops S i (Ao F n P md ops S T N fuel (listed.setIfInBounds i true)) a
theorem nu(hro:F.round=none)(hT:∀listed a w,gY md ops (ops.size - N) N listed=true→T a w→wpAnyIn F n P md ops Q (ops.size - N) listed a w):∀ (fuel:Nat) (listed:Array Bool) (a:Act) (w:World),S w→Ao F n P md ops S T N fuel listed a→wpAnyIn F n P md ops Q (ops.size - N+fuel) listed a w
 | 0,_,a,w,hw,h=>hT _ a w h.1.1 (h.2 w hw)
 | fuel+1,_,_,_,hw,h=>⟨fun h0=>absurd h0 h.1.1,fun i hi=>wpOpIn_of_qOpIn hro hw (fun a' w' hw'=>nu hro hT fuel _ a' w' hw') (h.2 i hi)⟩
theorem EZ{i:Nat}{oi:Oper}{v:Value}(hs:Region.sinkB md ops N=true)(hc:Region.chainB md ops N=true)(hN:N<ops.size)(hi:ops[i]? =some oi)(hsel:∀ (j:Nat) (o:Oper) cs b,ops[j]? =some o→o.op≠.select cs b)(Xm:i<N):
 ∀ (fuel:Nat) (listed:Array Bool) (a:Act),HeadInv md ops N listed→
   (∀j oj,ops[j]? =some oj→j≠i→listed.getD j true=false→(∀e∈oj.after,Region.binds md e=true→e.on≠i)→oi.apart ops oj=true)→
   i∈Region.ready md ops listed→YieldsQuiet F n P ops S oi v a→
   Ao F n P md ops S T N fuel (listed.setIfInBounds i true) (a.put oi.dst v)→Ao F n P md ops S T N (fuel+1) listed a:=by
 intro fuel
 induction fuel with
 | zero=>
   intro listed a inv _ hr hy H
   have hun:=(mem_ready.1 hr).1
   have hlt:∀t∈Region.ready md ops listed,t<N:=fun t ht=>Nat.lt_of_not_le fun h=>tail_waits hs hc hN inv _ i rfl Xm hun t h ht
   refine⟨⟨fun h=>(by rw[h] at hr;cases hr),hlt⟩,fun j hj=>?_⟩
   by_cases hji:j=i
   ·subst hji;exact hy.qOpIn hi H
   ·have:=ready_mono hj hji
    rw[H.1.2] at this
    have h1:j=N:=by simpa using this
    have:=hlt j hj
    omega
 | succ fuel ih=>
   intro listed a inv hfree hr hy H
   have hun:=(mem_ready.1 hr).1
   have hlt:∀t∈Region.ready md ops listed,t<N:=fun t ht=>Nat.lt_of_not_le fun h=>tail_waits hs hc hN inv _ i rfl Xm hun t h ht
   refine⟨⟨fun h=>(by rw[h] at hr;cases hr),hlt⟩,fun j hj=>?_⟩
   by_cases hji:j=i
   ·subst hji;exact hy.qOpIn hi H
   ·have h1:=H.2 j (ready_mono hj hji)
    obtain⟨hjun,oj,hoj,hall⟩:=mem_ready.1 hj
    have hnot:∀e∈oj.after,Region.binds md e=true→e.on≠i:=fun e he hb heq=>by
     have h1:=hall e he hb
     have h0:=(mem_ready.1 hr).1
     rw[heq] at h1
     rcases Nat.lt_or_ge i listed.size with h'|h'
     ·simp[h'] at h0 h1;rw[h0] at h1;cases h1
     ·simp[Array.getElem?_eq_none h'] at h1
    have h2:=qOpIn_put hoj (hfree j oj hoj hji hjun hnot) (fun cs b=>hsel i oi cs b hi) (fun cs b=>hsel j oj cs b hoj) hy h1
    have hfree':∀k ok,ops[k]? =some ok→k≠i→(listed.setIfInBounds j true).getD k true=false→
     (∀e∈ok.after,Region.binds md e=true→e.on≠i)→oi.apart ops ok=true:=fun k ok hk hki hun hno=>by
     refine hfree k ok hk hki ?_ hno
     by_cases hjk:j=k
     ·subst hjk;exact hjun
     ·rw[getD_set_ne true hjk] at hun;exact hun
    refine qOpIn_mono (fun a' h3=>ih (listed.setIfInBounds j true) a' (inv.set hj (hlt j hj)) hfree' (ready_mono hr (Ne.symm hji)) h3.1 ?_) h2
    rw[Array.setIfInBounds_comm _ _ hji]
    exact h3.2
def oz(md:Region.Mode)(ops:Array Oper)(N:Nat):Nat→Nat→Array Bool→Bool
 | 0,_,listed=>gY md ops (ops.size - N) N listed && Region.ready md ops listed == [N]
 | fuel+1,k,listed=>(Region.ready md ops listed).contains k && Region.free md ops listed k && oz md ops N fuel (k+1) (listed.setIfInBounds k true)
theorem rF(hsel:Region.noSelect ops=true)(hs:Region.sinkB md ops N=true)(hc:Region.chainB md ops N=true)(hN:N<ops.size):∀ (l:List Oper) (k:Nat) (listed:Array Bool) (a:Act),(∀j,j<l.length→l[j]? =ops[k+j]?)→k+l.length=N→HeadInv md ops N listed→
 oz md ops N l.length k listed=true→wpQuietIn F n P ops S (fun a=>∀w,S w→T a w) l a→Ao F n P md ops S T N l.length listed a
 | [],_,_,_,_,_,_,hB,h=>by
   simp only[List.length_nil,oz,Bool.and_eq_true,beq_iff_eq] at hB
   exact⟨hB,h⟩
 | o :: l,k,listed,a,hl,hk,inv,hB,h=>by
   have h0:ops[k]? =some o:=by simpa using (hl 0 zs).symm
   simp only[List.length_cons] at hk
   simp only[List.length_cons,oz,Bool.and_eq_true] at hB
   obtain⟨⟨hr,hf⟩,hB'⟩:=hB
   have hr':k∈Region.ready md ops listed:=by simpa using hr
   have hst:qOpIn F n P ops S k (wpQuietIn F n P ops S (fun a=>∀w,S w→T a w) l) a:=by unfold qOpIn;simp only[h0];exact h
   obtain⟨v,hy,hK⟩:=yieldsQuiet_of_qOpIn h0 hst
   exact EZ hs hc hN h0 (Region.noSelect_spec hsel) zo l.length listed a inv (Region.free_spec h0 hf) hr' hy
    (rF hsel hs hc hN l (k+1) _ _ (fun j hj=>by have:=hl (j+1) (by simpa using hj);simpa [Nat.add_assoc,Nat.add_comm 1 j] using this) zo (inv.set hr' zo) hB' hK)
def II(ops:Array Oper)(N:Nat):Bool:=Region.noSelect ops && Region.sinkB .any ops N && Region.chainB .any ops N && decide (N<ops.size) && oz .any ops N N 0 (Array.replicate ops.size false)
theorem aJ{id:Nat}{a:Act}{w:World}{l:List Oper}(N:Nat)(hro:F.round=none)(hm:P.follows .mixedOrders=true)(hB:II l.toArray N=true)
 (h:wpQuietIn F n P l.toArray (fun w'=>∃p:Regrown,w'=grow (redrawn w p.d) p.os) (fun a'=>∀w',(∃p:Regrown,w'=grow (redrawn w p.d) p.os)→wpListIn F n P l.toArray Q (l.drop N) a' w') (l.take N) a):(Code.region id l.toArray true).wpIn F n P Q a w:=by
 simp only[II,Bool.and_eq_true,decide_eq_true_eq] at hB
 obtain⟨⟨⟨⟨h1,h2⟩,h3⟩,h4⟩,h5⟩:=hB
 have hlen:N<l.length:=by simpa using h4
 refine wpIn_region_any hm ?_
 have htl:(l.take N).length=N:=zm
 have inv:HeadInv .any l.toArray N (Array.replicate l.toArray.size false):=⟨zs,fun j oj hj hl=>by rw[getD_replicate_false] at *;simp_all,fun t ht ht'=>getD_in (by simpa using ht') (getD_replicate_false _ _)⟩
 have:=rF (F:=F) (n:=n) (P:=P) (md:=.any) (ops:=l.toArray) (N:=N) (S:=fun w'=>∃p:Regrown,w'=grow (redrawn w p.d) p.os) (T:=wpListIn F n P l.toArray Q (l.drop N)) h1 h2 h3 h4 (l.take N) 0 (Array.replicate l.toArray.size false) a
  (fun j hj=>by rw[htl] at hj;simp[hj]) zo inv (by rw[htl];exact h5) h
 rw[htl] at this
 have h6:=nu (Q:=Q) hro (N:=N) (fun listed a w hB h=>by
  have hd:(l.drop N).length=l.toArray.size - N:=zs
  have:=jg (F:=F) (n:=n) (P:=P) (md:=.any) (ops:=l.toArray) (Q:=Q) (l.drop N) N listed a w (fun j hj=>zs) (by rw[hd];exact hB) h
  rw[hd] at this
  exact this) N _ a {w with drawn:=w.drawn+1 } ⟨⟨w.drawn+1,#[]⟩,by rw[grow_empty];rfl⟩ this
 rw[show l.toArray.size - N+N=l.toArray.size by omega] at h6
 exact h6
end
end
section
open Go
def SF:Fence:={fn:=fun g=>g=87∨g=88∨g=100∨g=38∨g=71∨g=72∨g=101∨g=120∨g=121∨g=73∨g=102∨g=103∨g=104∨g=105∨g=106∨g=122∨g=78∨g=56∨g=65∨g=96∨g=116∨g=117∨g=45∨g=49∨g=81 }
@[simp] theorem Uw(g:FuncId):SF.fn g↔g=87∨g=88∨g=100∨g=38∨g=71∨g=72∨g=101∨g=120∨g=121∨g=73∨g=102∨g=103∨g=104∨g=105∨g=106∨g=122∨g=78∨g=56∨g=65∨g=96∨g=116∨g=117∨g=45∨g=49∨g=81:=Iff.rfl
@[simp] theorem uB:SF.depth=none:=rfl
@[simp] theorem uC:SF.round=none:=rfl
theorem Ia{g:FuncId}(h:SF.fn g):FF.fn g:=by
 rw[qL]
 rcases(Uw g).1 h with h|h|h|h|h|h|h|h|h|h|h|h|h|h|h|h|h|h|h|h|h|h|h|h|h <;> subst h <;> simp
theorem fU{I I':Machine→Prop}(hI:∀m,I m→I' m){P:Program}{m m':Machine}(h:StepsIn I P m m'):StepsIn I' P m m':=by
 induction h with
 | refl=>exact .refl _
 | head h1 h2 h3 ih=>exact .head (hI _ h1) h2 ih
theorem CallsIn.wider{n:Nat}{P:Program}{f:FuncId}{args:Array Value}{w:World}{R:Ending→World→Prop}(h:CallsIn SF n P f args w R):CallsIn FF n P f args w R:=by
 refine⟨Ia h.1,fun cs _=>?_⟩
 obtain⟨e,w',fr,r,hs,rest⟩:=h.2 cs (fun d hd=>by cases hd)
 have hm:∀m:Machine,m.fenced P SF→m.fenced P FF:=fun m hm g hg=>by
  obtain⟨a,b,c,d⟩:=hm g hg
  exact⟨a,b.imp Ia id,fun f hf=>Ia (c f hf),fun d hd=>by cases hd⟩
 refine⟨e,w',fr,r,?_,rest⟩
 cases e with
 | returned v=>exact fU hm hs
 | panicked c=>exact fU hm hs
 | outgrown=>exact hs
end
section
open Go Go.Conc Go.ConcN Go.cZ Go.Conc.Lib Go.aQ Go.Sort Go.RowKit
variable[Inhabited aZ]
abbrev Fd:Machine→Prop:=Machine.fenced prog FF
def LM(n cb:Nat)(bit:Nat→Bool)(w:World):Prop:=n<2147483648∧∃D:Nat→Prop,Closed D w∧D cb∧∃m:Nat,∀i:Nat,i<n→∀σ:Tape,CallsIn SF m prog 87 #[int i64 i,pt cb] (on (wh D w) σ) (fun e _=>e=.returned (.bool (bit i)))
def Via(m:Machine)(Fin:Machine→Prop):Prop:=∃ (n cb:Nat) (cs:List Frame) (w1:World) (bit:Nat→Bool),StepsIn Fd prog m (solo (G (kQ n cb) cs) w1)∧LM n cb bit w1∧
 ∀ac:Act,kp n (fC cb) w1.heap.size ac→∀v:World,Behind n cb w1.heap.size bit w1 v→∀σ:Tape,∃m',StepsIn Fd prog ((⟨Ae ac,cs,v⟩:dU.Pt).on σ).m m'∧Fin m'
theorem Via.from_{m m0:Machine}{Fin:Machine→Prop}(hs:StepsIn Fd prog m0 m)(h:Via m Fin):Via m0 Fin:=by
 obtain⟨n,cb,cs,w1,bit,h1,h2,h3⟩:=h
 exact⟨n,cb,cs,w1,bit,hs.trans h1,h2,h3⟩
theorem Via.on_{m:Machine}{Fin Fin':Machine→Prop}(h:Via m Fin)(hf:∀m',Fin m'→∃m2,StepsIn Fd prog m' m2∧Fin' m2):Via m Fin':=by
 obtain⟨n,cb,cs,w1,bit,h1,h2,h3⟩:=h
 refine⟨n,cb,cs,w1,bit,h1,h2,fun ac ha v hb σ=>?_⟩
 obtain⟨m',h4,h5⟩:=h3 ac ha v hb σ
 obtain⟨m2,h6,h7⟩:=hf m' h5
 exact⟨m2,h4.trans h6,h7⟩
def Left(f:FuncId)(cs:List Frame)(R:Value→World→Prop)(m:Machine):Prop:=∃v w' fr,R v w'∧m=lone fr cs w'∧fr.fn=f∧fr.leaving prog w' (.returned v)
def iR(f:FuncId)(args:Array Value)(w:World)(R:Value→World→Prop):Prop:=FF.fn f∧∀cs,Via (lone (Frame.enter prog f args .normal) cs w) (Left f cs R)
def Ez(R:Value→World→Prop):Ending→World→Prop:=fun e w=>∃v,e=.returned v∧R v w
section
variable{fn:Func}{R:Value→World→Prop}{ops:Array Oper}
def Ap(Q:Exit→Act→World→Prop):List Code→Act→World→Prop
 | [],a,w=>Q .normal a w
 | c :: l,a,w=>c.wpIn FF 0 prog (Exit.then (Ap Q l) Q) a w
theorem oK{m:Machine}{b:Frame}{k:List Item}{cs:List Frame}{e:Exit}{a:Act}{w:World}:∀ (l:List Code),e≠.normal→ArrivesIn Fd prog m b (l.map Item.code ++ k) cs e a w→ArrivesIn Fd prog m b k cs e a w
 | [],_,h=>h
 | y :: l,he,h=>oK l he (.pass (x:=.code y) rfl (fun _ _=>.inl he) h)
theorem Cc{Q:Exit→Act→World→Prop}:∀ (l:List Code) (a:Act) (w:World),Ap Q l a w→∀ (b:Frame) (k:List Item) (cs:List Frame),b.roundOf=none→FF.fn b.fn→
 ∃e a' w',Q e a' w'∧ArrivesIn Fd prog (lone (b.atR a (l.map Item.code ++ k)) cs w) b k cs e a' w'
 | [],a,w,h,b,k,cs,_,_=>⟨.normal,a,w,h,.refl _⟩
 | c :: l,a,w,h,b,k,cs,hb,hf=>by
   obtain⟨e,a1,w1,hq,harr⟩:=h b (l.map Item.code ++ k) cs hb hf (bD _)
   cases e with
   | normal=>
     obtain⟨e2,a2,w2,hq2,Mh⟩:=Cc l a1 w1 hq b k cs hb hf
     exact⟨e2,a2,w2,hq2,.of_steps harr Mh⟩
   | exit id=>exact⟨_,a1,w1,hq,oK l zs harr⟩
   | goto t=>exact⟨_,a1,w1,hq,oK l zs harr⟩
   | ret=>exact⟨_,a1,w1,hq,oK l zs harr⟩
   | panic ch=>exact⟨_,a1,w1,hq,oK l zs harr⟩
   | outgrown=>exact⟨_,a1,w1,hq,oK l zs harr⟩
theorem Cz{l:List Code}{rest:List Nat}{a:Act}{w:World}(h:wpOpsIn FF 0 prog ops (Exit.then (Ap (bodyPost prog fn (Ez R)) l) (bodyPost prog fn (Ez R))) rest a w)(b:Frame)(cs:List Frame)(hb:b.roundOf=none)(hk:b.kind=.normal)(hf:FF.fn b.fn)(hfn:Tryz.prog.funcs[b.fn]? =some fn):
 ∃m',StepsIn Fd prog (lone (b.atR a (.inRegion ops rest :: l.map Item.code)) cs w) m'∧Left b.fn cs R m':=by
 have fin:∀ (m:Machine) (e:Exit) (a':Act) (w':World),bodyPost prog fn (Ez R) e a' w'→ArrivesIn Fd prog m b [] cs e a' w'→∃m',StepsIn Fd prog m m'∧Left b.fn cs R m':=by
  intro m e a' w' hq harr
  cases e with
  | normal=>
    obtain⟨hd,v,hr,v',hv,hR⟩:=hq
    cases hv
    exact⟨_,StepsIn.trans harr (.one (fenced_calm (n:=0) (fr:=b.atR a' []) hf (bD _) rfl) (stepR_end hb)),v,w',_,hR,rfl,rfl,rfl,hd,hk,fn,hfn,hr⟩
  | ret=>
    obtain⟨hd,v,hr,v',hv,hR⟩:=hq
    cases hv
    obtain⟨todo,hs⟩:=harr.1 hb
    exact⟨_,hs,v,w',_,hR,rfl,rfl,rfl,hd,hk,fn,hfn,hr⟩
  | panic chain=>obtain⟨_,v',hv,_⟩:=hq;cases hv
  | exit id=>exact hq.elim
  | goto t=>exact hq.elim
  | outgrown=>obtain⟨v',hv,_⟩:=hq;cases hv
 obtain⟨e,a1,w1,hq,harr⟩:=wp_opsIn _ a w h b (l.map Item.code) cs hb hf (bD _)
 cases e with
 | normal=>
   obtain⟨e2,a2,w2,hq2,Mh⟩:=Cc l a1 w1 hq b [] cs hb hf
   rw[List.append_nil] at Mh
   obtain⟨m',h1,h2⟩:=fin _ e2 a2 w2 hq2 Mh
   exact⟨m',StepsIn.trans harr h1,h2⟩
 | ret=>exact fin _ .ret a1 w1 hq harr
 | panic chain=>obtain⟨_,v',hv,_⟩:=hq;cases hv
 | exit id=>exact hq.elim
 | goto t=>exact hq.elim
 | outgrown=>obtain⟨v',hv,_⟩:=hq;cases hv
theorem lu{T:Act→World→Prop}{l2:List Nat}:∀ (l1:List Nat) (a:Act) (w:World),wpOpsIn FF 0 prog ops (Exit.then T fun _ _ _=>False) l1 a w→∀ (b:Frame) (k:List Item) (cs:List Frame),b.roundOf=none→FF.fn b.fn→
 ∃a' w',T a' w'∧StepsIn Fd prog (lone (b.atR a (.inRegion ops (l1 ++ l2) :: k)) cs w) (lone (b.atR a' (.inRegion ops l2 :: k)) cs w')
 | [],a,w,h,b,k,cs,_,_=>⟨a,w,h,.refl _⟩
 | i :: l1,a,w,h,b,k,cs,hb,hf=>by
   rw[List.cons_append]
   simp only[wpOpsIn] at h
   cases ho:ops[i]? with
   | none=>
     simp only[ho] at h
     obtain⟨a',w',h1,h2⟩:=lu l1 a w h b k cs hb hf
     have hs:=stepR_op_skip (P:=prog) (b:=b) (a:=a) (k:=k) (cs:=cs) (w:=w) (ops:=ops) (i:=i) (rest:=l1 ++ l2) (by simp[ho])
     simp only[ho,Option.bind_none,Act.put] at hs
     exact⟨a',w',h1,.head (fenced_noOper (n:=0) hf (bD _) ho) hs h2⟩
   | some o=>
     simp only[ho] at h
     by_cases hw:Region.wanted o (yielded ops a.tmps)=true
     ·simp only[hw,if_true,Oper.wpIn] at h
      obtain⟨habout,h⟩:=h
      have h0:Fd (lone (b.atR a (.inRegion ops (i :: (l1 ++ l2)) :: k)) cs w):=fenced_oper (n:=0) hf (bD _) ho habout
      have hg:=stepGR_op (P:=prog) (b:=b) (k:=k) (cs:=cs) (w:=w) (rest:=l1 ++ l2) ho hw
      rw[hb] at hg
      have hfin:∀ (a:Act) v,(b.atR a (.inRegion ops (i :: (l1 ++ l2)) :: k)).finish v=b.atR (a.put o.dst v) (.inRegion ops (l1 ++ l2) :: k):=fun a v=>by rw[Frame.finish_atR,ho];rfl
      have hro:FF.round=none:=rfl
      rw[hro] at h
      generalize hr:(o.semAt none a.eval).run prog w=r at h
      cases r with
      | halt x w1=>cases x <;> exact h.elim
      | ok x w1=>
        cases x with
        | value v=>
          obtain⟨a',w',h1,h2⟩:=lu l1 _ _ h b k cs hb hf
          exact⟨a',w',h1,.head h0 (step_lone_go (by rw[hg,← hfin];simp[stepG.apply,hr])) h2⟩
        | skip=>
          obtain⟨a',w',h1,h2⟩:=lu l1 _ _ h b k cs hb hf
          exact⟨a',w',h1,.head h0 (step_lone_go (by rw[hg,← hfin];simp[stepG.apply,hr])) h2⟩
        | enter f args=>
          obtain⟨_,hF,h⟩:=h
          obtain⟨e,w2,fr,hR,hsteps,hfn,hleave⟩:=h (b.atR a (.inRegion ops (i :: (l1 ++ l2)) :: k) :: cs) (bD _)
          have henter:step prog (lone (b.atR a (.inRegion ops (i :: (l1 ++ l2)) :: k)) cs w)=.next (lone (Frame.enter prog f args .normal) (b.atR a (.inRegion ops (i :: (l1 ++ l2)) :: k) :: cs) w1):=
           step_lone_go (by rw[hg];simp[stepG.apply,hr,Frame.atR])
          cases e with
          | returned v=>
            have hl:Fd (lone fr (b.atR a (.inRegion ops (i :: (l1 ++ l2)) :: k) :: cs) w2):=fenced_leaving (n:=0) (hfn ▸ hF) (bD _) hleave
            obtain⟨a',w',h1,h2⟩:=lu l1 _ _ hR b k cs hb hf
            refine⟨a',w',h1,.head h0 henter (StepsIn.trans hsteps (.head hl ?_ h2))⟩
            rw[← hfin]
            exact step_leave_returned hleave
          | panicked chain=>exact hR.elim
          | outgrown=>obtain⟨_,_,hx⟩:=hR;exact hx.elim
        | row row args=>
          obtain⟨_,h⟩:=h
          obtain⟨v,w2,hR,hsteps⟩:=h (b.atR a (.inRegion ops (i :: (l1 ++ l2)) :: k)) cs (bD _)
          have henter:step prog (lone (b.atR a (.inRegion ops (i :: (l1 ++ l2)) :: k)) cs w)=.next (lone (Frame.ofRow prog row args .normal) (b.atR a (.inRegion ops (i :: (l1 ++ l2)) :: k) :: cs) w1):=
           step_lone_go (by rw[hg];simp[stepG.apply,hr,Frame.atR])
          obtain⟨a',w',h1,h2⟩:=lu l1 _ _ hR b k cs hb hf
          rw[hfin] at hsteps
          exact⟨a',w',h1,.head h0 henter (StepsIn.trans hsteps h2)⟩
        | defer d=>
          obtain⟨a',w',h1,h2⟩:=lu l1 _ _ h b k cs hb hf
          refine⟨a',w',h1,.head h0 (step_lone_go ?_) h2⟩
          have:({b.atR a (.inRegion ops (i :: (l1 ++ l2)) :: k) with defers:=d :: a.defers }:Frame).finish undef=b.atR ({a with defers:=d :: a.defers }.put o.dst undef) (.inRegion ops (l1 ++ l2) :: k):=hfin {a with defers:=d :: a.defers } undef
          rw[hg]
          simp only[stepG.apply,Sem.runT_eq,hr,GStep.bare_after]
          exact congrArg (fun fr=>GStep.go {frame:=fr,callers:=cs,status:=.running,dying:=none } w1) this
        | round l f tmps assign body=>
          obtain⟨_,_,h⟩:=h
          obtain⟨e,w2,hR,hsteps⟩:=h (b.atR a (.inRegion ops (i :: (l1 ++ l2)) :: k)) cs (bD _)
          have henter:step prog (lone (b.atR a (.inRegion ops (i :: (l1 ++ l2)) :: k)) cs w)=.next (lone (Frame.round l f tmps assign body .normal) (b.atR a (.inRegion ops (i :: (l1 ++ l2)) :: k) :: cs) w1):=
           step_lone_go (by rw[hg];simp[stepG.apply,hr,Frame.atR])
          cases e with
          | returned v=>
            obtain⟨a',w',h1,h2⟩:=lu l1 _ _ hR b k cs hb hf
            simp only[hfin] at hsteps
            exact⟨a',w',h1,.head h0 henter (StepsIn.trans hsteps h2)⟩
          | panicked chain=>exact hR.elim
          | outgrown=>obtain⟨_,_,hx⟩:=hR;exact hx.elim
        | _=>exact h.elim
     ·simp only[hw,if_false,Bool.false_eq_true] at h
      obtain⟨habout,h⟩:=h
      obtain⟨a',w',h1,h2⟩:=lu l1 _ _ h b k cs hb hf
      have hs:=stepR_op_skip (P:=prog) (b:=b) (a:=a) (k:=k) (cs:=cs) (w:=w) (ops:=ops) (i:=i) (rest:=l1 ++ l2) (by simp[ho];simpa using hw)
      simp only[ho,Option.bind_some] at hs
      exact⟨a',w',h1,.head (fenced_oper (n:=0) hf (bD _) ho habout) hs h2⟩
end
section
variable{fn:Func}{R:Value→World→Prop}{ops:Array Oper}
def sZ(ops:Array Oper)(i:Nat)(rest:List Nat)(fn:Func)(R:Value→World→Prop)(l:List Code)(a:Act)(w:World):Prop:=
 ∃o f args w1 Rc,ops[i]? =some o∧Region.wanted o (yielded ops a.tmps)=true∧(o.semAt none a.eval).run prog w=.ok (.enter f args) w1∧(∀g,o.about prog w a.eval=some g→FF.fn g)∧iR f args w1 Rc∧
  ∀v w2,Rc v w2→wpOpsIn FF 0 prog ops (Exit.then (Ap (bodyPost prog fn (Ez R)) l) (bodyPost prog fn (Ez R))) rest (a.put o.dst v) w2
theorem sZ.via{i:Nat}{rest:List Nat}{l:List Code}{a:Act}{w:World}(h:sZ ops i rest fn R l a w)(b:Frame)(cs:List Frame)(hb:b.roundOf=none)(hk:b.kind=.normal)(hf:FF.fn b.fn)(hfn:Tryz.prog.funcs[b.fn]? =some fn):
 Via (lone (b.atR a (.inRegion ops (i :: rest) :: l.map Item.code)) cs w) (Left b.fn cs R):=by
 obtain⟨o,f,args,w1,Rc,ho,hw,hr,habout,hcv,hrest⟩:=h
 have h0:Fd (lone (b.atR a (.inRegion ops (i :: rest) :: l.map Item.code)) cs w):=fenced_oper (n:=0) hf (bD _) ho habout
 have hg:=stepGR_op (P:=prog) (b:=b) (k:=l.map Item.code) (cs:=cs) (w:=w) (rest:=rest) ho hw
 rw[hb] at hg
 have hfin:∀v,(b.atR a (.inRegion ops (i :: rest) :: l.map Item.code)).finish v=b.atR (a.put o.dst v) (.inRegion ops rest :: l.map Item.code):=fun v=>by rw[Frame.finish_atR,ho];rfl
 have henter:step prog (lone (b.atR a (.inRegion ops (i :: rest) :: l.map Item.code)) cs w)=.next (lone (Frame.enter prog f args .normal) (b.atR a (.inRegion ops (i :: rest) :: l.map Item.code) :: cs) w1):=
  step_lone_go (by rw[hg];simp[stepG.apply,hr,Frame.atR])
 refine Via.from_ (.one h0 henter) ((hcv.2 _).on_ fun m' hm=>?_)
 obtain⟨v,w2,fr,hRc,rfl,sd,hleave⟩:=hm
 obtain⟨m2,h1,h2⟩:=Cz (hrest v w2 hRc) b cs hb hk hf hfn
 have hl:Fd (lone fr (b.atR a (.inRegion ops (i :: rest) :: l.map Item.code) :: cs) w2):=fenced_leaving (n:=0) (by rw[sd];exact hcv.1) (bD _) hleave
 refine⟨m2,.head hl ?_ h1,h2⟩
 rw[← hfin]
 exact step_leave_returned hleave
def ak(fn:Func)(R:Value→World→Prop)(l:List Code)(a:Act)(w:World):Prop:=∀ (b:Frame) (cs:List Frame),b.roundOf=none→b.kind=.normal→FF.fn b.fn→Tryz.prog.funcs[b.fn]? =some fn→Via (lone (b.atR a (l.map Item.code)) cs w) (Left b.fn cs R)
variable{l:List Code}{a:Act}{w:World}{x y:Code}
theorem ak.of_steps{l':List Code}{a':Act}{w':World}(hs:∀ (b:Frame) (cs:List Frame),b.roundOf=none→FF.fn b.fn→StepsIn Fd prog (lone (b.atR a (l.map Item.code)) cs w) (lone (b.atR a' (l'.map Item.code)) cs w'))
 (h:ak fn R l' a' w'):ak fn R l a w:=fun b cs hb hk hf hfn=>Via.from_ (hs b cs hb hf) (h b cs hb hk hf hfn)
theorem ak.seq(h:ak fn R (x :: y :: l) a w):ak fn R (.seq x y :: l) a w:=.of_steps (fun _ _ _ hf=>.head (fenced_calm (n:=0) hf (bD _) rfl) stepR_seq (.refl _)) h
theorem ak.skip(h:ak fn R l a w):ak fn R (.skip :: l) a w:=.of_steps (fun _ _ _ hf=>.head (fenced_calm (n:=0) hf (bD _) rfl) stepR_skip (.refl _)) h
theorem ak.cond{c:Operand}{t:Bool}(hc:a.eval c=.bool t)(h:ak fn R ((if t then x else y) :: l) a w):ak fn R (.cond c x y :: l) a w:=.of_steps (fun _ _ _ hf=>.head (fenced_calm (n:=0) hf (bD _) rfl) (stepR_cond hc) (.refl _)) h
theorem ak.cond_true{c:Operand}(hc:a.eval c=.bool true)(h:ak fn R (x :: l) a w):ak fn R (.cond c x y :: l) a w:=.cond hc h
theorem ak.cond_false{c:Operand}(hc:a.eval c=.bool false)(h:ak fn R (y :: l) a w):ak fn R (.cond c x y :: l) a w:=.cond hc h
theorem ak.item(h:x.wpIn FF 0 prog (Exit.then (ak fn R l) fun _ _ _=>False) a w):ak fn R (x :: l) a w:=fun b cs hb hk hf hfn=>by
 obtain⟨e,a1,w1,hq,hr⟩:=h b (l.map Item.code) cs hb hf (bD _)
 cases e <;> first|exact hq.elim|skip
 exact Via.from_ hr (hq b cs hb hk hf hfn)
theorem ak.runs{Stop:List Code→Act→World→Prop}(h:aG prog Stop l a w)(hs:∀l' a' w',Stop l' a' w'→ak fn R l' a' w'):ak fn R l a w:=fun b cs hb hk hf hfn=>by
 obtain⟨l',a',w',h1,h2⟩:=h b [] cs hb hf
 simp only[List.append_nil] at h2
 exact Via.from_ h2 (hs l' a' w' h1 b cs hb hk hf hfn)
theorem ak.region{id i:Nat}{l1 rest:List Nat}(hl:List.range ops.size=l1 ++ i :: rest)(h:wpOpsIn FF 0 prog ops (Exit.then (sZ ops i rest fn R l) fun _ _ _=>False) l1 a w):ak fn R (.region id ops false :: l) a w:=fun b cs hb hk hf hfn=>by
 obtain⟨a',w',hT,hs⟩:=lu (l2:=i :: rest) l1 a w h b (l.map Item.code) cs hb hf
 refine Via.from_ (.head (fenced_calm (n:=0) hf (bD _) rfl) stepR_region ?_) (hT.via b cs hb hk hf hfn)
 rw[hl]
 exact hs
theorem kH{f:FuncId}{c:Code}{args:Array Value}(hf:Tryz.prog.funcs[f]? =some fn)(hb:fn.body=some c)(hF:FF.fn f)(h:ak fn R [c] {tmps:=args ++ Array.replicate (fn.ntmps - args.size) undef,defers:=[] } w):iR f args w R:=by
 refine⟨hF,fun cs=>?_⟩
 have henter:Frame.enter prog f args .normal=(base f).atR {tmps:=args ++ Array.replicate (fn.ntmps - args.size) undef,defers:=[] } [.code c]:=by
  simp[Frame.enter,Frame.atR,hf,hb,base]
  rfl
 rw[henter]
 exact h (base f) cs rfl rfl hF hf
variable{F:Fence}{n:Nat}{P:Program}{md:Region.Mode}{S:World→Prop}{T:Act→World→Prop}{N:Nat}
theorem Nl:∀ (c t0 t:Nat) (listed:Array Bool),gY md ops c t0 listed=true→Region.linearise.go md ops c t listed []=(List.range c).map (t0+ ·)
 | 0,_,_,_,_=>by simp[Region.linearise.go]
 | c+1,t0,t,listed,h=>by
   simp only[gY,Bool.and_eq_true,beq_iff_eq] at h
   obtain⟨h1,h2⟩:=h
   simp only[Region.linearise.go]
   change (match (Region.ready md ops listed)[t % (Region.ready md ops listed).length]? with
    | some i=>Region.linearise.go md ops c (t / (Region.ready md ops listed).length) (listed.setIfInBounds i true) [i]
    | none=>[].reverse)=_
   rw[h1]
   simp only[List.length_singleton,Nat.mod_one,List.getElem?_cons_zero]
   rw[linearise_go_acc,Nl c (t0+1) _ _ h2,List.range_succ_eq_map]
   simp[Function.comp_def]
   omega
end
end
section
open Go Go.Conc Go.ConcN Go.cZ Go.Conc.Lib Go.aQ Go.Sort Go.RowKit
attribute [local go_sem] Oper.semAt_some
variable[Inhabited aZ]
section
variable{fn:Func}{R Rc:Value→World→Prop}{ops:Array Oper}{a:Act}{w:World}{l:List Code}
theorem lq{F:Fence}{n:Nat}{P:Program}{Q:Exit→Act→World→Prop}:∀ (lo:List Oper) (k:Nat) (a:Act) (w:World),(∀j,j<lo.length→lo[j]? =ops[k+j]?)→wpListIn F n P ops Q lo a w→wpOpsIn F n P ops Q (List.range' k lo.length) a w
 | [],_,_,_,_,h=>h
 | o :: lo,k,a,w,hj,h=>by
   have h0:ops[k]? =some o:=by simpa using (hj 0 zs).symm
   have ih:∀a w,wpListIn F n P ops Q lo a w→wpOpsIn F n P ops Q (List.range' (k+1) lo.length) a w:=fun a w h=>lq lo (k+1) a w (fun j hl=>by have:=hj (j+1) (by simpa using hl);simpa [Nat.add_assoc,Nat.add_comm 1 j] using this) h
   rw[List.length_cons,List.range'_succ,wpOpsIn_cons]
   refine wpOpIn_mono (fun a w h=>ih a w h) ?_
   unfold wpOpIn
   simp only[h0]
   exact h
theorem jr{lo:List Oper}{i:Nat}{o:Oper}{f:FuncId}{ag:Array Operand}{ats:Array TypeId}(ho:lo[i]? =some o)(hop:o.op=.call {callee:=.value (.func f),args:=ag,argTypes:=ats })(hw:Region.wanted o (yielded lo.toArray a.tmps)=true)(he:∀args w,(callFunc f args).run prog w=.ok (.enter f args) w)
 {args:Array Value}(ha:ag.map a.eval=args)(hv:iR f args w Rc)
 (hrest:∀v w2,Rc v w2→wpListIn FF 0 prog lo.toArray (Exit.then (Ap (bodyPost prog fn (Ez R)) l) (bodyPost prog fn (Ez R))) (lo.drop (i+1)) (a.put o.dst v) w2):sZ lo.toArray i (List.range' (i+1) (lo.drop (i+1)).length) fn R l a w:=by
 subst ha
 refine⟨o,f,ag.map a.eval,w,Rc,by simpa using ho,hw,?_,fun g hg=>?_,hv,fun v w2 h=>lq _ _ _ _ (fun j hj=>zs) (hrest v w2 h)⟩
 ·simp[Oper.semAt,execOp,hop,resolve,invoke,Act.eval,go_sem,he]
 ·simp[Oper.about,hop,resolve,Act.eval,go_sem,Target.leads] at hg
  rw[← hg]
  exact hv.1
theorem ak.mQ{id:Nat}{lo:List Oper}(i:Nat)(hi:i<lo.length)(h:wpListIn FF 0 prog lo.toArray (Exit.then (sZ lo.toArray i (List.range' (i+1) (lo.drop (i+1)).length) fn R l) fun _ _ _=>False) (lo.take i) a w):ak fn R (.region id lo.toArray false :: l) a w:=by
 refine ak.region (i:=i) (l1:=List.range' 0 (lo.take i).length) (rest:=List.range' (i+1) (lo.drop (i+1)).length) ?_ (lq _ 0 _ _ (fun j hj=>?_) h)
 ·have h1:(lo.take i).length=i:=zm
  have h2:(lo.drop (i+1)).length=lo.length - (i+1):=zs
  rw[h1,h2,List.size_toArray,List.range_eq_range',← List.range'_succ]
  have h3:=List.range'_append_1 (s:=0) (m:=i) (n:=lo.length - (i+1)+1)
  rw[Nat.zero_add] at h3
  rw[h3]
  congr 1
  omega
 ·have:j<i:=by have:=hj;simp at this;omega
  simp[this]
end
end
section
open Go Go.Conc Go.ConcN Go.cZ Go.Conc.Lib Go.aQ Go.Sort Go.RowKit
variable[Inhabited aZ]
section
variable{F:Fence}{n:Nat}{P:Program}{ops:Array Oper}{md:Region.Mode}{S:World→Prop}{T:Act→World→Prop}{N:Nat}
abbrev mT:Exit→Act→World→Prop:=fun _ _ _=>False
def wpAnyS(F:Fence)(n:Nat)(P:Program)(md:Region.Mode)(ops:Array Oper)(S:World→Prop)(T:Act→World→Prop)(N:Nat):Nat→Array Bool→Act→World→Prop
 | 0,listed,a,w=>(gY md ops (ops.size - N) N listed=true∧Region.ready md ops listed=[N])∧T a w
 | fuel+1,listed,a,w=>Region.ready md ops listed≠[]∧∀i∈Region.ready md ops listed,wpOpIn F n P ops mT i (fun a' w'=>S w'∧wpAnyS F n P md ops S T N fuel (listed.setIfInBounds i true) a' w') a w
theorem LQ(hro:F.round=none):∀ (fuel t:Nat) (listed:Array Bool) (a:Act) (w:World),wpAnyS F n P md ops S T N fuel listed a w→
 wpOpsIn F n P ops (Exit.then (fun a w=>T a w∧(Region.linearise.go md ops (ops.size - N+fuel) t listed []).drop fuel=(List.range (ops.size - N)).map (N+ ·)) mT) ((Region.linearise.go md ops (ops.size - N+fuel) t listed []).take fuel) a w
 | 0,t,listed,a,w,h=>⟨h.2,by rw[List.drop_zero];exact Nl _ _ _ _ h.1.1⟩
 | fuel+1,t,listed,a,w,h=>by
   obtain⟨hne,hall⟩:=h
   rw[show ops.size - N+(fuel+1)=(ops.size - N+fuel)+1 by omega]
   simp only[Region.linearise.go]
   have hlt2:t % (Region.ready md ops listed).length<(Region.ready md ops listed).length:=Nat.mod_lt _ (List.length_pos_iff.2 hne)
   have hgo:(match (Region.ready md ops listed)[t % (Region.ready md ops listed).length]? with
    | some i=>Region.linearise.go md ops (ops.size - N+fuel) (t / (Region.ready md ops listed).length) (listed.setIfInBounds i true) [i]
    | none=>[].reverse)=(Region.ready md ops listed)[t % (Region.ready md ops listed).length] :: Region.linearise.go md ops (ops.size - N+fuel) (t / (Region.ready md ops listed).length) (listed.setIfInBounds (Region.ready md ops listed)[t % (Region.ready md ops listed).length] true) []:=by
    rw[List.getElem?_eq_getElem hlt2]
    simp only[]
    rw[linearise_go_acc,List.reverse_singleton,List.singleton_append]
   change wpOpsIn F n P ops (Exit.then (fun a w=>T a w∧((match (Region.ready md ops listed)[t % (Region.ready md ops listed).length]? with
    | some i=>Region.linearise.go md ops (ops.size - N+fuel) (t / (Region.ready md ops listed).length) (listed.setIfInBounds i true) [i]
    | none=>[].reverse):List Nat).drop (fuel+1)=_) mT) (((match (Region.ready md ops listed)[t % (Region.ready md ops listed).length]? with
    | some i=>Region.linearise.go md ops (ops.size - N+fuel) (t / (Region.ready md ops listed).length) (listed.setIfInBounds i true) [i]
    | none=>[].reverse):List Nat).take (fuel+1)) a w
   rw[hgo]
   generalize hi:(Region.ready md ops listed)[t % (Region.ready md ops listed).length]=i
   have him:i∈Region.ready md ops listed:=by rw[← hi];exact List.getElem_mem hlt2
   rw[List.take_succ_cons,List.drop_succ_cons,wpOpsIn_cons]
   have h1:=hall i him
   have h2:=wpOpIn_mono (fun a' w' hK=>LQ hro fuel (t / (Region.ready md ops listed).length) (listed.setIfInBounds i true) a' w' hK.2) h1
   unfold wpOpIn at h2⊢
   split
   ·rename_i ho;simpa [ho] using h2
   ·rename_i o ho
    simp only[ho] at h2
    split
    ·rename_i hw
     simp only[hw,if_true] at h2
     refine⟨h2.1,?_⟩
     have h3:=h2.2
     generalize (o.semAt F.round a.eval).run P w=r at h3⊢
     cases r with
     | halt x w'=>cases x <;> first|exact h3.elim|exact h3
     | ok x w'=>
       cases x with
       | enter f args=>exact⟨h3.1,h3.2.mono fun e w h=>by
        cases e with
        | returned v=>exact h
        | panicked c=>exact h.elim
        | outgrown=>obtain⟨_,_,hx⟩:=h;exact hx.elim⟩
       | round l' f t x y=>exact⟨h3.1,h3.2.mono fun e w h=>by
        cases e with
        | returned v=>exact h
        | panicked c=>exact h.elim
        | outgrown=>obtain⟨_,_,hx⟩:=h;exact hx.elim⟩
       | _=>exact h3
    ·rename_i hw
     simp only[hw] at h2
     exact h2
theorem wpAnyS_first{i:Nat}{oi:Oper}{v:Value}(hro:F.round=none)(hs:Region.sinkB md ops N=true)(hc:Region.chainB md ops N=true)(hN:N<ops.size)(hi:ops[i]? =some oi)(hsel:∀ (j:Nat) (o:Oper) cs b,ops[j]? =some o→o.op≠.select cs b)(Xm:i<N):
 ∀ (fuel:Nat) (listed:Array Bool) (a:Act) (w:World),HeadInv md ops N listed→
   (∀j oj,ops[j]? =some oj→j≠i→listed.getD j true=false→(∀e∈oj.after,Region.binds md e=true→e.on≠i)→oi.apart ops oj=true)→
   i∈Region.ready md ops listed→bC P ops S oi v a→S w→
   wpAnyS F n P md ops S T N fuel (listed.setIfInBounds i true) (a.put oi.dst v) w→wpAnyS F n P md ops S T N (fuel+1) listed a w:=by
 intro fuel
 induction fuel with
 | zero=>
   intro listed a w inv _ hr hy hS H
   have hun:=(mem_ready.1 hr).1
   refine⟨fun h=>(by rw[h] at hr;cases hr),fun j hj=>?_⟩
   by_cases hji:j=i
   ·subst hji;exact hy.wpOpIn hro hi hS ⟨hS,H⟩
   ·have:=ready_mono hj hji
    rw[H.1.2] at this
    have h1:j=N:=by simpa using this
    exact absurd hj (tail_waits hs hc hN inv _ i rfl Xm hun j zo)
 | succ fuel ih=>
   intro listed a w inv hfree hr hy hS H
   have hun:=(mem_ready.1 hr).1
   refine⟨fun h=>(by rw[h] at hr;cases hr),fun j hj=>?_⟩
   by_cases hji:j=i
   ·subst hji;exact hy.wpOpIn hro hi hS ⟨hS,H⟩
   ·have hjN:j<N:=Nat.lt_of_not_le fun h=>tail_waits hs hc hN inv _ i rfl Xm hun j h hj
    have h1:=H.2 j (ready_mono hj hji)
    obtain⟨hjun,oj,hoj,hall⟩:=mem_ready.1 hj
    have hnot:∀e∈oj.after,Region.binds md e=true→e.on≠i:=fun e he hb heq=>by
     have h1:=hall e he hb
     have h0:=(mem_ready.1 hr).1
     rw[heq] at h1
     rcases Nat.lt_or_ge i listed.size with h'|h'
     ·simp[h'] at h0 h1;rw[h0] at h1;cases h1
     ·simp[Array.getElem?_eq_none h'] at h1
    have h2:=ny hro hoj (hfree j oj hoj hji hjun hnot) (fun cs b=>hsel i oi cs b hi) (fun cs b=>hsel j oj cs b hoj) (fun _ _ _ h=>h) hy h1
    have hfree':∀k ok,ops[k]? =some ok→k≠i→(listed.setIfInBounds j true).getD k true=false→
     (∀e∈ok.after,Region.binds md e=true→e.on≠i)→oi.apart ops ok=true:=fun k ok hk hki hun hno=>by
     refine hfree k ok hk hki ?_ hno
     by_cases hjk:j=k
     ·subst hjk;exact hjun
     ·rw[getD_set_ne true hjk] at hun;exact hun
    refine wpOpIn_mono (fun a' w' h3=>⟨h3.2.1,ih (listed.setIfInBounds j true) a' w' (inv.set hj hjN) hfree' (ready_mono hr (Ne.symm hji)) h3.1 h3.2.1 ?_⟩) h2
    rw[Array.setIfInBounds_comm _ _ hji]
    exact h3.2.2
def MC(md:Region.Mode)(ops:Array Oper)(N:Nat)(listed:Array Bool):Bool:=listed.size == ops.size && (List.range ops.size).all (fun j=>!listed.getD j false || ((ops[j]?).map fun o=>o.after.all fun e=>!Region.binds md e || listed.getD e.on false).getD true) && (List.range ops.size).all fun t=>decide (t<N) || !listed.getD t true
theorem OC{listed:Array Bool}(h:MC md ops N listed=true):HeadInv md ops N listed:=by
 simp only[MC,Bool.and_eq_true,beq_iff_eq,List.all_eq_true,List.mem_range] at h
 obtain⟨⟨h1,h2⟩,h3⟩:=h
 refine⟨h1,fun j oj hj hl e he hb=>?_,fun t ht ht'=>?_⟩
 ·have hjl:j<ops.size:=(Array.getElem?_eq_some_iff.1 hj).1
  have h4:=h2 j hjl
  rw[hl,hj] at h4
  simp only[Bool.not_true,Bool.false_or,Option.map_some,Option.getD_some] at h4
  obtain⟨k,hk,hke⟩:=Array.mem_iff_getElem.1 he
  have h5:=Array.all_eq_true.1 h4 k hk
  rw[hke,hb] at h5
  simpa using h5
 ·have h4:=h3 t ht'
  simp only[Bool.or_eq_true,decide_eq_true_eq,Bool.not_eq_true'] at h4
  exact h4.resolve_left zo
theorem IU{i:Nat}(d:Option Tmp){oi:Oper}{v:Value}{fuel:Nat}{listed:Array Bool}{a:Act}{w:World}(hro:F.round=none)(hB:(Region.sinkB md ops N && Region.chainB md ops N && decide (N<ops.size) && Region.noSelect ops)=true)(hi:ops[i]? =some oi)(Xm:i<N)
 (hh:MC md ops N listed=true)(hf:Region.free md ops listed i=true)(hr:(Region.ready md ops listed).contains i=true)(hd:oi.dst=d)(hy:bC P ops S oi v a)(hS:S w)
 (h:wpAnyS F n P md ops S T N fuel (listed.setIfInBounds i true) (a.put d v) w):wpAnyS F n P md ops S T N (fuel+1) listed a w:=by
 subst hd
 simp only[Bool.and_eq_true,decide_eq_true_eq] at hB
 obtain⟨⟨⟨b1,b2⟩,b3⟩,b4⟩:=hB
 exact wpAnyS_first hro b1 b2 b3 hi (Region.noSelect_spec b4) Xm fuel listed a w (OC hh) (Region.free_spec hi hf) (by simpa using hr) hy hS h
theorem nH{i:Nat}(d:Option Tmp){oi:Oper}{v:Value}{fuel:Nat}{listed:Array Bool}{a:Act}{w:World}(hS:S w)(h:wpAnyS F n P md ops S T N fuel (listed.setIfInBounds i true) (a.put d v) w)
 (hro:F.round=none:=by exact rfl)(hB:(Region.sinkB md ops N && Region.chainB md ops N && decide (N<ops.size) && Region.noSelect ops)=true:=by kernel_rfl)(hi:ops[i]? =some oi:=by exact rfl)(Xm:i<N:=by decide)
 (hh:MC md ops N listed=true:=by kernel_rfl)(hf:Region.free md ops listed i=true:=by kernel_rfl)(hr:(Region.ready md ops listed).contains i=true:=by kernel_rfl)(hd:oi.dst=d:=by rfl)
 (hy:bC P ops S oi v a:=by exact⟨Or.inl ⟨zr,by intro wq re;(try dsimp only at re);go_simp;all_goals with_reducible rfl⟩,fun _=>rfl⟩):wpAnyS F n P md ops S T N (fuel+1) listed a w:=
 IU d hro hB hi Xm hh hf hr hd hy hS h
theorem G5(i:Nat){o:Oper}{fuel:Nat}{listed:Array Bool}{a:Act}{w:World}
 (h:∀K':Act→World→Prop,Shut (∀a w,S w→wpAnyS F n P md ops S T N fuel (listed.setIfInBounds i true) a w→K' a w)→if Region.wanted o (yielded ops a.tmps)=true then Oper.wpIn F n P o a w K' mT else(∀f,o.about P w a.eval=some f→F.fn f)∧K' (a.put o.dst undef) w)(hr:Region.ready md ops listed=[i]:=by kernel_rfl)(ho:ops[i]? =some o:=by exact rfl):
 wpAnyS F n P md ops S T N (fuel+1) listed a w:=by
 refine⟨(fun h0=>by rw[hr] at h0;cases h0),fun j hj=>?_⟩
 rw[hr] at hj
 obtain rfl:j=i:=by simpa using hj
 exact wpOpIn_step ho fun K' hK=>h K' fun a w hS hW=>hK a w ⟨hS,hW⟩
theorem Lx{i i':Nat}{o o':Oper}{fuel:Nat}{listed:Array Bool}{a:Act}{w:World}(hr:Region.ready md ops listed=[i,i'])(ho:ops[i]? =some o)(ho':ops[i']? =some o')
 (h:∀K':Act→World→Prop,Shut (∀a w,S w→wpAnyS F n P md ops S T N fuel (listed.setIfInBounds i true) a w→K' a w)→if Region.wanted o (yielded ops a.tmps)=true then Oper.wpIn F n P o a w K' mT else(∀f,o.about P w a.eval=some f→F.fn f)∧K' (a.put o.dst undef) w)
 (h':∀K':Act→World→Prop,Shut (∀a w,S w→wpAnyS F n P md ops S T N fuel (listed.setIfInBounds i' true) a w→K' a w)→if Region.wanted o' (yielded ops a.tmps)=true then Oper.wpIn F n P o' a w K' mT else(∀f,o'.about P w a.eval=some f→F.fn f)∧K' (a.put o'.dst undef) w):
 wpAnyS F n P md ops S T N (fuel+1) listed a w:=by
 refine⟨(fun h0=>by rw[hr] at h0;cases h0),fun j hj=>?_⟩
 rw[hr] at hj
 simp only[List.mem_cons,List.not_mem_nil,or_false] at hj
 rcases hj with rfl|rfl
 ·exact wpOpIn_step ho fun K' hK=>h K' fun a w hS hW=>hK a w ⟨hS,hW⟩
 ·exact wpOpIn_step ho' fun K' hK=>h' K' fun a w hS hW=>hK a w ⟨hS,hW⟩
theorem vK{listed:Array Bool}{a:Act}{w:World}(hB:(gY md ops (ops.size - N) N listed && (Region.ready md ops listed == [N]))=true)(h:T a w):wpAnyS F n P md ops S T N 0 listed a w:=by
 simp only[Bool.and_eq_true,beq_iff_eq] at hB
 exact⟨hB,h⟩
end
section
variable{fn:Func}{R:Value→World→Prop}{l:List Code}{a:Act}{w:World}
theorem ak.H6{id:Nat}{lo:List Oper}(N:Nat)(S:World→Prop)(hN:N≤lo.length){rest:List Nat}(hrest:(List.range (lo.toArray.size - N)).map (N+ ·)=N :: rest)
 (h:wpAnyS FF 0 prog .any lo.toArray S (sZ lo.toArray N rest fn R l) N N (Array.replicate lo.toArray.size false) a w.drew):ak fn R (.region id lo.toArray true :: l) a w:=fun b cs hb hk hf hfn=>by
 have hm:Tryz.prog.follows .mixedOrders=true:=zk
 have k1:=LQ (F:=FF) rfl N (w.tape w.drawn (.order b.fn id)) _ a w.drew h
 have hsz:lo.toArray.size - N+N=lo.toArray.size:=zm
 rw[hsz] at k1
 obtain⟨a',w',⟨hCA,hdrop⟩,hs⟩:=lu (l2:=(Region.linearise.go .any lo.toArray lo.toArray.size (w.tape w.drawn (.order b.fn id)) (Array.replicate lo.toArray.size false) []).drop N) _ a _ k1 b (l.map Item.code) cs hb hf
 rw[hdrop,hrest] at hs
 refine Via.from_ (.head (fenced_calm (n:=0) hf (bD _) rfl) stepR_region_draw ?_) (hCA.via b cs hb hk hf hfn)
 have e:(Region.linearise.go .any lo.toArray lo.toArray.size (w.tape w.drawn (.order b.fn id)) (Array.replicate lo.toArray.size false) []).take N ++ N :: rest=Region.linearise.go .any lo.toArray lo.toArray.size (w.tape w.drawn (.order b.fn id)) (Array.replicate lo.toArray.size false) []:=by
  rw[← hrest,← hdrop,List.take_append_drop]
 rw[e] at hs
 simp only[Region.schedule,hm,Bool.true_or,if_true]
 exact hs
end
end
section
open Go.RowKit
theorem dw(n lo hi:Int)(w:World):CallsIn FF 0 prog 56 #[int i64 n,int i64 lo,int i64 hi] w fun e w'=>e=.returned (.bool (gI n lo hi))∧w=w':=by
 gi_enter func56,ntmps56
 gi_wp2
 all_goals (go_ret;refine⟨?_,rfl⟩;congr 2;unfold gI;first|rfl|(simp;omega)|simp_all)
theorem Vt(n lo hi:Int)(w:World):CallsIn FF 0 prog 56 #[int i64 n,int i64 lo,int i64 hi] w fun e w'=>e=.returned (.bool (gI n lo hi))∧∃m,w'=w.drewN m:=
 (dw n lo hi w).mono fun _ _ h=>⟨h.1,0,h.2 ▸ rfl⟩
def uR(a b lo hi:Int):Bool:=gI a lo b && decide (b≤hi)
theorem xS(a b lo hi:Int)(w:World):CallsIn FF 0 prog 50 #[.agg #[int i64 a,int i64 b],int i64 lo,int i64 hi] w fun e w'=>e=.returned (.bool (uR a b lo hi))∧Below w.heap.size w w':=by
 gi_enter func50,ntmps50
 gi_wp2_with (gi_at_call 56;refine(dw _ _ _ _).mono ?_;rintro e w' ⟨rfl,rfl⟩)
 all_goals (go_ret;refine⟨?_,bw⟩;congr 2;unfold uR;first|rfl|(simp;omega)|simp_all)
theorem gv(a b:Int)(w:World)(h:-1000≤a∧a≤1000∧-1000≤b∧b≤1000):CallsIn FF 0 prog 180 #[.agg #[int i64 a,int i64 b]] w fun e w'=>e=.returned (int i64 (b - a+1))∧Below w.heap.size w w':=by
 have e1:IntKind.i64.wrap (b - a)=b - a:=IntWalk.i64_in _ zo
 have e2:IntKind.i64.wrap (b - a+1)=b - a+1:=IntWalk.i64_in _ zo
 gi_enter func180,ntmps180
 gi_wp2
 all_goals (go_ret;refine⟨?_,bw⟩;first|rfl|(congr 2;simp_all))
theorem lQ{a b:Int}(h:tO a b=true):0≤a∧a≤b∧b≤99∧b - a<3:=by
 unfold tO at h
 simp only[Bool.and_eq_true,decide_eq_true_eq] at h
 have:=kS.1 h.1
 omega
theorem uf(a b:Int)(w:World)(h:tO a b=true):CallsIn FF 0 prog 173 #[.agg #[int i64 a,int i64 b]] w fun e w'=>e=.returned (.bool true)∧Below w.heap.size w w':=by
 obtain⟨f1,f2,f3,f4⟩:=lQ h
 have H1:∀w,CallsIn FF 0 prog 50 #[.agg #[int i64 a,int i64 b],int i64 0,int i64 99] w fun e w'=>e=.returned (.bool true)∧Below w.heap.size w w':=fun w=>by
  have e:uR a b 0 99=true:=by unfold uR gI;simp;omega
  have:=xS a b 0 99 w
  rwa[e] at this
 gi_enter func173,ntmps173
 gi_wp2_with (first|(gi_at_call 50;refine(H1 _).mono ?_;rintro e w1 ⟨rfl,hb1⟩;obtain⟨hc1,hf1⟩:=fJ hb1)|(gi_at_call 180;refine(gv _ _ _ zo).mono ?_;rintro e w2 ⟨rfl,hb2⟩))
 go_ret
 exact⟨congrArg Ending.returned (congrArg Value.bool (decide_eq_true (show b - a+1≤3 by omega))),(((Below.refl _ _).alloc (Nat.le_refl _) _).trans (hb1.mono zs)).trans (hb2.mono (by have:=hb1.size;simp at this;omega))⟩
section
theorem tV(b:Bk)(i:Int)(w:World)(h:b.ng≤maxLen):CallsIn FF 0 prog 74 #[b.val,int i64 i] w fun e w'=>e=.returned (.bool (gI i 0 ((b.ng:Int) - 1)))∧Below w.heap.size w w':=by
 obtain⟨days,most,gA,ng,gc,g,mA,nm,mc,m,cA,nc,cc,c⟩:=b
 simp only[Bk.val,Bk.cells]
 simp only at h
 unfold maxLen at h
 have e1:IntKind.i64.wrap ((ng:Int) - 1)=(ng:Int) - 1:=IntWalk.i64_in _ zo
 gi_enter func74,ntmps74
 gi_wp2_with (gi_at_call 56;refine(dw _ _ _ _).mono ?_;rintro e w' ⟨rfl,rfl⟩)
 all_goals (go_ret;refine⟨?_,bw⟩;first|rfl|(rw[← e1];rfl)|(congr 2;simp_all))
theorem Cj(b:Bk)(i:Int)(w:World)(h:b.nm≤maxLen):CallsIn FF 0 prog 77 #[b.val,int i64 i] w fun e w'=>e=.returned (.bool (gI i 0 ((b.nm:Int) - 1)))∧Below w.heap.size w w':=by
 obtain⟨days,most,gA,ng,gc,g,mA,nm,mc,m,cA,nc,cc,c⟩:=b
 simp only[Bk.val,Bk.cells]
 simp only at h
 unfold maxLen at h
 have e1:IntKind.i64.wrap ((nm:Int) - 1)=(nm:Int) - 1:=IntWalk.i64_in _ zo
 gi_enter func77,ntmps77
 gi_wp2_with (gi_at_call 56;refine(dw _ _ _ _).mono ?_;rintro e w' ⟨rfl,rfl⟩)
 all_goals (go_ret;refine⟨?_,bw⟩;first|rfl|(rw[← e1];rfl)|(congr 2;simp_all))
theorem xO(b:Bk)(i:Int)(w:World):CallsIn FF 0 prog 40 #[b.val,int i64 i] w fun e w'=>e=.returned (.bool (gI i 0 b.days))∧Below w.heap.size w w':=by
 obtain⟨days,most,gA,ng,gc,g,mA,nm,mc,m,cA,nc,cc,c⟩:=b
 simp only[Bk.val,Bk.cells]
 gi_enter func40,ntmps40
 gi_wp2_with (gi_at_call 56;refine(dw _ _ _ _).mono ?_;rintro e w' ⟨rfl,rfl⟩)
 all_goals (go_ret;refine⟨?_,bw⟩;first|rfl|(congr 2;simp_all))
theorem GK(b:Bk)(w:World)(h:b.nm≤6):CallsIn FF 0 prog 149 #[b.val] w fun e w'=>e=.returned (.tuple #[int i64 b.nm,.bool true])∧Below w.heap.size w w':=by
 obtain⟨days,most,gA,ng,gc,g,mA,nm,mc,m,cA,nc,cc,c⟩:=b
 simp only[Bk.val,Bk.cells]
 simp only at h
 have e1:decide ((nm:Int)≤6)=true:=decide_eq_true zo
 gi_enter func149,ntmps149
 gi_wp2
 gi_quiet (fail)
 gi_wp2
 all_goals (go_ret2;refine⟨?_,bw⟩;first|rfl|(simp only[e1];rfl)|trace_state)
theorem Eo(b:Bk)(w:World)(h:b.nc≤4):CallsIn FF 0 prog 151 #[b.val] w fun e w'=>e=.returned (.tuple #[int i64 b.nc,.bool true])∧Below w.heap.size w w':=by
 obtain⟨days,most,gA,ng,gc,g,mA,nm,mc,m,cA,nc,cc,c⟩:=b
 simp only[Bk.val,Bk.cells]
 simp only at h
 have e1:decide ((nc:Int)≤4)=true:=decide_eq_true zo
 gi_enter func151,ntmps151
 gi_wp2
 gi_quiet (fail)
 gi_wp2
 all_goals (go_ret2;refine⟨?_,bw⟩;first|rfl|(simp only[e1];rfl)|trace_state)
theorem GJ(b:Bk)(w:World)(h:1≤b.ng∧b.ng≤3):CallsIn FF 0 prog 147 #[b.val] w fun e w'=>e=.returned (.tuple #[int i64 b.ng,.bool true])∧Below w.heap.size w w':=by
 obtain⟨days,most,gA,ng,gc,g,mA,nm,mc,m,cA,nc,cc,c⟩:=b
 simp only[Bk.val,Bk.cells]
 simp only at h
 have e1:gI (ng:Int) 1 3=true:=by unfold gI;simp;omega
 gi_enter func147,ntmps147
 gi_wp2
 gi_quiet ((gi_at_call 56;exact CallsIn.quiet_of (Vt _ _ _ _)))
 gi_wp2
 all_goals (go_ret2;refine⟨?_,bw⟩;first|rfl|(simp only[e1];rfl)|trace_state)
end
theorem TS{s:ByteArray}(h:jN s=true):1≤s.size∧s.size≤10∧∀i,i<s.size→nameAt s i=true:=by
 unfold jN at h
 simp only[Bool.and_eq_true,decide_eq_true_eq] at h
 exact⟨h.1.1,h.1.2,h.2⟩
theorem gC(s:ByteArray)(w:World)(hs:jN s=true):
 CallsIn FF 0 prog 170 #[.string s] w fun e w'=>e=.returned (.bool true)∧w'=w:=by
 obtain⟨h1,h10,hN⟩:=TS hs
 have H:∀w,CallsIn FF 0 prog 56 #[int i64 s.size,int i64 1,int i64 10] w fun e w'=>e=.returned (.bool true)∧w=w':=fun w=>by
  have:=dw s.size 1 10 w
  rwa[show gI (s.size:Int) 1 10=true by unfold gI;simp;omega] at this
 gi_enter func170,ntmps170
 gi_wp2_with (gi_at_call 56;refine(H _).mono ?_;rintro e w' ⟨rfl,rfl⟩)
 gi_loop [13] (fun i=>∃k:Nat,k≤s.size∧i=int i64 k) (fun i=>s.size - (intOf i).toNat)
 case atStart=>exact⟨0,Nat.zero_le _,rfl⟩
 case round=>
  obtain⟨k,hk,rfl⟩:=hrel
  by_cases hlt:k<s.size
  ·have hn:=hN k hlt
   rw[lV hlt] at hn
   unfold Em JH at hn
   simp at hn
   gi_wp2_with (first|(exact absurd ‹some undef=some (Value.bool _)› (by simp[undef])))
   all_goals first
    | (go_round
       case rel=>exact⟨k+1,zo,by go_num⟩
       case measure=>simp[intOf];omega)
    | (exfalso;simp_all;omega)
    | trace_state
  ·gi_wp2
   go_ret
   exact⟨rfl,rfl⟩
end
end Go.Proofs.YtmjjocnfidnelaaGreat
