/- Crew1 Crew2 Crew3 Crew4 -/
import Derived.Test.YthaelabgfnnebaaGreatC2
import Derived.Conc.CrowdStepC
import Derived.Conc.CrowdComm
import Derived.Conc.WgGenN2
import Derived.Conc.WgGenN3
set_option maxRecDepth 100000
set_option maxHeartbeats 16000000
set_option linter.unusedVariables false
set_option linter.unusedSectionVars false
open Go.IntKind(i64)
open Go.Value(int)
namespace Go.aO
section
open Go.Conc Go.ConcN Go.cu
open Go.ConcR (KK WgAt stA smA rd wr mk g_of_ofEvents)
variable[Inhabited aV]
variable{P:Program}
structure Lay(O C:Nat→Nat→Prop)(S:Nat→Prop)(w:World):Prop where
 own:∀k k' b,O k b→O k' b→k=k'
 oQ:∀k k' b,O k b→¬ C k' b
 nu:∀k b,O k b→¬ S b
 cS:∀k b,C k b→¬ S b
 Mg:∀k b,O k b→b<w.heap.size
 Oe:∀k b,C k b→b<w.heap.size
 Mh:∀b,S b→b<w.heap.size
def gY(O:Nat→Nat→Prop)(k:Nat)(l:Loc):Prop:=In (O k) l
def Dk(C:Nat→Nat→Prop)(k:Nat)(l:Loc):Prop:=In (C k) l
section
variable{O C:Nat→Nat→Prop}{S:Nat→Prop}{w w1:World}{k:Nat}{O1:Nat→Prop}{new:List Event}
theorem Lay.apart(h:Lay O C S w):Apart (In S) (gY O) (Dk C):=by
 refine⟨fun k k' l a b=>?_,fun k k' l a b=>?_,fun k l a b=>?_,fun k l a b=>?_⟩ <;> cases l <;> simp only[gY,Dk,In] at a b
 ·exact h.own _ _ _ a b
 ·exact h.own _ _ _ a b
 ·exact h.oQ _ _ _ a b
 ·exact h.oQ _ _ _ a b
 ·exact h.nu _ _ a b
 ·exact h.nu _ _ a b
 ·exact h.cS _ _ a b
 ·exact h.cS _ _ a b
theorem Lay.grow(h:Lay O C S w)(hs:w.heap.size≤w1.heap.size):Lay O C S w1:=
 ⟨h.own,h.oQ,h.nu,h.cS,fun k b a=>Nat.lt_of_lt_of_le (h.Mg k b a) hs,fun k b a=>Nat.lt_of_lt_of_le (h.Oe k b a) hs,fun b a=>Nat.lt_of_lt_of_le (h.Mh b a) hs⟩
theorem Lay.did(h:Lay O C S w)(d:Did (C k) (O k) O1 w w1 new):Lay (qR O k O1) C S w1:=by
 have hs:=d.size
 have old:∀i b,qR O k O1 i b→O i b∨(i=k∧w.heap.size≤b∧b<w1.heap.size):=fun i b hb=>by
  by_cases e:i=k
  ·subst e
   rw[bK] at hb
   rcases(d.own b).1 hb with h1|h1
   ·exact .inl h1
   ·exact .inr ⟨rfl,h1⟩
  ·rw[dW O O1 e] at hb;exact .inl hb
 refine⟨fun i i' b a a'=>?_,fun i i' b a c=>?_,fun i b a c=>?_,h.cS,fun i b a=>?_,fun i b a=>Nat.lt_of_lt_of_le (h.Oe i b a) hs,fun b a=>Nat.lt_of_lt_of_le (h.Mh b a) hs⟩
 ·rcases old i b a with x|⟨ei,x,_⟩ <;> rcases old i' b a' with x'|⟨Dd,x',_⟩
  ·exact h.own _ _ _ x x'
  ·have:=h.Mg _ _ x;omega
  ·have:=h.Mg _ _ x';omega
  ·exact ei.trans Dd.symm
 ·rcases old i b a with x|⟨_,x,_⟩
  ·exact h.oQ _ _ _ x c
  ·have:=h.Oe _ _ c;omega
 ·rcases old i b a with x|⟨_,x,_⟩
  ·exact h.nu _ _ x c
  ·have:=h.Mh _ c;omega
 ·rcases old i b a with x|⟨_,_,x⟩
  ·exact Nat.lt_of_lt_of_le (h.Mg _ _ x) hs
  ·exact x
theorem Lay.keeps(h:Lay O C S w)(d:Did (C k) (O k) O1 w w1 new){i:Nat}(hi:i≠k):Keeps (C i) (O i) w w1:=fun b hb=>by
 rcases hb with hb|hb
 ·exact d.other b (h.Mg _ _ hb) fun e=>hi (h.own _ _ _ hb e)
 ·exact d.other b (h.Oe _ _ hb) fun e=>h.oQ _ _ _ e hb
theorem Lay.common(h:Lay O C S w)(d:Did (C k) (O k) O1 w w1 new){i b:Nat}(hb:C i b):w1.heap[b]? =w.heap[b]?:=d.other b (h.Oe _ _ hb) fun e=>h.oQ _ _ _ e hb
theorem Lay.shared(h:Lay O C S w)(d:Did (C k) (O k) O1 w w1 new){b:Nat}(hb:S b):w1.heap[b]? =w.heap[b]?:=d.other b (h.Mh _ hb) fun e=>h.nu _ _ e hb
theorem xC{e:Event}(h:Qu O1 (C k) e)(fn:FuncId)(pos:String):OkW (In S) (gY (qR O k O1)) (Dk C) k {g:=k,fn,pos,act:=.ofEvent e }:=by
 rcases h with rfl|⟨hs,h⟩
 ·exact⟨rfl,fun x hx=>by simp[MemAct.ofEvent,MemAct.touch?] at hx⟩
 obtain⟨loc,wr,sy⟩:=e
 simp only at hs h
 subst hs
 refine⟨rfl,fun x hx=>?_⟩
 rcases h with⟨a,rfl,h⟩|⟨r,rfl,h⟩
 ·have e1:MemAct.ofEvent ⟨.cell a,wr,false⟩=.access ⟨.cell a,wr,false⟩:=by cases wr <;> rfl
  rw[e1] at hx
  simp only[MemAct.touch?,Option.some.injEq] at hx
  subst hx
  rcases h with h|⟨hw,h⟩
  ·exact .inr (.inl (by simp only[gY,In,bK];exact h))
  ·exact .inr (.inr ⟨h,hw⟩)
 ·have e1:MemAct.ofEvent ⟨.obj r,wr,false⟩=.access ⟨.obj r,wr,false⟩:=by cases wr <;> rfl
  rw[e1] at hx
  simp only[MemAct.touch?,Option.some.injEq] at hx
  subst hx
  exact .inr (.inl (by simp only[gY,In,bK];exact h))
theorem Kj{j:Nat}(hL:Lay O C S w1){e:Event}{C0:Nat→Prop}(h:Qu O1 C0 e)(h1:∀b,O1 b→(∀i,1≤i→¬ O i b∧¬ C i b)∧¬ S b)(h2:∀b,C0 b→(∀i,1≤i→¬ O i b)∧¬ S b)(fn:FuncId)(pos:String):
 Ok0 (In S) (gY O) (Dk C) j {g:=0,fn,pos,act:=.ofEvent e }:=by
 rcases h with rfl|⟨hs,h⟩
 ·exact⟨rfl,fun x hx=>by simp[MemAct.ofEvent,MemAct.touch?] at hx⟩
 obtain⟨loc,wr,sy⟩:=e
 simp only at hs h
 subst hs
 refine⟨rfl,fun x hx=>?_⟩
 rcases h with⟨a,rfl,h⟩|⟨r,rfl,h⟩
 ·have e1:MemAct.ofEvent ⟨.cell a,wr,false⟩=.access ⟨.cell a,wr,false⟩:=by cases wr <;> rfl
  rw[e1] at hx
  simp only[MemAct.touch?,Option.some.injEq] at hx
  subst hx
  rcases h with h|⟨hw,h⟩
  ·exact .inr ⟨(h1 _ h).2,fun i hi _=>((h1 _ h).1 i hi).1,fun _ i hi _=>((h1 _ h).1 i hi).2⟩
  ·exact .inr ⟨(h2 _ h).2,fun i hi _=>(h2 _ h).1 i hi,fun hw2=>by simp only at hw hw2;rw[hw] at hw2;cases hw2⟩
 ·have e1:MemAct.ofEvent ⟨.obj r,wr,false⟩=.access ⟨.obj r,wr,false⟩:=by cases wr <;> rfl
  rw[e1] at hx
  simp only[MemAct.touch?,Option.some.injEq] at hx
  subst hx
  exact .inr ⟨(h1 _ h).2,fun i hi _=>((h1 _ h).1 i hi).1,fun _ i hi _=>((h1 _ h).1 i hi).2⟩
theorem CT.congr{Sh:Loc→Prop}{Own Own' Rd Rd':Nat→Loc→Prop}{t:Trace}{j:Nat}(h:CT Sh Own Rd t j)(h1:∀k,1≤k→k≤j→Own' k=Own k)(h2:∀k,1≤k→k≤j→Rd' k=Rd k):CT Sh Own' Rd' t j:=
 ⟨h.quiet,fun k a b l hl=>h.own k a b l (by rw[← h1 k a b];exact hl),fun k a b l hl=>h.rd k a b l (by rw[← h2 k a b];exact hl),
  fun l hs hl=>h.free l hs fun k a b=>by rw[← h1 k a b,← h2 k a b];exact hl k a b,fun l hs hl=>h.mine l hs fun k a b=>by rw[← h1 k a b];exact hl k a b,h.nr,h.gs⟩
theorem mem_seen{g:Nat}{fn:FuncId}{pos:String}{es:Array Event}{op:MemOp}(h:op∈MemOp.ofEvents g fn pos es):∃e∈es,op={g,fn,pos,act:=.ofEvent e }:=by
 rw[ofEvents_eq] at h
 obtain⟨e,he,rfl⟩:=Array.mem_map.1 h
 exact⟨e,he,rfl⟩
theorem cF(hL:Lay O C S w){es:Array Event}(d:Did (C k) (O k) O1 w w1 es.toList){t:Trace}{j:Nat}(hT:Qh t w)(h:CT (In S) (gY O) (Dk C) t j)(k1:1≤k)(kj:k≤j)(fn:FuncId)(pos:String):
 CT (In S) (gY (qR O k O1)) (Dk C) (t ++ MemOp.ofEvents k fn pos es) j:=by
 have hg:CT (In S) (gY (qR O k O1)) (Dk C) t j:=by
  refine Go.cu.CT.grow h (fun i l ho=>?_) (fun i l ho=>?_)
  ·by_cases e:i=k
   ·subst e
    cases l <;> simp only[gY,In,bK] at ho⊢
    ·exact(d.own _).2 (.inl ho)
    ·exact(d.own _).2 (.inl ho)
   ·simp only[gY,dW O O1 e] at ho⊢;exact ho
  ·by_cases e:i=k
   ·subst e
    cases l <;> simp only[gY,In,bK] at ho⊢
    ·rcases(d.own _).1 ho with ho|⟨ho,_⟩
     ·exact .inl ho
     ·refine .inr fun q x hx e=>?_
      have:=hT q x hx
      rw[e] at this
      have:=this _ rfl
      omega
    ·rcases(d.own _).1 ho with ho|⟨ho,_⟩
     ·exact .inl ho
     ·refine .inr fun q x hx e=>?_
      have:=hT q x hx
      rw[e] at this
      have:=this _ rfl
      omega
   ·simp only[gY,dW O O1 e] at ho⊢;exact .inl ho
 refine CT.appW (hL.did d).apart hg k1 kj fun op hop=>?_
 obtain⟨e,he,rfl⟩:=mem_seen hop
 exact xC (d.evs e (by simpa using he)) fn pos
theorem oL{t u:Trace}(hT:Qh t w)(hs:w.heap.size≤w1.heap.size)(hu:∀op∈u,∀x,op.act.touch?=some x→∀b,In (fun y=>y=b) x.loc→b<w1.heap.size):Qh (t ++ u) w1:=by
 intro i a ha b hb
 obtain⟨x,hx,hxa⟩:=touch_of ha
 rcases getElem?_append_cases hx with⟨hi,hx'⟩|⟨_,hxu⟩
 ·exact Nat.lt_of_lt_of_le (hT i a (by rw[touchAt_of hx'];exact hxa) b hb) hs
 ·exact hu x hxu a hxa b hb
theorem lW{e:Event}{O1 C0:Nat→Prop}(h:Qu O1 C0 e){x:Touch}(hx:(MemAct.ofEvent e).touch?=some x){b:Nat}(hb:In (fun y=>y=b) x.loc):O1 b∨C0 b:=by
 rcases h with rfl|⟨hs,h⟩
 ·simp[MemAct.ofEvent,MemAct.touch?] at hx
 obtain⟨loc,wr,sy⟩:=e
 simp only at hs h
 subst hs
 rcases h with⟨a,rfl,h⟩|⟨r,rfl,h⟩
 ·have e1:MemAct.ofEvent ⟨.cell a,wr,false⟩=.access ⟨.cell a,wr,false⟩:=by cases wr <;> rfl
  rw[e1] at hx
  simp only[MemAct.touch?,Option.some.injEq] at hx
  subst hx
  simp only[In] at hb
  subst hb
  rcases h with h|⟨_,h⟩
  ·exact .inl h
  ·exact .inr h
 ·have e1:MemAct.ofEvent ⟨.obj r,wr,false⟩=.access ⟨.obj r,wr,false⟩:=by cases wr <;> rfl
  rw[e1] at hx
  simp only[MemAct.touch?,Option.some.injEq] at hx
  subst hx
  simp only[In] at hb
  subst hb
  exact .inl h
end
end
section
open Go.Conc Go.ConcN Go.cu Go.Conc.Lib
open Go.ConcR (KK WgAt stA smA rd wr g_of_ofEvents Payload DC0)
variable[Inhabited aV]
section
variable(P:Program)(L:WgLink)(Wg:Nat)
def uC(w w₁:World):Prop:=WgLive L.tWg Wg w→WgLive L.tWg Wg w₁
def gH(Stop:Goroutine→World→Prop)(m:Nat)(g:Goroutine)(w:World):Prop:=Goes P true (uC L Wg) DC0 Stop m g w
def sn:Event:=⟨.mark (.read ⟨Wg,1,none⟩),false,true⟩
def sq:Event:=⟨.mark (.write ⟨Wg,1,none⟩),false,true⟩
def js(R g:Goroutine)(w:World):Prop:=g.status=.running∧∃g',stepG P true g w=.go g' w #[Go.ConcR.mk .enable]∧∃m,gH P L Wg (fun g _=>g=R) m g' w
def U'(R g:Goroutine)(w:World):Prop:=g.status=.running∧∃g',stepG P true g w=.go g' w #[sn Wg]∧∃m,gH P L Wg (js P L Wg R) m g' w
def lB(R g:Goroutine)(w:World):Prop:=U' P L Wg R g w∨js P L Wg R g w
def ly(R g:Goroutine)(w:World):Prop:=
 g.status=.running∧∀v:Nat,v<2147483647→WgAt L.tWg Wg w (v * KK) 0→∃g',stepG P true g w=.go g' (w.setCell (stA Wg) (.int .u64 ((v+1) * KK))) #[rd (stA Wg),wr (stA Wg)]∧∃m,gH P L Wg (lB P L Wg R) m g' (w.setCell (stA Wg) (.int .u64 ((v+1) * KK)))
def lz(R g:Goroutine)(w:World):Prop:=g.status=.running∧∃g',stepG P true g w=.go g' w #[Go.ConcR.mk .disable]∧∃m,gH P L Wg (ly P L Wg R) m g' w
variable(Anch:Goroutine→World→Prop)(Fin:Goroutine→Prop)
def Ja(g:Goroutine)(w:World):Prop:=g.status=.running∧∃g',stepG P true g w=.go g' w #[Go.ConcR.mk (.acquire (stA Wg))]∧Fin g'
def Zi(g:Goroutine)(w:World):Prop:=g.status=.running∧∃g',stepG P true g w=.go g' w #[Go.ConcR.mk .enable]∧∃m,gH P L Wg (Ja P Wg Fin) m g' w
def W4(g:Goroutine)(w:World):Prop:=g.status=.running∧(WgAt L.tWg Wg w 0 0→∃g',stepG P true g w=.go g' w #[rd (stA Wg)]∧∃m,gH P L Wg (Zi P L Wg Fin) m g' w)
def W3(g:Goroutine)(w:World):Prop:=
 g.status=.running∧g.offers=none∧((∃st,WgAt L.tWg Wg w st 0)→stepG P true g w=.go {g with status:=.blocked } w #[])∧
  (WgAt L.tWg Wg w 0 1→∃g',stepG P true g w=.go g' (w.setCell (smA Wg) (.int .u32 0)) (semEvents (smA Wg))∧∃m,gH P L Wg (W4 P L Wg Fin) m g' (w.setCell (smA Wg) (.int .u32 0)))
def B0(g:Goroutine)(w:World):Prop:=g.status=.running∧∃g',stepG P true g w=.go g' w #[sq Wg]∧∃m,gH P L Wg (W3 P L Wg Fin) m g' w
def nz(g:Goroutine)(w:World):Prop:=B0 P L Wg Fin g w
def W2(vs:Nat)(g:Goroutine)(w:World):Prop:=
 g.status=.running∧∀v:Nat,v<2147483648→WgAt L.tWg Wg w (v * KK) 0→
  (v=vs→∃g',stepG P true g w=.go g' (w.setCell (stA Wg) (.int .u64 (v * KK+1))) #[rd (stA Wg),wr (stA Wg)]∧∃m,gH P L Wg (nz P L Wg Fin) m g' (w.setCell (stA Wg) (.int .u64 (v * KK+1))))∧
  (v≠vs→∃g',stepG P true g w=.go g' w #[rd (stA Wg)]∧∃m,gH P L Wg Anch m g' w)
def W1(g:Goroutine)(w:World):Prop:=
 g.status=.running∧∀v:Nat,v<2147483648→WgAt L.tWg Wg w (v * KK) 0→∃g',stepG P true g w=.go g' w #[rd (stA Wg)]∧
  (v=0→∃m,gH P L Wg (Zi P L Wg Fin) m g' w)∧(v≠0→∃m,gH P L Wg (W2 P L Wg Anch Fin v) m g' w)
def b8(g:Goroutine)(w:World):Prop:=g.status=.running∧∃g',stepG P true g w=.go g' w #[Go.ConcR.mk .disable]∧∃m,gH P L Wg Anch m g' w
end
end
section
open Go.Conc Go.ConcN Go.RowKit Go.Conc.Lib Go.ConcR.Gen Go.ConcN.Gen
open Go.ConcR (KK wgBlock WgAt stA smA rd wr mk Payload Aside2 DC0)
variable[Payload]{L:WgLink}{P:Program}{Wg:Nat}
omit [Payload] in
theorem ah{w w₁:World}(h:WgLive L.tWg Wg w)(r:uC L Wg w w₁):WgLive L.tWg Wg w₁:=r h
section
variable{b₀:Frame}{a₀:Act}{ops₀:Array Oper}{i₀:Nat}{rest₀:List Nat}{k₀:List Item}{cs:List Frame}
abbrev qm(b₀:Frame)(a₀:Act)(ops₀:Array Oper)(i₀:Nat)(rest₀:List Nat)(k₀:List Item)(cs:List Frame):Goroutine:=G (b₀.at (a₀.put ((ops₀[i₀]?).bind (·.dst)) (.tuple #[])) (.inRegion ops₀ rest₀ :: k₀)) cs
theorem Ra(H:WgLib P L)(w:World)(hF:WgLive L.tWg Wg w):
 gH P L Wg (lz P L Wg (qm b₀ a₀ ops₀ i₀ rest₀ k₀ cs)) 20 (G ((base L.add).at ⟨#[.pointer (some ⟨Wg,0,none⟩),int i64 1,undef,undef,undef,undef,undef,undef,undef,undef,undef,undef,undef,undef,undef,undef,undef,undef,undef,undef,undef,undef,undef,undef,undef,undef,undef,undef,undef,undef,undef,undef,undef,undef,undef,undef,undef,undef,undef,undef,undef,undef,undef,undef,undef,undef,undef,undef,undef,undef,undef,undef,undef,undef,undef,undef,undef,undef,undef,undef,undef,undef,undef,undef,undef,undef,undef,undef,undef,undef,undef,undef,undef,undef,undef,undef,undef,undef,undef,undef,undef,undef,undef,undef,undef,undef,undef,undef,undef,undef,undef,undef,undef,undef,undef,undef,undef,undef,undef,undef,undef,undef,undef,undef,undef,undef,undef,undef,undef,undef,undef,undef,undef,undef,undef,undef,undef],[]⟩ [.code (body_add L)]) (b₀.at a₀ (.inRegion ops₀ (i₀ :: rest₀) :: k₀) :: cs)) w:=by
 lib_facts
 unfold gH
 simp only[body_add,addFn,Option.getD_some]
 u_c stepG_seq ah hF
 u_cond true ah hF
 u_c stepG_seq ah hF
 u_c stepG_seq ah hF
 u_reg ah hF
 u_op ah hF
 u_op ah hF
 u_c stepG_region_end ah hF
 u_cond false ah hF
 u_c stepG_skip ah hF
 u_c stepG_seq ah hF
 u_reg ah hF
 refine Goes.stop (fun w1 h1=>?_)
 replace hF:=ah hF h1
 clear h1
 refine⟨rfl,_,stepG_mark0 .disable zs rfl rfl (by k_ne) rfl H.f_disable (x_disable_n L) (x_disable_b L) (x_disable_x L) (x_disable_f L),60,?_⟩
 unfold gH
 walk_nrm
 u_c stepG_region_end ah hF
 u_reg ah hF
 u_defer ah hF
 u_c stepG_region_end ah hF
 u_c stepG_seq ah hF
 u_reg ah hF
 u_op ah hF
 u_c stepG_region_end ah hF
 u_c stepG_seq ah hF
 u_c stepG_seq ah hF
 u_reg ah hF
 u_bub ah hF
 u_c stepG_region_end ah hF
 u_cond false ah hF
 u_c stepG_skip ah hF
 u_c stepG_seq ah hF
 u_reg ah hF
 iterate 6 u_op ah hF
 u_call H.f_uAdd (nm_uAdd L) uAddFn ah hF
 u_c stepG_seq ah hF
 u_reg ah hF
 u_op ah hF
 u_c stepG_region_end ah hF
 u_c stepG_seq ah hF
 u_reg ah hF
 iterate 4 u_op ah hF
 refine Goes.stop (fun w2 h2=>?_)
 replace hF:=ah hF h2
 clear h2
 refine⟨rfl,fun v hv hw=>?_⟩
 rcases Nat.eq_zero_or_pos v with rfl|hvp
 ·replace hw:WgAt L.tWg Wg w2 0 0:=by simpa using hw
  have z:(((0:Nat):Int)+1) * KK=KK:=zs
  rw[z]
  have e0:IntKind.u64.wrap (0+4294967296)=KK:=zD
  refine⟨_,(stepG_add_atomic rfl rfl (by k_ne) rfl H.f_addU64 (x_addU64_n L) (x_addU64_b L) (x_addU64_x L) .u64 (x_addU64_f L) rfl rfl hw.cellSt (hw.thaw 0)).trans (by rw[e0];rfl),110,?_⟩
  replace hF:WgLive L.tWg Wg (w2.setCell (stA Wg) (.int .u64 KK)):=⟨_,_,hw.setSt _⟩
  clear hw
  simp only[KK] at hF⊢
  unfold gH
  walk_nrm
  u_op ah hF
  u_c stepG_region_end ah hF
  u_c stepG_ret' ah hF
  u_leave1 H.f_uAdd ah hF
  u_op ah hF
  u_c stepG_region_end ah hF
  u_c stepG_seq ah hF
  u_c stepG_seq ah hF
  u_reg ah hF
  iterate 4 u_op ah hF
  iterate 2 u_skip ah hF
  u_op ah hF
  u_c stepG_region_end ah hF
  u_cond false ah hF
  u_c stepG_skip ah hF
  u_c stepG_seq ah hF
  u_reg ah hF
  iterate 4 u_op ah hF
  u_c stepG_region_end ah hF
  u_c stepG_seq ah hF
  u_reg ah hF
  iterate 4 u_op ah hF
  u_c stepG_region_end ah hF
  u_c stepG_seq ah hF
  u_c stepG_seq ah hF
  u_reg ah hF
  iterate 10 u_op ah hF
  u_c stepG_region_end ah hF
  u_cond true ah hF
  u_reg ah hF
  iterate 3 u_op ah hF
  u_conv H.underlying_tPU32 H.room_tU32 (WgLive.cell1 hF).choose_spec ah hF
  refine Goes.stop (fun w4 h4=>?_)
  replace hF:=ah hF h4
  clear h4
  refine .inl ⟨rfl,_,stepG_markAt .read zs rfl rfl (by k_ne) rfl H.f_raceRead (x_raceRead_n L) (x_raceRead_b L) (x_raceRead_x L) (x_raceRead_f L) (ad:=⟨Wg,1,none⟩) (by simp[Act.eval]),60,?_⟩
  unfold gH
  walk_nrm
  u_c stepG_region_end ah hF
  u_c stepG_seq ah hF
  u_c stepG_seq ah hF
  u_reg ah hF
  iterate 2 u_op ah hF
  u_c stepG_region_end ah hF
  u_cond false ah hF
  u_c stepG_skip ah hF
  u_c stepG_seq ah hF
  u_c stepG_seq ah hF
  u_reg ah hF
  iterate 3 u_op ah hF
  iterate 2 u_skip ah hF
  iterate 2 u_op ah hF
  iterate 4 u_skip ah hF
  u_op ah hF
  u_c stepG_region_end ah hF
  u_cond false ah hF
  u_c stepG_skip ah hF
  u_c stepG_seq ah hF
  u_c stepG_seq ah hF
  u_reg ah hF
  iterate 3 u_op ah hF
  iterate 2 u_skip ah hF
  u_op ah hF
  u_c stepG_region_end ah hF
  u_cond true ah hF
  u_c stepG_ret' ah hF
  refine Goes.stop (fun w3 h3=>?_)
  replace hF:=ah hF h3
  clear h3
  refine⟨rfl,_,stepG_unwind_entry (v:=.tuple #[]) (evs:=#[Go.ConcR.mk .enable]) rfl H.f_enable (x_enable_n L) (x_enable_b L) (x_enable_x L) (x_enable_f L) (by simp[Extern.Race.none_]) (by simp[Go.ConcR.mk]) (by simp[Go.ConcR.mk]),5,?_⟩
  unfold gH
  u_leave0 H.f_add ah hF
  exact Goes.stop (fun _ _=>rfl)
 ·obtain⟨V,hV⟩:∃V:Int,V=(v:Int)+1:=⟨_,rfl⟩
  obtain⟨S,hS⟩:∃S:Int,S=V * KK:=⟨_,rfl⟩
  have eS:IntKind.u64.wrap ((v:Int) * KK+4294967296)=S:=by rw[IntKind.wrap_u64,hS,hV];simp only[KK];omega
  rw[← hV,← hS]
  have a1:S / 4294967296=V:=by rw[hS];simp only[KK];omega
  have b1:bits .and .u64 S 2147483648=0:=by rw[hS,hV];have:=st_flag (v+1) 0 zo zo;simpa [KK] using this
  have b2:bits .and .u64 S 2147483647=0:=by rw[hS,hV];have:=st_waiters (v+1) 0 zo zo;simpa [KK] using this
  have c1:IntKind.i32.wrap V=V:=by rw[IntKind.wrap_i32];omega
  have hV1:1<V:=zo
  have hV2:V<2147483648:=zo
  have q1:(V == 1)=false:=zm
  have q2:decide (V=1)=false:=decide_eq_false zo
  have q3:decide (V<0)=false:=decide_eq_false zo
  have q4:decide (0<V)=true:=decide_eq_true zo
  have q5:(V == 0)=false:=zm
  have q6:decide (V=0)=false:=decide_eq_false zo
  refine⟨_,(stepG_add_atomic rfl rfl (by k_ne) rfl H.f_addU64 (x_addU64_n L) (x_addU64_b L) (x_addU64_x L) .u64 (x_addU64_f L) rfl rfl hw.cellSt (hw.thaw 0)).trans (by rw[eS];rfl),110,?_⟩
  replace hF:WgLive L.tWg Wg (w2.setCell (stA Wg) (.int .u64 S)):=⟨_,_,hw.setSt _⟩
  clear hw hS hV eS
  unfold gH
  walk_nrm
  u_op ah hF
  u_c stepG_region_end ah hF
  u_c stepG_ret' ah hF
  u_leave1 H.f_uAdd ah hF
  u_op ah hF
  u_c stepG_region_end ah hF
  u_c stepG_seq ah hF
  u_c stepG_seq ah hF
  u_reg ah hF
  iterate 4 u_op ah hF
  iterate 2 u_skip ah hF
  u_op ah hF
  u_c stepG_region_end ah hF
  u_cnd false ah hF
  u_c stepG_skip ah hF
  u_c stepG_seq ah hF
  u_reg ah hF
  iterate 4 u_op ah hF
  u_c stepG_region_end ah hF
  u_c stepG_seq ah hF
  u_reg ah hF
  iterate 4 u_op ah hF
  u_c stepG_region_end ah hF
  u_c stepG_seq ah hF
  u_c stepG_seq ah hF
  u_reg ah hF
  iterate 10 u_op ah hF
  u_c stepG_region_end ah hF
  u_cnd false ah hF
  u_c stepG_skip ah hF
  u_c stepG_seq ah hF
  u_c stepG_seq ah hF
  u_reg ah hF
  iterate 2 u_op ah hF
  u_c stepG_region_end ah hF
  u_cnd false ah hF
  u_c stepG_skip ah hF
  u_c stepG_seq ah hF
  u_c stepG_seq ah hF
  u_reg ah hF
  iterate 3 u_op ah hF
  iterate 2 u_skip ah hF
  iterate 2 u_op ah hF
  iterate 4 u_skip ah hF
  u_op ah hF
  u_c stepG_region_end ah hF
  u_cnd false ah hF
  u_c stepG_skip ah hF
  u_c stepG_seq ah hF
  u_c stepG_seq ah hF
  u_reg ah hF
  iterate 3 u_op ah hF
  iterate 2 u_skip ah hF
  u_op ah hF
  u_c stepG_region_end ah hF
  u_cnd true ah hF
  u_c stepG_ret' ah hF
  refine Goes.stop (fun w5 h5=>?_)
  replace hF:=ah hF h5
  clear h5
  refine .inr ?_
  refine⟨rfl,_,stepG_unwind_entry (v:=.tuple #[]) (evs:=#[Go.ConcR.mk .enable]) rfl H.f_enable (x_enable_n L) (x_enable_b L) (x_enable_x L) (x_enable_f L) (by simp[Extern.Race.none_]) (by simp[Go.ConcR.mk]) (by simp[Go.ConcR.mk]),5,?_⟩
  unfold gH
  u_leave0 H.f_add ah hF
  exact Goes.stop (fun _ _=>rfl)
def Vq(P:Program)(L:WgLink)(Wg:Nat)(R:Goroutine)(g:Goroutine):Prop:=∀w,WgLive L.tWg Wg w→∃m,gH P L Wg (fun g _=>g=R) m g w
def AnchW(L:WgLink)(Wg:Nat)(c:Frame)(cs:List Frame)(g:Goroutine)(w:World):Prop:=
 ∃T:Array Value,g=G ((base L.wait).at ⟨T,[]⟩ [.code (L7 L),.inLoop (L7 L),.inBlock 0]) (c :: cs)∧T.size=84∧T[0]? =some (.pointer (some ⟨Wg,0,none⟩))∧WgLive L.tWg Wg w
theorem KV(H:WgLib P L){c:Frame}(w:World)(hF:WgLive L.tWg Wg w):
 gH P L Wg (b8 P L Wg (AnchW L Wg c cs)) 3 (G ((base L.wait).at ⟨#[.pointer (some ⟨Wg,0,none⟩),undef,undef,undef,undef,undef,undef,undef,undef,undef,undef,undef,undef,undef,undef,undef,undef,undef,undef,undef,undef,undef,undef,undef,undef,undef,undef,undef,undef,undef,undef,undef,undef,undef,undef,undef,undef,undef,undef,undef,undef,undef,undef,undef,undef,undef,undef,undef,undef,undef,undef,undef,undef,undef,undef,undef,undef,undef,undef,undef,undef,undef,undef,undef,undef,undef,undef,undef,undef,undef,undef,undef,undef,undef,undef,undef,undef,undef,undef,undef,undef,undef,undef,undef],[]⟩ [.code (body_wait L)]) (c :: cs)) w:=by
 lib_facts
 unfold gH
 simp only[body_wait,waitFn,Option.getD_some]
 u_c stepG_seq ah hF
 u_cond true ah hF
 u_reg ah hF
 refine Goes.stop (fun w1 h1=>?_)
 replace hF:=ah hF h1
 clear h1
 refine⟨rfl,_,stepG_mark0 .disable zs rfl rfl (by k_ne) rfl H.f_disable (x_disable_n L) (x_disable_b L) (x_disable_x L) (x_disable_f L),3,?_⟩
 unfold gH
 walk_nrm
 u_c stepG_region_end ah hF
 u_c stepG_block ah hF
 u_c stepG_loop ah hF
 exact Goes.stop (fun w₂ h₂=>⟨_,rfl,zs,zs,ah hF h₂⟩)
theorem KU(H:WgLib P L)(g:Goroutine)(w:World)(h:AnchW L Wg (b₀.at a₀ (.inRegion ops₀ (i₀ :: rest₀) :: k₀)) cs g w):
 ∃m,gH P L Wg (W1 P L Wg (AnchW L Wg (b₀.at a₀ (.inRegion ops₀ (i₀ :: rest₀) :: k₀)) cs) (Vq P L Wg (qm b₀ a₀ ops₀ i₀ rest₀ k₀ cs))) m g w:=by
 lib_facts
 unfold gH
 obtain⟨T,rfl,hT84,t0,hF⟩:=h
 obtain⟨v0,v1,v2,v3,v4,v5,v6,v7,v8,v9,v10,v11,v12,v13,v14,v15,v16,v17,v18,v19,v20,v21,v22,v23,v24,v25,v26,v27,v28,v29,v30,v31,v32,v33,v34,v35,v36,v37,v38,v39,v40,v41,v42,v43,v44,v45,v46,v47,v48,v49,v50,v51,v52,v53,v54,v55,v56,v57,v58,v59,v60,v61,v62,v63,v64,v65,v66,v67,v68,v69,v70,v71,v72,v73,v74,v75,v76,v77,v78,v79,v80,v81,v82,v83,rfl⟩:=array84 T hT84
 simp only[List.getElem?_toArray,List.getElem?_cons_zero,Option.some.injEq] at t0
 subst t0
 refine⟨30,?_⟩
 simp only[L7,body_wait,waitFn,Option.getD_some]
 u_c stepG_block ah hF
 u_c stepG_seq ah hF
 u_reg ah hF
 iterate 3 u_op ah hF
 u_call H.f_uLoad (nm_uLoad L) uLoadFn ah hF
 u_c stepG_seq ah hF
 u_reg ah hF
 u_op ah hF
 u_c stepG_region_end ah hF
 u_c stepG_seq ah hF
 u_reg ah hF
 iterate 3 u_op ah hF
 refine Goes.stop (fun w1 h1=>?_)
 replace hF:=ah hF h1
 clear h1
 refine⟨rfl,fun v hv hw=>?_⟩
 rcases Nat.eq_zero_or_pos v with rfl|hvp
 ·replace hw:WgAt L.tWg Wg w1 0 0:=by simpa using hw
  refine⟨_,stepG_load_atomic (v:=0) rfl rfl (by k_ne) rfl H.f_loadU64 (x_loadU64_n L) (x_loadU64_b L) (x_loadU64_x L) .u64 (x_loadU64_f L) rfl hw.cellSt,fun _=>⟨50,?_⟩,fun h=>absurd rfl h⟩
  clear hw
  unfold gH
  walk_nrm
  u_op ah hF
  u_c stepG_region_end ah hF
  u_c stepG_ret' ah hF
  u_leave1 H.f_uLoad ah hF
  u_op ah hF
  u_c stepG_region_end ah hF
  u_c stepG_seq ah hF
  u_reg ah hF
  iterate 4 u_op ah hF
  u_c stepG_region_end ah hF
  u_c stepG_seq ah hF
  u_reg ah hF
  iterate 4 u_op ah hF
  u_c stepG_region_end ah hF
  u_c stepG_seq ah hF
  u_c stepG_seq ah hF
  u_reg ah hF
  iterate 2 u_op ah hF
  u_c stepG_region_end ah hF
  u_cond true ah hF
  u_c stepG_seq ah hF
  u_cond true ah hF
  u_c stepG_seq ah hF
  u_reg ah hF
  refine Goes.stop (fun w5 h5=>?_)
  replace hF:=ah hF h5
  clear h5
  refine⟨rfl,_,stepG_mark0 .enable zs rfl rfl (by k_ne) rfl H.f_enable (x_enable_n L) (x_enable_b L) (x_enable_x L) (x_enable_f L),12,?_⟩
  unfold gH
  walk_nrm
  u_c stepG_region_end ah hF
  u_reg ah hF
  u_op ah hF
  u_conv H.underlying_tWgP H.room_tWg (WgLive.cell0 hF).choose_spec ah hF
  refine Goes.stop (fun w6 h6=>?_)
  replace hF:=ah hF h6
  clear h6
  refine⟨rfl,_,stepG_markAt .acquire zs rfl rfl (by k_ne) rfl H.f_acquire (x_acquire_n L) (x_acquire_b L) (x_acquire_x L) (x_acquire_f L) (by simp[Act.eval,stA]),fun w7 hF=>⟨40,?_⟩⟩
  unfold gH
  walk_nrm
  u_c stepG_region_end ah hF
  u_c stepG_seq ah hF
  u_c stepG_seq ah hF
  u_reg ah hF
  iterate 8 u_op ah hF
  iterate 2 u_skip ah hF
  u_op ah hF
  u_c stepG_region_end ah hF
  u_cond false ah hF
  u_c stepG_skip ah hF
  u_c stepG_ret' ah hF
  u_leave0 H.f_wait ah hF
  exact Goes.stop (fun _ _=>rfl)
 ·obtain⟨S,hS⟩:∃S:Int,(v:Int) * KK=S:=⟨_,rfl⟩
  have a1:S / 4294967296=(v:Int):=by rw[← hS];simp only[KK];omega
  have b1:bits .and .u64 S 2147483648=0:=by rw[← hS];have:=st_flag v 0 zo zo;simpa [KK] using this
  have b2:bits .and .u64 S 2147483647=0:=by rw[← hS];have:=st_waiters v 0 zo zo;simpa [KK] using this
  have c1:IntKind.i32.wrap (v:Int)=(v:Int):=by rw[IntKind.wrap_i32];omega
  have d1:IntKind.u64.wrap (S+1)=S+1:=by rw[IntKind.wrap_u64,← hS];simp only[KK];omega
  have q3:decide ((v:Int)<0)=false:=decide_eq_false zo
  have q4:decide (0<(v:Int))=true:=decide_eq_true zo
  have q5:((v:Int) == 0)=false:=zm
  have q6:decide ((v:Int)=0)=false:=decide_eq_false zo
  rw[hS] at hw
  refine⟨_,stepG_load_atomic (v:=S) rfl rfl (by k_ne) rfl H.f_loadU64 (x_loadU64_n L) (x_loadU64_b L) (x_loadU64_x L) .u64 (x_loadU64_f L) rfl hw.cellSt,fun h0=>absurd h0 zo,fun _=>⟨60,?_⟩⟩
  clear hw
  unfold gH
  walk_nrm
  u_op ah hF
  u_c stepG_region_end ah hF
  u_c stepG_ret' ah hF
  u_leave1 H.f_uLoad ah hF
  u_op ah hF
  u_c stepG_region_end ah hF
  u_c stepG_seq ah hF
  u_reg ah hF
  iterate 4 u_op ah hF
  u_c stepG_region_end ah hF
  u_c stepG_seq ah hF
  u_reg ah hF
  iterate 4 u_op ah hF
  u_c stepG_region_end ah hF
  u_c stepG_seq ah hF
  u_c stepG_seq ah hF
  u_reg ah hF
  iterate 2 u_op ah hF
  u_c stepG_region_end ah hF
  u_cnd false ah hF
  u_c stepG_skip ah hF
  u_c stepG_seq ah hF
  u_reg ah hF
  iterate 6 u_op ah hF
  u_call H.f_uCas (nm_uCas L) uCasFn ah hF
  u_c stepG_seq ah hF
  u_reg ah hF
  u_op ah hF
  u_c stepG_region_end ah hF
  u_c stepG_seq ah hF
  u_reg ah hF
  iterate 5 u_op ah hF
  refine Goes.stop (fun w2 h2=>?_)
  replace hF:=ah hF h2
  clear h2
  refine⟨rfl,fun v' hv' hw=>⟨fun e=>?_,fun e=>?_⟩⟩
  ·subst e
   rw[hS] at hw⊢
   refine⟨_,(stepG_cas_hit (v:=S) (n:=S+1) rfl rfl (by k_ne) rfl H.f_casU64 (x_casU64_n L) (x_casU64_b L) (x_casU64_x L) .u64 (x_casU64_f L) rfl rfl rfl hw.cellSt (hw.thaw 0)).trans zr,70,?_⟩
   replace hF:WgLive L.tWg Wg (w2.setCell (stA Wg) (.int .u64 (S+1))):=⟨_,_,hw.setSt _⟩
   clear hw
   unfold gH
   walk_nrm
   u_op ah hF
   u_c stepG_region_end ah hF
   u_c stepG_ret' ah hF
   u_leave1 H.f_uCas ah hF
   u_c stepG_region_end ah hF
   u_cond true ah hF
   u_c stepG_seq ah hF
   u_c stepG_seq ah hF
   u_reg ah hF
   iterate 4 u_op ah hF
   u_c stepG_region_end ah hF
   u_cond true ah hF
   u_reg ah hF
   iterate 3 u_op ah hF
   u_conv H.underlying_tPU32 H.room_tU32 (WgLive.cell1 hF).choose_spec ah hF
   refine Goes.stop (fun w8 h8=>?_)
   replace hF:=ah hF h8
   clear h8
   refine⟨rfl,_,stepG_markAt .write zs rfl rfl (by k_ne) rfl H.f_raceWrite (x_raceWrite_n L) (x_raceWrite_b L) (x_raceWrite_x L) (x_raceWrite_f L) (ad:=⟨_,1,none⟩) (by simp[Act.eval] <;> rfl),60,?_⟩
   unfold gH
   walk_nrm
   u_c stepG_region_end ah hF
   u_c stepG_seq ah hF
   u_reg ah hF
   u_op ah hF
   u_c stepG_region_end ah hF
   u_c stepG_seq ah hF
   u_c stepG_seq ah hF
   u_reg ah hF
   iterate 4 u_op ah hF
   u_skip ah hF
   u_op ah hF
   u_c stepG_region_end ah hF
   u_cond false ah hF
   u_c stepG_skip ah hF
   u_c stepG_seq ah hF
   u_reg ah hF
   iterate 4 u_op ah hF
   refine Goes.stop (fun w3 h3=>?_)
   replace hF:=ah hF h3
   clear h3
   refine⟨rfl,rfl,fun⟨st,hw⟩=>stepG_semacquire_wait rfl rfl rfl H.f_semacquire (x_semacquire_n L) (x_semacquire_b L) (x_semacquire_x L) (x_semacquire_f L) (by simp[Act.eval,smA]) hw.cellSm,fun hf=>?_⟩
   refine⟨_,(stepG_semacquire (n:=1) rfl rfl (by k_ne) rfl H.f_semacquire (x_semacquire_n L) (x_semacquire_b L) (x_semacquire_x L) (x_semacquire_f L) (by simp[Act.eval,smA]) hf.cellSm (by k_ne) (hf.thaw 1)).trans zr,30,?_⟩
   replace hF:WgLive L.tWg Wg (w3.setCell (smA Wg) (.int .u32 0)):=⟨_,_,hf.setSm 0⟩
   clear hf
   unfold gH
   walk_nrm
   u_c stepG_region_end ah hF
   u_c stepG_seq ah hF
   u_reg ah hF
   iterate 3 u_op ah hF
   u_call H.f_uLoad (nm_uLoad L) uLoadFn ah hF
   u_c stepG_seq ah hF
   u_reg ah hF
   u_op ah hF
   u_c stepG_region_end ah hF
   u_c stepG_seq ah hF
   u_reg ah hF
   iterate 3 u_op ah hF
   refine Goes.stop (fun w4 h4=>?_)
   replace hF:=ah hF h4
   clear h4
   refine⟨rfl,fun hw=>⟨_,stepG_load_atomic (v:=0) rfl rfl (by k_ne) rfl H.f_loadU64 (x_loadU64_n L) (x_loadU64_b L) (x_loadU64_x L) .u64 (x_loadU64_f L) rfl hw.cellSt,30,?_⟩⟩
   clear hw
   unfold gH
   walk_nrm
   u_op ah hF
   u_c stepG_region_end ah hF
   u_c stepG_ret' ah hF
   u_leave1 H.f_uLoad ah hF
   iterate 2 u_op ah hF
   u_c stepG_region_end ah hF
   u_c stepG_seq ah hF
   u_cond true ah hF
   u_c stepG_seq ah hF
   u_reg ah hF
   refine Goes.stop (fun w5 h5=>?_)
   replace hF:=ah hF h5
   clear h5
   refine⟨rfl,_,stepG_mark0 .enable zs rfl rfl (by k_ne) rfl H.f_enable (x_enable_n L) (x_enable_b L) (x_enable_x L) (x_enable_f L),12,?_⟩
   unfold gH
   walk_nrm
   u_c stepG_region_end ah hF
   u_reg ah hF
   u_op ah hF
   u_conv H.underlying_tWgP H.room_tWg (WgLive.cell0 hF).choose_spec ah hF
   refine Goes.stop (fun w6 h6=>?_)
   replace hF:=ah hF h6
   clear h6
   refine⟨rfl,_,stepG_markAt .acquire zs rfl rfl (by k_ne) rfl H.f_acquire (x_acquire_n L) (x_acquire_b L) (x_acquire_x L) (x_acquire_f L) (by simp[Act.eval,stA]),fun w7 hF=>⟨40,?_⟩⟩
   unfold gH
   walk_nrm
   u_c stepG_region_end ah hF
   u_c stepG_seq ah hF
   u_c stepG_seq ah hF
   u_reg ah hF
   u_op ah hF
   u_c stepG_region_end ah hF
   u_cond false ah hF
   u_c stepG_skip ah hF
   u_c stepG_ret' ah hF
   u_leave0 H.f_wait ah hF
   exact Goes.stop (fun _ _=>rfl)
  ·refine⟨_,stepG_cas_miss (v:=(v':Int) * KK) (old:=S) (n:=S+1) rfl rfl (by k_ne) rfl H.f_casU64 (x_casU64_n L) (x_casU64_b L) (x_casU64_x L) .u64 (x_casU64_f L) rfl rfl rfl hw.cellSt (hw.thaw 0) (by rw[← hS];simp only[KK];omega),20,?_⟩
   clear hw
   unfold gH
   walk_nrm
   u_op ah hF
   u_c stepG_region_end ah hF
   u_c stepG_ret' ah hF
   u_leave1 H.f_uCas ah hF
   u_c stepG_region_end ah hF
   u_cond false ah hF
   u_c stepG_skip ah hF
   u_c stepG_inBlock ah hF
   u_c stepG_inLoop ah hF
   exact Goes.stop (fun w₃ h₃=>⟨_,rfl,zs,zs,ah hF h₃⟩)
end
end
section
open Go.Conc Go.ConcN Go.cu Go.Conc.Lib
open Go.ConcR (KK WgAt stA smA rd wr g_of_ofEvents Payload DC0)
variable[Inhabited aV]
structure GX where
 C:Nat→Prop
 V:World→Prop
 main:Bool
 K:Goroutine→World→(Nat→Prop)→Prop
 g:Goroutine
 O:Nat→Prop
 v:Nat→Option Obj
noncomputable def mq(C:Nat→Prop)(V:World→Prop)(main:Bool)(K:Goroutine→World→(Nat→Prop)→Prop)(g:Goroutine)(w:World)(O:Nat→Prop):GX:=⟨C,V,main,K,g,O,view C O w⟩
structure uc(P:Program)(y x:GX):Prop where
 C:y.C=x.C
 V:y.V=x.V
 main:y.main=x.main
 K:y.K=x.K
 step:∃w2 w3 es,view x.C x.O w2=x.v∧x.V w2∧¬ x.K x.g w2 x.O∧stepG P x.main x.g w2=.go y.g w3 es∧Did x.C x.O y.O w2 w3 es.toList∧y.v=view x.C y.O w3
section
variable{P:Program}{main:Bool}{C:Nat→Prop}{V:World→Prop}{K:Goroutine→World→(Nat→Prop)→Prop}
theorem EJ{g:Goroutine}{w:World}{O:Nat→Prop}(h:Wk P main C V K g w O):Acc (uc P) (mq C V main K g w O):=by
 induction h with
 | @stop g w O h=>
   refine⟨_,fun y hy=>?_⟩
   obtain⟨w2,w3,es,e1,ev,e2,_⟩:=hy.step
   exact absurd (h w2 (xu e1) ev) e2
 | @step g w O X h0 h1 h2 ih=>
   refine⟨_,fun y hy=>?_⟩
   obtain⟨w2,w3,es,e1,ev,_,e2,e3,e4⟩:=hy.step
   obtain⟨g2,w3',O2,es',r1,r2,r3⟩:=h1 w2 (xu e1) ev
   have e2':stepG P main g w2=.go y.g w3 es:=e2
   rw[r1] at e2'
   cases e2'
   have eO:y.O=O2:=by
    funext b
    exact propext ((e3.own b).trans (r2.own b).symm)
   have:y=mq C V main K y.g w3 O2:=by
    have hC:=hy.C
    have hV:=hy.V
    have hm:=hy.main
    have hK:=hy.K
    obtain⟨yC,yV,ym,yK,yg,yO,yv⟩:=y
    simp only[mq] at eO e4 hC hV hm hK⊢
    subst eO;subst hC;subst hV;subst hm;subst hK
    simp only[e4]
   rw[this]
   exact ih _ w3 O2 r3
abbrev Rank(P:Program):={x:GX // Acc (uc P) x }
def kS(P:Program)(y x:Rank P):Prop:=uc P y.1 x.1
theorem Ck:WellFounded (kS P):=⟨fun⟨x,hx⟩=>by
 induction hx with
 | intro x hx ih=>exact⟨_,fun y hy=>ih y.1 hy⟩⟩
theorem EL{g:Goroutine}{w:World}{O:Nat→Prop}(h:Wk P main C V K g w O)(hv:V w)(hn:¬ K g w O)(x:Rank P)(hx:x.1=mq C V main K g w O):
 g.status=.running∧∃g2 w3 O2 es,∃y:Rank P,stepG P main g w=.go g2 w3 es∧Did C O O2 w w3 es.toList∧Wk P main C V K g2 w3 O2∧y.1=mq C V main K g2 w3 O2∧kS P y x:=by
 cases h with
 | stop h=>exact absurd (h w (Keeps.refl C O w) hv) hn
 | step X h0 h1 h2=>
   obtain⟨g2,w3,O2,es,r1,r2,r3⟩:=h1 w (Keeps.refl C O w) hv
   refine⟨h0,g2,w3,O2,es,⟨_,EJ (h2 _ _ _ r3)⟩,r1,r2,h2 _ _ _ r3,rfl,?_⟩
   show uc P _ x.1
   rw[hx]
   exact⟨rfl,rfl,rfl,rfl,w,w3,es,rfl,hv,hn,r1,r2,rfl⟩
theorem sF{g:Goroutine}{w:World}{O:Nat→Prop}(h:Wk P main C V K g w O):∃x:Rank P,x.1=mq C V main K g w O:=⟨⟨_,EJ h⟩,rfl⟩
theorem mD{g:Goroutine}{w w2:World}{O:Nat→Prop}(k:Keeps C O w w2):mq C V main K g w2 O=mq C V main K g w O:=by simp only[mq,KT k]
end
structure Site where
 P:Program
 L:WgLink
 Wg:Nat
 Ch:Nat
 n:Nat
 tab:Nat→Option Obj
 pA:Payload
 pB:Payload
 bA:Nat
 bB:Nat
 vA:Value
 vB:Value
 tI:TypeId
 bit:Nat→Bool
 Anch:Goroutine→World→Prop
 Fin:Goroutine→Prop
 os0:Os
 s9:Array (Nat × ByteArray)
 ZO:Tape
section
variable(S:Site)
abbrev Site.ty:TypeId:=S.L.tWg
def Site.Cb(b:Nat):Prop:=S.tab b≠none
def Site.Rv(i:Nat):Obj:=.cells #[int i64 i] S.tI
structure Site.V0(w:World):Prop where
 live:WgLive S.ty S.Wg w
 tab:∀b o,S.tab b=some o→w.heap[b]? =some o
 chan:∃buf s q,w.heap[S.Ch]? =some (.chan S.n buf false s q false)
 env:w.os=S.os0∧w.output=S.s9∧w.tape=S.ZO
def Site.C1(bx:Nat)(b:Nat):Prop:=S.Cb b∨b=bx
def Site.V1(i bx:Nat)(w:World):Prop:=S.V0 w∧w.heap[bx]? =some (S.Rv i)
def F0:Nat→Loc→Prop:=fun _ _=>False
def Site.GA(m:Nat)(g:Goroutine)(w:World):Prop:=Goes S.P false (@RW S.pA S.ty S.Wg S.bA 1 0 0) (@DWs S.pA S.Wg F0 F0 S.bA 1 1) (@AtR0 S.pA S.P S.ty S.Wg S.bA 1 0 1 S.vA) m g w
def Site.GB(m:Nat)(g:Goroutine)(w:World):Prop:=Goes S.P false (@RW S.pB S.ty S.Wg S.bB 1 0 0) (@DWs S.pB S.Wg F0 F0 S.bB 1 1) (@AtR0 S.pB S.P S.ty S.Wg S.bB 1 0 1 S.vB) m g w
def Site.CZ(g:Goroutine)(w:World):Prop:=(∃m,S.GA m g w)∧∃m,S.GB m g w
def Site.K7(g:Goroutine)(w:World)(_:Nat→Prop):Prop:=S.CZ g w
def Site.Q9(i bx:Nat)(g:Goroutine)(w:World)(O:Nat→Prop):Prop:=
 g.status=.running∧∃g2 z,stepG S.P false g w=.comm g2 #[scase S.Ch (int i64 i) z] true .send w #[]∧
  ∀w',Keeps (S.C1 bx) O w w'→S.V1 i bx w'→Wk S.P false (S.C1 bx) (S.V1 i bx) S.K7 (g2.finishComm S.P #[scase S.Ch (int i64 i) z] .send 0 undef false) w' O
def Site.K8(i bx:Nat)(g:Goroutine)(w:World)(O:Nat→Prop):Prop:=(S.bit i=true∧S.Q9 i bx g w O)∨(S.bit i=false∧S.CZ g w)
def Site.Late(s m d:Nat)(g:Goroutine)(w:World):Prop:=@WSit S.pA S.P S.ty S.Wg S.bA 1 F0 F0 0 1 S.vA s m d g w∨@WSit S.pB S.P S.ty S.Wg S.bB 1 F0 F0 0 1 S.vB s m d g w
inductive Dn (i bx:Nat) (x:Rank S.P):Nat→Nat→Nat→Nat→Goroutine→World→(Nat→Prop)→Prop
 | p2 {g:Goroutine} {w:World} {O:Nat→Prop}:x.1=mq (S.C1 bx) (S.V1 i bx) false (S.K8 i bx) g w O→Wk S.P false (S.C1 bx) (S.V1 i bx) (S.K8 i bx) g w O→Dn i bx x 2 7 0 0 g w O
 | p1 {g:Goroutine} {w:World} {O:Nat→Prop}:x.1=mq (S.C1 bx) (S.V1 i bx) false S.K7 g w O→Wk S.P false (S.C1 bx) (S.V1 i bx) S.K7 g w O→Dn i bx x 1 7 0 0 g w O
 | r0 {m m':Nat} {g:Goroutine} {w:World} {O:Nat→Prop}:S.GA m g w→S.GB m' g w→Dn i bx x 0 7 (m+m') 0 g w O
 | late {s m d:Nat} {g:Goroutine} {w:World} {O:Nat→Prop}:s≤6→S.Late s m d g w→Dn i bx x 0 s m d g w O
abbrev Site.RL(w w₁:World):Prop:=uC S.L S.Wg w w₁
abbrev Site.GL(Stop:Goroutine→World→Prop)(m:Nat)(g:Goroutine)(w:World):Prop:=gH S.P S.L S.Wg Stop m g w
abbrev Site.js(R g:Goroutine)(w:World):Prop:=aO.js S.P S.L S.Wg R g w
abbrev Site.lB(R g:Goroutine)(w:World):Prop:=aO.lB S.P S.L S.Wg R g w
abbrev Site.ly(R g:Goroutine)(w:World):Prop:=aO.ly S.P S.L S.Wg R g w
abbrev Site.lz(R g:Goroutine)(w:World):Prop:=aO.lz S.P S.L S.Wg R g w
abbrev Site.Zi(g:Goroutine)(w:World):Prop:=aO.Zi S.P S.L S.Wg S.Fin g w
abbrev Site.W4(g:Goroutine)(w:World):Prop:=aO.W4 S.P S.L S.Wg S.Fin g w
abbrev Site.W3(g:Goroutine)(w:World):Prop:=aO.W3 S.P S.L S.Wg S.Fin g w
abbrev Site.nz(g:Goroutine)(w:World):Prop:=aO.nz S.P S.L S.Wg S.Fin g w
abbrev Site.W1(g:Goroutine)(w:World):Prop:=aO.W1 S.P S.L S.Wg S.Anch S.Fin g w
abbrev Site.b8(g:Goroutine)(w:World):Prop:=aO.b8 S.P S.L S.Wg S.Anch g w
abbrev Site.Ja(g:Goroutine)(w:World):Prop:=aO.Ja S.P S.Wg S.Fin g w
abbrev Site.W2(vs:Nat)(g:Goroutine)(w:World):Prop:=aO.W2 S.P S.L S.Wg S.Anch S.Fin vs g w
def Site.IZ(i:Nat)(Next:Goroutine→World→Prop)(g:Goroutine)(w:World)(O:Nat→Prop):Prop:=
 g.status=.running∧∃g' child bx,stepG S.P true g w=.spawn g' child w #[]∧child.status=.running∧(∀b,O b↔b=bx)∧w.heap[bx]? =some (S.Rv i)∧
  Wk S.P false (S.C1 bx) (S.V1 i bx) (S.K8 i bx) child w (fun _=>False)∧Next g' w
def Site.Cont(i:Nat)(Next:Goroutine→World→Prop)(R:Goroutine)(w:World)(O:Nat→Prop):Prop:=
 ∀w',Keeps S.Cb O w w'→S.V0 w'→Wk S.P true S.Cb S.V0 (S.IZ i Next) R w' O
def Site.yX(i:Nat)(Next:Goroutine→World→Prop)(g:Goroutine)(w:World)(O:Nat→Prop):Prop:=∃R,S.lz R g w∧S.Cont i Next R w O
def Site.Sp:Nat→Goroutine→World→Prop
 | 0,g,w=>∃m,S.GL S.b8 m g w
 | r+1,g,w=>Wk S.P true S.Cb S.V0 (S.yX (S.n - (r+1)) (Site.Sp r)) g w (fun _=>False)
def lX:Nat→Prop:=fun _=>False
inductive iZ (j:Nat) (x:Rank S.P):CTag→Nat→Nat→Nat→Goroutine→World→(Nat→Prop)→Prop
 | skd {r:Nat} {g:Goroutine} {w:World} {O:Nat→Prop}:j+(r+1)=S.n→x.1=mq S.Cb S.V0 true (S.yX j (S.Sp r)) g w O→Wk S.P true S.Cb S.V0 (S.yX j (S.Sp r)) g w O→iZ j x (.sp r 5) 0 0 0 g w O
 | sa1 {r m:Nat} {R g:Goroutine} {w:World} {O:Nat→Prop}:j+(r+1)=S.n→S.GL (S.ly R) m g w→S.Cont j (S.Sp r) R w O→iZ j x (.sp r 4) 0 m 1 g w O
 | ll {r m:Nat} {R g:Goroutine} {w:World} {O:Nat→Prop}:j+(r+1)=S.n→S.GL (S.lB R) m g w→S.Cont j (S.Sp r) R w O→iZ j x (.sp r 3) 0 m 1 g w O
 | ske {r m:Nat} {R g:Goroutine} {w:World} {O:Nat→Prop}:j+(r+1)=S.n→S.GL (S.js R) m g w→S.Cont j (S.Sp r) R w O→iZ j x (.sp r 2) 0 m 1 g w O
 | fW {r m:Nat} {R g:Goroutine} {w:World} {O:Nat→Prop}:j+(r+1)=S.n→S.GL (fun g _=>g=R) m g w→S.Cont j (S.Sp r) R w O→iZ j x (.sp r 1) 0 m 0 g w O
 | sgo {r:Nat} {g:Goroutine} {w:World} {O:Nat→Prop}:j+(r+1)=S.n→x.1=mq S.Cb S.V0 true (S.IZ j (S.Sp r)) g w O→Wk S.P true S.Cb S.V0 (S.IZ j (S.Sp r)) g w O→iZ j x (.sp r 0) 0 0 0 g w O
 | kd {m:Nat} {g:Goroutine} {w:World}:j=S.n→S.GL S.b8 m g w→iZ j x .kd 0 m 0 g w lX
 | anch {m:Nat} {g:Goroutine} {w:World}:j=S.n→S.GL S.Anch m g w→iZ j x .anch 0 m 1 g w lX
 | w1 {m:Nat} {g:Goroutine} {w:World}:j=S.n→S.GL S.W1 m g w→iZ j x .w1 0 m 1 g w lX
 | w2 {vs m:Nat} {g:Goroutine} {w:World}:j=S.n→S.GL (S.W2 vs) m g w→iZ j x (.w2 vs) 0 m 1 g w lX
 | wr {m:Nat} {g:Goroutine} {w:World}:j=S.n→S.GL S.nz m g w→iZ j x .w3 1 m 1 g w lX
 | w3 {m:Nat} {g:Goroutine} {w:World}:j=S.n→S.GL S.W3 m g w→iZ j x .w3 0 (m+1) 1 g w lX
 | blk {g:Goroutine} {w:World}:j=S.n→(∀w₁,S.RL w w₁→S.W3 g w₁)→iZ j x .blk 0 0 1 {g with status:=.blocked } w lX
 | w4 {m:Nat} {g:Goroutine} {w:World}:j=S.n→S.GL S.W4 m g w→iZ j x .w4 0 m 1 g w lX
 | ke {m:Nat} {g:Goroutine} {w:World}:j=S.n→S.GL S.Zi m g w→iZ j x .ke 0 m 1 g w lX
 | acq {m:Nat} {g:Goroutine} {w:World}:j=S.n→S.GL S.Ja m g w→iZ j x .acq 0 m 0 g w lX
end
end
end Go.aO
