/- Crew1 Crew2 Crew3 -/
import Derived.Test.YthaelabgfnnebaaGreatC4
import Derived.Conc.CrowdStepC
import Derived.Conc.CrowdComm
import Derived.Conc.WgGenN2
import Derived.Conc.WgGenN3
set_option maxRecDepth 100000
set_option maxHeartbeats 16000000
set_option linter.unusedVariables false
set_option linter.unusedSectionVars false
open Go.IntKind(i64)
open Go.Value(int)
namespace Go.aO
section
open Go.Conc Go.ConcN Go.cu
open Go.ConcR (KK WgAt stA smA rd wr mk g_of_ofEvents)
variable[Inhabited aS]
variable{P:Program}
structure Lay(O C:Nat→Nat→Prop)(S:Nat→Prop)(w:World):Prop where
 own:∀k k' b,O k b→O k' b→k=k'
 oJ:∀k k' b,O k b→¬ C k' b
 nu:∀k b,O k b→¬ S b
 cS:∀k b,C k b→¬ S b
 LC:∀k b,O k b→b<w.heap.size
 Nq:∀k b,C k b→b<w.heap.size
 LD:∀b,S b→b<w.heap.size
def gX(O:Nat→Nat→Prop)(k:Nat)(l:Loc):Prop:=In (O k) l
def Cw(C:Nat→Nat→Prop)(k:Nat)(l:Loc):Prop:=In (C k) l
section
variable{O C:Nat→Nat→Prop}{S:Nat→Prop}{w w1:World}{k:Nat}{O1:Nat→Prop}{new:List Event}
theorem Lay.apart(h:Lay O C S w):Apart (In S) (gX O) (Cw C):=by
 refine⟨fun k k' l a b=>?_,fun k k' l a b=>?_,fun k l a b=>?_,fun k l a b=>?_⟩ <;> cases l <;> simp only[gX,Cw,In] at a b
 ·exact h.own _ _ _ a b
 ·exact h.own _ _ _ a b
 ·exact h.oJ _ _ _ a b
 ·exact h.oJ _ _ _ a b
 ·exact h.nu _ _ a b
 ·exact h.nu _ _ a b
 ·exact h.cS _ _ a b
 ·exact h.cS _ _ a b
theorem Lay.grow(h:Lay O C S w)(hs:w.heap.size≤w1.heap.size):Lay O C S w1:=
 ⟨h.own,h.oJ,h.nu,h.cS,fun k b a=>Nat.lt_of_lt_of_le (h.LC k b a) hs,fun k b a=>Nat.lt_of_lt_of_le (h.Nq k b a) hs,fun b a=>Nat.lt_of_lt_of_le (h.LD b a) hs⟩
theorem Lay.did(h:Lay O C S w)(d:Did (C k) (O k) O1 w w1 new):Lay (qJ O k O1) C S w1:=by
 have hs:=d.size
 have old:∀i b,qJ O k O1 i b→O i b∨(i=k∧w.heap.size≤b∧b<w1.heap.size):=fun i b hb=>by
  by_cases e:i=k
  ·subst e
   rw[bI] at hb
   rcases(d.own b).1 hb with h1|h1
   ·exact .inl h1
   ·exact .inr ⟨rfl,h1⟩
  ·rw[dR O O1 e] at hb;exact .inl hb
 refine⟨fun i i' b a a'=>?_,fun i i' b a c=>?_,fun i b a c=>?_,h.cS,fun i b a=>?_,fun i b a=>Nat.lt_of_lt_of_le (h.Nq i b a) hs,fun b a=>Nat.lt_of_lt_of_le (h.LD b a) hs⟩
 ·rcases old i b a with x|⟨ei,x,_⟩ <;> rcases old i' b a' with x'|⟨xv,x',_⟩
  ·exact h.own _ _ _ x x'
  ·have:=h.LC _ _ x;omega
  ·have:=h.LC _ _ x';omega
  ·exact ei.trans xv.symm
 ·rcases old i b a with x|⟨_,x,_⟩
  ·exact h.oJ _ _ _ x c
  ·have:=h.Nq _ _ c;omega
 ·rcases old i b a with x|⟨_,x,_⟩
  ·exact h.nu _ _ x c
  ·have:=h.LD _ c;omega
 ·rcases old i b a with x|⟨_,_,x⟩
  ·exact Nat.lt_of_lt_of_le (h.LC _ _ x) hs
  ·exact x
theorem Lay.keeps(h:Lay O C S w)(d:Did (C k) (O k) O1 w w1 new){i:Nat}(hi:i≠k):Keeps (C i) (O i) w w1:=fun b hb=>by
 rcases hb with hb|hb
 ·exact d.other b (h.LC _ _ hb) fun e=>hi (h.own _ _ _ hb e)
 ·exact d.other b (h.Nq _ _ hb) fun e=>h.oJ _ _ _ e hb
theorem Lay.common(h:Lay O C S w)(d:Did (C k) (O k) O1 w w1 new){i b:Nat}(hb:C i b):w1.heap[b]? =w.heap[b]?:=d.other b (h.Nq _ _ hb) fun e=>h.oJ _ _ _ e hb
theorem Lay.shared(h:Lay O C S w)(d:Did (C k) (O k) O1 w w1 new){b:Nat}(hb:S b):w1.heap[b]? =w.heap[b]?:=d.other b (h.LD _ hb) fun e=>h.nu _ _ e hb
theorem wL{e:Event}(h:PG O1 (C k) e)(fn:FuncId)(pos:String):OkW (In S) (gX (qJ O k O1)) (Cw C) k {g:=k,fn,pos,act:=.ofEvent e }:=by
 rcases h with rfl|⟨hs,h⟩
 ·exact⟨rfl,fun x hx=>by simp[MemAct.ofEvent,MemAct.touch?] at hx⟩
 obtain⟨loc,wr,sy⟩:=e
 simp only at hs h
 subst hs
 refine⟨rfl,fun x hx=>?_⟩
 rcases h with⟨a,rfl,h⟩|⟨r,rfl,h⟩
 ·have e1:MemAct.ofEvent ⟨.cell a,wr,false⟩=.access ⟨.cell a,wr,false⟩:=by cases wr <;> rfl
  rw[e1] at hx
  simp only[MemAct.touch?,Option.some.injEq] at hx
  subst hx
  rcases h with h|⟨hw,h⟩
  ·exact .inr (.inl (by simp only[gX,In,bI];exact h))
  ·exact .inr (.inr ⟨h,hw⟩)
 ·have e1:MemAct.ofEvent ⟨.obj r,wr,false⟩=.access ⟨.obj r,wr,false⟩:=by cases wr <;> rfl
  rw[e1] at hx
  simp only[MemAct.touch?,Option.some.injEq] at hx
  subst hx
  exact .inr (.inl (by simp only[gX,In,bI];exact h))
theorem JK{j:Nat}(hL:Lay O C S w1){e:Event}{C0:Nat→Prop}(h:PG O1 C0 e)(h1:∀b,O1 b→(∀i,1≤i→¬ O i b∧¬ C i b)∧¬ S b)(h2:∀b,C0 b→(∀i,1≤i→¬ O i b)∧¬ S b)(fn:FuncId)(pos:String):
 Ok0 (In S) (gX O) (Cw C) j {g:=0,fn,pos,act:=.ofEvent e }:=by
 rcases h with rfl|⟨hs,h⟩
 ·exact⟨rfl,fun x hx=>by simp[MemAct.ofEvent,MemAct.touch?] at hx⟩
 obtain⟨loc,wr,sy⟩:=e
 simp only at hs h
 subst hs
 refine⟨rfl,fun x hx=>?_⟩
 rcases h with⟨a,rfl,h⟩|⟨r,rfl,h⟩
 ·have e1:MemAct.ofEvent ⟨.cell a,wr,false⟩=.access ⟨.cell a,wr,false⟩:=by cases wr <;> rfl
  rw[e1] at hx
  simp only[MemAct.touch?,Option.some.injEq] at hx
  subst hx
  rcases h with h|⟨hw,h⟩
  ·exact .inr ⟨(h1 _ h).2,fun i hi _=>((h1 _ h).1 i hi).1,fun _ i hi _=>((h1 _ h).1 i hi).2⟩
  ·exact .inr ⟨(h2 _ h).2,fun i hi _=>(h2 _ h).1 i hi,fun hw2=>by simp only at hw hw2;rw[hw] at hw2;cases hw2⟩
 ·have e1:MemAct.ofEvent ⟨.obj r,wr,false⟩=.access ⟨.obj r,wr,false⟩:=by cases wr <;> rfl
  rw[e1] at hx
  simp only[MemAct.touch?,Option.some.injEq] at hx
  subst hx
  exact .inr ⟨(h1 _ h).2,fun i hi _=>((h1 _ h).1 i hi).1,fun _ i hi _=>((h1 _ h).1 i hi).2⟩
theorem CT.congr{Sh:Loc→Prop}{Own Own' Rd Rd':Nat→Loc→Prop}{t:Trace}{j:Nat}(h:CT Sh Own Rd t j)(h1:∀k,1≤k→k≤j→Own' k=Own k)(h2:∀k,1≤k→k≤j→Rd' k=Rd k):CT Sh Own' Rd' t j:=
 ⟨h.quiet,fun k a b l hl=>h.own k a b l (by rw[← h1 k a b];exact hl),fun k a b l hl=>h.rd k a b l (by rw[← h2 k a b];exact hl),
  fun l hs hl=>h.free l hs fun k a b=>by rw[← h1 k a b,← h2 k a b];exact hl k a b,fun l hs hl=>h.mine l hs fun k a b=>by rw[← h1 k a b];exact hl k a b,h.nr,h.gs⟩
theorem mem_seen{g:Nat}{fn:FuncId}{pos:String}{es:Array Event}{op:MemOp}(h:op∈MemOp.ofEvents g fn pos es):∃e∈es,op={g,fn,pos,act:=.ofEvent e }:=by
 rw[ofEvents_eq] at h
 obtain⟨e,he,rfl⟩:=Array.mem_map.1 h
 exact⟨e,he,rfl⟩
theorem ZY(hL:Lay O C S w){es:Array Event}(d:Did (C k) (O k) O1 w w1 es.toList){t:Trace}{j:Nat}(hT:Pm t w)(h:CT (In S) (gX O) (Cw C) t j)(k1:1≤k)(kj:k≤j)(fn:FuncId)(pos:String):
 CT (In S) (gX (qJ O k O1)) (Cw C) (t ++ MemOp.ofEvents k fn pos es) j:=by
 have hg:CT (In S) (gX (qJ O k O1)) (Cw C) t j:=by
  refine Go.cu.CT.grow h (fun i l ho=>?_) (fun i l ho=>?_)
  ·by_cases e:i=k
   ·subst e
    cases l <;> simp only[gX,In,bI] at ho⊢
    ·exact(d.own _).2 (.inl ho)
    ·exact(d.own _).2 (.inl ho)
   ·simp only[gX,dR O O1 e] at ho⊢;exact ho
  ·by_cases e:i=k
   ·subst e
    cases l <;> simp only[gX,In,bI] at ho⊢
    ·rcases(d.own _).1 ho with ho|⟨ho,_⟩
     ·exact .inl ho
     ·refine .inr fun q x hx e=>?_
      have:=hT q x hx
      rw[e] at this
      have:=this _ rfl
      omega
    ·rcases(d.own _).1 ho with ho|⟨ho,_⟩
     ·exact .inl ho
     ·refine .inr fun q x hx e=>?_
      have:=hT q x hx
      rw[e] at this
      have:=this _ rfl
      omega
   ·simp only[gX,dR O O1 e] at ho⊢;exact .inl ho
 refine CT.appW (hL.did d).apart hg k1 kj fun op hop=>?_
 obtain⟨e,he,rfl⟩:=mem_seen hop
 exact wL (d.evs e (by simpa using he)) fn pos
theorem oC{t u:Trace}(hT:Pm t w)(hs:w.heap.size≤w1.heap.size)(hu:∀op∈u,∀x,op.act.touch?=some x→∀b,In (fun y=>y=b) x.loc→b<w1.heap.size):Pm (t ++ u) w1:=by
 intro i a ha b hb
 obtain⟨x,hx,hxa⟩:=touch_of ha
 rcases getElem?_append_cases hx with⟨hi,hx'⟩|⟨_,hxu⟩
 ·exact Nat.lt_of_lt_of_le (hT i a (by rw[touchAt_of hx'];exact hxa) b hb) hs
 ·exact hu x hxu a hxa b hb
theorem lS{e:Event}{O1 C0:Nat→Prop}(h:PG O1 C0 e){x:Touch}(hx:(MemAct.ofEvent e).touch?=some x){b:Nat}(hb:In (fun y=>y=b) x.loc):O1 b∨C0 b:=by
 rcases h with rfl|⟨hs,h⟩
 ·simp[MemAct.ofEvent,MemAct.touch?] at hx
 obtain⟨loc,wr,sy⟩:=e
 simp only at hs h
 subst hs
 rcases h with⟨a,rfl,h⟩|⟨r,rfl,h⟩
 ·have e1:MemAct.ofEvent ⟨.cell a,wr,false⟩=.access ⟨.cell a,wr,false⟩:=by cases wr <;> rfl
  rw[e1] at hx
  simp only[MemAct.touch?,Option.some.injEq] at hx
  subst hx
  simp only[In] at hb
  subst hb
  rcases h with h|⟨_,h⟩
  ·exact .inl h
  ·exact .inr h
 ·have e1:MemAct.ofEvent ⟨.obj r,wr,false⟩=.access ⟨.obj r,wr,false⟩:=by cases wr <;> rfl
  rw[e1] at hx
  simp only[MemAct.touch?,Option.some.injEq] at hx
  subst hx
  simp only[In] at hb
  subst hb
  exact .inl h
end
end
section
open Go.Conc Go.ConcN Go.cu Go.Conc.Lib
open Go.ConcR (KK WgAt stA smA rd wr g_of_ofEvents Payload DC0)
variable[Inhabited aS]
section
variable(P:Program)(L:WgLink)(Wg:Nat)
def rN(w w₁:World):Prop:=WgLive L.tWg Wg w→WgLive L.tWg Wg w₁
def gD(Stop:Goroutine→World→Prop)(m:Nat)(g:Goroutine)(w:World):Prop:=Goes P true (rN L Wg) DC0 Stop m g w
def pa:Event:=⟨.mark (.read ⟨Wg,1,none⟩),false,true⟩
def pb:Event:=⟨.mark (.write ⟨Wg,1,none⟩),false,true⟩
def fL(R g:Goroutine)(w:World):Prop:=g.status=.running∧∃g',stepG P true g w=.go g' w #[Go.ConcR.mk .enable]∧∃m,gD P L Wg (fun g _=>g=R) m g' w
def Ps(R g:Goroutine)(w:World):Prop:=g.status=.running∧∃g',stepG P true g w=.go g' w #[pa Wg]∧∃m,gD P L Wg (fL P L Wg R) m g' w
def ij(R g:Goroutine)(w:World):Prop:=Ps P L Wg R g w∨fL P L Wg R g w
def ib(R g:Goroutine)(w:World):Prop:=
 g.status=.running∧∀v:Nat,v<2147483647→WgAt L.tWg Wg w (v * KK) 0→∃g',stepG P true g w=.go g' (w.setCell (stA Wg) (.int .u64 ((v+1) * KK))) #[rd (stA Wg),wr (stA Wg)]∧∃m,gD P L Wg (ij P L Wg R) m g' (w.setCell (stA Wg) (.int .u64 ((v+1) * KK)))
def ie(R g:Goroutine)(w:World):Prop:=g.status=.running∧∃g',stepG P true g w=.go g' w #[Go.ConcR.mk .disable]∧∃m,gD P L Wg (ib P L Wg R) m g' w
variable(Anch:Goroutine→World→Prop)(Fin:Goroutine→Prop)
def Iq(g:Goroutine)(w:World):Prop:=g.status=.running∧∃g',stepG P true g w=.go g' w #[Go.ConcR.mk (.acquire (stA Wg))]∧Fin g'
def Yp(g:Goroutine)(w:World):Prop:=g.status=.running∧∃g',stepG P true g w=.go g' w #[Go.ConcR.mk .enable]∧∃m,gD P L Wg (Iq P Wg Fin) m g' w
def W4(g:Goroutine)(w:World):Prop:=g.status=.running∧(WgAt L.tWg Wg w 0 0→∃g',stepG P true g w=.go g' w #[rd (stA Wg)]∧∃m,gD P L Wg (Yp P L Wg Fin) m g' w)
def W3(g:Goroutine)(w:World):Prop:=
 g.status=.running∧g.offers=none∧((∃st,WgAt L.tWg Wg w st 0)→stepG P true g w=.go {g with status:=.blocked } w #[])∧
  (WgAt L.tWg Wg w 0 1→∃g',stepG P true g w=.go g' (w.setCell (smA Wg) (.int .u32 0)) (semEvents (smA Wg))∧∃m,gD P L Wg (W4 P L Wg Fin) m g' (w.setCell (smA Wg) (.int .u32 0)))
def xe(g:Goroutine)(w:World):Prop:=g.status=.running∧∃g',stepG P true g w=.go g' w #[pb Wg]∧∃m,gD P L Wg (W3 P L Wg Fin) m g' w
def kO(g:Goroutine)(w:World):Prop:=xe P L Wg Fin g w
def W2(vs:Nat)(g:Goroutine)(w:World):Prop:=
 g.status=.running∧∀v:Nat,v<2147483648→WgAt L.tWg Wg w (v * KK) 0→
  (v=vs→∃g',stepG P true g w=.go g' (w.setCell (stA Wg) (.int .u64 (v * KK+1))) #[rd (stA Wg),wr (stA Wg)]∧∃m,gD P L Wg (kO P L Wg Fin) m g' (w.setCell (stA Wg) (.int .u64 (v * KK+1))))∧
  (v≠vs→∃g',stepG P true g w=.go g' w #[rd (stA Wg)]∧∃m,gD P L Wg Anch m g' w)
def W1(g:Goroutine)(w:World):Prop:=
 g.status=.running∧∀v:Nat,v<2147483648→WgAt L.tWg Wg w (v * KK) 0→∃g',stepG P true g w=.go g' w #[rd (stA Wg)]∧
  (v=0→∃m,gD P L Wg (Yp P L Wg Fin) m g' w)∧(v≠0→∃m,gD P L Wg (W2 P L Wg Anch Fin v) m g' w)
def ZK(g:Goroutine)(w:World):Prop:=g.status=.running∧∃g',stepG P true g w=.go g' w #[Go.ConcR.mk .disable]∧∃m,gD P L Wg Anch m g' w
end
end
section
open Go.Conc Go.ConcN Go.RowKit Go.Conc.Lib Go.ConcR.Gen Go.ConcN.Gen
open Go.ConcR (KK wgBlock WgAt stA smA rd wr mk Payload Aside2 DC0)
variable[Payload]{L:WgLink}{P:Program}{Wg:Nat}
omit [Payload] in
theorem ah{w w₁:World}(h:WgLive L.tWg Wg w)(r:rN L Wg w w₁):WgLive L.tWg Wg w₁:=r h
section
variable{b₀:Frame}{a₀:Act}{ops₀:Array Oper}{i₀:Nat}{rest₀:List Nat}{k₀:List Item}{cs:List Frame}
abbrev pW(b₀:Frame)(a₀:Act)(ops₀:Array Oper)(i₀:Nat)(rest₀:List Nat)(k₀:List Item)(cs:List Frame):Goroutine:=G (b₀.at (a₀.put ((ops₀[i₀]?).bind (·.dst)) (.tuple #[])) (.inRegion ops₀ rest₀ :: k₀)) cs
theorem Qy(H:WgLib P L)(w:World)(hF:WgLive L.tWg Wg w):
 gD P L Wg (ie P L Wg (pW b₀ a₀ ops₀ i₀ rest₀ k₀ cs)) 20 (G ((base L.add).at ⟨#[.pointer (some ⟨Wg,0,none⟩),int i64 1,undef,undef,undef,undef,undef,undef,undef,undef,undef,undef,undef,undef,undef,undef,undef,undef,undef,undef,undef,undef,undef,undef,undef,undef,undef,undef,undef,undef,undef,undef,undef,undef,undef,undef,undef,undef,undef,undef,undef,undef,undef,undef,undef,undef,undef,undef,undef,undef,undef,undef,undef,undef,undef,undef,undef,undef,undef,undef,undef,undef,undef,undef,undef,undef,undef,undef,undef,undef,undef,undef,undef,undef,undef,undef,undef,undef,undef,undef,undef,undef,undef,undef,undef,undef,undef,undef,undef,undef,undef,undef,undef,undef,undef,undef,undef,undef,undef,undef,undef,undef,undef,undef,undef,undef,undef,undef,undef,undef,undef,undef,undef,undef,undef,undef,undef],[]⟩ [.code (body_add L)]) (b₀.at a₀ (.inRegion ops₀ (i₀ :: rest₀) :: k₀) :: cs)) w:=by
 lib_facts
 unfold gD
 simp only[body_add,addFn,Option.getD_some]
 u_c stepG_seq ah hF
 u_cond true ah hF
 u_c stepG_seq ah hF
 u_c stepG_seq ah hF
 u_reg ah hF
 u_op ah hF
 u_op ah hF
 u_c stepG_region_end ah hF
 u_cond false ah hF
 u_c stepG_skip ah hF
 u_c stepG_seq ah hF
 u_reg ah hF
 refine Goes.stop (fun w1 h1=>?_)
 replace hF:=ah hF h1
 clear h1
 refine⟨rfl,_,stepG_mark0 .disable zs rfl rfl (by k_ne) rfl H.f_disable (x_disable_n L) (x_disable_b L) (x_disable_x L) (x_disable_f L),60,?_⟩
 unfold gD
 walk_nrm
 u_c stepG_region_end ah hF
 u_reg ah hF
 u_defer ah hF
 u_c stepG_region_end ah hF
 u_c stepG_seq ah hF
 u_reg ah hF
 u_op ah hF
 u_c stepG_region_end ah hF
 u_c stepG_seq ah hF
 u_c stepG_seq ah hF
 u_reg ah hF
 u_bub ah hF
 u_c stepG_region_end ah hF
 u_cond false ah hF
 u_c stepG_skip ah hF
 u_c stepG_seq ah hF
 u_reg ah hF
 iterate 6 u_op ah hF
 u_call H.f_uAdd (nm_uAdd L) uAddFn ah hF
 u_c stepG_seq ah hF
 u_reg ah hF
 u_op ah hF
 u_c stepG_region_end ah hF
 u_c stepG_seq ah hF
 u_reg ah hF
 iterate 4 u_op ah hF
 refine Goes.stop (fun w2 h2=>?_)
 replace hF:=ah hF h2
 clear h2
 refine⟨rfl,fun v hv hw=>?_⟩
 rcases Nat.eq_zero_or_pos v with rfl|hvp
 ·replace hw:WgAt L.tWg Wg w2 0 0:=by simpa using hw
  have z:(((0:Nat):Int)+1) * KK=KK:=zs
  rw[z]
  have e0:IntKind.u64.wrap (0+4294967296)=KK:=zD
  refine⟨_,(stepG_add_atomic rfl rfl (by k_ne) rfl H.f_addU64 (x_addU64_n L) (x_addU64_b L) (x_addU64_x L) .u64 (x_addU64_f L) rfl rfl hw.cellSt (hw.thaw 0)).trans (by rw[e0];rfl),110,?_⟩
  replace hF:WgLive L.tWg Wg (w2.setCell (stA Wg) (.int .u64 KK)):=⟨_,_,hw.setSt _⟩
  clear hw
  simp only[KK] at hF⊢
  unfold gD
  walk_nrm
  u_op ah hF
  u_c stepG_region_end ah hF
  u_c stepG_ret' ah hF
  u_leave1 H.f_uAdd ah hF
  u_op ah hF
  u_c stepG_region_end ah hF
  u_c stepG_seq ah hF
  u_c stepG_seq ah hF
  u_reg ah hF
  iterate 4 u_op ah hF
  iterate 2 u_skip ah hF
  u_op ah hF
  u_c stepG_region_end ah hF
  u_cond false ah hF
  u_c stepG_skip ah hF
  u_c stepG_seq ah hF
  u_reg ah hF
  iterate 4 u_op ah hF
  u_c stepG_region_end ah hF
  u_c stepG_seq ah hF
  u_reg ah hF
  iterate 4 u_op ah hF
  u_c stepG_region_end ah hF
  u_c stepG_seq ah hF
  u_c stepG_seq ah hF
  u_reg ah hF
  iterate 10 u_op ah hF
  u_c stepG_region_end ah hF
  u_cond true ah hF
  u_reg ah hF
  iterate 3 u_op ah hF
  u_conv H.underlying_tPU32 H.room_tU32 (WgLive.cell1 hF).choose_spec ah hF
  refine Goes.stop (fun w4 h4=>?_)
  replace hF:=ah hF h4
  clear h4
  refine .inl ⟨rfl,_,stepG_markAt .read zs rfl rfl (by k_ne) rfl H.f_raceRead (x_raceRead_n L) (x_raceRead_b L) (x_raceRead_x L) (x_raceRead_f L) (ad:=⟨Wg,1,none⟩) (by simp[Act.eval]),60,?_⟩
  unfold gD
  walk_nrm
  u_c stepG_region_end ah hF
  u_c stepG_seq ah hF
  u_c stepG_seq ah hF
  u_reg ah hF
  iterate 2 u_op ah hF
  u_c stepG_region_end ah hF
  u_cond false ah hF
  u_c stepG_skip ah hF
  u_c stepG_seq ah hF
  u_c stepG_seq ah hF
  u_reg ah hF
  iterate 3 u_op ah hF
  iterate 2 u_skip ah hF
  iterate 2 u_op ah hF
  iterate 4 u_skip ah hF
  u_op ah hF
  u_c stepG_region_end ah hF
  u_cond false ah hF
  u_c stepG_skip ah hF
  u_c stepG_seq ah hF
  u_c stepG_seq ah hF
  u_reg ah hF
  iterate 3 u_op ah hF
  iterate 2 u_skip ah hF
  u_op ah hF
  u_c stepG_region_end ah hF
  u_cond true ah hF
  u_c stepG_ret' ah hF
  refine Goes.stop (fun w3 h3=>?_)
  replace hF:=ah hF h3
  clear h3
  refine⟨rfl,_,stepG_unwind_entry (v:=.tuple #[]) (evs:=#[Go.ConcR.mk .enable]) rfl H.f_enable (x_enable_n L) (x_enable_b L) (x_enable_x L) (x_enable_f L) (by simp[Extern.Race.none_]) (by simp[Go.ConcR.mk]) (by simp[Go.ConcR.mk]),5,?_⟩
  unfold gD
  u_leave0 H.f_add ah hF
  exact Goes.stop (fun _ _=>rfl)
 ·obtain⟨V,hV⟩:∃V:Int,V=(v:Int)+1:=⟨_,rfl⟩
  obtain⟨S,hS⟩:∃S:Int,S=V * KK:=⟨_,rfl⟩
  have eS:IntKind.u64.wrap ((v:Int) * KK+4294967296)=S:=by rw[IntKind.wrap_u64,hS,hV];simp only[KK];omega
  rw[← hV,← hS]
  have a1:S / 4294967296=V:=by rw[hS];simp only[KK];omega
  have b1:bits .and .u64 S 2147483648=0:=by rw[hS,hV];have:=st_flag (v+1) 0 zo zo;simpa [KK] using this
  have b2:bits .and .u64 S 2147483647=0:=by rw[hS,hV];have:=st_waiters (v+1) 0 zo zo;simpa [KK] using this
  have c1:IntKind.i32.wrap V=V:=by rw[IntKind.wrap_i32];omega
  have hV1:1<V:=zo
  have hV2:V<2147483648:=zo
  have q1:(V == 1)=false:=zm
  have q2:decide (V=1)=false:=decide_eq_false zo
  have q3:decide (V<0)=false:=decide_eq_false zo
  have q4:decide (0<V)=true:=decide_eq_true zo
  have q5:(V == 0)=false:=zm
  have q6:decide (V=0)=false:=decide_eq_false zo
  refine⟨_,(stepG_add_atomic rfl rfl (by k_ne) rfl H.f_addU64 (x_addU64_n L) (x_addU64_b L) (x_addU64_x L) .u64 (x_addU64_f L) rfl rfl hw.cellSt (hw.thaw 0)).trans (by rw[eS];rfl),110,?_⟩
  replace hF:WgLive L.tWg Wg (w2.setCell (stA Wg) (.int .u64 S)):=⟨_,_,hw.setSt _⟩
  clear hw hS hV eS
  unfold gD
  walk_nrm
  u_op ah hF
  u_c stepG_region_end ah hF
  u_c stepG_ret' ah hF
  u_leave1 H.f_uAdd ah hF
  u_op ah hF
  u_c stepG_region_end ah hF
  u_c stepG_seq ah hF
  u_c stepG_seq ah hF
  u_reg ah hF
  iterate 4 u_op ah hF
  iterate 2 u_skip ah hF
  u_op ah hF
  u_c stepG_region_end ah hF
  u_cnd false ah hF
  u_c stepG_skip ah hF
  u_c stepG_seq ah hF
  u_reg ah hF
  iterate 4 u_op ah hF
  u_c stepG_region_end ah hF
  u_c stepG_seq ah hF
  u_reg ah hF
  iterate 4 u_op ah hF
  u_c stepG_region_end ah hF
  u_c stepG_seq ah hF
  u_c stepG_seq ah hF
  u_reg ah hF
  iterate 10 u_op ah hF
  u_c stepG_region_end ah hF
  u_cnd false ah hF
  u_c stepG_skip ah hF
  u_c stepG_seq ah hF
  u_c stepG_seq ah hF
  u_reg ah hF
  iterate 2 u_op ah hF
  u_c stepG_region_end ah hF
  u_cnd false ah hF
  u_c stepG_skip ah hF
  u_c stepG_seq ah hF
  u_c stepG_seq ah hF
  u_reg ah hF
  iterate 3 u_op ah hF
  iterate 2 u_skip ah hF
  iterate 2 u_op ah hF
  iterate 4 u_skip ah hF
  u_op ah hF
  u_c stepG_region_end ah hF
  u_cnd false ah hF
  u_c stepG_skip ah hF
  u_c stepG_seq ah hF
  u_c stepG_seq ah hF
  u_reg ah hF
  iterate 3 u_op ah hF
  iterate 2 u_skip ah hF
  u_op ah hF
  u_c stepG_region_end ah hF
  u_cnd true ah hF
  u_c stepG_ret' ah hF
  refine Goes.stop (fun w5 h5=>?_)
  replace hF:=ah hF h5
  clear h5
  refine .inr ?_
  refine⟨rfl,_,stepG_unwind_entry (v:=.tuple #[]) (evs:=#[Go.ConcR.mk .enable]) rfl H.f_enable (x_enable_n L) (x_enable_b L) (x_enable_x L) (x_enable_f L) (by simp[Extern.Race.none_]) (by simp[Go.ConcR.mk]) (by simp[Go.ConcR.mk]),5,?_⟩
  unfold gD
  u_leave0 H.f_add ah hF
  exact Goes.stop (fun _ _=>rfl)
def UA(P:Program)(L:WgLink)(Wg:Nat)(R:Goroutine)(g:Goroutine):Prop:=∀w,WgLive L.tWg Wg w→∃m,gD P L Wg (fun g _=>g=R) m g w
def AnchW(L:WgLink)(Wg:Nat)(c:Frame)(cs:List Frame)(g:Goroutine)(w:World):Prop:=
 ∃T:Array Value,g=G ((base L.wait).at ⟨T,[]⟩ [.code (L7 L),.inLoop (L7 L),.inBlock 0]) (c :: cs)∧T.size=84∧T[0]? =some (.pointer (some ⟨Wg,0,none⟩))∧WgLive L.tWg Wg w
theorem Kz(H:WgLib P L){c:Frame}(w:World)(hF:WgLive L.tWg Wg w):
 gD P L Wg (ZK P L Wg (AnchW L Wg c cs)) 3 (G ((base L.wait).at ⟨#[.pointer (some ⟨Wg,0,none⟩),undef,undef,undef,undef,undef,undef,undef,undef,undef,undef,undef,undef,undef,undef,undef,undef,undef,undef,undef,undef,undef,undef,undef,undef,undef,undef,undef,undef,undef,undef,undef,undef,undef,undef,undef,undef,undef,undef,undef,undef,undef,undef,undef,undef,undef,undef,undef,undef,undef,undef,undef,undef,undef,undef,undef,undef,undef,undef,undef,undef,undef,undef,undef,undef,undef,undef,undef,undef,undef,undef,undef,undef,undef,undef,undef,undef,undef,undef,undef,undef,undef,undef,undef],[]⟩ [.code (body_wait L)]) (c :: cs)) w:=by
 lib_facts
 unfold gD
 simp only[body_wait,waitFn,Option.getD_some]
 u_c stepG_seq ah hF
 u_cond true ah hF
 u_reg ah hF
 refine Goes.stop (fun w1 h1=>?_)
 replace hF:=ah hF h1
 clear h1
 refine⟨rfl,_,stepG_mark0 .disable zs rfl rfl (by k_ne) rfl H.f_disable (x_disable_n L) (x_disable_b L) (x_disable_x L) (x_disable_f L),3,?_⟩
 unfold gD
 walk_nrm
 u_c stepG_region_end ah hF
 u_c stepG_block ah hF
 u_c stepG_loop ah hF
 exact Goes.stop (fun w₂ h₂=>⟨_,rfl,zs,zs,ah hF h₂⟩)
theorem Ky(H:WgLib P L)(g:Goroutine)(w:World)(h:AnchW L Wg (b₀.at a₀ (.inRegion ops₀ (i₀ :: rest₀) :: k₀)) cs g w):
 ∃m,gD P L Wg (W1 P L Wg (AnchW L Wg (b₀.at a₀ (.inRegion ops₀ (i₀ :: rest₀) :: k₀)) cs) (UA P L Wg (pW b₀ a₀ ops₀ i₀ rest₀ k₀ cs))) m g w:=by
 lib_facts
 unfold gD
 obtain⟨T,rfl,hT84,t0,hF⟩:=h
 obtain⟨v0,v1,v2,v3,v4,v5,v6,v7,v8,v9,v10,v11,v12,v13,v14,v15,v16,v17,v18,v19,v20,v21,v22,v23,v24,v25,v26,v27,v28,v29,v30,v31,v32,v33,v34,v35,v36,v37,v38,v39,v40,v41,v42,v43,v44,v45,v46,v47,v48,v49,v50,v51,v52,v53,v54,v55,v56,v57,v58,v59,v60,v61,v62,v63,v64,v65,v66,v67,v68,v69,v70,v71,v72,v73,v74,v75,v76,v77,v78,v79,v80,v81,v82,v83,rfl⟩:=array84 T hT84
 simp only[List.getElem?_toArray,List.getElem?_cons_zero,Option.some.injEq] at t0
 subst t0
 refine⟨30,?_⟩
 simp only[L7,body_wait,waitFn,Option.getD_some]
 u_c stepG_block ah hF
 u_c stepG_seq ah hF
 u_reg ah hF
 iterate 3 u_op ah hF
 u_call H.f_uLoad (nm_uLoad L) uLoadFn ah hF
 u_c stepG_seq ah hF
 u_reg ah hF
 u_op ah hF
 u_c stepG_region_end ah hF
 u_c stepG_seq ah hF
 u_reg ah hF
 iterate 3 u_op ah hF
 refine Goes.stop (fun w1 h1=>?_)
 replace hF:=ah hF h1
 clear h1
 refine⟨rfl,fun v hv hw=>?_⟩
 rcases Nat.eq_zero_or_pos v with rfl|hvp
 ·replace hw:WgAt L.tWg Wg w1 0 0:=by simpa using hw
  refine⟨_,stepG_load_atomic (v:=0) rfl rfl (by k_ne) rfl H.f_loadU64 (x_loadU64_n L) (x_loadU64_b L) (x_loadU64_x L) .u64 (x_loadU64_f L) rfl hw.cellSt,fun _=>⟨50,?_⟩,fun h=>absurd rfl h⟩
  clear hw
  unfold gD
  walk_nrm
  u_op ah hF
  u_c stepG_region_end ah hF
  u_c stepG_ret' ah hF
  u_leave1 H.f_uLoad ah hF
  u_op ah hF
  u_c stepG_region_end ah hF
  u_c stepG_seq ah hF
  u_reg ah hF
  iterate 4 u_op ah hF
  u_c stepG_region_end ah hF
  u_c stepG_seq ah hF
  u_reg ah hF
  iterate 4 u_op ah hF
  u_c stepG_region_end ah hF
  u_c stepG_seq ah hF
  u_c stepG_seq ah hF
  u_reg ah hF
  iterate 2 u_op ah hF
  u_c stepG_region_end ah hF
  u_cond true ah hF
  u_c stepG_seq ah hF
  u_cond true ah hF
  u_c stepG_seq ah hF
  u_reg ah hF
  refine Goes.stop (fun w5 h5=>?_)
  replace hF:=ah hF h5
  clear h5
  refine⟨rfl,_,stepG_mark0 .enable zs rfl rfl (by k_ne) rfl H.f_enable (x_enable_n L) (x_enable_b L) (x_enable_x L) (x_enable_f L),12,?_⟩
  unfold gD
  walk_nrm
  u_c stepG_region_end ah hF
  u_reg ah hF
  u_op ah hF
  u_conv H.underlying_tWgP H.room_tWg (WgLive.cell0 hF).choose_spec ah hF
  refine Goes.stop (fun w6 h6=>?_)
  replace hF:=ah hF h6
  clear h6
  refine⟨rfl,_,stepG_markAt .acquire zs rfl rfl (by k_ne) rfl H.f_acquire (x_acquire_n L) (x_acquire_b L) (x_acquire_x L) (x_acquire_f L) (by simp[Act.eval,stA]),fun w7 hF=>⟨40,?_⟩⟩
  unfold gD
  walk_nrm
  u_c stepG_region_end ah hF
  u_c stepG_seq ah hF
  u_c stepG_seq ah hF
  u_reg ah hF
  iterate 8 u_op ah hF
  iterate 2 u_skip ah hF
  u_op ah hF
  u_c stepG_region_end ah hF
  u_cond false ah hF
  u_c stepG_skip ah hF
  u_c stepG_ret' ah hF
  u_leave0 H.f_wait ah hF
  exact Goes.stop (fun _ _=>rfl)
 ·obtain⟨S,hS⟩:∃S:Int,(v:Int) * KK=S:=⟨_,rfl⟩
  have a1:S / 4294967296=(v:Int):=by rw[← hS];simp only[KK];omega
  have b1:bits .and .u64 S 2147483648=0:=by rw[← hS];have:=st_flag v 0 zo zo;simpa [KK] using this
  have b2:bits .and .u64 S 2147483647=0:=by rw[← hS];have:=st_waiters v 0 zo zo;simpa [KK] using this
  have c1:IntKind.i32.wrap (v:Int)=(v:Int):=by rw[IntKind.wrap_i32];omega
  have d1:IntKind.u64.wrap (S+1)=S+1:=by rw[IntKind.wrap_u64,← hS];simp only[KK];omega
  have q3:decide ((v:Int)<0)=false:=decide_eq_false zo
  have q4:decide (0<(v:Int))=true:=decide_eq_true zo
  have q5:((v:Int) == 0)=false:=zm
  have q6:decide ((v:Int)=0)=false:=decide_eq_false zo
  rw[hS] at hw
  refine⟨_,stepG_load_atomic (v:=S) rfl rfl (by k_ne) rfl H.f_loadU64 (x_loadU64_n L) (x_loadU64_b L) (x_loadU64_x L) .u64 (x_loadU64_f L) rfl hw.cellSt,fun h0=>absurd h0 zo,fun _=>⟨60,?_⟩⟩
  clear hw
  unfold gD
  walk_nrm
  u_op ah hF
  u_c stepG_region_end ah hF
  u_c stepG_ret' ah hF
  u_leave1 H.f_uLoad ah hF
  u_op ah hF
  u_c stepG_region_end ah hF
  u_c stepG_seq ah hF
  u_reg ah hF
  iterate 4 u_op ah hF
  u_c stepG_region_end ah hF
  u_c stepG_seq ah hF
  u_reg ah hF
  iterate 4 u_op ah hF
  u_c stepG_region_end ah hF
  u_c stepG_seq ah hF
  u_c stepG_seq ah hF
  u_reg ah hF
  iterate 2 u_op ah hF
  u_c stepG_region_end ah hF
  u_cnd false ah hF
  u_c stepG_skip ah hF
  u_c stepG_seq ah hF
  u_reg ah hF
  iterate 6 u_op ah hF
  u_call H.f_uCas (nm_uCas L) uCasFn ah hF
  u_c stepG_seq ah hF
  u_reg ah hF
  u_op ah hF
  u_c stepG_region_end ah hF
  u_c stepG_seq ah hF
  u_reg ah hF
  iterate 5 u_op ah hF
  refine Goes.stop (fun w2 h2=>?_)
  replace hF:=ah hF h2
  clear h2
  refine⟨rfl,fun v' hv' hw=>⟨fun e=>?_,fun e=>?_⟩⟩
  ·subst e
   rw[hS] at hw⊢
   refine⟨_,(stepG_cas_hit (v:=S) (n:=S+1) rfl rfl (by k_ne) rfl H.f_casU64 (x_casU64_n L) (x_casU64_b L) (x_casU64_x L) .u64 (x_casU64_f L) rfl rfl rfl hw.cellSt (hw.thaw 0)).trans zr,70,?_⟩
   replace hF:WgLive L.tWg Wg (w2.setCell (stA Wg) (.int .u64 (S+1))):=⟨_,_,hw.setSt _⟩
   clear hw
   unfold gD
   walk_nrm
   u_op ah hF
   u_c stepG_region_end ah hF
   u_c stepG_ret' ah hF
   u_leave1 H.f_uCas ah hF
   u_c stepG_region_end ah hF
   u_cond true ah hF
   u_c stepG_seq ah hF
   u_c stepG_seq ah hF
   u_reg ah hF
   iterate 4 u_op ah hF
   u_c stepG_region_end ah hF
   u_cond true ah hF
   u_reg ah hF
   iterate 3 u_op ah hF
   u_conv H.underlying_tPU32 H.room_tU32 (WgLive.cell1 hF).choose_spec ah hF
   refine Goes.stop (fun w8 h8=>?_)
   replace hF:=ah hF h8
   clear h8
   refine⟨rfl,_,stepG_markAt .write zs rfl rfl (by k_ne) rfl H.f_raceWrite (x_raceWrite_n L) (x_raceWrite_b L) (x_raceWrite_x L) (x_raceWrite_f L) (ad:=⟨_,1,none⟩) (by simp[Act.eval] <;> rfl),60,?_⟩
   unfold gD
   walk_nrm
   u_c stepG_region_end ah hF
   u_c stepG_seq ah hF
   u_reg ah hF
   u_op ah hF
   u_c stepG_region_end ah hF
   u_c stepG_seq ah hF
   u_c stepG_seq ah hF
   u_reg ah hF
   iterate 4 u_op ah hF
   u_skip ah hF
   u_op ah hF
   u_c stepG_region_end ah hF
   u_cond false ah hF
   u_c stepG_skip ah hF
   u_c stepG_seq ah hF
   u_reg ah hF
   iterate 4 u_op ah hF
   refine Goes.stop (fun w3 h3=>?_)
   replace hF:=ah hF h3
   clear h3
   refine⟨rfl,rfl,fun⟨st,hw⟩=>stepG_semacquire_wait rfl rfl rfl H.f_semacquire (x_semacquire_n L) (x_semacquire_b L) (x_semacquire_x L) (x_semacquire_f L) (by simp[Act.eval,smA]) hw.cellSm,fun hf=>?_⟩
   refine⟨_,(stepG_semacquire (n:=1) rfl rfl (by k_ne) rfl H.f_semacquire (x_semacquire_n L) (x_semacquire_b L) (x_semacquire_x L) (x_semacquire_f L) (by simp[Act.eval,smA]) hf.cellSm (by k_ne) (hf.thaw 1)).trans zr,30,?_⟩
   replace hF:WgLive L.tWg Wg (w3.setCell (smA Wg) (.int .u32 0)):=⟨_,_,hf.setSm 0⟩
   clear hf
   unfold gD
   walk_nrm
   u_c stepG_region_end ah hF
   u_c stepG_seq ah hF
   u_reg ah hF
   iterate 3 u_op ah hF
   u_call H.f_uLoad (nm_uLoad L) uLoadFn ah hF
   u_c stepG_seq ah hF
   u_reg ah hF
   u_op ah hF
   u_c stepG_region_end ah hF
   u_c stepG_seq ah hF
   u_reg ah hF
   iterate 3 u_op ah hF
   refine Goes.stop (fun w4 h4=>?_)
   replace hF:=ah hF h4
   clear h4
   refine⟨rfl,fun hw=>⟨_,stepG_load_atomic (v:=0) rfl rfl (by k_ne) rfl H.f_loadU64 (x_loadU64_n L) (x_loadU64_b L) (x_loadU64_x L) .u64 (x_loadU64_f L) rfl hw.cellSt,30,?_⟩⟩
   clear hw
   unfold gD
   walk_nrm
   u_op ah hF
   u_c stepG_region_end ah hF
   u_c stepG_ret' ah hF
   u_leave1 H.f_uLoad ah hF
   iterate 2 u_op ah hF
   u_c stepG_region_end ah hF
   u_c stepG_seq ah hF
   u_cond true ah hF
   u_c stepG_seq ah hF
   u_reg ah hF
   refine Goes.stop (fun w5 h5=>?_)
   replace hF:=ah hF h5
   clear h5
   refine⟨rfl,_,stepG_mark0 .enable zs rfl rfl (by k_ne) rfl H.f_enable (x_enable_n L) (x_enable_b L) (x_enable_x L) (x_enable_f L),12,?_⟩
   unfold gD
   walk_nrm
   u_c stepG_region_end ah hF
   u_reg ah hF
   u_op ah hF
   u_conv H.underlying_tWgP H.room_tWg (WgLive.cell0 hF).choose_spec ah hF
   refine Goes.stop (fun w6 h6=>?_)
   replace hF:=ah hF h6
   clear h6
   refine⟨rfl,_,stepG_markAt .acquire zs rfl rfl (by k_ne) rfl H.f_acquire (x_acquire_n L) (x_acquire_b L) (x_acquire_x L) (x_acquire_f L) (by simp[Act.eval,stA]),fun w7 hF=>⟨40,?_⟩⟩
   unfold gD
   walk_nrm
   u_c stepG_region_end ah hF
   u_c stepG_seq ah hF
   u_c stepG_seq ah hF
   u_reg ah hF
   u_op ah hF
   u_c stepG_region_end ah hF
   u_cond false ah hF
   u_c stepG_skip ah hF
   u_c stepG_ret' ah hF
   u_leave0 H.f_wait ah hF
   exact Goes.stop (fun _ _=>rfl)
  ·refine⟨_,stepG_cas_miss (v:=(v':Int) * KK) (old:=S) (n:=S+1) rfl rfl (by k_ne) rfl H.f_casU64 (x_casU64_n L) (x_casU64_b L) (x_casU64_x L) .u64 (x_casU64_f L) rfl rfl rfl hw.cellSt (hw.thaw 0) (by rw[← hS];simp only[KK];omega),20,?_⟩
   clear hw
   unfold gD
   walk_nrm
   u_op ah hF
   u_c stepG_region_end ah hF
   u_c stepG_ret' ah hF
   u_leave1 H.f_uCas ah hF
   u_c stepG_region_end ah hF
   u_cond false ah hF
   u_c stepG_skip ah hF
   u_c stepG_inBlock ah hF
   u_c stepG_inLoop ah hF
   exact Goes.stop (fun w₃ h₃=>⟨_,rfl,zs,zs,ah hF h₃⟩)
end
end
end Go.aO
