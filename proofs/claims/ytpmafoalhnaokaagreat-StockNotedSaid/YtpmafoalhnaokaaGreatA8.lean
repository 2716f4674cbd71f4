/- Crew1 Crew2 Crew3 Crew4 Crew5 Crew6 Crew7 Crew8 Crew9 Crew10 Crew11 Crew12 Crew13 Crew14 -/
import Derived.Test.YtpmafoalhnaokaaGreatA7
import Derived.Conc.CrowdStepC
import Derived.Conc.CrowdComm
import Derived.Conc.WgGenN2
import Derived.Conc.WgGenN3
import Derived.Conc.CrowdRun
set_option maxRecDepth 100000
set_option maxHeartbeats 16000000
set_option linter.unusedVariables false
set_option linter.unusedSectionVars false
open Go.IntKind(i64)
open Go.Value(int)
namespace Go.aP
section
open Go.Conc Go.ConcN Go.cu
open Go.ConcR (KK WgAt stA smA rd wr mk g_of_ofEvents)
variable[Inhabited aV]
variable{P:Program}
structure Lay(O C:Nat→Nat→Prop)(S:Nat→Prop)(w:World):Prop where
 own:∀k k' b,O k b→O k' b→k=k'
 pW:∀k k' b,O k b→¬ C k' b
 nN:∀k b,O k b→¬ S b
 cS:∀k b,C k b→¬ S b
 NW:∀k b,O k b→b<w.heap.size
 P8:∀k b,C k b→b<w.heap.size
 NY:∀b,S b→b<w.heap.size
def iF(O:Nat→Nat→Prop)(k:Nat)(l:Loc):Prop:=In (O k) l
def Em(C:Nat→Nat→Prop)(k:Nat)(l:Loc):Prop:=In (C k) l
section
variable{O C:Nat→Nat→Prop}{S:Nat→Prop}{w w1:World}{k:Nat}{O1:Nat→Prop}{new:List Event}
theorem Lay.apart(h:Lay O C S w):Apart (In S) (iF O) (Em C):=by
 refine⟨fun k k' l a b=>?_,fun k k' l a b=>?_,fun k l a b=>?_,fun k l a b=>?_⟩ <;> cases l <;> simp only[iF,Em,In] at a b
 ·exact h.own _ _ _ a b
 ·exact h.own _ _ _ a b
 ·exact h.pW _ _ _ a b
 ·exact h.pW _ _ _ a b
 ·exact h.nN _ _ a b
 ·exact h.nN _ _ a b
 ·exact h.cS _ _ a b
 ·exact h.cS _ _ a b
theorem Lay.grow(h:Lay O C S w)(hs:w.heap.size≤w1.heap.size):Lay O C S w1:=
 ⟨h.own,h.pW,h.nN,h.cS,fun k b a=>Nat.lt_of_lt_of_le (h.NW k b a) hs,fun k b a=>Nat.lt_of_lt_of_le (h.P8 k b a) hs,fun b a=>Nat.lt_of_lt_of_le (h.NY b a) hs⟩
theorem Lay.did(h:Lay O C S w)(d:Did (C k) (O k) O1 w w1 new):Lay (rE O k O1) C S w1:=by
 have hs:=d.size
 have old:∀i b,rE O k O1 i b→O i b∨(i=k∧w.heap.size≤b∧b<w1.heap.size):=fun i b hb=>by
  by_cases e:i=k
  ·subst e
   rw[bL] at hb
   rcases(d.own b).1 hb with h1|h1
   ·exact .inl h1
   ·exact .inr ⟨rfl,h1⟩
  ·rw[dU O O1 e] at hb;exact .inl hb
 refine⟨fun i i' b a a'=>?_,fun i i' b a c=>?_,fun i b a c=>?_,h.cS,fun i b a=>?_,fun i b a=>Nat.lt_of_lt_of_le (h.P8 i b a) hs,fun b a=>Nat.lt_of_lt_of_le (h.NY b a) hs⟩
 ·rcases old i b a with x|⟨ei,x,_⟩ <;> rcases old i' b a' with x'|⟨P0,x',_⟩
  ·exact h.own _ _ _ x x'
  ·have:=h.NW _ _ x;omega
  ·have:=h.NW _ _ x';omega
  ·exact ei.trans P0.symm
 ·rcases old i b a with x|⟨_,x,_⟩
  ·exact h.pW _ _ _ x c
  ·have:=h.P8 _ _ c;omega
 ·rcases old i b a with x|⟨_,x,_⟩
  ·exact h.nN _ _ x c
  ·have:=h.NY _ c;omega
 ·rcases old i b a with x|⟨_,_,x⟩
  ·exact Nat.lt_of_lt_of_le (h.NW _ _ x) hs
  ·exact x
theorem Lay.keeps(h:Lay O C S w)(d:Did (C k) (O k) O1 w w1 new){i:Nat}(hi:i≠k):Keeps (C i) (O i) w w1:=fun b hb=>by
 rcases hb with hb|hb
 ·exact d.other b (h.NW _ _ hb) fun e=>hi (h.own _ _ _ hb e)
 ·exact d.other b (h.P8 _ _ hb) fun e=>h.pW _ _ _ e hb
theorem Lay.common(h:Lay O C S w)(d:Did (C k) (O k) O1 w w1 new){i b:Nat}(hb:C i b):w1.heap[b]? =w.heap[b]?:=d.other b (h.P8 _ _ hb) fun e=>h.pW _ _ _ e hb
theorem Lay.shared(h:Lay O C S w)(d:Did (C k) (O k) O1 w w1 new){b:Nat}(hb:S b):w1.heap[b]? =w.heap[b]?:=d.other b (h.NY _ hb) fun e=>h.nN _ _ e hb
theorem yF{e:Event}(h:R7 O1 (C k) e)(fn:FuncId)(pos:String):OkW (In S) (iF (rE O k O1)) (Em C) k {g:=k,fn,pos,act:=.ofEvent e }:=by
 rcases h with rfl|⟨hs,h⟩
 ·exact⟨rfl,fun x hx=>by simp[MemAct.ofEvent,MemAct.touch?] at hx⟩
 obtain⟨loc,wr,sy⟩:=e
 simp only at hs h
 subst hs
 refine⟨rfl,fun x hx=>?_⟩
 rcases h with⟨a,rfl,h⟩|⟨r,rfl,h⟩
 ·have e1:MemAct.ofEvent ⟨.cell a,wr,false⟩=.access ⟨.cell a,wr,false⟩:=by cases wr <;> rfl
  rw[e1] at hx
  simp only[MemAct.touch?,Option.some.injEq] at hx
  subst hx
  rcases h with h|⟨hw,h⟩
  ·exact .inr (.inl (by simp only[iF,In,bL];exact h))
  ·exact .inr (.inr ⟨h,hw⟩)
 ·have e1:MemAct.ofEvent ⟨.obj r,wr,false⟩=.access ⟨.obj r,wr,false⟩:=by cases wr <;> rfl
  rw[e1] at hx
  simp only[MemAct.touch?,Option.some.injEq] at hx
  subst hx
  exact .inr (.inl (by simp only[iF,In,bL];exact h))
theorem LW{j:Nat}(hL:Lay O C S w1){e:Event}{C0:Nat→Prop}(h:R7 O1 C0 e)(h1:∀b,O1 b→(∀i,1≤i→¬ O i b∧¬ C i b)∧¬ S b)(h2:∀b,C0 b→(∀i,1≤i→¬ O i b)∧¬ S b)(fn:FuncId)(pos:String):
 Ok0 (In S) (iF O) (Em C) j {g:=0,fn,pos,act:=.ofEvent e }:=by
 rcases h with rfl|⟨hs,h⟩
 ·exact⟨rfl,fun x hx=>by simp[MemAct.ofEvent,MemAct.touch?] at hx⟩
 obtain⟨loc,wr,sy⟩:=e
 simp only at hs h
 subst hs
 refine⟨rfl,fun x hx=>?_⟩
 rcases h with⟨a,rfl,h⟩|⟨r,rfl,h⟩
 ·have e1:MemAct.ofEvent ⟨.cell a,wr,false⟩=.access ⟨.cell a,wr,false⟩:=by cases wr <;> rfl
  rw[e1] at hx
  simp only[MemAct.touch?,Option.some.injEq] at hx
  subst hx
  rcases h with h|⟨hw,h⟩
  ·exact .inr ⟨(h1 _ h).2,fun i hi _=>((h1 _ h).1 i hi).1,fun _ i hi _=>((h1 _ h).1 i hi).2⟩
  ·exact .inr ⟨(h2 _ h).2,fun i hi _=>(h2 _ h).1 i hi,fun hw2=>by simp only at hw hw2;rw[hw] at hw2;cases hw2⟩
 ·have e1:MemAct.ofEvent ⟨.obj r,wr,false⟩=.access ⟨.obj r,wr,false⟩:=by cases wr <;> rfl
  rw[e1] at hx
  simp only[MemAct.touch?,Option.some.injEq] at hx
  subst hx
  exact .inr ⟨(h1 _ h).2,fun i hi _=>((h1 _ h).1 i hi).1,fun _ i hi _=>((h1 _ h).1 i hi).2⟩
theorem CT.congr{Sh:Loc→Prop}{Own Own' Rd Rd':Nat→Loc→Prop}{t:Trace}{j:Nat}(h:CT Sh Own Rd t j)(h1:∀k,1≤k→k≤j→Own' k=Own k)(h2:∀k,1≤k→k≤j→Rd' k=Rd k):CT Sh Own' Rd' t j:=
 ⟨h.quiet,fun k a b l hl=>h.own k a b l (by rw[← h1 k a b];exact hl),fun k a b l hl=>h.rd k a b l (by rw[← h2 k a b];exact hl),
  fun l hs hl=>h.free l hs fun k a b=>by rw[← h1 k a b,← h2 k a b];exact hl k a b,fun l hs hl=>h.mine l hs fun k a b=>by rw[← h1 k a b];exact hl k a b,h.nr,h.gs⟩
theorem mem_seen{g:Nat}{fn:FuncId}{pos:String}{es:Array Event}{op:MemOp}(h:op∈MemOp.ofEvents g fn pos es):∃e∈es,op={g,fn,pos,act:=.ofEvent e }:=by
 rw[ofEvents_eq] at h
 obtain⟨e,he,rfl⟩:=Array.mem_map.1 h
 exact⟨e,he,rfl⟩
theorem js(hL:Lay O C S w){es:Array Event}(d:Did (C k) (O k) O1 w w1 es.toList){t:Trace}{j:Nat}(hT:RO t w)(h:CT (In S) (iF O) (Em C) t j)(k1:1≤k)(kj:k≤j)(fn:FuncId)(pos:String):
 CT (In S) (iF (rE O k O1)) (Em C) (t ++ MemOp.ofEvents k fn pos es) j:=by
 have hg:CT (In S) (iF (rE O k O1)) (Em C) t j:=by
  refine Go.cu.CT.grow h (fun i l ho=>?_) (fun i l ho=>?_)
  ·by_cases e:i=k
   ·subst e
    cases l <;> simp only[iF,In,bL] at ho⊢
    ·exact(d.own _).2 (.inl ho)
    ·exact(d.own _).2 (.inl ho)
   ·simp only[iF,dU O O1 e] at ho⊢;exact ho
  ·by_cases e:i=k
   ·subst e
    cases l <;> simp only[iF,In,bL] at ho⊢
    ·rcases(d.own _).1 ho with ho|⟨ho,_⟩
     ·exact .inl ho
     ·refine .inr fun q x hx e=>?_
      have:=hT q x hx
      rw[e] at this
      have:=this _ rfl
      omega
    ·rcases(d.own _).1 ho with ho|⟨ho,_⟩
     ·exact .inl ho
     ·refine .inr fun q x hx e=>?_
      have:=hT q x hx
      rw[e] at this
      have:=this _ rfl
      omega
   ·simp only[iF,dU O O1 e] at ho⊢;exact .inl ho
 refine CT.appW (hL.did d).apart hg k1 kj fun op hop=>?_
 obtain⟨e,he,rfl⟩:=mem_seen hop
 exact yF (d.evs e (by simpa using he)) fn pos
theorem pI{t u:Trace}(hT:RO t w)(hs:w.heap.size≤w1.heap.size)(hu:∀op∈u,∀x,op.act.touch?=some x→∀b,In (fun y=>y=b) x.loc→b<w1.heap.size):RO (t ++ u) w1:=by
 intro i a ha b hb
 obtain⟨x,hx,hxa⟩:=touch_of ha
 rcases getElem?_append_cases hx with⟨hi,hx'⟩|⟨_,hxu⟩
 ·exact Nat.lt_of_lt_of_le (hT i a (by rw[touchAt_of hx'];exact hxa) b hb) hs
 ·exact hu x hxu a hxa b hb
theorem mq{e:Event}{O1 C0:Nat→Prop}(h:R7 O1 C0 e){x:Touch}(hx:(MemAct.ofEvent e).touch?=some x){b:Nat}(hb:In (fun y=>y=b) x.loc):O1 b∨C0 b:=by
 rcases h with rfl|⟨hs,h⟩
 ·simp[MemAct.ofEvent,MemAct.touch?] at hx
 obtain⟨loc,wr,sy⟩:=e
 simp only at hs h
 subst hs
 rcases h with⟨a,rfl,h⟩|⟨r,rfl,h⟩
 ·have e1:MemAct.ofEvent ⟨.cell a,wr,false⟩=.access ⟨.cell a,wr,false⟩:=by cases wr <;> rfl
  rw[e1] at hx
  simp only[MemAct.touch?,Option.some.injEq] at hx
  subst hx
  simp only[In] at hb
  subst hb
  rcases h with h|⟨_,h⟩
  ·exact .inl h
  ·exact .inr h
 ·have e1:MemAct.ofEvent ⟨.obj r,wr,false⟩=.access ⟨.obj r,wr,false⟩:=by cases wr <;> rfl
  rw[e1] at hx
  simp only[MemAct.touch?,Option.some.injEq] at hx
  subst hx
  simp only[In] at hb
  subst hb
  exact .inl h
end
end
section
open Go.Conc Go.ConcN Go.cu Go.Conc.Lib
open Go.ConcR (KK WgAt stA smA rd wr g_of_ofEvents Payload DC0)
variable[Inhabited aV]
section
variable(P:Program)(L:WgLink)(Wg:Nat)
def Gr(w w₁:World):Prop:=WgLive L.tWg Wg w→WgLive L.tWg Wg w₁
def gM(Stop:Goroutine→World→Prop)(m:Nat)(g:Goroutine)(w:World):Prop:=Goes P true (Gr L Wg) DC0 Stop m g w
def A6:Event:=⟨.mark (.read ⟨Wg,1,none⟩),false,true⟩
def Be:Event:=⟨.mark (.write ⟨Wg,1,none⟩),false,true⟩
def py(R g:Goroutine)(w:World):Prop:=g.status=.running∧∃g',stepG P true g w=.go g' w #[Go.ConcR.mk .enable]∧∃m,gM P L Wg (fun g _=>g=R) m g' w
def ARd(R g:Goroutine)(w:World):Prop:=g.status=.running∧∃g',stepG P true g w=.go g' w #[A6 Wg]∧∃m,gM P L Wg (py P L Wg R) m g' w
def sd(R g:Goroutine)(w:World):Prop:=ARd P L Wg R g w∨py P L Wg R g w
def rN(R g:Goroutine)(w:World):Prop:=
 g.status=.running∧∀v:Nat,v<2147483647→WgAt L.tWg Wg w (v * KK) 0→∃g',stepG P true g w=.go g' (w.setCell (stA Wg) (.int .u64 ((v+1) * KK))) #[rd (stA Wg),wr (stA Wg)]∧∃m,gM P L Wg (sd P L Wg R) m g' (w.setCell (stA Wg) (.int .u64 ((v+1) * KK)))
def rS(R g:Goroutine)(w:World):Prop:=g.status=.running∧∃g',stepG P true g w=.go g' w #[Go.ConcR.mk .disable]∧∃m,gM P L Wg (rN P L Wg R) m g' w
variable(Anch:Goroutine→World→Prop)(Fin:Goroutine→Prop)
def Kg(g:Goroutine)(w:World):Prop:=g.status=.running∧∃g',stepG P true g w=.go g' w #[Go.ConcR.mk (.acquire (stA Wg))]∧Fin g'
def cQ(g:Goroutine)(w:World):Prop:=g.status=.running∧∃g',stepG P true g w=.go g' w #[Go.ConcR.mk .enable]∧∃m,gM P L Wg (Kg P Wg Fin) m g' w
def W4(g:Goroutine)(w:World):Prop:=g.status=.running∧(WgAt L.tWg Wg w 0 0→∃g',stepG P true g w=.go g' w #[rd (stA Wg)]∧∃m,gM P L Wg (cQ P L Wg Fin) m g' w)
def W3(g:Goroutine)(w:World):Prop:=
 g.status=.running∧g.offers=none∧((∃st,WgAt L.tWg Wg w st 0)→stepG P true g w=.go {g with status:=.blocked } w #[])∧
  (WgAt L.tWg Wg w 0 1→∃g',stepG P true g w=.go g' (w.setCell (smA Wg) (.int .u32 0)) (semEvents (smA Wg))∧∃m,gM P L Wg (W4 P L Wg Fin) m g' (w.setCell (smA Wg) (.int .u32 0)))
def ON(g:Goroutine)(w:World):Prop:=g.status=.running∧∃g',stepG P true g w=.go g' w #[Be Wg]∧∃m,gM P L Wg (W3 P L Wg Fin) m g' w
def tS(g:Goroutine)(w:World):Prop:=ON P L Wg Fin g w
def W2(vs:Nat)(g:Goroutine)(w:World):Prop:=
 g.status=.running∧∀v:Nat,v<2147483648→WgAt L.tWg Wg w (v * KK) 0→
  (v=vs→∃g',stepG P true g w=.go g' (w.setCell (stA Wg) (.int .u64 (v * KK+1))) #[rd (stA Wg),wr (stA Wg)]∧∃m,gM P L Wg (tS P L Wg Fin) m g' (w.setCell (stA Wg) (.int .u64 (v * KK+1))))∧
  (v≠vs→∃g',stepG P true g w=.go g' w #[rd (stA Wg)]∧∃m,gM P L Wg Anch m g' w)
def W1(g:Goroutine)(w:World):Prop:=
 g.status=.running∧∀v:Nat,v<2147483648→WgAt L.tWg Wg w (v * KK) 0→∃g',stepG P true g w=.go g' w #[rd (stA Wg)]∧
  (v=0→∃m,gM P L Wg (cQ P L Wg Fin) m g' w)∧(v≠0→∃m,gM P L Wg (W2 P L Wg Anch Fin v) m g' w)
def il(g:Goroutine)(w:World):Prop:=g.status=.running∧∃g',stepG P true g w=.go g' w #[Go.ConcR.mk .disable]∧∃m,gM P L Wg Anch m g' w
end
end
section
open Go.Conc Go.ConcN Go.RowKit Go.Conc.Lib Go.ConcR.Gen Go.ConcN.Gen
open Go.ConcR (KK wgBlock WgAt stA smA rd wr mk Payload Aside2 DC0)
variable[Payload]{L:WgLink}{P:Program}{Wg:Nat}
omit [Payload] in
theorem ah{w w₁:World}(h:WgLive L.tWg Wg w)(r:Gr L Wg w w₁):WgLive L.tWg Wg w₁:=r h
section
variable{b₀:Frame}{a₀:Act}{ops₀:Array Oper}{i₀:Nat}{rest₀:List Nat}{k₀:List Item}{cs:List Frame}
abbrev qK(b₀:Frame)(a₀:Act)(ops₀:Array Oper)(i₀:Nat)(rest₀:List Nat)(k₀:List Item)(cs:List Frame):Goroutine:=G (b₀.at (a₀.put ((ops₀[i₀]?).bind (·.dst)) (.tuple #[])) (.inRegion ops₀ rest₀ :: k₀)) cs
theorem Tk(H:WgLib P L)(w:World)(hF:WgLive L.tWg Wg w):
 gM P L Wg (rS P L Wg (qK b₀ a₀ ops₀ i₀ rest₀ k₀ cs)) 20 (G ((base L.add).at ⟨#[.pointer (some ⟨Wg,0,none⟩),int i64 1,undef,undef,undef,undef,undef,undef,undef,undef,undef,undef,undef,undef,undef,undef,undef,undef,undef,undef,undef,undef,undef,undef,undef,undef,undef,undef,undef,undef,undef,undef,undef,undef,undef,undef,undef,undef,undef,undef,undef,undef,undef,undef,undef,undef,undef,undef,undef,undef,undef,undef,undef,undef,undef,undef,undef,undef,undef,undef,undef,undef,undef,undef,undef,undef,undef,undef,undef,undef,undef,undef,undef,undef,undef,undef,undef,undef,undef,undef,undef,undef,undef,undef,undef,undef,undef,undef,undef,undef,undef,undef,undef,undef,undef,undef,undef,undef,undef,undef,undef,undef,undef,undef,undef,undef,undef,undef,undef,undef,undef,undef,undef,undef,undef,undef,undef],[]⟩ [.code (body_add L)]) (b₀.at a₀ (.inRegion ops₀ (i₀ :: rest₀) :: k₀) :: cs)) w:=by
 lib_facts
 unfold gM
 simp only[body_add,addFn,Option.getD_some]
 u_c stepG_seq ah hF
 u_cond true ah hF
 u_c stepG_seq ah hF
 u_c stepG_seq ah hF
 u_reg ah hF
 u_op ah hF
 u_op ah hF
 u_c stepG_region_end ah hF
 u_cond false ah hF
 u_c stepG_skip ah hF
 u_c stepG_seq ah hF
 u_reg ah hF
 refine Goes.stop (fun w1 h1=>?_)
 replace hF:=ah hF h1
 clear h1
 refine⟨rfl,_,stepG_mark0 .disable zs rfl rfl (by k_ne) rfl H.f_disable (x_disable_n L) (x_disable_b L) (x_disable_x L) (x_disable_f L),60,?_⟩
 unfold gM
 walk_nrm
 u_c stepG_region_end ah hF
 u_reg ah hF
 u_defer ah hF
 u_c stepG_region_end ah hF
 u_c stepG_seq ah hF
 u_reg ah hF
 u_op ah hF
 u_c stepG_region_end ah hF
 u_c stepG_seq ah hF
 u_c stepG_seq ah hF
 u_reg ah hF
 u_bub ah hF
 u_c stepG_region_end ah hF
 u_cond false ah hF
 u_c stepG_skip ah hF
 u_c stepG_seq ah hF
 u_reg ah hF
 iterate 6 u_op ah hF
 u_call H.f_uAdd (nm_uAdd L) uAddFn ah hF
 u_c stepG_seq ah hF
 u_reg ah hF
 u_op ah hF
 u_c stepG_region_end ah hF
 u_c stepG_seq ah hF
 u_reg ah hF
 iterate 4 u_op ah hF
 refine Goes.stop (fun w2 h2=>?_)
 replace hF:=ah hF h2
 clear h2
 refine⟨rfl,fun v hv hw=>?_⟩
 rcases Nat.eq_zero_or_pos v with rfl|hvp
 ·replace hw:WgAt L.tWg Wg w2 0 0:=by simpa using hw
  have z:(((0:Nat):Int)+1) * KK=KK:=zs
  rw[z]
  have e0:IntKind.u64.wrap (0+4294967296)=KK:=zD
  refine⟨_,(stepG_add_atomic rfl rfl (by k_ne) rfl H.f_addU64 (x_addU64_n L) (x_addU64_b L) (x_addU64_x L) .u64 (x_addU64_f L) rfl rfl hw.cellSt (hw.thaw 0)).trans (by rw[e0];rfl),110,?_⟩
  replace hF:WgLive L.tWg Wg (w2.setCell (stA Wg) (.int .u64 KK)):=⟨_,_,hw.setSt _⟩
  clear hw
  simp only[KK] at hF⊢
  unfold gM
  walk_nrm
  u_op ah hF
  u_c stepG_region_end ah hF
  u_c stepG_ret' ah hF
  u_leave1 H.f_uAdd ah hF
  u_op ah hF
  u_c stepG_region_end ah hF
  u_c stepG_seq ah hF
  u_c stepG_seq ah hF
  u_reg ah hF
  iterate 4 u_op ah hF
  iterate 2 u_skip ah hF
  u_op ah hF
  u_c stepG_region_end ah hF
  u_cond false ah hF
  u_c stepG_skip ah hF
  u_c stepG_seq ah hF
  u_reg ah hF
  iterate 4 u_op ah hF
  u_c stepG_region_end ah hF
  u_c stepG_seq ah hF
  u_reg ah hF
  iterate 4 u_op ah hF
  u_c stepG_region_end ah hF
  u_c stepG_seq ah hF
  u_c stepG_seq ah hF
  u_reg ah hF
  iterate 10 u_op ah hF
  u_c stepG_region_end ah hF
  u_cond true ah hF
  u_reg ah hF
  iterate 3 u_op ah hF
  u_conv H.underlying_tPU32 H.room_tU32 (WgLive.cell1 hF).choose_spec ah hF
  refine Goes.stop (fun w4 h4=>?_)
  replace hF:=ah hF h4
  clear h4
  refine .inl ⟨rfl,_,stepG_markAt .read zs rfl rfl (by k_ne) rfl H.f_raceRead (x_raceRead_n L) (x_raceRead_b L) (x_raceRead_x L) (x_raceRead_f L) (ad:=⟨Wg,1,none⟩) (by simp[Act.eval]),60,?_⟩
  unfold gM
  walk_nrm
  u_c stepG_region_end ah hF
  u_c stepG_seq ah hF
  u_c stepG_seq ah hF
  u_reg ah hF
  iterate 2 u_op ah hF
  u_c stepG_region_end ah hF
  u_cond false ah hF
  u_c stepG_skip ah hF
  u_c stepG_seq ah hF
  u_c stepG_seq ah hF
  u_reg ah hF
  iterate 3 u_op ah hF
  iterate 2 u_skip ah hF
  iterate 2 u_op ah hF
  iterate 4 u_skip ah hF
  u_op ah hF
  u_c stepG_region_end ah hF
  u_cond false ah hF
  u_c stepG_skip ah hF
  u_c stepG_seq ah hF
  u_c stepG_seq ah hF
  u_reg ah hF
  iterate 3 u_op ah hF
  iterate 2 u_skip ah hF
  u_op ah hF
  u_c stepG_region_end ah hF
  u_cond true ah hF
  u_c stepG_ret' ah hF
  refine Goes.stop (fun w3 h3=>?_)
  replace hF:=ah hF h3
  clear h3
  refine⟨rfl,_,stepG_unwind_entry (v:=.tuple #[]) (evs:=#[Go.ConcR.mk .enable]) rfl H.f_enable (x_enable_n L) (x_enable_b L) (x_enable_x L) (x_enable_f L) (by simp[Extern.Race.none_]) (by simp[Go.ConcR.mk]) (by simp[Go.ConcR.mk]),5,?_⟩
  unfold gM
  u_leave0 H.f_add ah hF
  exact Goes.stop (fun _ _=>rfl)
 ·obtain⟨V,hV⟩:∃V:Int,V=(v:Int)+1:=zE
  obtain⟨S,hS⟩:∃S:Int,S=V * KK:=zE
  have eS:IntKind.u64.wrap ((v:Int) * KK+4294967296)=S:=by rw[IntKind.wrap_u64,hS,hV];simp only[KK];omega
  rw[← hV,← hS]
  have a1:S / 4294967296=V:=by rw[hS];simp only[KK];omega
  have b1:bits .and .u64 S 2147483648=0:=by rw[hS,hV];have:=st_flag (v+1) 0 zo zo;simpa [KK] using this
  have b2:bits .and .u64 S 2147483647=0:=by rw[hS,hV];have:=st_waiters (v+1) 0 zo zo;simpa [KK] using this
  have c1:IntKind.i32.wrap V=V:=by rw[IntKind.wrap_i32];omega
  have hV1:1<V:=zo
  have hV2:V<2147483648:=zo
  have q1:(V == 1)=false:=zm
  have q2:decide (V=1)=false:=decide_eq_false zo
  have q3:decide (V<0)=false:=decide_eq_false zo
  have q4:decide (0<V)=true:=decide_eq_true zo
  have q5:(V == 0)=false:=zm
  have q6:decide (V=0)=false:=decide_eq_false zo
  refine⟨_,(stepG_add_atomic rfl rfl (by k_ne) rfl H.f_addU64 (x_addU64_n L) (x_addU64_b L) (x_addU64_x L) .u64 (x_addU64_f L) rfl rfl hw.cellSt (hw.thaw 0)).trans (by rw[eS];rfl),110,?_⟩
  replace hF:WgLive L.tWg Wg (w2.setCell (stA Wg) (.int .u64 S)):=⟨_,_,hw.setSt _⟩
  clear hw hS hV eS
  unfold gM
  walk_nrm
  u_op ah hF
  u_c stepG_region_end ah hF
  u_c stepG_ret' ah hF
  u_leave1 H.f_uAdd ah hF
  u_op ah hF
  u_c stepG_region_end ah hF
  u_c stepG_seq ah hF
  u_c stepG_seq ah hF
  u_reg ah hF
  iterate 4 u_op ah hF
  iterate 2 u_skip ah hF
  u_op ah hF
  u_c stepG_region_end ah hF
  u_cnd false ah hF
  u_c stepG_skip ah hF
  u_c stepG_seq ah hF
  u_reg ah hF
  iterate 4 u_op ah hF
  u_c stepG_region_end ah hF
  u_c stepG_seq ah hF
  u_reg ah hF
  iterate 4 u_op ah hF
  u_c stepG_region_end ah hF
  u_c stepG_seq ah hF
  u_c stepG_seq ah hF
  u_reg ah hF
  iterate 10 u_op ah hF
  u_c stepG_region_end ah hF
  u_cnd false ah hF
  u_c stepG_skip ah hF
  u_c stepG_seq ah hF
  u_c stepG_seq ah hF
  u_reg ah hF
  iterate 2 u_op ah hF
  u_c stepG_region_end ah hF
  u_cnd false ah hF
  u_c stepG_skip ah hF
  u_c stepG_seq ah hF
  u_c stepG_seq ah hF
  u_reg ah hF
  iterate 3 u_op ah hF
  iterate 2 u_skip ah hF
  iterate 2 u_op ah hF
  iterate 4 u_skip ah hF
  u_op ah hF
  u_c stepG_region_end ah hF
  u_cnd false ah hF
  u_c stepG_skip ah hF
  u_c stepG_seq ah hF
  u_c stepG_seq ah hF
  u_reg ah hF
  iterate 3 u_op ah hF
  iterate 2 u_skip ah hF
  u_op ah hF
  u_c stepG_region_end ah hF
  u_cnd true ah hF
  u_c stepG_ret' ah hF
  refine Goes.stop (fun w5 h5=>?_)
  replace hF:=ah hF h5
  clear h5
  refine .inr ?_
  refine⟨rfl,_,stepG_unwind_entry (v:=.tuple #[]) (evs:=#[Go.ConcR.mk .enable]) rfl H.f_enable (x_enable_n L) (x_enable_b L) (x_enable_x L) (x_enable_f L) (by simp[Extern.Race.none_]) (by simp[Go.ConcR.mk]) (by simp[Go.ConcR.mk]),5,?_⟩
  unfold gM
  u_leave0 H.f_add ah hF
  exact Goes.stop (fun _ _=>rfl)
def Xt(P:Program)(L:WgLink)(Wg:Nat)(R:Goroutine)(g:Goroutine):Prop:=∀w,WgLive L.tWg Wg w→∃m,gM P L Wg (fun g _=>g=R) m g w
def AnchW(L:WgLink)(Wg:Nat)(c:Frame)(cs:List Frame)(g:Goroutine)(w:World):Prop:=
 ∃T:Array Value,g=G ((base L.wait).at ⟨T,[]⟩ [.code (L7 L),.inLoop (L7 L),.inBlock 0]) (c :: cs)∧T.size=84∧T[0]? =some (.pointer (some ⟨Wg,0,none⟩))∧WgLive L.tWg Wg w
theorem MO(H:WgLib P L){c:Frame}(w:World)(hF:WgLive L.tWg Wg w):
 gM P L Wg (il P L Wg (AnchW L Wg c cs)) 3 (G ((base L.wait).at ⟨#[.pointer (some ⟨Wg,0,none⟩),undef,undef,undef,undef,undef,undef,undef,undef,undef,undef,undef,undef,undef,undef,undef,undef,undef,undef,undef,undef,undef,undef,undef,undef,undef,undef,undef,undef,undef,undef,undef,undef,undef,undef,undef,undef,undef,undef,undef,undef,undef,undef,undef,undef,undef,undef,undef,undef,undef,undef,undef,undef,undef,undef,undef,undef,undef,undef,undef,undef,undef,undef,undef,undef,undef,undef,undef,undef,undef,undef,undef,undef,undef,undef,undef,undef,undef,undef,undef,undef,undef,undef,undef],[]⟩ [.code (body_wait L)]) (c :: cs)) w:=by
 lib_facts
 unfold gM
 simp only[body_wait,waitFn,Option.getD_some]
 u_c stepG_seq ah hF
 u_cond true ah hF
 u_reg ah hF
 refine Goes.stop (fun w1 h1=>?_)
 replace hF:=ah hF h1
 clear h1
 refine⟨rfl,_,stepG_mark0 .disable zs rfl rfl (by k_ne) rfl H.f_disable (x_disable_n L) (x_disable_b L) (x_disable_x L) (x_disable_f L),3,?_⟩
 unfold gM
 walk_nrm
 u_c stepG_region_end ah hF
 u_c stepG_block ah hF
 u_c stepG_loop ah hF
 exact Goes.stop (fun w₂ h₂=>⟨_,rfl,zs,zs,ah hF h₂⟩)
theorem ML(H:WgLib P L)(g:Goroutine)(w:World)(h:AnchW L Wg (b₀.at a₀ (.inRegion ops₀ (i₀ :: rest₀) :: k₀)) cs g w):
 ∃m,gM P L Wg (W1 P L Wg (AnchW L Wg (b₀.at a₀ (.inRegion ops₀ (i₀ :: rest₀) :: k₀)) cs) (Xt P L Wg (qK b₀ a₀ ops₀ i₀ rest₀ k₀ cs))) m g w:=by
 lib_facts
 unfold gM
 obtain⟨T,rfl,hT84,t0,hF⟩:=h
 obtain⟨v0,v1,v2,v3,v4,v5,v6,v7,v8,v9,v10,v11,v12,v13,v14,v15,v16,v17,v18,v19,v20,v21,v22,v23,v24,v25,v26,v27,v28,v29,v30,v31,v32,v33,v34,v35,v36,v37,v38,v39,v40,v41,v42,v43,v44,v45,v46,v47,v48,v49,v50,v51,v52,v53,v54,v55,v56,v57,v58,v59,v60,v61,v62,v63,v64,v65,v66,v67,v68,v69,v70,v71,v72,v73,v74,v75,v76,v77,v78,v79,v80,v81,v82,v83,rfl⟩:=array84 T hT84
 simp only[List.getElem?_toArray,List.getElem?_cons_zero,Option.some.injEq] at t0
 subst t0
 refine⟨30,?_⟩
 simp only[L7,body_wait,waitFn,Option.getD_some]
 u_c stepG_block ah hF
 u_c stepG_seq ah hF
 u_reg ah hF
 iterate 3 u_op ah hF
 u_call H.f_uLoad (nm_uLoad L) uLoadFn ah hF
 u_c stepG_seq ah hF
 u_reg ah hF
 u_op ah hF
 u_c stepG_region_end ah hF
 u_c stepG_seq ah hF
 u_reg ah hF
 iterate 3 u_op ah hF
 refine Goes.stop (fun w1 h1=>?_)
 replace hF:=ah hF h1
 clear h1
 refine⟨rfl,fun v hv hw=>?_⟩
 rcases Nat.eq_zero_or_pos v with rfl|hvp
 ·replace hw:WgAt L.tWg Wg w1 0 0:=by simpa using hw
  refine⟨_,stepG_load_atomic (v:=0) rfl rfl (by k_ne) rfl H.f_loadU64 (x_loadU64_n L) (x_loadU64_b L) (x_loadU64_x L) .u64 (x_loadU64_f L) rfl hw.cellSt,fun _=>⟨50,?_⟩,fun h=>absurd rfl h⟩
  clear hw
  unfold gM
  walk_nrm
  u_op ah hF
  u_c stepG_region_end ah hF
  u_c stepG_ret' ah hF
  u_leave1 H.f_uLoad ah hF
  u_op ah hF
  u_c stepG_region_end ah hF
  u_c stepG_seq ah hF
  u_reg ah hF
  iterate 4 u_op ah hF
  u_c stepG_region_end ah hF
  u_c stepG_seq ah hF
  u_reg ah hF
  iterate 4 u_op ah hF
  u_c stepG_region_end ah hF
  u_c stepG_seq ah hF
  u_c stepG_seq ah hF
  u_reg ah hF
  iterate 2 u_op ah hF
  u_c stepG_region_end ah hF
  u_cond true ah hF
  u_c stepG_seq ah hF
  u_cond true ah hF
  u_c stepG_seq ah hF
  u_reg ah hF
  refine Goes.stop (fun w5 h5=>?_)
  replace hF:=ah hF h5
  clear h5
  refine⟨rfl,_,stepG_mark0 .enable zs rfl rfl (by k_ne) rfl H.f_enable (x_enable_n L) (x_enable_b L) (x_enable_x L) (x_enable_f L),12,?_⟩
  unfold gM
  walk_nrm
  u_c stepG_region_end ah hF
  u_reg ah hF
  u_op ah hF
  u_conv H.underlying_tWgP H.room_tWg (WgLive.cell0 hF).choose_spec ah hF
  refine Goes.stop (fun w6 h6=>?_)
  replace hF:=ah hF h6
  clear h6
  refine⟨rfl,_,stepG_markAt .acquire zs rfl rfl (by k_ne) rfl H.f_acquire (x_acquire_n L) (x_acquire_b L) (x_acquire_x L) (x_acquire_f L) (by simp[Act.eval,stA]),fun w7 hF=>⟨40,?_⟩⟩
  unfold gM
  walk_nrm
  u_c stepG_region_end ah hF
  u_c stepG_seq ah hF
  u_c stepG_seq ah hF
  u_reg ah hF
  iterate 8 u_op ah hF
  iterate 2 u_skip ah hF
  u_op ah hF
  u_c stepG_region_end ah hF
  u_cond false ah hF
  u_c stepG_skip ah hF
  u_c stepG_ret' ah hF
  u_leave0 H.f_wait ah hF
  exact Goes.stop (fun _ _=>rfl)
 ·obtain⟨S,hS⟩:∃S:Int,(v:Int) * KK=S:=⟨_,rfl⟩
  have a1:S / 4294967296=(v:Int):=by rw[← hS];simp only[KK];omega
  have b1:bits .and .u64 S 2147483648=0:=by rw[← hS];have:=st_flag v 0 zo zo;simpa [KK] using this
  have b2:bits .and .u64 S 2147483647=0:=by rw[← hS];have:=st_waiters v 0 zo zo;simpa [KK] using this
  have c1:IntKind.i32.wrap (v:Int)=(v:Int):=by rw[IntKind.wrap_i32];omega
  have d1:IntKind.u64.wrap (S+1)=S+1:=by rw[IntKind.wrap_u64,← hS];simp only[KK];omega
  have q3:decide ((v:Int)<0)=false:=decide_eq_false zo
  have q4:decide (0<(v:Int))=true:=decide_eq_true zo
  have q5:((v:Int) == 0)=false:=zm
  have q6:decide ((v:Int)=0)=false:=decide_eq_false zo
  rw[hS] at hw
  refine⟨_,stepG_load_atomic (v:=S) rfl rfl (by k_ne) rfl H.f_loadU64 (x_loadU64_n L) (x_loadU64_b L) (x_loadU64_x L) .u64 (x_loadU64_f L) rfl hw.cellSt,fun h0=>absurd h0 zo,fun _=>⟨60,?_⟩⟩
  clear hw
  unfold gM
  walk_nrm
  u_op ah hF
  u_c stepG_region_end ah hF
  u_c stepG_ret' ah hF
  u_leave1 H.f_uLoad ah hF
  u_op ah hF
  u_c stepG_region_end ah hF
  u_c stepG_seq ah hF
  u_reg ah hF
  iterate 4 u_op ah hF
  u_c stepG_region_end ah hF
  u_c stepG_seq ah hF
  u_reg ah hF
  iterate 4 u_op ah hF
  u_c stepG_region_end ah hF
  u_c stepG_seq ah hF
  u_c stepG_seq ah hF
  u_reg ah hF
  iterate 2 u_op ah hF
  u_c stepG_region_end ah hF
  u_cnd false ah hF
  u_c stepG_skip ah hF
  u_c stepG_seq ah hF
  u_reg ah hF
  iterate 6 u_op ah hF
  u_call H.f_uCas (nm_uCas L) uCasFn ah hF
  u_c stepG_seq ah hF
  u_reg ah hF
  u_op ah hF
  u_c stepG_region_end ah hF
  u_c stepG_seq ah hF
  u_reg ah hF
  iterate 5 u_op ah hF
  refine Goes.stop (fun w2 h2=>?_)
  replace hF:=ah hF h2
  clear h2
  refine⟨rfl,fun v' hv' hw=>⟨fun e=>?_,fun e=>?_⟩⟩
  ·subst e
   rw[hS] at hw⊢
   refine⟨_,(stepG_cas_hit (v:=S) (n:=S+1) rfl rfl (by k_ne) rfl H.f_casU64 (x_casU64_n L) (x_casU64_b L) (x_casU64_x L) .u64 (x_casU64_f L) rfl rfl rfl hw.cellSt (hw.thaw 0)).trans zr,70,?_⟩
   replace hF:WgLive L.tWg Wg (w2.setCell (stA Wg) (.int .u64 (S+1))):=⟨_,_,hw.setSt _⟩
   clear hw
   unfold gM
   walk_nrm
   u_op ah hF
   u_c stepG_region_end ah hF
   u_c stepG_ret' ah hF
   u_leave1 H.f_uCas ah hF
   u_c stepG_region_end ah hF
   u_cond true ah hF
   u_c stepG_seq ah hF
   u_c stepG_seq ah hF
   u_reg ah hF
   iterate 4 u_op ah hF
   u_c stepG_region_end ah hF
   u_cond true ah hF
   u_reg ah hF
   iterate 3 u_op ah hF
   u_conv H.underlying_tPU32 H.room_tU32 (WgLive.cell1 hF).choose_spec ah hF
   refine Goes.stop (fun w8 h8=>?_)
   replace hF:=ah hF h8
   clear h8
   refine⟨rfl,_,stepG_markAt .write zs rfl rfl (by k_ne) rfl H.f_raceWrite (x_raceWrite_n L) (x_raceWrite_b L) (x_raceWrite_x L) (x_raceWrite_f L) (ad:=⟨_,1,none⟩) (by simp[Act.eval] <;> rfl),60,?_⟩
   unfold gM
   walk_nrm
   u_c stepG_region_end ah hF
   u_c stepG_seq ah hF
   u_reg ah hF
   u_op ah hF
   u_c stepG_region_end ah hF
   u_c stepG_seq ah hF
   u_c stepG_seq ah hF
   u_reg ah hF
   iterate 4 u_op ah hF
   u_skip ah hF
   u_op ah hF
   u_c stepG_region_end ah hF
   u_cond false ah hF
   u_c stepG_skip ah hF
   u_c stepG_seq ah hF
   u_reg ah hF
   iterate 4 u_op ah hF
   refine Goes.stop (fun w3 h3=>?_)
   replace hF:=ah hF h3
   clear h3
   refine⟨rfl,rfl,fun⟨st,hw⟩=>stepG_semacquire_wait rfl rfl rfl H.f_semacquire (x_semacquire_n L) (x_semacquire_b L) (x_semacquire_x L) (x_semacquire_f L) (by simp[Act.eval,smA]) hw.cellSm,fun hf=>?_⟩
   refine⟨_,(stepG_semacquire (n:=1) rfl rfl (by k_ne) rfl H.f_semacquire (x_semacquire_n L) (x_semacquire_b L) (x_semacquire_x L) (x_semacquire_f L) (by simp[Act.eval,smA]) hf.cellSm (by k_ne) (hf.thaw 1)).trans zr,30,?_⟩
   replace hF:WgLive L.tWg Wg (w3.setCell (smA Wg) (.int .u32 0)):=⟨_,_,hf.setSm 0⟩
   clear hf
   unfold gM
   walk_nrm
   u_c stepG_region_end ah hF
   u_c stepG_seq ah hF
   u_reg ah hF
   iterate 3 u_op ah hF
   u_call H.f_uLoad (nm_uLoad L) uLoadFn ah hF
   u_c stepG_seq ah hF
   u_reg ah hF
   u_op ah hF
   u_c stepG_region_end ah hF
   u_c stepG_seq ah hF
   u_reg ah hF
   iterate 3 u_op ah hF
   refine Goes.stop (fun w4 h4=>?_)
   replace hF:=ah hF h4
   clear h4
   refine⟨rfl,fun hw=>⟨_,stepG_load_atomic (v:=0) rfl rfl (by k_ne) rfl H.f_loadU64 (x_loadU64_n L) (x_loadU64_b L) (x_loadU64_x L) .u64 (x_loadU64_f L) rfl hw.cellSt,30,?_⟩⟩
   clear hw
   unfold gM
   walk_nrm
   u_op ah hF
   u_c stepG_region_end ah hF
   u_c stepG_ret' ah hF
   u_leave1 H.f_uLoad ah hF
   iterate 2 u_op ah hF
   u_c stepG_region_end ah hF
   u_c stepG_seq ah hF
   u_cond true ah hF
   u_c stepG_seq ah hF
   u_reg ah hF
   refine Goes.stop (fun w5 h5=>?_)
   replace hF:=ah hF h5
   clear h5
   refine⟨rfl,_,stepG_mark0 .enable zs rfl rfl (by k_ne) rfl H.f_enable (x_enable_n L) (x_enable_b L) (x_enable_x L) (x_enable_f L),12,?_⟩
   unfold gM
   walk_nrm
   u_c stepG_region_end ah hF
   u_reg ah hF
   u_op ah hF
   u_conv H.underlying_tWgP H.room_tWg (WgLive.cell0 hF).choose_spec ah hF
   refine Goes.stop (fun w6 h6=>?_)
   replace hF:=ah hF h6
   clear h6
   refine⟨rfl,_,stepG_markAt .acquire zs rfl rfl (by k_ne) rfl H.f_acquire (x_acquire_n L) (x_acquire_b L) (x_acquire_x L) (x_acquire_f L) (by simp[Act.eval,stA]),fun w7 hF=>⟨40,?_⟩⟩
   unfold gM
   walk_nrm
   u_c stepG_region_end ah hF
   u_c stepG_seq ah hF
   u_c stepG_seq ah hF
   u_reg ah hF
   u_op ah hF
   u_c stepG_region_end ah hF
   u_cond false ah hF
   u_c stepG_skip ah hF
   u_c stepG_ret' ah hF
   u_leave0 H.f_wait ah hF
   exact Goes.stop (fun _ _=>rfl)
  ·refine⟨_,stepG_cas_miss (v:=(v':Int) * KK) (old:=S) (n:=S+1) rfl rfl (by k_ne) rfl H.f_casU64 (x_casU64_n L) (x_casU64_b L) (x_casU64_x L) .u64 (x_casU64_f L) rfl rfl rfl hw.cellSt (hw.thaw 0) (by rw[← hS];simp only[KK];omega),20,?_⟩
   clear hw
   unfold gM
   walk_nrm
   u_op ah hF
   u_c stepG_region_end ah hF
   u_c stepG_ret' ah hF
   u_leave1 H.f_uCas ah hF
   u_c stepG_region_end ah hF
   u_cond false ah hF
   u_c stepG_skip ah hF
   u_c stepG_inBlock ah hF
   u_c stepG_inLoop ah hF
   exact Goes.stop (fun w₃ h₃=>⟨_,rfl,zs,zs,ah hF h₃⟩)
end
end
section
open Go.Conc Go.ConcN Go.cu Go.Conc.Lib
open Go.ConcR (KK WgAt stA smA rd wr g_of_ofEvents Payload DC0)
variable[Inhabited aV]
structure GX where
 C:Nat→Prop
 V:World→Prop
 main:Bool
 K:Goroutine→World→(Nat→Prop)→Prop
 g:Goroutine
 O:Nat→Prop
 v:Nat→Option Obj
noncomputable def mP(C:Nat→Prop)(V:World→Prop)(main:Bool)(K:Goroutine→World→(Nat→Prop)→Prop)(g:Goroutine)(w:World)(O:Nat→Prop):GX:=⟨C,V,main,K,g,O,view C O w⟩
structure E3(P:Program)(y x:GX):Prop where
 C:y.C=x.C
 V:y.V=x.V
 main:y.main=x.main
 K:y.K=x.K
 step:∃w2 w3 es,view x.C x.O w2=x.v∧x.V w2∧¬ x.K x.g w2 x.O∧stepG P x.main x.g w2=.go y.g w3 es∧Did x.C x.O y.O w2 w3 es.toList∧y.v=view x.C y.O w3
section
variable{P:Program}{main:Bool}{C:Nat→Prop}{V:World→Prop}{K:Goroutine→World→(Nat→Prop)→Prop}
theorem FY{g:Goroutine}{w:World}{O:Nat→Prop}(h:Wk P main C V K g w O):Acc (E3 P) (mP C V main K g w O):=by
 induction h with
 | @stop g w O h=>
   refine⟨_,fun y hy=>?_⟩
   obtain⟨w2,w3,es,e1,ev,e2,_⟩:=hy.step
   exact absurd (h w2 (yw e1) ev) e2
 | @step g w O X h0 h1 h2 ih=>
   refine⟨_,fun y hy=>?_⟩
   obtain⟨w2,w3,es,e1,ev,_,e2,e3,e4⟩:=hy.step
   obtain⟨g2,w3',O2,es',r1,r2,r3⟩:=h1 w2 (yw e1) ev
   have e2':stepG P main g w2=.go y.g w3 es:=e2
   rw[r1] at e2'
   cases e2'
   have eO:y.O=O2:=by
    funext b
    exact propext ((e3.own b).trans (r2.own b).symm)
   have:y=mP C V main K y.g w3 O2:=by
    have hC:=hy.C
    have hV:=hy.V
    have hm:=hy.main
    have hK:=hy.K
    obtain⟨yC,yV,ym,yK,yg,yO,yv⟩:=y
    simp only[mP] at eO e4 hC hV hm hK⊢
    subst eO;subst hC;subst hV;subst hm;subst hK
    simp only[e4]
   rw[this]
   exact ih _ w3 O2 r3
abbrev Rank(P:Program):={x:GX // Acc (E3 P) x }
def kY(P:Program)(y x:Rank P):Prop:=E3 P y.1 x.1
theorem Dt:WellFounded (kY P):=⟨fun⟨x,hx⟩=>by
 induction hx with
 | intro x hx ih=>exact⟨_,fun y hy=>ih y.1 hy⟩⟩
theorem F4{g:Goroutine}{w:World}{O:Nat→Prop}(h:Wk P main C V K g w O)(hv:V w)(hn:¬ K g w O)(x:Rank P)(hx:x.1=mP C V main K g w O):
 g.status=.running∧∃g2 w3 O2 es,∃y:Rank P,stepG P main g w=.go g2 w3 es∧Did C O O2 w w3 es.toList∧Wk P main C V K g2 w3 O2∧y.1=mP C V main K g2 w3 O2∧kY P y x:=by
 cases h with
 | stop h=>exact absurd (h w (Keeps.refl C O w) hv) hn
 | step X h0 h1 h2=>
   obtain⟨g2,w3,O2,es,r1,r2,r3⟩:=h1 w (Keeps.refl C O w) hv
   refine⟨h0,g2,w3,O2,es,⟨_,FY (h2 _ _ _ r3)⟩,r1,r2,h2 _ _ _ r3,rfl,?_⟩
   show E3 P _ x.1
   rw[hx]
   exact⟨rfl,rfl,rfl,rfl,w,w3,es,rfl,hv,hn,r1,r2,rfl⟩
theorem tT{g:Goroutine}{w:World}{O:Nat→Prop}(h:Wk P main C V K g w O):∃x:Rank P,x.1=mP C V main K g w O:=⟨⟨_,FY h⟩,rfl⟩
theorem mQ{g:Goroutine}{w w2:World}{O:Nat→Prop}(k:Keeps C O w w2):mP C V main K g w2 O=mP C V main K g w O:=by simp only[mP,MK k]
end
structure Site where
 P:Program
 L:WgLink
 Wg:Nat
 Ch:Nat
 n:Nat
 tab:Nat→Option Obj
 pA:Payload
 pB:Payload
 bA:Nat
 bB:Nat
 vA:Value
 vB:Value
 tI:TypeId
 bit:Nat→Bool
 Anch:Goroutine→World→Prop
 Fin:Goroutine→Prop
 os0:Os
 B8:Array (Nat × ByteArray)
 fg:Tape
section
variable(S:Site)
abbrev Site.ty:TypeId:=S.L.tWg
def Site.Cb(b:Nat):Prop:=S.tab b≠none
def Site.TG(i:Nat):Obj:=.cells #[int i64 i] S.tI
structure Site.V0(w:World):Prop where
 live:WgLive S.ty S.Wg w
 tab:∀b o,S.tab b=some o→w.heap[b]? =some o
 chan:∃buf s q,w.heap[S.Ch]? =some (.chan S.n buf false s q false)
 env:w.os=S.os0∧w.output=S.B8∧w.tape=S.fg
def Site.C1(bx:Nat)(b:Nat):Prop:=S.Cb b∨b=bx
def Site.V1(i bx:Nat)(w:World):Prop:=S.V0 w∧w.heap[bx]? =some (S.TG i)
def F0:Nat→Loc→Prop:=fun _ _=>False
def Site.GA(m:Nat)(g:Goroutine)(w:World):Prop:=Goes S.P false (@RW S.pA S.ty S.Wg S.bA 1 0 0) (@DWs S.pA S.Wg F0 F0 S.bA 1 1) (@AtR0 S.pA S.P S.ty S.Wg S.bA 1 0 1 S.vA) m g w
def Site.GB(m:Nat)(g:Goroutine)(w:World):Prop:=Goes S.P false (@RW S.pB S.ty S.Wg S.bB 1 0 0) (@DWs S.pB S.Wg F0 F0 S.bB 1 1) (@AtR0 S.pB S.P S.ty S.Wg S.bB 1 0 1 S.vB) m g w
def Site.D9(g:Goroutine)(w:World):Prop:=(∃m,S.GA m g w)∧∃m,S.GB m g w
def Site.K7(g:Goroutine)(w:World)(_:Nat→Prop):Prop:=S.D9 g w
def Site.Tj(i bx:Nat)(g:Goroutine)(w:World)(O:Nat→Prop):Prop:=
 g.status=.running∧∃g2 z,stepG S.P false g w=.comm g2 #[scase S.Ch (int i64 i) z] true .send w #[]∧
  ∀w',Keeps (S.C1 bx) O w w'→S.V1 i bx w'→Wk S.P false (S.C1 bx) (S.V1 i bx) S.K7 (g2.finishComm S.P #[scase S.Ch (int i64 i) z] .send 0 undef false) w' O
def Site.K8(i bx:Nat)(g:Goroutine)(w:World)(O:Nat→Prop):Prop:=(S.bit i=true∧S.Tj i bx g w O)∨(S.bit i=false∧S.D9 g w)
def Site.Late(s m d:Nat)(g:Goroutine)(w:World):Prop:=@WSit S.pA S.P S.ty S.Wg S.bA 1 F0 F0 0 1 S.vA s m d g w∨@WSit S.pB S.P S.ty S.Wg S.bB 1 F0 F0 0 1 S.vB s m d g w
inductive Eo (i bx:Nat) (x:Rank S.P):Nat→Nat→Nat→Nat→Goroutine→World→(Nat→Prop)→Prop
 | p2 {g:Goroutine} {w:World} {O:Nat→Prop}:x.1=mP (S.C1 bx) (S.V1 i bx) false (S.K8 i bx) g w O→Wk S.P false (S.C1 bx) (S.V1 i bx) (S.K8 i bx) g w O→Eo i bx x 2 7 0 0 g w O
 | p1 {g:Goroutine} {w:World} {O:Nat→Prop}:x.1=mP (S.C1 bx) (S.V1 i bx) false S.K7 g w O→Wk S.P false (S.C1 bx) (S.V1 i bx) S.K7 g w O→Eo i bx x 1 7 0 0 g w O
 | r0 {m m':Nat} {g:Goroutine} {w:World} {O:Nat→Prop}:S.GA m g w→S.GB m' g w→Eo i bx x 0 7 (m+m') 0 g w O
 | late {s m d:Nat} {g:Goroutine} {w:World} {O:Nat→Prop}:s≤6→S.Late s m d g w→Eo i bx x 0 s m d g w O
abbrev Site.RL(w w₁:World):Prop:=Gr S.L S.Wg w w₁
abbrev Site.GL(Stop:Goroutine→World→Prop)(m:Nat)(g:Goroutine)(w:World):Prop:=gM S.P S.L S.Wg Stop m g w
abbrev Site.py(R g:Goroutine)(w:World):Prop:=aP.py S.P S.L S.Wg R g w
abbrev Site.sd(R g:Goroutine)(w:World):Prop:=aP.sd S.P S.L S.Wg R g w
abbrev Site.rN(R g:Goroutine)(w:World):Prop:=aP.rN S.P S.L S.Wg R g w
abbrev Site.rS(R g:Goroutine)(w:World):Prop:=aP.rS S.P S.L S.Wg R g w
abbrev Site.cQ(g:Goroutine)(w:World):Prop:=aP.cQ S.P S.L S.Wg S.Fin g w
abbrev Site.W4(g:Goroutine)(w:World):Prop:=aP.W4 S.P S.L S.Wg S.Fin g w
abbrev Site.W3(g:Goroutine)(w:World):Prop:=aP.W3 S.P S.L S.Wg S.Fin g w
abbrev Site.tS(g:Goroutine)(w:World):Prop:=aP.tS S.P S.L S.Wg S.Fin g w
abbrev Site.W1(g:Goroutine)(w:World):Prop:=aP.W1 S.P S.L S.Wg S.Anch S.Fin g w
abbrev Site.il(g:Goroutine)(w:World):Prop:=aP.il S.P S.L S.Wg S.Anch g w
abbrev Site.Kg(g:Goroutine)(w:World):Prop:=aP.Kg S.P S.Wg S.Fin g w
abbrev Site.W2(vs:Nat)(g:Goroutine)(w:World):Prop:=aP.W2 S.P S.L S.Wg S.Anch S.Fin vs g w
def Site.JX(i:Nat)(Next:Goroutine→World→Prop)(g:Goroutine)(w:World)(O:Nat→Prop):Prop:=
 g.status=.running∧∃g' child bx,stepG S.P true g w=.spawn g' child w #[]∧child.status=.running∧(∀b,O b↔b=bx)∧w.heap[bx]? =some (S.TG i)∧
  Wk S.P false (S.C1 bx) (S.V1 i bx) (S.K8 i bx) child w (fun _=>False)∧Next g' w
def Site.Cont(i:Nat)(Next:Goroutine→World→Prop)(R:Goroutine)(w:World)(O:Nat→Prop):Prop:=
 ∀w',Keeps S.Cb O w w'→S.V0 w'→Wk S.P true S.Cb S.V0 (S.JX i Next) R w' O
def Site.Bo(i:Nat)(Next:Goroutine→World→Prop)(g:Goroutine)(w:World)(O:Nat→Prop):Prop:=∃R,S.rS R g w∧S.Cont i Next R w O
def Site.Sp:Nat→Goroutine→World→Prop
 | 0,g,w=>∃m,S.GL S.il m g w
 | r+1,g,w=>Wk S.P true S.Cb S.V0 (S.Bo (S.n - (r+1)) (Site.Sp r)) g w (fun _=>False)
def mE:Nat→Prop:=fun _=>False
inductive jk (j:Nat) (x:Rank S.P):CTag→Nat→Nat→Nat→Goroutine→World→(Nat→Prop)→Prop
 | skd {r:Nat} {g:Goroutine} {w:World} {O:Nat→Prop}:j+(r+1)=S.n→x.1=mP S.Cb S.V0 true (S.Bo j (S.Sp r)) g w O→Wk S.P true S.Cb S.V0 (S.Bo j (S.Sp r)) g w O→jk j x (.sp r 5) 0 0 0 g w O
 | sa1 {r m:Nat} {R g:Goroutine} {w:World} {O:Nat→Prop}:j+(r+1)=S.n→S.GL (S.rN R) m g w→S.Cont j (S.Sp r) R w O→jk j x (.sp r 4) 0 m 1 g w O
 | ry {r m:Nat} {R g:Goroutine} {w:World} {O:Nat→Prop}:j+(r+1)=S.n→S.GL (S.sd R) m g w→S.Cont j (S.Sp r) R w O→jk j x (.sp r 3) 0 m 1 g w O
 | ske {r m:Nat} {R g:Goroutine} {w:World} {O:Nat→Prop}:j+(r+1)=S.n→S.GL (S.py R) m g w→S.Cont j (S.Sp r) R w O→jk j x (.sp r 2) 0 m 1 g w O
 | nb {r m:Nat} {R g:Goroutine} {w:World} {O:Nat→Prop}:j+(r+1)=S.n→S.GL (fun g _=>g=R) m g w→S.Cont j (S.Sp r) R w O→jk j x (.sp r 1) 0 m 0 g w O
 | sgo {r:Nat} {g:Goroutine} {w:World} {O:Nat→Prop}:j+(r+1)=S.n→x.1=mP S.Cb S.V0 true (S.JX j (S.Sp r)) g w O→Wk S.P true S.Cb S.V0 (S.JX j (S.Sp r)) g w O→jk j x (.sp r 0) 0 0 0 g w O
 | kd {m:Nat} {g:Goroutine} {w:World}:j=S.n→S.GL S.il m g w→jk j x .kd 0 m 0 g w mE
 | anch {m:Nat} {g:Goroutine} {w:World}:j=S.n→S.GL S.Anch m g w→jk j x .anch 0 m 1 g w mE
 | w1 {m:Nat} {g:Goroutine} {w:World}:j=S.n→S.GL S.W1 m g w→jk j x .w1 0 m 1 g w mE
 | w2 {vs m:Nat} {g:Goroutine} {w:World}:j=S.n→S.GL (S.W2 vs) m g w→jk j x (.w2 vs) 0 m 1 g w mE
 | wr {m:Nat} {g:Goroutine} {w:World}:j=S.n→S.GL S.tS m g w→jk j x .w3 1 m 1 g w mE
 | w3 {m:Nat} {g:Goroutine} {w:World}:j=S.n→S.GL S.W3 m g w→jk j x .w3 0 (m+1) 1 g w mE
 | blk {g:Goroutine} {w:World}:j=S.n→(∀w₁,S.RL w w₁→S.W3 g w₁)→jk j x .blk 0 0 1 {g with status:=.blocked } w mE
 | w4 {m:Nat} {g:Goroutine} {w:World}:j=S.n→S.GL S.W4 m g w→jk j x .w4 0 m 1 g w mE
 | ke {m:Nat} {g:Goroutine} {w:World}:j=S.n→S.GL S.cQ m g w→jk j x .ke 0 m 1 g w mE
 | acq {m:Nat} {g:Goroutine} {w:World}:j=S.n→S.GL S.Kg m g w→jk j x .acq 0 m 0 g w mE
end
end
section
open Go.Conc Go.ConcN Go.cu Go.Conc.Lib
open Go.ConcR (KK WgAt stA smA rd wr g_of_ofEvents Payload DC0 again_blocked)
variable[Inhabited aV]
structure Site.Ok(S:Site):Prop where
 cA:S.tab S.bA=some (.cells #[S.vA] (@Payload.ety S.pA))
 cB:S.tab S.bB=some (.cells #[S.vB] (@Payload.ety S.pB))
 ab:S.bA≠S.bB
 aW:S.bA≠S.Wg
 bW:S.bB≠S.Wg
 wc:S.Wg≠S.Ch
 n31:S.n<2147483648
 run:∀g w,S.Anch g w→g.status=.running
 anch:∀g w,S.Anch g w→∃m,S.GL S.W1 m g w
section
variable{S:Site}{i bx p s m d j b f:Nat}{x:Rank S.P}{g:Goroutine}{w w2:World}{O:Nat→Prop}{tag:CTag}
theorem Site.Ok.bA(h:S.Ok):S.Cb S.bA:=by simp[Site.Cb,h.cA]
theorem Site.Ok.bB(h:S.Ok):S.Cb S.bB:=by simp[Site.Cb,h.cB]
theorem Oq{q:Nat}(hb:S.Cb q)(k:Keeps (S.C1 bx) O w w2)(hl:WgLive S.ty S.Wg w2)(pl:Payload):@RW pl S.ty S.Wg q 1 0 0 w w2:=by
 have e:w2.heap[q]? =w.heap[q]?:=k q (.inr (.inl hb))
 exact⟨fun _ h=>absurd h (Nat.not_lt_zero _),fun _=>hl,fun⟨cs,h,hn⟩=>⟨cs,e.trans h,hn⟩,cell_of_block e 0⟩
theorem Site.GA.rely(h:S.GA m g w)(r:@RW S.pA S.ty S.Wg S.bA 1 0 0 w w2):S.GA m g w2:=by
 have tr:∀u v z,@RW S.pA S.ty S.Wg S.bA 1 0 0 u v→@RW S.pA S.ty S.Wg S.bA 1 0 0 v z→@RW S.pA S.ty S.Wg S.bA 1 0 0 u z:=fun _ _ _ a b=>@RW.trans S.pA _ _ _ _ _ _ _ _ _ a b
 exact Goes.rely tr h r
theorem Site.GB.rely(h:S.GB m g w)(r:@RW S.pB S.ty S.Wg S.bB 1 0 0 w w2):S.GB m g w2:=by
 have tr:∀u v z,@RW S.pB S.ty S.Wg S.bB 1 0 0 u v→@RW S.pB S.ty S.Wg S.bB 1 0 0 v z→@RW S.pB S.ty S.Wg S.bB 1 0 0 u z:=fun _ _ _ a b=>@RW.trans S.pB _ _ _ _ _ _ _ _ _ a b
 exact Goes.rely tr h r
theorem Site.GA.running(h:S.GA m g w):g.status=.running:=Goes.running (fun _ _ x=>x.1) w (@RW.refl S.pA _ _ _ _ _ _ w) h
theorem Qd(hS:S.Ok)(h:S.Late s m d g w)(k:Keeps (S.C1 bx) O w w2)(hl:WgLive S.ty S.Wg w2):S.Late s m d g w2:=by
 rcases h with h|h
 ·exact .inl (@WSit.rely S.pA _ _ _ _ _ _ _ _ _ _ _ _ _ _ _ _ h (Oq hS.bA k hl S.pA))
 ·exact .inr (@WSit.rely S.pB _ _ _ _ _ _ _ _ _ _ _ _ _ _ _ _ h (Oq hS.bB k hl S.pB))
theorem EU(h:S.Late s m d g w)(hs:s≠1):g.status=.running:=by
 rcases h with h|h
 ·exact @WSit.running_of S.pA _ _ _ _ _ _ _ _ _ _ _ _ _ _ _ h hs
 ·exact @WSit.running_of S.pB _ _ _ _ _ _ _ _ _ _ _ _ _ _ _ h hs
theorem IC(h:S.Late s m d g w):g.status=.running∨g.status=.finished:=by
 rcases h with h|h
 ·exact @WSit.status S.pA _ _ _ _ _ _ _ _ _ _ _ _ _ _ _ h
 ·exact @WSit.status S.pB _ _ _ _ _ _ _ _ _ _ _ _ _ _ _ h
theorem Eo.keeps(hS:S.Ok)(h:Eo S i bx x p s m d g w O)(k:Keeps (S.C1 bx) O w w2)(hl:WgLive S.ty S.Wg w2):Eo S i bx x p s m d g w2 O:=by
 cases h with
 | p2 hx h=>exact .p2 (hx.trans (mQ k).symm) (h.keeps k)
 | p1 hx h=>exact .p1 (hx.trans (mQ k).symm) (h.keeps k)
 | r0 h1 h2=>exact .r0 (h1.rely (Oq hS.bA k hl _)) (h2.rely (Oq hS.bB k hl _))
 | late hs h=>exact .late hs (Qd hS h k hl)
theorem Eo.running_of(h:Eo S i bx x p s m d g w O)(hv:S.V1 i bx w)(hs:s≠1):g.status=.running:=by
 cases h with
 | p2 hx h=>
   cases h with
   | stop h=>
     rcases h w (Keeps.refl _ O w) hv with⟨_,h⟩|⟨_,⟨_,h⟩,_⟩
     ·exact h.1
     ·exact Site.GA.running h
   | step X h0 h1 h2=>exact h0
 | p1 hx h=>
   cases h with
   | stop h=>exact Site.GA.running (h w (Keeps.refl _ O w) hv).1.choose_spec
   | step X h0 h1 h2=>exact h0
 | r0 h1 h2=>exact Site.GA.running h1
 | late _ h=>exact EU h hs
theorem Eo.status(h:Eo S i bx x p s m d g w O)(hv:S.V1 i bx w):g.status=.running∨g.status=.finished:=by
 by_cases hs:s=1
 ·cases h with
  | late _ h=>exact IC h
  | p2 _ _=>omega
  | p1 _ _=>omega
  | r0 _ _=>omega
 ·exact .inl (h.running_of hv hs)
theorem Eo.woken(h:Eo S i bx x p s m d g w O)(hv:S.V1 i bx w)(a a':Goroutine)(w':World):woken S.P a a' w' g=g:=by
 unfold Go.Conc.woken
 split
 ·exact again_running _ (h.status hv)
 ·rfl
theorem fI{P:Program}{L:WgLink}{Wg:Nat}{K:Goroutine→World→Prop}(h:gM P L Wg K m g w)(hl:WgLive L.tWg Wg w2):gM P L Wg K m g w2:=Goes.rely (fun _ _ _ a b x=>b (a x)) h fun _=>hl
theorem bQ{P:Program}{L:WgLink}{Wg:Nat}{K:Goroutine→World→Prop}(hK:∀g w,K g w→g.status=.running)(h:gM P L Wg K m g w):g.status=.running:=Goes.running hK w (fun x=>x) h
theorem iK{Next:Goroutine→World→Prop}{R:Goroutine}(h:S.Cont i Next R w O)(k:Keeps S.Cb O w w2):S.Cont i Next R w2 O:=fun w' k' v'=>h w' (k.trans k') v'
theorem jk.keeps(h:jk S j x tag b f d g w O)(k:Keeps S.Cb O w w2)(hl:WgLive S.ty S.Wg w2):jk S j x tag b f d g w2 O:=by
 cases h with
 | skd e hx h=>exact .skd e (hx.trans (mQ k).symm) (h.keeps k)
 | sa1 e h c=>exact .sa1 e (fI h hl) (iK c k)
 | ry e h c=>exact .ry e (fI h hl) (iK c k)
 | ske e h c=>exact .ske e (fI h hl) (iK c k)
 | nb e h c=>exact .nb e (fI h hl) (iK c k)
 | sgo e hx h=>exact .sgo e (hx.trans (mQ k).symm) (h.keeps k)
 | kd e h=>exact .kd e (fI h hl)
 | anch e h=>exact .anch e (fI h hl)
 | w1 e h=>exact .w1 e (fI h hl)
 | w2 e h=>exact .w2 e (fI h hl)
 | wr e h=>exact .wr e (fI h hl)
 | w3 e h=>exact .w3 e (fI h hl)
 | blk e h=>exact .blk e fun w₁ r=>h w₁ fun _=>r hl
 | w4 e h=>exact .w4 e (fI h hl)
 | ke e h=>exact .ke e (fI h hl)
 | acq e h=>exact .acq e (fI h hl)
theorem jk.status(hS:S.Ok)(h:jk S j x tag b f d g w O)(hv:S.V0 w):(g.status=.running∧tag≠.blk)∨(g.status=.blocked∧tag=.blk):=by
 cases h with
 | skd e hx h=>
   refine .inl ⟨?_,zs⟩
   cases h with
   | stop h=>exact(h w (Keeps.refl _ O w) hv).choose_spec.1.1
   | step X h0 h1 h2=>exact h0
 | sa1 e h c=>exact .inl ⟨bQ (fun _ _ x=>x.1) h,zs⟩
 | ry e h c=>exact .inl ⟨bQ (fun _ _ x=>x.elim (fun x=>x.1) (fun x=>x.1)) h,zs⟩
 | ske e h c=>exact .inl ⟨bQ (fun _ _ x=>x.1) h,zs⟩
 | @nb r m R g w O e h c=>
   refine .inl ⟨bQ (fun g' w' x=>?_) h,zs⟩
   subst x
   have h1:=c w (Keeps.refl _ O w) hv
   cases h1 with
   | stop h=>exact(h w (Keeps.refl _ O w) hv).1
   | step X h0 h1 h2=>exact h0
 | sgo e hx h=>
   refine .inl ⟨?_,zs⟩
   cases h with
   | stop h=>exact(h w (Keeps.refl _ O w) hv).1
   | step X h0 h1 h2=>exact h0
 | kd e h=>exact .inl ⟨bQ (fun _ _ x=>x.1) h,zs⟩
 | anch e h=>exact .inl ⟨bQ hS.run h,zs⟩
 | w1 e h=>exact .inl ⟨bQ (fun _ _ x=>x.1) h,zs⟩
 | w2 e h=>exact .inl ⟨bQ (fun _ _ x=>x.1) h,zs⟩
 | wr e h=>exact .inl ⟨bQ (fun _ _ x=>x.1) h,zs⟩
 | w3 e h=>exact .inl ⟨bQ (fun _ _ x=>x.1) h,zs⟩
 | blk e h=>exact .inr ⟨rfl,rfl⟩
 | w4 e h=>exact .inl ⟨bQ (fun _ _ x=>x.1) h,zs⟩
 | ke e h=>exact .inl ⟨bQ (fun _ _ x=>x.1) h,zs⟩
 | acq e h=>exact .inl ⟨bQ (fun _ _ x=>x.1) h,zs⟩
theorem jk.wokenBy(hS:S.Ok)(h:jk S j x tag b f d g w O)(k:Keeps S.Cb O w w2)(hv:S.V0 w2)(g1 g2:Goroutine):
 ∃tag' f',jk S j x tag' b f' d (woken S.P g1 g2 w2 g) w2 O∧f'≤f+1∧(tag'=tag∨(tag=.blk∧tag'=.w3))∧(mayWake S.P g1=true→g2.status=.running→tag'≠.blk):=by
 have h':=h.keeps k hv.live
 unfold Go.Conc.woken
 split
 ·rcases h'.status hS hv with⟨hs,hne⟩|⟨_,rfl⟩
  ·exact⟨tag,f,by rw[again_running _ (.inl hs)];exact h',zo,.inl rfl,fun _ _=>hne⟩
  ·cases h' with
   | blk e hb=>
     have h3:=hb w2 fun x=>x
     exact⟨.w3,0+1,by rw[again_blocked h3.1 h3.2.1];exact .w3 e (Goes.stop hb),zo,.inr ⟨rfl,rfl⟩,fun _ _=>zs⟩
 ·rename_i hc
  exact⟨tag,f,h',zo,.inl rfl,fun h1 h2=>absurd (by simp[h1,h2]) hc⟩
end
def Cx(w w':World):Prop:=w'.os=w.os∧w'.output=w.output∧w'.tape=w.tape
theorem Cx.env{w w':World}(h:Cx w w'){o:Os}{p:Array (Nat × ByteArray)}{τ:Tape}(e:w.os=o∧w.output=p∧w.tape=τ):w'.os=o∧w'.output=p∧w'.tape=τ:=⟨h.1.trans e.1,h.2.1.trans e.2.1,h.2.2.trans e.2.2⟩
def Site.Sh(S:Site)(b:Nat):Prop:=b=S.Wg∨b=S.Ch
def ug(S:Site)(j:Nat)(pre:Nat→Nat)(w:World):Prop:=
 ∃ (buf:Array Value) (s q:Nat),w.heap[S.Ch]? =some (.chan S.n buf false s q false)∧buf.toList.Perm (((List.range j).filter fun i=>S.bit i && decide (pre i≤1)).map fun(i:Nat)=>int i64 i)
def OO(S:Site)(t:Trace):Prop:=∀op∈t,op.g≠0→∀x,op.act.touch?=some x→x.kind=.atomic→ShN S.Wg x.loc
theorem OO.app{S:Site}{t u:Trace}(h:OO S t)(hu:OO S u):OO S (t ++ u):=fun op hop=>(Array.mem_append.1 hop).elim (h op) (hu op)
structure Com(S:Site)(O C:Nat→Nat→Prop)(bx pre:Nat→Nat)(rk:Nat→Rank S.P)(j:Nat)(gs:Array Goroutine)(w:World)(t:Trace)(D:Nat→WD)(d0:Nat):Prop where
 size:gs.size=j+1
 lay:Lay O C S.Sh w
 c0:C 0=S.Cb
 ci:∀i,i<j→C (i+1)=S.C1 (bx i)
 z:∀k b,j<k→¬ O k b∧¬ C k b
 v0:S.V0 w
 box:∀i,i<j→w.heap[bx i]? =some (S.TG i)
 wk:∀i,i<j→∃g,gs[i+1]? =some g∧Eo S i (bx i) (rk (i+1)) (pre i) (D i).stage (D i).fuel (D i).deaf g w (O (i+1))
 ct:CT (In S.Sh) (iF O) (Em C) t j
 RX:RO t w
 norel:NoRelease (stA S.Wg) t
 deaf0:Deaf t 0=d0
 deafW:∀i,i<j→Deaf t (i+1)=(D i).deaf
 rel:∀i,i<j→(D i).stage≤6→∃r,RelBy (stA S.Wg) t (i+1) r
 sent:ug S j pre w
 G':OO S t
section
variable{S:Site}{O C:Nat→Nat→Prop}{bx pre:Nat→Nat}{rk:Nat→Rank S.P}{j:Nat}{gs gs':Array Goroutine}{w w':World}{t u:Trace}{D:Nat→WD}{d0:Nat}
theorem Com.v1(h:Com S O C bx pre rk j gs w t D d0){i:Nat}(hi:i<j):S.V1 i (bx i) w:=⟨h.v0,h.box i hi⟩
theorem ug.congr{pre':Nat→Nat}(h:ug S j pre w)(hw:w'.heap[S.Ch]? =w.heap[S.Ch]?)(hp:∀i,i<j→(pre' i≤1↔pre i≤1)):ug S j pre' w':=by
 obtain⟨buf,s,q,h1,h2⟩:=h
 refine⟨buf,s,q,hw.trans h1,?_⟩
 have:((List.range j).filter fun i=>S.bit i && decide (pre' i≤1))=(List.range j).filter fun i=>S.bit i && decide (pre i≤1):=by
  refine List.filter_congr fun i hi=>?_
  rw[decide_eq_decide.2 (hp i (List.mem_range.1 hi))]
 rw[this];exact h2
theorem ug.chan(h:ug S j pre w):∃buf s q,w.heap[S.Ch]? =some (.chan S.n buf false s q false):=let ⟨buf,s,q,h1,_⟩:=h;⟨buf,s,q,h1⟩
theorem Com.stepW(hS:S.Ok)(h:Com S O C bx pre rk j gs w t D d0){i:Nat}(hi:i<j){g':Goroutine}{O1:Nat→Prop}{x':Rank S.P}{p' s' m' d':Nat}
 (hsz:gs'.size=j+1)(hg':gs'[i+1]? =some g')(hgs:∀k,k<j→k≠i→∀y,gs[k+1]? =some y→(y.status=.running∨y.status=.finished)→gs'[k+1]? =some y)
 (jr:Lay (rE O (i+1) O1) C S.Sh w')(hk:∀k,k≠i+1→Keeps (C k) (O k) w w')(lj:∀b,C (i+1) b→w'.heap[b]? =w.heap[b]?)(hl:WgLive S.ty S.Wg w')(Io:Cx w w')
 (jh:ug S j (upd pre i p') w')(hs':Eo S i (bx i) x' p' s' m' d' g' w' O1)
 (hct:CT (In S.Sh) (iF (rE O (i+1) O1)) (Em C) (t ++ u) j)(BH:RO (t ++ u) w')(hu:∀op∈u,op.g=i+1)(hnr:∀op∈u,op.act≠.mark (.release (stA S.Wg)))
 (EK:OO S u)(hdk:Deaf (t ++ u) (i+1)=d')(hrel:s'≤6→∃r,RelBy (stA S.Wg) (t ++ u) (i+1) r):
 Com S (rE O (i+1) O1) C bx (upd pre i p') (upd rk (i+1) x') j gs' w' (t ++ u) (upd D i ⟨s',m',d'⟩) d0:=by
 refine⟨hsz,jr,h.c0,h.ci,fun k b hk'=>⟨by rw[dU O O1 zo];exact(h.z k b hk').1,(h.z k b hk').2⟩,⟨hl,fun b o hb=>?_,jh.chan,Io.env h.v0.env⟩,fun k hk'=>?_,fun k hk'=>?_,hct,BH,h.norel.app hnr,by rw[Deaf_other t zo _ hu,h.deaf0],fun k hk'=>?_,fun k hk' hst=>?_,jh,h.G'.app EK⟩
 ·rw[hk 0 zo b (.inr (by rw[h.c0];simp[Site.Cb,hb]))];exact h.v0.tab b o hb
 ·by_cases e:k=i
  ·subst e;rw[lj _ (by rw[h.ci k hi];exact .inr rfl)];exact h.box k hi
  ·rw[hk (k+1) zo _ (.inr (by rw[h.ci k hk'];exact .inr rfl))];exact h.box k hk'
 ·by_cases e:k=i
  ·subst e
   refine⟨g',hg',?_⟩
   rw[upd_same,upd_same,upd_same,bL]
   exact hs'
  ·obtain⟨y,hy,hsy⟩:=h.wk k hk'
   refine⟨y,hgs k hk' e y hy (hsy.status (h.v1 hk')),?_⟩
   rw[upd_ne rk _ zo,upd_ne pre _ e,upd_ne D _ e,dU O O1 zo]
   exact hsy.keeps hS (by rw[← h.ci k hk'];exact hk (k+1) zo) hl
 ·by_cases e:k=i
  ·subst e;rw[upd_same];exact hdk
  ·rw[Deaf_other t zo _ hu,h.deafW k hk',upd_ne D _ e]
 ·by_cases e:k=i
  ·subst e;rw[upd_same] at hst;exact hrel hst
  ·rw[upd_ne D _ e] at hst
   obtain⟨r,hr⟩:=h.rel k hk' hst
   exact⟨r,hr.appOther hu zo⟩
theorem Com.step0(hS:S.Ok)(h:Com S O C bx pre rk j gs w t D d0){O1:Nat→Prop}{x':Rank S.P}{d':Nat}
 (hsz:gs'.size=j+1)(hgs:∀k,k<j→∀y,gs[k+1]? =some y→(y.status=.running∨y.status=.finished)→gs'[k+1]? =some y)
 (jr:Lay (rE O 0 O1) C S.Sh w')(hk:∀k,k≠0→Keeps (C k) (O k) w w')(lj:∀b,C 0 b→w'.heap[b]? =w.heap[b]?)(hl:WgLive S.ty S.Wg w')(Io:Cx w w')
 (jh:ug S j pre w')(hct:CT (In S.Sh) (iF O) (Em C) (t ++ u) j)(BH:RO (t ++ u) w')(hu:∀op∈u,op.g=0)(hnr:∀op∈u,op.act≠.mark (.release (stA S.Wg)))
 (EK:OO S u)(hdk:Deaf (t ++ u) 0=d'):
 Com S (rE O 0 O1) C bx pre (upd rk 0 x') j gs' w' (t ++ u) D d':=by
 refine⟨hsz,jr,h.c0,h.ci,fun k b hk'=>⟨by rw[dU O O1 zo];exact(h.z k b hk').1,(h.z k b hk').2⟩,⟨hl,fun b o hb=>?_,jh.chan,Io.env h.v0.env⟩,fun k hk'=>?_,fun k hk'=>?_,CT.congr hct (fun k k1 _=>?_) (fun _ _ _=>rfl),BH,h.norel.app hnr,hdk,fun k hk'=>by rw[Deaf_other t zo _ hu,h.deafW k hk'],fun k hk' hst=>?_,jh,h.G'.app EK⟩
 ·rw[lj b (by rw[h.c0];simp[Site.Cb,hb])];exact h.v0.tab b o hb
 ·rw[hk (k+1) zo _ (.inr (by rw[h.ci k hk'];exact .inr rfl))];exact h.box k hk'
 ·obtain⟨y,hy,hsy⟩:=h.wk k hk'
  refine⟨y,hgs k hk' y hy (hsy.status (h.v1 hk')),?_⟩
  rw[upd_ne rk _ zo,dU O O1 zo]
  exact hsy.keeps hS (by rw[← h.ci k hk'];exact hk (k+1) zo) hl
 ·unfold iF;rw[dU O O1 zo]
 ·obtain⟨r,hr⟩:=h.rel k hk' hst
  exact⟨r,hr.appOther hu zo⟩
end
end
section
open Go.Conc Go.ConcN Go.cu Go.Conc.Lib
open Go.ConcR (KK WgAt stA smA rd wr g_of_ofEvents Payload DC0 again_blocked Bk ofEvent_loc_mark ofEvent_cell)
variable[Inhabited aV]
abbrev vW(S:Site):=Nat × (Nat→Rank S.P) × Nat
def Bj(S:Site):vW S→vW S→Prop:=Prod.Lex (· < ·) (Prod.Lex (Dec (kY S.P) (S.n+1)) (· < ·))
theorem mw(S:Site):WellFounded (Bj S):=
 (Prod.lex ⟨_,Nat.lt_wfRel.wf⟩ (Prod.lex ⟨_,jz (r:=kY S.P) Dt (S.n+1)⟩ ⟨_,Nat.lt_wfRel.wf⟩)).wf
theorem mr{S:Site}{a b:vW S}(h:Bj S a b):a.1≤b.1:=by
 cases h with
 | left _ _ h=>exact Nat.le_of_lt h
 | right _ h=>exact zL
theorem Fe{S:Site}{a b:vW S}(h:a.1<b.1):Bj S a b:=by
 obtain⟨a1,a2⟩:=a
 obtain⟨b1,b2⟩:=b
 exact Prod.Lex.left _ _ h
theorem Di{S:Site}{a b c:vW S}(h:Bj S a b)(h2:b.1<c.1):Bj S a c:=Fe (Nat.lt_of_le_of_lt (mr h) h2)
def mu(S:Site)(j:Nat)(D:Nat→WD)(tag:CTag)(b:Nat)(pre:Nat→Nat)(rk:Nat→Rank S.P)(f0:Nat):vW S:=
 (2 * phi S.n (Vc j D) tag+b+Ssum j D+sumTo j pre,rk,f0+2 * Fsum j D)
def Inv(S:Site)(μ:vW S)(m:Machine)(t:Trace):Prop:=
 ∃ (gs:Array Goroutine) (w:World) (sl:Option (Nat × Nat)) (j:Nat) (D:Nat→WD) (tag:CTag) (b f0 d0:Nat) (a:Goroutine) (st sm:Int) (O C:Nat→Nat→Prop) (bx pre:Nat→Nat) (rk:Nat→Rank S.P),
   m=crowd gs w sl∧gs[0]? =some a∧jk S j (rk 0) tag b f0 d0 a w (O 0)∧Com S O C bx pre rk j gs w t D d0∧WgAt S.ty S.Wg w st sm∧ConcN.Mode j D tag st sm∧μ=mu S j D tag b pre rk f0
theorem uV{α:Type}(f:Nat→α)(i:Nat):upd f i (f i)=f:=by
 funext k
 by_cases e:k=i
 ·subst e;rw[upd_same]
 ·rw[upd_ne f _ e]
theorem kF(O:Nat→Nat→Prop)(i:Nat):rE O i (O i)=O:=by
 funext k
 by_cases e:k=i
 ·subst e;rw[bL]
 ·rw[dU O _ e]
section
variable{S:Site}{O C:Nat→Nat→Prop}{bx pre:Nat→Nat}{rk:Nat→Rank S.P}{j:Nat}{gs:Array Goroutine}{w w':World}{sl:Option (Nat × Nat)}{t:Trace}{D:Nat→WD}{tag:CTag}{b f0 d0:Nat}{a:Goroutine}{st sm:Int}
theorem jk.bound{x:Rank S.P}{O0:Nat→Prop}(h:jk S j x tag b f0 d0 a w O0):j+pend tag≤S.n:=by
 cases h <;> simp only[pend] <;> (try simp) <;> omega
theorem JF(hS:S.Ok)(ha:gs[0]? =some a)(hm:jk S j (rk 0) tag b f0 d0 a w (O 0))(hc:Com S O C bx pre rk j gs w t D d0)
 {i:Nat}(hi:i<j){g g':Goroutine}{O1:Nat→Prop}{es:Array Event}{x':Rank S.P}{p' s' m' d':Nat}{st' sm':Int}(hg:gs[i+1]? =some g)(hgo:stepG S.P false g w=.go g' w' es)
 (jr:Lay (rE O (i+1) O1) C S.Sh w')(hk:∀k,k≠i+1→Keeps (C k) (O k) w w')(lj:∀q,C (i+1) q→w'.heap[q]? =w.heap[q]?)(Io:Cx w w')
 (jh:ug S j (upd pre i p') w')(hs':Eo S i (bx i) x' p' s' m' d' g' w' O1)
 (hct:CT (In S.Sh) (iF (rE O (i+1) O1)) (Em C) (t ++ MemOp.ofEvents (i+1) g.frame.fn g.frame.place es) j)(BH:RO (t ++ MemOp.ofEvents (i+1) g.frame.fn g.frame.place es) w')
 (EK:OO S (MemOp.ofEvents (i+1) g.frame.fn g.frame.place es))(hnr:∀e∈es,e.loc≠.mark (.release (stA S.Wg)))(hdk:deafBehind (D i).deaf es=d')(hrel:s'≤6→∃r,RelBy (stA S.Wg) (t ++ MemOp.ofEvents (i+1) g.frame.fn g.frame.place es) (i+1) r)
 (hwg:WgAt S.ty S.Wg w' st' sm')
 (hmode:∀tag',(tag'=tag∨(tag=.blk∧tag'=.w3))→(mayWake S.P g=true→g'.status=.running→tag'≠.blk)→ConcN.Mode j (upd D i ⟨s',m',d'⟩) tag' st' sm')
 (hlt:(s'+p'<(D i).stage+pre i∧cnt ⟨s',m',d'⟩≤cnt (D i))∨(s'=(D i).stage∧p'=pre i∧kY S.P x' (rk (i+1)))∨(s'=(D i).stage∧p'=pre i∧x'=rk (i+1)∧m'<(D i).fuel)):
 ∃m₁ ops μ',runT S.P (crowd gs w sl) (i+1)=(.next m₁,ops)∧Bj S μ' (mu S j D tag b pre rk f0)∧Inv S μ' m₁ (t ++ ops):=by
 have hl:WgLive S.ty S.Wg w':=⟨_,_,hwg⟩
 have hv0:S.V0 w':=⟨hl,fun q o hb=>by rw[hk 0 zo q (.inr (by rw[hc.c0];simp[Site.Cb,hb]))];exact hc.v0.tab q o hb,jh.chan,Io.env hc.v0.env⟩
 obtain⟨tag',f',hcs',hf',htag,hwk⟩:=hm.wokenBy hS (by rw[← hc.c0];exact hk 0 zo) hv0 g g'
 have hrun:=runT_crowd_go (P:=S.P) (sl:=sl) (i:=i+1) hg (by simpa using hgo)
 have hjn:j≤S.n:=by have:=hm.bound;omega
 have hcom:=hc.stepW (gs':=(gs.map (woken S.P g g' w')).setIfInBounds (i+1) g') (u:=MemOp.ofEvents (i+1) g.frame.fn g.frame.place es) hS hi (by simp[hc.size]) (get_map_set_same _ _ _ (by rw[hc.size];omega))
  (fun k hk' e y hy hst=>by
   rw[get_map_set _ _ _ _ zo,hy,Option.map_some]
   congr 1
   unfold Go.Conc.woken
   split
   ·exact again_running _ hst
   ·rfl) jr hk lj hl Io jh hs' hct BH g_of_ofEvents (norel_of hnr) EK (by rw[Deaf_own,hc.deafW i hi];exact hdk) hrel
 have e1:=sumTo_upd D (⟨s',m',d'⟩:WD) cnt hi
 have e2:=sumTo_upd D (⟨s',m',d'⟩:WD) WD.stage hi
 have e3:=sumTo_upd D (⟨s',m',d'⟩:WD) WD.fuel hi
 have e4:=sumTo_upd pre p' id hi
 refine⟨_,_,mu S j (upd D i ⟨s',m',d'⟩) tag' b (upd pre i p') (upd rk (i+1) x') f',hrun,?_,_,w',sl,j,upd D i ⟨s',m',d'⟩,tag',b,f',d0,woken S.P g g' w' a,st',sm',_,C,bx,_,_,rfl,
  by rw[get_map_set _ _ _ _ zo,ha];rfl,by rw[upd_ne rk _ zo,dU O O1 zo];exact hcs',hcom,hwg,hmode tag' htag hwk,rfl⟩
 unfold mu
 rw[phi_retag S.n _ htag]
 simp only[Vc,Ssum,Fsum,id] at *
 have hph:(sumTo j fun q=>cnt (upd D i ⟨s',m',d'⟩ q))≤(sumTo j fun q=>cnt (D q))→phi S.n (sumTo j fun q=>cnt (upd D i ⟨s',m',d'⟩ q)) tag≤phi S.n (sumTo j fun q=>cnt (D q)) tag:=fun h=>phi_mono S.n h tag
 have same:s'=(D i).stage→p'=pre i→2 * phi S.n (sumTo j fun q=>cnt (upd D i ⟨s',m',d'⟩ q)) tag+b+(sumTo j fun q=>(upd D i ⟨s',m',d'⟩ q).stage)+sumTo j (fun q=>upd pre i p' q)=2 * phi S.n (sumTo j fun q=>cnt (D q)) tag+b+(sumTo j fun q=>(D q).stage)+sumTo j (fun q=>pre q):=fun h1 h2=>by
  have ec:cnt (⟨s',m',d'⟩:WD)=cnt (D i):=by simp only[cnt,h1]
  have ev:(sumTo j fun q=>cnt (upd D i ⟨s',m',d'⟩ q))=sumTo j fun q=>cnt (D q):=zo
  rw[ev];omega
 rcases hlt with⟨h1,h2⟩|⟨h1,h2,h3⟩|⟨h1,h2,h3,h4⟩
 ·refine Prod.Lex.left _ _ ?_
  have:=hph zo
  show 2 * _+b+_+sumTo j (fun q=>upd pre i p' q)<2 * _+b+_+sumTo j (fun q=>pre q)
  omega
 ·have:=same h1 h2
  show Bj S (2 * _+b+_+sumTo j (fun q=>upd pre i p' q),_) (2 * _+b+_+sumTo j (fun q=>pre q),_)
  rw[this]
  exact Prod.Lex.right _ (Prod.Lex.left _ _ ⟨i+1,zo,by rw[upd_same];exact h3,fun k hk'=>upd_ne rk _ hk'⟩)
 ·have:=same h1 h2
  show Bj S (2 * _+b+_+sumTo j (fun q=>upd pre i p' q),_) (2 * _+b+_+sumTo j (fun q=>pre q),_)
  rw[this,h3,uV]
  refine Prod.Lex.right _ (Prod.Lex.right _ ?_)
  omega
end
end
section
open Go.Conc Go.ConcN Go.cu Go.Conc.Lib
open Go.ConcR (KK WgAt stA smA rd wr g_of_ofEvents Payload DC0 again_blocked Bk ofEvent_loc_mark ofEvent_cell bk_of_mute)
variable[Inhabited aV]
section
variable{S:Site}{O C:Nat→Nat→Prop}{bx pre:Nat→Nat}{rk:Nat→Rank S.P}{j:Nat}{gs:Array Goroutine}{w w':World}{sl:Option (Nat × Nat)}{t:Trace}{D:Nat→WD}{tag:CTag}{b f0 d0:Nat}{a:Goroutine}{st sm:Int}
theorem jL{O1 C0:Nat→Prop}{e:Event}(h:R7 O1 C0 e):e.loc≠.mark .disable∧e.loc≠.mark .enable∧∀q,e.loc≠.mark (.release q):=by
 rcases h with rfl|⟨_,⟨q,h,_⟩|⟨q,h,_⟩⟩
 ·exact⟨zs,zs,zs⟩
 ·exact⟨by simp[h],by simp[h],by simp[h]⟩
 ·exact⟨by simp[h],by simp[h],by simp[h]⟩
theorem mem_ofEvents{k:Nat}{fn:FuncId}{pos:String}{es:Array Event}{op:MemOp}(h:op∈MemOp.ofEvents k fn pos es):∃e∈es,op={g:=k,fn,pos,act:=.ofEvent e }:=mem_seen h
theorem OH{k:Nat}{O1:Nat→Prop}{es:Array Event}(hL:Lay O C S.Sh w)(d:Did (C k) (O k) O1 w w' es.toList)(hT:RO t w)(fn:FuncId)(pos:String):RO (t ++ MemOp.ofEvents k fn pos es) w':=by
 refine pI hT d.size fun op hop x hx q hq=>?_
 obtain⟨e,he,rfl⟩:=mem_ofEvents hop
 have hL':=hL.did d
 rcases mq (d.evs e (by simpa using he)) hx hq with h|h
 ·exact hL'.NW k q (by rw[bL];exact h)
 ·exact hL'.P8 k q h
theorem Ng{k:Nat}{O1 C0:Nat→Prop}{es:Array Event}(h:∀e∈es,R7 O1 C0 e)(fn:FuncId)(pos:String):OO S (MemOp.ofEvents k fn pos es):=fun op hop _ x hx hk=>by
 obtain⟨e,he,rfl⟩:=mem_ofEvents hop
 rcases h e he with rfl|⟨hs,h⟩
 ·simp[MemAct.ofEvent,MemAct.touch?] at hx
 ·obtain⟨loc,wr,sy⟩:=e
  simp only at hs h
  subst hs
  rcases h with⟨q,rfl,_⟩|⟨q,rfl,_⟩ <;> cases wr <;> simp[MemAct.ofEvent,MemAct.touch?] at hx <;> subst hx <;> cases hk
theorem Tw{k:Nat}{es:Array Event}(h:∀e∈es,∀x,(MemAct.ofEvent e).touch?=some x→ShN S.Wg x.loc)(fn:FuncId)(pos:String):OO S (MemOp.ofEvents k fn pos es):=fun op hop _ x hx _=>by
 obtain⟨e,he,rfl⟩:=mem_ofEvents hop
 exact h e he x hx
theorem rR{u:Trace}(h:∀op∈u,op.act.touch?=none):OO S u:=fun op hop _ x hx=>by rw[h op hop] at hx;cases hx
theorem Vw(hS:S.Ok)(ha:gs[0]? =some a)(hm:jk S j (rk 0) tag b f0 d0 a w (O 0))(hc:Com S O C bx pre rk j gs w t D d0)(hwg:WgAt S.ty S.Wg w st sm)(hmode:ConcN.Mode j D tag st sm)
 {i:Nat}(hi:i<j){g g':Goroutine}{O1:Nat→Prop}{es:Array Event}{x':Rank S.P}(hg:gs[i+1]? =some g)(hgo:stepG S.P false g w=.go g' w' es)(d:Did (C (i+1)) (O (i+1)) O1 w w' es.toList)
 (h7:(D i).stage=7)(hd:(D i).deaf=0)(hs':Eo S i (bx i) x' (pre i) 7 0 0 g' w' O1)(hr:kY S.P x' (rk (i+1))):
 ∃m₁ ops μ',runT S.P (crowd gs w sl) (i+1)=(.next m₁,ops)∧Bj S μ' (mu S j D tag b pre rk f0)∧Inv S μ' m₁ (t ++ ops):=by
 have hev:∀e∈es,R7 O1 (C (i+1)) e:=fun e he=>d.evs e (by simpa using he)
 have hbW:w'.heap[S.Wg]? =w.heap[S.Wg]?:=hc.lay.shared d (.inl rfl)
 refine JF hS ha hm hc hi hg hgo (hc.lay.did d) (fun k hk=>hc.lay.keeps d hk) (fun q hq=>hc.lay.common d hq) ⟨d.os,d.output,d.tape⟩ ?_ hs' (js hc.lay d hc.RX hc.ct zo zo _ _) (OH hc.lay d hc.RX _ _) (Ng hev _ _)
  (fun e he=>(jL (hev e he)).2.2 _) (by rw[hd];exact deafBehind_idle (fun e he=>⟨(jL (hev e he)).1,(jL (hev e he)).2.1⟩) 0) (fun h=>absurd h zo) (st':=st) (sm':=sm) (by unfold WgAt at *;rw[hbW];exact hwg)
  (fun tag' ht _=>ConcN.Mode.retag (by have:=hmode.same (i:=i) 0 0;rwa[h7] at this) ht) (.inr (.inl ⟨h7.symm,rfl,hr⟩))
 rw[uV]
 exact hc.sent.congr (hc.lay.shared d (.inr rfl)) fun _ _=>Iff.rfl
theorem Kv(hS:S.Ok)(ha:gs[0]? =some a)(hm:jk S j (rk 0) tag b f0 d0 a w (O 0))(hc:Com S O C bx pre rk j gs w t D d0)
 {i:Nat}(hi:i<j){g g':Goroutine}{es:Array Event}{s' m' d':Nat}{st' sm':Int}(hg:gs[i+1]? =some g)(hgo:stepG S.P false g w=.go g' w' es)(hAs:Aside S.Wg w w')(hwg:WgAt S.ty S.Wg w' st' sm')
 (hev:∀e∈es,∀x,(MemAct.ofEvent e).touch?=some x→ShN S.Wg x.loc∧x.kind≠.plain∧x.kind≠.said)(hnr:∀e∈es,e.loc≠.mark (.release (stA S.Wg)))
 (hs':Eo S i (bx i) (rk (i+1)) (pre i) s' m' d' g' w' (O (i+1)))(hdk:deafBehind (D i).deaf es=d')
 (hrel:s'≤6→∃r,RelBy (stA S.Wg) (t ++ MemOp.ofEvents (i+1) g.frame.fn g.frame.place es) (i+1) r)
 (hmode:∀tag',(tag'=tag∨(tag=.blk∧tag'=.w3))→(mayWake S.P g=true→g'.status=.running→tag'≠.blk)→ConcN.Mode j (upd D i ⟨s',m',d'⟩) tag' st' sm')
 (hlt:(s'<(D i).stage∧cnt ⟨s',m',d'⟩≤cnt (D i))∨(s'=(D i).stage∧m'<(D i).fuel)):
 ∃m₁ ops μ',runT S.P (crowd gs w sl) (i+1)=(.next m₁,ops)∧Bj S μ' (mu S j D tag b pre rk f0)∧Inv S μ' m₁ (t ++ ops):=by
 have hkp:∀k,Keeps (C k) (O k) w w':=fun k q hq=>hAs.block q (by
  rcases hq with h|h
  ·exact fun e=>hc.lay.nN k q h (.inl e)
  ·exact fun e=>hc.lay.cS k q h (.inl e))
 have jr:Lay O C S.Sh w':=hc.lay.grow (Nat.le_of_eq hAs.size.symm)
 have hok:∀op∈MemOp.ofEvents (i+1) g.frame.fn g.frame.place es,OkW (In S.Sh) (iF O) (Em C) (i+1) op:=fun op hop=>by
  obtain⟨e,he,rfl⟩:=mem_ofEvents hop
  refine⟨rfl,fun x hx=>.inl ?_⟩
  obtain⟨⟨q,h1,h2⟩,h3⟩:=hev e he x hx
  exact⟨by rw[h1];exact .inl h2,h3⟩
 refine JF hS ha hm hc hi hg hgo (O1:=O (i+1)) (x':=rk (i+1)) (p':=pre i) (by rw[kF];exact jr) (fun k _=>hkp k) (fun q hq=>hkp (i+1) q (.inr hq)) ⟨hAs.os,hAs.output,hAs.tape⟩ ?_ hs' (by rw[kF];exact hc.ct.appW hc.lay.apart zo zo hok) ?_ (Tw (fun e he x hx=>(hev e he x hx).1) _ _) hnr hdk hrel hwg hmode ?_
 ·rw[uV];exact hc.sent.congr (hAs.block _ (Ne.symm hS.wc)) fun _ _=>Iff.rfl
 ·refine pI hc.RX (Nat.le_of_eq hAs.size.symm) fun op hop x hx q hq=>?_
  obtain⟨e,he,rfl⟩:=mem_ofEvents hop
  obtain⟨⟨ad,h1,h2⟩,_⟩:=hev e he x hx
  rw[h1] at hq
  simp only[In] at hq
  have:=jr.NY S.Wg (.inl rfl)
  omega
 ·rcases hlt with⟨h1,h2⟩|⟨h1,h2⟩
  ·exact .inl ⟨zo,h2⟩
  ·exact .inr (.inr ⟨h1,rfl,rfl,h2⟩)
theorem xL{es:Array Event}(h:∀e∈es,Bk S.Wg e):∀e∈es,∀x,(MemAct.ofEvent e).touch?=some x→ShN S.Wg x.loc∧x.kind≠.plain∧x.kind≠.said:=fun e he x hx=>by
 rcases h e he with h1|h1|⟨q,wr,rfl,hq⟩
 ·rw[ofEvent_loc_mark h1] at hx;cases hx
 ·rw[ofEvent_loc_mark h1] at hx;cases hx
 ·simp only[ofEvent_cell,MemAct.touch?,Option.some.injEq] at hx
  subst hx
  exact⟨⟨q,rfl,hq⟩,zs,zs⟩
theorem PO{es:Array Event}(h:∀e∈es,EvW S.Wg F0 F0 1 e):∀e∈es,∀x,(MemAct.ofEvent e).touch?=some x→ShN S.Wg x.loc∧x.kind≠.plain∧x.kind≠.said:=fun e he x hx=>by
 rcases((h e he).1 0 "").2 x hx with h|h|⟨h,_⟩
 ·exact h
 ·exact h.elim
 ·exact h.elim
theorem Ev(hab:S.bA≠S.bB)(h1:@AsideCell S.pA S.bA 1 0 w w')(h2:@AsideCell S.pB S.bB 1 0 w w'):Aside S.Wg w w':=by
 obtain⟨a1,a2,a3,a4,a5,_,_⟩:=h1
 obtain⟨_,_,_,_,c5,_,_⟩:=h2
 exact⟨a1,a2,a3,a4,fun k _=>by
  by_cases e:k=S.bA
  ·subst e;exact c5 _ hab
  ·exact a5 k e⟩
end
section
variable{S:Site}{O C:Nat→Nat→Prop}{bx pre:Nat→Nat}{rk:Nat→Rank S.P}{j:Nat}{gs:Array Goroutine}{w w':World}{sl:Option (Nat × Nat)}{t:Trace}{D:Nat→WD}{tag:CTag}{b f0 d0:Nat}{a:Goroutine}{st sm:Int}{i:Nat}
theorem yH{x:WD}(h:OpenSt j D)(hx:x.stage=7∨x.stage=6∨x.stage=5∨x.stage=1):OpenSt j (upd D i x):=fun k hk=>by
 unfold upd
 split
 ·exact hx
 ·exact h k hk
theorem Jb{x:WD}(h:∀k,k<j→k≠i→(D k).stage=1):∀k,k<j→k≠i→(upd D i x k).stage=1:=fun k hk e=>by rw[upd_ne D _ e];exact h k hk e
theorem Ql(h:ConcN.Mode j D tag st sm)(hi:i<j)(h5:(D i).stage=5):
 ∃v wt:Nat,wt≤1∧v<j+pend tag∧st=((v:Int)+1) * KK+wt∧sm=0∧(¬ (v=0∧wt=1)→∀z,ConcN.Mode j (upd D i ⟨1,z,1⟩) tag ((v:Int) * KK+wt) 0)∧((v=0∧wt=1)→∀z,ConcN.Mode j (upd D i ⟨4,z,1⟩) tag ((v:Int) * KK+wt) 0):=by
 have hV:=Vc_le j D
 have c1:cnt (D i)=1:=by simp[cnt,h5]
 have hpos:1≤Vc j D:=by have:=le_sumTo (f:=fun x=>cnt (D x)) hi;simp only[Vc];omega
 have gone:∀z,Vc j (upd D i ⟨1,z,1⟩)+1=Vc j D:=fun z=>by
  have:=Vc_upd D (⟨1,z,1⟩:WD) hi
  have:cnt (⟨1,z,1⟩:WD)=0:=rfl
  omega
 cases h with
 | opn h1 h2 h3=>
   refine⟨Vc j D+pend tag - 1,0,zo,zo,?_,rfl,fun _ z=>?_,fun h=>absurd h.2 zD⟩
   ·rw[show((Vc j D+pend tag:Nat):Int)=((Vc j D+pend tag - 1:Nat):Int)+1 by omega];simp
   ·have:=ConcN.Mode.opn (j:=j) (D:=upd D i ⟨1,z,1⟩) h1 (yH h2 zs) (fun vs e=>by have:=h3 vs e;have:=gone z;omega)
    rw[show Vc j (upd D i ⟨1,z,1⟩)+pend tag=Vc j D+pend tag - 1 by have:=gone z;omega] at this
    simpa using this
 | reg h1 h2 h3=>
   refine⟨Vc j D - 1,1,zo,zo,?_,rfl,fun hv z=>?_,fun hv z=>?_⟩
   ·rw[show((Vc j D:Nat):Int)=((Vc j D - 1:Nat):Int)+1 by omega];simp
   ·have:=ConcN.Mode.reg (j:=j) (D:=upd D i ⟨1,z,1⟩) h1 (yH h2 zs) (by have:=gone z;omega)
    rw[show Vc j (upd D i ⟨1,z,1⟩)=Vc j D - 1 by have:=gone z;omega] at this
    simpa using this
   ·have hq:=others_uncounted hi (show Vc j D=1 by omega) c1
    have:=ConcN.Mode.last (j:=j) (D:=upd D i ⟨4,z,1⟩) (tag:=tag) i h1 hi (by rw[upd_same];simp) (Jb fun k hk e=>by
     have a1:=hq k hk e
     have a2:=h2 k hk
     unfold cnt at a1
     split at a1 <;> omega)
    rw[upd_same] at this
    simpa [hv.1] using this
 | last L _ h2 h3 h4=>
   by_cases e:i=L
   ·subst e;omega
   ·have:=h4 i hi e;omega
 | sema h2=>have:=h2 i hi;omega
 | fin _ h2=>have:=h2 i hi;omega
theorem uK(h:ConcN.Mode j D tag st sm)(hi:i<j)(h4:(D i).stage=4∨(D i).stage=3∨(D i).stage=2):st=(if (D i).stage=2 then 0 else 1)∧sm=0∧isW3 tag∧
 (∀s' z,s'=3∨s'=2→ConcN.Mode j (upd D i ⟨s',z,1⟩) tag (if s'=2 then 0 else 1) 0)∧(∀z,AllQuit j (upd D i ⟨1,z,0⟩)):=by
 obtain⟨h1,h2,h3,h5⟩:=h.isLast hi h4
 refine⟨h3,h5,h1,fun s' z hs=>?_,fun z k hk=>?_⟩
 ·have:=ConcN.Mode.last (j:=j) (D:=upd D i ⟨s',z,1⟩) (tag:=tag) i h1 hi (by rw[upd_same];simp only;omega) (Jb h2)
  rwa[upd_same] at this
 ·by_cases e:k=i
  ·subst e;rw[upd_same]
  ·rw[upd_ne D _ e];exact h2 k hk e
def OU(d:Nat)(es:Array Event):Prop:=∀k e,es[k]? =some e→(MemAct.ofEvent e).touch?=none∨0<deafBehind d (es.extract 0 k)
theorem qB{d:Nat}{es:Array Event}(h:∀e∈es,e.loc=.mark .disable∨e.loc=.mark .enable):OU d es:=fun k e he=>.inl (by
 rcases h e (Array.mem_of_getElem? he) with h1|h1 <;> rw[ofEvent_loc_mark h1] <;> rfl)
theorem VN{d:Nat}:OU d #[]:=fun k e he=>by simp at he
theorem Jg(e:Event):OU 1 #[e]:=fun k x hx=>by
 cases k with
 | zero=>exact .inr (by simp[deafBehind])
 | succ k=>simp at hx
theorem ZE(Wg:Nat):OU 1 #[rd (stA Wg),wr (stA Wg)]:=fun k x hx=>by
 rcases k with _|_|k
 ·exact .inr (by simp[deafBehind])
 ·exact .inr (by simp[deafBehind,rd])
 ·simp at hx
theorem VO(ad:Addr)(d:Nat):OU d (semEvents ad):=fun k x hx=>by
 rcases k with _|_|_|_|k
 ·simp[semEvents] at hx;subst hx;exact .inl rfl
 ·exact .inr (by simp[deafBehind,semEvents])
 ·exact .inr (by simp[deafBehind,semEvents])
 ·simp[semEvents] at hx;subst hx;exact .inl rfl
 ·simp[semEvents] at hx
theorem qL:∀e∈#[Go.ConcR.mk .disable],Bk S.Wg e:=by intro e he;simp at he;subst he;exact .inl rfl
theorem uw:∀e∈#[Go.ConcR.mk .enable],Bk S.Wg e:=by intro e he;simp at he;subst he;exact .inr (.inl rfl)
theorem bk_rw:∀e∈#[rd (stA S.Wg),wr (stA S.Wg)],Bk S.Wg e:=by intro e he;simp at he;rcases he with rfl|rfl <;> exact bk_cell _ _ rfl
theorem bk_rd:∀e∈#[rd (stA S.Wg)],Bk S.Wg e:=by intro e he;simp at he;subst he;exact bk_cell _ _ rfl
theorem ua:∀e∈#[wr (stA S.Wg)],Bk S.Wg e:=by intro e he;simp at he;subst he;exact bk_cell _ _ rfl
theorem bk_sem:∀e∈semEvents (smA S.Wg),Bk S.Wg e:=by
 intro e he
 simp[semEvents] at he
 rcases he with rfl|rfl|rfl|rfl
 ·exact .inl rfl
 ·exact bk_cell _ _ rfl
 ·exact bk_cell _ _ rfl
 ·exact .inr (.inl rfl)
theorem qR(hS:S.Ok)(ha:gs[0]? =some a)(hm:jk S j (rk 0) tag b f0 d0 a w (O 0))(hc:Com S O C bx pre rk j gs w t D d0)(hi:i<j){g g':Goroutine}(hg:gs[i+1]? =some g)(hpre:pre i=0)(h6:(D i).stage≤6)
 {es:Array Event}{s' m' d':Nat}{st' sm':Int}(hgo:stepG S.P false g w=.go g' w' es)(hAs:Aside S.Wg w w')(hwg:WgAt S.ty S.Wg w' st' sm')(hbk:∀e∈es,Bk S.Wg e)(yW:OU (D i).deaf es)(hl:S.Late s' m' d' g' w')
 (hd:deafBehind (D i).deaf es=d')(hmode:∀tag',(tag'=tag∨(tag=.blk∧tag'=.w3))→(mayWake S.P g=true→g'.status=.running→tag'≠.blk)→ConcN.Mode j (upd D i ⟨s',m',d'⟩) tag' st' sm')
 (hlt:s'<(D i).stage∨(s'=(D i).stage∧m'<(D i).fuel)):∃m₁ ops μ',runT S.P (crowd gs w sl) (i+1)=(.next m₁,ops)∧Bj S μ' (mu S j D tag b pre rk f0)∧Inv S μ' m₁ (t ++ ops):=by
 have hcnt:cnt ⟨s',m',d'⟩≤cnt (D i):=by unfold cnt;simp only;split <;> split <;> omega
 exact Kv hS ha hm hc hi hg hgo hAs hwg (xL hbk) (norel_of_Bk hbk) (by rw[hpre];exact .late zo hl) hd (fun _=>let ⟨r,hr⟩:=hc.rel i hi h6;⟨r,hr.book (hc.deafW i hi) _ _ hbk yW⟩) hmode (hlt.imp (fun h=>⟨h,hcnt⟩) id)
theorem Jm(pl:Payload){q:Nat}{v:Value}(rD:∀s m d g w,@WSit pl S.P S.ty S.Wg q 1 F0 F0 0 1 v s m d g w→S.Late s m d g w)
 (hS:S.Ok)(ha:gs[0]? =some a)(hm:jk S j (rk 0) tag b f0 d0 a w (O 0))(hc:Com S O C bx pre rk j gs w t D d0)(hwg:WgAt S.ty S.Wg w st sm)(hmode:ConcN.Mode j D tag st sm)
 (hi:i<j){g:Goroutine}(hg:gs[i+1]? =some g)(hrun:g.status=.running)(hpre:pre i=0){s m dd:Nat}(hs:@WSit pl S.P S.ty S.Wg q 1 F0 F0 0 1 v s m dd g w)(h6:s≤6)
 (hst:(D i).stage=s)(hfu:(D i).fuel=m)(hde:(D i).deaf=dd):
 ∃m₁ ops μ',runT S.P (crowd gs w sl) (i+1)=(.next m₁,ops)∧Bj S μ' (mu S j D tag b pre rk f0)∧Inv S μ' m₁ (t ++ ops):=by
 letI:=pl
 have hb:=hm.bound
 have hn:=hS.n31
 have stay:∀z dz,ConcN.Mode j (upd D i ⟨s,z,dz⟩) tag st sm:=fun z dz=>by have:=hmode.same (i:=i) z dz;rwa[hst] at this
 have idle:∀ {g':Goroutine} {m':Nat},stepG S.P false g w=.go g' w #[]→@WSit pl S.P S.ty S.Wg q 1 F0 F0 0 1 v s m' dd g' w→m'<m→
  ∃m₁ ops μ',runT S.P (crowd gs w sl) (i+1)=(.next m₁,ops)∧Bj S μ' (mu S j D tag b pre rk f0)∧Inv S μ' m₁ (t ++ ops):=fun hgo hs' hlt=>
  qR hS ha hm hc hi hg hpre zo hgo (.refl S.Wg w) hwg zs VN (rD _ _ _ _ _ hs') (by rw[hde];rfl) (fun _ ht _=>(stay _ _).retag ht) (.inr ⟨hst.symm,zo⟩)
 cases hs with
 | r0 h=>omega
 | k1 h=>
   rcases Goes.cases h with hs|⟨m',rfl,hs⟩
   ·obtain⟨_,g',hgo,m₂,hk⟩:=hs w (RW.refl w)
    exact qR hS ha hm hc hi hg hpre zo hgo (.refl S.Wg w) hwg qL (qB (by intro e he;simp at he;subst he;exact .inl rfl)) (rD _ _ _ _ _ (.d1 hk)) (by rw[hde];rfl)
     (fun _ ht _=>(hmode.counted hi zo (.inr rfl) _ _).retag ht) (.inl zo)
   ·obtain⟨g',w',es,hgo,⟨rfl,rfl⟩,hk⟩:=hs w (RW.refl w)
    exact idle hgo (.k1 hk) zo
 | d1 h=>
   rcases Goes.cases h with hs|⟨m',rfl,hs⟩
   ·obtain⟨v,wt,hwt,hv,rfl,rfl,hleave,hlast⟩:=Ql hmode hi hst
    obtain⟨g',hgo,hl,hq⟩:=(hs w (RW.refl w)).2 v wt hwt zo hwg
    have go1:∀ {s' m':Nat},s'<5→@WSit pl S.P S.ty S.Wg q 1 F0 F0 0 1 _ s' m' 1 g' (w.setCell (stA S.Wg) (.int .u64 ((v:Int) * KK+wt)))→ConcN.Mode j (upd D i ⟨s',m',1⟩) tag ((v:Int) * KK+wt) 0→
     ∃m₁ ops μ',runT S.P (crowd gs w sl) (i+1)=(.next m₁,ops)∧Bj S μ' (mu S j D tag b pre rk f0)∧Inv S μ' m₁ (t ++ ops):=fun hs' hk hm'=>
     qR hS ha hm hc hi hg hpre zo hgo (aside_setCell w (stA S.Wg) _) (hwg.setSt _) bk_rw (by rw[hde];exact ZE _) (rD _ _ _ _ _ hk) (by rw[hde];rfl) (fun _ ht _=>hm'.retag ht) (.inl zo)
    by_cases hx:v=0∧wt=1
    ·obtain⟨m₂,hk⟩:=hl hx
     exact go1 zo (.d2 hk) (hlast hx _)
    ·obtain⟨z,hk⟩:=hq hx
     exact go1 zo (.quit hk) (hleave hx _)
   ·obtain⟨g',w',es,hgo,⟨rfl,rfl⟩,hk⟩:=hs w (RW.refl w)
    exact idle hgo (.d1 hk) zo
 | d2 h=>
   rcases Goes.cases h with hs|⟨m',rfl,hs⟩
   ·obtain⟨e1,e2,_,Uq,_⟩:=uK hmode hi zo
    rw[hst] at e1
    subst e1;subst e2
    obtain⟨g',hgo,m₂,hk⟩:=(hs w (RW.refl w)).2 hwg
    exact qR hS ha hm hc hi hg hpre zo hgo (.refl S.Wg w) hwg bk_rd (by rw[hde];exact Jg _) (rD _ _ _ _ _ (.d3 hk)) (by rw[hde];rfl) (fun _ ht _=>(Uq 3 _ (.inl rfl)).retag ht) (.inl zo)
   ·obtain⟨g',w',es,hgo,⟨rfl,rfl⟩,hk⟩:=hs w (RW.refl w)
    exact idle hgo (.d2 hk) zo
 | d3 h=>
   rcases Goes.cases h with hs|⟨m',rfl,hs⟩
   ·obtain⟨e1,e2,_,Uq,_⟩:=uK hmode hi zo
    rw[hst] at e1
    subst e1;subst e2
    obtain⟨g',hgo,m₂,hk⟩:=(hs w (RW.refl w)).2 hwg
    exact qR hS ha hm hc hi hg hpre zo hgo (aside_setCell w (stA S.Wg) _) (hwg.setSt 0) ua (by rw[hde];exact Jg _) (rD _ _ _ _ _ (.d4 hk)) (by rw[hde];rfl) (fun _ ht _=>(Uq 2 _ (.inr rfl)).retag ht) (.inl zo)
   ·obtain⟨g',w',es,hgo,⟨rfl,rfl⟩,hk⟩:=hs w (RW.refl w)
    exact idle hgo (.d3 hk) zo
 | d4 h=>
   rcases Goes.cases h with hs|⟨m',rfl,hs⟩
   ·obtain⟨e1,e2,hw3,_,hall⟩:=uK hmode hi zo
    rw[hst] at e1
    subst e1;subst e2
    obtain⟨_,hmw,hx⟩:=hs w (RW.refl w)
    obtain⟨g',hgo,z,hk⟩:=hx hwg
    have hr:g'.status=.running:=by
     cases z with
     | zero=>exact absurd hk.2 zD
     | succ z=>
       rcases hk with⟨_,hk⟩|⟨hk,_⟩
       ·exact absurd hk zD
       ·exact hk
    refine qR hS ha hm hc hi hg hpre zo hgo (aside_setCell w (smA S.Wg) _) (hwg.setSm 1) bk_sem (VO _ _) (d':=1) (rD _ _ _ _ _ (.quit hk)) (by rw[hde];simp[deafBehind,semEvents]) (fun tag' ht hnb=>?_) (.inl zo)
    have hne:=hnb hmw hr
    have e3:tag'=.w3:=by
     rcases ht with rfl|⟨_,rfl⟩
     ·cases tag' <;> first|rfl|exact hw3.elim|exact absurd rfl hne
     ·rfl
    subst e3
    exact .sema fun k hk'=>by
     have:=hall z k hk'
     by_cases e:k=i
     ·subst e;rw[upd_same]
     ·rw[upd_ne D _ e] at this⊢;exact this
   ·obtain⟨g',w',es,hgo,⟨rfl,rfl⟩,hk⟩:=hs w (RW.refl w)
    exact idle hgo (.d4 hk) zo
 | quit h=>
   cases m with
   | zero=>rw[h.1] at hrun;cases hrun
   | succ z=>
     rcases h with⟨hf,_⟩|⟨_,g',es,hmute,hgo,hk⟩
     ·rw[hf] at hrun;cases hrun
     ·have hbk:∀e∈es,Bk S.Wg e:=fun e he=>bk_of_mute (hmute e he)
      refine qR hS ha hm hc hi hg hpre zo (hgo w) (.refl S.Wg w) hwg hbk (qB fun e he=>?_) (rD _ _ _ _ _ (.quit hk)) (by rw[hde]) (fun _ ht _=>(stay _ _).retag ht) (.inr ⟨hst.symm,zo⟩)
      rcases hbk e he with h1|h1|⟨ad,x,rfl,_⟩
      ·exact .inl h1
      ·exact .inr h1
      ·have:=hmute _ he;simp[Event.mute] at this
end
section
variable{S:Site}{O C:Nat→Nat→Prop}{bx pre:Nat→Nat}{rk:Nat→Rank S.P}{j:Nat}{gs:Array Goroutine}{w w':World}{sl:Option (Nat × Nat)}{t:Trace}{D:Nat→WD}{tag:CTag}{b f0 d0:Nat}{a:Goroutine}{st sm:Int}
theorem Com.rename(hS:S.Ok)(h:Com S O C bx pre rk j gs w t D d0){i:Nat}(hi:i<j){g:Goroutine}(hg:gs[i+1]? =some g){x':Rank S.P}{p' m':Nat}(h7:(D i).stage=7)(hd:(D i).deaf=0)
 (jh:ug S j (upd pre i p') w)(hs':Eo S i (bx i) x' p' 7 m' 0 g w (O (i+1))):Com S O C bx (upd pre i p') (upd rk (i+1) x') j gs w t (upd D i ⟨7,m',0⟩) d0:=by
 have:=h.stepW (gs':=gs) (u:=#[]) (O1:=O (i+1)) (w':=w) hS hi h.size hg (fun k _ _ y hy _=>hy) (by rw[kF];exact h.lay) (fun k _=>Keeps.refl _ _ _) (fun _ _=>rfl) h.v0.live ⟨rfl,rfl,rfl⟩ jh hs'
  (by rw[kF];simpa using h.ct) (by simpa using h.RX) zs zs (rR zs) (by simpa [hd] using h.deafW i hi) zo
 rw[kF] at this
 simpa using this
theorem VW(hS:S.Ok)(ha:gs[0]? =some a)(hm:jk S j (rk 0) tag b f0 d0 a w (O 0))(hc:Com S O C bx pre rk j gs w t D d0)(hwg:WgAt S.ty S.Wg w st sm)(hmode:ConcN.Mode j D tag st sm)
 {i:Nat}(hi:i<j){g:Goroutine}(hg:gs[i+1]? =some g)(hpre:pre i=0){m m':Nat}(h1:S.GA m g w)(h2:S.GB m' g w)(hst:(D i).stage=7)(hfu:(D i).fuel=m+m')(hde:(D i).deaf=0):
 ∃m₁ ops μ',runT S.P (crowd gs w sl) (i+1)=(.next m₁,ops)∧Bj S μ' (mu S j D tag b pre rk f0)∧Inv S μ' m₁ (t ++ ops):=by
 have hdk:Deaf t (i+1)=0:=by rw[hc.deafW i hi,hde]
 have rel:∀ {g':Goroutine} {m₂:Nat},stepG S.P false g w=.go g' w #[Go.ConcR.mk (.releaseMerge (stA S.Wg))]→S.Late 6 m₂ 0 g' w→
  ∃m₁ ops μ',runT S.P (crowd gs w sl) (i+1)=(.next m₁,ops)∧Bj S μ' (mu S j D tag b pre rk f0)∧Inv S μ' m₁ (t ++ ops):=by
  intro g' m₂ hgo hk
  exact Kv hS ha hm hc hi hg hgo (.refl S.Wg w) hwg (by intro e he x hx;simp at he;subst he;simp[Go.ConcR.mk,MemAct.ofEvent,MemAct.touch?] at hx) (by intro e he;simp at he;subst he;simp[Go.ConcR.mk])
   (by rw[hpre];exact .late zo hk) (by rw[hde];rfl) (fun _=>⟨t.size,RelBy.new hdk _ _⟩) (fun _ ht _=>(hmode.counted hi zo (.inl rfl) _ _).retag ht) (.inl ⟨zo,by simp[cnt,hst]⟩)
 rcases Goes.cases h1 with hA|⟨k,rfl,hA⟩
 ·obtain⟨_,_,g',hgo,m₂,hk⟩:=hA w (@RW.refl S.pA _ _ _ _ _ _ w)
  letI:=S.pA
  exact rel hgo (.inl (.k1 hk))
 rcases Goes.cases h2 with hB|⟨k',rfl,hB⟩
 ·obtain⟨_,_,g',hgo,m₂,hk⟩:=hB w (@RW.refl S.pB _ _ _ _ _ _ w)
  letI:=S.pB
  exact rel hgo (.inr (.k1 hk))
 obtain⟨g',w',es,hgo,⟨a1,e1⟩,hA'⟩:=hA w (@RW.refl S.pA _ _ _ _ _ _ w)
 obtain⟨g2,w2,es2,ya,⟨a2,_⟩,hB'⟩:=hB w (@RW.refl S.pB _ _ _ _ _ _ w)
 rw[hgo] at ya
 cases ya
 have hAs:Aside S.Wg w w':=Ev hS.ab a1 a2
 have hwg':WgAt S.ty S.Wg w' st sm:=by
  obtain⟨_,_,_,_,a5,_,_⟩:=a1
  unfold WgAt at *
  rw[a5 _ (Ne.symm hS.aW)];exact hwg
 refine Kv hS ha hm hc hi hg hgo hAs hwg' (PO e1) (fun e he=>(e1 e he).2.2.2) (by rw[hpre];exact .r0 hA' hB') (by rw[hde];exact deafBehind_idle (fun e he=>⟨(e1 e he).2.1,(e1 e he).2.2.1⟩) 0)
  (fun h=>absurd h zo) (fun _ ht _=>ConcN.Mode.retag (by have:=hmode.same (i:=i) (k+k') 0;rwa[hst] at this) ht) (.inr ⟨hst.symm,zo⟩)
theorem Jk(hS:S.Ok)(ha:gs[0]? =some a)(hm:jk S j (rk 0) tag b f0 d0 a w (O 0))(hc:Com S O C bx pre rk j gs w t D d0)(hwg:WgAt S.ty S.Wg w st sm)(hmode:ConcN.Mode j D tag st sm)
 {i:Nat}(hi:i<j){g:Goroutine}(hg:gs[i+1]? =some g)(hpre:0<pre i)(jh:ug S j (upd pre i 0) w)(h:S.D9 g w)(hst:(D i).stage=7)(hde:(D i).deaf=0):
 ∃m₁ ops μ',runT S.P (crowd gs w sl) (i+1)=(.next m₁,ops)∧Bj S μ' (mu S j D tag b pre rk f0)∧Inv S μ' m₁ (t ++ ops):=by
 obtain⟨⟨m,h1⟩,m',h2⟩:=h
 have hc':=hc.rename hS hi hg (x':=rk (i+1)) hst hde jh (.r0 h1 h2)
 rw[uV] at hc'
 have e4:=sumTo_upd pre 0 id hi
 have ev:(sumTo j fun q=>cnt (upd D i ⟨7,m+m',0⟩ q))=sumTo j fun q=>cnt (D q):=by
  have:=sumTo_upd D (⟨7,m+m',0⟩:WD) cnt hi
  have c1:cnt (D i)=1:=by simp[cnt,hst]
  have c2:cnt (⟨7,m+m',0⟩:WD)=1:=by simp[cnt]
  omega
 have es:(sumTo j fun q=>(upd D i ⟨7,m+m',0⟩ q).stage)=sumTo j fun q=>(D q).stage:=by
  have:=sumTo_upd D (⟨7,m+m',0⟩:WD) WD.stage hi
  simp only[hst] at this
  omega
 obtain⟨m₁,ops,μ',r1,r2,r3⟩:=VW (sl:=sl) hS ha hm hc' hwg (by have:=hmode.same (i:=i) (m+m') 0;rwa[hst] at this) hi hg (upd_same _ _ _) h1 h2 (by rw[upd_same]) (by rw[upd_same]) (by rw[upd_same])
 refine⟨m₁,ops,μ',r1,Di r2 ?_,r3⟩
 show 2 * phi S.n (Vc j (upd D i ⟨7,m+m',0⟩)) tag+b+Ssum j (upd D i ⟨7,m+m',0⟩)+sumTo j (fun q=>upd pre i 0 q)<2 * phi S.n (Vc j D) tag+b+Ssum j D+sumTo j (fun q=>pre q)
 simp only[Vc,Ssum,id] at *
 rw[ev,es]
 omega
theorem ns(hS:S.Ok)(ha:gs[0]? =some a)(hm:jk S j (rk 0) tag b f0 d0 a w (O 0))(hc:Com S O C bx pre rk j gs w t D d0)(hwg:WgAt S.ty S.Wg w st sm)(hmode:ConcN.Mode j D tag st sm)
 {i:Nat}(hi:i<j){g:Goroutine}(hg:gs[i+1]? =some g)(hpre:pre i=1)(hx:(rk (i+1)).1=mP (S.C1 (bx i)) (S.V1 i (bx i)) false S.K7 g w (O (i+1)))(h:Wk S.P false (S.C1 (bx i)) (S.V1 i (bx i)) S.K7 g w (O (i+1)))
 (hst:(D i).stage=7)(hde:(D i).deaf=0):
 ∃m₁ ops μ',runT S.P (crowd gs w sl) (i+1)=(.next m₁,ops)∧Bj S μ' (mu S j D tag b pre rk f0)∧Inv S μ' m₁ (t ++ ops):=by
 by_cases hK:S.K7 g w (O (i+1))
 ·refine Jk hS ha hm hc hwg hmode hi hg zo (hc.sent.congr rfl fun k hk=>?_) hK hst hde
  by_cases e:k=i
  ·subst e;rw[upd_same];omega
  ·rw[upd_ne pre _ e]
 ·obtain⟨h0,g2,w3,O2,es,y,r1,r2,r3,r4,r5⟩:=F4 h (hc.v1 hi) hK _ hx
  rw[← hc.ci i hi] at r2
  exact Vw hS ha hm hc hwg hmode hi hg r1 r2 hst hde (by rw[hpre];exact .p1 r4 r3) r5
end
theorem vw{p p':Nat→Bool}{i:Nat}(h0:p i=false)(h1:p' i=true)(h2:∀k,k≠i→p' k=p k):∀ {l:List Nat},l.Nodup→i∈l→(l.filter p').Perm (i :: l.filter p)
 | [],_,hi=>by cases hi
 | y :: l,hn,hi=>by
   obtain⟨hy,hn⟩:=List.nodup_cons.1 hn
   by_cases e:y=i
   ·subst e
    have:l.filter p'=l.filter p:=List.filter_congr fun k hk=>h2 k fun e=>hy (e ▸ hk)
    rw[List.filter_cons_of_pos h1,List.filter_cons_of_neg (by simp[h0]),this]
   ·have ih:=vw h0 h1 h2 hn ((List.mem_cons.1 hi).resolve_left fun e2=>e e2.symm)
    by_cases hp:p y=true
    ·rw[List.filter_cons_of_pos (by rw[h2 y e];exact hp),List.filter_cons_of_pos hp]
     exact(ih.cons y).trans (List.Perm.swap i y _)
    ·rw[List.filter_cons_of_neg (by rw[h2 y e];exact hp),List.filter_cons_of_neg hp]
     exact ih
section
variable{S:Site}{O C:Nat→Nat→Prop}{bx pre:Nat→Nat}{rk:Nat→Rank S.P}{j:Nat}{gs:Array Goroutine}{w w':World}{sl:Option (Nat × Nat)}{t:Trace}{D:Nat→WD}{tag:CTag}{b f0 d0:Nat}{a:Goroutine}{st sm:Int}
theorem BP(w:World)(c n s q:Nat)(buf:Array Value)(x y:Bool):(∀k,k≠c→(w.setChan c n buf x s q y).heap[k]? =w.heap[k]?)∧(w.setChan c n buf x s q y).heap.size=w.heap.size∧(c<w.heap.size→(w.setChan c n buf x s q y).heap[c]? =some (.chan n buf x s q y)):=by
 refine⟨fun k hk=>?_,by simp[World.setChan],fun hc=>?_⟩
 ·simp only[World.setChan]
  exact Array.getElem?_setIfInBounds_ne (fun e=>hk e.symm)
 ·simp only[World.setChan]
  exact Array.getElem?_setIfInBounds_self_of_lt hc
theorem jk.offers{x:Rank S.P}{O0:Nat→Prop}(h:jk S j x .blk b f0 d0 a w O0):a.offers=none:=by
 cases h with
 | blk e hb=>exact(hb w fun x=>x).2.1
theorem VX(hS:S.Ok)(ha:gs[0]? =some a)(hm:jk S j (rk 0) tag b f0 d0 a w (O 0))(hc:Com S O C bx pre rk j gs w t D d0)(hwg:WgAt S.ty S.Wg w st sm)(hmode:ConcN.Mode j D tag st sm)
 {i:Nat}(hi:i<j){g:Goroutine}(hg:gs[i+1]? =some g)(hpre:pre i=2)(hbit:S.bit i=true)(hK:S.Tj i (bx i) g w (O (i+1)))(hst:(D i).stage=7)(hde:(D i).deaf=0):
 ∃m₁ ops μ',runT S.P (crowd gs w sl) (i+1)=(.next m₁,ops)∧Bj S μ' (mu S j D tag b pre rk f0)∧Inv S μ' m₁ (t ++ ops):=by
 obtain⟨hrun,g2,z,hcomm,hafter⟩:=hK
 obtain⟨buf,s,q,hch,hperm⟩:=hc.sent
 have ej:=vw (p:=fun i=>S.bit i && decide (pre i≤1)) (p':=fun k=>S.bit k && decide (upd pre i 1 k≤1)) (i:=i) (by simp[hpre]) (by simp[hbit,upd_same]) (fun k e=>by simp only[upd_ne pre _ e]) (l:=List.range j) List.nodup_range (List.mem_range.2 hi)
 have hjn:j≤S.n:=by have:=hm.bound;omega
 have hroom:buf.size<S.n:=by
  have e1:=hperm.length_eq
  have e2:=ej.length_eq
  have e3:=List.length_filter_le (fun k=>S.bit k && decide (upd pre i 1 k≤1)) (List.range j)
  simp only[List.length_map,Array.length_toList,List.length_cons,List.length_range] at e1 e2 e3
  omega
 have hcl:S.Ch<w.heap.size:=hc.lay.NY _ (.inr rfl)
 obtain⟨s1,s2,s3⟩:=BP w S.Ch S.n (s+1) q (buf.push (int i64 i)) false false
 have hp:partners (gs.setIfInBounds (i+1) ph) S.Ch false=[]:=partners_nil fun k y hy=>by
  rcases getElem?_stand gs (i+1) k y hy with⟨_,rfl⟩|⟨_,hy⟩
  ·exact offersAt_ph _ _
  cases k with
  | zero=>
    rw[ha] at hy;cases hy
    rcases hm.status hS hc.v0 with⟨h,_⟩|⟨_,rfl⟩
    ·exact offersAt_of_not_blocked (by rw[h];simp) _ _
    ·simp[offersAt,hm.offers]
  | succ k=>
    have hk:k<j:=by have:=(Array.getElem?_eq_some_iff.1 hy).1;rw[hc.size] at this;omega
    obtain⟨y',hy',hsy⟩:=hc.wk k hk
    rw[hy] at hy';cases hy'
    rcases hsy.status (hc.v1 hk) with h|h <;> exact offersAt_of_not_blocked (by rw[h];simp) _ _
 have hgo:=crowd_send_room (P:=S.P) (sl:=sl) hg (by simpa using hcomm) hch hroom hp
 have hkp:∀k,Keeps (C k) (O k) w (w.setChan S.Ch S.n (buf.push (int i64 i)) false (s+1) q false):=fun k y hy=>s1 y (by
  rcases hy with h|h
  ·exact fun e=>hc.lay.nN k y h (.inr e)
  ·exact fun e=>hc.lay.cS k y h (.inr e))
 have hwg':WgAt S.ty S.Wg (w.setChan S.Ch S.n (buf.push (int i64 i)) false (s+1) q false) st sm:=by unfold WgAt at *;rw[s1 _ hS.wc];exact hwg
 have hl:WgLive S.ty S.Wg (w.setChan S.Ch S.n (buf.push (int i64 i)) false (s+1) q false):=⟨_,_,hwg'⟩
 have jh:ug S j (upd pre i 1) (w.setChan S.Ch S.n (buf.push (int i64 i)) false (s+1) q false):=by
  refine⟨_,_,_,s3 hcl,?_⟩
  have e1:=ej.map fun(k:Nat)=>int i64 k
  rw[Array.toList_push]
  exact(List.perm_append_singleton _ _).trans ((hperm.cons _).trans (by simpa using e1.symm))
 have hv1:S.V1 i (bx i) (w.setChan S.Ch S.n (buf.push (int i64 i)) false (s+1) q false):=⟨⟨hl,fun y o hb=>by rw[hkp 0 y (.inr (by rw[hc.c0];simp[Site.Cb,hb]))];exact hc.v0.tab y o hb,jh.chan,hc.v0.env⟩,by rw[hkp (i+1) _ (.inr (by rw[hc.ci i hi];exact .inr rfl))];exact hc.box i hi⟩
 have hW:=hafter _ (by rw[← hc.ci i hi];exact hkp (i+1)) hv1
 obtain⟨y,hy⟩:=tT hW
 have hu0:MemOp.ofEvents (i+1) g.frame.fn g.frame.place #[]=#[]:=by simp[ofEvents_eq]
 rw[hu0,Array.empty_append] at hgo
 have hmu:∀op∈#[({g:=i+1,fn:=g2.frame.fn,pos:=g2.frame.place,act:=.send S.Ch s }:MemOp),{g:=i+1,fn:=g2.frame.fn,pos:=g2.frame.place,act:=.sendDone S.Ch s }],op.g=i+1∧op.act.touch?=none∧(∀m,op.act≠.mark m):=by
  intro op hop
  simp only[List.mem_toArray,List.mem_cons,List.not_mem_nil,or_false] at hop
  rcases hop with rfl|rfl <;> exact⟨rfl,rfl,fun m e=>by cases e⟩
 have hcom:=hc.stepW (gs':=gs.setIfInBounds (i+1) (g2.finishComm S.P #[scase S.Ch (int i64 i) z] .send 0 undef false)) (O1:=O (i+1)) (p':=1) (s':=7) (m':=0) (d':=0)
  (u:=#[({g:=i+1,fn:=g2.frame.fn,pos:=g2.frame.place,act:=.send S.Ch s }:MemOp),{g:=i+1,fn:=g2.frame.fn,pos:=g2.frame.place,act:=.sendDone S.Ch s }]) hS hi (by simp[hc.size])
  (Array.getElem?_setIfInBounds_self_of_lt (by rw[hc.size];omega)) (fun k hk e y hy _=>by rw[Array.getElem?_setIfInBounds_ne zo];exact hy) (by rw[kF];exact hc.lay.grow (Nat.le_of_eq s2.symm)) (fun k _=>hkp k)
  (fun y hy=>hkp (i+1) y (.inr hy)) hl ⟨rfl,rfl,rfl⟩ jh (.p1 hy hW) (by rw[kF];exact hc.ct.appW hc.lay.apart zo zo fun op hop=>⟨(hmu op hop).1,fun x hx=>by rw[(hmu op hop).2.1] at hx;cases hx⟩)
  (pI hc.RX (Nat.le_of_eq s2.symm) fun op hop x hx=>by rw[(hmu op hop).2.1] at hx;cases hx) (fun op hop=>(hmu op hop).1) (fun op hop=>(hmu op hop).2.2 _) (rR fun op hop=>(hmu op hop).2.1)
  (by rw[Deaf_still t _ _ fun op hop=>⟨(hmu op hop).2.2 _,(hmu op hop).2.2 _⟩,hc.deafW i hi,hde]) zo
 rw[kF] at hcom
 have e4:=sumTo_upd pre 1 id hi
 have ev:(sumTo j fun q=>cnt (upd D i ⟨7,0,0⟩ q))=sumTo j fun q=>cnt (D q):=by
  have:=sumTo_upd D (⟨7,0,0⟩:WD) cnt hi
  have c1:cnt (D i)=1:=by simp[cnt,hst]
  have c2:cnt (⟨7,0,0⟩:WD)=1:=by simp[cnt]
  omega
 have es:(sumTo j fun q=>(upd D i ⟨7,0,0⟩ q).stage)=sumTo j fun q=>(D q).stage:=by
  have:=sumTo_upd D (⟨7,0,0⟩:WD) WD.stage hi
  simp only[hst] at this
  omega
 refine⟨_,_,mu S j (upd D i ⟨7,0,0⟩) tag b (upd pre i 1) (upd rk (i+1) y) f0,hgo,Fe ?_,_,_,sl,j,upd D i ⟨7,0,0⟩,tag,b,f0,d0,a,st,sm,O,C,bx,_,_,rfl,
  by rw[Array.getElem?_setIfInBounds_ne zo];exact ha,by rw[upd_ne rk _ zo];exact hm.keeps (by rw[← hc.c0];exact hkp 0) hl,hcom,hwg',by have:=hmode.same (i:=i) 0 0;rwa[hst] at this,rfl⟩
 show 2 * phi S.n (Vc j (upd D i ⟨7,0,0⟩)) tag+b+Ssum j (upd D i ⟨7,0,0⟩)+sumTo j (fun q=>upd pre i 1 q)<2 * phi S.n (Vc j D) tag+b+Ssum j D+sumTo j (fun q=>pre q)
 simp only[Vc,Ssum,id] at *
 rw[ev,es]
 omega
theorem nw(hS:S.Ok)(ha:gs[0]? =some a)(hm:jk S j (rk 0) tag b f0 d0 a w (O 0))(hc:Com S O C bx pre rk j gs w t D d0)(hwg:WgAt S.ty S.Wg w st sm)(hmode:ConcN.Mode j D tag st sm)
 {i:Nat}(hi:i<j){g:Goroutine}(hg:gs[i+1]? =some g)(hpre:pre i=2)(hx:(rk (i+1)).1=mP (S.C1 (bx i)) (S.V1 i (bx i)) false (S.K8 i (bx i)) g w (O (i+1)))(h:Wk S.P false (S.C1 (bx i)) (S.V1 i (bx i)) (S.K8 i (bx i)) g w (O (i+1)))
 (hst:(D i).stage=7)(hde:(D i).deaf=0):
 ∃m₁ ops μ',runT S.P (crowd gs w sl) (i+1)=(.next m₁,ops)∧Bj S μ' (mu S j D tag b pre rk f0)∧Inv S μ' m₁ (t ++ ops):=by
 by_cases hK:S.K8 i (bx i) g w (O (i+1))
 ·rcases hK with⟨hb,hK⟩|⟨hb,hK⟩
  ·exact VX hS ha hm hc hwg hmode hi hg hpre hb hK hst hde
  ·refine Jk hS ha hm hc hwg hmode hi hg zo ?_ hK hst hde
   obtain⟨buf,s,q,h1,h2⟩:=hc.sent
   refine⟨buf,s,q,h1,?_⟩
   have:((List.range j).filter fun k=>S.bit k && decide (upd pre i 0 k≤1))=(List.range j).filter fun k=>S.bit k && decide (pre k≤1):=List.filter_congr fun k _=>by
    by_cases e:k=i
    ·subst e;simp[hb]
    ·rw[upd_ne pre _ e]
   rw[this];exact h2
 ·obtain⟨h0,g2,w3,O2,es,y,r1,r2,r3,r4,r5⟩:=F4 h (hc.v1 hi) hK _ hx
  rw[← hc.ci i hi] at r2
  exact Vw hS ha hm hc hwg hmode hi hg r1 r2 hst hde (by rw[hpre];exact .p2 r4 r3) r5
theorem stepWorker(hS:S.Ok)(ha:gs[0]? =some a)(hm:jk S j (rk 0) tag b f0 d0 a w (O 0))(hc:Com S O C bx pre rk j gs w t D d0)(hwg:WgAt S.ty S.Wg w st sm)(hmode:ConcN.Mode j D tag st sm)
 {i:Nat}(hi:i<j){g:Goroutine}(hg:gs[i+1]? =some g)(hrun:g.status=.running):
 ∃m₁ ops μ',runT S.P (crowd gs w sl) (i+1)=(.next m₁,ops)∧Bj S μ' (mu S j D tag b pre rk f0)∧Inv S μ' m₁ (t ++ ops):=by
 obtain⟨g₁,hg₁,hs⟩:=hc.wk i hi
 obtain rfl:g=g₁:=by rw[hg] at hg₁;exact Option.some.inj hg₁
 generalize hst:(D i).stage=s at hs
 generalize hfu:(D i).fuel=m at hs
 generalize hde:(D i).deaf=dd at hs
 generalize hpre:pre i=p at hs
 cases hs with
 | p2 hx h=>exact nw hS ha hm hc hwg hmode hi hg hpre hx h hst hde
 | p1 hx h=>exact ns hS ha hm hc hwg hmode hi hg hpre hx h hst hde
 | r0 h1 h2=>exact VW hS ha hm hc hwg hmode hi hg hpre h1 h2 hst hfu hde
 | late h6 h=>
   rcases h with h|h
   ·exact Jm S.pA (fun _ _ _ _ _ h=>.inl h) hS ha hm hc hwg hmode hi hg hrun hpre h h6 hst hfu hde
   ·exact Jm S.pB (fun _ _ _ _ _ h=>.inr h) hS ha hm hc hwg hmode hi hg hrun hpre h h6 hst hfu hde
end
section
variable{S:Site}{O C:Nat→Nat→Prop}{bx pre:Nat→Nat}{rk:Nat→Rank S.P}{j:Nat}{gs:Array Goroutine}{w w':World}{sl:Option (Nat × Nat)}{t:Trace}{D:Nat→WD}{tag:CTag}{b f0 d0:Nat}{a:Goroutine}{st sm:Int}
def Xr(S:Site)(m:Machine)(t:Trace):Prop:=
 ∃ (gs:Array Goroutine) (w:World) (sl:Option (Nat × Nat)) (D:Nat→WD) (a:Goroutine) (O C:Nat→Nat→Prop) (bx pre:Nat→Nat) (rk:Nat→Rank S.P),
   m=crowd gs w sl∧gs[0]? =some a∧S.Fin a∧Com S O C bx pre rk S.n gs w t D 0∧WgAt S.ty S.Wg w 0 0∧AllQuit S.n D∧AcqAll S.Wg S.n t∧O 0=mE
def iG(S:Site)(μ:vW S)(t:Trace)(r:Stepped × Array MemOp):Prop:=∃m₁ ops,r=(.next m₁,ops)∧(Xr S m₁ (t ++ ops)∨∃μ',Bj S μ' μ∧Inv S μ' m₁ (t ++ ops))
theorem GI(hS:S.Ok)(ha:gs[0]? =some a)(hc:Com S O C bx pre rk j gs w t D d0){a':Goroutine}{es:Array Event}{O1:Nat→Prop}{x':Rank S.P}{tag':CTag}{b' f':Nat}{st' sm':Int}
 (hgo:stepG S.P true a w=.go a' w' es)(jr:Lay (rE O 0 O1) C S.Sh w')(hk:∀k,k≠0→Keeps (C k) (O k) w w')(lj:∀q,C 0 q→w'.heap[q]? =w.heap[q]?)(Io:Cx w w')(jh:ug S j pre w')
 (hct:CT (In S.Sh) (iF O) (Em C) (t ++ MemOp.ofEvents 0 a.frame.fn a.frame.place es) j)(BH:RO (t ++ MemOp.ofEvents 0 a.frame.fn a.frame.place es) w')(EK:OO S (MemOp.ofEvents 0 a.frame.fn a.frame.place es))(hnr:∀e∈es,e.loc≠.mark (.release (stA S.Wg)))
 (hm':jk S j x' tag' b' f' (deafBehind d0 es) a' w' O1)(hwg:WgAt S.ty S.Wg w' st' sm')(hmode:ConcN.Mode j D tag' st' sm')
 (hlt:2 * phi S.n (Vc j D) tag'+b'<2 * phi S.n (Vc j D) tag+b∨(2 * phi S.n (Vc j D) tag'+b'=2 * phi S.n (Vc j D) tag+b∧(kY S.P x' (rk 0)∨(x'=rk 0∧f'<f0)))):
 iG S (mu S j D tag b pre rk f0) t (runT S.P (crowd gs w sl) 0):=by
 have hrun:=runT_crowd_go (P:=S.P) (sl:=sl) (i:=0) ha (by simpa using hgo)
 have hcom:=hc.step0 (gs':=(gs.map (woken S.P a a' w')).setIfInBounds 0 a') (u:=MemOp.ofEvents 0 a.frame.fn a.frame.place es) (x':=x') hS (by simp[hc.size])
  (fun k hk' y hy hst=>by
   rw[get_map_set _ _ _ _ zo,hy,Option.map_some]
   congr 1
   unfold Go.Conc.woken
   split
   ·exact again_running _ hst
   ·rfl) jr hk lj ⟨_,_,hwg⟩ Io jh hct BH g_of_ofEvents (norel_of hnr) EK (by rw[Deaf_own,hc.deaf0])
 refine⟨_,_,hrun,.inr ⟨mu S j D tag' b' pre (upd rk 0 x') f',?_,_,w',sl,j,D,tag',b',f',_,a',st',sm',_,C,bx,pre,_,rfl,get_map_set_same _ _ _ (by rw[hc.size];omega),by rw[upd_same,bL];exact hm',hcom,hwg,hmode,rfl⟩⟩
 rcases hlt with h|⟨h1,h2⟩
 ·refine Prod.Lex.left _ _ ?_
  omega
 ·unfold mu
  rw[h1]
  refine Prod.Lex.right _ ?_
  rcases h2 with h2|⟨h2,h3⟩
  ·exact Prod.Lex.left _ _ ⟨0,zo,by rw[upd_same];exact h2,fun k hk'=>upd_ne rk _ hk'⟩
  ·rw[h2,uV]
   exact Prod.Lex.right _ zo
theorem I8(hS:S.Ok)(ha:gs[0]? =some a)(hc:Com S O C bx pre rk j gs w t D d0)(hwg:WgAt S.ty S.Wg w st sm)(hmode:ConcN.Mode j D tag st sm)
 {a':Goroutine}{es:Array Event}{O1:Nat→Prop}{x':Rank S.P}(hgo:stepG S.P true a w=.go a' w' es)(d:Did (C 0) (O 0) O1 w w' es.toList)(hd:d0=0)
 (hm':jk S j x' tag b f0 0 a' w' O1)(hr:kY S.P x' (rk 0)):iG S (mu S j D tag b pre rk f0) t (runT S.P (crowd gs w sl) 0):=by
 subst hd
 have hev:∀e∈es,R7 O1 (C 0) e:=fun e he=>d.evs e (by simpa using he)
 have jr:=hc.lay.did d
 have hbW:w'.heap[S.Wg]? =w.heap[S.Wg]?:=hc.lay.shared d (.inl rfl)
 have hdf:deafBehind 0 es=0:=deafBehind_idle (fun e he=>⟨(jL (hev e he)).1,(jL (hev e he)).2.1⟩) 0
 have o0:∀k,1≤k→rE O 0 O1 k=O k:=fun k hk=>dU O O1 zo
 refine GI hS ha hc hgo jr (fun k hk=>hc.lay.keeps d hk) (fun q hq=>hc.lay.common d hq) ⟨d.os,d.output,d.tape⟩ (hc.sent.congr (hc.lay.shared d (.inr rfl)) fun _ _=>Iff.rfl) (hc.ct.app0 hc.lay.apart fun op hop=>?_) (OH hc.lay d hc.RX _ _) (Ng hev _ _)
  (fun e he=>(jL (hev e he)).2.2 _) (by rw[hdf];exact hm') (by unfold WgAt at *;rw[hbW];exact hwg) hmode (.inr ⟨rfl,.inl hr⟩)
 obtain⟨e,he,rfl⟩:=mem_ofEvents hop
 refine LW (hc.lay.grow d.size) (hev e he) (fun q hq=>⟨fun k hk=>⟨fun h=>?_,fun h=>?_⟩,fun h=>?_⟩) (fun q hq=>⟨fun k hk h=>?_,fun h=>?_⟩) _ _
 ·have:=jr.own 0 k q (by rw[bL];exact hq) (by rw[o0 k hk];exact h);omega
 ·exact jr.pW 0 k q (by rw[bL];exact hq) h
 ·exact jr.nN 0 q (by rw[bL];exact hq) h
 ·exact hc.lay.pW k 0 q h hq
 ·exact hc.lay.cS 0 q hq h
theorem je(hS:S.Ok)(ha:gs[0]? =some a)(hc:Com S O C bx pre rk j gs w t D d0)
 {a':Goroutine}{es:Array Event}{tag':CTag}{b' f':Nat}{st' sm':Int}(hgo:stepG S.P true a w=.go a' w' es)(hAs:Aside S.Wg w w')(hwg:WgAt S.ty S.Wg w' st' sm')
 (hev:∀e∈es,∀x,(MemAct.ofEvent e).touch?=some x→ShN S.Wg x.loc∧x.kind≠.plain)(hnr:∀e∈es,e.loc≠.mark (.release (stA S.Wg)))
 (hm':jk S j (rk 0) tag' b' f' (deafBehind d0 es) a' w' (O 0))(hmode:ConcN.Mode j D tag' st' sm')
 (hlt:2 * phi S.n (Vc j D) tag'+b'<2 * phi S.n (Vc j D) tag+b∨(2 * phi S.n (Vc j D) tag'+b'=2 * phi S.n (Vc j D) tag+b∧f'<f0)):
 iG S (mu S j D tag b pre rk f0) t (runT S.P (crowd gs w sl) 0):=by
 have hkp:∀k,Keeps (C k) (O k) w w':=fun k q hq=>hAs.block q (by
  rcases hq with h|h
  ·exact fun e=>hc.lay.nN k q h (.inl e)
  ·exact fun e=>hc.lay.cS k q h (.inl e))
 refine GI (O1:=O 0) (x':=rk 0) hS ha hc hgo (by rw[kF];exact hc.lay.grow (Nat.le_of_eq hAs.size.symm)) (fun k _=>hkp k) (fun q hq=>hkp 0 q (.inr hq)) ⟨hAs.os,hAs.output,hAs.tape⟩ (hc.sent.congr (hAs.block _ (Ne.symm hS.wc)) fun _ _=>Iff.rfl)
  (hc.ct.app0 hc.lay.apart fun op hop=>?_) (pI hc.RX (Nat.le_of_eq hAs.size.symm) fun op hop x hx q hq=>?_) (Tw (fun e he x hx=>(hev e he x hx).1) _ _) hnr hm' hwg hmode ?_
 ·obtain⟨e,he,rfl⟩:=mem_ofEvents hop
  refine⟨rfl,fun x hx=>.inl ?_⟩
  obtain⟨⟨q,h1,h2⟩,h3⟩:=hev e he x hx
  exact⟨by rw[h1];exact .inl h2,h3⟩
 ·obtain⟨e,he,rfl⟩:=mem_ofEvents hop
  obtain⟨⟨ad,h1,h2⟩,_⟩:=hev e he x hx
  rw[h1] at hq
  simp only[In] at hq
  have:=hc.lay.NY S.Wg (.inl rfl)
  have:=hAs.size
  omega
 ·rcases hlt with h|⟨h1,h2⟩
  ·exact .inl h
  ·exact .inr ⟨h1,.inr ⟨rfl,h2⟩⟩
theorem EF{es:Array Event}(h:∀e∈es,Bk S.Wg e):∀e∈es,∀x,(MemAct.ofEvent e).touch?=some x→ShN S.Wg x.loc∧x.kind≠.plain:=fun e he x hx=>⟨(xL h e he x hx).1,(xL h e he x hx).2.1⟩
theorem H7{m:Mark}(h:∀x,(MemAct.ofEvent ⟨.mark m,false,true⟩).touch?=some x→ShN S.Wg x.loc∧x.kind≠.plain):∀e∈#[(⟨.mark m,false,true⟩:Event)],∀x,(MemAct.ofEvent e).touch?=some x→ShN S.Wg x.loc∧x.kind≠.plain:=by
 intro e he;simp at he;subst he;exact h
theorem kk:∀x,(MemAct.ofEvent ⟨.mark (.read ⟨S.Wg,1,none⟩),false,true⟩).touch?=some x→ShN S.Wg x.loc∧x.kind≠.plain:=by
 intro x hx
 simp[MemAct.ofEvent,MemAct.touch?] at hx
 subst hx
 exact⟨⟨_,rfl,rfl⟩,zs⟩
theorem km:∀x,(MemAct.ofEvent ⟨.mark (.write ⟨S.Wg,1,none⟩),false,true⟩).touch?=some x→ShN S.Wg x.loc∧x.kind≠.plain:=by
 intro x hx
 simp[MemAct.ofEvent,MemAct.touch?] at hx
 subst hx
 exact⟨⟨_,rfl,rfl⟩,zs⟩
end
section
variable{S:Site}{O C:Nat→Nat→Prop}{bx pre:Nat→Nat}{rk:Nat→Rank S.P}{j:Nat}{gs:Array Goroutine}{w w':World}{sl:Option (Nat × Nat)}{t:Trace}{D:Nat→WD}{tag:CTag}{b f0 d0:Nat}{a:Goroutine}{st sm:Int}
theorem Com.spawn(hS:S.Ok)(h:Com S O C bx pre rk j gs w t D 0){a' child:Goroutine}{bq:Nat}{x y:MemOp}(hx:x.g=0∧x.act=.go (j+1))(hy:y.g=j+1∧y.act=.start)
 (hO:∀q,O 0 q↔q=bq)(jq:w.heap[bq]? =some (S.TG j)){x1 x2:Rank S.P}(hx2:x2.1=mP (S.C1 bq) (S.V1 j bq) false (S.K8 j bq) child w mE)(hW:Wk S.P false (S.C1 bq) (S.V1 j bq) (S.K8 j bq) child w mE):
 Com S (rE O 0 mE) (rE C (j+1) (S.C1 bq)) (upd bx j bq) (upd pre j 2) (upd (upd rk (j+1) x2) 0 x1) (j+1) ((gs.setIfInBounds 0 a').push child) w (t ++ #[x,y]) (upd D j ⟨7,0,0⟩) 0:=by
 have hm:∀op∈#[x,y],op=x∨op=y:=by intro op hop;simpa using hop
 have hst:∀op∈#[x,y],op.act.touch?=none∧∀m,op.act≠.mark m:=by
  intro op hop
  rcases hm op hop with rfl|rfl
  ·rw[hx.2];exact⟨rfl,fun m e=>by cases e⟩
  ·rw[hy.2];exact⟨rfl,fun m e=>by cases e⟩
 have hb0:O 0 bq:=(hO bq).2 rfl
 have oO:∀k q,rE O 0 mE k q→k≠0∧O k q:=fun k q hq=>by
  by_cases e:k=0
  ·subst e;rw[bL] at hq;exact hq.elim
  ·rw[dU O _ e] at hq;exact⟨e,hq⟩
 have cC:∀k q,rE C (j+1) (S.C1 bq) k q→C k q∨C 0 q∨q=bq:=fun k q hq=>by
  by_cases e:k=j+1
  ·subst e;rw[bL] at hq
   rcases hq with hq|hq
   ·exact .inr (.inl (by rw[h.c0];exact hq))
   ·exact .inr (.inr hq)
  ·rw[dU C _ e] at hq;exact .inl hq
 have jr:Lay (rE O 0 mE) (rE C (j+1) (S.C1 bq)) S.Sh w:=by
  refine⟨fun k k' q h1 h2=>h.lay.own k k' q (oO k q h1).2 (oO k' q h2).2,fun k k' q h1 h2=>?_,fun k q h1=>h.lay.nN k q (oO k q h1).2,fun k q h1=>?_,fun k q h1=>h.lay.NW k q (oO k q h1).2,fun k q h1=>?_,h.lay.NY⟩
  ·obtain⟨e,h1⟩:=oO k q h1
   rcases cC k' q h2 with h2|h2|rfl
   ·exact h.lay.pW k k' q h1 h2
   ·exact h.lay.pW k 0 q h1 h2
   ·exact e (h.lay.own k 0 q h1 hb0)
  ·rcases cC k q h1 with h1|h1|rfl
   ·exact h.lay.cS k q h1
   ·exact h.lay.cS 0 q h1
   ·exact h.lay.nN 0 q hb0
  ·rcases cC k q h1 with h1|h1|rfl
   ·exact h.lay.P8 k q h1
   ·exact h.lay.P8 0 q h1
   ·exact h.lay.NW 0 q hb0
 have hsz:((gs.setIfInBounds 0 a').push child).size=j+1+1:=by simp[h.size]
 refine⟨hsz,jr,by rw[dU C _ zo];exact h.c0,fun i hi=>?_,fun k q hk=>⟨fun hq=>(h.z k q zo).1 (oO k q hq).2,by rw[dU C _ zo];exact(h.z k q zo).2⟩,h.v0,fun i hi=>?_,fun i hi=>?_,
  CT.fork jr.apart (CT.congr h.ct (fun k k1 k2=>by unfold iF;rw[dU O _ zo]) (fun k k1 k2=>by unfold Em;rw[dU C _ zo])) hx hy h.deaf0,
  pI h.RX zL (fun op hop z hz=>by rw[(hst op hop).1] at hz;cases hz),h.norel.app fun op hop=>(hst op hop).2 _,by rw[Deaf_still t 0 _ fun op hop=>⟨(hst op hop).2 _,(hst op hop).2 _⟩,h.deaf0],fun i hi=>?_,fun i hi hs=>?_,?_,h.G'.app (rR fun op hop=>(hst op hop).1)⟩
 ·by_cases e:i=j
  ·subst e;rw[bL,upd_same]
  ·rw[dU C _ zo,upd_ne bx _ e];exact h.ci i zo
 ·by_cases e:i=j
  ·subst e;rw[upd_same];exact jq
  ·rw[upd_ne bx _ e];exact h.box i zo
 ·by_cases e:i=j
  ·subst e
   refine⟨child,?_,?_⟩
   ·rw[show i+1=(gs.setIfInBounds 0 a').size by simp[h.size],Array.getElem?_push_size]
   ·have e1:rE O 0 mE (i+1)=mE:=by
     rw[dU O _ zo]
     funext q
     exact propext ⟨fun hq=>((h.z (i+1) q zo).1 hq).elim,fun hq=>hq.elim⟩
    rw[upd_ne (upd rk (i+1) x2) x1 (show i+1≠0 by omega),e1]
    simp only[upd_same]
    exact .p2 hx2 hW
  ·obtain⟨g,hg,hs⟩:=h.wk i zo
   refine⟨g,?_,?_⟩
   ·rw[Array.getElem?_push_lt (by simp[h.size];omega),← Array.getElem?_eq_getElem,Array.getElem?_setIfInBounds_ne zo]
    exact hg
   ·rw[upd_ne (upd rk (j+1) x2) x1 (show i+1≠0 by omega),upd_ne rk x2 (show i+1≠j+1 by omega),upd_ne bx _ e,upd_ne pre _ e,upd_ne D _ e,dU O _ zo]
    exact hs
 ·rw[Deaf_still t _ _ fun op hop=>⟨(hst op hop).2 _,(hst op hop).2 _⟩]
  by_cases e:i=j
  ·subst e;rw[upd_same]
   exact Deaf_absent fun q op hq e=>by have:=h.ct.gs q op hq;omega
  ·rw[upd_ne D _ e];exact h.deafW i zo
 ·by_cases e:i=j
  ·subst e;rw[upd_same] at hs;simp at hs
  ·rw[upd_ne D _ e] at hs
   obtain⟨r,hr⟩:=h.rel i zo hs
   refine⟨r,hr.appNot fun op hop=>?_⟩
   rcases hm op hop with rfl|rfl
   ·rw[hx.1];omega
   ·rw[hy.1];omega
 ·obtain⟨buf,s,q,h1,h2⟩:=h.sent
  refine⟨buf,s,q,h1,?_⟩
  have e1:((List.range (j+1)).filter fun i=>S.bit i && decide (upd pre j 2 i≤1))=(List.range j).filter fun i=>S.bit i && decide (pre i≤1):=by
   rw[List.range_succ,List.filter_append,List.filter_cons_of_neg (by simp[upd_same]),List.filter_nil,List.append_nil]
   exact List.filter_congr fun k hk=>by rw[upd_ne pre _ (by have:=List.mem_range.1 hk;omega)]
  rw[e1];exact h2
theorem nd(hS:S.Ok)(ha:gs[0]? =some a)(hc:Com S O C bx pre rk j gs w t D 0)(hwg:WgAt S.ty S.Wg w st sm){r:Nat}(hmode:ConcN.Mode j D (.sp r 0) st sm)(hj:j+(r+1)=S.n)
 (h:S.JX j (S.Sp r) a w (O 0)):iG S (mu S j D (.sp r 0) 0 pre rk f0) t (runT S.P (crowd gs w sl) 0):=by
 obtain⟨hrun,a',child,bq,hgo,hcr,hO,jq,hW,hnext⟩:=h
 have hrunT:=runT_crowd_spawn (P:=S.P) (sl:=sl) (i:=0) ha (by simpa using hgo)
 have hu0:MemOp.ofEvents 0 a.frame.fn a.frame.place #[]=#[]:=by simp[ofEvents_eq]
 rw[hu0] at hrunT
 obtain⟨x2,hx2⟩:=tT hW
 cases hmode with
 | opn h1 h2 h3=>
   have eV:Vc (j+1) (upd D j ⟨7,0,0⟩)=Vc j D+1:=by
    simp only[Vc,sumTo,upd_same]
    rw[sumTo_congr (g:=fun i=>cnt (D i)) fun i hi=>by rw[upd_ne D _ zo]]
    simp[cnt]
   have eS:Ssum (j+1) (upd D j ⟨7,0,0⟩)=Ssum j D+7:=by
    simp only[Ssum,sumTo,upd_same]
    rw[sumTo_congr (g:=fun i=>(D i).stage) fun i hi=>by rw[upd_ne D _ zo]]
   have eP:sumTo (j+1) (upd pre j 2)=sumTo j pre+2:=by
    simp only[sumTo,upd_same]
    rw[sumTo_congr (g:=pre) fun i hi=>by rw[upd_ne pre _ zo]]
   have ho:OpenSt (j+1) (upd D j ⟨7,0,0⟩):=fun i hi=>by
    by_cases e:i=j
    ·subst e;rw[upd_same];simp
    ·rw[upd_ne D _ e];exact h2 i zo
   have fin:∀ {tag':CTag} {f':Nat} {x1:Rank S.P},jk S (j+1) x1 tag' 0 f' 0 a' w mE→isOpen tag'→pend tag'=0→(∀vs,tag'≠.w2 vs)→(∀v v',2 * phi S.n v tag'+9<2 * phi S.n v' (.sp r 0))→
    iG S (mu S j D (.sp r 0) 0 pre rk f0) t (runT S.P (crowd gs w sl) 0):=by
    intro tag' f' x1 hm' o1 o2 o3 o4
    refine⟨_,_,hrunT,.inr ⟨mu S (j+1) (upd D j ⟨7,0,0⟩) tag' 0 (upd pre j 2) (upd (upd rk (j+1) x2) 0 x1) f',Fe ?_,(gs.setIfInBounds 0 a').push child,w,sl,j+1,upd D j ⟨7,0,0⟩,tag',0,f',0,a',_,_,rE O 0 mE,rE C (j+1) (S.C1 bq),upd bx j bq,_,_,rfl,?_,?_,
     ?_,hwg,?_,rfl⟩⟩
    ·show 2 * phi S.n (Vc (j+1) (upd D j ⟨7,0,0⟩)) tag'+0+Ssum (j+1) (upd D j ⟨7,0,0⟩)+sumTo (j+1) (upd pre j 2)<2 * phi S.n (Vc j D) (.sp r 0)+0+Ssum j D+sumTo j pre
     have:=o4 (Vc (j+1) (upd D j ⟨7,0,0⟩)) (Vc j D)
     rw[eS,eP]
     omega
    ·rw[Array.getElem?_push_lt (by simp[hc.size]),← Array.getElem?_eq_getElem]
     exact Array.getElem?_setIfInBounds_self_of_lt (by rw[hc.size];omega)
    ·rw[upd_same,bL];exact hm'
    ·exact hc.spawn hS (x:={g:=0,fn:=a.frame.fn,pos:=a.frame.place,act:=.go gs.size }) (y:={g:=gs.size,fn:=child.frame.fn,pos:=a.frame.place,act:=.start }) ⟨rfl,by rw[hc.size]⟩ ⟨hc.size,rfl⟩ hO jq hx2 hW
    ·have:=ConcN.Mode.opn (j:=j+1) (D:=upd D j ⟨7,0,0⟩) (tag:=tag') o1 ho (fun vs e=>absurd e (o3 vs))
     rw[eV,o2] at this
     exact this
   cases r with
   | zero=>
     obtain⟨m,hk⟩:=hnext
     exact fin (x1:=rk 0) (.kd zo hk) trivial rfl zs fun v v'=>by simp only[phi];omega
   | succ r=>
     have hk:Wk S.P true S.Cb S.V0 (S.Bo (S.n - (r+1)) (S.Sp r)) a' w mE:=hnext
     rw[show S.n - (r+1)=j+1 by omega] at hk
     obtain⟨x1,hx1⟩:=tT hk
     exact fin (.skd zo hx1 hk) trivial rfl zs fun v v'=>by simp only[phi];omega
 | reg h1 _ _=>exact h1.elim
 | last L h1 _ _ _=>exact h1.elim
 | fin h1 _=>exact h1.elim
end
end
section
open Go.Conc Go.ConcN Go.cu Go.Conc.Lib
open Go.ConcR (KK WgAt stA smA rd wr g_of_ofEvents Payload DC0 again_blocked Bk ofEvent_loc_mark ofEvent_cell bk_of_mute ofEvent_mk)
variable[Inhabited aV]
section
variable{S:Site}{O C:Nat→Nat→Prop}{bx pre:Nat→Nat}{rk:Nat→Rank S.P}{j:Nat}{gs:Array Goroutine}{w w':World}{sl:Option (Nat × Nat)}{t:Trace}{D:Nat→WD}{tag:CTag}{b f0 d0:Nat}{a:Goroutine}{st sm:Int}
theorem iG.mono{μ μ':vW S}{r:Stepped × Array MemOp}(h:iG S μ' t r)(hl:μ'.1<μ.1):iG S μ t r:=by
 obtain⟨m₁,ops,h1,h2⟩:=h
 exact⟨m₁,ops,h1,h2.imp id fun⟨μ2,h3,h4⟩=>⟨μ2,Di h3 hl,h4⟩⟩
theorem Com.rk0(h:Com S O C bx pre rk j gs w t D d0)(x1:Rank S.P):Com S O C bx pre (upd rk 0 x1) j gs w t D d0:=
 {h with wk:=fun i hi=>by rw[upd_ne rk _ zo];exact h.wk i hi }
theorem eF(hS:S.Ok)(ha:gs[0]? =some a)(hc:Com S O C bx pre rk j gs w t D d0)(hwg:WgAt S.ty S.Wg w st sm)(hmode:ConcN.Mode j D tag st sm){a':Goroutine}{f':Nat}(hgo:stepG S.P true a w=.go a' w #[])
 (hm':jk S j (rk 0) tag b f' d0 a' w (O 0))(hlt:f'<f0):iG S (mu S j D tag b pre rk f0) t (runT S.P (crowd gs w sl) 0):=
 je hS ha hc hgo (.refl S.Wg w) hwg zs zs hm' hmode (.inr ⟨rfl,hlt⟩)
theorem gY(hS:S.Ok)(ha:gs[0]? =some a)(hc:Com S O C bx pre rk j gs w t D d0)(hwg:WgAt S.ty S.Wg w st sm){tag':CTag}{b':Nat}(hmode:ConcN.Mode j D tag' st sm){a':Goroutine}{f':Nat}{es:Array Event}(hgo:stepG S.P true a w=.go a' w es)
 (hbk:∀e∈es,Bk S.Wg e)(hm':jk S j (rk 0) tag' b' f' (deafBehind d0 es) a' w (O 0))(hlt:2 * phi S.n (Vc j D) tag'+b'<2 * phi S.n (Vc j D) tag+b):iG S (mu S j D tag b pre rk f0) t (runT S.P (crowd gs w sl) 0):=
 je hS ha hc hgo (.refl S.Wg w) hwg (EF hbk) (norel_of_Bk hbk) hm' hmode (.inl hlt)
theorem Mode.opened(h:ConcN.Mode j D tag st sm)(ho:isOpen tag):OpenSt j D∧(∀vs,tag=.w2 vs→Vc j D≤vs∧1≤vs)∧st=((Vc j D+pend tag:Nat):Int) * KK∧sm=0:=by
 cases h with
 | opn h1 h2 h3=>exact⟨h2,h3,rfl,rfl⟩
 | reg h1 _ _=>cases tag <;> first|exact h1.elim|exact ho.elim
 | last L h1 _ _ _=>cases tag <;> first|exact h1.elim|exact ho.elim
 | sema _=>exact ho.elim
 | fin h1 _=>cases tag <;> first|exact h1.elim|exact ho.elim
theorem Mode.ended(h:ConcN.Mode j D tag st sm)(ho:isFin tag):AllQuit j D∧st=0∧sm=0:=by
 cases h with
 | opn h1 _ _=>cases tag <;> first|exact h1.elim|exact ho.elim
 | reg h1 _ _=>cases tag <;> first|exact h1.elim|exact ho.elim
 | last L h1 _ _ _=>cases tag <;> first|exact h1.elim|exact ho.elim
 | sema _=>exact ho.elim
 | fin h1 h2=>exact⟨h2,rfl,rfl⟩
theorem Mode.moved{tag':CTag}(h:ConcN.Mode j D tag st sm)(ho:isOpen tag)(ho':isOpen tag')(hp:pend tag'=pend tag)(hv:∀vs,tag'=.w2 vs→Vc j D≤vs∧1≤vs):ConcN.Mode j D tag' st sm:=by
 obtain⟨h1,_,rfl,rfl⟩:=Mode.opened h ho
 rw[← hp]
 exact .opn ho' h1 hv
theorem Ox(hS:S.Ok)(ha:gs[0]? =some a)(hc:Com S O C bx pre rk j gs w t D 0)(hwg:WgAt S.ty S.Wg w st sm){r:Nat}(hmode:ConcN.Mode j D (.sp r 0) st sm)(hj:j+(r+1)=S.n)
 (hx:(rk 0).1=mP S.Cb S.V0 true (S.JX j (S.Sp r)) a w (O 0))(h:Wk S.P true S.Cb S.V0 (S.JX j (S.Sp r)) a w (O 0)):iG S (mu S j D (.sp r 0) 0 pre rk 0) t (runT S.P (crowd gs w sl) 0):=by
 by_cases hK:S.JX j (S.Sp r) a w (O 0)
 ·exact nd hS ha hc hwg hmode hj hK
 ·obtain⟨h0,g2,w3,O2,es,y,r1,r2,r3,r4,r5⟩:=F4 h hc.v0 hK _ hx
  rw[← hc.c0] at r2
  exact I8 hS ha hc hwg hmode r1 r2 rfl (.sgo hj r4 r3) r5
theorem ZJ(hS:S.Ok)(ha:gs[0]? =some a)(hc:Com S O C bx pre rk j gs w t D 0)(hwg:WgAt S.ty S.Wg w st sm){r:Nat}(hmode:ConcN.Mode j D (.sp r 5) st sm)(hj:j+(r+1)=S.n)
 (hx:(rk 0).1=mP S.Cb S.V0 true (S.Bo j (S.Sp r)) a w (O 0))(h:Wk S.P true S.Cb S.V0 (S.Bo j (S.Sp r)) a w (O 0)):iG S (mu S j D (.sp r 5) 0 pre rk 0) t (runT S.P (crowd gs w sl) 0):=by
 by_cases hK:S.Bo j (S.Sp r) a w (O 0)
 ·obtain⟨R,⟨hr,g',hgo,m,hk⟩,hcont⟩:=hK
  exact gY hS ha hc hwg (tag':=.sp r 4) (b':=0) (f':=m) (Mode.moved hmode trivial trivial rfl zs) hgo qL (.sa1 hj hk hcont) (by simp only[phi];omega)
 ·obtain⟨h0,g2,w3,O2,es,y,r1,r2,r3,r4,r5⟩:=F4 h hc.v0 hK _ hx
  rw[← hc.c0] at r2
  exact I8 hS ha hc hwg hmode r1 r2 rfl (.skd hj r4 r3) r5
theorem ZI(hS:S.Ok)(ha:gs[0]? =some a)(hc:Com S O C bx pre rk j gs w t D 1)(hwg:WgAt S.ty S.Wg w st sm){r:Nat}(hmode:ConcN.Mode j D (.sp r 4) st sm)(hj:j+(r+1)=S.n)
 {R:Goroutine}{m:Nat}(h:S.GL (S.rN R) m a w)(hcont:S.Cont j (S.Sp r) R w (O 0)):iG S (mu S j D (.sp r 4) 0 pre rk m) t (runT S.P (crowd gs w sl) 0):=by
 rcases Goes.cases h with hs|⟨m',rfl,hs⟩
 ·obtain⟨hr,hall⟩:=hs w fun x=>x
  obtain⟨h1,_,rfl,rfl⟩:=Mode.opened hmode trivial
  have hV:=Vc_le j D
  have hn:=hS.n31
  obtain⟨g',hgo,m₂,hk⟩:=hall (Vc j D) zo (by simpa [pend] using hwg)
  have hwg':WgAt S.ty S.Wg (w.setCell (stA S.Wg) (.int .u64 (((Vc j D:Nat)+1:Int) * KK))) (((Vc j D:Nat)+1:Int) * KK) 0:=hwg.setSt _
  have hAs:=aside_setCell w (stA S.Wg) (.int .u64 (((Vc j D:Nat)+1:Int) * KK))
  refine je hS ha hc hgo hAs hwg' (EF bk_rw) (norel_of_Bk bk_rw) (tag':=.sp r 3) (b':=0) (f':=m₂) (.ry hj hk (iK hcont fun q hq=>hAs.block q ?_)) ?_ (.inl (by simp only[phi];omega))
  ·rcases hq with hq|hq
   ·exact fun e=>hc.lay.nN 0 q hq (.inl e)
   ·exact fun e=>hc.lay.cS 0 q (by rw[hc.c0];exact hq) (.inl e)
  ·have:=ConcN.Mode.opn (tag:=.sp r 3) (j:=j) (D:=D) trivial h1 zs
   simpa [pend] using this
 ·obtain⟨g',w',es,hgo,⟨rfl,rfl⟩,hk⟩:=hs w fun x=>x
  exact eF hS ha hc hwg hmode hgo (.sa1 hj hk hcont) zo
theorem ZM(hS:S.Ok)(ha:gs[0]? =some a)(hc:Com S O C bx pre rk j gs w t D 1)(hwg:WgAt S.ty S.Wg w st sm){r:Nat}(hmode:ConcN.Mode j D (.sp r 3) st sm)(hj:j+(r+1)=S.n)
 {R:Goroutine}{m:Nat}(h:S.GL (S.sd R) m a w)(hcont:S.Cont j (S.Sp r) R w (O 0)):iG S (mu S j D (.sp r 3) 0 pre rk m) t (runT S.P (crowd gs w sl) 0):=by
 rcases Goes.cases h with hs|⟨m',rfl,hs⟩
 ·rcases hs w fun x=>x with⟨hr,g',hgo,m₂,hk⟩|⟨hr,g',hgo,m₂,hk⟩
  ·exact je hS ha hc hgo (.refl S.Wg w) hwg (H7 kk) (by intro e he;simp at he;subst he;simp[A6]) (tag':=.sp r 2) (b':=0) (f':=m₂) (.ske hj hk hcont) (Mode.moved hmode trivial trivial rfl zs) (.inl (by simp only[phi];omega))
  ·exact gY hS ha hc hwg (tag':=.sp r 1) (b':=0) (f':=m₂) (Mode.moved hmode trivial trivial rfl zs) hgo uw (.nb hj hk hcont) (by simp only[phi];omega)
 ·obtain⟨g',w',es,hgo,⟨rfl,rfl⟩,hk⟩:=hs w fun x=>x
  exact eF hS ha hc hwg hmode hgo (.ry hj hk hcont) zo
theorem ZK(hS:S.Ok)(ha:gs[0]? =some a)(hc:Com S O C bx pre rk j gs w t D 1)(hwg:WgAt S.ty S.Wg w st sm){r:Nat}(hmode:ConcN.Mode j D (.sp r 2) st sm)(hj:j+(r+1)=S.n)
 {R:Goroutine}{m:Nat}(h:S.GL (S.py R) m a w)(hcont:S.Cont j (S.Sp r) R w (O 0)):iG S (mu S j D (.sp r 2) 0 pre rk m) t (runT S.P (crowd gs w sl) 0):=by
 rcases Goes.cases h with hs|⟨m',rfl,hs⟩
 ·obtain⟨hr,g',hgo,m₂,hk⟩:=hs w fun x=>x
  exact gY hS ha hc hwg (tag':=.sp r 1) (b':=0) (f':=m₂) (Mode.moved hmode trivial trivial rfl zs) hgo uw (.nb hj hk hcont) (by simp only[phi];omega)
 ·obtain⟨g',w',es,hgo,⟨rfl,rfl⟩,hk⟩:=hs w fun x=>x
  exact eF hS ha hc hwg hmode hgo (.ske hj hk hcont) zo
theorem ZL(hS:S.Ok)(ha:gs[0]? =some a)(hc:Com S O C bx pre rk j gs w t D 0)(hwg:WgAt S.ty S.Wg w st sm){r:Nat}(hmode:ConcN.Mode j D (.sp r 1) st sm)(hj:j+(r+1)=S.n)
 {R:Goroutine}{m:Nat}(h:S.GL (fun g _=>g=R) m a w)(hcont:S.Cont j (S.Sp r) R w (O 0)):iG S (mu S j D (.sp r 1) 0 pre rk m) t (runT S.P (crowd gs w sl) 0):=by
 rcases Goes.cases h with hs|⟨m',rfl,hs⟩
 ·have e:a=R:=hs w fun x=>x
  subst e
  have hW:=hcont w (Keeps.refl _ _ _) hc.v0
  obtain⟨x1,hx1⟩:=tT hW
  have:=Ox (sl:=sl) hS ha (hc.rk0 x1) hwg (Mode.moved hmode (tag':=.sp r 0) trivial trivial rfl zs) hj (by rw[upd_same];exact hx1) hW
  refine this.mono ?_
  show 2 * phi S.n (Vc j D) (.sp r 0)+0+Ssum j D+sumTo j pre<2 * phi S.n (Vc j D) (.sp r 1)+0+Ssum j D+sumTo j pre
  simp only[phi];omega
 ·obtain⟨g',w',es,hgo,⟨rfl,rfl⟩,hk⟩:=hs w fun x=>x
  exact eF hS ha hc hwg hmode hgo (.nb hj hk hcont) zo
end
end
end Go.aP
