/- Crew17 Crew18 Crew19 Crew20 Crew21 -/
import Derived.Test.YthaelabgfnnebaaGreatC8
import Derived.Conc.Beside
set_option maxRecDepth 100000
set_option maxHeartbeats 16000000
set_option linter.unusedVariables false
set_option linter.unusedSectionVars false
open Go.IntKind(i64)
open Go.Value(int)
namespace Go.aO
section
open Go.Conc Go.ConcN Go.cu Go.Conc.Lib
open Go.ConcR (KK WgAt stA smA rd wr g_of_ofEvents Payload)
variable[Inhabited aS]
structure After(Shun:Loc→Prop)(t:Trace):Prop where
 clean:∀said,¬ Race said t
 known:∀i a,touchAt t i=some a→a.loc.isMemory=true→Knows t 0 i∨(Shun a.loc∧a.kind=.atomic)
 over:t.HandedOver
 hears:Deaf t 0=0
section
variable{Shun:Loc→Prop}{t u:Trace}
theorem After.own(h:After Shun t){fn:FuncId}{pos:String}{es:Array Event}(hs:∀e∈es,∀x,(MemAct.ofEvent e).touch?=some x→Shun x.loc→x.kind≠.plain)(hd:∀e∈es,e.loc≠.mark .disable∧e.loc≠.mark .enable):
 After Shun (t ++ MemOp.ofEvents 0 fn pos es):=by
 have h0:∀op∈MemOp.ofEvents 0 fn pos es,op.g=0:=g_of_ofEvents
 refine⟨fun said=>noRace_append (h.clean said) h0 fun i a ha op hop x hx hc=>?_,fun i a ha hm=>?_,handedOver_app h.over fun op hop=>.inl (h0 op hop),?_⟩
 ·rcases h.known i a ha hc.2.1 with hk|⟨h1,h2⟩
  ·exact hk
  ·obtain⟨e,he,rfl⟩:=mem_seen hop
   have h3:=hs e he x hx (hc.1 ▸ h1)
   obtain⟨_,_,_,hcase⟩:=hc
   rw[h2] at hcase
   rcases hcase with y|y|⟨_,y,_⟩
   ·cases y
   ·exact absurd y h3
   ·cases y
 ·obtain⟨op,hop,hx⟩:=touch_of ha
  rcases getElem?_append_cases hop with⟨hi,hop'⟩|⟨_,hopu⟩
  ·rcases h.known i a (by rw[touchAt_of hop'];exact hx) hm with hk|hk
   ·exact .inl (hk.app _)
   ·exact .inr hk
  ·have:=knows_own hop
   rw[h0 op hopu] at this
   exact .inl this
 ·rw[Deaf_own,h.hears];exact deafBehind_idle hd 0
theorem After.mute(h:After Shun t){k:Nat}(hk:k≠0){fn:FuncId}{pos:String}{es:Array Event}(hm:∀e∈es,e.mute=true):After Shun (t ++ MemOp.ofEvents k fn pos es):=by
 have hn:∀op∈MemOp.ofEvents k fn pos es,op.act.touch?=none:=fun op hop=>by
  obtain⟨e,he,rfl⟩:=mem_seen hop
  exact touch_mute (hm e he)
 refine⟨fun said=>noRace_append (h.clean said) g_of_ofEvents fun i a _ op hop x hx _=>(by rw[hn op hop] at hx;cases hx),fun i a ha hmem=>?_,handedOver_app h.over fun op hop=>.inr (hn op hop),by rw[Deaf_other t hk _ g_of_ofEvents];exact h.hears⟩
 obtain⟨op,hop,hx⟩:=touch_of ha
 rcases getElem?_append_cases hop with⟨_,hop'⟩|⟨_,hopu⟩
 ·rcases h.known i a (by rw[touchAt_of hop'];exact hx) hmem with h1|h1
  ·exact .inl (h1.app _)
  ·exact .inr h1
 ·rw[hn op hopu] at hx;cases hx
end
section
variable{S:Site}{m:Machine}{t:Trace}
theorem Uz.after(h:Uz S m t):∃ (gs:Array Goroutine) (w:World) (sl:Option (Nat × Nat)) (q:Nat→Nat) (a:Goroutine) (O C:Nat→Nat→Prop) (pre:Nat→Nat),
 m=crowd gs w sl∧gs[0]? =some a∧S.Fin a∧Leavers S.P t gs q∧After (ShN S.Wg) t∧WgLive S.ty S.Wg w∧S.V0 w∧Lay O C S.Sh w∧O 0=lU∧C 0=S.Cb∧
 Pm t w∧∃ (buf:Array Value) (s z:Nat),w.heap[S.Ch]? =some (.chan S.n buf false s z false)∧buf.toList.Perm (((List.range S.n).filter S.bit).map fun(i:Nat)=>int i64 i):=by
 obtain⟨gs,w,sl,D,a,O,C,bx,pre,rk,rfl,ha,hfin,hc,hwg,hall,⟨q,h1,h2,h3,h4⟩,hO⟩:=h
 have hpre:∀i,i<S.n→pre i=0∧∃d,QuitsD S.P (D i).fuel d (gs.getD (i+1) default)∧d=(D i).deaf:=fun i hi=>by
  obtain⟨g,hg,hs⟩:=hc.wk i hi
  have e:gs.getD (i+1) default=g:=by rw[Array.getD_eq_getD_getElem?,hg];rfl
  rw[e]
  generalize hst:(D i).stage=s at hs
  generalize hfu:(D i).fuel=m at hs
  generalize hde:(D i).deaf=dd at hs
  generalize hp:pre i=p at hs
  have h1:=hall i hi
  cases hs with
  | p2 _ _=>omega
  | p1 _ _=>omega
  | r0 _ _=>omega
  | late h6 hl=>
    have:s=1:=zo
    subst this
    refine⟨rfl,_,?_,rfl⟩
    rcases hl with hl|hl
    ·cases hl with|quit hq=>exact hq
    ·cases hl with|quit hq=>exact hq
 have all:∀i g,t.g? i=some g→g≠0→∃r,RelBy (stA S.Wg) t g r∧r<q:=fun i g hg hne=>by
  obtain⟨op,hop,rfl⟩:=Option.map_eq_some_iff.1 hg
  have:=hc.ct.gs i op hop
  obtain⟨r,hr,hrq⟩:=h4 (op.g - 1) zo
  exact⟨r,by rw[show op.g - 1+1=op.g by omega] at hr;exact hr,hrq⟩
 refine⟨gs,w,sl,fun k=>(D (k - 1)).fuel,a,O,C,pre,rfl,ha,hfin,⟨fun k g hk hg=>?_,fun k hk=>?_⟩,⟨hc.ct.nr,fun i b hb hm=>?_,handedOver_all all hc.norel h1 h2 h3,hc.deaf0⟩,⟨_,_,hwg⟩,hc.v0,hc.lay,hO,hc.c0,hc.Py,?_⟩
 ·have hlt:=(Array.getElem?_eq_some_iff.1 hg).1
  rw[hc.size] at hlt
  obtain⟨_,d,hq,rfl⟩:=hpre (k - 1) zo
  have e:gs.getD (k - 1+1) default=g:=by rw[Array.getD_eq_getD_getElem?,show k - 1+1=k by omega,hg];rfl
  rw[e] at hq
  have hd:=hc.deafW (k - 1) zo
  rw[show k - 1+1=k by omega] at hd
  rw[hd];exact hq
 ·exact Deaf_absent fun i op hi e=>by have:=hc.ct.gs i op hi;rw[hc.size] at hk;omega
 ·obtain⟨op,hop,hx⟩:=touch_of hb
  by_cases h0:op.g=0
  ·have:=knows_own hop
   rw[h0] at this
   exact .inl this
  by_cases hcount:t.counts i
  ·obtain⟨r,hr,hrq⟩:=all i op.g (by simp[Trace.g?,hop]) h0
   have edge:HappensBefore t r q:=.single (.inr ⟨.marked hrq (.inr hr.act) h1 (fun k _ _=>hc.norel k),hr.heard,h3⟩)
   have hle:i≤r:=Nat.le_of_not_lt fun hlt=>hr.after i hlt (by simp[Trace.g?,hop]) hcount
   obtain⟨z,hz,hzg⟩:=Option.map_eq_some_iff.1 h2
   refine .inl ⟨q,z,hz,hzg,.inr ?_⟩
   rcases Nat.lt_or_ge i r with hlt|hge
   ·exact .trans (.single (.inl ⟨hlt,op.g,by simp[Trace.g?,hop],hr.g⟩)) edge
   ·obtain rfl:i=r:=zo
    exact edge
  ·refine .inr ?_
   have hk:b.kind=.atomic:=Classical.byContradiction fun hne=>hcount ⟨b,by simpa [touchAt] using hb,hm,.inl hne⟩
   exact⟨hc.sn op (Array.mem_of_getElem? hop) h0 b hx hk,hk⟩
 ·obtain⟨buf,s,z,h5,h6⟩:=hc.sent
  refine⟨buf,s,z,h5,?_⟩
  have:((List.range S.n).filter fun i=>S.bit i && decide (pre i≤1))=(List.range S.n).filter S.bit:=List.filter_congr fun i hi=>by
   rw[(hpre i (List.mem_range.1 hi)).1];simp
  rw[← this];exact h6
end
end
section
open Go.Conc Go.ConcN Go.cu Go.Conc.Lib Go.ConcR.Gen Go.ConcN.Gen
open Go.ConcR (KK WgAt stA smA rd wr g_of_ofEvents Payload DC0)
variable[Inhabited aS]
section
variable{S:Site}{w:World}
theorem Li{q:Nat}{v:Value}{ty:TypeId}(h:w.heap[q]? =some (.cells #[v] ty)):Has q 0 v w:=by
 simp[Has,World.cell?,h]
theorem Vq(H:WgLib S.P S.L)(hS:S.Ok){c:Frame}{cs:List Frame}{qt:Nat}(hcm:c.mode=.returning)(hT:QuitsD S.P qt 0 (G c cs))(hv:S.V0 w):
 S.Ci (G ((baseD S.L.done).at ⟨#[.pointer (some ⟨S.Wg,0,none⟩),undef,undef,undef],[]⟩ [.code (body_done S.L)]) (c :: cs)) w:=
 ⟨⟨23,@doneN S.pA S.L S.P H F0 F0 S.Wg S.bA 1 0 1 S.vA c cs qt hcm hT w ⟨hv.live,Li (hv.tab _ _ hS.cA)⟩⟩,
   ⟨23,@doneN S.pB S.L S.P H F0 F0 S.Wg S.bB 1 0 1 S.vB c cs qt hcm hT w ⟨hv.live,Li (hv.tab _ _ hS.cB)⟩⟩⟩
theorem QA{L:WgLink}{Wg:Nat}{c:Frame}{cs:List Frame}{g:Goroutine}(h:AnchW L Wg c cs g w):g.status=.running:=by
 obtain⟨_,rfl,_⟩:=h
 rfl
end
section
variable{P:Program}{L:WgLink}{Wg:Nat}{Stop:Goroutine→World→Prop}{C O:Nat→Prop}{V:World→Prop}{K:Goroutine→World→(Nat→Prop)→Prop}
theorem EY(C O:Nat→Prop)(w:World):Did C O O w w []:=
 ⟨rfl,rfl,rfl,Nat.le_refl _,fun _ _ _=>rfl,fun b=>⟨.inl,fun h=>h.elim id fun⟨h1,h2⟩=>absurd h2 zo⟩,fun e he=>by simp at he⟩
theorem G8(hV:∀w,V w→WgLive L.tWg Wg w):∀ {m:Nat} {g:Goroutine} {w:World},gD P L Wg Stop m g w→(∀g' w2,Keeps C O w w2→V w2→Stop g' w2→K g' w2 O)→Wk P true C V K g w O
 | 0,g,w,h,hK=>.stop fun w2 k v=>hK g w2 k v (h w2 fun _=>hV w2 v)
 | m+1,g,w,h,hK=>by
   rcases h with h|⟨hrun,h⟩
   ·exact .stop fun w2 k v=>hK g w2 k v (h w2 fun _=>hV w2 v)
   ·refine .step (fun g2 w3 O2=>O2=O∧gD P L Wg Stop m g2 w3∧Keeps C O w w3) hrun (fun w2 k v=>?_) ?_
    ·have hs:=h w2 fun _=>hV w2 v
     cases hgo:stepG P true g w2 with
     | go g2 w3 es=>
       rw[hgo,goes_go] at hs
       obtain⟨⟨rfl,rfl⟩,hG⟩:=hs
       exact⟨g2,w3,O,#[],rfl,EY C O w3,rfl,hG,k⟩
     | _=>rw[hgo] at hs;exact hs.elim
    ·rintro g2 w3 O2 ⟨e,hG,k⟩
     rw[e]
     exact G8 hV hG fun g' w2 k2 v=>hK g' w2 (k.trans k2) v
end
section
variable{S:Site}{w:World}{O:Nat→Prop}{i:Nat}{Next:Goroutine→World→Prop}
theorem RX{R g:Goroutine}{m:Nat}(h:S.GL (S.ie R) m g w)(hc:S.Cont i Next R w O):Wk S.P true S.Cb S.V0 (S.yj i Next) g w O:=
 G8 (fun _ v=>v.live) h fun g' w2 k v hs=>⟨R,hs,iq hc k⟩
end
end
section
open Go.Conc Go.ConcN Go.cu
variable[Inhabited aS]
open Classical in
noncomputable def FI(D:Nat→Prop):Ren:=fun b=>if D b then some b else none
theorem uW{D:Nat→Prop}{b b':Nat}(h:FI D b=some b'):b'=b∧D b:=by
 unfold FI at h
 split at h
 ·exact⟨(Option.some.inj h).symm,‹_›⟩
 ·cases h
theorem LB{D:Nat→Prop}{b:Nat}(h:D b):FI D b=some b:=if_pos h
def aq:Obj→Obj
 | .cells c e _=>.cells c e (0,c.size)
 | o=>o
open Classical in
noncomputable def uU(D:Nat→Prop)(w:World):World:={w with heap:=w.heap.mapIdx fun b o=>if D b then aq o else o }
theorem Q7{D:Nat→Prop}{w:World}{b:Nat}{c:Array Value}{e:TypeId}{f:Nat × Nat}(h:D b)(hb:w.heap[b]? =some (.cells c e f)):(uU D w).heap[b]? =some (.cells c e (0,c.size)):=by
 simp[uU,Array.getElem?_mapIdx,hb,h,aq]
theorem Vx{D:Nat→Prop}{w:World}{b:Nat}(h:¬ D b):(uU D w).heap[b]? =w.heap[b]?:=by
 simp only[uU,Array.getElem?_mapIdx,h,if_false]
 cases w.heap[b]? <;> rfl
theorem Q8(D:Nat→Prop)(w:World):(uU D w).heap.size=w.heap.size:=by simp[uU]
def Closed(D:Nat→Prop)(w:World):Prop:=∀b,D b→∃c e f,w.heap[b]? =some (.cells c e f)∧f.2≤c.size∧dU (FI D) c c
theorem Closed.keeps{D:Nat→Prop}{w w':World}(h:Closed D w)(hk:∀b,D b→w'.heap[b]? =w.heap[b]?):Closed D w':=fun b hb=>by
 obtain⟨c,e,f,h1,h2⟩:=h b hb
 exact⟨c,e,f,(hk b hb).trans h1,h2⟩
theorem fi{D:Nat→Prop}{w0 w:World}(h:Closed D w)(hk:∀b,D b→w0.heap[b]? =w.heap[b]?):WR (FI D) (uU D w0) w:=by
 refine⟨fun b b' hb=>?_,fun b1 b2 c h1 h2=>?_⟩
 ·obtain⟨rfl,hD⟩:=uW hb
  obtain⟨c,e,f,h1,h3,h2⟩:=h _ hD
  exact⟨_,_,Q7 hD ((hk _ hD).trans h1),h1,.cells e h2 fun o _ h4=>⟨Nat.zero_le _,Nat.lt_of_lt_of_le h4 h3⟩⟩
 ·obtain⟨e1,_⟩:=uW h1
  obtain⟨e2,_⟩:=uW h2
  exact e1.symm.trans e2
theorem Vj{D C O:Nat→Prop}{w0 w:World}(h:Closed D w)(hk:∀b,D b→w0.heap[b]? =w.heap[b]?)(hC:∀b,D b→C b):il C O (FI D) (uU D w0):=fun b b' hb=>by
 obtain⟨rfl,hD⟩:=uW hb
 obtain⟨c,e,f,h1,h2⟩:=h _ hD
 exact .inl ⟨⟨c,e,_,Q7 hD ((hk _ hD).trans h1),fun o ho=>⟨Nat.zero_le _,ho⟩⟩,hC _ hD⟩
theorem Ed{P:Program}{main:Bool}{C O:Nat→Prop}{V:World→Prop}{K:Goroutine→World→(Nat→Prop)→Prop}(hg:P.globals.size=0){F:Fence}(hF:gG P F.fn)(hin:∀g,F.fn g→P.inits.idxOf? g=none)(hal:F.alive=true){n:Nat}(hroom:F.room (1+n))
 {f:FuncId}{args args':Array Value}{D:Nat→Prop}{w0 w:World}{r:Bool}{c:Frame}{cs:List Frame}(H:∀σ:Tape,CallsIn F n P f args (on (uU D w0) σ) (fun e _=>e=.returned (.bool r)))(ha:dU (FI D) args args')(h:Closed D w)
 (hk:∀b,D b→w0.heap[b]? =w.heap[b]?)(hC:∀b,D b→C b)(hW:∀w3 O3,(∀b,O b→O3 b)→Wk P main C V K (G (c.finish (.bool r)) cs) w3 O3):Wk P main C V K (G (Frame.enter P f args' .normal) (c :: cs)) w O:=by
 refine Wk.call (uG (R:=fun x _=>x=.bool r) hg hF hin hal hroom (fun σ=>?_) ha (fi h hk) (Vj h hk hC)) fun ρ1 v v' w1 w3 O3 hR hv _ _ _ hO=>?_
 ·obtain⟨h1,h2⟩:=H σ
  refine⟨h1,fun cs hcs=>?_⟩
  obtain⟨e,v,fr,he,h3⟩:=h2 cs hcs
  exact⟨e,v,fr,⟨_,he,rfl⟩,h3⟩
 ·subst hR
  cases hv
  exact hW w3 O3 hO
end
section
open Go.Conc Go.ConcN Go.cu Go.Conc.Lib
open Go.ConcR (WgAt stA smA rd wr Payload)
variable[Inhabited aS]
section
variable{P:Program}{main:Bool}{C O:Nat→Prop}{V:World→Prop}{K:Goroutine→World→(Nat→Prop)→Prop}{b:Frame}{a:Act}{k:List Item}{cs:List Frame}{w:World}{ops:Array Oper}{i:Nat}{rest:List Nat}{o:Oper}
theorem listed_nil{w2:World}(he:(execOp a.eval o).events P w2 #[]=#[]):listed P b.fn a o w2=#[]:=by
 unfold listed;rw[he];exact seen_none P _
theorem Ef{v:Value}(ho:ops[i]? =some o)(hw:Region.wanted o (yielded ops a.tmps)=true)(hk:b.kind≠.early)(hr:∀w2:World,(execOp a.eval o).run P w2=.ok (.value v) w2)(he:∀w2:World,(execOp a.eval o).events P w2 #[]=#[])
 (h:Wk P main C V K (G (b.at (a.put o.dst v) (.inRegion ops rest :: k)) cs) w O):Wk P main C V K (G (b.at a (.inRegion ops (i :: rest) :: k)) cs) w O:=
 Wk.idle rfl (fun w2 _=>by rw[stepG_value ho hw hk (hr w2),listed_nil (he w2)]) h
theorem vD{v:Value}{ad:Addr}(ho:ops[i]? =some o)(hw:Region.wanted o (yielded ops a.tmps)=true)(hk:b.kind≠.early)(hb:O ad.block∨C ad.block)
 (hr:∀w2:World,Keeps C O w w2→V w2→(execOp a.eval o).run P w2=.ok (.value v) w2∧listed P b.fn a o w2=#[⟨.cell ad,false,false⟩])
 (h:Wk P main C V K (G (b.at (a.put o.dst v) (.inRegion ops rest :: k)) cs) w O):Wk P main C V K (G (b.at a (.inRegion ops (i :: rest) :: k)) cs) w O:=
 .step (fun g2 w3 O2=>g2=G (b.at (a.put o.dst v) (.inRegion ops rest :: k)) cs∧O2=O∧Keeps C O w w3) rfl (fun w2 k2 v2=>by
  obtain⟨h1,h2⟩:=hr w2 k2 v2
  refine⟨_,w2,O,_,stepG_value ho hw hk h1,?_,rfl,rfl,k2⟩
  rw[h2]
  exact⟨rfl,rfl,rfl,Nat.le_refl _,fun _ _ _=>rfl,fun b=>⟨.inl,fun h=>h.elim id fun⟨x,y⟩=>absurd y zo⟩,fun e he=>by
   simp only[List.mem_singleton] at he
   subst he
   exact .inr ⟨rfl,.inl ⟨ad,rfl,hb.imp id fun h=>⟨rfl,h⟩⟩⟩⟩)
  fun g2 w3 O2 ⟨e1,e2,k2⟩=>by subst e1;subst e2;exact h.keeps k2
theorem Uf{obj:Obj}(ho:ops[i]? =some o)(hw:Region.wanted o (yielded ops a.tmps)=true)(hk:b.kind≠.early)
 (hr:∀w2:World,(execOp a.eval o).run P w2=.ok (.value (.pointer (some ⟨w2.heap.size,0,none⟩))) (w2.alloc obj))(he:∀w2:World,(execOp a.eval o).events P w2 #[]=#[])
 (h:∀w2,Keeps C O w w2→V w2→Wk P main C V K (G (b.at (a.put o.dst (.pointer (some ⟨w2.heap.size,0,none⟩))) (.inRegion ops rest :: k)) cs) (w2.alloc obj) (fun b=>O b∨b=w2.heap.size)):
 Wk P main C V K (G (b.at a (.inRegion ops (i :: rest) :: k)) cs) w O:=
 .step (fun g2 w3 O2=>∃w2,Keeps C O w w2∧V w2∧g2=G (b.at (a.put o.dst (.pointer (some ⟨w2.heap.size,0,none⟩))) (.inRegion ops rest :: k)) cs∧w3=w2.alloc obj∧O2=fun b=>O b∨b=w2.heap.size) rfl (fun w2 k2 v2=>by
  refine⟨_,_,fun b=>O b∨b=w2.heap.size,_,stepG_value ho hw hk (hr w2),?_,w2,k2,v2,rfl,rfl,rfl⟩
  rw[listed_nil (he w2)]
  have hsz:(w2.alloc obj).heap.size=w2.heap.size+1:=by show(w2.heap.push obj).size=_;exact Array.size_push ..
  refine⟨rfl,rfl,rfl,by rw[hsz];omega,fun b hb _=>?_,fun b=>⟨fun h=>h.imp id fun h=>?_,fun h=>h.imp id fun⟨x,y⟩=>?_⟩,fun e he=>by simp at he⟩
  ·show(w2.heap.push obj)[b]? =_
   rw[Array.getElem?_push,if_neg (Nat.ne_of_lt hb)]
  ·subst h;rw[hsz];exact⟨Nat.le_refl _,Nat.lt_succ_self _⟩
  ·rw[hsz] at y;omega)
  fun g2 w3 O2 ⟨w2,k2,v2,e1,e2,e3⟩=>by subst e1;subst e2;subst e3;exact h w2 k2 v2
theorem Uj{v:Value}{ad:Addr}(ho:ops[i]? =some o)(hw:Region.wanted o (yielded ops a.tmps)=true)(hk:b.kind≠.early)(hb:O ad.block)
 (hr:∀w2:World,Keeps C O w w2→V w2→(execOp a.eval o).run P w2=.ok .skip (w2.setCell ad v)∧listed P b.fn a o w2=#[⟨.cell ad,true,false⟩])
 (h:∀w2,Keeps C O w w2→V w2→Wk P main C V K (G (b.at (a.put o.dst undef) (.inRegion ops rest :: k)) cs) (w2.setCell ad v) O):Wk P main C V K (G (b.at a (.inRegion ops (i :: rest) :: k)) cs) w O:=
 .step (fun g2 w3 O2=>∃w2,Keeps C O w w2∧V w2∧g2=G (b.at (a.put o.dst undef) (.inRegion ops rest :: k)) cs∧w3=w2.setCell ad v∧O2=O) rfl (fun w2 k2 v2=>by
  obtain⟨h1,h2⟩:=hr w2 k2 v2
  refine⟨_,_,O,_,stepG_none ho hw hk h1,?_,w2,k2,v2,rfl,rfl,rfl⟩
  rw[h2]
  refine⟨rfl,rfl,rfl,by simp[World.setCell],fun b _ hn=>?_,fun b=>⟨.inl,fun h=>h.elim id fun⟨x,y⟩=>?_⟩,fun e he=>?_⟩
  ·have:b≠ad.block:=fun e=>hn (e ▸ hb)
   simp only[World.setCell,Array.getElem?_modify]
   rw[if_neg (Ne.symm this)]
  ·simp[World.setCell] at y;omega
  ·simp only[List.mem_singleton] at he
   subst he
   exact .inr ⟨rfl,.inl ⟨ad,rfl,.inl hb⟩⟩)
  fun g2 w3 O2 ⟨w2,k2,v2,e1,e2,e3⟩=>by subst e1;subst e2;subst e3;exact h w2 k2 v2
theorem Ug{f:FuncId}{fn:Func}{c:Code}{args:Array Operand}{ats:Array TypeId}(ho:ops[i]? =some o)(hw:Region.wanted o (yielded ops a.tmps)=true)(hk:b.kind≠.early)(hop:o.op=.call {callee:=.value (.func f),args,argTypes:=ats })
 (hf:P.funcs[f]? =some fn)(hname:(fn.name == "runtime.NumGoroutine")=false)(hb:fn.body=some c)
 (h:Wk P main C V K (G ((base f).at {tmps:=args.map a.eval ++ Array.replicate (fn.ntmps - (args.map a.eval).size) undef,defers:=[] } [.code c]) (b.at a (.inRegion ops (i :: rest) :: k) :: cs)) w O):Wk P main C V K (G (b.at a (.inRegion ops (i :: rest) :: k)) cs) w O:=by
 have hb':fn.body.isNone=false:=by rw[hb];rfl
 refine Wk.idle rfl (fun w2 _=>by rw[stepG_enter ho hw hk (run_call_body hop hf hname hb'),listed_nil (events_call_body hop hf hname hb' #[])]) ?_
 rw[enter_at _ hf hb]
 exact h
theorem Uh{f:FuncId}{args:Array Value}(ho:ops[i]? =some o)(hw:Region.wanted o (yielded ops a.tmps)=true)(hk:b.kind≠.early)(hr:∀w2:World,(execOp a.eval o).run P w2=.ok (.enter f args) w2)(he:∀w2:World,(execOp a.eval o).events P w2 #[]=#[])
 (h:Wk P main C V K (G (Frame.enter P f args .normal) (b.at a (.inRegion ops (i :: rest) :: k) :: cs)) w O):Wk P main C V K (G (b.at a (.inRegion ops (i :: rest) :: k)) cs) w O:=
 Wk.idle rfl (fun w2 _=>by rw[stepG_enter ho hw hk (hr w2),listed_nil (he w2)]) h
end
section
variable{P:Program}{L:WgLink}{Wg:Nat}{Stop Stop':Goroutine→World→Prop}{C O:Nat→Prop}{V:World→Prop}{K:Goroutine→World→(Nat→Prop)→Prop}
theorem xU(hV:∀w,V w→WgLive L.tWg Wg w):∀ {m:Nat} {g:Goroutine} {w:World},gD P L Wg Stop m g w→V w→(∀g' w2,Keeps C O w w2→V w2→Stop g' w2→Wk P true C V K g' w2 O)→Wk P true C V K g w O
 | 0,g,w,h,hv,hK=>hK g w (Keeps.refl C O w) hv (h w fun x=>x)
 | m+1,g,w,h,hv,hK=>by
   rcases h with h|⟨hrun,h⟩
   ·exact hK g w (Keeps.refl C O w) hv (h w fun x=>x)
   ·refine .step (fun g2 w3 O2=>O2=O∧gD P L Wg Stop m g2 w3∧Keeps C O w w3∧V w3) hrun (fun w2 k v=>?_) ?_
    ·have hs:=h w2 fun _=>hV w2 v
     cases hgo:stepG P true g w2 with
     | go g2 w3 es=>
       rw[hgo,goes_go] at hs
       obtain⟨⟨rfl,rfl⟩,hG⟩:=hs
       exact⟨g2,w3,O,#[],rfl,EY C O w3,rfl,hG,k,v⟩
     | _=>rw[hgo] at hs;exact hs.elim
    ·rintro g2 w3 O2 ⟨e,hG,k,v⟩
     rw[e]
     exact xU hV hG v fun g' w2 k2 v=>hK g' w2 (k.trans k2) v
theorem iX(hS:∀g w,Stop g w→Stop' g w):∀ {m:Nat} {g:Goroutine} {w:World},gD P L Wg Stop m g w→gD P L Wg Stop' m g w
 | 0,g,w,h=>fun w1 h1=>hS _ _ (h w1 h1)
 | m+1,g,w,h=>by
   rcases h with h|⟨hrun,h⟩
   ·exact .inl fun w1 h1=>hS _ _ (h w1 h1)
   ·refine .inr ⟨hrun,fun w1 h1=>?_⟩
    have hs:=h w1 h1
    cases hgo:stepG P true g w1 with
    | go g2 w3 es=>
      rw[hgo,goes_go] at hs
      rw[goes_go]
      exact⟨hs.1,iX hS hs.2⟩
    | _=>rw[hgo] at hs;exact hs.elim
theorem La:∀ {m:Nat} {g:Goroutine} {w:World},gD P L Wg Stop m g w→gD P L Wg Stop (m+1) g w
 | 0,g,w,h=>.inl h
 | m+1,g,w,h=>by
   rcases h with h|⟨hrun,h⟩
   ·exact .inl h
   ·refine .inr ⟨hrun,fun w1 h1=>?_⟩
    have hs:=h w1 h1
    cases hgo:stepG P true g w1 with
    | go g2 w3 es=>
      rw[hgo,goes_go] at hs
      rw[goes_go]
      exact⟨hs.1,La hs.2⟩
    | _=>rw[hgo] at hs;exact hs.elim
theorem Yz{m n:Nat}{g:Goroutine}{w:World}(h:gD P L Wg Stop m g w)(hn:m≤n):gD P L Wg Stop n g w:=by
 induction hn with
 | refl=>exact h
 | step _ ih=>exact La ih
theorem KZ(n:Nat)(hn:∀g w,WgLive L.tWg Wg w→Stop g w→gD P L Wg Stop' n g w):∀ {m:Nat} {g:Goroutine} {w:World},gD P L Wg Stop m g w→WgLive L.tWg Wg w→gD P L Wg Stop' (m+n) g w
 | 0,g,w,h,hl=>by rw[Nat.zero_add];exact hn _ _ hl (h w fun x=>x)
 | m+1,g,w,h,hl=>by
   rcases h with h|⟨hrun,h⟩
   ·exact Yz (hn _ _ hl (h w fun x=>x)) zo
   ·rw[show m+1+n=m+n+1 by omega]
    refine .inr ⟨hrun,fun w1 h1=>?_⟩
    have hs:=h w1 h1
    cases hgo:stepG P true g w1 with
    | go g2 w3 es=>
      rw[hgo,goes_go] at hs
      rw[goes_go]
      obtain⟨⟨rfl,rfl⟩,hG⟩:=hs
      exact⟨⟨rfl,rfl⟩,KZ n hn hG (h1 hl)⟩
    | _=>rw[hgo] at hs;exact hs.elim
end
section
variable{P:Program}{L:WgLink}{Wg:Nat}{A A':Goroutine→World→Prop}{F F':Goroutine→Prop}
theorem Ud(hF:∀g,F g→F' g){g:Goroutine}{w:World}(h:Iq P Wg F g w):Iq P Wg F' g w:=let ⟨a,g',b,c⟩:=h;⟨a,g',b,hF _ c⟩
theorem Mi(hF:∀g,F g→F' g){g:Goroutine}{w:World}(h:Yp P L Wg F g w):Yp P L Wg F' g w:=let ⟨a,g',b,m,c⟩:=h;⟨a,g',b,m,iX (fun _ _=>Ud hF) c⟩
theorem fh(hF:∀g,F g→F' g){g:Goroutine}{w:World}(h:W4 P L Wg F g w):W4 P L Wg F' g w:=⟨h.1,fun x=>let ⟨g',b,m,c⟩:=h.2 x;⟨g',b,m,iX (fun _ _=>Mi hF) c⟩⟩
theorem fg(hF:∀g,F g→F' g){g:Goroutine}{w:World}(h:W3 P L Wg F g w):W3 P L Wg F' g w:=⟨h.1,h.2.1,h.2.2.1,fun x=>let ⟨g',b,m,c⟩:=h.2.2.2 x;⟨g',b,m,iX (fun _ _=>fh hF) c⟩⟩
theorem Ya(hF:∀g,F g→F' g){g:Goroutine}{w:World}(h:xe P L Wg F g w):xe P L Wg F' g w:=let ⟨a,g',b,m,c⟩:=h;⟨a,g',b,m,iX (fun _ _=>fg hF) c⟩
theorem ff(hA:∀g w,A g w→A' g w)(hF:∀g,F g→F' g){vs:Nat}{g:Goroutine}{w:World}(h:W2 P L Wg A F vs g w):W2 P L Wg A' F' vs g w:=
 ⟨h.1,fun v hv hw=>⟨fun e=>let ⟨g',b,m,c⟩:=(h.2 v hv hw).1 e;⟨g',b,m,iX (fun _ _=>Ya hF) c⟩,fun e=>let ⟨g',b,m,c⟩:=(h.2 v hv hw).2 e;⟨g',b,m,iX hA c⟩⟩⟩
theorem fe(hA:∀g w,A g w→A' g w)(hF:∀g,F g→F' g){g:Goroutine}{w:World}(h:W1 P L Wg A F g w):W1 P L Wg A' F' g w:=
 ⟨h.1,fun v hv hw=>let ⟨g',b,c,d⟩:=h.2 v hv hw;⟨g',b,fun e=>let ⟨m,x⟩:=c e;⟨m,iX (fun _ _=>Mi hF) x⟩,fun e=>let ⟨m,x⟩:=d e;⟨m,iX (fun _ _=>ff hA hF) x⟩⟩⟩
end
theorem JM{S:Site}(H:WgLib S.P S.L)(pl:Payload){b₀:Frame}{ops₀:Array Oper}{i₀:Nat}{rest₀:List Nat}{k₀:List Item}{cs:List Frame}{A:Act→Prop}
 (cA:S.tab S.bA=some (.cells #[S.vA] (@Payload.ety S.pA)))(cB:S.tab S.bB=some (.cells #[S.vB] (@Payload.ety S.pB)))(ab:S.bA≠S.bB)(tw:S.tab S.Wg=none)(wc:S.Wg≠S.Ch)(n31:S.n<2147483648)
 (hAn:S.Anch=fun g w=>∃a₀,A a₀∧AnchW S.L S.Wg (b₀.at a₀ (.inRegion ops₀ (i₀ :: rest₀) :: k₀)) cs g w)(VC:S.Fin=fun g=>∃a₀,A a₀∧UA S.P S.L S.Wg (pW b₀ a₀ ops₀ i₀ rest₀ k₀ cs) g):S.Ok:=by
 refine⟨cA,cB,ab,fun e=>?_,fun e=>?_,wc,n31,fun g w h=>?_,fun g w h=>?_⟩
 ·rw[e,tw] at cA;cases cA
 ·rw[e,tw] at cB;cases cB
 ·rw[hAn] at h
  obtain⟨a₀,_,h⟩:=h
  exact QA h
 ·rw[hAn] at h
  obtain⟨a₀,ha,h⟩:=h
  obtain⟨m,h1⟩:=@Ky pl S.L S.P S.Wg b₀ a₀ ops₀ i₀ rest₀ k₀ cs H g w h
  refine⟨m,iX (fun g w h=>fe (fun g w h=>?_) (fun g h=>?_) h) h1⟩
  ·rw[hAn];exact⟨a₀,ha,h⟩
  ·rw[VC];exact⟨a₀,ha,h⟩
end
end Go.aO
