/- Crew10 Crew11 Crew12 Crew13 Crew14 Crew15 Crew16 Crew17 Crew18 Crew19 Crew20 Crew21 -/
import Derived.Test.YtpmafoalhnaokaaGreatB3
import Derived.Conc.Beside
set_option maxRecDepth 100000
set_option maxHeartbeats 16000000
set_option linter.unusedVariables false
set_option linter.unusedSectionVars false
open Go.IntKind(i64)
open Go.Value(int)
namespace Go.aP
section
open Go.Conc Go.ConcN Go.bZ Go.Conc.Lib
open Go.ConcR (KK WgAt stA smA rd wr g_of_ofEvents Payload DC0 again_blocked Bk ofEvent_loc_mark ofEvent_cell bk_of_mute)
variable[Inhabited aT]
section
variable{S:Site}{O C:Nat→Nat→Prop}{bx pre:Nat→Nat}{rk:Nat→Rank S.P}{j:Nat}{gs:Array Goroutine}{w w':World}{sl:Option (Nat × Nat)}{t:Trace}{D:Nat→WD}{tag:CTag}{b f0 d0:Nat}{a:Goroutine}{st sm:Int}
theorem Com.rename(hS:S.Ok)(h:Com S O C bx pre rk j gs w t D d0){i:Nat}(hi:i<j){g:Goroutine}(hg:gs[i+1]? =some g){x':Rank S.P}{p' m':Nat}(h7:(D i).stage=7)(hd:(D i).deaf=0)
 (jf:uj S j (upd pre i p') w)(hs':Eb S i (bx i) x' p' 7 m' 0 g w (O (i+1))):Com S O C bx (upd pre i p') (upd rk (i+1) x') j gs w t (upd D i ⟨7,m',0⟩) d0:=by
 have:=h.stepW (gs':=gs) (u:=#[]) (O1:=O (i+1)) (w':=w) hS hi h.size hg (fun k _ _ y hy _=>hy) (by rw[kr];exact h.lay) (fun k _=>Keeps.refl _ _ _) (fun _ _=>rfl) h.v0.live ⟨rfl,rfl,rfl⟩ jf hs'
  (by rw[kr];simpa using h.ct) (by simpa using h.RA) zs zs (rY zs) (by simpa [hd] using h.deafW i hi) zo
 rw[kr] at this
 simpa using this
theorem VF(hS:S.Ok)(ha:gs[0]? =some a)(hm:ji S j (rk 0) tag b f0 d0 a w (O 0))(hc:Com S O C bx pre rk j gs w t D d0)(hwg:WgAt S.ty S.Wg w st sm)(hmode:ConcN.Mode j D tag st sm)
 {i:Nat}(hi:i<j){g:Goroutine}(hg:gs[i+1]? =some g)(hpre:pre i=0){m m':Nat}(h1:S.GA m g w)(h2:S.GB m' g w)(hst:(D i).stage=7)(hfu:(D i).fuel=m+m')(hde:(D i).deaf=0):
 ∃m₁ ops μ',runT S.P (crowd gs w sl) (i+1)=(.next m₁,ops)∧AB S μ' (mu S j D tag b pre rk f0)∧Inv S μ' m₁ (t ++ ops):=by
 have hdk:Deaf t (i+1)=0:=by rw[hc.deafW i hi,hde]
 have rel:∀ {g':Goroutine} {m₂:Nat},stepG S.P false g w=.go g' w #[Go.ConcR.mk (.releaseMerge (stA S.Wg))]→S.Late 6 m₂ 0 g' w→
  ∃m₁ ops μ',runT S.P (crowd gs w sl) (i+1)=(.next m₁,ops)∧AB S μ' (mu S j D tag b pre rk f0)∧Inv S μ' m₁ (t ++ ops):=by
  intro g' m₂ hgo hk
  exact Kg hS ha hm hc hi hg hgo (.refl S.Wg w) hwg (by intro e he x hx;simp at he;subst he;simp[Go.ConcR.mk,MemAct.ofEvent,MemAct.touch?] at hx) (by intro e he;simp at he;subst he;simp[Go.ConcR.mk])
   (by rw[hpre];exact .late zo hk) (by rw[hde];rfl) (fun _=>⟨t.size,RelBy.new hdk _ _⟩) (fun _ ht _=>(hmode.counted hi zo (.inl rfl) _ _).retag ht) (.inl ⟨zo,by simp[cnt,hst]⟩)
 rcases Goes.cases h1 with hA|⟨k,rfl,hA⟩
 ·obtain⟨_,_,g',hgo,m₂,hk⟩:=hA w (@RW.refl S.pA _ _ _ _ _ _ w)
  letI:=S.pA
  exact rel hgo (.inl (.k1 hk))
 rcases Goes.cases h2 with hB|⟨k',rfl,hB⟩
 ·obtain⟨_,_,g',hgo,m₂,hk⟩:=hB w (@RW.refl S.pB _ _ _ _ _ _ w)
  letI:=S.pB
  exact rel hgo (.inr (.k1 hk))
 obtain⟨g',w',es,hgo,⟨a1,e1⟩,hA'⟩:=hA w (@RW.refl S.pA _ _ _ _ _ _ w)
 obtain⟨g2,w2,es2,xy,⟨a2,_⟩,hB'⟩:=hB w (@RW.refl S.pB _ _ _ _ _ _ w)
 rw[hgo] at xy
 cases xy
 have hAs:Aside S.Wg w w':=Ei hS.ab a1 a2
 have hwg':WgAt S.ty S.Wg w' st sm:=by
  obtain⟨_,_,_,_,a5,_,_⟩:=a1
  unfold WgAt at *
  rw[a5 _ (Ne.symm hS.aW)];exact hwg
 refine Kg hS ha hm hc hi hg hgo hAs hwg' (Pm e1) (fun e he=>(e1 e he).2.2.2) (by rw[hpre];exact .r0 hA' hB') (by rw[hde];exact deafBehind_idle (fun e he=>⟨(e1 e he).2.1,(e1 e he).2.2.1⟩) 0)
  (fun h=>absurd h zo) (fun _ ht _=>ConcN.Mode.retag (by have:=hmode.same (i:=i) (k+k') 0;rwa[hst] at this) ht) (.inr ⟨hst.symm,zo⟩)
theorem I6(hS:S.Ok)(ha:gs[0]? =some a)(hm:ji S j (rk 0) tag b f0 d0 a w (O 0))(hc:Com S O C bx pre rk j gs w t D d0)(hwg:WgAt S.ty S.Wg w st sm)(hmode:ConcN.Mode j D tag st sm)
 {i:Nat}(hi:i<j){g:Goroutine}(hg:gs[i+1]? =some g)(hpre:0<pre i)(jf:uj S j (upd pre i 0) w)(h:S.DU g w)(hst:(D i).stage=7)(hde:(D i).deaf=0):
 ∃m₁ ops μ',runT S.P (crowd gs w sl) (i+1)=(.next m₁,ops)∧AB S μ' (mu S j D tag b pre rk f0)∧Inv S μ' m₁ (t ++ ops):=by
 obtain⟨⟨m,h1⟩,m',h2⟩:=h
 have hc':=hc.rename hS hi hg (x':=rk (i+1)) hst hde jf (.r0 h1 h2)
 rw[uT] at hc'
 have e4:=sumTo_upd pre 0 id hi
 have ev:(sumTo j fun q=>cnt (upd D i ⟨7,m+m',0⟩ q))=sumTo j fun q=>cnt (D q):=by
  have:=sumTo_upd D (⟨7,m+m',0⟩:WD) cnt hi
  have c1:cnt (D i)=1:=by simp[cnt,hst]
  have c2:cnt (⟨7,m+m',0⟩:WD)=1:=by simp[cnt]
  omega
 have es:(sumTo j fun q=>(upd D i ⟨7,m+m',0⟩ q).stage)=sumTo j fun q=>(D q).stage:=by
  have:=sumTo_upd D (⟨7,m+m',0⟩:WD) WD.stage hi
  simp only[hst] at this
  omega
 obtain⟨m₁,ops,μ',r1,r2,r3⟩:=VF (sl:=sl) hS ha hm hc' hwg (by have:=hmode.same (i:=i) (m+m') 0;rwa[hst] at this) hi hg (upd_same _ _ _) h1 h2 (by rw[upd_same]) (by rw[upd_same]) (by rw[upd_same])
 refine⟨m₁,ops,μ',r1,C8 r2 ?_,r3⟩
 show 2 * phi S.n (Vc j (upd D i ⟨7,m+m',0⟩)) tag+b+Ssum j (upd D i ⟨7,m+m',0⟩)+sumTo j (fun q=>upd pre i 0 q)<2 * phi S.n (Vc j D) tag+b+Ssum j D+sumTo j (fun q=>pre q)
 simp only[Vc,Ssum,id] at *
 rw[ev,es]
 omega
theorem ns(hS:S.Ok)(ha:gs[0]? =some a)(hm:ji S j (rk 0) tag b f0 d0 a w (O 0))(hc:Com S O C bx pre rk j gs w t D d0)(hwg:WgAt S.ty S.Wg w st sm)(hmode:ConcN.Mode j D tag st sm)
 {i:Nat}(hi:i<j){g:Goroutine}(hg:gs[i+1]? =some g)(hpre:pre i=1)(hx:(rk (i+1)).1=mK (S.C1 (bx i)) (S.V1 i (bx i)) false S.K7 g w (O (i+1)))(h:Wk S.P false (S.C1 (bx i)) (S.V1 i (bx i)) S.K7 g w (O (i+1)))
 (hst:(D i).stage=7)(hde:(D i).deaf=0):
 ∃m₁ ops μ',runT S.P (crowd gs w sl) (i+1)=(.next m₁,ops)∧AB S μ' (mu S j D tag b pre rk f0)∧Inv S μ' m₁ (t ++ ops):=by
 by_cases hK:S.K7 g w (O (i+1))
 ·refine I6 hS ha hm hc hwg hmode hi hg zo (hc.sent.congr rfl fun k hk=>?_) hK hst hde
  by_cases e:k=i
  ·subst e;rw[upd_same];omega
  ·rw[upd_ne pre _ e]
 ·obtain⟨h0,g2,w3,O2,es,y,r1,r2,r3,r4,r5⟩:=FH h (hc.v1 hi) hK _ hx
  rw[← hc.ci i hi] at r2
  exact Vj hS ha hm hc hwg hmode hi hg r1 r2 hst hde (by rw[hpre];exact .p1 r4 r3) r5
end
theorem vk{p p':Nat→Bool}{i:Nat}(h0:p i=false)(h1:p' i=true)(h2:∀k,k≠i→p' k=p k):∀ {l:List Nat},l.Nodup→i∈l→(l.filter p').Perm (i :: l.filter p)
 | [],_,hi=>by cases hi
 | y :: l,hn,hi=>by
   obtain⟨hy,hn⟩:=List.nodup_cons.1 hn
   by_cases e:y=i
   ·subst e
    have:l.filter p'=l.filter p:=List.filter_congr fun k hk=>h2 k fun e=>hy (e ▸ hk)
    rw[List.filter_cons_of_pos h1,List.filter_cons_of_neg (by simp[h0]),this]
   ·have ih:=vk h0 h1 h2 hn ((List.mem_cons.1 hi).resolve_left fun e2=>e e2.symm)
    by_cases hp:p y=true
    ·rw[List.filter_cons_of_pos (by rw[h2 y e];exact hp),List.filter_cons_of_pos hp]
     exact(ih.cons y).trans (List.Perm.swap i y _)
    ·rw[List.filter_cons_of_neg (by rw[h2 y e];exact hp),List.filter_cons_of_neg hp]
     exact ih
section
variable{S:Site}{O C:Nat→Nat→Prop}{bx pre:Nat→Nat}{rk:Nat→Rank S.P}{j:Nat}{gs:Array Goroutine}{w w':World}{sl:Option (Nat × Nat)}{t:Trace}{D:Nat→WD}{tag:CTag}{b f0 d0:Nat}{a:Goroutine}{st sm:Int}
theorem BF(w:World)(c n s q:Nat)(buf:Array Value)(x y:Bool):(∀k,k≠c→(w.setChan c n buf x s q y).heap[k]? =w.heap[k]?)∧(w.setChan c n buf x s q y).heap.size=w.heap.size∧(c<w.heap.size→(w.setChan c n buf x s q y).heap[c]? =some (.chan n buf x s q y)):=by
 refine⟨fun k hk=>?_,by simp[World.setChan],fun hc=>?_⟩
 ·simp only[World.setChan]
  exact Array.getElem?_setIfInBounds_ne (fun e=>hk e.symm)
 ·simp only[World.setChan]
  exact Array.getElem?_setIfInBounds_self_of_lt hc
theorem ji.offers{x:Rank S.P}{O0:Nat→Prop}(h:ji S j x .blk b f0 d0 a w O0):a.offers=none:=by
 cases h with
 | blk e hb=>exact(hb w fun x=>x).2.1
theorem VG(hS:S.Ok)(ha:gs[0]? =some a)(hm:ji S j (rk 0) tag b f0 d0 a w (O 0))(hc:Com S O C bx pre rk j gs w t D d0)(hwg:WgAt S.ty S.Wg w st sm)(hmode:ConcN.Mode j D tag st sm)
 {i:Nat}(hi:i<j){g:Goroutine}(hg:gs[i+1]? =some g)(hpre:pre i=2)(hbit:S.bit i=true)(hK:S.SI i (bx i) g w (O (i+1)))(hst:(D i).stage=7)(hde:(D i).deaf=0):
 ∃m₁ ops μ',runT S.P (crowd gs w sl) (i+1)=(.next m₁,ops)∧AB S μ' (mu S j D tag b pre rk f0)∧Inv S μ' m₁ (t ++ ops):=by
 obtain⟨hrun,g2,z,hcomm,hafter⟩:=hK
 obtain⟨buf,s,q,hch,hperm⟩:=hc.sent
 have du:=vk (p:=fun i=>S.bit i && decide (pre i≤1)) (p':=fun k=>S.bit k && decide (upd pre i 1 k≤1)) (i:=i) (by simp[hpre]) (by simp[hbit,upd_same]) (fun k e=>by simp only[upd_ne pre _ e]) (l:=List.range j) List.nodup_range (List.mem_range.2 hi)
 have hjn:j≤S.n:=by have:=hm.bound;omega
 have hroom:buf.size<S.n:=by
  have e1:=hperm.length_eq
  have e2:=du.length_eq
  have e3:=List.length_filter_le (fun k=>S.bit k && decide (upd pre i 1 k≤1)) (List.range j)
  simp only[List.length_map,Array.length_toList,List.length_cons,List.length_range] at e1 e2 e3
  omega
 have hcl:S.Ch<w.heap.size:=hc.lay.Nu _ (.inr rfl)
 obtain⟨s1,s2,s3⟩:=BF w S.Ch S.n (s+1) q (buf.push (int i64 i)) false false
 have hp:partners (gs.setIfInBounds (i+1) ph) S.Ch false=[]:=partners_nil fun k y hy=>by
  rcases getElem?_stand gs (i+1) k y hy with⟨_,rfl⟩|⟨_,hy⟩
  ·exact offersAt_ph _ _
  cases k with
  | zero=>
    rw[ha] at hy;cases hy
    rcases hm.status hS hc.v0 with⟨h,_⟩|⟨_,rfl⟩
    ·exact offersAt_of_not_blocked (by rw[h];simp) _ _
    ·simp[offersAt,hm.offers]
  | succ k=>
    have hk:k<j:=by have:=(Array.getElem?_eq_some_iff.1 hy).1;rw[hc.size] at this;omega
    obtain⟨y',hy',hsy⟩:=hc.wk k hk
    rw[hy] at hy';cases hy'
    rcases hsy.status (hc.v1 hk) with h|h <;> exact offersAt_of_not_blocked (by rw[h];simp) _ _
 have hgo:=crowd_send_room (P:=S.P) (sl:=sl) hg (by simpa using hcomm) hch hroom hp
 have hkp:∀k,Keeps (C k) (O k) w (w.setChan S.Ch S.n (buf.push (int i64 i)) false (s+1) q false):=fun k y hy=>s1 y (by
  rcases hy with h|h
  ·exact fun e=>hc.lay.nM k y h (.inr e)
  ·exact fun e=>hc.lay.cS k y h (.inr e))
 have hwg':WgAt S.ty S.Wg (w.setChan S.Ch S.n (buf.push (int i64 i)) false (s+1) q false) st sm:=by unfold WgAt at *;rw[s1 _ hS.wc];exact hwg
 have hl:WgLive S.ty S.Wg (w.setChan S.Ch S.n (buf.push (int i64 i)) false (s+1) q false):=⟨_,_,hwg'⟩
 have jf:uj S j (upd pre i 1) (w.setChan S.Ch S.n (buf.push (int i64 i)) false (s+1) q false):=by
  refine⟨_,_,_,s3 hcl,?_⟩
  have e1:=du.map fun(k:Nat)=>int i64 k
  rw[Array.toList_push]
  exact(List.perm_append_singleton _ _).trans ((hperm.cons _).trans (by simpa using e1.symm))
 have hv1:S.V1 i (bx i) (w.setChan S.Ch S.n (buf.push (int i64 i)) false (s+1) q false):=⟨⟨hl,fun y o hb=>by rw[hkp 0 y (.inr (by rw[hc.c0];simp[Site.Cb,hb]))];exact hc.v0.tab y o hb,jf.chan,hc.v0.env⟩,by rw[hkp (i+1) _ (.inr (by rw[hc.ci i hi];exact .inr rfl))];exact hc.box i hi⟩
 have hW:=hafter _ (by rw[← hc.ci i hi];exact hkp (i+1)) hv1
 obtain⟨y,hy⟩:=tX hW
 have hu0:MemOp.ofEvents (i+1) g.frame.fn g.frame.place #[]=#[]:=by simp[ofEvents_eq]
 rw[hu0,Array.empty_append] at hgo
 have hmu:∀op∈#[({g:=i+1,fn:=g2.frame.fn,pos:=g2.frame.place,act:=.send S.Ch s }:MemOp),{g:=i+1,fn:=g2.frame.fn,pos:=g2.frame.place,act:=.sendDone S.Ch s }],op.g=i+1∧op.act.touch?=none∧(∀m,op.act≠.mark m):=by
  intro op hop
  simp only[List.mem_toArray,List.mem_cons,List.not_mem_nil,or_false] at hop
  rcases hop with rfl|rfl <;> exact⟨rfl,rfl,fun m e=>by cases e⟩
 have hcom:=hc.stepW (gs':=gs.setIfInBounds (i+1) (g2.finishComm S.P #[scase S.Ch (int i64 i) z] .send 0 undef false)) (O1:=O (i+1)) (p':=1) (s':=7) (m':=0) (d':=0)
  (u:=#[({g:=i+1,fn:=g2.frame.fn,pos:=g2.frame.place,act:=.send S.Ch s }:MemOp),{g:=i+1,fn:=g2.frame.fn,pos:=g2.frame.place,act:=.sendDone S.Ch s }]) hS hi (by simp[hc.size])
  (Array.getElem?_setIfInBounds_self_of_lt (by rw[hc.size];omega)) (fun k hk e y hy _=>by rw[Array.getElem?_setIfInBounds_ne zo];exact hy) (by rw[kr];exact hc.lay.grow (Nat.le_of_eq s2.symm)) (fun k _=>hkp k)
  (fun y hy=>hkp (i+1) y (.inr hy)) hl ⟨rfl,rfl,rfl⟩ jf (.p1 hy hW) (by rw[kr];exact hc.ct.appW hc.lay.apart zo zo fun op hop=>⟨(hmu op hop).1,fun x hx=>by rw[(hmu op hop).2.1] at hx;cases hx⟩)
  (pO hc.RA (Nat.le_of_eq s2.symm) fun op hop x hx=>by rw[(hmu op hop).2.1] at hx;cases hx) (fun op hop=>(hmu op hop).1) (fun op hop=>(hmu op hop).2.2 _) (rY fun op hop=>(hmu op hop).2.1)
  (by rw[Deaf_still t _ _ fun op hop=>⟨(hmu op hop).2.2 _,(hmu op hop).2.2 _⟩,hc.deafW i hi,hde]) zo
 rw[kr] at hcom
 have e4:=sumTo_upd pre 1 id hi
 have ev:(sumTo j fun q=>cnt (upd D i ⟨7,0,0⟩ q))=sumTo j fun q=>cnt (D q):=by
  have:=sumTo_upd D (⟨7,0,0⟩:WD) cnt hi
  have c1:cnt (D i)=1:=by simp[cnt,hst]
  have c2:cnt (⟨7,0,0⟩:WD)=1:=by simp[cnt]
  omega
 have es:(sumTo j fun q=>(upd D i ⟨7,0,0⟩ q).stage)=sumTo j fun q=>(D q).stage:=by
  have:=sumTo_upd D (⟨7,0,0⟩:WD) WD.stage hi
  simp only[hst] at this
  omega
 refine⟨_,_,mu S j (upd D i ⟨7,0,0⟩) tag b (upd pre i 1) (upd rk (i+1) y) f0,hgo,ER ?_,_,_,sl,j,upd D i ⟨7,0,0⟩,tag,b,f0,d0,a,st,sm,O,C,bx,_,_,rfl,
  by rw[Array.getElem?_setIfInBounds_ne zo];exact ha,by rw[upd_ne rk _ zo];exact hm.keeps (by rw[← hc.c0];exact hkp 0) hl,hcom,hwg',by have:=hmode.same (i:=i) 0 0;rwa[hst] at this,rfl⟩
 show 2 * phi S.n (Vc j (upd D i ⟨7,0,0⟩)) tag+b+Ssum j (upd D i ⟨7,0,0⟩)+sumTo j (fun q=>upd pre i 1 q)<2 * phi S.n (Vc j D) tag+b+Ssum j D+sumTo j (fun q=>pre q)
 simp only[Vc,Ssum,id] at *
 rw[ev,es]
 omega
theorem nw(hS:S.Ok)(ha:gs[0]? =some a)(hm:ji S j (rk 0) tag b f0 d0 a w (O 0))(hc:Com S O C bx pre rk j gs w t D d0)(hwg:WgAt S.ty S.Wg w st sm)(hmode:ConcN.Mode j D tag st sm)
 {i:Nat}(hi:i<j){g:Goroutine}(hg:gs[i+1]? =some g)(hpre:pre i=2)(hx:(rk (i+1)).1=mK (S.C1 (bx i)) (S.V1 i (bx i)) false (S.K8 i (bx i)) g w (O (i+1)))(h:Wk S.P false (S.C1 (bx i)) (S.V1 i (bx i)) (S.K8 i (bx i)) g w (O (i+1)))
 (hst:(D i).stage=7)(hde:(D i).deaf=0):
 ∃m₁ ops μ',runT S.P (crowd gs w sl) (i+1)=(.next m₁,ops)∧AB S μ' (mu S j D tag b pre rk f0)∧Inv S μ' m₁ (t ++ ops):=by
 by_cases hK:S.K8 i (bx i) g w (O (i+1))
 ·rcases hK with⟨hb,hK⟩|⟨hb,hK⟩
  ·exact VG hS ha hm hc hwg hmode hi hg hpre hb hK hst hde
  ·refine I6 hS ha hm hc hwg hmode hi hg zo ?_ hK hst hde
   obtain⟨buf,s,q,h1,h2⟩:=hc.sent
   refine⟨buf,s,q,h1,?_⟩
   have:((List.range j).filter fun k=>S.bit k && decide (upd pre i 0 k≤1))=(List.range j).filter fun k=>S.bit k && decide (pre k≤1):=List.filter_congr fun k _=>by
    by_cases e:k=i
    ·subst e;simp[hb]
    ·rw[upd_ne pre _ e]
   rw[this];exact h2
 ·obtain⟨h0,g2,w3,O2,es,y,r1,r2,r3,r4,r5⟩:=FH h (hc.v1 hi) hK _ hx
  rw[← hc.ci i hi] at r2
  exact Vj hS ha hm hc hwg hmode hi hg r1 r2 hst hde (by rw[hpre];exact .p2 r4 r3) r5
theorem stepWorker(hS:S.Ok)(ha:gs[0]? =some a)(hm:ji S j (rk 0) tag b f0 d0 a w (O 0))(hc:Com S O C bx pre rk j gs w t D d0)(hwg:WgAt S.ty S.Wg w st sm)(hmode:ConcN.Mode j D tag st sm)
 {i:Nat}(hi:i<j){g:Goroutine}(hg:gs[i+1]? =some g)(hrun:g.status=.running):
 ∃m₁ ops μ',runT S.P (crowd gs w sl) (i+1)=(.next m₁,ops)∧AB S μ' (mu S j D tag b pre rk f0)∧Inv S μ' m₁ (t ++ ops):=by
 obtain⟨g₁,hg₁,hs⟩:=hc.wk i hi
 obtain rfl:g=g₁:=by rw[hg] at hg₁;exact Option.some.inj hg₁
 generalize hst:(D i).stage=s at hs
 generalize hfu:(D i).fuel=m at hs
 generalize hde:(D i).deaf=dd at hs
 generalize hpre:pre i=p at hs
 cases hs with
 | p2 hx h=>exact nw hS ha hm hc hwg hmode hi hg hpre hx h hst hde
 | p1 hx h=>exact ns hS ha hm hc hwg hmode hi hg hpre hx h hst hde
 | r0 h1 h2=>exact VF hS ha hm hc hwg hmode hi hg hpre h1 h2 hst hfu hde
 | late h6 h=>
   rcases h with h|h
   ·exact I8 S.pA (fun _ _ _ _ _ h=>.inl h) hS ha hm hc hwg hmode hi hg hrun hpre h h6 hst hfu hde
   ·exact I8 S.pB (fun _ _ _ _ _ h=>.inr h) hS ha hm hc hwg hmode hi hg hrun hpre h h6 hst hfu hde
end
section
variable{S:Site}{O C:Nat→Nat→Prop}{bx pre:Nat→Nat}{rk:Nat→Rank S.P}{j:Nat}{gs:Array Goroutine}{w w':World}{sl:Option (Nat × Nat)}{t:Trace}{D:Nat→WD}{tag:CTag}{b f0 d0:Nat}{a:Goroutine}{st sm:Int}
def Xf(S:Site)(m:Machine)(t:Trace):Prop:=
 ∃ (gs:Array Goroutine) (w:World) (sl:Option (Nat × Nat)) (D:Nat→WD) (a:Goroutine) (O C:Nat→Nat→Prop) (bx pre:Nat→Nat) (rk:Nat→Rank S.P),
   m=crowd gs w sl∧gs[0]? =some a∧S.Fin a∧Com S O C bx pre rk S.n gs w t D 0∧WgAt S.ty S.Wg w 0 0∧AllQuit S.n D∧AcqAll S.Wg S.n t∧O 0=mq
def iF(S:Site)(μ:vW S)(t:Trace)(r:Stepped × Array MemOp):Prop:=∃m₁ ops,r=(.next m₁,ops)∧(Xf S m₁ (t ++ ops)∨∃μ',AB S μ' μ∧Inv S μ' m₁ (t ++ ops))
theorem Gi(hS:S.Ok)(ha:gs[0]? =some a)(hc:Com S O C bx pre rk j gs w t D d0){a':Goroutine}{es:Array Event}{O1:Nat→Prop}{x':Rank S.P}{tag':CTag}{b' f':Nat}{st' sm':Int}
 (hgo:stepG S.P true a w=.go a' w' es)(jo:Lay (rP O 0 O1) C S.Sh w')(hk:∀k,k≠0→Keeps (C k) (O k) w w')(kz:∀q,C 0 q→w'.heap[q]? =w.heap[q]?)(H6:Cm w w')(jf:uj S j pre w')
 (hct:CT (In S.Sh) (iE O) (D9 C) (t ++ MemOp.ofEvents 0 a.frame.fn a.frame.place es) j)(Bt:Rt (t ++ MemOp.ofEvents 0 a.frame.fn a.frame.place es) w')(Ez:Oo S (MemOp.ofEvents 0 a.frame.fn a.frame.place es))(hnr:∀e∈es,e.loc≠.mark (.release (stA S.Wg)))
 (hm':ji S j x' tag' b' f' (deafBehind d0 es) a' w' O1)(hwg:WgAt S.ty S.Wg w' st' sm')(hmode:ConcN.Mode j D tag' st' sm')
 (hlt:2 * phi S.n (Vc j D) tag'+b'<2 * phi S.n (Vc j D) tag+b∨(2 * phi S.n (Vc j D) tag'+b'=2 * phi S.n (Vc j D) tag+b∧(kU S.P x' (rk 0)∨(x'=rk 0∧f'<f0)))):
 iF S (mu S j D tag b pre rk f0) t (runT S.P (crowd gs w sl) 0):=by
 have hrun:=runT_crowd_go (P:=S.P) (sl:=sl) (i:=0) ha (by simpa using hgo)
 have hcom:=hc.step0 (gs':=(gs.map (woken S.P a a' w')).setIfInBounds 0 a') (u:=MemOp.ofEvents 0 a.frame.fn a.frame.place es) (x':=x') hS (by simp[hc.size])
  (fun k hk' y hy hst=>by
   rw[get_map_set _ _ _ _ zo,hy,Option.map_some]
   congr 1
   unfold Go.Conc.woken
   split
   ·exact again_running _ hst
   ·rfl) jo hk kz ⟨_,_,hwg⟩ H6 jf hct Bt g_of_ofEvents (norel_of hnr) Ez (by rw[Deaf_own,hc.deaf0])
 refine⟨_,_,hrun,.inr ⟨mu S j D tag' b' pre (upd rk 0 x') f',?_,_,w',sl,j,D,tag',b',f',_,a',st',sm',_,C,bx,pre,_,rfl,get_map_set_same _ _ _ (by rw[hc.size];omega),by rw[upd_same,bJ];exact hm',hcom,hwg,hmode,rfl⟩⟩
 rcases hlt with h|⟨h1,h2⟩
 ·refine Prod.Lex.left _ _ ?_
  omega
 ·unfold mu
  rw[h1]
  refine Prod.Lex.right _ ?_
  rcases h2 with h2|⟨h2,h3⟩
  ·exact Prod.Lex.left _ _ ⟨0,zo,by rw[upd_same];exact h2,fun k hk'=>upd_ne rk _ hk'⟩
  ·rw[h2,uT]
   exact Prod.Lex.right _ zo
theorem II(hS:S.Ok)(ha:gs[0]? =some a)(hc:Com S O C bx pre rk j gs w t D d0)(hwg:WgAt S.ty S.Wg w st sm)(hmode:ConcN.Mode j D tag st sm)
 {a':Goroutine}{es:Array Event}{O1:Nat→Prop}{x':Rank S.P}(hgo:stepG S.P true a w=.go a' w' es)(d:Did (C 0) (O 0) O1 w w' es.toList)(hd:d0=0)
 (hm':ji S j x' tag b f0 0 a' w' O1)(hr:kU S.P x' (rk 0)):iF S (mu S j D tag b pre rk f0) t (runT S.P (crowd gs w sl) 0):=by
 subst hd
 have hev:∀e∈es,RH O1 (C 0) e:=fun e he=>d.evs e (by simpa using he)
 have jo:=hc.lay.did d
 have hbW:w'.heap[S.Wg]? =w.heap[S.Wg]?:=hc.lay.shared d (.inl rfl)
 have hdf:deafBehind 0 es=0:=deafBehind_idle (fun e he=>⟨(jK (hev e he)).1,(jK (hev e he)).2.1⟩) 0
 have o0:∀k,1≤k→rP O 0 O1 k=O k:=fun k hk=>dS O O1 zo
 refine Gi hS ha hc hgo jo (fun k hk=>hc.lay.keeps d hk) (fun q hq=>hc.lay.common d hq) ⟨d.os,d.output,d.tape⟩ (hc.sent.congr (hc.lay.shared d (.inr rfl)) fun _ _=>Iff.rfl) (hc.ct.app0 hc.lay.apart fun op hop=>?_) (Od hc.lay d hc.RA _ _) (ML hev _ _)
  (fun e he=>(jK (hev e he)).2.2 _) (by rw[hdf];exact hm') (by unfold WgAt at *;rw[hbW];exact hwg) hmode (.inr ⟨rfl,.inl hr⟩)
 obtain⟨e,he,rfl⟩:=mem_ofEvents hop
 refine LA (hc.lay.grow d.size) (hev e he) (fun q hq=>⟨fun k hk=>⟨fun h=>?_,fun h=>?_⟩,fun h=>?_⟩) (fun q hq=>⟨fun k hk h=>?_,fun h=>?_⟩) _ _
 ·have:=jo.own 0 k q (by rw[bJ];exact hq) (by rw[o0 k hk];exact h);omega
 ·exact jo.qh 0 k q (by rw[bJ];exact hq) h
 ·exact jo.nM 0 q (by rw[bJ];exact hq) h
 ·exact hc.lay.qh k 0 q h hq
 ·exact hc.lay.cS 0 q hq h
theorem iZ(hS:S.Ok)(ha:gs[0]? =some a)(hc:Com S O C bx pre rk j gs w t D d0)
 {a':Goroutine}{es:Array Event}{tag':CTag}{b' f':Nat}{st' sm':Int}(hgo:stepG S.P true a w=.go a' w' es)(hAs:Aside S.Wg w w')(hwg:WgAt S.ty S.Wg w' st' sm')
 (hev:∀e∈es,∀x,(MemAct.ofEvent e).touch?=some x→ShN S.Wg x.loc∧x.kind≠.plain)(hnr:∀e∈es,e.loc≠.mark (.release (stA S.Wg)))
 (hm':ji S j (rk 0) tag' b' f' (deafBehind d0 es) a' w' (O 0))(hmode:ConcN.Mode j D tag' st' sm')
 (hlt:2 * phi S.n (Vc j D) tag'+b'<2 * phi S.n (Vc j D) tag+b∨(2 * phi S.n (Vc j D) tag'+b'=2 * phi S.n (Vc j D) tag+b∧f'<f0)):
 iF S (mu S j D tag b pre rk f0) t (runT S.P (crowd gs w sl) 0):=by
 have hkp:∀k,Keeps (C k) (O k) w w':=fun k q hq=>hAs.block q (by
  rcases hq with h|h
  ·exact fun e=>hc.lay.nM k q h (.inl e)
  ·exact fun e=>hc.lay.cS k q h (.inl e))
 refine Gi (O1:=O 0) (x':=rk 0) hS ha hc hgo (by rw[kr];exact hc.lay.grow (Nat.le_of_eq hAs.size.symm)) (fun k _=>hkp k) (fun q hq=>hkp 0 q (.inr hq)) ⟨hAs.os,hAs.output,hAs.tape⟩ (hc.sent.congr (hAs.block _ (Ne.symm hS.wc)) fun _ _=>Iff.rfl)
  (hc.ct.app0 hc.lay.apart fun op hop=>?_) (pO hc.RA (Nat.le_of_eq hAs.size.symm) fun op hop x hx q hq=>?_) (Ta (fun e he x hx=>(hev e he x hx).1) _ _) hnr hm' hwg hmode ?_
 ·obtain⟨e,he,rfl⟩:=mem_ofEvents hop
  refine⟨rfl,fun x hx=>.inl ?_⟩
  obtain⟨⟨q,h1,h2⟩,h3⟩:=hev e he x hx
  exact⟨by rw[h1];exact .inl h2,h3⟩
 ·obtain⟨e,he,rfl⟩:=mem_ofEvents hop
  obtain⟨⟨ad,h1,h2⟩,_⟩:=hev e he x hx
  rw[h1] at hq
  simp only[In] at hq
  have:=hc.lay.Nu S.Wg (.inl rfl)
  have:=hAs.size
  omega
 ·rcases hlt with h|⟨h1,h2⟩
  ·exact .inl h
  ·exact .inr ⟨h1,.inr ⟨rfl,h2⟩⟩
theorem Es{es:Array Event}(h:∀e∈es,Bk S.Wg e):∀e∈es,∀x,(MemAct.ofEvent e).touch?=some x→ShN S.Wg x.loc∧x.kind≠.plain:=fun e he x hx=>⟨(xJ h e he x hx).1,(xJ h e he x hx).2.1⟩
theorem GK{m:Mark}(h:∀x,(MemAct.ofEvent ⟨.mark m,false,true⟩).touch?=some x→ShN S.Wg x.loc∧x.kind≠.plain):∀e∈#[(⟨.mark m,false,true⟩:Event)],∀x,(MemAct.ofEvent e).touch?=some x→ShN S.Wg x.loc∧x.kind≠.plain:=by
 intro e he;simp at he;subst he;exact h
theorem jj:∀x,(MemAct.ofEvent ⟨.mark (.read ⟨S.Wg,1,none⟩),false,true⟩).touch?=some x→ShN S.Wg x.loc∧x.kind≠.plain:=by
 intro x hx
 simp[MemAct.ofEvent,MemAct.touch?] at hx
 subst hx
 exact⟨⟨_,rfl,rfl⟩,zs⟩
theorem js:∀x,(MemAct.ofEvent ⟨.mark (.write ⟨S.Wg,1,none⟩),false,true⟩).touch?=some x→ShN S.Wg x.loc∧x.kind≠.plain:=by
 intro x hx
 simp[MemAct.ofEvent,MemAct.touch?] at hx
 subst hx
 exact⟨⟨_,rfl,rfl⟩,zs⟩
end
section
variable{S:Site}{O C:Nat→Nat→Prop}{bx pre:Nat→Nat}{rk:Nat→Rank S.P}{j:Nat}{gs:Array Goroutine}{w w':World}{sl:Option (Nat × Nat)}{t:Trace}{D:Nat→WD}{tag:CTag}{b f0 d0:Nat}{a:Goroutine}{st sm:Int}
theorem Com.spawn(hS:S.Ok)(h:Com S O C bx pre rk j gs w t D 0){a' child:Goroutine}{bq:Nat}{x y:MemOp}(hx:x.g=0∧x.act=.go (j+1))(hy:y.g=j+1∧y.act=.start)
 (hO:∀q,O 0 q↔q=bq)(kY:w.heap[bq]? =some (S.Tj j)){x1 x2:Rank S.P}(hx2:x2.1=mK (S.C1 bq) (S.V1 j bq) false (S.K8 j bq) child w mq)(hW:Wk S.P false (S.C1 bq) (S.V1 j bq) (S.K8 j bq) child w mq):
 Com S (rP O 0 mq) (rP C (j+1) (S.C1 bq)) (upd bx j bq) (upd pre j 2) (upd (upd rk (j+1) x2) 0 x1) (j+1) ((gs.setIfInBounds 0 a').push child) w (t ++ #[x,y]) (upd D j ⟨7,0,0⟩) 0:=by
 have hm:∀op∈#[x,y],op=x∨op=y:=by intro op hop;simpa using hop
 have hst:∀op∈#[x,y],op.act.touch?=none∧∀m,op.act≠.mark m:=by
  intro op hop
  rcases hm op hop with rfl|rfl
  ·rw[hx.2];exact⟨rfl,fun m e=>by cases e⟩
  ·rw[hy.2];exact⟨rfl,fun m e=>by cases e⟩
 have hb0:O 0 bq:=(hO bq).2 rfl
 have oO:∀k q,rP O 0 mq k q→k≠0∧O k q:=fun k q hq=>by
  by_cases e:k=0
  ·subst e;rw[bJ] at hq;exact hq.elim
  ·rw[dS O _ e] at hq;exact⟨e,hq⟩
 have cC:∀k q,rP C (j+1) (S.C1 bq) k q→C k q∨C 0 q∨q=bq:=fun k q hq=>by
  by_cases e:k=j+1
  ·subst e;rw[bJ] at hq
   rcases hq with hq|hq
   ·exact .inr (.inl (by rw[h.c0];exact hq))
   ·exact .inr (.inr hq)
  ·rw[dS C _ e] at hq;exact .inl hq
 have jo:Lay (rP O 0 mq) (rP C (j+1) (S.C1 bq)) S.Sh w:=by
  refine⟨fun k k' q h1 h2=>h.lay.own k k' q (oO k q h1).2 (oO k' q h2).2,fun k k' q h1 h2=>?_,fun k q h1=>h.lay.nM k q (oO k q h1).2,fun k q h1=>?_,fun k q h1=>h.lay.Nt k q (oO k q h1).2,fun k q h1=>?_,h.lay.Nu⟩
  ·obtain⟨e,h1⟩:=oO k q h1
   rcases cC k' q h2 with h2|h2|rfl
   ·exact h.lay.qh k k' q h1 h2
   ·exact h.lay.qh k 0 q h1 h2
   ·exact e (h.lay.own k 0 q h1 hb0)
  ·rcases cC k q h1 with h1|h1|rfl
   ·exact h.lay.cS k q h1
   ·exact h.lay.cS 0 q h1
   ·exact h.lay.nM 0 q hb0
  ·rcases cC k q h1 with h1|h1|rfl
   ·exact h.lay.Py k q h1
   ·exact h.lay.Py 0 q h1
   ·exact h.lay.Nt 0 q hb0
 have hsz:((gs.setIfInBounds 0 a').push child).size=j+1+1:=by simp[h.size]
 refine⟨hsz,jo,by rw[dS C _ zo];exact h.c0,fun i hi=>?_,fun k q hk=>⟨fun hq=>(h.z k q zo).1 (oO k q hq).2,by rw[dS C _ zo];exact(h.z k q zo).2⟩,h.v0,fun i hi=>?_,fun i hi=>?_,
  CT.fork jo.apart (CT.congr h.ct (fun k k1 k2=>by unfold iE;rw[dS O _ zo]) (fun k k1 k2=>by unfold D9;rw[dS C _ zo])) hx hy h.deaf0,
  pO h.RA zL (fun op hop z hz=>by rw[(hst op hop).1] at hz;cases hz),h.norel.app fun op hop=>(hst op hop).2 _,by rw[Deaf_still t 0 _ fun op hop=>⟨(hst op hop).2 _,(hst op hop).2 _⟩,h.deaf0],fun i hi=>?_,fun i hi hs=>?_,?_,h.FA.app (rY fun op hop=>(hst op hop).1)⟩
 ·by_cases e:i=j
  ·subst e;rw[bJ,upd_same]
  ·rw[dS C _ zo,upd_ne bx _ e];exact h.ci i zo
 ·by_cases e:i=j
  ·subst e;rw[upd_same];exact kY
  ·rw[upd_ne bx _ e];exact h.box i zo
 ·by_cases e:i=j
  ·subst e
   refine⟨child,?_,?_⟩
   ·rw[show i+1=(gs.setIfInBounds 0 a').size by simp[h.size],Array.getElem?_push_size]
   ·have e1:rP O 0 mq (i+1)=mq:=by
     rw[dS O _ zo]
     funext q
     exact propext ⟨fun hq=>((h.z (i+1) q zo).1 hq).elim,fun hq=>hq.elim⟩
    rw[upd_ne (upd rk (i+1) x2) x1 (show i+1≠0 by omega),e1]
    simp only[upd_same]
    exact .p2 hx2 hW
  ·obtain⟨g,hg,hs⟩:=h.wk i zo
   refine⟨g,?_,?_⟩
   ·rw[Array.getElem?_push_lt (by simp[h.size];omega),← Array.getElem?_eq_getElem,Array.getElem?_setIfInBounds_ne zo]
    exact hg
   ·rw[upd_ne (upd rk (j+1) x2) x1 (show i+1≠0 by omega),upd_ne rk x2 (show i+1≠j+1 by omega),upd_ne bx _ e,upd_ne pre _ e,upd_ne D _ e,dS O _ zo]
    exact hs
 ·rw[Deaf_still t _ _ fun op hop=>⟨(hst op hop).2 _,(hst op hop).2 _⟩]
  by_cases e:i=j
  ·subst e;rw[upd_same]
   exact Deaf_absent fun q op hq e=>by have:=h.ct.gs q op hq;omega
  ·rw[upd_ne D _ e];exact h.deafW i zo
 ·by_cases e:i=j
  ·subst e;rw[upd_same] at hs;simp at hs
  ·rw[upd_ne D _ e] at hs
   obtain⟨r,hr⟩:=h.rel i zo hs
   refine⟨r,hr.appNot fun op hop=>?_⟩
   rcases hm op hop with rfl|rfl
   ·rw[hx.1];omega
   ·rw[hy.1];omega
 ·obtain⟨buf,s,q,h1,h2⟩:=h.sent
  refine⟨buf,s,q,h1,?_⟩
  have e1:((List.range (j+1)).filter fun i=>S.bit i && decide (upd pre j 2 i≤1))=(List.range j).filter fun i=>S.bit i && decide (pre i≤1):=by
   rw[List.range_succ,List.filter_append,List.filter_cons_of_neg (by simp[upd_same]),List.filter_nil,List.append_nil]
   exact List.filter_congr fun k hk=>by rw[upd_ne pre _ (by have:=List.mem_range.1 hk;omega)]
  rw[e1];exact h2
theorem nd(hS:S.Ok)(ha:gs[0]? =some a)(hc:Com S O C bx pre rk j gs w t D 0)(hwg:WgAt S.ty S.Wg w st sm){r:Nat}(hmode:ConcN.Mode j D (.sp r 0) st sm)(hj:j+(r+1)=S.n)
 (h:S.JJ j (S.Sp r) a w (O 0)):iF S (mu S j D (.sp r 0) 0 pre rk f0) t (runT S.P (crowd gs w sl) 0):=by
 obtain⟨hrun,a',child,bq,hgo,hcr,hO,kY,hW,hnext⟩:=h
 have hrunT:=runT_crowd_spawn (P:=S.P) (sl:=sl) (i:=0) ha (by simpa using hgo)
 have hu0:MemOp.ofEvents 0 a.frame.fn a.frame.place #[]=#[]:=by simp[ofEvents_eq]
 rw[hu0] at hrunT
 obtain⟨x2,hx2⟩:=tX hW
 cases hmode with
 | opn h1 h2 h3=>
   have eV:Vc (j+1) (upd D j ⟨7,0,0⟩)=Vc j D+1:=by
    simp only[Vc,sumTo,upd_same]
    rw[sumTo_congr (g:=fun i=>cnt (D i)) fun i hi=>by rw[upd_ne D _ zo]]
    simp[cnt]
   have eS:Ssum (j+1) (upd D j ⟨7,0,0⟩)=Ssum j D+7:=by
    simp only[Ssum,sumTo,upd_same]
    rw[sumTo_congr (g:=fun i=>(D i).stage) fun i hi=>by rw[upd_ne D _ zo]]
   have eP:sumTo (j+1) (upd pre j 2)=sumTo j pre+2:=by
    simp only[sumTo,upd_same]
    rw[sumTo_congr (g:=pre) fun i hi=>by rw[upd_ne pre _ zo]]
   have ho:OpenSt (j+1) (upd D j ⟨7,0,0⟩):=fun i hi=>by
    by_cases e:i=j
    ·subst e;rw[upd_same];simp
    ·rw[upd_ne D _ e];exact h2 i zo
   have fin:∀ {tag':CTag} {f':Nat} {x1:Rank S.P},ji S (j+1) x1 tag' 0 f' 0 a' w mq→isOpen tag'→pend tag'=0→(∀vs,tag'≠.w2 vs)→(∀v v',2 * phi S.n v tag'+9<2 * phi S.n v' (.sp r 0))→
    iF S (mu S j D (.sp r 0) 0 pre rk f0) t (runT S.P (crowd gs w sl) 0):=by
    intro tag' f' x1 hm' o1 o2 o3 o4
    refine⟨_,_,hrunT,.inr ⟨mu S (j+1) (upd D j ⟨7,0,0⟩) tag' 0 (upd pre j 2) (upd (upd rk (j+1) x2) 0 x1) f',ER ?_,(gs.setIfInBounds 0 a').push child,w,sl,j+1,upd D j ⟨7,0,0⟩,tag',0,f',0,a',_,_,rP O 0 mq,rP C (j+1) (S.C1 bq),upd bx j bq,_,_,rfl,?_,?_,
     ?_,hwg,?_,rfl⟩⟩
    ·show 2 * phi S.n (Vc (j+1) (upd D j ⟨7,0,0⟩)) tag'+0+Ssum (j+1) (upd D j ⟨7,0,0⟩)+sumTo (j+1) (upd pre j 2)<2 * phi S.n (Vc j D) (.sp r 0)+0+Ssum j D+sumTo j pre
     have:=o4 (Vc (j+1) (upd D j ⟨7,0,0⟩)) (Vc j D)
     rw[eS,eP]
     omega
    ·rw[Array.getElem?_push_lt (by simp[hc.size]),← Array.getElem?_eq_getElem]
     exact Array.getElem?_setIfInBounds_self_of_lt (by rw[hc.size];omega)
    ·rw[upd_same,bJ];exact hm'
    ·exact hc.spawn hS (x:={g:=0,fn:=a.frame.fn,pos:=a.frame.place,act:=.go gs.size }) (y:={g:=gs.size,fn:=child.frame.fn,pos:=a.frame.place,act:=.start }) ⟨rfl,by rw[hc.size]⟩ ⟨hc.size,rfl⟩ hO kY hx2 hW
    ·have:=ConcN.Mode.opn (j:=j+1) (D:=upd D j ⟨7,0,0⟩) (tag:=tag') o1 ho (fun vs e=>absurd e (o3 vs))
     rw[eV,o2] at this
     exact this
   cases r with
   | zero=>
     obtain⟨m,hk⟩:=hnext
     exact fin (x1:=rk 0) (.kd zo hk) trivial rfl zs fun v v'=>by simp only[phi];omega
   | succ r=>
     have hk:Wk S.P true S.Cb S.V0 (S.AQ (S.n - (r+1)) (S.Sp r)) a' w mq:=hnext
     rw[show S.n - (r+1)=j+1 by omega] at hk
     obtain⟨x1,hx1⟩:=tX hk
     exact fin (.skd zo hx1 hk) trivial rfl zs fun v v'=>by simp only[phi];omega
 | reg h1 _ _=>exact h1.elim
 | last L h1 _ _ _=>exact h1.elim
 | fin h1 _=>exact h1.elim
end
end
section
open Go.Conc Go.ConcN Go.bZ Go.Conc.Lib
open Go.ConcR (KK WgAt stA smA rd wr g_of_ofEvents Payload DC0 again_blocked Bk ofEvent_loc_mark ofEvent_cell bk_of_mute ofEvent_mk)
variable[Inhabited aT]
section
variable{S:Site}{O C:Nat→Nat→Prop}{bx pre:Nat→Nat}{rk:Nat→Rank S.P}{j:Nat}{gs:Array Goroutine}{w w':World}{sl:Option (Nat × Nat)}{t:Trace}{D:Nat→WD}{tag:CTag}{b f0 d0:Nat}{a:Goroutine}{st sm:Int}
theorem iF.mono{μ μ':vW S}{r:Stepped × Array MemOp}(h:iF S μ' t r)(hl:μ'.1<μ.1):iF S μ t r:=by
 obtain⟨m₁,ops,h1,h2⟩:=h
 exact⟨m₁,ops,h1,h2.imp id fun⟨μ2,h3,h4⟩=>⟨μ2,C8 h3 hl,h4⟩⟩
theorem Com.rk0(h:Com S O C bx pre rk j gs w t D d0)(x1:Rank S.P):Com S O C bx pre (upd rk 0 x1) j gs w t D d0:=
 {h with wk:=fun i hi=>by rw[upd_ne rk _ zo];exact h.wk i hi }
theorem eB(hS:S.Ok)(ha:gs[0]? =some a)(hc:Com S O C bx pre rk j gs w t D d0)(hwg:WgAt S.ty S.Wg w st sm)(hmode:ConcN.Mode j D tag st sm){a':Goroutine}{f':Nat}(hgo:stepG S.P true a w=.go a' w #[])
 (hm':ji S j (rk 0) tag b f' d0 a' w (O 0))(hlt:f'<f0):iF S (mu S j D tag b pre rk f0) t (runT S.P (crowd gs w sl) 0):=
 iZ hS ha hc hgo (.refl S.Wg w) hwg zs zs hm' hmode (.inr ⟨rfl,hlt⟩)
theorem gZ(hS:S.Ok)(ha:gs[0]? =some a)(hc:Com S O C bx pre rk j gs w t D d0)(hwg:WgAt S.ty S.Wg w st sm){tag':CTag}{b':Nat}(hmode:ConcN.Mode j D tag' st sm){a':Goroutine}{f':Nat}{es:Array Event}(hgo:stepG S.P true a w=.go a' w es)
 (hbk:∀e∈es,Bk S.Wg e)(hm':ji S j (rk 0) tag' b' f' (deafBehind d0 es) a' w (O 0))(hlt:2 * phi S.n (Vc j D) tag'+b'<2 * phi S.n (Vc j D) tag+b):iF S (mu S j D tag b pre rk f0) t (runT S.P (crowd gs w sl) 0):=
 iZ hS ha hc hgo (.refl S.Wg w) hwg (Es hbk) (norel_of_Bk hbk) hm' hmode (.inl hlt)
theorem Mode.opened(h:ConcN.Mode j D tag st sm)(ho:isOpen tag):OpenSt j D∧(∀vs,tag=.w2 vs→Vc j D≤vs∧1≤vs)∧st=((Vc j D+pend tag:Nat):Int) * KK∧sm=0:=by
 cases h with
 | opn h1 h2 h3=>exact⟨h2,h3,rfl,rfl⟩
 | reg h1 _ _=>cases tag <;> first|exact h1.elim|exact ho.elim
 | last L h1 _ _ _=>cases tag <;> first|exact h1.elim|exact ho.elim
 | sema _=>exact ho.elim
 | fin h1 _=>cases tag <;> first|exact h1.elim|exact ho.elim
theorem Mode.ended(h:ConcN.Mode j D tag st sm)(ho:isFin tag):AllQuit j D∧st=0∧sm=0:=by
 cases h with
 | opn h1 _ _=>cases tag <;> first|exact h1.elim|exact ho.elim
 | reg h1 _ _=>cases tag <;> first|exact h1.elim|exact ho.elim
 | last L h1 _ _ _=>cases tag <;> first|exact h1.elim|exact ho.elim
 | sema _=>exact ho.elim
 | fin h1 h2=>exact⟨h2,rfl,rfl⟩
theorem Mode.moved{tag':CTag}(h:ConcN.Mode j D tag st sm)(ho:isOpen tag)(ho':isOpen tag')(hp:pend tag'=pend tag)(hv:∀vs,tag'=.w2 vs→Vc j D≤vs∧1≤vs):ConcN.Mode j D tag' st sm:=by
 obtain⟨h1,_,rfl,rfl⟩:=Mode.opened h ho
 rw[← hp]
 exact .opn ho' h1 hv
theorem NU(hS:S.Ok)(ha:gs[0]? =some a)(hc:Com S O C bx pre rk j gs w t D 0)(hwg:WgAt S.ty S.Wg w st sm){r:Nat}(hmode:ConcN.Mode j D (.sp r 0) st sm)(hj:j+(r+1)=S.n)
 (hx:(rk 0).1=mK S.Cb S.V0 true (S.JJ j (S.Sp r)) a w (O 0))(h:Wk S.P true S.Cb S.V0 (S.JJ j (S.Sp r)) a w (O 0)):iF S (mu S j D (.sp r 0) 0 pre rk 0) t (runT S.P (crowd gs w sl) 0):=by
 by_cases hK:S.JJ j (S.Sp r) a w (O 0)
 ·exact nd hS ha hc hwg hmode hj hK
 ·obtain⟨h0,g2,w3,O2,es,y,r1,r2,r3,r4,r5⟩:=FH h hc.v0 hK _ hx
  rw[← hc.c0] at r2
  exact II hS ha hc hwg hmode r1 r2 rfl (.sgo hj r4 r3) r5
theorem ZC(hS:S.Ok)(ha:gs[0]? =some a)(hc:Com S O C bx pre rk j gs w t D 0)(hwg:WgAt S.ty S.Wg w st sm){r:Nat}(hmode:ConcN.Mode j D (.sp r 5) st sm)(hj:j+(r+1)=S.n)
 (hx:(rk 0).1=mK S.Cb S.V0 true (S.AQ j (S.Sp r)) a w (O 0))(h:Wk S.P true S.Cb S.V0 (S.AQ j (S.Sp r)) a w (O 0)):iF S (mu S j D (.sp r 5) 0 pre rk 0) t (runT S.P (crowd gs w sl) 0):=by
 by_cases hK:S.AQ j (S.Sp r) a w (O 0)
 ·obtain⟨R,⟨hr,g',hgo,m,hk⟩,hcont⟩:=hK
  exact gZ hS ha hc hwg (tag':=.sp r 4) (b':=0) (f':=m) (Mode.moved hmode trivial trivial rfl zs) hgo qP (.sa1 hj hk hcont) (by simp only[phi];omega)
 ·obtain⟨h0,g2,w3,O2,es,y,r1,r2,r3,r4,r5⟩:=FH h hc.v0 hK _ hx
  rw[← hc.c0] at r2
  exact II hS ha hc hwg hmode r1 r2 rfl (.skd hj r4 r3) r5
theorem Zz(hS:S.Ok)(ha:gs[0]? =some a)(hc:Com S O C bx pre rk j gs w t D 1)(hwg:WgAt S.ty S.Wg w st sm){r:Nat}(hmode:ConcN.Mode j D (.sp r 4) st sm)(hj:j+(r+1)=S.n)
 {R:Goroutine}{m:Nat}(h:S.GL (S.rB R) m a w)(hcont:S.Cont j (S.Sp r) R w (O 0)):iF S (mu S j D (.sp r 4) 0 pre rk m) t (runT S.P (crowd gs w sl) 0):=by
 rcases Goes.cases h with hs|⟨m',rfl,hs⟩
 ·obtain⟨hr,hall⟩:=hs w fun x=>x
  obtain⟨h1,_,rfl,rfl⟩:=Mode.opened hmode trivial
  have hV:=Vc_le j D
  have hn:=hS.n31
  obtain⟨g',hgo,m₂,hk⟩:=hall (Vc j D) zo (by simpa [pend] using hwg)
  have hwg':WgAt S.ty S.Wg (w.setCell (stA S.Wg) (.int .u64 (((Vc j D:Nat)+1:Int) * KK))) (((Vc j D:Nat)+1:Int) * KK) 0:=hwg.setSt _
  have hAs:=aside_setCell w (stA S.Wg) (.int .u64 (((Vc j D:Nat)+1:Int) * KK))
  refine iZ hS ha hc hgo hAs hwg' (Es bk_rw) (norel_of_Bk bk_rw) (tag':=.sp r 3) (b':=0) (f':=m₂) (.rp hj hk (iI hcont fun q hq=>hAs.block q ?_)) ?_ (.inl (by simp only[phi];omega))
  ·rcases hq with hq|hq
   ·exact fun e=>hc.lay.nM 0 q hq (.inl e)
   ·exact fun e=>hc.lay.cS 0 q (by rw[hc.c0];exact hq) (.inl e)
  ·have:=ConcN.Mode.opn (tag:=.sp r 3) (j:=j) (D:=D) trivial h1 zs
   simpa [pend] using this
 ·obtain⟨g',w',es,hgo,⟨rfl,rfl⟩,hk⟩:=hs w fun x=>x
  exact eB hS ha hc hwg hmode hgo (.sa1 hj hk hcont) zo
theorem ZG(hS:S.Ok)(ha:gs[0]? =some a)(hc:Com S O C bx pre rk j gs w t D 1)(hwg:WgAt S.ty S.Wg w st sm){r:Nat}(hmode:ConcN.Mode j D (.sp r 3) st sm)(hj:j+(r+1)=S.n)
 {R:Goroutine}{m:Nat}(h:S.GL (S.rL R) m a w)(hcont:S.Cont j (S.Sp r) R w (O 0)):iF S (mu S j D (.sp r 3) 0 pre rk m) t (runT S.P (crowd gs w sl) 0):=by
 rcases Goes.cases h with hs|⟨m',rfl,hs⟩
 ·rcases hs w fun x=>x with⟨hr,g',hgo,m₂,hk⟩|⟨hr,g',hgo,m₂,hk⟩
  ·exact iZ hS ha hc hgo (.refl S.Wg w) hwg (GK jj) (by intro e he;simp at he;subst he;simp[AM]) (tag':=.sp r 2) (b':=0) (f':=m₂) (.ske hj hk hcont) (Mode.moved hmode trivial trivial rfl zs) (.inl (by simp only[phi];omega))
  ·exact gZ hS ha hc hwg (tag':=.sp r 1) (b':=0) (f':=m₂) (Mode.moved hmode trivial trivial rfl zs) hgo uw (.nb hj hk hcont) (by simp only[phi];omega)
 ·obtain⟨g',w',es,hgo,⟨rfl,rfl⟩,hk⟩:=hs w fun x=>x
  exact eB hS ha hc hwg hmode hgo (.rp hj hk hcont) zo
theorem ZE(hS:S.Ok)(ha:gs[0]? =some a)(hc:Com S O C bx pre rk j gs w t D 1)(hwg:WgAt S.ty S.Wg w st sm){r:Nat}(hmode:ConcN.Mode j D (.sp r 2) st sm)(hj:j+(r+1)=S.n)
 {R:Goroutine}{m:Nat}(h:S.GL (S.pD R) m a w)(hcont:S.Cont j (S.Sp r) R w (O 0)):iF S (mu S j D (.sp r 2) 0 pre rk m) t (runT S.P (crowd gs w sl) 0):=by
 rcases Goes.cases h with hs|⟨m',rfl,hs⟩
 ·obtain⟨hr,g',hgo,m₂,hk⟩:=hs w fun x=>x
  exact gZ hS ha hc hwg (tag':=.sp r 1) (b':=0) (f':=m₂) (Mode.moved hmode trivial trivial rfl zs) hgo uw (.nb hj hk hcont) (by simp only[phi];omega)
 ·obtain⟨g',w',es,hgo,⟨rfl,rfl⟩,hk⟩:=hs w fun x=>x
  exact eB hS ha hc hwg hmode hgo (.ske hj hk hcont) zo
theorem ZF(hS:S.Ok)(ha:gs[0]? =some a)(hc:Com S O C bx pre rk j gs w t D 0)(hwg:WgAt S.ty S.Wg w st sm){r:Nat}(hmode:ConcN.Mode j D (.sp r 1) st sm)(hj:j+(r+1)=S.n)
 {R:Goroutine}{m:Nat}(h:S.GL (fun g _=>g=R) m a w)(hcont:S.Cont j (S.Sp r) R w (O 0)):iF S (mu S j D (.sp r 1) 0 pre rk m) t (runT S.P (crowd gs w sl) 0):=by
 rcases Goes.cases h with hs|⟨m',rfl,hs⟩
 ·have e:a=R:=hs w fun x=>x
  subst e
  have hW:=hcont w (Keeps.refl _ _ _) hc.v0
  obtain⟨x1,hx1⟩:=tX hW
  have:=NU (sl:=sl) hS ha (hc.rk0 x1) hwg (Mode.moved hmode (tag':=.sp r 0) trivial trivial rfl zs) hj (by rw[upd_same];exact hx1) hW
  refine this.mono ?_
  show 2 * phi S.n (Vc j D) (.sp r 0)+0+Ssum j D+sumTo j pre<2 * phi S.n (Vc j D) (.sp r 1)+0+Ssum j D+sumTo j pre
  simp only[phi];omega
 ·obtain⟨g',w',es,hgo,⟨rfl,rfl⟩,hk⟩:=hs w fun x=>x
  exact eB hS ha hc hwg hmode hgo (.nb hj hk hcont) zo
end
section
variable{S:Site}{O C:Nat→Nat→Prop}{bx pre:Nat→Nat}{rk:Nat→Rank S.P}{j:Nat}{gs:Array Goroutine}{w w':World}{sl:Option (Nat × Nat)}{t:Trace}{D:Nat→WD}{tag:CTag}{b f0 d0:Nat}{a:Goroutine}{st sm:Int}
theorem eT(hO:O 0=mq){x:Rank S.P}{w:World}(h:ji S j x tag b f0 d0 a w mq):ji S j x tag b f0 d0 a w (O 0):=hO ▸ h
theorem nh(hS:S.Ok)(ha:gs[0]? =some a)(hc:Com S O C bx pre rk j gs w t D 0)(hwg:WgAt S.ty S.Wg w st sm)(hmode:ConcN.Mode j D .kd st sm)(hj:j=S.n)(hO:O 0=mq)
 {m:Nat}(h:S.GL S.gO m a w):iF S (mu S j D .kd 0 pre rk m) t (runT S.P (crowd gs w sl) 0):=by
 have hV:=Vc_le j D
 rcases Goes.cases h with hs|⟨m',rfl,hs⟩
 ·obtain⟨hr,g',hgo,m₂,hk⟩:=hs w fun x=>x
  exact gZ hS ha hc hwg (tag':=.anch) (b':=0) (f':=m₂) (Mode.moved hmode trivial trivial rfl zs) hgo qP (eT hO (.anch hj hk)) (by simp only[phi];omega)
 ·obtain⟨g',w',es,hgo,⟨rfl,rfl⟩,hk⟩:=hs w fun x=>x
  exact eB hS ha hc hwg hmode hgo (eT hO (.kd hj hk)) zo
theorem vX(h1:OpenSt j D)(h0:Vc j D=0):AllQuit j D:=fun i hi=>by
 have h2:=le_sumTo (f:=fun x=>cnt (D x)) hi
 have h3:=h1 i hi
 simp only[Vc] at h0
 have:cnt (D i)=0:=zo
 simp only[cnt] at this
 split at this <;> omega
theorem VH(hS:S.Ok)(ha:gs[0]? =some a)(hc:Com S O C bx pre rk j gs w t D 1)(hwg:WgAt S.ty S.Wg w st sm)(hmode:ConcN.Mode j D .w1 st sm)(hj:j=S.n)(hO:O 0=mq)
 {m:Nat}(h:S.GL S.W1 m a w):iF S (mu S j D .w1 0 pre rk m) t (runT S.P (crowd gs w sl) 0):=by
 have hV:=Vc_le j D
 have hn:=hS.n31
 rcases Goes.cases h with hs|⟨m',rfl,hs⟩
 ·obtain⟨hr,hall⟩:=hs w fun x=>x
  obtain⟨h1,_,rfl,rfl⟩:=Mode.opened hmode trivial
  obtain⟨g',hgo,hz,hp⟩:=hall (Vc j D) zo (by simpa [pend] using hwg)
  by_cases h0:Vc j D=0
  ·obtain⟨m₂,hk⟩:=hz h0
   refine gZ hS ha hc hwg (tag':=.ke) (b':=0) (f':=m₂) ?_ hgo bk_rd (eT hO (.ke hj hk)) (by simp only[phi];omega)
   have:=ConcN.Mode.fin (j:=j) (D:=D) (tag:=.ke) trivial (vX h1 h0)
   rw[h0];simpa [pend] using this
  ·obtain⟨m₂,hk⟩:=hp h0
   exact gZ hS ha hc hwg (tag':=.w2 (Vc j D)) (b':=0) (f':=m₂) (Mode.moved hmode trivial trivial rfl fun vs e=>by cases e;exact⟨zL,zo⟩) hgo bk_rd (eT hO (.w2 hj hk)) (by simp only[phi];omega)
 ·obtain⟨g',w',es,hgo,⟨rfl,rfl⟩,hk⟩:=hs w fun x=>x
  exact eB hS ha hc hwg hmode hgo (eT hO (.w1 hj hk)) zo
theorem VE(hS:S.Ok)(ha:gs[0]? =some a)(hc:Com S O C bx pre rk j gs w t D 1)(hwg:WgAt S.ty S.Wg w st sm)(hmode:ConcN.Mode j D .anch st sm)(hj:j=S.n)(hO:O 0=mq)
 {m:Nat}(h:S.GL S.Anch m a w):iF S (mu S j D .anch 0 pre rk m) t (runT S.P (crowd gs w sl) 0):=by
 rcases Goes.cases h with hs|⟨m',rfl,hs⟩
 ·obtain⟨m₂,hk⟩:=hS.anch _ _ (hs w fun x=>x)
  refine(VH (sl:=sl) hS ha hc hwg (Mode.moved hmode (tag':=.w1) trivial trivial rfl zs) hj hO hk).mono ?_
  show 2 * phi S.n (Vc j D) .w1+0+Ssum j D+sumTo j pre<2 * phi S.n (Vc j D) .anch+0+Ssum j D+sumTo j pre
  simp only[phi];omega
 ·obtain⟨g',w',es,hgo,⟨rfl,rfl⟩,hk⟩:=hs w fun x=>x
  exact eB hS ha hc hwg hmode hgo (eT hO (.anch hj hk)) zo
theorem nz(hS:S.Ok)(ha:gs[0]? =some a)(hc:Com S O C bx pre rk j gs w t D 1)(hwg:WgAt S.ty S.Wg w st sm){vs:Nat}(hmode:ConcN.Mode j D (.w2 vs) st sm)(hj:j=S.n)(hO:O 0=mq)
 {m:Nat}(h:S.GL (S.W2 vs) m a w):iF S (mu S j D (.w2 vs) 0 pre rk m) t (runT S.P (crowd gs w sl) 0):=by
 have hV:=Vc_le j D
 have hn:=hS.n31
 rcases Goes.cases h with hs|⟨m',rfl,hs⟩
 ·obtain⟨hr,hall⟩:=hs w fun x=>x
  obtain⟨h1,h2,rfl,rfl⟩:=Mode.opened hmode trivial
  obtain⟨h3,h4⟩:=h2 vs rfl
  have yz:WgAt S.ty S.Wg w ((Vc j D:Nat) * KK) 0:=by simpa [pend] using hwg
  obtain⟨hit,miss⟩:=hall (Vc j D) zo yz
  by_cases e:Vc j D=vs
  ·obtain⟨g',hgo,m₂,hk⟩:=hit e
   exact iZ hS ha hc hgo (aside_setCell w (stA S.Wg) _) (yz.setSt _) (Es bk_rw) (norel_of_Bk bk_rw) (tag':=.w3) (b':=1) (f':=m₂) (eT hO (.wr hj hk)) (.reg trivial h1 zo) (.inl (by simp only[phi];omega))
  ·obtain⟨g',hgo,m₂,hk⟩:=miss e
   exact gZ hS ha hc hwg (tag':=.anch) (b':=0) (f':=m₂) (Mode.moved hmode trivial trivial rfl zs) hgo bk_rd (eT hO (.anch hj hk)) (by simp only[phi];omega)
 ·obtain⟨g',w',es,hgo,⟨rfl,rfl⟩,hk⟩:=hs w fun x=>x
  exact eB hS ha hc hwg hmode hgo (eT hO (.w2 hj hk)) zo
theorem nB(hS:S.Ok)(ha:gs[0]? =some a)(hc:Com S O C bx pre rk j gs w t D 1)(hwg:WgAt S.ty S.Wg w st sm)(hmode:ConcN.Mode j D .w3 st sm)(hj:j=S.n)(hO:O 0=mq)
 {m:Nat}(h:S.GL S.W3 m a w):iF S (mu S j D .w3 0 pre rk (m+1)) t (runT S.P (crowd gs w sl) 0):=by
 rcases Goes.cases h with hs|⟨m',rfl,hs⟩
 ·obtain⟨hr,hof,yy,htake⟩:=hs w fun x=>x
  have blocked:(∃z,WgAt S.ty S.Wg w z 0)→ConcN.Mode j D .blk st sm→iF S (mu S j D .w3 0 pre rk (m+1)) t (runT S.P (crowd gs w sl) 0):=fun hz hb=>
   iZ hS ha hc (yy hz) (.refl S.Wg w) hwg zs zs (tag':=.blk) (b':=0) (f':=0) (eT hO (.blk hj hs)) hb (.inr ⟨rfl,zo⟩)
  cases hmode with
  | opn h1 _ _=>exact h1.elim
  | reg h1 h2 h3=>exact blocked ⟨_,hwg⟩ (.reg trivial h2 h3)
  | last L h1 h2 h3 h4=>exact blocked ⟨_,hwg⟩ (.last L trivial h2 h3 h4)
  | sema h2=>
    obtain⟨g',hgo,m₂,hk⟩:=htake hwg
    exact iZ hS ha hc hgo (aside_setCell w (smA S.Wg) _) (hwg.setSm 0) (Es bk_sem) (norel_of_Bk bk_sem) (tag':=.w4) (b':=0) (f':=m₂) (eT hO (.w4 hj hk)) (.fin trivial h2) (.inl (by simp only[phi];omega))
  | fin h1 _=>exact h1.elim
 ·obtain⟨g',w',es,hgo,⟨rfl,rfl⟩,hk⟩:=hs w fun x=>x
  exact eB hS ha hc hwg hmode hgo (eT hO (.w3 hj hk)) zo
theorem n4(hS:S.Ok)(ha:gs[0]? =some a)(hc:Com S O C bx pre rk j gs w t D 1)(hwg:WgAt S.ty S.Wg w st sm)(hmode:ConcN.Mode j D .w3 st sm)(hj:j=S.n)(hO:O 0=mq)
 {m:Nat}(h:S.GL S.tM m a w):iF S (mu S j D .w3 1 pre rk m) t (runT S.P (crowd gs w sl) 0):=by
 rcases Goes.cases h with hs|⟨m',rfl,hs⟩
 ·obtain⟨hr,g',hgo,m₂,hk⟩:=hs w fun x=>x
  exact iZ hS ha hc hgo (.refl S.Wg w) hwg (GK js) (by intro e he;simp at he;subst he;simp[AN]) (tag':=.w3) (b':=0) (f':=m₂+1) (eT hO (.w3 hj hk)) hmode (.inl zo)
 ·obtain⟨g',w',es,hgo,⟨rfl,rfl⟩,hk⟩:=hs w fun x=>x
  exact eB hS ha hc hwg hmode hgo (eT hO (.wr hj hk)) zo
end
section
variable{S:Site}{O C:Nat→Nat→Prop}{bx pre:Nat→Nat}{rk:Nat→Rank S.P}{j:Nat}{gs:Array Goroutine}{w w':World}{sl:Option (Nat × Nat)}{t:Trace}{D:Nat→WD}{tag:CTag}{b f0 d0:Nat}{a:Goroutine}{st sm:Int}
theorem nF(hS:S.Ok)(ha:gs[0]? =some a)(hc:Com S O C bx pre rk j gs w t D 1)(hwg:WgAt S.ty S.Wg w st sm)(hmode:ConcN.Mode j D .w4 st sm)(hj:j=S.n)(hO:O 0=mq)
 {m:Nat}(h:S.GL S.W4 m a w):iF S (mu S j D .w4 0 pre rk m) t (runT S.P (crowd gs w sl) 0):=by
 rcases Goes.cases h with hs|⟨m',rfl,hs⟩
 ·obtain⟨hr,hall⟩:=hs w fun x=>x
  obtain⟨h1,rfl,rfl⟩:=Mode.ended hmode trivial
  obtain⟨g',hgo,m₂,hk⟩:=hall hwg
  exact gZ hS ha hc hwg (tag':=.ke) (b':=0) (f':=m₂) (.fin trivial h1) hgo bk_rd (eT hO (.ke hj hk)) (by simp only[phi];omega)
 ·obtain⟨g',w',es,hgo,⟨rfl,rfl⟩,hk⟩:=hs w fun x=>x
  exact eB hS ha hc hwg hmode hgo (eT hO (.w4 hj hk)) zo
theorem nj(hS:S.Ok)(ha:gs[0]? =some a)(hc:Com S O C bx pre rk j gs w t D 1)(hwg:WgAt S.ty S.Wg w st sm)(hmode:ConcN.Mode j D .ke st sm)(hj:j=S.n)(hO:O 0=mq)
 {m:Nat}(h:S.GL S.cF m a w):iF S (mu S j D .ke 0 pre rk m) t (runT S.P (crowd gs w sl) 0):=by
 rcases Goes.cases h with hs|⟨m',rfl,hs⟩
 ·obtain⟨hr,g',hgo,m₂,hk⟩:=hs w fun x=>x
  obtain⟨h1,rfl,rfl⟩:=Mode.ended hmode trivial
  exact gZ hS ha hc hwg (tag':=.acq) (b':=0) (f':=m₂) (.fin trivial h1) hgo uw (eT hO (.acq hj hk)) (by simp only[phi];omega)
 ·obtain⟨g',w',es,hgo,⟨rfl,rfl⟩,hk⟩:=hs w fun x=>x
  exact eB hS ha hc hwg hmode hgo (eT hO (.ke hj hk)) zo
theorem Zy(hS:S.Ok)(ha:gs[0]? =some a)(hc:Com S O C bx pre rk j gs w t D 0)(hwg:WgAt S.ty S.Wg w st sm)(hmode:ConcN.Mode j D .acq st sm)(hj:j=S.n)(hO:O 0=mq)
 {m:Nat}(h:S.GL S.JU m a w):iF S (mu S j D .acq 0 pre rk m) t (runT S.P (crowd gs w sl) 0):=by
 rcases Goes.cases h with hs|⟨m',rfl,hs⟩
 ·obtain⟨hr,g',hgo,hfin⟩:=hs w fun x=>x
  obtain⟨h1,rfl,rfl⟩:=Mode.ended hmode trivial
  subst hj
  have hrun:=runT_crowd_go (P:=S.P) (sl:=sl) (i:=0) ha (by simpa using hgo)
  have e1:MemOp.ofEvents 0 a.frame.fn a.frame.place #[Go.ConcR.mk (.acquire (stA S.Wg))]=#[{g:=0,fn:=a.frame.fn,pos:=a.frame.place,act:=.mark (.acquire (stA S.Wg)) }]:=by rw[ofEvents_eq];simp[ofEvent_mk]
  rw[e1] at hrun
  have hu:∀op∈#[({g:=0,fn:=a.frame.fn,pos:=a.frame.place,act:=.mark (.acquire (stA S.Wg)) }:MemOp)],op={g:=0,fn:=a.frame.fn,pos:=a.frame.place,act:=.mark (.acquire (stA S.Wg)) }:=by intro op hop;simpa using hop
  have hst:Deaf (t ++ #[({g:=0,fn:=a.frame.fn,pos:=a.frame.place,act:=.mark (.acquire (stA S.Wg)) }:MemOp)]) 0=0:=by
   rw[Deaf_still t 0 _ fun op hop=>?_,hc.deaf0]
   rw[hu op hop];exact⟨zs,zs⟩
  have hcom:=hc.step0 (gs':=(gs.map (woken S.P a g' w)).setIfInBounds 0 g') (w':=w) (O1:=O 0) (x':=rk 0) (u:=#[{g:=0,fn:=a.frame.fn,pos:=a.frame.place,act:=.mark (.acquire (stA S.Wg)) }]) hS (by simp[hc.size])
   (fun k hk' y hy hst=>by
    rw[get_map_set _ _ _ _ zo,hy,Option.map_some]
    congr 1
    unfold Go.Conc.woken
    split
    ·exact again_running _ hst
    ·rfl) (by rw[kr];exact hc.lay) (fun k _=>Keeps.refl _ _ _) (fun _ _=>rfl) hc.v0.live ⟨rfl,rfl,rfl⟩ hc.sent
   (hc.ct.app0 hc.lay.apart fun op hop=>by rw[hu op hop];exact⟨rfl,fun x hx=>by simp[MemAct.touch?] at hx⟩)
   (pO hc.RA zL fun op hop x hx=>by rw[hu op hop] at hx;simp[MemAct.touch?] at hx) (fun op hop=>by rw[hu op hop]) (fun op hop=>by rw[hu op hop];simp) (rY fun op hop=>by rw[hu op hop];rfl) hst
  rw[kr,uT] at hcom
  have hy:(t ++ #[({g:=0,fn:=a.frame.fn,pos:=a.frame.place,act:=.mark (.acquire (stA S.Wg)) }:MemOp)])[t.size]? =some {g:=0,fn:=a.frame.fn,pos:=a.frame.place,act:=.mark (.acquire (stA S.Wg)) }:=zs
  refine⟨_,_,hrun,.inl ⟨_,w,sl,D,g',O,C,bx,pre,rk,rfl,get_map_set_same _ _ _ (by rw[hc.size];omega),hfin,hcom,hwg,h1,⟨t.size,by rw[act?_of hy],by simp[Trace.g?],⟨0,by simp[Trace.g?],by rw[deaf_old zL];exact hc.deaf0⟩,fun i hi=>?_⟩,hO⟩⟩
  obtain⟨r,hr⟩:=hc.rel i hi (by have:=h1 i hi;omega)
  exact⟨r,hr.appOther (g:=0) (fun op hop=>by rw[hu op hop]) zo,lt_of_act? hr.act⟩
 ·obtain⟨g',w',es,hgo,⟨rfl,rfl⟩,hk⟩:=hs w fun x=>x
  exact eB hS ha hc hwg hmode hgo (eT hO (.acq hj hk)) zo
theorem stepCaller(hS:S.Ok)(ha:gs[0]? =some a)(hm:ji S j (rk 0) tag b f0 d0 a w (O 0))(hc:Com S O C bx pre rk j gs w t D d0)(hwg:WgAt S.ty S.Wg w st sm)(hmode:ConcN.Mode j D tag st sm)(hrun:a.status=.running):
 iF S (mu S j D tag b pre rk f0) t (runT S.P (crowd gs w sl) 0):=by
 generalize hO:O 0=O0 at hm
 generalize hx:rk 0=x at hm
 cases hm with
 | skd e h1 h=>exact ZC hS ha hc hwg hmode e (by rw[hx,hO];exact h1) (by rw[hO];exact h)
 | sa1 e h c=>exact Zz hS ha hc hwg hmode e h (by rw[hO];exact c)
 | rp e h c=>exact ZG hS ha hc hwg hmode e h (by rw[hO];exact c)
 | ske e h c=>exact ZE hS ha hc hwg hmode e h (by rw[hO];exact c)
 | nb e h c=>exact ZF hS ha hc hwg hmode e h (by rw[hO];exact c)
 | sgo e h1 h=>exact NU hS ha hc hwg hmode e (by rw[hx,hO];exact h1) (by rw[hO];exact h)
 | kd e h=>exact nh hS ha hc hwg hmode e hO h
 | anch e h=>exact VE hS ha hc hwg hmode e hO h
 | w1 e h=>exact VH hS ha hc hwg hmode e hO h
 | w2 e h=>exact nz hS ha hc hwg hmode e hO h
 | wr e h=>exact n4 hS ha hc hwg hmode e hO h
 | w3 e h=>exact nB hS ha hc hwg hmode e hO h
 | blk e h=>cases hrun
 | w4 e h=>exact nF hS ha hc hwg hmode e hO h
 | ke e h=>exact nj hS ha hc hwg hmode e hO h
 | acq e h=>exact Zy hS ha hc hwg hmode e hO h
theorem someone(hS:S.Ok)(ha:gs[0]? =some a)(hm:ji S j (rk 0) tag b f0 d0 a w (O 0))(hc:Com S O C bx pre rk j gs w t D d0)(hmode:ConcN.Mode j D tag st sm):∃ (i:Nat) (g:Goroutine),gs[i]? =some g∧g.status=.running:=by
 rcases hm.status hS hc.v0 with⟨hs,_⟩|⟨_,rfl⟩
 ·exact⟨0,a,ha,hs⟩
 ·cases hmode with
  | opn h1 _ _=>exact h1.elim
  | reg _ _ h3=>
    obtain⟨i,hi,h5⟩:=exists_counted h3
    obtain⟨g,hg,hs⟩:=hc.wk i hi
    exact⟨i+1,g,hg,hs.running_of (hc.v1 hi) zo⟩
  | last L _ h2 h3 _=>
    obtain⟨g,hg,hs⟩:=hc.wk L h2
    exact⟨L+1,g,hg,hs.running_of (hc.v1 h2) zo⟩
  | fin h1 _=>exact h1.elim
theorem SN(hS:S.Ok)(ha:gs[0]? =some a)(hm:ji S j (rk 0) tag b f0 d0 a w (O 0))(hc:Com S O C bx pre rk j gs w t D d0):∀g∈gs,awake g:=by
 intro g hg tm
 obtain⟨i,hi⟩:=Array.mem_iff_getElem?.1 hg
 cases i with
 | zero=>
   rw[ha] at hi;cases hi
   rcases hm.status hS hc.v0 with⟨hs,_⟩|⟨hs,_⟩ <;> rw[hs] <;> simp
 | succ i=>
   have hlt:i<j:=by have:=(Array.getElem?_eq_some_iff.1 hi).1;rw[hc.size] at this;omega
   obtain⟨g',hg',hs⟩:=hc.wk i hlt
   rw[hi] at hg';cases hg'
   rcases hs.status (hc.v1 hlt) with h|h <;> rw[h] <;> simp
theorem Com.at(hS:S.Ok)(h:Com S O C bx pre rk j gs w t D d0)(d:Nat):Com S O C bx pre rk j gs (w.at d) t D d0:=
 {h with
  lay:=⟨h.lay.own,h.lay.qh,h.lay.nM,h.lay.cS,h.lay.Nt,h.lay.Py,h.lay.Nu⟩
  v0:=⟨h.v0.live,h.v0.tab,h.v0.chan,h.v0.env⟩
  wk:=fun i hi=>let ⟨g,hg,hs⟩:=h.wk i hi;⟨g,hg,hs.keeps hS (fun _ _=>rfl) h.v0.live⟩
  RA:=h.RA
  sent:=h.sent }
theorem KA(hS:S.Ok){μ:vW S}{m:Machine}(h:Inv S μ m t):iF S μ t (stepT S.P m):=by
 obtain⟨gs,w,sl,j,D,tag,b,f0,d0,a,st,sm,O,C,bx,pre,rk,rfl,ha,hm,hc,hwg,hmode,rfl⟩:=h
 obtain⟨i,g,d,sl',hg,hrun,hstep⟩:=crowd_pick (P:=S.P) (w:=w) (sl:=sl) (SN hS ha hm hc) (someone hS ha hm hc hmode)
 rw[hstep]
 have hm':ji S j (rk 0) tag b f0 d0 a (w.at d) (O 0):=hm.keeps (fun _ _=>rfl) hc.v0.live
 have hc':=hc.at hS d
 have hwg':WgAt S.ty S.Wg (w.at d) st sm:=hwg
 cases i with
 | zero=>
   rw[ha] at hg;cases hg
   exact stepCaller hS ha hm' hc' hwg' hmode hrun
 | succ i=>
   have hi:i<j:=by have:=(Array.getElem?_eq_some_iff.1 hg).1;rw[hc.size] at this;omega
   obtain⟨m₁,ops,μ',h1,h2,h3⟩:=stepWorker (sl:=sl') hS ha hm' hc' hwg' hmode hi hg hrun
   exact⟨m₁,ops,h1,.inr ⟨μ',h2,h3⟩⟩
theorem Pf(hS:S.Ok)(μ:vW S):∀ (m:Machine) (t:Trace),Inv S μ m t→∃N m' t',runNT S.P N m t=(.next m',t')∧Xf S m' t':=by
 induction μ using (ml S).induction with
 | _ μ ih=>
   intro m t h
   obtain⟨m₁,ops,h1,h2⟩:=KA hS h
   rcases h2 with h2|⟨μ',h2,h3⟩
   ·exact⟨1,m₁,t ++ ops,by simp[runNT,h1],h2⟩
   ·obtain⟨N,m',t',h4,h5⟩:=ih μ' h2 m₁ (t ++ ops) h3
    refine⟨1+N,m',t',?_,h5⟩
    rw[runNT_add]
    simp[runNT,h1,h4]
end
end
section
open Go.Conc Go.ConcN Go.bZ Go.Conc.Lib
open Go.ConcR (KK WgAt stA smA rd wr g_of_ofEvents Payload)
variable[Inhabited aT]
structure After(Shun:Loc→Prop)(t:Trace):Prop where
 clean:∀said,¬ Race said t
 known:∀i a,touchAt t i=some a→a.loc.isMemory=true→Knows t 0 i∨(Shun a.loc∧a.kind=.atomic)
 over:t.HandedOver
 hears:Deaf t 0=0
section
variable{Shun:Loc→Prop}{t u:Trace}
theorem After.own(h:After Shun t){fn:FuncId}{pos:String}{es:Array Event}(hs:∀e∈es,∀x,(MemAct.ofEvent e).touch?=some x→Shun x.loc→x.kind≠.plain)(hd:∀e∈es,e.loc≠.mark .disable∧e.loc≠.mark .enable):
 After Shun (t ++ MemOp.ofEvents 0 fn pos es):=by
 have h0:∀op∈MemOp.ofEvents 0 fn pos es,op.g=0:=g_of_ofEvents
 refine⟨fun said=>noRace_append (h.clean said) h0 fun i a ha op hop x hx hc=>?_,fun i a ha hm=>?_,handedOver_app h.over fun op hop=>.inl (h0 op hop),?_⟩
 ·rcases h.known i a ha hc.2.1 with hk|⟨h1,h2⟩
  ·exact hk
  ·obtain⟨e,he,rfl⟩:=mem_seen hop
   have h3:=hs e he x hx (hc.1 ▸ h1)
   obtain⟨_,_,_,hcase⟩:=hc
   rw[h2] at hcase
   rcases hcase with y|y|⟨_,y,_⟩
   ·cases y
   ·exact absurd y h3
   ·cases y
 ·obtain⟨op,hop,hx⟩:=touch_of ha
  rcases getElem?_append_cases hop with⟨hi,hop'⟩|⟨_,hopu⟩
  ·rcases h.known i a (by rw[touchAt_of hop'];exact hx) hm with hk|hk
   ·exact .inl (hk.app _)
   ·exact .inr hk
  ·have:=knows_own hop
   rw[h0 op hopu] at this
   exact .inl this
 ·rw[Deaf_own,h.hears];exact deafBehind_idle hd 0
theorem After.mute(h:After Shun t){k:Nat}(hk:k≠0){fn:FuncId}{pos:String}{es:Array Event}(hm:∀e∈es,e.mute=true):After Shun (t ++ MemOp.ofEvents k fn pos es):=by
 have hn:∀op∈MemOp.ofEvents k fn pos es,op.act.touch?=none:=fun op hop=>by
  obtain⟨e,he,rfl⟩:=mem_seen hop
  exact touch_mute (hm e he)
 refine⟨fun said=>noRace_append (h.clean said) g_of_ofEvents fun i a _ op hop x hx _=>(by rw[hn op hop] at hx;cases hx),fun i a ha hmem=>?_,handedOver_app h.over fun op hop=>.inr (hn op hop),by rw[Deaf_other t hk _ g_of_ofEvents];exact h.hears⟩
 obtain⟨op,hop,hx⟩:=touch_of ha
 rcases getElem?_append_cases hop with⟨_,hop'⟩|⟨_,hopu⟩
 ·rcases h.known i a (by rw[touchAt_of hop'];exact hx) hmem with h1|h1
  ·exact .inl (h1.app _)
  ·exact .inr h1
 ·rw[hn op hopu] at hx;cases hx
end
section
variable{S:Site}{m:Machine}{t:Trace}
theorem Xf.after(h:Xf S m t):∃ (gs:Array Goroutine) (w:World) (sl:Option (Nat × Nat)) (q:Nat→Nat) (a:Goroutine) (O C:Nat→Nat→Prop) (pre:Nat→Nat),
 m=crowd gs w sl∧gs[0]? =some a∧S.Fin a∧Leavers S.P t gs q∧After (ShN S.Wg) t∧WgLive S.ty S.Wg w∧S.V0 w∧Lay O C S.Sh w∧O 0=mq∧C 0=S.Cb∧
 Rt t w∧∃ (buf:Array Value) (s z:Nat),w.heap[S.Ch]? =some (.chan S.n buf false s z false)∧buf.toList.Perm (((List.range S.n).filter S.bit).map fun(i:Nat)=>int i64 i):=by
 obtain⟨gs,w,sl,D,a,O,C,bx,pre,rk,rfl,ha,hfin,hc,hwg,hall,⟨q,h1,h2,h3,h4⟩,hO⟩:=h
 have hpre:∀i,i<S.n→pre i=0∧∃d,QuitsD S.P (D i).fuel d (gs.getD (i+1) default)∧d=(D i).deaf:=fun i hi=>by
  obtain⟨g,hg,hs⟩:=hc.wk i hi
  have e:gs.getD (i+1) default=g:=by rw[Array.getD_eq_getD_getElem?,hg];rfl
  rw[e]
  generalize hst:(D i).stage=s at hs
  generalize hfu:(D i).fuel=m at hs
  generalize hde:(D i).deaf=dd at hs
  generalize hp:pre i=p at hs
  have h1:=hall i hi
  cases hs with
  | p2 _ _=>omega
  | p1 _ _=>omega
  | r0 _ _=>omega
  | late h6 hl=>
    have:s=1:=zo
    subst this
    refine⟨rfl,_,?_,rfl⟩
    rcases hl with hl|hl
    ·cases hl with|quit hq=>exact hq
    ·cases hl with|quit hq=>exact hq
 have all:∀i g,t.g? i=some g→g≠0→∃r,RelBy (stA S.Wg) t g r∧r<q:=fun i g hg hne=>by
  obtain⟨op,hop,rfl⟩:=Option.map_eq_some_iff.1 hg
  have:=hc.ct.gs i op hop
  obtain⟨r,hr,hrq⟩:=h4 (op.g - 1) zo
  exact⟨r,by rw[show op.g - 1+1=op.g by omega] at hr;exact hr,hrq⟩
 refine⟨gs,w,sl,fun k=>(D (k - 1)).fuel,a,O,C,pre,rfl,ha,hfin,⟨fun k g hk hg=>?_,fun k hk=>?_⟩,⟨hc.ct.nr,fun i b hb hm=>?_,handedOver_all all hc.norel h1 h2 h3,hc.deaf0⟩,⟨_,_,hwg⟩,hc.v0,hc.lay,hO,hc.c0,hc.RA,?_⟩
 ·have hlt:=(Array.getElem?_eq_some_iff.1 hg).1
  rw[hc.size] at hlt
  obtain⟨_,d,hq,rfl⟩:=hpre (k - 1) zo
  have e:gs.getD (k - 1+1) default=g:=by rw[Array.getD_eq_getD_getElem?,show k - 1+1=k by omega,hg];rfl
  rw[e] at hq
  have hd:=hc.deafW (k - 1) zo
  rw[show k - 1+1=k by omega] at hd
  rw[hd];exact hq
 ·exact Deaf_absent fun i op hi e=>by have:=hc.ct.gs i op hi;rw[hc.size] at hk;omega
 ·obtain⟨op,hop,hx⟩:=touch_of hb
  by_cases h0:op.g=0
  ·have:=knows_own hop
   rw[h0] at this
   exact .inl this
  by_cases hcount:t.counts i
  ·obtain⟨r,hr,hrq⟩:=all i op.g (by simp[Trace.g?,hop]) h0
   have edge:HappensBefore t r q:=.single (.inr ⟨.marked hrq (.inr hr.act) h1 (fun k _ _=>hc.norel k),hr.heard,h3⟩)
   have hle:i≤r:=Nat.le_of_not_lt fun hlt=>hr.after i hlt (by simp[Trace.g?,hop]) hcount
   obtain⟨z,hz,hzg⟩:=Option.map_eq_some_iff.1 h2
   refine .inl ⟨q,z,hz,hzg,.inr ?_⟩
   rcases Nat.lt_or_ge i r with hlt|hge
   ·exact .trans (.single (.inl ⟨hlt,op.g,by simp[Trace.g?,hop],hr.g⟩)) edge
   ·obtain rfl:i=r:=zo
    exact edge
  ·refine .inr ?_
   have hk:b.kind=.atomic:=Classical.byContradiction fun hne=>hcount ⟨b,by simpa [touchAt] using hb,hm,.inl hne⟩
   exact⟨hc.FA op (Array.mem_of_getElem? hop) h0 b hx hk,hk⟩
 ·obtain⟨buf,s,z,h5,h6⟩:=hc.sent
  refine⟨buf,s,z,h5,?_⟩
  have:((List.range S.n).filter fun i=>S.bit i && decide (pre i≤1))=(List.range S.n).filter S.bit:=List.filter_congr fun i hi=>by
   rw[(hpre i (List.mem_range.1 hi)).1];simp
  rw[← this];exact h6
end
end
section
open Go.Conc Go.ConcN Go.bZ Go.Conc.Lib Go.ConcR.Gen Go.ConcN.Gen
open Go.ConcR (KK WgAt stA smA rd wr g_of_ofEvents Payload DC0)
variable[Inhabited aT]
section
variable{S:Site}{w:World}
theorem Nf{q:Nat}{v:Value}{ty:TypeId}(h:w.heap[q]? =some (.cells #[v] ty)):Has q 0 v w:=by
 simp[Has,World.cell?,h]
theorem XU(H:WgLib S.P S.L)(hS:S.Ok){c:Frame}{cs:List Frame}{qt:Nat}(hcm:c.mode=.returning)(hT:QuitsD S.P qt 0 (G c cs))(hv:S.V0 w):
 S.DU (G ((baseD S.L.done).at ⟨#[.pointer (some ⟨S.Wg,0,none⟩),undef,undef,undef],[]⟩ [.code (body_done S.L)]) (c :: cs)) w:=
 ⟨⟨23,@doneN S.pA S.L S.P H F0 F0 S.Wg S.bA 1 0 1 S.vA c cs qt hcm hT w ⟨hv.live,Nf (hv.tab _ _ hS.cA)⟩⟩,
   ⟨23,@doneN S.pB S.L S.P H F0 F0 S.Wg S.bB 1 0 1 S.vB c cs qt hcm hT w ⟨hv.live,Nf (hv.tab _ _ hS.cB)⟩⟩⟩
theorem SQ{L:WgLink}{Wg:Nat}{c:Frame}{cs:List Frame}{g:Goroutine}(h:AnchW L Wg c cs g w):g.status=.running:=by
 obtain⟨_,rfl,_⟩:=h
 rfl
end
section
variable{P:Program}{L:WgLink}{Wg:Nat}{Stop:Goroutine→World→Prop}{C O:Nat→Prop}{V:World→Prop}{K:Goroutine→World→(Nat→Prop)→Prop}
theorem GD(C O:Nat→Prop)(w:World):Did C O O w w []:=
 ⟨rfl,rfl,rfl,zL,fun _ _ _=>rfl,fun b=>⟨.inl,fun h=>h.elim id fun⟨h1,h2⟩=>absurd h2 zo⟩,fun e he=>by simp at he⟩
theorem Jt(hV:∀w,V w→WgLive L.tWg Wg w):∀ {m:Nat} {g:Goroutine} {w:World},gT P L Wg Stop m g w→(∀g' w2,Keeps C O w w2→V w2→Stop g' w2→K g' w2 O)→Wk P true C V K g w O
 | 0,g,w,h,hK=>.stop fun w2 k v=>hK g w2 k v (h w2 fun _=>hV w2 v)
 | m+1,g,w,h,hK=>by
   rcases h with h|⟨hrun,h⟩
   ·exact .stop fun w2 k v=>hK g w2 k v (h w2 fun _=>hV w2 v)
   ·refine .step (fun g2 w3 O2=>O2=O∧gT P L Wg Stop m g2 w3∧Keeps C O w w3) hrun (fun w2 k v=>?_) ?_
    ·have hs:=h w2 fun _=>hV w2 v
     cases hgo:stepG P true g w2 with
     | go g2 w3 es=>
       rw[hgo,goes_go] at hs
       obtain⟨⟨rfl,rfl⟩,hG⟩:=hs
       exact⟨g2,w3,O,#[],rfl,GD C O w3,rfl,hG,k⟩
     | _=>rw[hgo] at hs;exact hs.elim
    ·rintro g2 w3 O2 ⟨e,hG,k⟩
     rw[e]
     exact Jt hV hG fun g' w2 k2 v=>hK g' w2 (k.trans k2) v
end
section
variable{S:Site}{w:World}{O:Nat→Prop}{i:Nat}{Next:Goroutine→World→Prop}
theorem UA{R g:Goroutine}{m:Nat}(h:S.GL (S.rK R) m g w)(hc:S.Cont i Next R w O):Wk S.P true S.Cb S.V0 (S.AQ i Next) g w O:=
 Jt (fun _ v=>v.live) h fun g' w2 k v hs=>⟨R,hs,iI hc k⟩
end
end
section
open Go.Conc Go.ConcN Go.bZ
variable[Inhabited aT]
open Classical in
noncomputable def Ia(D:Nat→Prop):Ren:=fun b=>if D b then some b else none
theorem wL{D:Nat→Prop}{b b':Nat}(h:Ia D b=some b'):b'=b∧D b:=by
 unfold Ia at h
 split at h
 ·exact⟨(Option.some.inj h).symm,‹_›⟩
 ·cases h
theorem Ns{D:Nat→Prop}{b:Nat}(h:D b):Ia D b=some b:=if_pos h
def jz:Obj→Obj
 | .cells c e _=>.cells c e (0,c.size)
 | o=>o
open Classical in
noncomputable def wJ(D:Nat→Prop)(w:World):World:={w with heap:=w.heap.mapIdx fun b o=>if D b then jz o else o }
theorem TJ{D:Nat→Prop}{w:World}{b:Nat}{c:Array Value}{e:TypeId}{f:Nat × Nat}(h:D b)(hb:w.heap[b]? =some (.cells c e f)):(wJ D w).heap[b]? =some (.cells c e (0,c.size)):=by
 simp[wJ,Array.getElem?_mapIdx,hb,h,jz]
theorem Yc{D:Nat→Prop}{w:World}{b:Nat}(h:¬ D b):(wJ D w).heap[b]? =w.heap[b]?:=by
 simp only[wJ,Array.getElem?_mapIdx,h,if_false]
 cases w.heap[b]? <;> rfl
theorem TK(D:Nat→Prop)(w:World):(wJ D w).heap.size=w.heap.size:=by simp[wJ]
def Closed(D:Nat→Prop)(w:World):Prop:=∀b,D b→∃c e f,w.heap[b]? =some (.cells c e f)∧f.2≤c.size∧dW (Ia D) c c
theorem Closed.keeps{D:Nat→Prop}{w w':World}(h:Closed D w)(hk:∀b,D b→w'.heap[b]? =w.heap[b]?):Closed D w':=fun b hb=>by
 obtain⟨c,e,f,h1,h2⟩:=h b hb
 exact⟨c,e,f,(hk b hb).trans h1,h2⟩
theorem pc{D:Nat→Prop}{w0 w:World}(h:Closed D w)(hk:∀b,D b→w0.heap[b]? =w.heap[b]?):WR (Ia D) (wJ D w0) w:=by
 refine⟨fun b b' hb=>?_,fun b1 b2 c h1 h2=>?_⟩
 ·obtain⟨rfl,hD⟩:=wL hb
  obtain⟨c,e,f,h1,h3,h2⟩:=h _ hD
  exact⟨_,_,TJ hD ((hk _ hD).trans h1),h1,.cells e h2 fun o _ h4=>⟨Nat.zero_le _,Nat.lt_of_lt_of_le h4 h3⟩⟩
 ·obtain⟨e1,_⟩:=wL h1
  obtain⟨e2,_⟩:=wL h2
  exact e1.symm.trans e2
theorem XM{D C O:Nat→Prop}{w0 w:World}(h:Closed D w)(hk:∀b,D b→w0.heap[b]? =w.heap[b]?)(hC:∀b,D b→C b):sd C O (Ia D) (wJ D w0):=fun b b' hb=>by
 obtain⟨rfl,hD⟩:=wL hb
 obtain⟨c,e,f,h1,h2⟩:=h _ hD
 exact .inl ⟨⟨c,e,_,TJ hD ((hk _ hD).trans h1),fun o ho=>⟨Nat.zero_le _,ho⟩⟩,hC _ hD⟩
theorem FE{P:Program}{main:Bool}{C O:Nat→Prop}{V:World→Prop}{K:Goroutine→World→(Nat→Prop)→Prop}(hg:P.globals.size=0){F:Fence}(hF:gV P F.fn)(hin:∀g,F.fn g→P.inits.idxOf? g=none)(hal:F.alive=true){n:Nat}(hroom:F.room (1+n))
 {f:FuncId}{args args':Array Value}{D:Nat→Prop}{w0 w:World}{r:Bool}{c:Frame}{cs:List Frame}(H:∀σ:Tape,CallsIn F n P f args (on (wJ D w0) σ) (fun e _=>e=.returned (.bool r)))(ha:dW (Ia D) args args')(h:Closed D w)
 (hk:∀b,D b→w0.heap[b]? =w.heap[b]?)(hC:∀b,D b→C b)(hW:∀w3 O3,(∀b,O b→O3 b)→Wk P main C V K (G (c.finish (.bool r)) cs) w3 O3):Wk P main C V K (G (Frame.enter P f args' .normal) (c :: cs)) w O:=by
 refine Wk.call (vY (R:=fun x _=>x=.bool r) hg hF hin hal hroom (fun σ=>?_) ha (pc h hk) (XM h hk hC)) fun ρ1 v v' w1 w3 O3 hR hv _ _ _ hO=>?_
 ·obtain⟨h1,h2⟩:=H σ
  refine⟨h1,fun cs hcs=>?_⟩
  obtain⟨e,v,fr,he,h3⟩:=h2 cs hcs
  exact⟨e,v,fr,⟨_,he,rfl⟩,h3⟩
 ·subst hR
  cases hv
  exact hW w3 O3 hO
end
section
open Go.Conc Go.ConcN Go.bZ Go.Conc.Lib
open Go.ConcR (WgAt stA smA rd wr Payload)
variable[Inhabited aT]
section
variable{P:Program}{main:Bool}{C O:Nat→Prop}{V:World→Prop}{K:Goroutine→World→(Nat→Prop)→Prop}{b:Frame}{a:Act}{k:List Item}{cs:List Frame}{w:World}{ops:Array Oper}{i:Nat}{rest:List Nat}{o:Oper}
theorem listed_nil{w2:World}(he:(execOp a.eval o).events P w2 #[]=#[]):listed P b.fn a o w2=#[]:=by
 unfold listed;rw[he];exact seen_none P _
theorem FI{v:Value}(ho:ops[i]? =some o)(hw:Region.wanted o (yielded ops a.tmps)=true)(hk:b.kind≠.early)(hr:∀w2:World,(execOp a.eval o).run P w2=.ok (.value v) w2)(he:∀w2:World,(execOp a.eval o).events P w2 #[]=#[])
 (h:Wk P main C V K (G (b.at (a.put o.dst v) (.inRegion ops rest :: k)) cs) w O):Wk P main C V K (G (b.at a (.inRegion ops (i :: rest) :: k)) cs) w O:=
 Wk.idle rfl (fun w2 _=>by rw[stepG_value ho hw hk (hr w2),listed_nil (he w2)]) h
theorem wU{v:Value}{ad:Addr}(ho:ops[i]? =some o)(hw:Region.wanted o (yielded ops a.tmps)=true)(hk:b.kind≠.early)(hb:O ad.block∨C ad.block)
 (hr:∀w2:World,Keeps C O w w2→V w2→(execOp a.eval o).run P w2=.ok (.value v) w2∧listed P b.fn a o w2=#[⟨.cell ad,false,false⟩])
 (h:Wk P main C V K (G (b.at (a.put o.dst v) (.inRegion ops rest :: k)) cs) w O):Wk P main C V K (G (b.at a (.inRegion ops (i :: rest) :: k)) cs) w O:=
 .step (fun g2 w3 O2=>g2=G (b.at (a.put o.dst v) (.inRegion ops rest :: k)) cs∧O2=O∧Keeps C O w w3) rfl (fun w2 k2 v2=>by
  obtain⟨h1,h2⟩:=hr w2 k2 v2
  refine⟨_,w2,O,_,stepG_value ho hw hk h1,?_,rfl,rfl,k2⟩
  rw[h2]
  exact⟨rfl,rfl,rfl,zL,fun _ _ _=>rfl,fun b=>⟨.inl,fun h=>h.elim id fun⟨x,y⟩=>absurd y zo⟩,fun e he=>by
   simp only[List.mem_singleton] at he
   subst he
   exact .inr ⟨rfl,.inl ⟨ad,rfl,hb.imp id fun h=>⟨rfl,h⟩⟩⟩⟩)
  fun g2 w3 O2 ⟨e1,e2,k2⟩=>by subst e1;subst e2;exact h.keeps k2
theorem WE{obj:Obj}(ho:ops[i]? =some o)(hw:Region.wanted o (yielded ops a.tmps)=true)(hk:b.kind≠.early)
 (hr:∀w2:World,(execOp a.eval o).run P w2=.ok (.value (.pointer (some ⟨w2.heap.size,0,none⟩))) (w2.alloc obj))(he:∀w2:World,(execOp a.eval o).events P w2 #[]=#[])
 (h:∀w2,Keeps C O w w2→V w2→Wk P main C V K (G (b.at (a.put o.dst (.pointer (some ⟨w2.heap.size,0,none⟩))) (.inRegion ops rest :: k)) cs) (w2.alloc obj) (fun b=>O b∨b=w2.heap.size)):
 Wk P main C V K (G (b.at a (.inRegion ops (i :: rest) :: k)) cs) w O:=
 .step (fun g2 w3 O2=>∃w2,Keeps C O w w2∧V w2∧g2=G (b.at (a.put o.dst (.pointer (some ⟨w2.heap.size,0,none⟩))) (.inRegion ops rest :: k)) cs∧w3=w2.alloc obj∧O2=fun b=>O b∨b=w2.heap.size) rfl (fun w2 k2 v2=>by
  refine⟨_,_,fun b=>O b∨b=w2.heap.size,_,stepG_value ho hw hk (hr w2),?_,w2,k2,v2,rfl,rfl,rfl⟩
  rw[listed_nil (he w2)]
  have hsz:(w2.alloc obj).heap.size=w2.heap.size+1:=by show(w2.heap.push obj).size=_;exact Array.size_push ..
  refine⟨rfl,rfl,rfl,by rw[hsz];omega,fun b hb _=>?_,fun b=>⟨fun h=>h.imp id fun h=>?_,fun h=>h.imp id fun⟨x,y⟩=>?_⟩,fun e he=>by simp at he⟩
  ·show(w2.heap.push obj)[b]? =_
   rw[Array.getElem?_push,if_neg (Nat.ne_of_lt hb)]
  ·subst h;rw[hsz];exact⟨zL,Nat.lt_succ_self _⟩
  ·rw[hsz] at y;omega)
  fun g2 w3 O2 ⟨w2,k2,v2,e1,e2,e3⟩=>by subst e1;subst e2;subst e3;exact h w2 k2 v2
theorem WJ{v:Value}{ad:Addr}(ho:ops[i]? =some o)(hw:Region.wanted o (yielded ops a.tmps)=true)(hk:b.kind≠.early)(hb:O ad.block)
 (hr:∀w2:World,Keeps C O w w2→V w2→(execOp a.eval o).run P w2=.ok .skip (w2.setCell ad v)∧listed P b.fn a o w2=#[⟨.cell ad,true,false⟩])
 (h:∀w2,Keeps C O w w2→V w2→Wk P main C V K (G (b.at (a.put o.dst undef) (.inRegion ops rest :: k)) cs) (w2.setCell ad v) O):Wk P main C V K (G (b.at a (.inRegion ops (i :: rest) :: k)) cs) w O:=
 .step (fun g2 w3 O2=>∃w2,Keeps C O w w2∧V w2∧g2=G (b.at (a.put o.dst undef) (.inRegion ops rest :: k)) cs∧w3=w2.setCell ad v∧O2=O) rfl (fun w2 k2 v2=>by
  obtain⟨h1,h2⟩:=hr w2 k2 v2
  refine⟨_,_,O,_,stepG_none ho hw hk h1,?_,w2,k2,v2,rfl,rfl,rfl⟩
  rw[h2]
  refine⟨rfl,rfl,rfl,by simp[World.setCell],fun b _ hn=>?_,fun b=>⟨.inl,fun h=>h.elim id fun⟨x,y⟩=>?_⟩,fun e he=>?_⟩
  ·have:b≠ad.block:=fun e=>hn (e ▸ hb)
   simp only[World.setCell,Array.getElem?_modify]
   rw[if_neg (Ne.symm this)]
  ·simp[World.setCell] at y;omega
  ·simp only[List.mem_singleton] at he
   subst he
   exact .inr ⟨rfl,.inl ⟨ad,rfl,.inl hb⟩⟩)
  fun g2 w3 O2 ⟨w2,k2,v2,e1,e2,e3⟩=>by subst e1;subst e2;subst e3;exact h w2 k2 v2
theorem WG{f:FuncId}{fn:Func}{c:Code}{args:Array Operand}{ats:Array TypeId}(ho:ops[i]? =some o)(hw:Region.wanted o (yielded ops a.tmps)=true)(hk:b.kind≠.early)(hop:o.op=.call {callee:=.value (.func f),args,argTypes:=ats })
 (hf:P.funcs[f]? =some fn)(hname:(fn.name == "runtime.NumGoroutine")=false)(hb:fn.body=some c)
 (h:Wk P main C V K (G ((base f).at {tmps:=args.map a.eval ++ Array.replicate (fn.ntmps - (args.map a.eval).size) undef,defers:=[] } [.code c]) (b.at a (.inRegion ops (i :: rest) :: k) :: cs)) w O):Wk P main C V K (G (b.at a (.inRegion ops (i :: rest) :: k)) cs) w O:=by
 have hb':fn.body.isNone=false:=by rw[hb];rfl
 refine Wk.idle rfl (fun w2 _=>by rw[stepG_enter ho hw hk (run_call_body hop hf hname hb'),listed_nil (events_call_body hop hf hname hb' #[])]) ?_
 rw[enter_at _ hf hb]
 exact h
theorem WH{f:FuncId}{args:Array Value}(ho:ops[i]? =some o)(hw:Region.wanted o (yielded ops a.tmps)=true)(hk:b.kind≠.early)(hr:∀w2:World,(execOp a.eval o).run P w2=.ok (.enter f args) w2)(he:∀w2:World,(execOp a.eval o).events P w2 #[]=#[])
 (h:Wk P main C V K (G (Frame.enter P f args .normal) (b.at a (.inRegion ops (i :: rest) :: k) :: cs)) w O):Wk P main C V K (G (b.at a (.inRegion ops (i :: rest) :: k)) cs) w O:=
 Wk.idle rfl (fun w2 _=>by rw[stepG_enter ho hw hk (hr w2),listed_nil (he w2)]) h
end
section
variable{P:Program}{L:WgLink}{Wg:Nat}{Stop Stop':Goroutine→World→Prop}{C O:Nat→Prop}{V:World→Prop}{K:Goroutine→World→(Nat→Prop)→Prop}
theorem Ao(hV:∀w,V w→WgLive L.tWg Wg w):∀ {m:Nat} {g:Goroutine} {w:World},gT P L Wg Stop m g w→V w→(∀g' w2,Keeps C O w w2→V w2→Stop g' w2→Wk P true C V K g' w2 O)→Wk P true C V K g w O
 | 0,g,w,h,hv,hK=>hK g w (Keeps.refl C O w) hv (h w fun x=>x)
 | m+1,g,w,h,hv,hK=>by
   rcases h with h|⟨hrun,h⟩
   ·exact hK g w (Keeps.refl C O w) hv (h w fun x=>x)
   ·refine .step (fun g2 w3 O2=>O2=O∧gT P L Wg Stop m g2 w3∧Keeps C O w w3∧V w3) hrun (fun w2 k v=>?_) ?_
    ·have hs:=h w2 fun _=>hV w2 v
     cases hgo:stepG P true g w2 with
     | go g2 w3 es=>
       rw[hgo,goes_go] at hs
       obtain⟨⟨rfl,rfl⟩,hG⟩:=hs
       exact⟨g2,w3,O,#[],rfl,GD C O w3,rfl,hG,k,v⟩
     | _=>rw[hgo] at hs;exact hs.elim
    ·rintro g2 w3 O2 ⟨e,hG,k,v⟩
     rw[e]
     exact Ao hV hG v fun g' w2 k2 v=>hK g' w2 (k.trans k2) v
theorem jm(hS:∀g w,Stop g w→Stop' g w):∀ {m:Nat} {g:Goroutine} {w:World},gT P L Wg Stop m g w→gT P L Wg Stop' m g w
 | 0,g,w,h=>fun w1 h1=>hS _ _ (h w1 h1)
 | m+1,g,w,h=>by
   rcases h with h|⟨hrun,h⟩
   ·exact .inl fun w1 h1=>hS _ _ (h w1 h1)
   ·refine .inr ⟨hrun,fun w1 h1=>?_⟩
    have hs:=h w1 h1
    cases hgo:stepG P true g w1 with
    | go g2 w3 es=>
      rw[hgo,goes_go] at hs
      rw[goes_go]
      exact⟨hs.1,jm hS hs.2⟩
    | _=>rw[hgo] at hs;exact hs.elim
theorem MZ:∀ {m:Nat} {g:Goroutine} {w:World},gT P L Wg Stop m g w→gT P L Wg Stop (m+1) g w
 | 0,g,w,h=>.inl h
 | m+1,g,w,h=>by
   rcases h with h|⟨hrun,h⟩
   ·exact .inl h
   ·refine .inr ⟨hrun,fun w1 h1=>?_⟩
    have hs:=h w1 h1
    cases hgo:stepG P true g w1 with
    | go g2 w3 es=>
      rw[hgo,goes_go] at hs
      rw[goes_go]
      exact⟨hs.1,MZ hs.2⟩
    | _=>rw[hgo] at hs;exact hs.elim
theorem de{m n:Nat}{g:Goroutine}{w:World}(h:gT P L Wg Stop m g w)(hn:m≤n):gT P L Wg Stop n g w:=by
 induction hn with
 | refl=>exact h
 | step _ ih=>exact MZ ih
theorem MX(n:Nat)(hn:∀g w,WgLive L.tWg Wg w→Stop g w→gT P L Wg Stop' n g w):∀ {m:Nat} {g:Goroutine} {w:World},gT P L Wg Stop m g w→WgLive L.tWg Wg w→gT P L Wg Stop' (m+n) g w
 | 0,g,w,h,hl=>by rw[Nat.zero_add];exact hn _ _ hl (h w fun x=>x)
 | m+1,g,w,h,hl=>by
   rcases h with h|⟨hrun,h⟩
   ·exact de (hn _ _ hl (h w fun x=>x)) zo
   ·rw[show m+1+n=m+n+1 by omega]
    refine .inr ⟨hrun,fun w1 h1=>?_⟩
    have hs:=h w1 h1
    cases hgo:stepG P true g w1 with
    | go g2 w3 es=>
      rw[hgo,goes_go] at hs
      rw[goes_go]
      obtain⟨⟨rfl,rfl⟩,hG⟩:=hs
      exact⟨⟨rfl,rfl⟩,MX n hn hG (h1 hl)⟩
    | _=>rw[hgo] at hs;exact hs.elim
end
section
variable{P:Program}{L:WgLink}{Wg:Nat}{A A':Goroutine→World→Prop}{F F':Goroutine→Prop}
theorem WA(hF:∀g,F g→F' g){g:Goroutine}{w:World}(h:JU P Wg F g w):JU P Wg F' g w:=let ⟨a,g',b,c⟩:=h;⟨a,g',b,hF _ c⟩
theorem Oi(hF:∀g,F g→F' g){g:Goroutine}{w:World}(h:cF P L Wg F g w):cF P L Wg F' g w:=let ⟨a,g',b,m,c⟩:=h;⟨a,g',b,m,jm (fun _ _=>WA hF) c⟩
theorem pb(hF:∀g,F g→F' g){g:Goroutine}{w:World}(h:W4 P L Wg F g w):W4 P L Wg F' g w:=⟨h.1,fun x=>let ⟨g',b,m,c⟩:=h.2 x;⟨g',b,m,jm (fun _ _=>Oi hF) c⟩⟩
theorem pa(hF:∀g,F g→F' g){g:Goroutine}{w:World}(h:W3 P L Wg F g w):W3 P L Wg F' g w:=⟨h.1,h.2.1,h.2.2.1,fun x=>let ⟨g',b,m,c⟩:=h.2.2.2 x;⟨g',b,m,jm (fun _ _=>pb hF) c⟩⟩
theorem bt(hF:∀g,F g→F' g){g:Goroutine}{w:World}(h:N' P L Wg F g w):N' P L Wg F' g w:=let ⟨a,g',b,m,c⟩:=h;⟨a,g',b,m,jm (fun _ _=>pa hF) c⟩
theorem oY(hA:∀g w,A g w→A' g w)(hF:∀g,F g→F' g){vs:Nat}{g:Goroutine}{w:World}(h:W2 P L Wg A F vs g w):W2 P L Wg A' F' vs g w:=
 ⟨h.1,fun v hv hw=>⟨fun e=>let ⟨g',b,m,c⟩:=(h.2 v hv hw).1 e;⟨g',b,m,jm (fun _ _=>bt hF) c⟩,fun e=>let ⟨g',b,m,c⟩:=(h.2 v hv hw).2 e;⟨g',b,m,jm hA c⟩⟩⟩
theorem oX(hA:∀g w,A g w→A' g w)(hF:∀g,F g→F' g){g:Goroutine}{w:World}(h:W1 P L Wg A F g w):W1 P L Wg A' F' g w:=
 ⟨h.1,fun v hv hw=>let ⟨g',b,c,d⟩:=h.2 v hv hw;⟨g',b,fun e=>let ⟨m,x⟩:=c e;⟨m,jm (fun _ _=>Oi hF) x⟩,fun e=>let ⟨m,x⟩:=d e;⟨m,jm (fun _ _=>oY hA hF) x⟩⟩⟩
end
theorem LC{S:Site}(H:WgLib S.P S.L)(pl:Payload){b₀:Frame}{ops₀:Array Oper}{i₀:Nat}{rest₀:List Nat}{k₀:List Item}{cs:List Frame}{A:Act→Prop}
 (cA:S.tab S.bA=some (.cells #[S.vA] (@Payload.ety S.pA)))(cB:S.tab S.bB=some (.cells #[S.vB] (@Payload.ety S.pB)))(ab:S.bA≠S.bB)(tw:S.tab S.Wg=none)(wc:S.Wg≠S.Ch)(n31:S.n<2147483648)
 (hAn:S.Anch=fun g w=>∃a₀,A a₀∧AnchW S.L S.Wg (b₀.at a₀ (.inRegion ops₀ (i₀ :: rest₀) :: k₀)) cs g w)(hFi:S.Fin=fun g=>∃a₀,A a₀∧Xg S.P S.L S.Wg (qO b₀ a₀ ops₀ i₀ rest₀ k₀ cs) g):S.Ok:=by
 refine⟨cA,cB,ab,fun e=>?_,fun e=>?_,wc,n31,fun g w h=>?_,fun g w h=>?_⟩
 ·rw[e,tw] at cA;cases cA
 ·rw[e,tw] at cB;cases cB
 ·rw[hAn] at h
  obtain⟨a₀,_,h⟩:=h
  exact SQ h
 ·rw[hAn] at h
  obtain⟨a₀,ha,h⟩:=h
  obtain⟨m,h1⟩:=@Mk pl S.L S.P S.Wg b₀ a₀ ops₀ i₀ rest₀ k₀ cs H g w h
  refine⟨m,jm (fun g w h=>oX (fun g w h=>?_) (fun g h=>?_) h) h1⟩
  ·rw[hAn];exact⟨a₀,ha,h⟩
  ·rw[hFi];exact⟨a₀,ha,h⟩
end
end Go.aP
