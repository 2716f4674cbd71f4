/- Crew10 Crew11 Crew12 Crew13 Crew14 -/
import Derived.Test.YthaelabgfnnebaaGreatC4
set_option maxRecDepth 100000
set_option maxHeartbeats 16000000
set_option linter.unusedVariables false
set_option linter.unusedSectionVars false
open Go.IntKind(i64)
open Go.Value(int)
namespace Go.aO
section
open Go.Conc Go.ConcN Go.cu Go.Conc.Lib
open Go.ConcR (KK WgAt stA smA rd wr g_of_ofEvents Payload DC0 again_blocked Bk ofEvent_loc_mark ofEvent_cell bk_of_mute)
variable[Inhabited aV]
section
variable{S:Site}{O C:Nat→Nat→Prop}{bx pre:Nat→Nat}{rk:Nat→Rank S.P}{j:Nat}{gs:Array Goroutine}{w w':World}{sl:Option (Nat × Nat)}{t:Trace}{D:Nat→WD}{tag:CTag}{b f0 d0:Nat}{a:Goroutine}{st sm:Int}
theorem Com.rename(hS:S.Ok)(h:Com S O C bx pre rk j gs w t D d0){i:Nat}(hi:i<j){g:Goroutine}(hg:gs[i+1]? =some g){x':Rank S.P}{p' m':Nat}(h7:(D i).stage=7)(hd:(D i).deaf=0)
 (iY:sJ S j (upd pre i p') w)(hs':Dn S i (bx i) x' p' 7 m' 0 g w (O (i+1))):Com S O C bx (upd pre i p') (upd rk (i+1) x') j gs w t (upd D i ⟨7,m',0⟩) d0:=by
 have:=h.stepW (gs':=gs) (u:=#[]) (O1:=O (i+1)) (w':=w) hS hi h.size hg (fun k _ _ y hy _=>hy) (by rw[jX];exact h.lay) (fun k _=>Keeps.refl _ _ _) (fun _ _=>rfl) h.v0.live ⟨rfl,rfl,rfl⟩ iY hs'
  (by rw[jX];simpa using h.ct) (by simpa using h.Qo) zs zs (qY zs) (by simpa [hd] using h.deafW i hi) zo
 rw[jX] at this
 simpa using this
theorem Uf(hS:S.Ok)(ha:gs[0]? =some a)(hm:iZ S j (rk 0) tag b f0 d0 a w (O 0))(hc:Com S O C bx pre rk j gs w t D d0)(hwg:WgAt S.ty S.Wg w st sm)(hmode:ConcN.Mode j D tag st sm)
 {i:Nat}(hi:i<j){g:Goroutine}(hg:gs[i+1]? =some g)(hpre:pre i=0){m m':Nat}(h1:S.GA m g w)(h2:S.GB m' g w)(hst:(D i).stage=7)(hfu:(D i).fuel=m+m')(hde:(D i).deaf=0):
 ∃m₁ ops μ',runT S.P (crowd gs w sl) (i+1)=(.next m₁,ops)∧yU S μ' (mu S j D tag b pre rk f0)∧Inv S μ' m₁ (t ++ ops):=by
 have hdk:Deaf t (i+1)=0:=by rw[hc.deafW i hi,hde]
 have rel:∀ {g':Goroutine} {m₂:Nat},stepG S.P false g w=.go g' w #[Go.ConcR.mk (.releaseMerge (stA S.Wg))]→S.Late 6 m₂ 0 g' w→
  ∃m₁ ops μ',runT S.P (crowd gs w sl) (i+1)=(.next m₁,ops)∧yU S μ' (mu S j D tag b pre rk f0)∧Inv S μ' m₁ (t ++ ops):=by
  intro g' m₂ hgo hk
  exact Jo hS ha hm hc hi hg hgo (.refl S.Wg w) hwg (by intro e he x hx;simp at he;subst he;simp[Go.ConcR.mk,MemAct.ofEvent,MemAct.touch?] at hx) (by intro e he;simp at he;subst he;simp[Go.ConcR.mk])
   (by rw[hpre];exact .late zo hk) (by rw[hde];rfl) (fun _=>⟨t.size,RelBy.new hdk _ _⟩) (fun _ ht _=>(hmode.counted hi zo (.inl rfl) _ _).retag ht) (.inl ⟨zo,by simp[cnt,hst]⟩)
 rcases Goes.cases h1 with hA|⟨k,rfl,hA⟩
 ·obtain⟨_,_,g',hgo,m₂,hk⟩:=hA w (@RW.refl S.pA _ _ _ _ _ _ w)
  letI:=S.pA
  exact rel hgo (.inl (.k1 hk))
 rcases Goes.cases h2 with hB|⟨k',rfl,hB⟩
 ·obtain⟨_,_,g',hgo,m₂,hk⟩:=hB w (@RW.refl S.pB _ _ _ _ _ _ w)
  letI:=S.pB
  exact rel hgo (.inr (.k1 hk))
 obtain⟨g',w',es,hgo,⟨a1,e1⟩,hA'⟩:=hA w (@RW.refl S.pA _ _ _ _ _ _ w)
 obtain⟨g2,w2,es2,qn,⟨a2,_⟩,hB'⟩:=hB w (@RW.refl S.pB _ _ _ _ _ _ w)
 rw[hgo] at qn
 cases qn
 have hAs:Aside S.Wg w w':=Dv hS.ab a1 a2
 have hwg':WgAt S.ty S.Wg w' st sm:=by
  obtain⟨_,_,_,_,a5,_,_⟩:=a1
  unfold WgAt at *
  rw[a5 _ (Ne.symm hS.aW)];exact hwg
 refine Jo hS ha hm hc hi hg hgo hAs hwg' (NS e1) (fun e he=>(e1 e he).2.2.2) (by rw[hpre];exact .r0 hA' hB') (by rw[hde];exact deafBehind_idle (fun e he=>⟨(e1 e he).2.1,(e1 e he).2.2.1⟩) 0)
  (fun h=>absurd h zo) (fun _ ht _=>ConcN.Mode.retag (by have:=hmode.same (i:=i) (k+k') 0;rwa[hst] at this) ht) (.inr ⟨hst.symm,zo⟩)
theorem H7(hS:S.Ok)(ha:gs[0]? =some a)(hm:iZ S j (rk 0) tag b f0 d0 a w (O 0))(hc:Com S O C bx pre rk j gs w t D d0)(hwg:WgAt S.ty S.Wg w st sm)(hmode:ConcN.Mode j D tag st sm)
 {i:Nat}(hi:i<j){g:Goroutine}(hg:gs[i+1]? =some g)(hpre:0<pre i)(iY:sJ S j (upd pre i 0) w)(h:S.CZ g w)(hst:(D i).stage=7)(hde:(D i).deaf=0):
 ∃m₁ ops μ',runT S.P (crowd gs w sl) (i+1)=(.next m₁,ops)∧yU S μ' (mu S j D tag b pre rk f0)∧Inv S μ' m₁ (t ++ ops):=by
 obtain⟨⟨m,h1⟩,m',h2⟩:=h
 have hc':=hc.rename hS hi hg (x':=rk (i+1)) hst hde iY (.r0 h1 h2)
 rw[tX] at hc'
 have e4:=sumTo_upd pre 0 id hi
 have ev:(sumTo j fun q=>cnt (upd D i ⟨7,m+m',0⟩ q))=sumTo j fun q=>cnt (D q):=by
  have:=sumTo_upd D (⟨7,m+m',0⟩:WD) cnt hi
  have c1:cnt (D i)=1:=by simp[cnt,hst]
  have c2:cnt (⟨7,m+m',0⟩:WD)=1:=by simp[cnt]
  omega
 have es:(sumTo j fun q=>(upd D i ⟨7,m+m',0⟩ q).stage)=sumTo j fun q=>(D q).stage:=by
  have:=sumTo_upd D (⟨7,m+m',0⟩:WD) WD.stage hi
  simp only[hst] at this
  omega
 obtain⟨m₁,ops,μ',r1,r2,r3⟩:=Uf (sl:=sl) hS ha hm hc' hwg (by have:=hmode.same (i:=i) (m+m') 0;rwa[hst] at this) hi hg (upd_same _ _ _) h1 h2 (by rw[upd_same]) (by rw[upd_same]) (by rw[upd_same])
 refine⟨m₁,ops,μ',r1,Cc r2 ?_,r3⟩
 show 2 * phi S.n (Vc j (upd D i ⟨7,m+m',0⟩)) tag+b+Ssum j (upd D i ⟨7,m+m',0⟩)+sumTo j (fun q=>upd pre i 0 q)<2 * phi S.n (Vc j D) tag+b+Ssum j D+sumTo j (fun q=>pre q)
 simp only[Vc,Ssum,id] at *
 rw[ev,es]
 omega
theorem gh(hS:S.Ok)(ha:gs[0]? =some a)(hm:iZ S j (rk 0) tag b f0 d0 a w (O 0))(hc:Com S O C bx pre rk j gs w t D d0)(hwg:WgAt S.ty S.Wg w st sm)(hmode:ConcN.Mode j D tag st sm)
 {i:Nat}(hi:i<j){g:Goroutine}(hg:gs[i+1]? =some g)(hpre:pre i=1)(hx:(rk (i+1)).1=mq (S.C1 (bx i)) (S.V1 i (bx i)) false S.K7 g w (O (i+1)))(h:Wk S.P false (S.C1 (bx i)) (S.V1 i (bx i)) S.K7 g w (O (i+1)))
 (hst:(D i).stage=7)(hde:(D i).deaf=0):
 ∃m₁ ops μ',runT S.P (crowd gs w sl) (i+1)=(.next m₁,ops)∧yU S μ' (mu S j D tag b pre rk f0)∧Inv S μ' m₁ (t ++ ops):=by
 by_cases hK:S.K7 g w (O (i+1))
 ·refine H7 hS ha hm hc hwg hmode hi hg zo (hc.sent.congr rfl fun k hk=>?_) hK hst hde
  by_cases e:k=i
  ·subst e;rw[upd_same];omega
  ·rw[upd_ne pre _ e]
 ·obtain⟨h0,g2,w3,O2,es,y,r1,r2,r3,r4,r5⟩:=EL h (hc.v1 hi) hK _ hx
  rw[← hc.ci i hi] at r2
  exact TJ hS ha hm hc hwg hmode hi hg r1 r2 hst hde (by rw[hpre];exact .p1 r4 r3) r5
end
theorem uo{p p':Nat→Bool}{i:Nat}(h0:p i=false)(h1:p' i=true)(h2:∀k,k≠i→p' k=p k):∀ {l:List Nat},l.Nodup→i∈l→(l.filter p').Perm (i :: l.filter p)
 | [],_,hi=>by cases hi
 | y :: l,hn,hi=>by
   obtain⟨hy,hn⟩:=List.nodup_cons.1 hn
   by_cases e:y=i
   ·subst e
    have:l.filter p'=l.filter p:=List.filter_congr fun k hk=>h2 k fun e=>hy (e ▸ hk)
    rw[List.filter_cons_of_pos h1,List.filter_cons_of_neg (by simp[h0]),this]
   ·have ih:=uo h0 h1 h2 hn ((List.mem_cons.1 hi).resolve_left fun e2=>e e2.symm)
    by_cases hp:p y=true
    ·rw[List.filter_cons_of_pos (by rw[h2 y e];exact hp),List.filter_cons_of_pos hp]
     exact(ih.cons y).trans (List.Perm.swap i y _)
    ·rw[List.filter_cons_of_neg (by rw[h2 y e];exact hp),List.filter_cons_of_neg hp]
     exact ih
section
variable{S:Site}{O C:Nat→Nat→Prop}{bx pre:Nat→Nat}{rk:Nat→Rank S.P}{j:Nat}{gs:Array Goroutine}{w w':World}{sl:Option (Nat × Nat)}{t:Trace}{D:Nat→WD}{tag:CTag}{b f0 d0:Nat}{a:Goroutine}{st sm:Int}
theorem Ao(w:World)(c n s q:Nat)(buf:Array Value)(x y:Bool):(∀k,k≠c→(w.setChan c n buf x s q y).heap[k]? =w.heap[k]?)∧(w.setChan c n buf x s q y).heap.size=w.heap.size∧(c<w.heap.size→(w.setChan c n buf x s q y).heap[c]? =some (.chan n buf x s q y)):=by
 refine⟨fun k hk=>?_,by simp[World.setChan],fun hc=>?_⟩
 ·simp only[World.setChan]
  exact Array.getElem?_setIfInBounds_ne (fun e=>hk e.symm)
 ·simp only[World.setChan]
  exact Array.getElem?_setIfInBounds_self_of_lt hc
theorem iZ.offers{x:Rank S.P}{O0:Nat→Prop}(h:iZ S j x .blk b f0 d0 a w O0):a.offers=none:=by
 cases h with
 | blk e hb=>exact(hb w fun x=>x).2.1
theorem Ug(hS:S.Ok)(ha:gs[0]? =some a)(hm:iZ S j (rk 0) tag b f0 d0 a w (O 0))(hc:Com S O C bx pre rk j gs w t D d0)(hwg:WgAt S.ty S.Wg w st sm)(hmode:ConcN.Mode j D tag st sm)
 {i:Nat}(hi:i<j){g:Goroutine}(hg:gs[i+1]? =some g)(hpre:pre i=2)(hbit:S.bit i=true)(hK:S.Q9 i (bx i) g w (O (i+1)))(hst:(D i).stage=7)(hde:(D i).deaf=0):
 ∃m₁ ops μ',runT S.P (crowd gs w sl) (i+1)=(.next m₁,ops)∧yU S μ' (mu S j D tag b pre rk f0)∧Inv S μ' m₁ (t ++ ops):=by
 obtain⟨hrun,g2,z,hcomm,hafter⟩:=hK
 obtain⟨buf,s,q,hch,hperm⟩:=hc.sent
 have Zy:=uo (p:=fun i=>S.bit i && decide (pre i≤1)) (p':=fun k=>S.bit k && decide (upd pre i 1 k≤1)) (i:=i) (by simp[hpre]) (by simp[hbit,upd_same]) (fun k e=>by simp only[upd_ne pre _ e]) (l:=List.range j) List.nodup_range (List.mem_range.2 hi)
 have hjn:j≤S.n:=by have:=hm.bound;omega
 have hroom:buf.size<S.n:=by
  have e1:=hperm.length_eq
  have e2:=Zy.length_eq
  have e3:=List.length_filter_le (fun k=>S.bit k && decide (upd pre i 1 k≤1)) (List.range j)
  simp only[List.length_map,Array.length_toList,List.length_cons,List.length_range] at e1 e2 e3
  omega
 have hcl:S.Ch<w.heap.size:=hc.lay.Mh _ (.inr rfl)
 obtain⟨s1,s2,s3⟩:=Ao w S.Ch S.n (s+1) q (buf.push (int i64 i)) false false
 have hp:partners (gs.setIfInBounds (i+1) ph) S.Ch false=[]:=partners_nil fun k y hy=>by
  rcases getElem?_stand gs (i+1) k y hy with⟨_,rfl⟩|⟨_,hy⟩
  ·exact offersAt_ph _ _
  cases k with
  | zero=>
    rw[ha] at hy;cases hy
    rcases hm.status hS hc.v0 with⟨h,_⟩|⟨_,rfl⟩
    ·exact offersAt_of_not_blocked (by rw[h];simp) _ _
    ·simp[offersAt,hm.offers]
  | succ k=>
    have hk:k<j:=by have:=(Array.getElem?_eq_some_iff.1 hy).1;rw[hc.size] at this;omega
    obtain⟨y',hy',hsy⟩:=hc.wk k hk
    rw[hy] at hy';cases hy'
    rcases hsy.status (hc.v1 hk) with h|h <;> exact offersAt_of_not_blocked (by rw[h];simp) _ _
 have hgo:=crowd_send_room (P:=S.P) (sl:=sl) hg (by simpa using hcomm) hch hroom hp
 have hkp:∀k,Keeps (C k) (O k) w (w.setChan S.Ch S.n (buf.push (int i64 i)) false (s+1) q false):=fun k y hy=>s1 y (by
  rcases hy with h|h
  ·exact fun e=>hc.lay.nu k y h (.inr e)
  ·exact fun e=>hc.lay.cS k y h (.inr e))
 have hwg':WgAt S.ty S.Wg (w.setChan S.Ch S.n (buf.push (int i64 i)) false (s+1) q false) st sm:=by unfold WgAt at *;rw[s1 _ hS.wc];exact hwg
 have hl:WgLive S.ty S.Wg (w.setChan S.Ch S.n (buf.push (int i64 i)) false (s+1) q false):=⟨_,_,hwg'⟩
 have iY:sJ S j (upd pre i 1) (w.setChan S.Ch S.n (buf.push (int i64 i)) false (s+1) q false):=by
  refine⟨_,_,_,s3 hcl,?_⟩
  have e1:=Zy.map fun(k:Nat)=>int i64 k
  rw[Array.toList_push]
  exact(List.perm_append_singleton _ _).trans ((hperm.cons _).trans (by simpa using e1.symm))
 have hv1:S.V1 i (bx i) (w.setChan S.Ch S.n (buf.push (int i64 i)) false (s+1) q false):=⟨⟨hl,fun y o hb=>by rw[hkp 0 y (.inr (by rw[hc.c0];simp[Site.Cb,hb]))];exact hc.v0.tab y o hb,iY.chan,hc.v0.env⟩,by rw[hkp (i+1) _ (.inr (by rw[hc.ci i hi];exact .inr rfl))];exact hc.box i hi⟩
 have hW:=hafter _ (by rw[← hc.ci i hi];exact hkp (i+1)) hv1
 obtain⟨y,hy⟩:=sF hW
 have hu0:MemOp.ofEvents (i+1) g.frame.fn g.frame.place #[]=#[]:=by simp[ofEvents_eq]
 rw[hu0,Array.empty_append] at hgo
 have hmu:∀op∈#[({g:=i+1,fn:=g2.frame.fn,pos:=g2.frame.place,act:=.send S.Ch s }:MemOp),{g:=i+1,fn:=g2.frame.fn,pos:=g2.frame.place,act:=.sendDone S.Ch s }],op.g=i+1∧op.act.touch?=none∧(∀m,op.act≠.mark m):=by
  intro op hop
  simp only[List.mem_toArray,List.mem_cons,List.not_mem_nil,or_false] at hop
  rcases hop with rfl|rfl <;> exact⟨rfl,rfl,fun m e=>by cases e⟩
 have hcom:=hc.stepW (gs':=gs.setIfInBounds (i+1) (g2.finishComm S.P #[scase S.Ch (int i64 i) z] .send 0 undef false)) (O1:=O (i+1)) (p':=1) (s':=7) (m':=0) (d':=0)
  (u:=#[({g:=i+1,fn:=g2.frame.fn,pos:=g2.frame.place,act:=.send S.Ch s }:MemOp),{g:=i+1,fn:=g2.frame.fn,pos:=g2.frame.place,act:=.sendDone S.Ch s }]) hS hi (by simp[hc.size])
  (Array.getElem?_setIfInBounds_self_of_lt (by rw[hc.size];omega)) (fun k hk e y hy _=>by rw[Array.getElem?_setIfInBounds_ne zo];exact hy) (by rw[jX];exact hc.lay.grow (Nat.le_of_eq s2.symm)) (fun k _=>hkp k)
  (fun y hy=>hkp (i+1) y (.inr hy)) hl ⟨rfl,rfl,rfl⟩ iY (.p1 hy hW) (by rw[jX];exact hc.ct.appW hc.lay.apart zo zo fun op hop=>⟨(hmu op hop).1,fun x hx=>by rw[(hmu op hop).2.1] at hx;cases hx⟩)
  (oL hc.Qo (Nat.le_of_eq s2.symm) fun op hop x hx=>by rw[(hmu op hop).2.1] at hx;cases hx) (fun op hop=>(hmu op hop).1) (fun op hop=>(hmu op hop).2.2 _) (qY fun op hop=>(hmu op hop).2.1)
  (by rw[Deaf_still t _ _ fun op hop=>⟨(hmu op hop).2.2 _,(hmu op hop).2.2 _⟩,hc.deafW i hi,hde]) zo
 rw[jX] at hcom
 have e4:=sumTo_upd pre 1 id hi
 have ev:(sumTo j fun q=>cnt (upd D i ⟨7,0,0⟩ q))=sumTo j fun q=>cnt (D q):=by
  have:=sumTo_upd D (⟨7,0,0⟩:WD) cnt hi
  have c1:cnt (D i)=1:=by simp[cnt,hst]
  have c2:cnt (⟨7,0,0⟩:WD)=1:=by simp[cnt]
  omega
 have es:(sumTo j fun q=>(upd D i ⟨7,0,0⟩ q).stage)=sumTo j fun q=>(D q).stage:=by
  have:=sumTo_upd D (⟨7,0,0⟩:WD) WD.stage hi
  simp only[hst] at this
  omega
 refine⟨_,_,mu S j (upd D i ⟨7,0,0⟩) tag b (upd pre i 1) (upd rk (i+1) y) f0,hgo,Ei ?_,_,_,sl,j,upd D i ⟨7,0,0⟩,tag,b,f0,d0,a,st,sm,O,C,bx,_,_,rfl,
  by rw[Array.getElem?_setIfInBounds_ne zo];exact ha,by rw[upd_ne rk _ zo];exact hm.keeps (by rw[← hc.c0];exact hkp 0) hl,hcom,hwg',by have:=hmode.same (i:=i) 0 0;rwa[hst] at this,rfl⟩
 show 2 * phi S.n (Vc j (upd D i ⟨7,0,0⟩)) tag+b+Ssum j (upd D i ⟨7,0,0⟩)+sumTo j (fun q=>upd pre i 1 q)<2 * phi S.n (Vc j D) tag+b+Ssum j D+sumTo j (fun q=>pre q)
 simp only[Vc,Ssum,id] at *
 rw[ev,es]
 omega
theorem gi(hS:S.Ok)(ha:gs[0]? =some a)(hm:iZ S j (rk 0) tag b f0 d0 a w (O 0))(hc:Com S O C bx pre rk j gs w t D d0)(hwg:WgAt S.ty S.Wg w st sm)(hmode:ConcN.Mode j D tag st sm)
 {i:Nat}(hi:i<j){g:Goroutine}(hg:gs[i+1]? =some g)(hpre:pre i=2)(hx:(rk (i+1)).1=mq (S.C1 (bx i)) (S.V1 i (bx i)) false (S.K8 i (bx i)) g w (O (i+1)))(h:Wk S.P false (S.C1 (bx i)) (S.V1 i (bx i)) (S.K8 i (bx i)) g w (O (i+1)))
 (hst:(D i).stage=7)(hde:(D i).deaf=0):
 ∃m₁ ops μ',runT S.P (crowd gs w sl) (i+1)=(.next m₁,ops)∧yU S μ' (mu S j D tag b pre rk f0)∧Inv S μ' m₁ (t ++ ops):=by
 by_cases hK:S.K8 i (bx i) g w (O (i+1))
 ·rcases hK with⟨hb,hK⟩|⟨hb,hK⟩
  ·exact Ug hS ha hm hc hwg hmode hi hg hpre hb hK hst hde
  ·refine H7 hS ha hm hc hwg hmode hi hg zo ?_ hK hst hde
   obtain⟨buf,s,q,h1,h2⟩:=hc.sent
   refine⟨buf,s,q,h1,?_⟩
   have:((List.range j).filter fun k=>S.bit k && decide (upd pre i 0 k≤1))=(List.range j).filter fun k=>S.bit k && decide (pre k≤1):=List.filter_congr fun k _=>by
    by_cases e:k=i
    ·subst e;simp[hb]
    ·rw[upd_ne pre _ e]
   rw[this];exact h2
 ·obtain⟨h0,g2,w3,O2,es,y,r1,r2,r3,r4,r5⟩:=EL h (hc.v1 hi) hK _ hx
  rw[← hc.ci i hi] at r2
  exact TJ hS ha hm hc hwg hmode hi hg r1 r2 hst hde (by rw[hpre];exact .p2 r4 r3) r5
theorem stepWorker(hS:S.Ok)(ha:gs[0]? =some a)(hm:iZ S j (rk 0) tag b f0 d0 a w (O 0))(hc:Com S O C bx pre rk j gs w t D d0)(hwg:WgAt S.ty S.Wg w st sm)(hmode:ConcN.Mode j D tag st sm)
 {i:Nat}(hi:i<j){g:Goroutine}(hg:gs[i+1]? =some g)(hrun:g.status=.running):
 ∃m₁ ops μ',runT S.P (crowd gs w sl) (i+1)=(.next m₁,ops)∧yU S μ' (mu S j D tag b pre rk f0)∧Inv S μ' m₁ (t ++ ops):=by
 obtain⟨g₁,hg₁,hs⟩:=hc.wk i hi
 obtain rfl:g=g₁:=by rw[hg] at hg₁;exact Option.some.inj hg₁
 generalize hst:(D i).stage=s at hs
 generalize hfu:(D i).fuel=m at hs
 generalize hde:(D i).deaf=dd at hs
 generalize hpre:pre i=p at hs
 cases hs with
 | p2 hx h=>exact gi hS ha hm hc hwg hmode hi hg hpre hx h hst hde
 | p1 hx h=>exact gh hS ha hm hc hwg hmode hi hg hpre hx h hst hde
 | r0 h1 h2=>exact Uf hS ha hm hc hwg hmode hi hg hpre h1 h2 hst hfu hde
 | late h6 h=>
   rcases h with h|h
   ·exact H9 S.pA (fun _ _ _ _ _ h=>.inl h) hS ha hm hc hwg hmode hi hg hrun hpre h h6 hst hfu hde
   ·exact H9 S.pB (fun _ _ _ _ _ h=>.inr h) hS ha hm hc hwg hmode hi hg hrun hpre h h6 hst hfu hde
end
section
variable{S:Site}{O C:Nat→Nat→Prop}{bx pre:Nat→Nat}{rk:Nat→Rank S.P}{j:Nat}{gs:Array Goroutine}{w w':World}{sl:Option (Nat × Nat)}{t:Trace}{D:Nat→WD}{tag:CTag}{b f0 d0:Nat}{a:Goroutine}{st sm:Int}
def Vp(S:Site)(m:Machine)(t:Trace):Prop:=
 ∃ (gs:Array Goroutine) (w:World) (sl:Option (Nat × Nat)) (D:Nat→WD) (a:Goroutine) (O C:Nat→Nat→Prop) (bx pre:Nat→Nat) (rk:Nat→Rank S.P),
   m=crowd gs w sl∧gs[0]? =some a∧S.Fin a∧Com S O C bx pre rk S.n gs w t D 0∧WgAt S.ty S.Wg w 0 0∧AllQuit S.n D∧AcqAll S.Wg S.n t∧O 0=lX
def gZ(S:Site)(μ:uT S)(t:Trace)(r:Stepped × Array MemOp):Prop:=∃m₁ ops,r=(.next m₁,ops)∧(Vp S m₁ (t ++ ops)∨∃μ',yU S μ' μ∧Inv S μ' m₁ (t ++ ops))
theorem Fq(hS:S.Ok)(ha:gs[0]? =some a)(hc:Com S O C bx pre rk j gs w t D d0){a':Goroutine}{es:Array Event}{O1:Nat→Prop}{x':Rank S.P}{tag':CTag}{b' f':Nat}{st' sm':Int}
 (hgo:stepG S.P true a w=.go a' w' es)(jf:Lay (qR O 0 O1) C S.Sh w')(hk:∀k,k≠0→Keeps (C k) (O k) w w')(eh:∀q,C 0 q→w'.heap[q]? =w.heap[q]?)(Gg:Bp w w')(iY:sJ S j pre w')
 (hct:CT (In S.Sh) (gY O) (Dk C) (t ++ MemOp.ofEvents 0 a.frame.fn a.frame.place es) j)(Ai:Qh (t ++ MemOp.ofEvents 0 a.frame.fn a.frame.place es) w')(DW:MZ S (MemOp.ofEvents 0 a.frame.fn a.frame.place es))(hnr:∀e∈es,e.loc≠.mark (.release (stA S.Wg)))
 (hm':iZ S j x' tag' b' f' (deafBehind d0 es) a' w' O1)(hwg:WgAt S.ty S.Wg w' st' sm')(hmode:ConcN.Mode j D tag' st' sm')
 (hlt:2 * phi S.n (Vc j D) tag'+b'<2 * phi S.n (Vc j D) tag+b∨(2 * phi S.n (Vc j D) tag'+b'=2 * phi S.n (Vc j D) tag+b∧(kS S.P x' (rk 0)∨(x'=rk 0∧f'<f0)))):
 gZ S (mu S j D tag b pre rk f0) t (runT S.P (crowd gs w sl) 0):=by
 have hrun:=runT_crowd_go (P:=S.P) (sl:=sl) (i:=0) ha (by simpa using hgo)
 have hcom:=hc.step0 (gs':=(gs.map (woken S.P a a' w')).setIfInBounds 0 a') (u:=MemOp.ofEvents 0 a.frame.fn a.frame.place es) (x':=x') hS (by simp[hc.size])
  (fun k hk' y hy hst=>by
   rw[get_map_set _ _ _ _ zo,hy,Option.map_some]
   congr 1
   unfold Go.Conc.woken
   split
   ·exact again_running _ hst
   ·rfl) jf hk eh ⟨_,_,hwg⟩ Gg iY hct Ai g_of_ofEvents (norel_of hnr) DW (by rw[Deaf_own,hc.deaf0])
 refine⟨_,_,hrun,.inr ⟨mu S j D tag' b' pre (upd rk 0 x') f',?_,_,w',sl,j,D,tag',b',f',_,a',st',sm',_,C,bx,pre,_,rfl,get_map_set_same _ _ _ (by rw[hc.size];omega),by rw[upd_same,bK];exact hm',hcom,hwg,hmode,rfl⟩⟩
 rcases hlt with h|⟨h1,h2⟩
 ·refine Prod.Lex.left _ _ ?_
  omega
 ·unfold mu
  rw[h1]
  refine Prod.Lex.right _ ?_
  rcases h2 with h2|⟨h2,h3⟩
  ·exact Prod.Lex.left _ _ ⟨0,zo,by rw[upd_same];exact h2,fun k hk'=>upd_ne rk _ hk'⟩
  ·rw[h2,tX]
   exact Prod.Lex.right _ zo
theorem GV(hS:S.Ok)(ha:gs[0]? =some a)(hc:Com S O C bx pre rk j gs w t D d0)(hwg:WgAt S.ty S.Wg w st sm)(hmode:ConcN.Mode j D tag st sm)
 {a':Goroutine}{es:Array Event}{O1:Nat→Prop}{x':Rank S.P}(hgo:stepG S.P true a w=.go a' w' es)(d:Did (C 0) (O 0) O1 w w' es.toList)(hd:d0=0)
 (hm':iZ S j x' tag b f0 0 a' w' O1)(hr:kS S.P x' (rk 0)):gZ S (mu S j D tag b pre rk f0) t (runT S.P (crowd gs w sl) 0):=by
 subst hd
 have hev:∀e∈es,Qu O1 (C 0) e:=fun e he=>d.evs e (by simpa using he)
 have jf:=hc.lay.did d
 have hbW:w'.heap[S.Wg]? =w.heap[S.Wg]?:=hc.lay.shared d (.inl rfl)
 have hdf:deafBehind 0 es=0:=deafBehind_idle (fun e he=>⟨(jy (hev e he)).1,(jy (hev e he)).2.1⟩) 0
 have o0:∀k,1≤k→qR O 0 O1 k=O k:=fun k hk=>dW O O1 zo
 refine Fq hS ha hc hgo jf (fun k hk=>hc.lay.keeps d hk) (fun q hq=>hc.lay.common d hq) ⟨d.os,d.output,d.tape⟩ (hc.sent.congr (hc.lay.shared d (.inr rfl)) fun _ _=>Iff.rfl) (hc.ct.app0 hc.lay.apart fun op hop=>?_) (MU hc.lay d hc.Qo _ _) (Lp hev _ _)
  (fun e he=>(jy (hev e he)).2.2 _) (by rw[hdf];exact hm') (by unfold WgAt at *;rw[hbW];exact hwg) hmode (.inr ⟨rfl,.inl hr⟩)
 obtain⟨e,he,rfl⟩:=mem_ofEvents hop
 refine Kj (hc.lay.grow d.size) (hev e he) (fun q hq=>⟨fun k hk=>⟨fun h=>?_,fun h=>?_⟩,fun h=>?_⟩) (fun q hq=>⟨fun k hk h=>?_,fun h=>?_⟩) _ _
 ·have:=jf.own 0 k q (by rw[bK];exact hq) (by rw[o0 k hk];exact h);omega
 ·exact jf.oQ 0 k q (by rw[bK];exact hq) h
 ·exact jf.nu 0 q (by rw[bK];exact hq) h
 ·exact hc.lay.oQ k 0 q h hq
 ·exact hc.lay.cS 0 q hq h
theorem iT(hS:S.Ok)(ha:gs[0]? =some a)(hc:Com S O C bx pre rk j gs w t D d0)
 {a':Goroutine}{es:Array Event}{tag':CTag}{b' f':Nat}{st' sm':Int}(hgo:stepG S.P true a w=.go a' w' es)(hAs:Aside S.Wg w w')(hwg:WgAt S.ty S.Wg w' st' sm')
 (hev:∀e∈es,∀x,(MemAct.ofEvent e).touch?=some x→ShN S.Wg x.loc∧x.kind≠.plain)(hnr:∀e∈es,e.loc≠.mark (.release (stA S.Wg)))
 (hm':iZ S j (rk 0) tag' b' f' (deafBehind d0 es) a' w' (O 0))(hmode:ConcN.Mode j D tag' st' sm')
 (hlt:2 * phi S.n (Vc j D) tag'+b'<2 * phi S.n (Vc j D) tag+b∨(2 * phi S.n (Vc j D) tag'+b'=2 * phi S.n (Vc j D) tag+b∧f'<f0)):
 gZ S (mu S j D tag b pre rk f0) t (runT S.P (crowd gs w sl) 0):=by
 have hkp:∀k,Keeps (C k) (O k) w w':=fun k q hq=>hAs.block q (by
  rcases hq with h|h
  ·exact fun e=>hc.lay.nu k q h (.inl e)
  ·exact fun e=>hc.lay.cS k q h (.inl e))
 refine Fq (O1:=O 0) (x':=rk 0) hS ha hc hgo (by rw[jX];exact hc.lay.grow (Nat.le_of_eq hAs.size.symm)) (fun k _=>hkp k) (fun q hq=>hkp 0 q (.inr hq)) ⟨hAs.os,hAs.output,hAs.tape⟩ (hc.sent.congr (hAs.block _ (Ne.symm hS.wc)) fun _ _=>Iff.rfl)
  (hc.ct.app0 hc.lay.apart fun op hop=>?_) (oL hc.Qo (Nat.le_of_eq hAs.size.symm) fun op hop x hx q hq=>?_) (Rk (fun e he x hx=>(hev e he x hx).1) _ _) hnr hm' hwg hmode ?_
 ·obtain⟨e,he,rfl⟩:=mem_ofEvents hop
  refine⟨rfl,fun x hx=>.inl ?_⟩
  obtain⟨⟨q,h1,h2⟩,h3⟩:=hev e he x hx
  exact⟨by rw[h1];exact .inl h2,h3⟩
 ·obtain⟨e,he,rfl⟩:=mem_ofEvents hop
  obtain⟨⟨ad,h1,h2⟩,_⟩:=hev e he x hx
  rw[h1] at hq
  simp only[In] at hq
  have:=hc.lay.Mh S.Wg (.inl rfl)
  have:=hAs.size
  omega
 ·rcases hlt with h|⟨h1,h2⟩
  ·exact .inl h
  ·exact .inr ⟨h1,.inr ⟨rfl,h2⟩⟩
theorem DJ{es:Array Event}(h:∀e∈es,Bk S.Wg e):∀e∈es,∀x,(MemAct.ofEvent e).touch?=some x→ShN S.Wg x.loc∧x.kind≠.plain:=fun e he x hx=>⟨(wK h e he x hx).1,(wK h e he x hx).2.1⟩
theorem FR{m:Mark}(h:∀x,(MemAct.ofEvent ⟨.mark m,false,true⟩).touch?=some x→ShN S.Wg x.loc∧x.kind≠.plain):∀e∈#[(⟨.mark m,false,true⟩:Event)],∀x,(MemAct.ofEvent e).touch?=some x→ShN S.Wg x.loc∧x.kind≠.plain:=by
 intro e he;simp at he;subst he;exact h
theorem cY:∀x,(MemAct.ofEvent ⟨.mark (.read ⟨S.Wg,1,none⟩),false,true⟩).touch?=some x→ShN S.Wg x.loc∧x.kind≠.plain:=by
 intro x hx
 simp[MemAct.ofEvent,MemAct.touch?] at hx
 subst hx
 exact⟨⟨_,rfl,rfl⟩,zs⟩
theorem da:∀x,(MemAct.ofEvent ⟨.mark (.write ⟨S.Wg,1,none⟩),false,true⟩).touch?=some x→ShN S.Wg x.loc∧x.kind≠.plain:=by
 intro x hx
 simp[MemAct.ofEvent,MemAct.touch?] at hx
 subst hx
 exact⟨⟨_,rfl,rfl⟩,zs⟩
end
section
variable{S:Site}{O C:Nat→Nat→Prop}{bx pre:Nat→Nat}{rk:Nat→Rank S.P}{j:Nat}{gs:Array Goroutine}{w w':World}{sl:Option (Nat × Nat)}{t:Trace}{D:Nat→WD}{tag:CTag}{b f0 d0:Nat}{a:Goroutine}{st sm:Int}
theorem Com.spawn(hS:S.Ok)(h:Com S O C bx pre rk j gs w t D 0){a' child:Goroutine}{bq:Nat}{x y:MemOp}(hx:x.g=0∧x.act=.go (j+1))(hy:y.g=j+1∧y.act=.start)
 (hO:∀q,O 0 q↔q=bq)(jM:w.heap[bq]? =some (S.Rv j)){x1 x2:Rank S.P}(hx2:x2.1=mq (S.C1 bq) (S.V1 j bq) false (S.K8 j bq) child w lX)(hW:Wk S.P false (S.C1 bq) (S.V1 j bq) (S.K8 j bq) child w lX):
 Com S (qR O 0 lX) (qR C (j+1) (S.C1 bq)) (upd bx j bq) (upd pre j 2) (upd (upd rk (j+1) x2) 0 x1) (j+1) ((gs.setIfInBounds 0 a').push child) w (t ++ #[x,y]) (upd D j ⟨7,0,0⟩) 0:=by
 have hm:∀op∈#[x,y],op=x∨op=y:=by intro op hop;simpa using hop
 have hst:∀op∈#[x,y],op.act.touch?=none∧∀m,op.act≠.mark m:=by
  intro op hop
  rcases hm op hop with rfl|rfl
  ·rw[hx.2];exact⟨rfl,fun m e=>by cases e⟩
  ·rw[hy.2];exact⟨rfl,fun m e=>by cases e⟩
 have hb0:O 0 bq:=(hO bq).2 rfl
 have oO:∀k q,qR O 0 lX k q→k≠0∧O k q:=fun k q hq=>by
  by_cases e:k=0
  ·subst e;rw[bK] at hq;exact hq.elim
  ·rw[dW O _ e] at hq;exact⟨e,hq⟩
 have cC:∀k q,qR C (j+1) (S.C1 bq) k q→C k q∨C 0 q∨q=bq:=fun k q hq=>by
  by_cases e:k=j+1
  ·subst e;rw[bK] at hq
   rcases hq with hq|hq
   ·exact .inr (.inl (by rw[h.c0];exact hq))
   ·exact .inr (.inr hq)
  ·rw[dW C _ e] at hq;exact .inl hq
 have jf:Lay (qR O 0 lX) (qR C (j+1) (S.C1 bq)) S.Sh w:=by
  refine⟨fun k k' q h1 h2=>h.lay.own k k' q (oO k q h1).2 (oO k' q h2).2,fun k k' q h1 h2=>?_,fun k q h1=>h.lay.nu k q (oO k q h1).2,fun k q h1=>?_,fun k q h1=>h.lay.Mg k q (oO k q h1).2,fun k q h1=>?_,h.lay.Mh⟩
  ·obtain⟨e,h1⟩:=oO k q h1
   rcases cC k' q h2 with h2|h2|rfl
   ·exact h.lay.oQ k k' q h1 h2
   ·exact h.lay.oQ k 0 q h1 h2
   ·exact e (h.lay.own k 0 q h1 hb0)
  ·rcases cC k q h1 with h1|h1|rfl
   ·exact h.lay.cS k q h1
   ·exact h.lay.cS 0 q h1
   ·exact h.lay.nu 0 q hb0
  ·rcases cC k q h1 with h1|h1|rfl
   ·exact h.lay.Oe k q h1
   ·exact h.lay.Oe 0 q h1
   ·exact h.lay.Mg 0 q hb0
 have hsz:((gs.setIfInBounds 0 a').push child).size=j+1+1:=by simp[h.size]
 refine⟨hsz,jf,by rw[dW C _ zo];exact h.c0,fun i hi=>?_,fun k q hk=>⟨fun hq=>(h.z k q zo).1 (oO k q hq).2,by rw[dW C _ zo];exact(h.z k q zo).2⟩,h.v0,fun i hi=>?_,fun i hi=>?_,
  CT.fork jf.apart (CT.congr h.ct (fun k k1 k2=>by unfold gY;rw[dW O _ zo]) (fun k k1 k2=>by unfold Dk;rw[dW C _ zo])) hx hy h.deaf0,
  oL h.Qo (Nat.le_refl _) (fun op hop z hz=>by rw[(hst op hop).1] at hz;cases hz),h.norel.app fun op hop=>(hst op hop).2 _,by rw[Deaf_still t 0 _ fun op hop=>⟨(hst op hop).2 _,(hst op hop).2 _⟩,h.deaf0],fun i hi=>?_,fun i hi hs=>?_,?_,h.vm.app (qY fun op hop=>(hst op hop).1)⟩
 ·by_cases e:i=j
  ·subst e;rw[bK,upd_same]
  ·rw[dW C _ zo,upd_ne bx _ e];exact h.ci i zo
 ·by_cases e:i=j
  ·subst e;rw[upd_same];exact jM
  ·rw[upd_ne bx _ e];exact h.box i zo
 ·by_cases e:i=j
  ·subst e
   refine⟨child,?_,?_⟩
   ·rw[show i+1=(gs.setIfInBounds 0 a').size by simp[h.size],Array.getElem?_push_size]
   ·have e1:qR O 0 lX (i+1)=lX:=by
     rw[dW O _ zo]
     funext q
     exact propext ⟨fun hq=>((h.z (i+1) q zo).1 hq).elim,fun hq=>hq.elim⟩
    rw[upd_ne (upd rk (i+1) x2) x1 (show i+1≠0 by omega),e1]
    simp only[upd_same]
    exact .p2 hx2 hW
  ·obtain⟨g,hg,hs⟩:=h.wk i zo
   refine⟨g,?_,?_⟩
   ·rw[Array.getElem?_push_lt (by simp[h.size];omega),← Array.getElem?_eq_getElem,Array.getElem?_setIfInBounds_ne zo]
    exact hg
   ·rw[upd_ne (upd rk (j+1) x2) x1 (show i+1≠0 by omega),upd_ne rk x2 (show i+1≠j+1 by omega),upd_ne bx _ e,upd_ne pre _ e,upd_ne D _ e,dW O _ zo]
    exact hs
 ·rw[Deaf_still t _ _ fun op hop=>⟨(hst op hop).2 _,(hst op hop).2 _⟩]
  by_cases e:i=j
  ·subst e;rw[upd_same]
   exact Deaf_absent fun q op hq e=>by have:=h.ct.gs q op hq;omega
  ·rw[upd_ne D _ e];exact h.deafW i zo
 ·by_cases e:i=j
  ·subst e;rw[upd_same] at hs;simp at hs
  ·rw[upd_ne D _ e] at hs
   obtain⟨r,hr⟩:=h.rel i zo hs
   refine⟨r,hr.appNot fun op hop=>?_⟩
   rcases hm op hop with rfl|rfl
   ·rw[hx.1];omega
   ·rw[hy.1];omega
 ·obtain⟨buf,s,q,h1,h2⟩:=h.sent
  refine⟨buf,s,q,h1,?_⟩
  have e1:((List.range (j+1)).filter fun i=>S.bit i && decide (upd pre j 2 i≤1))=(List.range j).filter fun i=>S.bit i && decide (pre i≤1):=by
   rw[List.range_succ,List.filter_append,List.filter_cons_of_neg (by simp[upd_same]),List.filter_nil,List.append_nil]
   exact List.filter_congr fun k hk=>by rw[upd_ne pre _ (by have:=List.mem_range.1 hk;omega)]
  rw[e1];exact h2
theorem fX(hS:S.Ok)(ha:gs[0]? =some a)(hc:Com S O C bx pre rk j gs w t D 0)(hwg:WgAt S.ty S.Wg w st sm){r:Nat}(hmode:ConcN.Mode j D (.sp r 0) st sm)(hj:j+(r+1)=S.n)
 (h:S.IZ j (S.Sp r) a w (O 0)):gZ S (mu S j D (.sp r 0) 0 pre rk f0) t (runT S.P (crowd gs w sl) 0):=by
 obtain⟨hrun,a',child,bq,hgo,hcr,hO,jM,hW,hnext⟩:=h
 have hrunT:=runT_crowd_spawn (P:=S.P) (sl:=sl) (i:=0) ha (by simpa using hgo)
 have hu0:MemOp.ofEvents 0 a.frame.fn a.frame.place #[]=#[]:=by simp[ofEvents_eq]
 rw[hu0] at hrunT
 obtain⟨x2,hx2⟩:=sF hW
 cases hmode with
 | opn h1 h2 h3=>
   have eV:Vc (j+1) (upd D j ⟨7,0,0⟩)=Vc j D+1:=by
    simp only[Vc,sumTo,upd_same]
    rw[sumTo_congr (g:=fun i=>cnt (D i)) fun i hi=>by rw[upd_ne D _ zo]]
    simp[cnt]
   have eS:Ssum (j+1) (upd D j ⟨7,0,0⟩)=Ssum j D+7:=by
    simp only[Ssum,sumTo,upd_same]
    rw[sumTo_congr (g:=fun i=>(D i).stage) fun i hi=>by rw[upd_ne D _ zo]]
   have eP:sumTo (j+1) (upd pre j 2)=sumTo j pre+2:=by
    simp only[sumTo,upd_same]
    rw[sumTo_congr (g:=pre) fun i hi=>by rw[upd_ne pre _ zo]]
   have ho:OpenSt (j+1) (upd D j ⟨7,0,0⟩):=fun i hi=>by
    by_cases e:i=j
    ·subst e;rw[upd_same];simp
    ·rw[upd_ne D _ e];exact h2 i zo
   have fin:∀ {tag':CTag} {f':Nat} {x1:Rank S.P},iZ S (j+1) x1 tag' 0 f' 0 a' w lX→isOpen tag'→pend tag'=0→(∀vs,tag'≠.w2 vs)→(∀v v',2 * phi S.n v tag'+9<2 * phi S.n v' (.sp r 0))→
    gZ S (mu S j D (.sp r 0) 0 pre rk f0) t (runT S.P (crowd gs w sl) 0):=by
    intro tag' f' x1 hm' o1 o2 o3 o4
    refine⟨_,_,hrunT,.inr ⟨mu S (j+1) (upd D j ⟨7,0,0⟩) tag' 0 (upd pre j 2) (upd (upd rk (j+1) x2) 0 x1) f',Ei ?_,(gs.setIfInBounds 0 a').push child,w,sl,j+1,upd D j ⟨7,0,0⟩,tag',0,f',0,a',_,_,qR O 0 lX,qR C (j+1) (S.C1 bq),upd bx j bq,_,_,rfl,?_,?_,
     ?_,hwg,?_,rfl⟩⟩
    ·show 2 * phi S.n (Vc (j+1) (upd D j ⟨7,0,0⟩)) tag'+0+Ssum (j+1) (upd D j ⟨7,0,0⟩)+sumTo (j+1) (upd pre j 2)<2 * phi S.n (Vc j D) (.sp r 0)+0+Ssum j D+sumTo j pre
     have:=o4 (Vc (j+1) (upd D j ⟨7,0,0⟩)) (Vc j D)
     rw[eS,eP]
     omega
    ·rw[Array.getElem?_push_lt (by simp[hc.size]),← Array.getElem?_eq_getElem]
     exact Array.getElem?_setIfInBounds_self_of_lt (by rw[hc.size];omega)
    ·rw[upd_same,bK];exact hm'
    ·exact hc.spawn hS (x:={g:=0,fn:=a.frame.fn,pos:=a.frame.place,act:=.go gs.size }) (y:={g:=gs.size,fn:=child.frame.fn,pos:=a.frame.place,act:=.start }) ⟨rfl,by rw[hc.size]⟩ ⟨hc.size,rfl⟩ hO jM hx2 hW
    ·have:=ConcN.Mode.opn (j:=j+1) (D:=upd D j ⟨7,0,0⟩) (tag:=tag') o1 ho (fun vs e=>absurd e (o3 vs))
     rw[eV,o2] at this
     exact this
   cases r with
   | zero=>
     obtain⟨m,hk⟩:=hnext
     exact fin (x1:=rk 0) (.kd zo hk) trivial rfl zs fun v v'=>by simp only[phi];omega
   | succ r=>
     have hk:Wk S.P true S.Cb S.V0 (S.yX (S.n - (r+1)) (S.Sp r)) a' w lX:=hnext
     rw[show S.n - (r+1)=j+1 by omega] at hk
     obtain⟨x1,hx1⟩:=sF hk
     exact fin (.skd zo hx1 hk) trivial rfl zs fun v v'=>by simp only[phi];omega
 | reg h1 _ _=>exact h1.elim
 | last L h1 _ _ _=>exact h1.elim
 | fin h1 _=>exact h1.elim
end
end
section
open Go.Conc Go.ConcN Go.cu Go.Conc.Lib
open Go.ConcR (KK WgAt stA smA rd wr g_of_ofEvents Payload DC0 again_blocked Bk ofEvent_loc_mark ofEvent_cell bk_of_mute ofEvent_mk)
variable[Inhabited aV]
section
variable{S:Site}{O C:Nat→Nat→Prop}{bx pre:Nat→Nat}{rk:Nat→Rank S.P}{j:Nat}{gs:Array Goroutine}{w w':World}{sl:Option (Nat × Nat)}{t:Trace}{D:Nat→WD}{tag:CTag}{b f0 d0:Nat}{a:Goroutine}{st sm:Int}
theorem gZ.mono{μ μ':uT S}{r:Stepped × Array MemOp}(h:gZ S μ' t r)(hl:μ'.1<μ.1):gZ S μ t r:=by
 obtain⟨m₁,ops,h1,h2⟩:=h
 exact⟨m₁,ops,h1,h2.imp id fun⟨μ2,h3,h4⟩=>⟨μ2,Cc h3 hl,h4⟩⟩
theorem Com.rk0(h:Com S O C bx pre rk j gs w t D d0)(x1:Rank S.P):Com S O C bx pre (upd rk 0 x1) j gs w t D d0:=
 {h with wk:=fun i hi=>by rw[upd_ne rk _ zo];exact h.wk i hi }
theorem dZ(hS:S.Ok)(ha:gs[0]? =some a)(hc:Com S O C bx pre rk j gs w t D d0)(hwg:WgAt S.ty S.Wg w st sm)(hmode:ConcN.Mode j D tag st sm){a':Goroutine}{f':Nat}(hgo:stepG S.P true a w=.go a' w #[])
 (hm':iZ S j (rk 0) tag b f' d0 a' w (O 0))(hlt:f'<f0):gZ S (mu S j D tag b pre rk f0) t (runT S.P (crowd gs w sl) 0):=
 iT hS ha hc hgo (.refl S.Wg w) hwg zs zs hm' hmode (.inr ⟨rfl,hlt⟩)
theorem gP(hS:S.Ok)(ha:gs[0]? =some a)(hc:Com S O C bx pre rk j gs w t D d0)(hwg:WgAt S.ty S.Wg w st sm){tag':CTag}{b':Nat}(hmode:ConcN.Mode j D tag' st sm){a':Goroutine}{f':Nat}{es:Array Event}(hgo:stepG S.P true a w=.go a' w es)
 (hbk:∀e∈es,Bk S.Wg e)(hm':iZ S j (rk 0) tag' b' f' (deafBehind d0 es) a' w (O 0))(hlt:2 * phi S.n (Vc j D) tag'+b'<2 * phi S.n (Vc j D) tag+b):gZ S (mu S j D tag b pre rk f0) t (runT S.P (crowd gs w sl) 0):=
 iT hS ha hc hgo (.refl S.Wg w) hwg (DJ hbk) (norel_of_Bk hbk) hm' hmode (.inl hlt)
theorem Mode.opened(h:ConcN.Mode j D tag st sm)(ho:isOpen tag):OpenSt j D∧(∀vs,tag=.w2 vs→Vc j D≤vs∧1≤vs)∧st=((Vc j D+pend tag:Nat):Int) * KK∧sm=0:=by
 cases h with
 | opn h1 h2 h3=>exact⟨h2,h3,rfl,rfl⟩
 | reg h1 _ _=>cases tag <;> first|exact h1.elim|exact ho.elim
 | last L h1 _ _ _=>cases tag <;> first|exact h1.elim|exact ho.elim
 | sema _=>exact ho.elim
 | fin h1 _=>cases tag <;> first|exact h1.elim|exact ho.elim
theorem Mode.ended(h:ConcN.Mode j D tag st sm)(ho:isFin tag):AllQuit j D∧st=0∧sm=0:=by
 cases h with
 | opn h1 _ _=>cases tag <;> first|exact h1.elim|exact ho.elim
 | reg h1 _ _=>cases tag <;> first|exact h1.elim|exact ho.elim
 | last L h1 _ _ _=>cases tag <;> first|exact h1.elim|exact ho.elim
 | sema _=>exact ho.elim
 | fin h1 h2=>exact⟨h2,rfl,rfl⟩
theorem Mode.moved{tag':CTag}(h:ConcN.Mode j D tag st sm)(ho:isOpen tag)(ho':isOpen tag')(hp:pend tag'=pend tag)(hv:∀vs,tag'=.w2 vs→Vc j D≤vs∧1≤vs):ConcN.Mode j D tag' st sm:=by
 obtain⟨h1,_,rfl,rfl⟩:=Mode.opened h ho
 rw[← hp]
 exact .opn ho' h1 hv
theorem MK(hS:S.Ok)(ha:gs[0]? =some a)(hc:Com S O C bx pre rk j gs w t D 0)(hwg:WgAt S.ty S.Wg w st sm){r:Nat}(hmode:ConcN.Mode j D (.sp r 0) st sm)(hj:j+(r+1)=S.n)
 (hx:(rk 0).1=mq S.Cb S.V0 true (S.IZ j (S.Sp r)) a w (O 0))(h:Wk S.P true S.Cb S.V0 (S.IZ j (S.Sp r)) a w (O 0)):gZ S (mu S j D (.sp r 0) 0 pre rk 0) t (runT S.P (crowd gs w sl) 0):=by
 by_cases hK:S.IZ j (S.Sp r) a w (O 0)
 ·exact fX hS ha hc hwg hmode hj hK
 ·obtain⟨h0,g2,w3,O2,es,y,r1,r2,r3,r4,r5⟩:=EL h hc.v0 hK _ hx
  rw[← hc.c0] at r2
  exact GV hS ha hc hwg hmode r1 r2 rfl (.sgo hj r4 r3) r5
theorem Ya(hS:S.Ok)(ha:gs[0]? =some a)(hc:Com S O C bx pre rk j gs w t D 0)(hwg:WgAt S.ty S.Wg w st sm){r:Nat}(hmode:ConcN.Mode j D (.sp r 5) st sm)(hj:j+(r+1)=S.n)
 (hx:(rk 0).1=mq S.Cb S.V0 true (S.yX j (S.Sp r)) a w (O 0))(h:Wk S.P true S.Cb S.V0 (S.yX j (S.Sp r)) a w (O 0)):gZ S (mu S j D (.sp r 5) 0 pre rk 0) t (runT S.P (crowd gs w sl) 0):=by
 by_cases hK:S.yX j (S.Sp r) a w (O 0)
 ·obtain⟨R,⟨hr,g',hgo,m,hk⟩,hcont⟩:=hK
  exact gP hS ha hc hwg (tag':=.sp r 4) (b':=0) (f':=m) (Mode.moved hmode trivial trivial rfl zs) hgo qp (.sa1 hj hk hcont) (by simp only[phi];omega)
 ·obtain⟨h0,g2,w3,O2,es,y,r1,r2,r3,r4,r5⟩:=EL h hc.v0 hK _ hx
  rw[← hc.c0] at r2
  exact GV hS ha hc hwg hmode r1 r2 rfl (.skd hj r4 r3) r5
theorem XZ(hS:S.Ok)(ha:gs[0]? =some a)(hc:Com S O C bx pre rk j gs w t D 1)(hwg:WgAt S.ty S.Wg w st sm){r:Nat}(hmode:ConcN.Mode j D (.sp r 4) st sm)(hj:j+(r+1)=S.n)
 {R:Goroutine}{m:Nat}(h:S.GL (S.ly R) m a w)(hcont:S.Cont j (S.Sp r) R w (O 0)):gZ S (mu S j D (.sp r 4) 0 pre rk m) t (runT S.P (crowd gs w sl) 0):=by
 rcases Goes.cases h with hs|⟨m',rfl,hs⟩
 ·obtain⟨hr,hall⟩:=hs w fun x=>x
  obtain⟨h1,_,rfl,rfl⟩:=Mode.opened hmode trivial
  have hV:=Vc_le j D
  have hn:=hS.n31
  obtain⟨g',hgo,m₂,hk⟩:=hall (Vc j D) zo (by simpa [pend] using hwg)
  have hwg':WgAt S.ty S.Wg (w.setCell (stA S.Wg) (.int .u64 (((Vc j D:Nat)+1:Int) * KK))) (((Vc j D:Nat)+1:Int) * KK) 0:=hwg.setSt _
  have hAs:=aside_setCell w (stA S.Wg) (.int .u64 (((Vc j D:Nat)+1:Int) * KK))
  refine iT hS ha hc hgo hAs hwg' (DJ bk_rw) (norel_of_Bk bk_rw) (tag':=.sp r 3) (b':=0) (f':=m₂) (.ll hj hk (iw hcont fun q hq=>hAs.block q ?_)) ?_ (.inl (by simp only[phi];omega))
  ·rcases hq with hq|hq
   ·exact fun e=>hc.lay.nu 0 q hq (.inl e)
   ·exact fun e=>hc.lay.cS 0 q (by rw[hc.c0];exact hq) (.inl e)
  ·have:=ConcN.Mode.opn (tag:=.sp r 3) (j:=j) (D:=D) trivial h1 zs
   simpa [pend] using this
 ·obtain⟨g',w',es,hgo,⟨rfl,rfl⟩,hk⟩:=hs w fun x=>x
  exact dZ hS ha hc hwg hmode hgo (.sa1 hj hk hcont) zo
theorem Yd(hS:S.Ok)(ha:gs[0]? =some a)(hc:Com S O C bx pre rk j gs w t D 1)(hwg:WgAt S.ty S.Wg w st sm){r:Nat}(hmode:ConcN.Mode j D (.sp r 3) st sm)(hj:j+(r+1)=S.n)
 {R:Goroutine}{m:Nat}(h:S.GL (S.lB R) m a w)(hcont:S.Cont j (S.Sp r) R w (O 0)):gZ S (mu S j D (.sp r 3) 0 pre rk m) t (runT S.P (crowd gs w sl) 0):=by
 rcases Goes.cases h with hs|⟨m',rfl,hs⟩
 ·rcases hs w fun x=>x with⟨hr,g',hgo,m₂,hk⟩|⟨hr,g',hgo,m₂,hk⟩
  ·exact iT hS ha hc hgo (.refl S.Wg w) hwg (FR cY) (by intro e he;simp at he;subst he;simp[sn]) (tag':=.sp r 2) (b':=0) (f':=m₂) (.ske hj hk hcont) (Mode.moved hmode trivial trivial rfl zs) (.inl (by simp only[phi];omega))
  ·exact gP hS ha hc hwg (tag':=.sp r 1) (b':=0) (f':=m₂) (Mode.moved hmode trivial trivial rfl zs) hgo sN (.fW hj hk hcont) (by simp only[phi];omega)
 ·obtain⟨g',w',es,hgo,⟨rfl,rfl⟩,hk⟩:=hs w fun x=>x
  exact dZ hS ha hc hwg hmode hgo (.ll hj hk hcont) zo
theorem Yb(hS:S.Ok)(ha:gs[0]? =some a)(hc:Com S O C bx pre rk j gs w t D 1)(hwg:WgAt S.ty S.Wg w st sm){r:Nat}(hmode:ConcN.Mode j D (.sp r 2) st sm)(hj:j+(r+1)=S.n)
 {R:Goroutine}{m:Nat}(h:S.GL (S.js R) m a w)(hcont:S.Cont j (S.Sp r) R w (O 0)):gZ S (mu S j D (.sp r 2) 0 pre rk m) t (runT S.P (crowd gs w sl) 0):=by
 rcases Goes.cases h with hs|⟨m',rfl,hs⟩
 ·obtain⟨hr,g',hgo,m₂,hk⟩:=hs w fun x=>x
  exact gP hS ha hc hwg (tag':=.sp r 1) (b':=0) (f':=m₂) (Mode.moved hmode trivial trivial rfl zs) hgo sN (.fW hj hk hcont) (by simp only[phi];omega)
 ·obtain⟨g',w',es,hgo,⟨rfl,rfl⟩,hk⟩:=hs w fun x=>x
  exact dZ hS ha hc hwg hmode hgo (.ske hj hk hcont) zo
theorem Yc(hS:S.Ok)(ha:gs[0]? =some a)(hc:Com S O C bx pre rk j gs w t D 0)(hwg:WgAt S.ty S.Wg w st sm){r:Nat}(hmode:ConcN.Mode j D (.sp r 1) st sm)(hj:j+(r+1)=S.n)
 {R:Goroutine}{m:Nat}(h:S.GL (fun g _=>g=R) m a w)(hcont:S.Cont j (S.Sp r) R w (O 0)):gZ S (mu S j D (.sp r 1) 0 pre rk m) t (runT S.P (crowd gs w sl) 0):=by
 rcases Goes.cases h with hs|⟨m',rfl,hs⟩
 ·have e:a=R:=hs w fun x=>x
  subst e
  have hW:=hcont w (Keeps.refl _ _ _) hc.v0
  obtain⟨x1,hx1⟩:=sF hW
  have:=MK (sl:=sl) hS ha (hc.rk0 x1) hwg (Mode.moved hmode (tag':=.sp r 0) trivial trivial rfl zs) hj (by rw[upd_same];exact hx1) hW
  refine this.mono ?_
  show 2 * phi S.n (Vc j D) (.sp r 0)+0+Ssum j D+sumTo j pre<2 * phi S.n (Vc j D) (.sp r 1)+0+Ssum j D+sumTo j pre
  simp only[phi];omega
 ·obtain⟨g',w',es,hgo,⟨rfl,rfl⟩,hk⟩:=hs w fun x=>x
  exact dZ hS ha hc hwg hmode hgo (.fW hj hk hcont) zo
end
end
end Go.aO
