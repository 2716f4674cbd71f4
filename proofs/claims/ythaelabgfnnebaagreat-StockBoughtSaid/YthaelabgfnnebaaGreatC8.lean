/- Crew13 Crew14 Crew15 Crew16 -/
import Derived.Test.YthaelabgfnnebaaGreatC7
set_option maxRecDepth 100000
set_option maxHeartbeats 16000000
set_option linter.unusedVariables false
set_option linter.unusedSectionVars false
namespace Go.aO
section
open Go.Conc Go.ConcN Go.cu Go.Conc.Lib
open Go.ConcR (KK WgAt stA smA rd wr g_of_ofEvents Payload DC0 again_blocked Bk ofEvent_loc_mark ofEvent_cell bk_of_mute)
variable[Inhabited aS]
section
variable{S:Site}{O C:Nat→Nat→Prop}{bx pre:Nat→Nat}{rk:Nat→Rank S.P}{j:Nat}{gs:Array Goroutine}{w w':World}{sl:Option (Nat × Nat)}{t:Trace}{D:Nat→WD}{tag:CTag}{b f0 d0:Nat}{a:Goroutine}{st sm:Int}
theorem Com.spawn(hS:S.Ok)(h:Com S O C bx pre rk j gs w t D 0){a' child:Goroutine}{bq:Nat}{x y:MemOp}(hx:x.g=0∧x.act=.go (j+1))(hy:y.g=j+1∧y.act=.start)
 (hO:∀q,O 0 q↔q=bq)(kP:w.heap[bq]? =some (S.QK j)){x1 x2:Rank S.P}(hx2:x2.1=mg (S.C1 bq) (S.V1 j bq) false (S.K8 j bq) child w lU)(hW:Wk S.P false (S.C1 bq) (S.V1 j bq) (S.K8 j bq) child w lU):
 Com S (qJ O 0 lU) (qJ C (j+1) (S.C1 bq)) (upd bx j bq) (upd pre j 2) (upd (upd rk (j+1) x2) 0 x1) (j+1) ((gs.setIfInBounds 0 a').push child) w (t ++ #[x,y]) (upd D j ⟨7,0,0⟩) 0:=by
 have hm:∀op∈#[x,y],op=x∨op=y:=by intro op hop;simpa using hop
 have hst:∀op∈#[x,y],op.act.touch?=none∧∀m,op.act≠.mark m:=by
  intro op hop
  rcases hm op hop with rfl|rfl
  ·rw[hx.2];exact⟨rfl,fun m e=>by cases e⟩
  ·rw[hy.2];exact⟨rfl,fun m e=>by cases e⟩
 have hb0:O 0 bq:=(hO bq).2 rfl
 have oO:∀k q,qJ O 0 lU k q→k≠0∧O k q:=fun k q hq=>by
  by_cases e:k=0
  ·subst e;rw[bI] at hq;exact hq.elim
  ·rw[dR O _ e] at hq;exact⟨e,hq⟩
 have cC:∀k q,qJ C (j+1) (S.C1 bq) k q→C k q∨C 0 q∨q=bq:=fun k q hq=>by
  by_cases e:k=j+1
  ·subst e;rw[bI] at hq
   rcases hq with hq|hq
   ·exact .inr (.inl (by rw[h.c0];exact hq))
   ·exact .inr (.inr hq)
  ·rw[dR C _ e] at hq;exact .inl hq
 have iY:Lay (qJ O 0 lU) (qJ C (j+1) (S.C1 bq)) S.Sh w:=by
  refine⟨fun k k' q h1 h2=>h.lay.own k k' q (oO k q h1).2 (oO k' q h2).2,fun k k' q h1 h2=>?_,fun k q h1=>h.lay.nu k q (oO k q h1).2,fun k q h1=>?_,fun k q h1=>h.lay.LC k q (oO k q h1).2,fun k q h1=>?_,h.lay.LD⟩
  ·obtain⟨e,h1⟩:=oO k q h1
   rcases cC k' q h2 with h2|h2|rfl
   ·exact h.lay.oJ k k' q h1 h2
   ·exact h.lay.oJ k 0 q h1 h2
   ·exact e (h.lay.own k 0 q h1 hb0)
  ·rcases cC k q h1 with h1|h1|rfl
   ·exact h.lay.cS k q h1
   ·exact h.lay.cS 0 q h1
   ·exact h.lay.nu 0 q hb0
  ·rcases cC k q h1 with h1|h1|rfl
   ·exact h.lay.Nq k q h1
   ·exact h.lay.Nq 0 q h1
   ·exact h.lay.LC 0 q hb0
 have hsz:((gs.setIfInBounds 0 a').push child).size=j+1+1:=by simp[h.size]
 refine⟨hsz,iY,by rw[dR C _ zo];exact h.c0,fun i hi=>?_,fun k q hk=>⟨fun hq=>(h.z k q zo).1 (oO k q hq).2,by rw[dR C _ zo];exact(h.z k q zo).2⟩,h.v0,fun i hi=>?_,fun i hi=>?_,
  CT.fork iY.apart (CT.congr h.ct (fun k k1 k2=>by unfold gX;rw[dR O _ zo]) (fun k k1 k2=>by unfold Cw;rw[dR C _ zo])) hx hy h.deaf0,
  oC h.Py (Nat.le_refl _) (fun op hop z hz=>by rw[(hst op hop).1] at hz;cases hz),h.norel.app fun op hop=>(hst op hop).2 _,by rw[Deaf_still t 0 _ fun op hop=>⟨(hst op hop).2 _,(hst op hop).2 _⟩,h.deaf0],fun i hi=>?_,fun i hi hs=>?_,?_,h.sn.app (qP fun op hop=>(hst op hop).1)⟩
 ·by_cases e:i=j
  ·subst e;rw[bI,upd_same]
  ·rw[dR C _ zo,upd_ne bx _ e];exact h.ci i zo
 ·by_cases e:i=j
  ·subst e;rw[upd_same];exact kP
  ·rw[upd_ne bx _ e];exact h.box i zo
 ·by_cases e:i=j
  ·subst e
   refine⟨child,?_,?_⟩
   ·rw[show i+1=(gs.setIfInBounds 0 a').size by simp[h.size],Array.getElem?_push_size]
   ·have e1:qJ O 0 lU (i+1)=lU:=by
     rw[dR O _ zo]
     funext q
     exact propext ⟨fun hq=>((h.z (i+1) q zo).1 hq).elim,fun hq=>hq.elim⟩
    rw[upd_ne (upd rk (i+1) x2) x1 (show i+1≠0 by omega),e1]
    simp only[upd_same]
    exact .p2 hx2 hW
  ·obtain⟨g,hg,hs⟩:=h.wk i zo
   refine⟨g,?_,?_⟩
   ·rw[Array.getElem?_push_lt (by simp[h.size];omega),← Array.getElem?_eq_getElem,Array.getElem?_setIfInBounds_ne zo]
    exact hg
   ·rw[upd_ne (upd rk (j+1) x2) x1 (show i+1≠0 by omega),upd_ne rk x2 (show i+1≠j+1 by omega),upd_ne bx _ e,upd_ne pre _ e,upd_ne D _ e,dR O _ zo]
    exact hs
 ·rw[Deaf_still t _ _ fun op hop=>⟨(hst op hop).2 _,(hst op hop).2 _⟩]
  by_cases e:i=j
  ·subst e;rw[upd_same]
   exact Deaf_absent fun q op hq e=>by have:=h.ct.gs q op hq;omega
  ·rw[upd_ne D _ e];exact h.deafW i zo
 ·by_cases e:i=j
  ·subst e;rw[upd_same] at hs;simp at hs
  ·rw[upd_ne D _ e] at hs
   obtain⟨r,hr⟩:=h.rel i zo hs
   refine⟨r,hr.appNot fun op hop=>?_⟩
   rcases hm op hop with rfl|rfl
   ·rw[hx.1];omega
   ·rw[hy.1];omega
 ·obtain⟨buf,s,q,h1,h2⟩:=h.sent
  refine⟨buf,s,q,h1,?_⟩
  have e1:((List.range (j+1)).filter fun i=>S.bit i && decide (upd pre j 2 i≤1))=(List.range j).filter fun i=>S.bit i && decide (pre i≤1):=by
   rw[List.range_succ,List.filter_append,List.filter_cons_of_neg (by simp[upd_same]),List.filter_nil,List.append_nil]
   exact List.filter_congr fun k hk=>by rw[upd_ne pre _ (by have:=List.mem_range.1 hk;omega)]
  rw[e1];exact h2
theorem dt(hS:S.Ok)(ha:gs[0]? =some a)(hc:Com S O C bx pre rk j gs w t D 0)(hwg:WgAt S.ty S.Wg w st sm){r:Nat}(hmode:ConcN.Mode j D (.sp r 0) st sm)(hj:j+(r+1)=S.n)
 (h:S.Ih j (S.Sp r) a w (O 0)):gY S (mu S j D (.sp r 0) 0 pre rk f0) t (runT S.P (crowd gs w sl) 0):=by
 obtain⟨hrun,a',child,bq,hgo,hcr,hO,kP,hW,hnext⟩:=h
 have hrunT:=runT_crowd_spawn (P:=S.P) (sl:=sl) (i:=0) ha (by simpa using hgo)
 have hu0:MemOp.ofEvents 0 a.frame.fn a.frame.place #[]=#[]:=by simp[ofEvents_eq]
 rw[hu0] at hrunT
 obtain⟨x2,hx2⟩:=rW hW
 cases hmode with
 | opn h1 h2 h3=>
   have eV:Vc (j+1) (upd D j ⟨7,0,0⟩)=Vc j D+1:=by
    simp only[Vc,sumTo,upd_same]
    rw[sumTo_congr (g:=fun i=>cnt (D i)) fun i hi=>by rw[upd_ne D _ zo]]
    simp[cnt]
   have eS:Ssum (j+1) (upd D j ⟨7,0,0⟩)=Ssum j D+7:=by
    simp only[Ssum,sumTo,upd_same]
    rw[sumTo_congr (g:=fun i=>(D i).stage) fun i hi=>by rw[upd_ne D _ zo]]
   have eP:sumTo (j+1) (upd pre j 2)=sumTo j pre+2:=by
    simp only[sumTo,upd_same]
    rw[sumTo_congr (g:=pre) fun i hi=>by rw[upd_ne pre _ zo]]
   have ho:OpenSt (j+1) (upd D j ⟨7,0,0⟩):=fun i hi=>by
    by_cases e:i=j
    ·subst e;rw[upd_same];simp
    ·rw[upd_ne D _ e];exact h2 i zo
   have fin:∀ {tag':CTag} {f':Nat} {x1:Rank S.P},iT S (j+1) x1 tag' 0 f' 0 a' w lU→isOpen tag'→pend tag'=0→(∀vs,tag'≠.w2 vs)→(∀v v',2 * phi S.n v tag'+9<2 * phi S.n v' (.sp r 0))→
    gY S (mu S j D (.sp r 0) 0 pre rk f0) t (runT S.P (crowd gs w sl) 0):=by
    intro tag' f' x1 hm' o1 o2 o3 o4
    refine⟨_,_,hrunT,.inr ⟨mu S (j+1) (upd D j ⟨7,0,0⟩) tag' 0 (upd pre j 2) (upd (upd rk (j+1) x2) 0 x1) f',Dz ?_,(gs.setIfInBounds 0 a').push child,w,sl,j+1,upd D j ⟨7,0,0⟩,tag',0,f',0,a',_,_,qJ O 0 lU,qJ C (j+1) (S.C1 bq),upd bx j bq,_,_,rfl,?_,?_,
     ?_,hwg,?_,rfl⟩⟩
    ·show 2 * phi S.n (Vc (j+1) (upd D j ⟨7,0,0⟩)) tag'+0+Ssum (j+1) (upd D j ⟨7,0,0⟩)+sumTo (j+1) (upd pre j 2)<2 * phi S.n (Vc j D) (.sp r 0)+0+Ssum j D+sumTo j pre
     have:=o4 (Vc (j+1) (upd D j ⟨7,0,0⟩)) (Vc j D)
     rw[eS,eP]
     omega
    ·rw[Array.getElem?_push_lt (by simp[hc.size]),← Array.getElem?_eq_getElem]
     exact Array.getElem?_setIfInBounds_self_of_lt (by rw[hc.size];omega)
    ·rw[upd_same,bI];exact hm'
    ·exact hc.spawn hS (x:={g:=0,fn:=a.frame.fn,pos:=a.frame.place,act:=.go gs.size }) (y:={g:=gs.size,fn:=child.frame.fn,pos:=a.frame.place,act:=.start }) ⟨rfl,by rw[hc.size]⟩ ⟨hc.size,rfl⟩ hO kP hx2 hW
    ·have:=ConcN.Mode.opn (j:=j+1) (D:=upd D j ⟨7,0,0⟩) (tag:=tag') o1 ho (fun vs e=>absurd e (o3 vs))
     rw[eV,o2] at this
     exact this
   cases r with
   | zero=>
     obtain⟨m,hk⟩:=hnext
     exact fin (x1:=rk 0) (.kd zo hk) trivial rfl zs fun v v'=>by simp only[phi];omega
   | succ r=>
     have hk:Wk S.P true S.Cb S.V0 (S.yj (S.n - (r+1)) (S.Sp r)) a' w lU:=hnext
     rw[show S.n - (r+1)=j+1 by omega] at hk
     obtain⟨x1,hx1⟩:=rW hk
     exact fin (.skd zo hx1 hk) trivial rfl zs fun v v'=>by simp only[phi];omega
 | reg h1 _ _=>exact h1.elim
 | last L h1 _ _ _=>exact h1.elim
 | fin h1 _=>exact h1.elim
end
end
section
open Go.Conc Go.ConcN Go.cu Go.Conc.Lib
open Go.ConcR (KK WgAt stA smA rd wr g_of_ofEvents Payload DC0 again_blocked Bk ofEvent_loc_mark ofEvent_cell bk_of_mute ofEvent_mk)
variable[Inhabited aS]
section
variable{S:Site}{O C:Nat→Nat→Prop}{bx pre:Nat→Nat}{rk:Nat→Rank S.P}{j:Nat}{gs:Array Goroutine}{w w':World}{sl:Option (Nat × Nat)}{t:Trace}{D:Nat→WD}{tag:CTag}{b f0 d0:Nat}{a:Goroutine}{st sm:Int}
theorem gY.mono{μ μ':uE S}{r:Stepped × Array MemOp}(h:gY S μ' t r)(hl:μ'.1<μ.1):gY S μ t r:=by
 obtain⟨m₁,ops,h1,h2⟩:=h
 exact⟨m₁,ops,h1,h2.imp id fun⟨μ2,h3,h4⟩=>⟨μ2,A8 h3 hl,h4⟩⟩
theorem Com.rk0(h:Com S O C bx pre rk j gs w t D d0)(x1:Rank S.P):Com S O C bx pre (upd rk 0 x1) j gs w t D d0:=
 {h with wk:=fun i hi=>by rw[upd_ne rk _ zo];exact h.wk i hi }
theorem dW(hS:S.Ok)(ha:gs[0]? =some a)(hc:Com S O C bx pre rk j gs w t D d0)(hwg:WgAt S.ty S.Wg w st sm)(hmode:ConcN.Mode j D tag st sm){a':Goroutine}{f':Nat}(hgo:stepG S.P true a w=.go a' w #[])
 (hm':iT S j (rk 0) tag b f' d0 a' w (O 0))(hlt:f'<f0):gY S (mu S j D tag b pre rk f0) t (runT S.P (crowd gs w sl) 0):=
 iN hS ha hc hgo (.refl S.Wg w) hwg zs zs hm' hmode (.inr ⟨rfl,hlt⟩)
theorem gM(hS:S.Ok)(ha:gs[0]? =some a)(hc:Com S O C bx pre rk j gs w t D d0)(hwg:WgAt S.ty S.Wg w st sm){tag':CTag}{b':Nat}(hmode:ConcN.Mode j D tag' st sm){a':Goroutine}{f':Nat}{es:Array Event}(hgo:stepG S.P true a w=.go a' w es)
 (hbk:∀e∈es,Bk S.Wg e)(hm':iT S j (rk 0) tag' b' f' (deafBehind d0 es) a' w (O 0))(hlt:2 * phi S.n (Vc j D) tag'+b'<2 * phi S.n (Vc j D) tag+b):gY S (mu S j D tag b pre rk f0) t (runT S.P (crowd gs w sl) 0):=
 iN hS ha hc hgo (.refl S.Wg w) hwg (Da hbk) (norel_of_Bk hbk) hm' hmode (.inl hlt)
theorem Mode.opened(h:ConcN.Mode j D tag st sm)(ho:isOpen tag):OpenSt j D∧(∀vs,tag=.w2 vs→Vc j D≤vs∧1≤vs)∧st=((Vc j D+pend tag:Nat):Int) * KK∧sm=0:=by
 cases h with
 | opn h1 h2 h3=>exact⟨h2,h3,rfl,rfl⟩
 | reg h1 _ _=>cases tag <;> first|exact h1.elim|exact ho.elim
 | last L h1 _ _ _=>cases tag <;> first|exact h1.elim|exact ho.elim
 | sema _=>exact ho.elim
 | fin h1 _=>cases tag <;> first|exact h1.elim|exact ho.elim
theorem Mode.ended(h:ConcN.Mode j D tag st sm)(ho:isFin tag):AllQuit j D∧st=0∧sm=0:=by
 cases h with
 | opn h1 _ _=>cases tag <;> first|exact h1.elim|exact ho.elim
 | reg h1 _ _=>cases tag <;> first|exact h1.elim|exact ho.elim
 | last L h1 _ _ _=>cases tag <;> first|exact h1.elim|exact ho.elim
 | sema _=>exact ho.elim
 | fin h1 h2=>exact⟨h2,rfl,rfl⟩
theorem Mode.moved{tag':CTag}(h:ConcN.Mode j D tag st sm)(ho:isOpen tag)(ho':isOpen tag')(hp:pend tag'=pend tag)(hv:∀vs,tag'=.w2 vs→Vc j D≤vs∧1≤vs):ConcN.Mode j D tag' st sm:=by
 obtain⟨h1,_,rfl,rfl⟩:=Mode.opened h ho
 rw[← hp]
 exact .opn ho' h1 hv
theorem L9(hS:S.Ok)(ha:gs[0]? =some a)(hc:Com S O C bx pre rk j gs w t D 0)(hwg:WgAt S.ty S.Wg w st sm){r:Nat}(hmode:ConcN.Mode j D (.sp r 0) st sm)(hj:j+(r+1)=S.n)
 (hx:(rk 0).1=mg S.Cb S.V0 true (S.Ih j (S.Sp r)) a w (O 0))(h:Wk S.P true S.Cb S.V0 (S.Ih j (S.Sp r)) a w (O 0)):gY S (mu S j D (.sp r 0) 0 pre rk 0) t (runT S.P (crowd gs w sl) 0):=by
 by_cases hK:S.Ih j (S.Sp r) a w (O 0)
 ·exact dt hS ha hc hwg hmode hj hK
 ·obtain⟨h0,g2,w3,O2,es,y,r1,r2,r3,r4,r5⟩:=Ee h hc.v0 hK _ hx
  rw[← hc.c0] at r2
  exact Gf hS ha hc hwg hmode r1 r2 rfl (.sgo hj r4 r3) r5
theorem Xg(hS:S.Ok)(ha:gs[0]? =some a)(hc:Com S O C bx pre rk j gs w t D 0)(hwg:WgAt S.ty S.Wg w st sm){r:Nat}(hmode:ConcN.Mode j D (.sp r 5) st sm)(hj:j+(r+1)=S.n)
 (hx:(rk 0).1=mg S.Cb S.V0 true (S.yj j (S.Sp r)) a w (O 0))(h:Wk S.P true S.Cb S.V0 (S.yj j (S.Sp r)) a w (O 0)):gY S (mu S j D (.sp r 5) 0 pre rk 0) t (runT S.P (crowd gs w sl) 0):=by
 by_cases hK:S.yj j (S.Sp r) a w (O 0)
 ·obtain⟨R,⟨hr,g',hgo,m,hk⟩,hcont⟩:=hK
  exact gM hS ha hc hwg (tag':=.sp r 4) (b':=0) (f':=m) (Mode.moved hmode trivial trivial rfl zs) hgo qb (.sa1 hj hk hcont) (by simp only[phi];omega)
 ·obtain⟨h0,g2,w3,O2,es,y,r1,r2,r3,r4,r5⟩:=Ee h hc.v0 hK _ hx
  rw[← hc.c0] at r2
  exact Gf hS ha hc hwg hmode r1 r2 rfl (.skd hj r4 r3) r5
theorem Xf(hS:S.Ok)(ha:gs[0]? =some a)(hc:Com S O C bx pre rk j gs w t D 1)(hwg:WgAt S.ty S.Wg w st sm){r:Nat}(hmode:ConcN.Mode j D (.sp r 4) st sm)(hj:j+(r+1)=S.n)
 {R:Goroutine}{m:Nat}(h:S.GL (S.ib R) m a w)(hcont:S.Cont j (S.Sp r) R w (O 0)):gY S (mu S j D (.sp r 4) 0 pre rk m) t (runT S.P (crowd gs w sl) 0):=by
 rcases Goes.cases h with hs|⟨m',rfl,hs⟩
 ·obtain⟨hr,hall⟩:=hs w fun x=>x
  obtain⟨h1,_,rfl,rfl⟩:=Mode.opened hmode trivial
  have hV:=Vc_le j D
  have hn:=hS.n31
  obtain⟨g',hgo,m₂,hk⟩:=hall (Vc j D) zo (by simpa [pend] using hwg)
  have hwg':WgAt S.ty S.Wg (w.setCell (stA S.Wg) (.int .u64 (((Vc j D:Nat)+1:Int) * KK))) (((Vc j D:Nat)+1:Int) * KK) 0:=hwg.setSt _
  have hAs:=aside_setCell w (stA S.Wg) (.int .u64 (((Vc j D:Nat)+1:Int) * KK))
  refine iN hS ha hc hgo hAs hwg' (Da bk_rw) (norel_of_Bk bk_rw) (tag':=.sp r 3) (b':=0) (f':=m₂) (.gO hj hk (iq hcont fun q hq=>hAs.block q ?_)) ?_ (.inl (by simp only[phi];omega))
  ·rcases hq with hq|hq
   ·exact fun e=>hc.lay.nu 0 q hq (.inl e)
   ·exact fun e=>hc.lay.cS 0 q (by rw[hc.c0];exact hq) (.inl e)
  ·have:=ConcN.Mode.opn (tag:=.sp r 3) (j:=j) (D:=D) trivial h1 zs
   simpa [pend] using this
 ·obtain⟨g',w',es,hgo,⟨rfl,rfl⟩,hk⟩:=hs w fun x=>x
  exact dW hS ha hc hwg hmode hgo (.sa1 hj hk hcont) zo
theorem Xj(hS:S.Ok)(ha:gs[0]? =some a)(hc:Com S O C bx pre rk j gs w t D 1)(hwg:WgAt S.ty S.Wg w st sm){r:Nat}(hmode:ConcN.Mode j D (.sp r 3) st sm)(hj:j+(r+1)=S.n)
 {R:Goroutine}{m:Nat}(h:S.GL (S.ij R) m a w)(hcont:S.Cont j (S.Sp r) R w (O 0)):gY S (mu S j D (.sp r 3) 0 pre rk m) t (runT S.P (crowd gs w sl) 0):=by
 rcases Goes.cases h with hs|⟨m',rfl,hs⟩
 ·rcases hs w fun x=>x with⟨hr,g',hgo,m₂,hk⟩|⟨hr,g',hgo,m₂,hk⟩
  ·exact iN hS ha hc hgo (.refl S.Wg w) hwg (E9 ae) (by intro e he;simp at he;subst he;simp[pa]) (tag':=.sp r 2) (b':=0) (f':=m₂) (.ske hj hk hcont) (Mode.moved hmode trivial trivial rfl zs) (.inl (by simp only[phi];omega))
  ·exact gM hS ha hc hwg (tag':=.sp r 1) (b':=0) (f':=m₂) (Mode.moved hmode trivial trivial rfl zs) hgo sD (.dr hj hk hcont) (by simp only[phi];omega)
 ·obtain⟨g',w',es,hgo,⟨rfl,rfl⟩,hk⟩:=hs w fun x=>x
  exact dW hS ha hc hwg hmode hgo (.gO hj hk hcont) zo
theorem Xh(hS:S.Ok)(ha:gs[0]? =some a)(hc:Com S O C bx pre rk j gs w t D 1)(hwg:WgAt S.ty S.Wg w st sm){r:Nat}(hmode:ConcN.Mode j D (.sp r 2) st sm)(hj:j+(r+1)=S.n)
 {R:Goroutine}{m:Nat}(h:S.GL (S.fL R) m a w)(hcont:S.Cont j (S.Sp r) R w (O 0)):gY S (mu S j D (.sp r 2) 0 pre rk m) t (runT S.P (crowd gs w sl) 0):=by
 rcases Goes.cases h with hs|⟨m',rfl,hs⟩
 ·obtain⟨hr,g',hgo,m₂,hk⟩:=hs w fun x=>x
  exact gM hS ha hc hwg (tag':=.sp r 1) (b':=0) (f':=m₂) (Mode.moved hmode trivial trivial rfl zs) hgo sD (.dr hj hk hcont) (by simp only[phi];omega)
 ·obtain⟨g',w',es,hgo,⟨rfl,rfl⟩,hk⟩:=hs w fun x=>x
  exact dW hS ha hc hwg hmode hgo (.ske hj hk hcont) zo
theorem Xi(hS:S.Ok)(ha:gs[0]? =some a)(hc:Com S O C bx pre rk j gs w t D 0)(hwg:WgAt S.ty S.Wg w st sm){r:Nat}(hmode:ConcN.Mode j D (.sp r 1) st sm)(hj:j+(r+1)=S.n)
 {R:Goroutine}{m:Nat}(h:S.GL (fun g _=>g=R) m a w)(hcont:S.Cont j (S.Sp r) R w (O 0)):gY S (mu S j D (.sp r 1) 0 pre rk m) t (runT S.P (crowd gs w sl) 0):=by
 rcases Goes.cases h with hs|⟨m',rfl,hs⟩
 ·have e:a=R:=hs w fun x=>x
  subst e
  have hW:=hcont w (Keeps.refl _ _ _) hc.v0
  obtain⟨x1,hx1⟩:=rW hW
  have:=L9 (sl:=sl) hS ha (hc.rk0 x1) hwg (Mode.moved hmode (tag':=.sp r 0) trivial trivial rfl zs) hj (by rw[upd_same];exact hx1) hW
  refine this.mono ?_
  show 2 * phi S.n (Vc j D) (.sp r 0)+0+Ssum j D+sumTo j pre<2 * phi S.n (Vc j D) (.sp r 1)+0+Ssum j D+sumTo j pre
  simp only[phi];omega
 ·obtain⟨g',w',es,hgo,⟨rfl,rfl⟩,hk⟩:=hs w fun x=>x
  exact dW hS ha hc hwg hmode hgo (.dr hj hk hcont) zo
end
section
variable{S:Site}{O C:Nat→Nat→Prop}{bx pre:Nat→Nat}{rk:Nat→Rank S.P}{j:Nat}{gs:Array Goroutine}{w w':World}{sl:Option (Nat × Nat)}{t:Trace}{D:Nat→WD}{tag:CTag}{b f0 d0:Nat}{a:Goroutine}{st sm:Int}
theorem eB(hO:O 0=lU){x:Rank S.P}{w:World}(h:iT S j x tag b f0 d0 a w lU):iT S j x tag b f0 d0 a w (O 0):=hO ▸ h
theorem du(hS:S.Ok)(ha:gs[0]? =some a)(hc:Com S O C bx pre rk j gs w t D 0)(hwg:WgAt S.ty S.Wg w st sm)(hmode:ConcN.Mode j D .kd st sm)(hj:j=S.n)(hO:O 0=lU)
 {m:Nat}(h:S.GL S.ZK m a w):gY S (mu S j D .kd 0 pre rk m) t (runT S.P (crowd gs w sl) 0):=by
 have hV:=Vc_le j D
 rcases Goes.cases h with hs|⟨m',rfl,hs⟩
 ·obtain⟨hr,g',hgo,m₂,hk⟩:=hs w fun x=>x
  exact gM hS ha hc hwg (tag':=.anch) (b':=0) (f':=m₂) (Mode.moved hmode trivial trivial rfl zs) hgo qb (eB hO (.anch hj hk)) (by simp only[phi];omega)
 ·obtain⟨g',w',es,hgo,⟨rfl,rfl⟩,hk⟩:=hs w fun x=>x
  exact dW hS ha hc hwg hmode hgo (eB hO (.kd hj hk)) zo
theorem uF(h1:OpenSt j D)(h0:Vc j D=0):AllQuit j D:=fun i hi=>by
 have h2:=le_sumTo (f:=fun x=>cnt (D x)) hi
 have h3:=h1 i hi
 simp only[Vc] at h0
 have:cnt (D i)=0:=zo
 simp only[cnt] at this
 split at this <;> omega
theorem Tt(hS:S.Ok)(ha:gs[0]? =some a)(hc:Com S O C bx pre rk j gs w t D 1)(hwg:WgAt S.ty S.Wg w st sm)(hmode:ConcN.Mode j D .w1 st sm)(hj:j=S.n)(hO:O 0=lU)
 {m:Nat}(h:S.GL S.W1 m a w):gY S (mu S j D .w1 0 pre rk m) t (runT S.P (crowd gs w sl) 0):=by
 have hV:=Vc_le j D
 have hn:=hS.n31
 rcases Goes.cases h with hs|⟨m',rfl,hs⟩
 ·obtain⟨hr,hall⟩:=hs w fun x=>x
  obtain⟨h1,_,rfl,rfl⟩:=Mode.opened hmode trivial
  obtain⟨g',hgo,hz,hp⟩:=hall (Vc j D) zo (by simpa [pend] using hwg)
  by_cases h0:Vc j D=0
  ·obtain⟨m₂,hk⟩:=hz h0
   refine gM hS ha hc hwg (tag':=.ke) (b':=0) (f':=m₂) ?_ hgo bk_rd (eB hO (.ke hj hk)) (by simp only[phi];omega)
   have:=ConcN.Mode.fin (j:=j) (D:=D) (tag:=.ke) trivial (uF h1 h0)
   rw[h0];simpa [pend] using this
  ·obtain⟨m₂,hk⟩:=hp h0
   exact gM hS ha hc hwg (tag':=.w2 (Vc j D)) (b':=0) (f':=m₂) (Mode.moved hmode trivial trivial rfl fun vs e=>by cases e;exact⟨Nat.le_refl _,zo⟩) hgo bk_rd (eB hO (.w2 hj hk)) (by simp only[phi];omega)
 ·obtain⟨g',w',es,hgo,⟨rfl,rfl⟩,hk⟩:=hs w fun x=>x
  exact dW hS ha hc hwg hmode hgo (eB hO (.w1 hj hk)) zo
theorem Tn(hS:S.Ok)(ha:gs[0]? =some a)(hc:Com S O C bx pre rk j gs w t D 1)(hwg:WgAt S.ty S.Wg w st sm)(hmode:ConcN.Mode j D .anch st sm)(hj:j=S.n)(hO:O 0=lU)
 {m:Nat}(h:S.GL S.Anch m a w):gY S (mu S j D .anch 0 pre rk m) t (runT S.P (crowd gs w sl) 0):=by
 rcases Goes.cases h with hs|⟨m',rfl,hs⟩
 ·obtain⟨m₂,hk⟩:=hS.anch _ _ (hs w fun x=>x)
  refine(Tt (sl:=sl) hS ha hc hwg (Mode.moved hmode (tag':=.w1) trivial trivial rfl zs) hj hO hk).mono ?_
  show 2 * phi S.n (Vc j D) .w1+0+Ssum j D+sumTo j pre<2 * phi S.n (Vc j D) .anch+0+Ssum j D+sumTo j pre
  simp only[phi];omega
 ·obtain⟨g',w',es,hgo,⟨rfl,rfl⟩,hk⟩:=hs w fun x=>x
  exact dW hS ha hc hwg hmode hgo (eB hO (.anch hj hk)) zo
theorem ee(hS:S.Ok)(ha:gs[0]? =some a)(hc:Com S O C bx pre rk j gs w t D 1)(hwg:WgAt S.ty S.Wg w st sm){vs:Nat}(hmode:ConcN.Mode j D (.w2 vs) st sm)(hj:j=S.n)(hO:O 0=lU)
 {m:Nat}(h:S.GL (S.W2 vs) m a w):gY S (mu S j D (.w2 vs) 0 pre rk m) t (runT S.P (crowd gs w sl) 0):=by
 have hV:=Vc_le j D
 have hn:=hS.n31
 rcases Goes.cases h with hs|⟨m',rfl,hs⟩
 ·obtain⟨hr,hall⟩:=hs w fun x=>x
  obtain⟨h1,h2,rfl,rfl⟩:=Mode.opened hmode trivial
  obtain⟨h3,h4⟩:=h2 vs rfl
  have oy:WgAt S.ty S.Wg w ((Vc j D:Nat) * KK) 0:=by simpa [pend] using hwg
  obtain⟨hit,miss⟩:=hall (Vc j D) zo oy
  by_cases e:Vc j D=vs
  ·obtain⟨g',hgo,m₂,hk⟩:=hit e
   exact iN hS ha hc hgo (aside_setCell w (stA S.Wg) _) (oy.setSt _) (Da bk_rw) (norel_of_Bk bk_rw) (tag':=.w3) (b':=1) (f':=m₂) (eB hO (.wr hj hk)) (.reg trivial h1 zo) (.inl (by simp only[phi];omega))
  ·obtain⟨g',hgo,m₂,hk⟩:=miss e
   exact gM hS ha hc hwg (tag':=.anch) (b':=0) (f':=m₂) (Mode.moved hmode trivial trivial rfl zs) hgo bk_rd (eB hO (.anch hj hk)) (by simp only[phi];omega)
 ·obtain⟨g',w',es,hgo,⟨rfl,rfl⟩,hk⟩:=hs w fun x=>x
  exact dW hS ha hc hwg hmode hgo (eB hO (.w2 hj hk)) zo
theorem eh(hS:S.Ok)(ha:gs[0]? =some a)(hc:Com S O C bx pre rk j gs w t D 1)(hwg:WgAt S.ty S.Wg w st sm)(hmode:ConcN.Mode j D .w3 st sm)(hj:j=S.n)(hO:O 0=lU)
 {m:Nat}(h:S.GL S.W3 m a w):gY S (mu S j D .w3 0 pre rk (m+1)) t (runT S.P (crowd gs w sl) 0):=by
 rcases Goes.cases h with hs|⟨m',rfl,hs⟩
 ·obtain⟨hr,hof,ox,htake⟩:=hs w fun x=>x
  have blocked:(∃z,WgAt S.ty S.Wg w z 0)→ConcN.Mode j D .blk st sm→gY S (mu S j D .w3 0 pre rk (m+1)) t (runT S.P (crowd gs w sl) 0):=fun hz hb=>
   iN hS ha hc (ox hz) (.refl S.Wg w) hwg zs zs (tag':=.blk) (b':=0) (f':=0) (eB hO (.blk hj hs)) hb (.inr ⟨rfl,zo⟩)
  cases hmode with
  | opn h1 _ _=>exact h1.elim
  | reg h1 h2 h3=>exact blocked ⟨_,hwg⟩ (.reg trivial h2 h3)
  | last L h1 h2 h3 h4=>exact blocked ⟨_,hwg⟩ (.last L trivial h2 h3 h4)
  | sema h2=>
    obtain⟨g',hgo,m₂,hk⟩:=htake hwg
    exact iN hS ha hc hgo (aside_setCell w (smA S.Wg) _) (hwg.setSm 0) (Da bk_sem) (norel_of_Bk bk_sem) (tag':=.w4) (b':=0) (f':=m₂) (eB hO (.w4 hj hk)) (.fin trivial h2) (.inl (by simp only[phi];omega))
  | fin h1 _=>exact h1.elim
 ·obtain⟨g',w',es,hgo,⟨rfl,rfl⟩,hk⟩:=hs w fun x=>x
  exact dW hS ha hc hwg hmode hgo (eB hO (.w3 hj hk)) zo
theorem eo(hS:S.Ok)(ha:gs[0]? =some a)(hc:Com S O C bx pre rk j gs w t D 1)(hwg:WgAt S.ty S.Wg w st sm)(hmode:ConcN.Mode j D .w3 st sm)(hj:j=S.n)(hO:O 0=lU)
 {m:Nat}(h:S.GL S.kO m a w):gY S (mu S j D .w3 1 pre rk m) t (runT S.P (crowd gs w sl) 0):=by
 rcases Goes.cases h with hs|⟨m',rfl,hs⟩
 ·obtain⟨hr,g',hgo,m₂,hk⟩:=hs w fun x=>x
  exact iN hS ha hc hgo (.refl S.Wg w) hwg (E9 ai) (by intro e he;simp at he;subst he;simp[pb]) (tag':=.w3) (b':=0) (f':=m₂+1) (eB hO (.w3 hj hk)) hmode (.inl zo)
 ·obtain⟨g',w',es,hgo,⟨rfl,rfl⟩,hk⟩:=hs w fun x=>x
  exact dW hS ha hc hwg hmode hgo (eB hO (.wr hj hk)) zo
end
section
variable{S:Site}{O C:Nat→Nat→Prop}{bx pre:Nat→Nat}{rk:Nat→Rank S.P}{j:Nat}{gs:Array Goroutine}{w w':World}{sl:Option (Nat × Nat)}{t:Trace}{D:Nat→WD}{tag:CTag}{b f0 d0:Nat}{a:Goroutine}{st sm:Int}
theorem ej(hS:S.Ok)(ha:gs[0]? =some a)(hc:Com S O C bx pre rk j gs w t D 1)(hwg:WgAt S.ty S.Wg w st sm)(hmode:ConcN.Mode j D .w4 st sm)(hj:j=S.n)(hO:O 0=lU)
 {m:Nat}(h:S.GL S.W4 m a w):gY S (mu S j D .w4 0 pre rk m) t (runT S.P (crowd gs w sl) 0):=by
 rcases Goes.cases h with hs|⟨m',rfl,hs⟩
 ·obtain⟨hr,hall⟩:=hs w fun x=>x
  obtain⟨h1,rfl,rfl⟩:=Mode.ended hmode trivial
  obtain⟨g',hgo,m₂,hk⟩:=hall hwg
  exact gM hS ha hc hwg (tag':=.ke) (b':=0) (f':=m₂) (.fin trivial h1) hgo bk_rd (eB hO (.ke hj hk)) (by simp only[phi];omega)
 ·obtain⟨g',w',es,hgo,⟨rfl,rfl⟩,hk⟩:=hs w fun x=>x
  exact dW hS ha hc hwg hmode hgo (eB hO (.w4 hj hk)) zo
theorem dv(hS:S.Ok)(ha:gs[0]? =some a)(hc:Com S O C bx pre rk j gs w t D 1)(hwg:WgAt S.ty S.Wg w st sm)(hmode:ConcN.Mode j D .ke st sm)(hj:j=S.n)(hO:O 0=lU)
 {m:Nat}(h:S.GL S.Yp m a w):gY S (mu S j D .ke 0 pre rk m) t (runT S.P (crowd gs w sl) 0):=by
 rcases Goes.cases h with hs|⟨m',rfl,hs⟩
 ·obtain⟨hr,g',hgo,m₂,hk⟩:=hs w fun x=>x
  obtain⟨h1,rfl,rfl⟩:=Mode.ended hmode trivial
  exact gM hS ha hc hwg (tag':=.acq) (b':=0) (f':=m₂) (.fin trivial h1) hgo sD (eB hO (.acq hj hk)) (by simp only[phi];omega)
 ·obtain⟨g',w',es,hgo,⟨rfl,rfl⟩,hk⟩:=hs w fun x=>x
  exact dW hS ha hc hwg hmode hgo (eB hO (.ke hj hk)) zo
theorem Xe(hS:S.Ok)(ha:gs[0]? =some a)(hc:Com S O C bx pre rk j gs w t D 0)(hwg:WgAt S.ty S.Wg w st sm)(hmode:ConcN.Mode j D .acq st sm)(hj:j=S.n)(hO:O 0=lU)
 {m:Nat}(h:S.GL S.Iq m a w):gY S (mu S j D .acq 0 pre rk m) t (runT S.P (crowd gs w sl) 0):=by
 rcases Goes.cases h with hs|⟨m',rfl,hs⟩
 ·obtain⟨hr,g',hgo,hfin⟩:=hs w fun x=>x
  obtain⟨h1,rfl,rfl⟩:=Mode.ended hmode trivial
  subst hj
  have hrun:=runT_crowd_go (P:=S.P) (sl:=sl) (i:=0) ha (by simpa using hgo)
  have e1:MemOp.ofEvents 0 a.frame.fn a.frame.place #[Go.ConcR.mk (.acquire (stA S.Wg))]=#[{g:=0,fn:=a.frame.fn,pos:=a.frame.place,act:=.mark (.acquire (stA S.Wg)) }]:=by rw[ofEvents_eq];simp[ofEvent_mk]
  rw[e1] at hrun
  have hu:∀op∈#[({g:=0,fn:=a.frame.fn,pos:=a.frame.place,act:=.mark (.acquire (stA S.Wg)) }:MemOp)],op={g:=0,fn:=a.frame.fn,pos:=a.frame.place,act:=.mark (.acquire (stA S.Wg)) }:=by intro op hop;simpa using hop
  have hst:Deaf (t ++ #[({g:=0,fn:=a.frame.fn,pos:=a.frame.place,act:=.mark (.acquire (stA S.Wg)) }:MemOp)]) 0=0:=by
   rw[Deaf_still t 0 _ fun op hop=>?_,hc.deaf0]
   rw[hu op hop];exact⟨zs,zs⟩
  have hcom:=hc.step0 (gs':=(gs.map (woken S.P a g' w)).setIfInBounds 0 g') (w':=w) (O1:=O 0) (x':=rk 0) (u:=#[{g:=0,fn:=a.frame.fn,pos:=a.frame.place,act:=.mark (.acquire (stA S.Wg)) }]) hS (by simp[hc.size])
   (fun k hk' y hy hst=>by
    rw[get_map_set _ _ _ _ zo,hy,Option.map_some]
    congr 1
    unfold Go.Conc.woken
    split
    ·exact again_running _ hst
    ·rfl) (by rw[jU];exact hc.lay) (fun k _=>Keeps.refl _ _ _) (fun _ _=>rfl) hc.v0.live ⟨rfl,rfl,rfl⟩ hc.sent
   (hc.ct.app0 hc.lay.apart fun op hop=>by rw[hu op hop];exact⟨rfl,fun x hx=>by simp[MemAct.touch?] at hx⟩)
   (oC hc.Py (Nat.le_refl _) fun op hop x hx=>by rw[hu op hop] at hx;simp[MemAct.touch?] at hx) (fun op hop=>by rw[hu op hop]) (fun op hop=>by rw[hu op hop];simp) (qP fun op hop=>by rw[hu op hop];rfl) hst
  rw[jU,tC] at hcom
  have hy:(t ++ #[({g:=0,fn:=a.frame.fn,pos:=a.frame.place,act:=.mark (.acquire (stA S.Wg)) }:MemOp)])[t.size]? =some {g:=0,fn:=a.frame.fn,pos:=a.frame.place,act:=.mark (.acquire (stA S.Wg)) }:=zs
  refine⟨_,_,hrun,.inl ⟨_,w,sl,D,g',O,C,bx,pre,rk,rfl,get_map_set_same _ _ _ (by rw[hc.size];omega),hfin,hcom,hwg,h1,⟨t.size,by rw[act?_of hy],by simp[Trace.g?],⟨0,by simp[Trace.g?],by rw[deaf_old (Nat.le_refl _)];exact hc.deaf0⟩,fun i hi=>?_⟩,hO⟩⟩
  obtain⟨r,hr⟩:=hc.rel i hi (by have:=h1 i hi;omega)
  exact⟨r,hr.appOther (g:=0) (fun op hop=>by rw[hu op hop]) zo,lt_of_act? hr.act⟩
 ·obtain⟨g',w',es,hgo,⟨rfl,rfl⟩,hk⟩:=hs w fun x=>x
  exact dW hS ha hc hwg hmode hgo (eB hO (.acq hj hk)) zo
theorem stepCaller(hS:S.Ok)(ha:gs[0]? =some a)(hm:iT S j (rk 0) tag b f0 d0 a w (O 0))(hc:Com S O C bx pre rk j gs w t D d0)(hwg:WgAt S.ty S.Wg w st sm)(hmode:ConcN.Mode j D tag st sm)(hrun:a.status=.running):
 gY S (mu S j D tag b pre rk f0) t (runT S.P (crowd gs w sl) 0):=by
 generalize hO:O 0=O0 at hm
 generalize hx:rk 0=x at hm
 cases hm with
 | skd e h1 h=>exact Xg hS ha hc hwg hmode e (by rw[hx,hO];exact h1) (by rw[hO];exact h)
 | sa1 e h c=>exact Xf hS ha hc hwg hmode e h (by rw[hO];exact c)
 | gO e h c=>exact Xj hS ha hc hwg hmode e h (by rw[hO];exact c)
 | ske e h c=>exact Xh hS ha hc hwg hmode e h (by rw[hO];exact c)
 | dr e h c=>exact Xi hS ha hc hwg hmode e h (by rw[hO];exact c)
 | sgo e h1 h=>exact L9 hS ha hc hwg hmode e (by rw[hx,hO];exact h1) (by rw[hO];exact h)
 | kd e h=>exact du hS ha hc hwg hmode e hO h
 | anch e h=>exact Tn hS ha hc hwg hmode e hO h
 | w1 e h=>exact Tt hS ha hc hwg hmode e hO h
 | w2 e h=>exact ee hS ha hc hwg hmode e hO h
 | wr e h=>exact eo hS ha hc hwg hmode e hO h
 | w3 e h=>exact eh hS ha hc hwg hmode e hO h
 | blk e h=>cases hrun
 | w4 e h=>exact ej hS ha hc hwg hmode e hO h
 | ke e h=>exact dv hS ha hc hwg hmode e hO h
 | acq e h=>exact Xe hS ha hc hwg hmode e hO h
theorem someone(hS:S.Ok)(ha:gs[0]? =some a)(hm:iT S j (rk 0) tag b f0 d0 a w (O 0))(hc:Com S O C bx pre rk j gs w t D d0)(hmode:ConcN.Mode j D tag st sm):∃ (i:Nat) (g:Goroutine),gs[i]? =some g∧g.status=.running:=by
 rcases hm.status hS hc.v0 with⟨hs,_⟩|⟨_,rfl⟩
 ·exact⟨0,a,ha,hs⟩
 ·cases hmode with
  | opn h1 _ _=>exact h1.elim
  | reg _ _ h3=>
    obtain⟨i,hi,h5⟩:=exists_counted h3
    obtain⟨g,hg,hs⟩:=hc.wk i hi
    exact⟨i+1,g,hg,hs.running_of (hc.v1 hi) zo⟩
  | last L _ h2 h3 _=>
    obtain⟨g,hg,hs⟩:=hc.wk L h2
    exact⟨L+1,g,hg,hs.running_of (hc.v1 h2) zo⟩
  | fin h1 _=>exact h1.elim
theorem Qz(hS:S.Ok)(ha:gs[0]? =some a)(hm:iT S j (rk 0) tag b f0 d0 a w (O 0))(hc:Com S O C bx pre rk j gs w t D d0):∀g∈gs,awake g:=by
 intro g hg tm
 obtain⟨i,hi⟩:=Array.mem_iff_getElem?.1 hg
 cases i with
 | zero=>
   rw[ha] at hi;cases hi
   rcases hm.status hS hc.v0 with⟨hs,_⟩|⟨hs,_⟩ <;> rw[hs] <;> simp
 | succ i=>
   have hlt:i<j:=by have:=(Array.getElem?_eq_some_iff.1 hi).1;rw[hc.size] at this;omega
   obtain⟨g',hg',hs⟩:=hc.wk i hlt
   rw[hi] at hg';cases hg'
   rcases hs.status (hc.v1 hlt) with h|h <;> rw[h] <;> simp
theorem Com.at(hS:S.Ok)(h:Com S O C bx pre rk j gs w t D d0)(d:Nat):Com S O C bx pre rk j gs (w.at d) t D d0:=
 {h with
  lay:=⟨h.lay.own,h.lay.oJ,h.lay.nu,h.lay.cS,h.lay.LC,h.lay.Nq,h.lay.LD⟩
  v0:=⟨h.v0.live,h.v0.tab,h.v0.chan,h.v0.env⟩
  wk:=fun i hi=>let ⟨g,hg,hs⟩:=h.wk i hi;⟨g,hg,hs.keeps hS (fun _ _=>rfl) h.v0.live⟩
  Py:=h.Py
  sent:=h.sent }
theorem Jc(hS:S.Ok){μ:uE S}{m:Machine}(h:Inv S μ m t):gY S μ t (stepT S.P m):=by
 obtain⟨gs,w,sl,j,D,tag,b,f0,d0,a,st,sm,O,C,bx,pre,rk,rfl,ha,hm,hc,hwg,hmode,rfl⟩:=h
 obtain⟨i,g,d,sl',hg,hrun,hstep⟩:=crowd_pick (P:=S.P) (w:=w) (sl:=sl) (Qz hS ha hm hc) (someone hS ha hm hc hmode)
 rw[hstep]
 have hm':iT S j (rk 0) tag b f0 d0 a (w.at d) (O 0):=hm.keeps (fun _ _=>rfl) hc.v0.live
 have hc':=hc.at hS d
 have hwg':WgAt S.ty S.Wg (w.at d) st sm:=hwg
 cases i with
 | zero=>
   rw[ha] at hg;cases hg
   exact stepCaller hS ha hm' hc' hwg' hmode hrun
 | succ i=>
   have hi:i<j:=by have:=(Array.getElem?_eq_some_iff.1 hg).1;rw[hc.size] at this;omega
   obtain⟨m₁,ops,μ',h1,h2,h3⟩:=stepWorker (sl:=sl') hS ha hm' hc' hwg' hmode hi hg hrun
   exact⟨m₁,ops,h1,.inr ⟨μ',h2,h3⟩⟩
theorem MZ(hS:S.Ok)(μ:uE S):∀ (m:Machine) (t:Trace),Inv S μ m t→∃N m' t',runNT S.P N m t=(.next m',t')∧Uz S m' t':=by
 induction μ using (cE S).induction with
 | _ μ ih=>
   intro m t h
   obtain⟨m₁,ops,h1,h2⟩:=Jc hS h
   rcases h2 with h2|⟨μ',h2,h3⟩
   ·exact⟨1,m₁,t ++ ops,by simp[runNT,h1],h2⟩
   ·obtain⟨N,m',t',h4,h5⟩:=ih μ' h2 m₁ (t ++ ops) h3
    refine⟨1+N,m',t',?_,h5⟩
    rw[runNT_add]
    simp[runNT,h1,h4]
end
end
end Go.aO
