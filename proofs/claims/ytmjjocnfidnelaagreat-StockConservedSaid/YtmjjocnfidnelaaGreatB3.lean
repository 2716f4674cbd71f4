/- Crew12 Crew13 Crew14 Crew15 Crew16 Crew17 Crew18 Crew19 Crew20 -/
import Derived.Test.YtmjjocnfidnelaaGreatB2
import Derived.Conc.Beside
set_option maxRecDepth 100000
set_option maxHeartbeats 16000000
set_option linter.unusedVariables false
set_option linter.unusedSectionVars false
open Go.IntKind(i64)
open Go.Value(int)
namespace Go.aQ
section
open Go.Conc Go.ConcN Go.cZ Go.Conc.Lib
open Go.ConcR (KK WgAt stA smA rd wr g_of_ofEvents Payload DC0 again_blocked Bk ofEvent_loc_mark ofEvent_cell bk_of_mute)
variable[Inhabited aZ]
section
variable{S:Site}{O C:Nat→Nat→Prop}{bx pre:Nat→Nat}{rk:Nat→Rank S.P}{j:Nat}{gs:Array Goroutine}{w w':World}{sl:Option (Nat × Nat)}{t:Trace}{D:Nat→WD}{tag:CTag}{b f0 d0:Nat}{a:Goroutine}{st sm:Int}
def VQ(S:Site)(m:Machine)(t:Trace):Prop:=
 ∃ (gs:Array Goroutine) (w:World) (sl:Option (Nat × Nat)) (D:Nat→WD) (a:Goroutine) (O C:Nat→Nat→Prop) (bx pre:Nat→Nat) (rk:Nat→Rank S.P),
   m=crowd gs w sl∧gs[0]? =some a∧S.Fin a∧Com S O C bx pre rk S.n gs w t D 0∧WgAt S.ty S.Wg w 0 0∧AllQuit S.n D∧AcqAll S.Wg S.n t∧O 0=mD
def iq(S:Site)(μ:vN S)(t:Trace)(r:Stepped × Array MemOp):Prop:=∃m₁ ops,r=(.next m₁,ops)∧(VQ S m₁ (t ++ ops)∨∃μ',Aw S μ' μ∧Inv S μ' m₁ (t ++ ops))
theorem FE(hS:S.Ok)(ha:gs[0]? =some a)(hc:Com S O C bx pre rk j gs w t D d0){a':Goroutine}{es:Array Event}{O1:Nat→Prop}{x':Rank S.P}{tag':CTag}{b' f':Nat}{st' sm':Int}
 (hgo:stepG S.P true a w=.go a' w' es)(jd:Lay (rD O 0 O1) C S.Sh w')(hk:∀k,k≠0→Keeps (C k) (O k) w w')(fv:∀q,C 0 q→w'.heap[q]? =w.heap[q]?)(Gp:BS w w')(iX:tF S j pre w')
 (hct:CT (In S.Sh) (ig O) (Dz C) (t ++ MemOp.ofEvents 0 a.frame.fn a.frame.place es) j)(A8:Qx (t ++ MemOp.ofEvents 0 a.frame.fn a.frame.place es) w')(Ec:Nt S (MemOp.ofEvents 0 a.frame.fn a.frame.place es))(hnr:∀e∈es,e.loc≠.mark (.release (stA S.Wg)))
 (hm':iY S j x' tag' b' f' (deafBehind d0 es) a' w' O1)(hwg:WgAt S.ty S.Wg w' st' sm')(hmode:ConcN.Mode j D tag' st' sm')
 (hlt:2 * phi S.n (Vc j D) tag'+b'<2 * phi S.n (Vc j D) tag+b∨(2 * phi S.n (Vc j D) tag'+b'=2 * phi S.n (Vc j D) tag+b∧(kV S.P x' (rk 0)∨(x'=rk 0∧f'<f0)))):
 iq S (mu S j D tag b pre rk f0) t (runT S.P (crowd gs w sl) 0):=by
 have hrun:=runT_crowd_go (P:=S.P) (sl:=sl) (i:=0) ha (by simpa using hgo)
 have hcom:=hc.step0 (gs':=(gs.map (woken S.P a a' w')).setIfInBounds 0 a') (u:=MemOp.ofEvents 0 a.frame.fn a.frame.place es) (x':=x') hS (by simp[hc.size])
  (fun k hk' y hy hst=>by
   rw[get_map_set _ _ _ _ zo,hy,Option.map_some]
   congr 1
   unfold Go.Conc.woken
   split
   ·exact again_running _ hst
   ·rfl) jd hk fv ⟨_,_,hwg⟩ Gp iX hct A8 g_of_ofEvents (norel_of hnr) Ec (by rw[Deaf_own,hc.deaf0])
 refine⟨_,_,hrun,.inr ⟨mu S j D tag' b' pre (upd rk 0 x') f',?_,_,w',sl,j,D,tag',b',f',_,a',st',sm',_,C,bx,pre,_,rfl,get_map_set_same _ _ _ (by rw[hc.size];omega),by rw[upd_same,bN];exact hm',hcom,hwg,hmode,rfl⟩⟩
 rcases hlt with h|⟨h1,h2⟩
 ·refine Prod.Lex.left _ _ ?_
  omega
 ·unfold mu
  rw[h1]
  refine Prod.Lex.right _ ?_
  rcases h2 with h2|⟨h2,h3⟩
  ·exact Prod.Lex.left _ _ ⟨0,zo,by rw[upd_same];exact h2,fun k hk'=>upd_ne rk _ hk'⟩
  ·rw[h2,uH]
   exact Prod.Lex.right _ zo
theorem Hq(hS:S.Ok)(ha:gs[0]? =some a)(hc:Com S O C bx pre rk j gs w t D d0)(hwg:WgAt S.ty S.Wg w st sm)(hmode:ConcN.Mode j D tag st sm)
 {a':Goroutine}{es:Array Event}{O1:Nat→Prop}{x':Rank S.P}(hgo:stepG S.P true a w=.go a' w' es)(d:Did (C 0) (O 0) O1 w w' es.toList)(hd:d0=0)
 (hm':iY S j x' tag b f0 0 a' w' O1)(hr:kV S.P x' (rk 0)):iq S (mu S j D tag b pre rk f0) t (runT S.P (crowd gs w sl) 0):=by
 subst hd
 have hev:∀e∈es,QJ O1 (C 0) e:=fun e he=>d.evs e (by simpa using he)
 have jd:=hc.lay.did d
 have hbW:w'.heap[S.Wg]? =w.heap[S.Wg]?:=hc.lay.shared d (.inl rfl)
 have hdf:deafBehind 0 es=0:=deafBehind_idle (fun e he=>⟨(jw (hev e he)).1,(jw (hev e he)).2.1⟩) 0
 have o0:∀k,1≤k→rD O 0 O1 k=O k:=fun k hk=>dX O O1 zo
 refine FE hS ha hc hgo jd (fun k hk=>hc.lay.keeps d hk) (fun q hq=>hc.lay.common d hq) ⟨d.os,d.output,d.tape⟩ (hc.sent.congr (hc.lay.shared d (.inr rfl)) fun _ _=>Iff.rfl) (hc.ct.app0 hc.lay.apart fun op hop=>?_) (Np hc.lay d hc.QF _ _) (LW hev _ _)
  (fun e he=>(jw (hev e he)).2.2 _) (by rw[hdf];exact hm') (by unfold WgAt at *;rw[hbW];exact hwg) hmode (.inr ⟨rfl,.inl hr⟩)
 obtain⟨e,he,rfl⟩:=mem_ofEvents hop
 refine KC (hc.lay.grow d.size) (hev e he) (fun q hq=>⟨fun k hk=>⟨fun h=>?_,fun h=>?_⟩,fun h=>?_⟩) (fun q hq=>⟨fun k hk h=>?_,fun h=>?_⟩) _ _
 ·have:=jd.own 0 k q (by rw[bN];exact hq) (by rw[o0 k hk];exact h);omega
 ·exact jd.pq 0 k q (by rw[bN];exact hq) h
 ·exact jd.nJ 0 q (by rw[bN];exact hq) h
 ·exact hc.lay.pq k 0 q h hq
 ·exact hc.lay.cS 0 q hq h
theorem iT(hS:S.Ok)(ha:gs[0]? =some a)(hc:Com S O C bx pre rk j gs w t D d0)
 {a':Goroutine}{es:Array Event}{tag':CTag}{b' f':Nat}{st' sm':Int}(hgo:stepG S.P true a w=.go a' w' es)(hAs:Aside S.Wg w w')(hwg:WgAt S.ty S.Wg w' st' sm')
 (hev:∀e∈es,∀x,(MemAct.ofEvent e).touch?=some x→ShN S.Wg x.loc∧x.kind≠.plain)(hnr:∀e∈es,e.loc≠.mark (.release (stA S.Wg)))
 (hm':iY S j (rk 0) tag' b' f' (deafBehind d0 es) a' w' (O 0))(hmode:ConcN.Mode j D tag' st' sm')
 (hlt:2 * phi S.n (Vc j D) tag'+b'<2 * phi S.n (Vc j D) tag+b∨(2 * phi S.n (Vc j D) tag'+b'=2 * phi S.n (Vc j D) tag+b∧f'<f0)):
 iq S (mu S j D tag b pre rk f0) t (runT S.P (crowd gs w sl) 0):=by
 have hkp:∀k,Keeps (C k) (O k) w w':=fun k q hq=>hAs.block q (by
  rcases hq with h|h
  ·exact fun e=>hc.lay.nJ k q h (.inl e)
  ·exact fun e=>hc.lay.cS k q h (.inl e))
 refine FE (O1:=O 0) (x':=rk 0) hS ha hc hgo (by rw[kg];exact hc.lay.grow (Nat.le_of_eq hAs.size.symm)) (fun k _=>hkp k) (fun q hq=>hkp 0 q (.inr hq)) ⟨hAs.os,hAs.output,hAs.tape⟩ (hc.sent.congr (hAs.block _ (Ne.symm hS.wc)) fun _ _=>Iff.rfl)
  (hc.ct.app0 hc.lay.apart fun op hop=>?_) (oU hc.QF (Nat.le_of_eq hAs.size.symm) fun op hop x hx q hq=>?_) (RF (fun e he x hx=>(hev e he x hx).1) _ _) hnr hm' hwg hmode ?_
 ·obtain⟨e,he,rfl⟩:=mem_ofEvents hop
  refine⟨rfl,fun x hx=>.inl ?_⟩
  obtain⟨⟨q,h1,h2⟩,h3⟩:=hev e he x hx
  exact⟨by rw[h1];exact .inl h2,h3⟩
 ·obtain⟨e,he,rfl⟩:=mem_ofEvents hop
  obtain⟨⟨ad,h1,h2⟩,_⟩:=hev e he x hx
  rw[h1] at hq
  simp only[In] at hq
  have:=hc.lay.MI S.Wg (.inl rfl)
  have:=hAs.size
  omega
 ·rcases hlt with h|⟨h1,h2⟩
  ·exact .inl h
  ·exact .inr ⟨h1,.inr ⟨rfl,h2⟩⟩
theorem D6{es:Array Event}(h:∀e∈es,Bk S.Wg e):∀e∈es,∀x,(MemAct.ofEvent e).touch?=some x→ShN S.Wg x.loc∧x.kind≠.plain:=fun e he x hx=>⟨(xB h e he x hx).1,(xB h e he x hx).2.1⟩
theorem F7{m:Mark}(h:∀x,(MemAct.ofEvent ⟨.mark m,false,true⟩).touch?=some x→ShN S.Wg x.loc∧x.kind≠.plain):∀e∈#[(⟨.mark m,false,true⟩:Event)],∀x,(MemAct.ofEvent e).touch?=some x→ShN S.Wg x.loc∧x.kind≠.plain:=by
 intro e he;simp at he;subst he;exact h
theorem eN:∀x,(MemAct.ofEvent ⟨.mark (.read ⟨S.Wg,1,none⟩),false,true⟩).touch?=some x→ShN S.Wg x.loc∧x.kind≠.plain:=by
 intro x hx
 simp[MemAct.ofEvent,MemAct.touch?] at hx
 subst hx
 exact⟨⟨_,rfl,rfl⟩,zs⟩
theorem eQ:∀x,(MemAct.ofEvent ⟨.mark (.write ⟨S.Wg,1,none⟩),false,true⟩).touch?=some x→ShN S.Wg x.loc∧x.kind≠.plain:=by
 intro x hx
 simp[MemAct.ofEvent,MemAct.touch?] at hx
 subst hx
 exact⟨⟨_,rfl,rfl⟩,zs⟩
end
section
variable{S:Site}{O C:Nat→Nat→Prop}{bx pre:Nat→Nat}{rk:Nat→Rank S.P}{j:Nat}{gs:Array Goroutine}{w w':World}{sl:Option (Nat × Nat)}{t:Trace}{D:Nat→WD}{tag:CTag}{b f0 d0:Nat}{a:Goroutine}{st sm:Int}
theorem Com.spawn(hS:S.Ok)(h:Com S O C bx pre rk j gs w t D 0){a' child:Goroutine}{bq:Nat}{x y:MemOp}(hx:x.g=0∧x.act=.go (j+1))(hy:y.g=j+1∧y.act=.start)
 (hO:∀q,O 0 q↔q=bq)(iW:w.heap[bq]? =some (S.RP j)){x1 x2:Rank S.P}(hx2:x2.1=mK (S.C1 bq) (S.V1 j bq) false (S.K8 j bq) child w mD)(hW:Wk S.P false (S.C1 bq) (S.V1 j bq) (S.K8 j bq) child w mD):
 Com S (rD O 0 mD) (rD C (j+1) (S.C1 bq)) (upd bx j bq) (upd pre j 2) (upd (upd rk (j+1) x2) 0 x1) (j+1) ((gs.setIfInBounds 0 a').push child) w (t ++ #[x,y]) (upd D j ⟨7,0,0⟩) 0:=by
 have hm:∀op∈#[x,y],op=x∨op=y:=by intro op hop;simpa using hop
 have hst:∀op∈#[x,y],op.act.touch?=none∧∀m,op.act≠.mark m:=by
  intro op hop
  rcases hm op hop with rfl|rfl
  ·rw[hx.2];exact⟨rfl,fun m e=>by cases e⟩
  ·rw[hy.2];exact⟨rfl,fun m e=>by cases e⟩
 have hb0:O 0 bq:=(hO bq).2 rfl
 have oO:∀k q,rD O 0 mD k q→k≠0∧O k q:=fun k q hq=>by
  by_cases e:k=0
  ·subst e;rw[bN] at hq;exact hq.elim
  ·rw[dX O _ e] at hq;exact⟨e,hq⟩
 have cC:∀k q,rD C (j+1) (S.C1 bq) k q→C k q∨C 0 q∨q=bq:=fun k q hq=>by
  by_cases e:k=j+1
  ·subst e;rw[bN] at hq
   rcases hq with hq|hq
   ·exact .inr (.inl (by rw[h.c0];exact hq))
   ·exact .inr (.inr hq)
  ·rw[dX C _ e] at hq;exact .inl hq
 have jd:Lay (rD O 0 mD) (rD C (j+1) (S.C1 bq)) S.Sh w:=by
  refine⟨fun k k' q h1 h2=>h.lay.own k k' q (oO k q h1).2 (oO k' q h2).2,fun k k' q h1 h2=>?_,fun k q h1=>h.lay.nJ k q (oO k q h1).2,fun k q h1=>?_,fun k q h1=>h.lay.MH k q (oO k q h1).2,fun k q h1=>?_,h.lay.MI⟩
  ·obtain⟨e,h1⟩:=oO k q h1
   rcases cC k' q h2 with h2|h2|rfl
   ·exact h.lay.pq k k' q h1 h2
   ·exact h.lay.pq k 0 q h1 h2
   ·exact e (h.lay.own k 0 q h1 hb0)
  ·rcases cC k q h1 with h1|h1|rfl
   ·exact h.lay.cS k q h1
   ·exact h.lay.cS 0 q h1
   ·exact h.lay.nJ 0 q hb0
  ·rcases cC k q h1 with h1|h1|rfl
   ·exact h.lay.OE k q h1
   ·exact h.lay.OE 0 q h1
   ·exact h.lay.MH 0 q hb0
 have hsz:((gs.setIfInBounds 0 a').push child).size=j+1+1:=by simp[h.size]
 refine⟨hsz,jd,by rw[dX C _ zo];exact h.c0,fun i hi=>?_,fun k q hk=>⟨fun hq=>(h.z k q zo).1 (oO k q hq).2,by rw[dX C _ zo];exact(h.z k q zo).2⟩,h.v0,fun i hi=>?_,fun i hi=>?_,
  CT.fork jd.apart (CT.congr h.ct (fun k k1 k2=>by unfold ig;rw[dX O _ zo]) (fun k k1 k2=>by unfold Dz;rw[dX C _ zo])) hx hy h.deaf0,
  oU h.QF (Nat.le_refl _) (fun op hop z hz=>by rw[(hst op hop).1] at hz;cases hz),h.norel.app fun op hop=>(hst op hop).2 _,by rw[Deaf_still t 0 _ fun op hop=>⟨(hst op hop).2 _,(hst op hop).2 _⟩,h.deaf0],fun i hi=>?_,fun i hi hs=>?_,?_,h.ye.app (rJ fun op hop=>(hst op hop).1)⟩
 ·by_cases e:i=j
  ·subst e;rw[bN,upd_same]
  ·rw[dX C _ zo,upd_ne bx _ e];exact h.ci i zo
 ·by_cases e:i=j
  ·subst e;rw[upd_same];exact iW
  ·rw[upd_ne bx _ e];exact h.box i zo
 ·by_cases e:i=j
  ·subst e
   refine⟨child,?_,?_⟩
   ·rw[show i+1=(gs.setIfInBounds 0 a').size by simp[h.size],Array.getElem?_push_size]
   ·have e1:rD O 0 mD (i+1)=mD:=by
     rw[dX O _ zo]
     funext q
     exact propext ⟨fun hq=>((h.z (i+1) q zo).1 hq).elim,fun hq=>hq.elim⟩
    rw[upd_ne (upd rk (i+1) x2) x1 (show i+1≠0 by omega),e1]
    simp only[upd_same]
    exact .p2 hx2 hW
  ·obtain⟨g,hg,hs⟩:=h.wk i zo
   refine⟨g,?_,?_⟩
   ·rw[Array.getElem?_push_lt (by simp[h.size];omega),← Array.getElem?_eq_getElem,Array.getElem?_setIfInBounds_ne zo]
    exact hg
   ·rw[upd_ne (upd rk (j+1) x2) x1 (show i+1≠0 by omega),upd_ne rk x2 (show i+1≠j+1 by omega),upd_ne bx _ e,upd_ne pre _ e,upd_ne D _ e,dX O _ zo]
    exact hs
 ·rw[Deaf_still t _ _ fun op hop=>⟨(hst op hop).2 _,(hst op hop).2 _⟩]
  by_cases e:i=j
  ·subst e;rw[upd_same]
   exact Deaf_absent fun q op hq e=>by have:=h.ct.gs q op hq;omega
  ·rw[upd_ne D _ e];exact h.deafW i zo
 ·by_cases e:i=j
  ·subst e;rw[upd_same] at hs;simp at hs
  ·rw[upd_ne D _ e] at hs
   obtain⟨r,hr⟩:=h.rel i zo hs
   refine⟨r,hr.appNot fun op hop=>?_⟩
   rcases hm op hop with rfl|rfl
   ·rw[hx.1];omega
   ·rw[hy.1];omega
 ·obtain⟨buf,s,q,h1,h2⟩:=h.sent
  refine⟨buf,s,q,h1,?_⟩
  have e1:((List.range (j+1)).filter fun i=>S.bit i && decide (upd pre j 2 i≤1))=(List.range j).filter fun i=>S.bit i && decide (pre i≤1):=by
   rw[List.range_succ,List.filter_append,List.filter_cons_of_neg (by simp[upd_same]),List.filter_nil,List.append_nil]
   exact List.filter_congr fun k hk=>by rw[upd_ne pre _ (by have:=List.mem_range.1 hk;omega)]
  rw[e1];exact h2
theorem iv(hS:S.Ok)(ha:gs[0]? =some a)(hc:Com S O C bx pre rk j gs w t D 0)(hwg:WgAt S.ty S.Wg w st sm){r:Nat}(hmode:ConcN.Mode j D (.sp r 0) st sm)(hj:j+(r+1)=S.n)
 (h:S.Jd j (S.Sp r) a w (O 0)):iq S (mu S j D (.sp r 0) 0 pre rk f0) t (runT S.P (crowd gs w sl) 0):=by
 obtain⟨hrun,a',child,bq,hgo,hcr,hO,iW,hW,hnext⟩:=h
 have hrunT:=runT_crowd_spawn (P:=S.P) (sl:=sl) (i:=0) ha (by simpa using hgo)
 have hu0:MemOp.ofEvents 0 a.frame.fn a.frame.place #[]=#[]:=by simp[ofEvents_eq]
 rw[hu0] at hrunT
 obtain⟨x2,hx2⟩:=sS hW
 cases hmode with
 | opn h1 h2 h3=>
   have eV:Vc (j+1) (upd D j ⟨7,0,0⟩)=Vc j D+1:=by
    simp only[Vc,sumTo,upd_same]
    rw[sumTo_congr (g:=fun i=>cnt (D i)) fun i hi=>by rw[upd_ne D _ zo]]
    simp[cnt]
   have eS:Ssum (j+1) (upd D j ⟨7,0,0⟩)=Ssum j D+7:=by
    simp only[Ssum,sumTo,upd_same]
    rw[sumTo_congr (g:=fun i=>(D i).stage) fun i hi=>by rw[upd_ne D _ zo]]
   have eP:sumTo (j+1) (upd pre j 2)=sumTo j pre+2:=by
    simp only[sumTo,upd_same]
    rw[sumTo_congr (g:=pre) fun i hi=>by rw[upd_ne pre _ zo]]
   have ho:OpenSt (j+1) (upd D j ⟨7,0,0⟩):=fun i hi=>by
    by_cases e:i=j
    ·subst e;rw[upd_same];simp
    ·rw[upd_ne D _ e];exact h2 i zo
   have fin:∀ {tag':CTag} {f':Nat} {x1:Rank S.P},iY S (j+1) x1 tag' 0 f' 0 a' w mD→isOpen tag'→pend tag'=0→(∀vs,tag'≠.w2 vs)→(∀v v',2 * phi S.n v tag'+9<2 * phi S.n v' (.sp r 0))→
    iq S (mu S j D (.sp r 0) 0 pre rk f0) t (runT S.P (crowd gs w sl) 0):=by
    intro tag' f' x1 hm' o1 o2 o3 o4
    refine⟨_,_,hrunT,.inr ⟨mu S (j+1) (upd D j ⟨7,0,0⟩) tag' 0 (upd pre j 2) (upd (upd rk (j+1) x2) 0 x1) f',Eu ?_,(gs.setIfInBounds 0 a').push child,w,sl,j+1,upd D j ⟨7,0,0⟩,tag',0,f',0,a',_,_,rD O 0 mD,rD C (j+1) (S.C1 bq),upd bx j bq,_,_,rfl,?_,?_,
     ?_,hwg,?_,rfl⟩⟩
    ·show 2 * phi S.n (Vc (j+1) (upd D j ⟨7,0,0⟩)) tag'+0+Ssum (j+1) (upd D j ⟨7,0,0⟩)+sumTo (j+1) (upd pre j 2)<2 * phi S.n (Vc j D) (.sp r 0)+0+Ssum j D+sumTo j pre
     have:=o4 (Vc (j+1) (upd D j ⟨7,0,0⟩)) (Vc j D)
     rw[eS,eP]
     omega
    ·rw[Array.getElem?_push_lt (by simp[hc.size]),← Array.getElem?_eq_getElem]
     exact Array.getElem?_setIfInBounds_self_of_lt (by rw[hc.size];omega)
    ·rw[upd_same,bN];exact hm'
    ·exact hc.spawn hS (x:={g:=0,fn:=a.frame.fn,pos:=a.frame.place,act:=.go gs.size }) (y:={g:=gs.size,fn:=child.frame.fn,pos:=a.frame.place,act:=.start }) ⟨rfl,by rw[hc.size]⟩ ⟨hc.size,rfl⟩ hO iW hx2 hW
    ·have:=ConcN.Mode.opn (j:=j+1) (D:=upd D j ⟨7,0,0⟩) (tag:=tag') o1 ho (fun vs e=>absurd e (o3 vs))
     rw[eV,o2] at this
     exact this
   cases r with
   | zero=>
     obtain⟨m,hk⟩:=hnext
     exact fin (x1:=rk 0) (.kd zo hk) trivial rfl zs fun v v'=>by simp only[phi];omega
   | succ r=>
     have hk:Wk S.P true S.Cb S.V0 (S.Ay (S.n - (r+1)) (S.Sp r)) a' w mD:=hnext
     rw[show S.n - (r+1)=j+1 by omega] at hk
     obtain⟨x1,hx1⟩:=sS hk
     exact fin (.skd zo hx1 hk) trivial rfl zs fun v v'=>by simp only[phi];omega
 | reg h1 _ _=>exact h1.elim
 | last L h1 _ _ _=>exact h1.elim
 | fin h1 _=>exact h1.elim
end
end
section
open Go.Conc Go.ConcN Go.cZ Go.Conc.Lib
open Go.ConcR (KK WgAt stA smA rd wr g_of_ofEvents Payload DC0 again_blocked Bk ofEvent_loc_mark ofEvent_cell bk_of_mute ofEvent_mk)
variable[Inhabited aZ]
section
variable{S:Site}{O C:Nat→Nat→Prop}{bx pre:Nat→Nat}{rk:Nat→Rank S.P}{j:Nat}{gs:Array Goroutine}{w w':World}{sl:Option (Nat × Nat)}{t:Trace}{D:Nat→WD}{tag:CTag}{b f0 d0:Nat}{a:Goroutine}{st sm:Int}
theorem iq.mono{μ μ':vN S}{r:Stepped × Array MemOp}(h:iq S μ' t r)(hl:μ'.1<μ.1):iq S μ t r:=by
 obtain⟨m₁,ops,h1,h2⟩:=h
 exact⟨m₁,ops,h1,h2.imp id fun⟨μ2,h3,h4⟩=>⟨μ2,Cu h3 hl,h4⟩⟩
theorem Com.rk0(h:Com S O C bx pre rk j gs w t D d0)(x1:Rank S.P):Com S O C bx pre (upd rk 0 x1) j gs w t D d0:=
 {h with wk:=fun i hi=>by rw[upd_ne rk _ zo];exact h.wk i hi }
theorem eF(hS:S.Ok)(ha:gs[0]? =some a)(hc:Com S O C bx pre rk j gs w t D d0)(hwg:WgAt S.ty S.Wg w st sm)(hmode:ConcN.Mode j D tag st sm){a':Goroutine}{f':Nat}(hgo:stepG S.P true a w=.go a' w #[])
 (hm':iY S j (rk 0) tag b f' d0 a' w (O 0))(hlt:f'<f0):iq S (mu S j D tag b pre rk f0) t (runT S.P (crowd gs w sl) 0):=
 iT hS ha hc hgo (.refl S.Wg w) hwg zs zs hm' hmode (.inr ⟨rfl,hlt⟩)
theorem gQ(hS:S.Ok)(ha:gs[0]? =some a)(hc:Com S O C bx pre rk j gs w t D d0)(hwg:WgAt S.ty S.Wg w st sm){tag':CTag}{b':Nat}(hmode:ConcN.Mode j D tag' st sm){a':Goroutine}{f':Nat}{es:Array Event}(hgo:stepG S.P true a w=.go a' w es)
 (hbk:∀e∈es,Bk S.Wg e)(hm':iY S j (rk 0) tag' b' f' (deafBehind d0 es) a' w (O 0))(hlt:2 * phi S.n (Vc j D) tag'+b'<2 * phi S.n (Vc j D) tag+b):iq S (mu S j D tag b pre rk f0) t (runT S.P (crowd gs w sl) 0):=
 iT hS ha hc hgo (.refl S.Wg w) hwg (D6 hbk) (norel_of_Bk hbk) hm' hmode (.inl hlt)
theorem Mode.opened(h:ConcN.Mode j D tag st sm)(ho:isOpen tag):OpenSt j D∧(∀vs,tag=.w2 vs→Vc j D≤vs∧1≤vs)∧st=((Vc j D+pend tag:Nat):Int) * KK∧sm=0:=by
 cases h with
 | opn h1 h2 h3=>exact⟨h2,h3,rfl,rfl⟩
 | reg h1 _ _=>cases tag <;> first|exact h1.elim|exact ho.elim
 | last L h1 _ _ _=>cases tag <;> first|exact h1.elim|exact ho.elim
 | sema _=>exact ho.elim
 | fin h1 _=>cases tag <;> first|exact h1.elim|exact ho.elim
theorem Mode.ended(h:ConcN.Mode j D tag st sm)(ho:isFin tag):AllQuit j D∧st=0∧sm=0:=by
 cases h with
 | opn h1 _ _=>cases tag <;> first|exact h1.elim|exact ho.elim
 | reg h1 _ _=>cases tag <;> first|exact h1.elim|exact ho.elim
 | last L h1 _ _ _=>cases tag <;> first|exact h1.elim|exact ho.elim
 | sema _=>exact ho.elim
 | fin h1 h2=>exact⟨h2,rfl,rfl⟩
theorem Mode.moved{tag':CTag}(h:ConcN.Mode j D tag st sm)(ho:isOpen tag)(ho':isOpen tag')(hp:pend tag'=pend tag)(hv:∀vs,tag'=.w2 vs→Vc j D≤vs∧1≤vs):ConcN.Mode j D tag' st sm:=by
 obtain⟨h1,_,rfl,rfl⟩:=Mode.opened h ho
 rw[← hp]
 exact .opn ho' h1 hv
theorem Nf(hS:S.Ok)(ha:gs[0]? =some a)(hc:Com S O C bx pre rk j gs w t D 0)(hwg:WgAt S.ty S.Wg w st sm){r:Nat}(hmode:ConcN.Mode j D (.sp r 0) st sm)(hj:j+(r+1)=S.n)
 (hx:(rk 0).1=mK S.Cb S.V0 true (S.Jd j (S.Sp r)) a w (O 0))(h:Wk S.P true S.Cb S.V0 (S.Jd j (S.Sp r)) a w (O 0)):iq S (mu S j D (.sp r 0) 0 pre rk 0) t (runT S.P (crowd gs w sl) 0):=by
 by_cases hK:S.Jd j (S.Sp r) a w (O 0)
 ·exact iv hS ha hc hwg hmode hj hK
 ·obtain⟨h0,g2,w3,O2,es,y,r1,r2,r3,r4,r5⟩:=EX h hc.v0 hK _ hx
  rw[← hc.c0] at r2
  exact Hq hS ha hc hwg hmode r1 r2 rfl (.sgo hj r4 r3) r5
theorem YD(hS:S.Ok)(ha:gs[0]? =some a)(hc:Com S O C bx pre rk j gs w t D 0)(hwg:WgAt S.ty S.Wg w st sm){r:Nat}(hmode:ConcN.Mode j D (.sp r 5) st sm)(hj:j+(r+1)=S.n)
 (hx:(rk 0).1=mK S.Cb S.V0 true (S.Ay j (S.Sp r)) a w (O 0))(h:Wk S.P true S.Cb S.V0 (S.Ay j (S.Sp r)) a w (O 0)):iq S (mu S j D (.sp r 5) 0 pre rk 0) t (runT S.P (crowd gs w sl) 0):=by
 by_cases hK:S.Ay j (S.Sp r) a w (O 0)
 ·obtain⟨R,⟨hr,g',hgo,m,hk⟩,hcont⟩:=hK
  exact gQ hS ha hc hwg (tag':=.sp r 4) (b':=0) (f':=m) (Mode.moved hmode trivial trivial rfl zs) hgo qH (.sa1 hj hk hcont) (by simp only[phi];omega)
 ·obtain⟨h0,g2,w3,O2,es,y,r1,r2,r3,r4,r5⟩:=EX h hc.v0 hK _ hx
  rw[← hc.c0] at r2
  exact Hq hS ha hc hwg hmode r1 r2 rfl (.skd hj r4 r3) r5
theorem YC(hS:S.Ok)(ha:gs[0]? =some a)(hc:Com S O C bx pre rk j gs w t D 1)(hwg:WgAt S.ty S.Wg w st sm){r:Nat}(hmode:ConcN.Mode j D (.sp r 4) st sm)(hj:j+(r+1)=S.n)
 {R:Goroutine}{m:Nat}(h:S.GL (S.nb R) m a w)(hcont:S.Cont j (S.Sp r) R w (O 0)):iq S (mu S j D (.sp r 4) 0 pre rk m) t (runT S.P (crowd gs w sl) 0):=by
 rcases Goes.cases h with hs|⟨m',rfl,hs⟩
 ·obtain⟨hr,hall⟩:=hs w fun x=>x
  obtain⟨h1,_,rfl,rfl⟩:=Mode.opened hmode trivial
  have hV:=Vc_le j D
  have hn:=hS.n31
  obtain⟨g',hgo,m₂,hk⟩:=hall (Vc j D) zo (by simpa [pend] using hwg)
  have hwg':WgAt S.ty S.Wg (w.setCell (stA S.Wg) (.int .u64 (((Vc j D:Nat)+1:Int) * KK))) (((Vc j D:Nat)+1:Int) * KK) 0:=hwg.setSt _
  have hAs:=aside_setCell w (stA S.Wg) (.int .u64 (((Vc j D:Nat)+1:Int) * KK))
  refine iT hS ha hc hgo hAs hwg' (D6 bk_rw) (norel_of_Bk bk_rw) (tag':=.sp r 3) (b':=0) (f':=m₂) (.m5 hj hk (iy hcont fun q hq=>hAs.block q ?_)) ?_ (.inl (by simp only[phi];omega))
  ·rcases hq with hq|hq
   ·exact fun e=>hc.lay.nJ 0 q hq (.inl e)
   ·exact fun e=>hc.lay.cS 0 q (by rw[hc.c0];exact hq) (.inl e)
  ·have:=ConcN.Mode.opn (tag:=.sp r 3) (j:=j) (D:=D) trivial h1 zs
   simpa [pend] using this
 ·obtain⟨g',w',es,hgo,⟨rfl,rfl⟩,hk⟩:=hs w fun x=>x
  exact eF hS ha hc hwg hmode hgo (.sa1 hj hk hcont) zo
theorem YG(hS:S.Ok)(ha:gs[0]? =some a)(hc:Com S O C bx pre rk j gs w t D 1)(hwg:WgAt S.ty S.Wg w st sm){r:Nat}(hmode:ConcN.Mode j D (.sp r 3) st sm)(hj:j+(r+1)=S.n)
 {R:Goroutine}{m:Nat}(h:S.GL (S.nh R) m a w)(hcont:S.Cont j (S.Sp r) R w (O 0)):iq S (mu S j D (.sp r 3) 0 pre rk m) t (runT S.P (crowd gs w sl) 0):=by
 rcases Goes.cases h with hs|⟨m',rfl,hs⟩
 ·rcases hs w fun x=>x with⟨hr,g',hgo,m₂,hk⟩|⟨hr,g',hgo,m₂,hk⟩
  ·exact iT hS ha hc hgo (.refl S.Wg w) hwg (F7 eN) (by intro e he;simp at he;subst he;simp[tW]) (tag':=.sp r 2) (b':=0) (f':=m₂) (.ske hj hk hcont) (Mode.moved hmode trivial trivial rfl zs) (.inl (by simp only[phi];omega))
  ·exact gQ hS ha hc hwg (tag':=.sp r 1) (b':=0) (f':=m₂) (Mode.moved hmode trivial trivial rfl zs) hgo tK (.iu hj hk hcont) (by simp only[phi];omega)
 ·obtain⟨g',w',es,hgo,⟨rfl,rfl⟩,hk⟩:=hs w fun x=>x
  exact eF hS ha hc hwg hmode hgo (.m5 hj hk hcont) zo
theorem YE(hS:S.Ok)(ha:gs[0]? =some a)(hc:Com S O C bx pre rk j gs w t D 1)(hwg:WgAt S.ty S.Wg w st sm){r:Nat}(hmode:ConcN.Mode j D (.sp r 2) st sm)(hj:j+(r+1)=S.n)
 {R:Goroutine}{m:Nat}(h:S.GL (S.lL R) m a w)(hcont:S.Cont j (S.Sp r) R w (O 0)):iq S (mu S j D (.sp r 2) 0 pre rk m) t (runT S.P (crowd gs w sl) 0):=by
 rcases Goes.cases h with hs|⟨m',rfl,hs⟩
 ·obtain⟨hr,g',hgo,m₂,hk⟩:=hs w fun x=>x
  exact gQ hS ha hc hwg (tag':=.sp r 1) (b':=0) (f':=m₂) (Mode.moved hmode trivial trivial rfl zs) hgo tK (.iu hj hk hcont) (by simp only[phi];omega)
 ·obtain⟨g',w',es,hgo,⟨rfl,rfl⟩,hk⟩:=hs w fun x=>x
  exact eF hS ha hc hwg hmode hgo (.ske hj hk hcont) zo
theorem YF(hS:S.Ok)(ha:gs[0]? =some a)(hc:Com S O C bx pre rk j gs w t D 0)(hwg:WgAt S.ty S.Wg w st sm){r:Nat}(hmode:ConcN.Mode j D (.sp r 1) st sm)(hj:j+(r+1)=S.n)
 {R:Goroutine}{m:Nat}(h:S.GL (fun g _=>g=R) m a w)(hcont:S.Cont j (S.Sp r) R w (O 0)):iq S (mu S j D (.sp r 1) 0 pre rk m) t (runT S.P (crowd gs w sl) 0):=by
 rcases Goes.cases h with hs|⟨m',rfl,hs⟩
 ·have e:a=R:=hs w fun x=>x
  subst e
  have hW:=hcont w (Keeps.refl _ _ _) hc.v0
  obtain⟨x1,hx1⟩:=sS hW
  have:=Nf (sl:=sl) hS ha (hc.rk0 x1) hwg (Mode.moved hmode (tag':=.sp r 0) trivial trivial rfl zs) hj (by rw[upd_same];exact hx1) hW
  refine this.mono ?_
  show 2 * phi S.n (Vc j D) (.sp r 0)+0+Ssum j D+sumTo j pre<2 * phi S.n (Vc j D) (.sp r 1)+0+Ssum j D+sumTo j pre
  simp only[phi];omega
 ·obtain⟨g',w',es,hgo,⟨rfl,rfl⟩,hk⟩:=hs w fun x=>x
  exact eF hS ha hc hwg hmode hgo (.iu hj hk hcont) zo
end
section
variable{S:Site}{O C:Nat→Nat→Prop}{bx pre:Nat→Nat}{rk:Nat→Rank S.P}{j:Nat}{gs:Array Goroutine}{w w':World}{sl:Option (Nat × Nat)}{t:Trace}{D:Nat→WD}{tag:CTag}{b f0 d0:Nat}{a:Goroutine}{st sm:Int}
theorem eU(hO:O 0=mD){x:Rank S.P}{w:World}(h:iY S j x tag b f0 d0 a w mD):iY S j x tag b f0 d0 a w (O 0):=hO ▸ h
theorem iz(hS:S.Ok)(ha:gs[0]? =some a)(hc:Com S O C bx pre rk j gs w t D 0)(hwg:WgAt S.ty S.Wg w st sm)(hmode:ConcN.Mode j D .kd st sm)(hj:j=S.n)(hO:O 0=mD)
 {m:Nat}(h:S.GL S.dm m a w):iq S (mu S j D .kd 0 pre rk m) t (runT S.P (crowd gs w sl) 0):=by
 have hV:=Vc_le j D
 rcases Goes.cases h with hs|⟨m',rfl,hs⟩
 ·obtain⟨hr,g',hgo,m₂,hk⟩:=hs w fun x=>x
  exact gQ hS ha hc hwg (tag':=.anch) (b':=0) (f':=m₂) (Mode.moved hmode trivial trivial rfl zs) hgo qH (eU hO (.anch hj hk)) (by simp only[phi];omega)
 ·obtain⟨g',w',es,hgo,⟨rfl,rfl⟩,hk⟩:=hs w fun x=>x
  exact eF hS ha hc hwg hmode hgo (eU hO (.kd hj hk)) zo
theorem vO(h1:OpenSt j D)(h0:Vc j D=0):AllQuit j D:=fun i hi=>by
 have h2:=le_sumTo (f:=fun x=>cnt (D x)) hi
 have h3:=h1 i hi
 simp only[Vc] at h0
 have:cnt (D i)=0:=zo
 simp only[cnt] at this
 split at this <;> omega
theorem UG(hS:S.Ok)(ha:gs[0]? =some a)(hc:Com S O C bx pre rk j gs w t D 1)(hwg:WgAt S.ty S.Wg w st sm)(hmode:ConcN.Mode j D .w1 st sm)(hj:j=S.n)(hO:O 0=mD)
 {m:Nat}(h:S.GL S.W1 m a w):iq S (mu S j D .w1 0 pre rk m) t (runT S.P (crowd gs w sl) 0):=by
 have hV:=Vc_le j D
 have hn:=hS.n31
 rcases Goes.cases h with hs|⟨m',rfl,hs⟩
 ·obtain⟨hr,hall⟩:=hs w fun x=>x
  obtain⟨h1,_,rfl,rfl⟩:=Mode.opened hmode trivial
  obtain⟨g',hgo,hz,hp⟩:=hall (Vc j D) zo (by simpa [pend] using hwg)
  by_cases h0:Vc j D=0
  ·obtain⟨m₂,hk⟩:=hz h0
   refine gQ hS ha hc hwg (tag':=.ke) (b':=0) (f':=m₂) ?_ hgo bk_rd (eU hO (.ke hj hk)) (by simp only[phi];omega)
   have:=ConcN.Mode.fin (j:=j) (D:=D) (tag:=.ke) trivial (vO h1 h0)
   rw[h0];simpa [pend] using this
  ·obtain⟨m₂,hk⟩:=hp h0
   exact gQ hS ha hc hwg (tag':=.w2 (Vc j D)) (b':=0) (f':=m₂) (Mode.moved hmode trivial trivial rfl fun vs e=>by cases e;exact⟨Nat.le_refl _,zo⟩) hgo bk_rd (eU hO (.w2 hj hk)) (by simp only[phi];omega)
 ·obtain⟨g',w',es,hgo,⟨rfl,rfl⟩,hk⟩:=hs w fun x=>x
  exact eF hS ha hc hwg hmode hgo (eU hO (.w1 hj hk)) zo
theorem UD(hS:S.Ok)(ha:gs[0]? =some a)(hc:Com S O C bx pre rk j gs w t D 1)(hwg:WgAt S.ty S.Wg w st sm)(hmode:ConcN.Mode j D .anch st sm)(hj:j=S.n)(hO:O 0=mD)
 {m:Nat}(h:S.GL S.Anch m a w):iq S (mu S j D .anch 0 pre rk m) t (runT S.P (crowd gs w sl) 0):=by
 rcases Goes.cases h with hs|⟨m',rfl,hs⟩
 ·obtain⟨m₂,hk⟩:=hS.anch _ _ (hs w fun x=>x)
  refine(UG (sl:=sl) hS ha hc hwg (Mode.moved hmode (tag':=.w1) trivial trivial rfl zs) hj hO hk).mono ?_
  show 2 * phi S.n (Vc j D) .w1+0+Ssum j D+sumTo j pre<2 * phi S.n (Vc j D) .anch+0+Ssum j D+sumTo j pre
  simp only[phi];omega
 ·obtain⟨g',w',es,hgo,⟨rfl,rfl⟩,hk⟩:=hs w fun x=>x
  exact eF hS ha hc hwg hmode hgo (eU hO (.anch hj hk)) zo
theorem i7(hS:S.Ok)(ha:gs[0]? =some a)(hc:Com S O C bx pre rk j gs w t D 1)(hwg:WgAt S.ty S.Wg w st sm){vs:Nat}(hmode:ConcN.Mode j D (.w2 vs) st sm)(hj:j=S.n)(hO:O 0=mD)
 {m:Nat}(h:S.GL (S.W2 vs) m a w):iq S (mu S j D (.w2 vs) 0 pre rk m) t (runT S.P (crowd gs w sl) 0):=by
 have hV:=Vc_le j D
 have hn:=hS.n31
 rcases Goes.cases h with hs|⟨m',rfl,hs⟩
 ·obtain⟨hr,hall⟩:=hs w fun x=>x
  obtain⟨h1,h2,rfl,rfl⟩:=Mode.opened hmode trivial
  obtain⟨h3,h4⟩:=h2 vs rfl
  have tz:WgAt S.ty S.Wg w ((Vc j D:Nat) * KK) 0:=by simpa [pend] using hwg
  obtain⟨hit,miss⟩:=hall (Vc j D) zo tz
  by_cases e:Vc j D=vs
  ·obtain⟨g',hgo,m₂,hk⟩:=hit e
   exact iT hS ha hc hgo (aside_setCell w (stA S.Wg) _) (tz.setSt _) (D6 bk_rw) (norel_of_Bk bk_rw) (tag':=.w3) (b':=1) (f':=m₂) (eU hO (.wr hj hk)) (.reg trivial h1 zo) (.inl (by simp only[phi];omega))
  ·obtain⟨g',hgo,m₂,hk⟩:=miss e
   exact gQ hS ha hc hwg (tag':=.anch) (b':=0) (f':=m₂) (Mode.moved hmode trivial trivial rfl zs) hgo bk_rd (eU hO (.anch hj hk)) (by simp only[phi];omega)
 ·obtain⟨g',w',es,hgo,⟨rfl,rfl⟩,hk⟩:=hs w fun x=>x
  exact eF hS ha hc hwg hmode hgo (eU hO (.w2 hj hk)) zo
theorem i9(hS:S.Ok)(ha:gs[0]? =some a)(hc:Com S O C bx pre rk j gs w t D 1)(hwg:WgAt S.ty S.Wg w st sm)(hmode:ConcN.Mode j D .w3 st sm)(hj:j=S.n)(hO:O 0=mD)
 {m:Nat}(h:S.GL S.W3 m a w):iq S (mu S j D .w3 0 pre rk (m+1)) t (runT S.P (crowd gs w sl) 0):=by
 rcases Goes.cases h with hs|⟨m',rfl,hs⟩
 ·obtain⟨hr,hof,tx,htake⟩:=hs w fun x=>x
  have blocked:(∃z,WgAt S.ty S.Wg w z 0)→ConcN.Mode j D .blk st sm→iq S (mu S j D .w3 0 pre rk (m+1)) t (runT S.P (crowd gs w sl) 0):=fun hz hb=>
   iT hS ha hc (tx hz) (.refl S.Wg w) hwg zs zs (tag':=.blk) (b':=0) (f':=0) (eU hO (.blk hj hs)) hb (.inr ⟨rfl,zo⟩)
  cases hmode with
  | opn h1 _ _=>exact h1.elim
  | reg h1 h2 h3=>exact blocked ⟨_,hwg⟩ (.reg trivial h2 h3)
  | last L h1 h2 h3 h4=>exact blocked ⟨_,hwg⟩ (.last L trivial h2 h3 h4)
  | sema h2=>
    obtain⟨g',hgo,m₂,hk⟩:=htake hwg
    exact iT hS ha hc hgo (aside_setCell w (smA S.Wg) _) (hwg.setSm 0) (D6 bk_sem) (norel_of_Bk bk_sem) (tag':=.w4) (b':=0) (f':=m₂) (eU hO (.w4 hj hk)) (.fin trivial h2) (.inl (by simp only[phi];omega))
  | fin h1 _=>exact h1.elim
 ·obtain⟨g',w',es,hgo,⟨rfl,rfl⟩,hk⟩:=hs w fun x=>x
  exact eF hS ha hc hwg hmode hgo (eU hO (.w3 hj hk)) zo
theorem jb(hS:S.Ok)(ha:gs[0]? =some a)(hc:Com S O C bx pre rk j gs w t D 1)(hwg:WgAt S.ty S.Wg w st sm)(hmode:ConcN.Mode j D .w3 st sm)(hj:j=S.n)(hO:O 0=mD)
 {m:Nat}(h:S.GL S.pv m a w):iq S (mu S j D .w3 1 pre rk m) t (runT S.P (crowd gs w sl) 0):=by
 rcases Goes.cases h with hs|⟨m',rfl,hs⟩
 ·obtain⟨hr,g',hgo,m₂,hk⟩:=hs w fun x=>x
  exact iT hS ha hc hgo (.refl S.Wg w) hwg (F7 eQ) (by intro e he;simp at he;subst he;simp[ua]) (tag':=.w3) (b':=0) (f':=m₂+1) (eU hO (.w3 hj hk)) hmode (.inl zo)
 ·obtain⟨g',w',es,hgo,⟨rfl,rfl⟩,hk⟩:=hs w fun x=>x
  exact eF hS ha hc hwg hmode hgo (eU hO (.wr hj hk)) zo
end
section
variable{S:Site}{O C:Nat→Nat→Prop}{bx pre:Nat→Nat}{rk:Nat→Rank S.P}{j:Nat}{gs:Array Goroutine}{w w':World}{sl:Option (Nat × Nat)}{t:Trace}{D:Nat→WD}{tag:CTag}{b f0 d0:Nat}{a:Goroutine}{st sm:Int}
theorem ja(hS:S.Ok)(ha:gs[0]? =some a)(hc:Com S O C bx pre rk j gs w t D 1)(hwg:WgAt S.ty S.Wg w st sm)(hmode:ConcN.Mode j D .w4 st sm)(hj:j=S.n)(hO:O 0=mD)
 {m:Nat}(h:S.GL S.W4 m a w):iq S (mu S j D .w4 0 pre rk m) t (runT S.P (crowd gs w sl) 0):=by
 rcases Goes.cases h with hs|⟨m',rfl,hs⟩
 ·obtain⟨hr,hall⟩:=hs w fun x=>x
  obtain⟨h1,rfl,rfl⟩:=Mode.ended hmode trivial
  obtain⟨g',hgo,m₂,hk⟩:=hall hwg
  exact gQ hS ha hc hwg (tag':=.ke) (b':=0) (f':=m₂) (.fin trivial h1) hgo bk_rd (eU hO (.ke hj hk)) (by simp only[phi];omega)
 ·obtain⟨g',w',es,hgo,⟨rfl,rfl⟩,hk⟩:=hs w fun x=>x
  exact eF hS ha hc hwg hmode hgo (eU hO (.w4 hj hk)) zo
theorem i4(hS:S.Ok)(ha:gs[0]? =some a)(hc:Com S O C bx pre rk j gs w t D 1)(hwg:WgAt S.ty S.Wg w st sm)(hmode:ConcN.Mode j D .ke st sm)(hj:j=S.n)(hO:O 0=mD)
 {m:Nat}(h:S.GL S.ZQ m a w):iq S (mu S j D .ke 0 pre rk m) t (runT S.P (crowd gs w sl) 0):=by
 rcases Goes.cases h with hs|⟨m',rfl,hs⟩
 ·obtain⟨hr,g',hgo,m₂,hk⟩:=hs w fun x=>x
  obtain⟨h1,rfl,rfl⟩:=Mode.ended hmode trivial
  exact gQ hS ha hc hwg (tag':=.acq) (b':=0) (f':=m₂) (.fin trivial h1) hgo tK (eU hO (.acq hj hk)) (by simp only[phi];omega)
 ·obtain⟨g',w',es,hgo,⟨rfl,rfl⟩,hk⟩:=hs w fun x=>x
  exact eF hS ha hc hwg hmode hgo (eU hO (.ke hj hk)) zo
theorem YA(hS:S.Ok)(ha:gs[0]? =some a)(hc:Com S O C bx pre rk j gs w t D 0)(hwg:WgAt S.ty S.Wg w st sm)(hmode:ConcN.Mode j D .acq st sm)(hj:j=S.n)(hO:O 0=mD)
 {m:Nat}(h:S.GL S.Jk m a w):iq S (mu S j D .acq 0 pre rk m) t (runT S.P (crowd gs w sl) 0):=by
 rcases Goes.cases h with hs|⟨m',rfl,hs⟩
 ·obtain⟨hr,g',hgo,hfin⟩:=hs w fun x=>x
  obtain⟨h1,rfl,rfl⟩:=Mode.ended hmode trivial
  subst hj
  have hrun:=runT_crowd_go (P:=S.P) (sl:=sl) (i:=0) ha (by simpa using hgo)
  have e1:MemOp.ofEvents 0 a.frame.fn a.frame.place #[Go.ConcR.mk (.acquire (stA S.Wg))]=#[{g:=0,fn:=a.frame.fn,pos:=a.frame.place,act:=.mark (.acquire (stA S.Wg)) }]:=by rw[ofEvents_eq];simp[ofEvent_mk]
  rw[e1] at hrun
  have hu:∀op∈#[({g:=0,fn:=a.frame.fn,pos:=a.frame.place,act:=.mark (.acquire (stA S.Wg)) }:MemOp)],op={g:=0,fn:=a.frame.fn,pos:=a.frame.place,act:=.mark (.acquire (stA S.Wg)) }:=by intro op hop;simpa using hop
  have hst:Deaf (t ++ #[({g:=0,fn:=a.frame.fn,pos:=a.frame.place,act:=.mark (.acquire (stA S.Wg)) }:MemOp)]) 0=0:=by
   rw[Deaf_still t 0 _ fun op hop=>?_,hc.deaf0]
   rw[hu op hop];exact⟨zs,zs⟩
  have hcom:=hc.step0 (gs':=(gs.map (woken S.P a g' w)).setIfInBounds 0 g') (w':=w) (O1:=O 0) (x':=rk 0) (u:=#[{g:=0,fn:=a.frame.fn,pos:=a.frame.place,act:=.mark (.acquire (stA S.Wg)) }]) hS (by simp[hc.size])
   (fun k hk' y hy hst=>by
    rw[get_map_set _ _ _ _ zo,hy,Option.map_some]
    congr 1
    unfold Go.Conc.woken
    split
    ·exact again_running _ hst
    ·rfl) (by rw[kg];exact hc.lay) (fun k _=>Keeps.refl _ _ _) (fun _ _=>rfl) hc.v0.live ⟨rfl,rfl,rfl⟩ hc.sent
   (hc.ct.app0 hc.lay.apart fun op hop=>by rw[hu op hop];exact⟨rfl,fun x hx=>by simp[MemAct.touch?] at hx⟩)
   (oU hc.QF (Nat.le_refl _) fun op hop x hx=>by rw[hu op hop] at hx;simp[MemAct.touch?] at hx) (fun op hop=>by rw[hu op hop]) (fun op hop=>by rw[hu op hop];simp) (rJ fun op hop=>by rw[hu op hop];rfl) hst
  rw[kg,uH] at hcom
  have hy:(t ++ #[({g:=0,fn:=a.frame.fn,pos:=a.frame.place,act:=.mark (.acquire (stA S.Wg)) }:MemOp)])[t.size]? =some {g:=0,fn:=a.frame.fn,pos:=a.frame.place,act:=.mark (.acquire (stA S.Wg)) }:=zs
  refine⟨_,_,hrun,.inl ⟨_,w,sl,D,g',O,C,bx,pre,rk,rfl,get_map_set_same _ _ _ (by rw[hc.size];omega),hfin,hcom,hwg,h1,⟨t.size,by rw[act?_of hy],by simp[Trace.g?],⟨0,by simp[Trace.g?],by rw[deaf_old (Nat.le_refl _)];exact hc.deaf0⟩,fun i hi=>?_⟩,hO⟩⟩
  obtain⟨r,hr⟩:=hc.rel i hi (by have:=h1 i hi;omega)
  exact⟨r,hr.appOther (g:=0) (fun op hop=>by rw[hu op hop]) zo,lt_of_act? hr.act⟩
 ·obtain⟨g',w',es,hgo,⟨rfl,rfl⟩,hk⟩:=hs w fun x=>x
  exact eF hS ha hc hwg hmode hgo (eU hO (.acq hj hk)) zo
theorem stepCaller(hS:S.Ok)(ha:gs[0]? =some a)(hm:iY S j (rk 0) tag b f0 d0 a w (O 0))(hc:Com S O C bx pre rk j gs w t D d0)(hwg:WgAt S.ty S.Wg w st sm)(hmode:ConcN.Mode j D tag st sm)(hrun:a.status=.running):
 iq S (mu S j D tag b pre rk f0) t (runT S.P (crowd gs w sl) 0):=by
 generalize hO:O 0=O0 at hm
 generalize hx:rk 0=x at hm
 cases hm with
 | skd e h1 h=>exact YD hS ha hc hwg hmode e (by rw[hx,hO];exact h1) (by rw[hO];exact h)
 | sa1 e h c=>exact YC hS ha hc hwg hmode e h (by rw[hO];exact c)
 | m5 e h c=>exact YG hS ha hc hwg hmode e h (by rw[hO];exact c)
 | ske e h c=>exact YE hS ha hc hwg hmode e h (by rw[hO];exact c)
 | iu e h c=>exact YF hS ha hc hwg hmode e h (by rw[hO];exact c)
 | sgo e h1 h=>exact Nf hS ha hc hwg hmode e (by rw[hx,hO];exact h1) (by rw[hO];exact h)
 | kd e h=>exact iz hS ha hc hwg hmode e hO h
 | anch e h=>exact UD hS ha hc hwg hmode e hO h
 | w1 e h=>exact UG hS ha hc hwg hmode e hO h
 | w2 e h=>exact i7 hS ha hc hwg hmode e hO h
 | wr e h=>exact jb hS ha hc hwg hmode e hO h
 | w3 e h=>exact i9 hS ha hc hwg hmode e hO h
 | blk e h=>cases hrun
 | w4 e h=>exact ja hS ha hc hwg hmode e hO h
 | ke e h=>exact i4 hS ha hc hwg hmode e hO h
 | acq e h=>exact YA hS ha hc hwg hmode e hO h
theorem someone(hS:S.Ok)(ha:gs[0]? =some a)(hm:iY S j (rk 0) tag b f0 d0 a w (O 0))(hc:Com S O C bx pre rk j gs w t D d0)(hmode:ConcN.Mode j D tag st sm):∃ (i:Nat) (g:Goroutine),gs[i]? =some g∧g.status=.running:=by
 rcases hm.status hS hc.v0 with⟨hs,_⟩|⟨_,rfl⟩
 ·exact⟨0,a,ha,hs⟩
 ·cases hmode with
  | opn h1 _ _=>exact h1.elim
  | reg _ _ h3=>
    obtain⟨i,hi,h5⟩:=exists_counted h3
    obtain⟨g,hg,hs⟩:=hc.wk i hi
    exact⟨i+1,g,hg,hs.running_of (hc.v1 hi) zo⟩
  | last L _ h2 h3 _=>
    obtain⟨g,hg,hs⟩:=hc.wk L h2
    exact⟨L+1,g,hg,hs.running_of (hc.v1 h2) zo⟩
  | fin h1 _=>exact h1.elim
theorem Rz(hS:S.Ok)(ha:gs[0]? =some a)(hm:iY S j (rk 0) tag b f0 d0 a w (O 0))(hc:Com S O C bx pre rk j gs w t D d0):∀g∈gs,awake g:=by
 intro g hg tm
 obtain⟨i,hi⟩:=Array.mem_iff_getElem?.1 hg
 cases i with
 | zero=>
   rw[ha] at hi;cases hi
   rcases hm.status hS hc.v0 with⟨hs,_⟩|⟨hs,_⟩ <;> rw[hs] <;> simp
 | succ i=>
   have hlt:i<j:=by have:=(Array.getElem?_eq_some_iff.1 hi).1;rw[hc.size] at this;omega
   obtain⟨g',hg',hs⟩:=hc.wk i hlt
   rw[hi] at hg';cases hg'
   rcases hs.status (hc.v1 hlt) with h|h <;> rw[h] <;> simp
theorem Com.at(hS:S.Ok)(h:Com S O C bx pre rk j gs w t D d0)(d:Nat):Com S O C bx pre rk j gs (w.at d) t D d0:=
 {h with
  lay:=⟨h.lay.own,h.lay.pq,h.lay.nJ,h.lay.cS,h.lay.MH,h.lay.OE,h.lay.MI⟩
  v0:=⟨h.v0.live,h.v0.tab,h.v0.chan,h.v0.env⟩
  wk:=fun i hi=>let ⟨g,hg,hs⟩:=h.wk i hi;⟨g,hg,hs.keeps hS (fun _ _=>rfl) h.v0.live⟩
  QF:=h.QF
  sent:=h.sent }
theorem JL(hS:S.Ok){μ:vN S}{m:Machine}(h:Inv S μ m t):iq S μ t (stepT S.P m):=by
 obtain⟨gs,w,sl,j,D,tag,b,f0,d0,a,st,sm,O,C,bx,pre,rk,rfl,ha,hm,hc,hwg,hmode,rfl⟩:=h
 obtain⟨i,g,d,sl',hg,hrun,hstep⟩:=crowd_pick (P:=S.P) (w:=w) (sl:=sl) (Rz hS ha hm hc) (someone hS ha hm hc hmode)
 rw[hstep]
 have hm':iY S j (rk 0) tag b f0 d0 a (w.at d) (O 0):=hm.keeps (fun _ _=>rfl) hc.v0.live
 have hc':=hc.at hS d
 have hwg':WgAt S.ty S.Wg (w.at d) st sm:=hwg
 cases i with
 | zero=>
   rw[ha] at hg;cases hg
   exact stepCaller hS ha hm' hc' hwg' hmode hrun
 | succ i=>
   have hi:i<j:=by have:=(Array.getElem?_eq_some_iff.1 hg).1;rw[hc.size] at this;omega
   obtain⟨m₁,ops,μ',h1,h2,h3⟩:=stepWorker (sl:=sl') hS ha hm' hc' hwg' hmode hi hg hrun
   exact⟨m₁,ops,h1,.inr ⟨μ',h2,h3⟩⟩
theorem Oh(hS:S.Ok)(μ:vN S):∀ (m:Machine) (t:Trace),Inv S μ m t→∃N m' t',runNT S.P N m t=(.next m',t')∧VQ S m' t':=by
 induction μ using (gx S).induction with
 | _ μ ih=>
   intro m t h
   obtain⟨m₁,ops,h1,h2⟩:=JL hS h
   rcases h2 with h2|⟨μ',h2,h3⟩
   ·exact⟨1,m₁,t ++ ops,by simp[runNT,h1],h2⟩
   ·obtain⟨N,m',t',h4,h5⟩:=ih μ' h2 m₁ (t ++ ops) h3
    refine⟨1+N,m',t',?_,h5⟩
    rw[runNT_add]
    simp[runNT,h1,h4]
end
end
section
open Go.Conc Go.ConcN Go.cZ Go.Conc.Lib
open Go.ConcR (KK WgAt stA smA rd wr g_of_ofEvents Payload)
variable[Inhabited aZ]
structure After(Shun:Loc→Prop)(t:Trace):Prop where
 clean:∀said,¬ Race said t
 known:∀i a,touchAt t i=some a→a.loc.isMemory=true→Knows t 0 i∨(Shun a.loc∧a.kind=.atomic)
 over:t.HandedOver
 hears:Deaf t 0=0
section
variable{Shun:Loc→Prop}{t u:Trace}
theorem After.own(h:After Shun t){fn:FuncId}{pos:String}{es:Array Event}(hs:∀e∈es,∀x,(MemAct.ofEvent e).touch?=some x→Shun x.loc→x.kind≠.plain)(hd:∀e∈es,e.loc≠.mark .disable∧e.loc≠.mark .enable):
 After Shun (t ++ MemOp.ofEvents 0 fn pos es):=by
 have h0:∀op∈MemOp.ofEvents 0 fn pos es,op.g=0:=g_of_ofEvents
 refine⟨fun said=>noRace_append (h.clean said) h0 fun i a ha op hop x hx hc=>?_,fun i a ha hm=>?_,handedOver_app h.over fun op hop=>.inl (h0 op hop),?_⟩
 ·rcases h.known i a ha hc.2.1 with hk|⟨h1,h2⟩
  ·exact hk
  ·obtain⟨e,he,rfl⟩:=mem_seen hop
   have h3:=hs e he x hx (hc.1 ▸ h1)
   obtain⟨_,_,_,hcase⟩:=hc
   rw[h2] at hcase
   rcases hcase with y|y|⟨_,y,_⟩
   ·cases y
   ·exact absurd y h3
   ·cases y
 ·obtain⟨op,hop,hx⟩:=touch_of ha
  rcases getElem?_append_cases hop with⟨hi,hop'⟩|⟨_,hopu⟩
  ·rcases h.known i a (by rw[touchAt_of hop'];exact hx) hm with hk|hk
   ·exact .inl (hk.app _)
   ·exact .inr hk
  ·have:=knows_own hop
   rw[h0 op hopu] at this
   exact .inl this
 ·rw[Deaf_own,h.hears];exact deafBehind_idle hd 0
theorem After.mute(h:After Shun t){k:Nat}(hk:k≠0){fn:FuncId}{pos:String}{es:Array Event}(hm:∀e∈es,e.mute=true):After Shun (t ++ MemOp.ofEvents k fn pos es):=by
 have hn:∀op∈MemOp.ofEvents k fn pos es,op.act.touch?=none:=fun op hop=>by
  obtain⟨e,he,rfl⟩:=mem_seen hop
  exact touch_mute (hm e he)
 refine⟨fun said=>noRace_append (h.clean said) g_of_ofEvents fun i a _ op hop x hx _=>(by rw[hn op hop] at hx;cases hx),fun i a ha hmem=>?_,handedOver_app h.over fun op hop=>.inr (hn op hop),by rw[Deaf_other t hk _ g_of_ofEvents];exact h.hears⟩
 obtain⟨op,hop,hx⟩:=touch_of ha
 rcases getElem?_append_cases hop with⟨_,hop'⟩|⟨_,hopu⟩
 ·rcases h.known i a (by rw[touchAt_of hop'];exact hx) hmem with h1|h1
  ·exact .inl (h1.app _)
  ·exact .inr h1
 ·rw[hn op hopu] at hx;cases hx
end
section
variable{S:Site}{m:Machine}{t:Trace}
theorem VQ.after(h:VQ S m t):∃ (gs:Array Goroutine) (w:World) (sl:Option (Nat × Nat)) (q:Nat→Nat) (a:Goroutine) (O C:Nat→Nat→Prop) (pre:Nat→Nat),
 m=crowd gs w sl∧gs[0]? =some a∧S.Fin a∧Leavers S.P t gs q∧After (ShN S.Wg) t∧WgLive S.ty S.Wg w∧S.V0 w∧Lay O C S.Sh w∧O 0=mD∧C 0=S.Cb∧
 Qx t w∧∃ (buf:Array Value) (s z:Nat),w.heap[S.Ch]? =some (.chan S.n buf false s z false)∧buf.toList.Perm (((List.range S.n).filter S.bit).map fun(i:Nat)=>int i64 i):=by
 obtain⟨gs,w,sl,D,a,O,C,bx,pre,rk,rfl,ha,hfin,hc,hwg,hall,⟨q,h1,h2,h3,h4⟩,hO⟩:=h
 have hpre:∀i,i<S.n→pre i=0∧∃d,QuitsD S.P (D i).fuel d (gs.getD (i+1) default)∧d=(D i).deaf:=fun i hi=>by
  obtain⟨g,hg,hs⟩:=hc.wk i hi
  have e:gs.getD (i+1) default=g:=by rw[Array.getD_eq_getD_getElem?,hg];rfl
  rw[e]
  generalize hst:(D i).stage=s at hs
  generalize hfu:(D i).fuel=m at hs
  generalize hde:(D i).deaf=dd at hs
  generalize hp:pre i=p at hs
  have h1:=hall i hi
  cases hs with
  | p2 _ _=>omega
  | p1 _ _=>omega
  | r0 _ _=>omega
  | late h6 hl=>
    have:s=1:=zo
    subst this
    refine⟨rfl,_,?_,rfl⟩
    rcases hl with hl|hl
    ·cases hl with|quit hq=>exact hq
    ·cases hl with|quit hq=>exact hq
 have all:∀i g,t.g? i=some g→g≠0→∃r,RelBy (stA S.Wg) t g r∧r<q:=fun i g hg hne=>by
  obtain⟨op,hop,rfl⟩:=Option.map_eq_some_iff.1 hg
  have:=hc.ct.gs i op hop
  obtain⟨r,hr,hrq⟩:=h4 (op.g - 1) zo
  exact⟨r,by rw[show op.g - 1+1=op.g by omega] at hr;exact hr,hrq⟩
 refine⟨gs,w,sl,fun k=>(D (k - 1)).fuel,a,O,C,pre,rfl,ha,hfin,⟨fun k g hk hg=>?_,fun k hk=>?_⟩,⟨hc.ct.nr,fun i b hb hm=>?_,handedOver_all all hc.norel h1 h2 h3,hc.deaf0⟩,⟨_,_,hwg⟩,hc.v0,hc.lay,hO,hc.c0,hc.QF,?_⟩
 ·have hlt:=(Array.getElem?_eq_some_iff.1 hg).1
  rw[hc.size] at hlt
  obtain⟨_,d,hq,rfl⟩:=hpre (k - 1) zo
  have e:gs.getD (k - 1+1) default=g:=by rw[Array.getD_eq_getD_getElem?,show k - 1+1=k by omega,hg];rfl
  rw[e] at hq
  have hd:=hc.deafW (k - 1) zo
  rw[show k - 1+1=k by omega] at hd
  rw[hd];exact hq
 ·exact Deaf_absent fun i op hi e=>by have:=hc.ct.gs i op hi;rw[hc.size] at hk;omega
 ·obtain⟨op,hop,hx⟩:=touch_of hb
  by_cases h0:op.g=0
  ·have:=knows_own hop
   rw[h0] at this
   exact .inl this
  by_cases hcount:t.counts i
  ·obtain⟨r,hr,hrq⟩:=all i op.g (by simp[Trace.g?,hop]) h0
   have edge:HappensBefore t r q:=.single (.inr ⟨.marked hrq (.inr hr.act) h1 (fun k _ _=>hc.norel k),hr.heard,h3⟩)
   have hle:i≤r:=Nat.le_of_not_lt fun hlt=>hr.after i hlt (by simp[Trace.g?,hop]) hcount
   obtain⟨z,hz,hzg⟩:=Option.map_eq_some_iff.1 h2
   refine .inl ⟨q,z,hz,hzg,.inr ?_⟩
   rcases Nat.lt_or_ge i r with hlt|hge
   ·exact .trans (.single (.inl ⟨hlt,op.g,by simp[Trace.g?,hop],hr.g⟩)) edge
   ·obtain rfl:i=r:=zo
    exact edge
  ·refine .inr ?_
   have hk:b.kind=.atomic:=Classical.byContradiction fun hne=>hcount ⟨b,by simpa [touchAt] using hb,hm,.inl hne⟩
   exact⟨hc.ye op (Array.mem_of_getElem? hop) h0 b hx hk,hk⟩
 ·obtain⟨buf,s,z,h5,h6⟩:=hc.sent
  refine⟨buf,s,z,h5,?_⟩
  have:((List.range S.n).filter fun i=>S.bit i && decide (pre i≤1))=(List.range S.n).filter S.bit:=List.filter_congr fun i hi=>by
   rw[(hpre i (List.mem_range.1 hi)).1];simp
  rw[← this];exact h6
end
end
section
open Go.Conc Go.ConcN Go.cZ Go.Conc.Lib Go.ConcR.Gen Go.ConcN.Gen
open Go.ConcR (KK WgAt stA smA rd wr g_of_ofEvents Payload DC0)
variable[Inhabited aZ]
section
variable{S:Site}{w:World}
theorem Mj{q:Nat}{v:Value}{ty:TypeId}(h:w.heap[q]? =some (.cells #[v] ty)):Has q 0 v w:=by
 simp[Has,World.cell?,h]
theorem Xa(H:WgLib S.P S.L)(hS:S.Ok){c:Frame}{cs:List Frame}{qt:Nat}(hcm:c.mode=.returning)(hT:QuitsD S.P qt 0 (G c cs))(hv:S.V0 w):
 S.Dn (G ((baseD S.L.done).at ⟨#[.pointer (some ⟨S.Wg,0,none⟩),undef,undef,undef],[]⟩ [.code (body_done S.L)]) (c :: cs)) w:=
 ⟨⟨23,@doneN S.pA S.L S.P H F0 F0 S.Wg S.bA 1 0 1 S.vA c cs qt hcm hT w ⟨hv.live,Mj (hv.tab _ _ hS.cA)⟩⟩,
   ⟨23,@doneN S.pB S.L S.P H F0 F0 S.Wg S.bB 1 0 1 S.vB c cs qt hcm hT w ⟨hv.live,Mj (hv.tab _ _ hS.cB)⟩⟩⟩
theorem RA{L:WgLink}{Wg:Nat}{c:Frame}{cs:List Frame}{g:Goroutine}(h:AnchW L Wg c cs g w):g.status=.running:=by
 obtain⟨_,rfl,_⟩:=h
 rfl
end
section
variable{P:Program}{L:WgLink}{Wg:Nat}{Stop:Goroutine→World→Prop}{C O:Nat→Prop}{V:World→Prop}{K:Goroutine→World→(Nat→Prop)→Prop}
theorem FZ(C O:Nat→Prop)(w:World):Did C O O w w []:=
 ⟨rfl,rfl,rfl,Nat.le_refl _,fun _ _ _=>rfl,fun b=>⟨.inl,fun h=>h.elim id fun⟨h1,h2⟩=>absurd h2 zo⟩,fun e he=>by simp at he⟩
theorem IL(hV:∀w,V w→WgLive L.tWg Wg w):∀ {m:Nat} {g:Goroutine} {w:World},gH P L Wg Stop m g w→(∀g' w2,Keeps C O w w2→V w2→Stop g' w2→K g' w2 O)→Wk P true C V K g w O
 | 0,g,w,h,hK=>.stop fun w2 k v=>hK g w2 k v (h w2 fun _=>hV w2 v)
 | m+1,g,w,h,hK=>by
   rcases h with h|⟨hrun,h⟩
   ·exact .stop fun w2 k v=>hK g w2 k v (h w2 fun _=>hV w2 v)
   ·refine .step (fun g2 w3 O2=>O2=O∧gH P L Wg Stop m g2 w3∧Keeps C O w w3) hrun (fun w2 k v=>?_) ?_
    ·have hs:=h w2 fun _=>hV w2 v
     cases hgo:stepG P true g w2 with
     | go g2 w3 es=>
       rw[hgo,goes_go] at hs
       obtain⟨⟨rfl,rfl⟩,hG⟩:=hs
       exact⟨g2,w3,O,#[],rfl,FZ C O w3,rfl,hG,k⟩
     | _=>rw[hgo] at hs;exact hs.elim
    ·rintro g2 w3 O2 ⟨e,hG,k⟩
     rw[e]
     exact IL hV hG fun g' w2 k2 v=>hK g' w2 (k.trans k2) v
end
section
variable{S:Site}{w:World}{O:Nat→Prop}{i:Nat}{Next:Goroutine→World→Prop}
theorem TA{R g:Goroutine}{m:Nat}(h:S.GL (S.nd R) m g w)(hc:S.Cont i Next R w O):Wk S.P true S.Cb S.V0 (S.Ay i Next) g w O:=
 IL (fun _ v=>v.live) h fun g' w2 k v hs=>⟨R,hs,iy hc k⟩
end
end
section
open Go.Conc Go.ConcN Go.cZ
variable[Inhabited aZ]
open Classical in
noncomputable def Gu(D:Nat→Prop):Ren:=fun b=>if D b then some b else none
theorem wD{D:Nat→Prop}{b b':Nat}(h:Gu D b=some b'):b'=b∧D b:=by
 unfold Gu at h
 split at h
 ·exact⟨(Option.some.inj h).symm,‹_›⟩
 ·cases h
theorem MG{D:Nat→Prop}{b:Nat}(h:D b):Gu D b=some b:=if_pos h
def fa:Obj→Obj
 | .cells c e _=>.cells c e (0,c.size)
 | o=>o
open Classical in
noncomputable def wh(D:Nat→Prop)(w:World):World:={w with heap:=w.heap.mapIdx fun b o=>if D b then fa o else o }
theorem Si{D:Nat→Prop}{w:World}{b:Nat}{c:Array Value}{e:TypeId}{f:Nat × Nat}(h:D b)(hb:w.heap[b]? =some (.cells c e f)):(wh D w).heap[b]? =some (.cells c e (0,c.size)):=by
 simp[wh,Array.getElem?_mapIdx,hb,h,fa]
theorem Xh{D:Nat→Prop}{w:World}{b:Nat}(h:¬ D b):(wh D w).heap[b]? =w.heap[b]?:=by
 simp only[wh,Array.getElem?_mapIdx,h,if_false]
 cases w.heap[b]? <;> rfl
theorem Sj(D:Nat→Prop)(w:World):(wh D w).heap.size=w.heap.size:=by simp[wh]
def Closed(D:Nat→Prop)(w:World):Prop:=∀b,D b→∃c e f,w.heap[b]? =some (.cells c e f)∧f.2≤c.size∧dZ (Gu D) c c
theorem Closed.keeps{D:Nat→Prop}{w w':World}(h:Closed D w)(hk:∀b,D b→w'.heap[b]? =w.heap[b]?):Closed D w':=fun b hb=>by
 obtain⟨c,e,f,h1,h2⟩:=h b hb
 exact⟨c,e,f,(hk b hb).trans h1,h2⟩
theorem lh{D:Nat→Prop}{w0 w:World}(h:Closed D w)(hk:∀b,D b→w0.heap[b]? =w.heap[b]?):WR (Gu D) (wh D w0) w:=by
 refine⟨fun b b' hb=>?_,fun b1 b2 c h1 h2=>?_⟩
 ·obtain⟨rfl,hD⟩:=wD hb
  obtain⟨c,e,f,h1,h3,h2⟩:=h _ hD
  exact⟨_,_,Si hD ((hk _ hD).trans h1),h1,.cells e h2 fun o _ h4=>⟨Nat.zero_le _,Nat.lt_of_lt_of_le h4 h3⟩⟩
 ·obtain⟨e1,_⟩:=wD h1
  obtain⟨e2,_⟩:=wD h2
  exact e1.symm.trans e2
theorem WM{D C O:Nat→Prop}{w0 w:World}(h:Closed D w)(hk:∀b,D b→w0.heap[b]? =w.heap[b]?)(hC:∀b,D b→C b):nj C O (Gu D) (wh D w0):=fun b b' hb=>by
 obtain⟨rfl,hD⟩:=wD hb
 obtain⟨c,e,f,h1,h2⟩:=h _ hD
 exact .inl ⟨⟨c,e,_,Si hD ((hk _ hD).trans h1),fun o ho=>⟨Nat.zero_le _,ho⟩⟩,hC _ hD⟩
theorem EW{P:Program}{main:Bool}{C O:Nat→Prop}{V:World→Prop}{K:Goroutine→World→(Nat→Prop)→Prop}(hg:P.globals.size=0){F:Fence}(hF:gK P F.fn)(hin:∀g,F.fn g→P.inits.idxOf? g=none)(hal:F.alive=true){n:Nat}(hroom:F.room (1+n))
 {f:FuncId}{args args':Array Value}{D:Nat→Prop}{w0 w:World}{r:Bool}{c:Frame}{cs:List Frame}(H:∀σ:Tape,CallsIn F n P f args (on (wh D w0) σ) (fun e _=>e=.returned (.bool r)))(ha:dZ (Gu D) args args')(h:Closed D w)
 (hk:∀b,D b→w0.heap[b]? =w.heap[b]?)(hC:∀b,D b→C b)(hW:∀w3 O3,(∀b,O b→O3 b)→Wk P main C V K (G (c.finish (.bool r)) cs) w3 O3):Wk P main C V K (G (Frame.enter P f args' .normal) (c :: cs)) w O:=by
 refine Wk.call (vP (R:=fun x _=>x=.bool r) hg hF hin hal hroom (fun σ=>?_) ha (lh h hk) (WM h hk hC)) fun ρ1 v v' w1 w3 O3 hR hv _ _ _ hO=>?_
 ·obtain⟨h1,h2⟩:=H σ
  refine⟨h1,fun cs hcs=>?_⟩
  obtain⟨e,v,fr,he,h3⟩:=h2 cs hcs
  exact⟨e,v,fr,⟨_,he,rfl⟩,h3⟩
 ·subst hR
  cases hv
  exact hW w3 O3 hO
end
end Go.aQ
