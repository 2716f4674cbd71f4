/- Crew15 Crew16 Crew17 Crew18 Crew19 Crew20 Crew21 -/
import Derived.Test.YtpmafoalhnaokaaGreatA8
import Derived.Conc.Beside
set_option maxRecDepth 100000
set_option maxHeartbeats 16000000
set_option linter.unusedVariables false
set_option linter.unusedSectionVars false
open Go.IntKind(i64)
open Go.Value(int)
namespace Go.aP
section
open Go.Conc Go.ConcN Go.cu Go.Conc.Lib
open Go.ConcR (KK WgAt stA smA rd wr g_of_ofEvents Payload DC0 again_blocked Bk ofEvent_loc_mark ofEvent_cell bk_of_mute ofEvent_mk)
variable[Inhabited aV]
section
variable{S:Site}{O C:Nat→Nat→Prop}{bx pre:Nat→Nat}{rk:Nat→Rank S.P}{j:Nat}{gs:Array Goroutine}{w w':World}{sl:Option (Nat × Nat)}{t:Trace}{D:Nat→WD}{tag:CTag}{b f0 d0:Nat}{a:Goroutine}{st sm:Int}
theorem eX(hO:O 0=mE){x:Rank S.P}{w:World}(h:jk S j x tag b f0 d0 a w mE):jk S j x tag b f0 d0 a w (O 0):=hO ▸ h
theorem nh(hS:S.Ok)(ha:gs[0]? =some a)(hc:Com S O C bx pre rk j gs w t D 0)(hwg:WgAt S.ty S.Wg w st sm)(hmode:ConcN.Mode j D .kd st sm)(hj:j=S.n)(hO:O 0=mE)
 {m:Nat}(h:S.GL S.il m a w):iG S (mu S j D .kd 0 pre rk m) t (runT S.P (crowd gs w sl) 0):=by
 have hV:=Vc_le j D
 rcases Goes.cases h with hs|⟨m',rfl,hs⟩
 ·obtain⟨hr,g',hgo,m₂,hk⟩:=hs w fun x=>x
  exact gY hS ha hc hwg (tag':=.anch) (b':=0) (f':=m₂) (Mode.moved hmode trivial trivial rfl zs) hgo qL (eX hO (.anch hj hk)) (by simp only[phi];omega)
 ·obtain⟨g',w',es,hgo,⟨rfl,rfl⟩,hk⟩:=hs w fun x=>x
  exact eF hS ha hc hwg hmode hgo (eX hO (.kd hj hk)) zo
theorem vX(h1:OpenSt j D)(h0:Vc j D=0):AllQuit j D:=fun i hi=>by
 have h2:=le_sumTo (f:=fun x=>cnt (D x)) hi
 have h3:=h1 i hi
 simp only[Vc] at h0
 have:cnt (D i)=0:=zo
 simp only[cnt] at this
 split at this <;> omega
theorem VY(hS:S.Ok)(ha:gs[0]? =some a)(hc:Com S O C bx pre rk j gs w t D 1)(hwg:WgAt S.ty S.Wg w st sm)(hmode:ConcN.Mode j D .w1 st sm)(hj:j=S.n)(hO:O 0=mE)
 {m:Nat}(h:S.GL S.W1 m a w):iG S (mu S j D .w1 0 pre rk m) t (runT S.P (crowd gs w sl) 0):=by
 have hV:=Vc_le j D
 have hn:=hS.n31
 rcases Goes.cases h with hs|⟨m',rfl,hs⟩
 ·obtain⟨hr,hall⟩:=hs w fun x=>x
  obtain⟨h1,_,rfl,rfl⟩:=Mode.opened hmode trivial
  obtain⟨g',hgo,hz,hp⟩:=hall (Vc j D) zo (by simpa [pend] using hwg)
  by_cases h0:Vc j D=0
  ·obtain⟨m₂,hk⟩:=hz h0
   refine gY hS ha hc hwg (tag':=.ke) (b':=0) (f':=m₂) ?_ hgo bk_rd (eX hO (.ke hj hk)) (by simp only[phi];omega)
   have:=ConcN.Mode.fin (j:=j) (D:=D) (tag:=.ke) trivial (vX h1 h0)
   rw[h0];simpa [pend] using this
  ·obtain⟨m₂,hk⟩:=hp h0
   exact gY hS ha hc hwg (tag':=.w2 (Vc j D)) (b':=0) (f':=m₂) (Mode.moved hmode trivial trivial rfl fun vs e=>by cases e;exact⟨zL,zo⟩) hgo bk_rd (eX hO (.w2 hj hk)) (by simp only[phi];omega)
 ·obtain⟨g',w',es,hgo,⟨rfl,rfl⟩,hk⟩:=hs w fun x=>x
  exact eF hS ha hc hwg hmode hgo (eX hO (.w1 hj hk)) zo
theorem VU(hS:S.Ok)(ha:gs[0]? =some a)(hc:Com S O C bx pre rk j gs w t D 1)(hwg:WgAt S.ty S.Wg w st sm)(hmode:ConcN.Mode j D .anch st sm)(hj:j=S.n)(hO:O 0=mE)
 {m:Nat}(h:S.GL S.Anch m a w):iG S (mu S j D .anch 0 pre rk m) t (runT S.P (crowd gs w sl) 0):=by
 rcases Goes.cases h with hs|⟨m',rfl,hs⟩
 ·obtain⟨m₂,hk⟩:=hS.anch _ _ (hs w fun x=>x)
  refine(VY (sl:=sl) hS ha hc hwg (Mode.moved hmode (tag':=.w1) trivial trivial rfl zs) hj hO hk).mono ?_
  show 2 * phi S.n (Vc j D) .w1+0+Ssum j D+sumTo j pre<2 * phi S.n (Vc j D) .anch+0+Ssum j D+sumTo j pre
  simp only[phi];omega
 ·obtain⟨g',w',es,hgo,⟨rfl,rfl⟩,hk⟩:=hs w fun x=>x
  exact eF hS ha hc hwg hmode hgo (eX hO (.anch hj hk)) zo
theorem nz(hS:S.Ok)(ha:gs[0]? =some a)(hc:Com S O C bx pre rk j gs w t D 1)(hwg:WgAt S.ty S.Wg w st sm){vs:Nat}(hmode:ConcN.Mode j D (.w2 vs) st sm)(hj:j=S.n)(hO:O 0=mE)
 {m:Nat}(h:S.GL (S.W2 vs) m a w):iG S (mu S j D (.w2 vs) 0 pre rk m) t (runT S.P (crowd gs w sl) 0):=by
 have hV:=Vc_le j D
 have hn:=hS.n31
 rcases Goes.cases h with hs|⟨m',rfl,hs⟩
 ·obtain⟨hr,hall⟩:=hs w fun x=>x
  obtain⟨h1,h2,rfl,rfl⟩:=Mode.opened hmode trivial
  obtain⟨h3,h4⟩:=h2 vs rfl
  have AG:WgAt S.ty S.Wg w ((Vc j D:Nat) * KK) 0:=by simpa [pend] using hwg
  obtain⟨hit,miss⟩:=hall (Vc j D) zo AG
  by_cases e:Vc j D=vs
  ·obtain⟨g',hgo,m₂,hk⟩:=hit e
   exact je hS ha hc hgo (aside_setCell w (stA S.Wg) _) (AG.setSt _) (EF bk_rw) (norel_of_Bk bk_rw) (tag':=.w3) (b':=1) (f':=m₂) (eX hO (.wr hj hk)) (.reg trivial h1 zo) (.inl (by simp only[phi];omega))
  ·obtain⟨g',hgo,m₂,hk⟩:=miss e
   exact gY hS ha hc hwg (tag':=.anch) (b':=0) (f':=m₂) (Mode.moved hmode trivial trivial rfl zs) hgo bk_rd (eX hO (.anch hj hk)) (by simp only[phi];omega)
 ·obtain⟨g',w',es,hgo,⟨rfl,rfl⟩,hk⟩:=hs w fun x=>x
  exact eF hS ha hc hwg hmode hgo (eX hO (.w2 hj hk)) zo
theorem nB(hS:S.Ok)(ha:gs[0]? =some a)(hc:Com S O C bx pre rk j gs w t D 1)(hwg:WgAt S.ty S.Wg w st sm)(hmode:ConcN.Mode j D .w3 st sm)(hj:j=S.n)(hO:O 0=mE)
 {m:Nat}(h:S.GL S.W3 m a w):iG S (mu S j D .w3 0 pre rk (m+1)) t (runT S.P (crowd gs w sl) 0):=by
 rcases Goes.cases h with hs|⟨m',rfl,hs⟩
 ·obtain⟨hr,hof,AD,htake⟩:=hs w fun x=>x
  have blocked:(∃z,WgAt S.ty S.Wg w z 0)→ConcN.Mode j D .blk st sm→iG S (mu S j D .w3 0 pre rk (m+1)) t (runT S.P (crowd gs w sl) 0):=fun hz hb=>
   je hS ha hc (AD hz) (.refl S.Wg w) hwg zs zs (tag':=.blk) (b':=0) (f':=0) (eX hO (.blk hj hs)) hb (.inr ⟨rfl,zo⟩)
  cases hmode with
  | opn h1 _ _=>exact h1.elim
  | reg h1 h2 h3=>exact blocked ⟨_,hwg⟩ (.reg trivial h2 h3)
  | last L h1 h2 h3 h4=>exact blocked ⟨_,hwg⟩ (.last L trivial h2 h3 h4)
  | sema h2=>
    obtain⟨g',hgo,m₂,hk⟩:=htake hwg
    exact je hS ha hc hgo (aside_setCell w (smA S.Wg) _) (hwg.setSm 0) (EF bk_sem) (norel_of_Bk bk_sem) (tag':=.w4) (b':=0) (f':=m₂) (eX hO (.w4 hj hk)) (.fin trivial h2) (.inl (by simp only[phi];omega))
  | fin h1 _=>exact h1.elim
 ·obtain⟨g',w',es,hgo,⟨rfl,rfl⟩,hk⟩:=hs w fun x=>x
  exact eF hS ha hc hwg hmode hgo (eX hO (.w3 hj hk)) zo
theorem n8(hS:S.Ok)(ha:gs[0]? =some a)(hc:Com S O C bx pre rk j gs w t D 1)(hwg:WgAt S.ty S.Wg w st sm)(hmode:ConcN.Mode j D .w3 st sm)(hj:j=S.n)(hO:O 0=mE)
 {m:Nat}(h:S.GL S.tS m a w):iG S (mu S j D .w3 1 pre rk m) t (runT S.P (crowd gs w sl) 0):=by
 rcases Goes.cases h with hs|⟨m',rfl,hs⟩
 ·obtain⟨hr,g',hgo,m₂,hk⟩:=hs w fun x=>x
  exact je hS ha hc hgo (.refl S.Wg w) hwg (H7 km) (by intro e he;simp at he;subst he;simp[Be]) (tag':=.w3) (b':=0) (f':=m₂+1) (eX hO (.w3 hj hk)) hmode (.inl zo)
 ·obtain⟨g',w',es,hgo,⟨rfl,rfl⟩,hk⟩:=hs w fun x=>x
  exact eF hS ha hc hwg hmode hgo (eX hO (.wr hj hk)) zo
end
section
variable{S:Site}{O C:Nat→Nat→Prop}{bx pre:Nat→Nat}{rk:Nat→Rank S.P}{j:Nat}{gs:Array Goroutine}{w w':World}{sl:Option (Nat × Nat)}{t:Trace}{D:Nat→WD}{tag:CTag}{b f0 d0:Nat}{a:Goroutine}{st sm:Int}
theorem nF(hS:S.Ok)(ha:gs[0]? =some a)(hc:Com S O C bx pre rk j gs w t D 1)(hwg:WgAt S.ty S.Wg w st sm)(hmode:ConcN.Mode j D .w4 st sm)(hj:j=S.n)(hO:O 0=mE)
 {m:Nat}(h:S.GL S.W4 m a w):iG S (mu S j D .w4 0 pre rk m) t (runT S.P (crowd gs w sl) 0):=by
 rcases Goes.cases h with hs|⟨m',rfl,hs⟩
 ·obtain⟨hr,hall⟩:=hs w fun x=>x
  obtain⟨h1,rfl,rfl⟩:=Mode.ended hmode trivial
  obtain⟨g',hgo,m₂,hk⟩:=hall hwg
  exact gY hS ha hc hwg (tag':=.ke) (b':=0) (f':=m₂) (.fin trivial h1) hgo bk_rd (eX hO (.ke hj hk)) (by simp only[phi];omega)
 ·obtain⟨g',w',es,hgo,⟨rfl,rfl⟩,hk⟩:=hs w fun x=>x
  exact eF hS ha hc hwg hmode hgo (eX hO (.w4 hj hk)) zo
theorem nj(hS:S.Ok)(ha:gs[0]? =some a)(hc:Com S O C bx pre rk j gs w t D 1)(hwg:WgAt S.ty S.Wg w st sm)(hmode:ConcN.Mode j D .ke st sm)(hj:j=S.n)(hO:O 0=mE)
 {m:Nat}(h:S.GL S.cQ m a w):iG S (mu S j D .ke 0 pre rk m) t (runT S.P (crowd gs w sl) 0):=by
 rcases Goes.cases h with hs|⟨m',rfl,hs⟩
 ·obtain⟨hr,g',hgo,m₂,hk⟩:=hs w fun x=>x
  obtain⟨h1,rfl,rfl⟩:=Mode.ended hmode trivial
  exact gY hS ha hc hwg (tag':=.acq) (b':=0) (f':=m₂) (.fin trivial h1) hgo uw (eX hO (.acq hj hk)) (by simp only[phi];omega)
 ·obtain⟨g',w',es,hgo,⟨rfl,rfl⟩,hk⟩:=hs w fun x=>x
  exact eF hS ha hc hwg hmode hgo (eX hO (.ke hj hk)) zo
theorem ZH(hS:S.Ok)(ha:gs[0]? =some a)(hc:Com S O C bx pre rk j gs w t D 0)(hwg:WgAt S.ty S.Wg w st sm)(hmode:ConcN.Mode j D .acq st sm)(hj:j=S.n)(hO:O 0=mE)
 {m:Nat}(h:S.GL S.Kg m a w):iG S (mu S j D .acq 0 pre rk m) t (runT S.P (crowd gs w sl) 0):=by
 rcases Goes.cases h with hs|⟨m',rfl,hs⟩
 ·obtain⟨hr,g',hgo,hfin⟩:=hs w fun x=>x
  obtain⟨h1,rfl,rfl⟩:=Mode.ended hmode trivial
  subst hj
  have hrun:=runT_crowd_go (P:=S.P) (sl:=sl) (i:=0) ha (by simpa using hgo)
  have e1:MemOp.ofEvents 0 a.frame.fn a.frame.place #[Go.ConcR.mk (.acquire (stA S.Wg))]=#[{g:=0,fn:=a.frame.fn,pos:=a.frame.place,act:=.mark (.acquire (stA S.Wg)) }]:=by rw[ofEvents_eq];simp[ofEvent_mk]
  rw[e1] at hrun
  have hu:∀op∈#[({g:=0,fn:=a.frame.fn,pos:=a.frame.place,act:=.mark (.acquire (stA S.Wg)) }:MemOp)],op={g:=0,fn:=a.frame.fn,pos:=a.frame.place,act:=.mark (.acquire (stA S.Wg)) }:=by intro op hop;simpa using hop
  have hst:Deaf (t ++ #[({g:=0,fn:=a.frame.fn,pos:=a.frame.place,act:=.mark (.acquire (stA S.Wg)) }:MemOp)]) 0=0:=by
   rw[Deaf_still t 0 _ fun op hop=>?_,hc.deaf0]
   rw[hu op hop];exact⟨zs,zs⟩
  have hcom:=hc.step0 (gs':=(gs.map (woken S.P a g' w)).setIfInBounds 0 g') (w':=w) (O1:=O 0) (x':=rk 0) (u:=#[{g:=0,fn:=a.frame.fn,pos:=a.frame.place,act:=.mark (.acquire (stA S.Wg)) }]) hS (by simp[hc.size])
   (fun k hk' y hy hst=>by
    rw[get_map_set _ _ _ _ zo,hy,Option.map_some]
    congr 1
    unfold Go.Conc.woken
    split
    ·exact again_running _ hst
    ·rfl) (by rw[kF];exact hc.lay) (fun k _=>Keeps.refl _ _ _) (fun _ _=>rfl) hc.v0.live ⟨rfl,rfl,rfl⟩ hc.sent
   (hc.ct.app0 hc.lay.apart fun op hop=>by rw[hu op hop];exact⟨rfl,fun x hx=>by simp[MemAct.touch?] at hx⟩)
   (pI hc.RX zL fun op hop x hx=>by rw[hu op hop] at hx;simp[MemAct.touch?] at hx) (fun op hop=>by rw[hu op hop]) (fun op hop=>by rw[hu op hop];simp) (rR fun op hop=>by rw[hu op hop];rfl) hst
  rw[kF,uV] at hcom
  have hy:(t ++ #[({g:=0,fn:=a.frame.fn,pos:=a.frame.place,act:=.mark (.acquire (stA S.Wg)) }:MemOp)])[t.size]? =some {g:=0,fn:=a.frame.fn,pos:=a.frame.place,act:=.mark (.acquire (stA S.Wg)) }:=zs
  refine⟨_,_,hrun,.inl ⟨_,w,sl,D,g',O,C,bx,pre,rk,rfl,get_map_set_same _ _ _ (by rw[hc.size];omega),hfin,hcom,hwg,h1,⟨t.size,by rw[act?_of hy],by simp[Trace.g?],⟨0,by simp[Trace.g?],by rw[deaf_old zL];exact hc.deaf0⟩,fun i hi=>?_⟩,hO⟩⟩
  obtain⟨r,hr⟩:=hc.rel i hi (by have:=h1 i hi;omega)
  exact⟨r,hr.appOther (g:=0) (fun op hop=>by rw[hu op hop]) zo,lt_of_act? hr.act⟩
 ·obtain⟨g',w',es,hgo,⟨rfl,rfl⟩,hk⟩:=hs w fun x=>x
  exact eF hS ha hc hwg hmode hgo (eX hO (.acq hj hk)) zo
theorem stepCaller(hS:S.Ok)(ha:gs[0]? =some a)(hm:jk S j (rk 0) tag b f0 d0 a w (O 0))(hc:Com S O C bx pre rk j gs w t D d0)(hwg:WgAt S.ty S.Wg w st sm)(hmode:ConcN.Mode j D tag st sm)(hrun:a.status=.running):
 iG S (mu S j D tag b pre rk f0) t (runT S.P (crowd gs w sl) 0):=by
 generalize hO:O 0=O0 at hm
 generalize hx:rk 0=x at hm
 cases hm with
 | skd e h1 h=>exact ZJ hS ha hc hwg hmode e (by rw[hx,hO];exact h1) (by rw[hO];exact h)
 | sa1 e h c=>exact ZI hS ha hc hwg hmode e h (by rw[hO];exact c)
 | ry e h c=>exact ZM hS ha hc hwg hmode e h (by rw[hO];exact c)
 | ske e h c=>exact ZK hS ha hc hwg hmode e h (by rw[hO];exact c)
 | nb e h c=>exact ZL hS ha hc hwg hmode e h (by rw[hO];exact c)
 | sgo e h1 h=>exact Ox hS ha hc hwg hmode e (by rw[hx,hO];exact h1) (by rw[hO];exact h)
 | kd e h=>exact nh hS ha hc hwg hmode e hO h
 | anch e h=>exact VU hS ha hc hwg hmode e hO h
 | w1 e h=>exact VY hS ha hc hwg hmode e hO h
 | w2 e h=>exact nz hS ha hc hwg hmode e hO h
 | wr e h=>exact n8 hS ha hc hwg hmode e hO h
 | w3 e h=>exact nB hS ha hc hwg hmode e hO h
 | blk e h=>cases hrun
 | w4 e h=>exact nF hS ha hc hwg hmode e hO h
 | ke e h=>exact nj hS ha hc hwg hmode e hO h
 | acq e h=>exact ZH hS ha hc hwg hmode e hO h
theorem someone(hS:S.Ok)(ha:gs[0]? =some a)(hm:jk S j (rk 0) tag b f0 d0 a w (O 0))(hc:Com S O C bx pre rk j gs w t D d0)(hmode:ConcN.Mode j D tag st sm):∃ (i:Nat) (g:Goroutine),gs[i]? =some g∧g.status=.running:=by
 rcases hm.status hS hc.v0 with⟨hs,_⟩|⟨_,rfl⟩
 ·exact⟨0,a,ha,hs⟩
 ·cases hmode with
  | opn h1 _ _=>exact h1.elim
  | reg _ _ h3=>
    obtain⟨i,hi,h5⟩:=exists_counted h3
    obtain⟨g,hg,hs⟩:=hc.wk i hi
    exact⟨i+1,g,hg,hs.running_of (hc.v1 hi) zo⟩
  | last L _ h2 h3 _=>
    obtain⟨g,hg,hs⟩:=hc.wk L h2
    exact⟨L+1,g,hg,hs.running_of (hc.v1 h2) zo⟩
  | fin h1 _=>exact h1.elim
theorem Tn(hS:S.Ok)(ha:gs[0]? =some a)(hm:jk S j (rk 0) tag b f0 d0 a w (O 0))(hc:Com S O C bx pre rk j gs w t D d0):∀g∈gs,awake g:=by
 intro g hg tm
 obtain⟨i,hi⟩:=Array.mem_iff_getElem?.1 hg
 cases i with
 | zero=>
   rw[ha] at hi;cases hi
   rcases hm.status hS hc.v0 with⟨hs,_⟩|⟨hs,_⟩ <;> rw[hs] <;> simp
 | succ i=>
   have hlt:i<j:=by have:=(Array.getElem?_eq_some_iff.1 hi).1;rw[hc.size] at this;omega
   obtain⟨g',hg',hs⟩:=hc.wk i hlt
   rw[hi] at hg';cases hg'
   rcases hs.status (hc.v1 hlt) with h|h <;> rw[h] <;> simp
theorem Com.at(hS:S.Ok)(h:Com S O C bx pre rk j gs w t D d0)(d:Nat):Com S O C bx pre rk j gs (w.at d) t D d0:=
 {h with
  lay:=⟨h.lay.own,h.lay.pW,h.lay.nN,h.lay.cS,h.lay.NW,h.lay.P8,h.lay.NY⟩
  v0:=⟨h.v0.live,h.v0.tab,h.v0.chan,h.v0.env⟩
  wk:=fun i hi=>let ⟨g,hg,hs⟩:=h.wk i hi;⟨g,hg,hs.keeps hS (fun _ _=>rfl) h.v0.live⟩
  RX:=h.RX
  sent:=h.sent }
theorem KO(hS:S.Ok){μ:vW S}{m:Machine}(h:Inv S μ m t):iG S μ t (stepT S.P m):=by
 obtain⟨gs,w,sl,j,D,tag,b,f0,d0,a,st,sm,O,C,bx,pre,rk,rfl,ha,hm,hc,hwg,hmode,rfl⟩:=h
 obtain⟨i,g,d,sl',hg,hrun,hstep⟩:=crowd_pick (P:=S.P) (w:=w) (sl:=sl) (Tn hS ha hm hc) (someone hS ha hm hc hmode)
 rw[hstep]
 have hm':jk S j (rk 0) tag b f0 d0 a (w.at d) (O 0):=hm.keeps (fun _ _=>rfl) hc.v0.live
 have hc':=hc.at hS d
 have hwg':WgAt S.ty S.Wg (w.at d) st sm:=hwg
 cases i with
 | zero=>
   rw[ha] at hg;cases hg
   exact stepCaller hS ha hm' hc' hwg' hmode hrun
 | succ i=>
   have hi:i<j:=by have:=(Array.getElem?_eq_some_iff.1 hg).1;rw[hc.size] at this;omega
   obtain⟨m₁,ops,μ',h1,h2,h3⟩:=stepWorker (sl:=sl') hS ha hm' hc' hwg' hmode hi hg hrun
   exact⟨m₁,ops,h1,.inr ⟨μ',h2,h3⟩⟩
theorem PG(hS:S.Ok)(μ:vW S):∀ (m:Machine) (t:Trace),Inv S μ m t→∃N m' t',runNT S.P N m t=(.next m',t')∧Xr S m' t':=by
 induction μ using (mw S).induction with
 | _ μ ih=>
   intro m t h
   obtain⟨m₁,ops,h1,h2⟩:=KO hS h
   rcases h2 with h2|⟨μ',h2,h3⟩
   ·exact⟨1,m₁,t ++ ops,by simp[runNT,h1],h2⟩
   ·obtain⟨N,m',t',h4,h5⟩:=ih μ' h2 m₁ (t ++ ops) h3
    refine⟨1+N,m',t',?_,h5⟩
    rw[runNT_add]
    simp[runNT,h1,h4]
end
end
section
open Go.Conc Go.ConcN Go.cu Go.Conc.Lib
open Go.ConcR (KK WgAt stA smA rd wr g_of_ofEvents Payload)
variable[Inhabited aV]
structure After(Shun:Loc→Prop)(t:Trace):Prop where
 clean:∀said,¬ Race said t
 known:∀i a,touchAt t i=some a→a.loc.isMemory=true→Knows t 0 i∨(Shun a.loc∧a.kind=.atomic)
 over:t.HandedOver
 hears:Deaf t 0=0
section
variable{Shun:Loc→Prop}{t u:Trace}
theorem After.own(h:After Shun t){fn:FuncId}{pos:String}{es:Array Event}(hs:∀e∈es,∀x,(MemAct.ofEvent e).touch?=some x→Shun x.loc→x.kind≠.plain)(hd:∀e∈es,e.loc≠.mark .disable∧e.loc≠.mark .enable):
 After Shun (t ++ MemOp.ofEvents 0 fn pos es):=by
 have h0:∀op∈MemOp.ofEvents 0 fn pos es,op.g=0:=g_of_ofEvents
 refine⟨fun said=>noRace_append (h.clean said) h0 fun i a ha op hop x hx hc=>?_,fun i a ha hm=>?_,handedOver_app h.over fun op hop=>.inl (h0 op hop),?_⟩
 ·rcases h.known i a ha hc.2.1 with hk|⟨h1,h2⟩
  ·exact hk
  ·obtain⟨e,he,rfl⟩:=mem_seen hop
   have h3:=hs e he x hx (hc.1 ▸ h1)
   obtain⟨_,_,_,hcase⟩:=hc
   rw[h2] at hcase
   rcases hcase with y|y|⟨_,y,_⟩
   ·cases y
   ·exact absurd y h3
   ·cases y
 ·obtain⟨op,hop,hx⟩:=touch_of ha
  rcases getElem?_append_cases hop with⟨hi,hop'⟩|⟨_,hopu⟩
  ·rcases h.known i a (by rw[touchAt_of hop'];exact hx) hm with hk|hk
   ·exact .inl (hk.app _)
   ·exact .inr hk
  ·have:=knows_own hop
   rw[h0 op hopu] at this
   exact .inl this
 ·rw[Deaf_own,h.hears];exact deafBehind_idle hd 0
theorem After.mute(h:After Shun t){k:Nat}(hk:k≠0){fn:FuncId}{pos:String}{es:Array Event}(hm:∀e∈es,e.mute=true):After Shun (t ++ MemOp.ofEvents k fn pos es):=by
 have hn:∀op∈MemOp.ofEvents k fn pos es,op.act.touch?=none:=fun op hop=>by
  obtain⟨e,he,rfl⟩:=mem_seen hop
  exact touch_mute (hm e he)
 refine⟨fun said=>noRace_append (h.clean said) g_of_ofEvents fun i a _ op hop x hx _=>(by rw[hn op hop] at hx;cases hx),fun i a ha hmem=>?_,handedOver_app h.over fun op hop=>.inr (hn op hop),by rw[Deaf_other t hk _ g_of_ofEvents];exact h.hears⟩
 obtain⟨op,hop,hx⟩:=touch_of ha
 rcases getElem?_append_cases hop with⟨_,hop'⟩|⟨_,hopu⟩
 ·rcases h.known i a (by rw[touchAt_of hop'];exact hx) hmem with h1|h1
  ·exact .inl (h1.app _)
  ·exact .inr h1
 ·rw[hn op hopu] at hx;cases hx
end
section
variable{S:Site}{m:Machine}{t:Trace}
theorem Xr.after(h:Xr S m t):∃ (gs:Array Goroutine) (w:World) (sl:Option (Nat × Nat)) (q:Nat→Nat) (a:Goroutine) (O C:Nat→Nat→Prop) (pre:Nat→Nat),
 m=crowd gs w sl∧gs[0]? =some a∧S.Fin a∧Leavers S.P t gs q∧After (ShN S.Wg) t∧WgLive S.ty S.Wg w∧S.V0 w∧Lay O C S.Sh w∧O 0=mE∧C 0=S.Cb∧
 RO t w∧∃ (buf:Array Value) (s z:Nat),w.heap[S.Ch]? =some (.chan S.n buf false s z false)∧buf.toList.Perm (((List.range S.n).filter S.bit).map fun(i:Nat)=>int i64 i):=by
 obtain⟨gs,w,sl,D,a,O,C,bx,pre,rk,rfl,ha,hfin,hc,hwg,hall,⟨q,h1,h2,h3,h4⟩,hO⟩:=h
 have hpre:∀i,i<S.n→pre i=0∧∃d,QuitsD S.P (D i).fuel d (gs.getD (i+1) default)∧d=(D i).deaf:=fun i hi=>by
  obtain⟨g,hg,hs⟩:=hc.wk i hi
  have e:gs.getD (i+1) default=g:=by rw[Array.getD_eq_getD_getElem?,hg];rfl
  rw[e]
  generalize hst:(D i).stage=s at hs
  generalize hfu:(D i).fuel=m at hs
  generalize hde:(D i).deaf=dd at hs
  generalize hp:pre i=p at hs
  have h1:=hall i hi
  cases hs with
  | p2 _ _=>omega
  | p1 _ _=>omega
  | r0 _ _=>omega
  | late h6 hl=>
    have:s=1:=zo
    subst this
    refine⟨rfl,_,?_,rfl⟩
    rcases hl with hl|hl
    ·cases hl with|quit hq=>exact hq
    ·cases hl with|quit hq=>exact hq
 have all:∀i g,t.g? i=some g→g≠0→∃r,RelBy (stA S.Wg) t g r∧r<q:=fun i g hg hne=>by
  obtain⟨op,hop,rfl⟩:=Option.map_eq_some_iff.1 hg
  have:=hc.ct.gs i op hop
  obtain⟨r,hr,hrq⟩:=h4 (op.g - 1) zo
  exact⟨r,by rw[show op.g - 1+1=op.g by omega] at hr;exact hr,hrq⟩
 refine⟨gs,w,sl,fun k=>(D (k - 1)).fuel,a,O,C,pre,rfl,ha,hfin,⟨fun k g hk hg=>?_,fun k hk=>?_⟩,⟨hc.ct.nr,fun i b hb hm=>?_,handedOver_all all hc.norel h1 h2 h3,hc.deaf0⟩,⟨_,_,hwg⟩,hc.v0,hc.lay,hO,hc.c0,hc.RX,?_⟩
 ·have hlt:=(Array.getElem?_eq_some_iff.1 hg).1
  rw[hc.size] at hlt
  obtain⟨_,d,hq,rfl⟩:=hpre (k - 1) zo
  have e:gs.getD (k - 1+1) default=g:=by rw[Array.getD_eq_getD_getElem?,show k - 1+1=k by omega,hg];rfl
  rw[e] at hq
  have hd:=hc.deafW (k - 1) zo
  rw[show k - 1+1=k by omega] at hd
  rw[hd];exact hq
 ·exact Deaf_absent fun i op hi e=>by have:=hc.ct.gs i op hi;rw[hc.size] at hk;omega
 ·obtain⟨op,hop,hx⟩:=touch_of hb
  by_cases h0:op.g=0
  ·have:=knows_own hop
   rw[h0] at this
   exact .inl this
  by_cases hcount:t.counts i
  ·obtain⟨r,hr,hrq⟩:=all i op.g (by simp[Trace.g?,hop]) h0
   have edge:HappensBefore t r q:=.single (.inr ⟨.marked hrq (.inr hr.act) h1 (fun k _ _=>hc.norel k),hr.heard,h3⟩)
   have hle:i≤r:=Nat.le_of_not_lt fun hlt=>hr.after i hlt (by simp[Trace.g?,hop]) hcount
   obtain⟨z,hz,hzg⟩:=Option.map_eq_some_iff.1 h2
   refine .inl ⟨q,z,hz,hzg,.inr ?_⟩
   rcases Nat.lt_or_ge i r with hlt|hge
   ·exact .trans (.single (.inl ⟨hlt,op.g,by simp[Trace.g?,hop],hr.g⟩)) edge
   ·obtain rfl:i=r:=zo
    exact edge
  ·refine .inr ?_
   have hk:b.kind=.atomic:=Classical.byContradiction fun hne=>hcount ⟨b,by simpa [touchAt] using hb,hm,.inl hne⟩
   exact⟨hc.G' op (Array.mem_of_getElem? hop) h0 b hx hk,hk⟩
 ·obtain⟨buf,s,z,h5,h6⟩:=hc.sent
  refine⟨buf,s,z,h5,?_⟩
  have:((List.range S.n).filter fun i=>S.bit i && decide (pre i≤1))=(List.range S.n).filter S.bit:=List.filter_congr fun i hi=>by
   rw[(hpre i (List.mem_range.1 hi)).1];simp
  rw[← this];exact h6
end
end
section
open Go.Conc Go.ConcN Go.cu Go.Conc.Lib Go.ConcR.Gen Go.ConcN.Gen
open Go.ConcR (KK WgAt stA smA rd wr g_of_ofEvents Payload DC0)
variable[Inhabited aV]
section
variable{S:Site}{w:World}
theorem NC{q:Nat}{v:Value}{ty:TypeId}(h:w.heap[q]? =some (.cells #[v] ty)):Has q 0 v w:=by
 simp[Has,World.cell?,h]
theorem Yf(H:WgLib S.P S.L)(hS:S.Ok){c:Frame}{cs:List Frame}{qt:Nat}(hcm:c.mode=.returning)(hT:QuitsD S.P qt 0 (G c cs))(hv:S.V0 w):
 S.D9 (G ((baseD S.L.done).at ⟨#[.pointer (some ⟨S.Wg,0,none⟩),undef,undef,undef],[]⟩ [.code (body_done S.L)]) (c :: cs)) w:=
 ⟨⟨23,@doneN S.pA S.L S.P H F0 F0 S.Wg S.bA 1 0 1 S.vA c cs qt hcm hT w ⟨hv.live,NC (hv.tab _ _ hS.cA)⟩⟩,
   ⟨23,@doneN S.pB S.L S.P H F0 F0 S.Wg S.bB 1 0 1 S.vB c cs qt hcm hT w ⟨hv.live,NC (hv.tab _ _ hS.cB)⟩⟩⟩
theorem Tp{L:WgLink}{Wg:Nat}{c:Frame}{cs:List Frame}{g:Goroutine}(h:AnchW L Wg c cs g w):g.status=.running:=by
 obtain⟨_,rfl,_⟩:=h
 rfl
end
section
variable{P:Program}{L:WgLink}{Wg:Nat}{Stop:Goroutine→World→Prop}{C O:Nat→Prop}{V:World→Prop}{K:Goroutine→World→(Nat→Prop)→Prop}
theorem Hq(C O:Nat→Prop)(w:World):Did C O O w w []:=
 ⟨rfl,rfl,rfl,zL,fun _ _ _=>rfl,fun b=>⟨.inl,fun h=>h.elim id fun⟨h1,h2⟩=>absurd h2 zo⟩,fun e he=>by simp at he⟩
theorem JE(hV:∀w,V w→WgLive L.tWg Wg w):∀ {m:Nat} {g:Goroutine} {w:World},gM P L Wg Stop m g w→(∀g' w2,Keeps C O w w2→V w2→Stop g' w2→K g' w2 O)→Wk P true C V K g w O
 | 0,g,w,h,hK=>.stop fun w2 k v=>hK g w2 k v (h w2 fun _=>hV w2 v)
 | m+1,g,w,h,hK=>by
   rcases h with h|⟨hrun,h⟩
   ·exact .stop fun w2 k v=>hK g w2 k v (h w2 fun _=>hV w2 v)
   ·refine .step (fun g2 w3 O2=>O2=O∧gM P L Wg Stop m g2 w3∧Keeps C O w w3) hrun (fun w2 k v=>?_) ?_
    ·have hs:=h w2 fun _=>hV w2 v
     cases hgo:stepG P true g w2 with
     | go g2 w3 es=>
       rw[hgo,goes_go] at hs
       obtain⟨⟨rfl,rfl⟩,hG⟩:=hs
       exact⟨g2,w3,O,#[],rfl,Hq C O w3,rfl,hG,k⟩
     | _=>rw[hgo] at hs;exact hs.elim
    ·rintro g2 w3 O2 ⟨e,hG,k⟩
     rw[e]
     exact JE hV hG fun g' w2 k2 v=>hK g' w2 (k.trans k2) v
end
section
variable{S:Site}{w:World}{O:Nat→Prop}{i:Nat}{Next:Goroutine→World→Prop}
theorem UQ{R g:Goroutine}{m:Nat}(h:S.GL (S.rS R) m g w)(hc:S.Cont i Next R w O):Wk S.P true S.Cb S.V0 (S.Bo i Next) g w O:=
 JE (fun _ v=>v.live) h fun g' w2 k v hs=>⟨R,hs,iK hc k⟩
end
end
section
open Go.Conc Go.ConcN Go.cu
variable[Inhabited aV]
open Classical in
noncomputable def Ir(D:Nat→Prop):Ren:=fun b=>if D b then some b else none
theorem wM{D:Nat→Prop}{b b':Nat}(h:Ir D b=some b'):b'=b∧D b:=by
 unfold Ir at h
 split at h
 ·exact⟨(Option.some.inj h).symm,‹_›⟩
 ·cases h
theorem NV{D:Nat→Prop}{b:Nat}(h:D b):Ir D b=some b:=if_pos h
def ks:Obj→Obj
 | .cells c e _=>.cells c e (0,c.size)
 | o=>o
open Classical in
noncomputable def wK(D:Nat→Prop)(w:World):World:={w with heap:=w.heap.mapIdx fun b o=>if D b then ks o else o }
theorem TY{D:Nat→Prop}{w:World}{b:Nat}{c:Array Value}{e:TypeId}{f:Nat × Nat}(h:D b)(hb:w.heap[b]? =some (.cells c e f)):(wK D w).heap[b]? =some (.cells c e (0,c.size)):=by
 simp[wK,Array.getElem?_mapIdx,hb,h,ks]
theorem Ym{D:Nat→Prop}{w:World}{b:Nat}(h:¬ D b):(wK D w).heap[b]? =w.heap[b]?:=by
 simp only[wK,Array.getElem?_mapIdx,h,if_false]
 cases w.heap[b]? <;> rfl
theorem Ua(D:Nat→Prop)(w:World):(wK D w).heap.size=w.heap.size:=by simp[wK]
def Closed(D:Nat→Prop)(w:World):Prop:=∀b,D b→∃c e f,w.heap[b]? =some (.cells c e f)∧f.2≤c.size∧dX (Ir D) c c
theorem Closed.keeps{D:Nat→Prop}{w w':World}(h:Closed D w)(hk:∀b,D b→w'.heap[b]? =w.heap[b]?):Closed D w':=fun b hb=>by
 obtain⟨c,e,f,h1,h2⟩:=h b hb
 exact⟨c,e,f,(hk b hb).trans h1,h2⟩
theorem pb{D:Nat→Prop}{w0 w:World}(h:Closed D w)(hk:∀b,D b→w0.heap[b]? =w.heap[b]?):WR (Ir D) (wK D w0) w:=by
 refine⟨fun b b' hb=>?_,fun b1 b2 c h1 h2=>?_⟩
 ·obtain⟨rfl,hD⟩:=wM hb
  obtain⟨c,e,f,h1,h3,h2⟩:=h _ hD
  exact⟨_,_,TY hD ((hk _ hD).trans h1),h1,.cells e h2 fun o _ h4=>⟨Nat.zero_le _,Nat.lt_of_lt_of_le h4 h3⟩⟩
 ·obtain⟨e1,_⟩:=wM h1
  obtain⟨e2,_⟩:=wM h2
  exact e1.symm.trans e2
theorem XZ{D C O:Nat→Prop}{w0 w:World}(h:Closed D w)(hk:∀b,D b→w0.heap[b]? =w.heap[b]?)(hC:∀b,D b→C b):sn C O (Ir D) (wK D w0):=fun b b' hb=>by
 obtain⟨rfl,hD⟩:=wM hb
 obtain⟨c,e,f,h1,h2⟩:=h _ hD
 exact .inl ⟨⟨c,e,_,TY hD ((hk _ hD).trans h1),fun o ho=>⟨Nat.zero_le _,ho⟩⟩,hC _ hD⟩
theorem FZ{P:Program}{main:Bool}{C O:Nat→Prop}{V:World→Prop}{K:Goroutine→World→(Nat→Prop)→Prop}(hg:P.globals.size=0){F:Fence}(hF:gP P F.fn)(hin:∀g,F.fn g→P.inits.idxOf? g=none)(hal:F.alive=true){n:Nat}(hroom:F.room (1+n))
 {f:FuncId}{args args':Array Value}{D:Nat→Prop}{w0 w:World}{r:Bool}{c:Frame}{cs:List Frame}(H:∀σ:Tape,CallsIn F n P f args (on (wK D w0) σ) (fun e _=>e=.returned (.bool r)))(ha:dX (Ir D) args args')(h:Closed D w)
 (hk:∀b,D b→w0.heap[b]? =w.heap[b]?)(hC:∀b,D b→C b)(hW:∀w3 O3,(∀b,O b→O3 b)→Wk P main C V K (G (c.finish (.bool r)) cs) w3 O3):Wk P main C V K (G (Frame.enter P f args' .normal) (c :: cs)) w O:=by
 refine Wk.call (vY (R:=fun x _=>x=.bool r) hg hF hin hal hroom (fun σ=>?_) ha (pb h hk) (XZ h hk hC)) fun ρ1 v v' w1 w3 O3 hR hv _ _ _ hO=>?_
 ·obtain⟨h1,h2⟩:=H σ
  refine⟨h1,fun cs hcs=>?_⟩
  obtain⟨e,v,fr,he,h3⟩:=h2 cs hcs
  exact⟨e,v,fr,⟨_,he,rfl⟩,h3⟩
 ·subst hR
  cases hv
  exact hW w3 O3 hO
end
section
open Go.Conc Go.ConcN Go.cu Go.Conc.Lib
open Go.ConcR (WgAt stA smA rd wr Payload)
variable[Inhabited aV]
section
variable{P:Program}{main:Bool}{C O:Nat→Prop}{V:World→Prop}{K:Goroutine→World→(Nat→Prop)→Prop}{b:Frame}{a:Act}{k:List Item}{cs:List Frame}{w:World}{ops:Array Oper}{i:Nat}{rest:List Nat}{o:Oper}
theorem listed_nil{w2:World}(he:(execOp a.eval o).events P w2 #[]=#[]):listed P b.fn a o w2=#[]:=by
 unfold listed;rw[he];exact seen_none P _
theorem F5{v:Value}(ho:ops[i]? =some o)(hw:Region.wanted o (yielded ops a.tmps)=true)(hk:b.kind≠.early)(hr:∀w2:World,(execOp a.eval o).run P w2=.ok (.value v) w2)(he:∀w2:World,(execOp a.eval o).events P w2 #[]=#[])
 (h:Wk P main C V K (G (b.at (a.put o.dst v) (.inRegion ops rest :: k)) cs) w O):Wk P main C V K (G (b.at a (.inRegion ops (i :: rest) :: k)) cs) w O:=
 Wk.idle rfl (fun w2 _=>by rw[stepG_value ho hw hk (hr w2),listed_nil (he w2)]) h
theorem wV{v:Value}{ad:Addr}(ho:ops[i]? =some o)(hw:Region.wanted o (yielded ops a.tmps)=true)(hk:b.kind≠.early)(hb:O ad.block∨C ad.block)
 (hr:∀w2:World,Keeps C O w w2→V w2→(execOp a.eval o).run P w2=.ok (.value v) w2∧listed P b.fn a o w2=#[⟨.cell ad,false,false⟩])
 (h:Wk P main C V K (G (b.at (a.put o.dst v) (.inRegion ops rest :: k)) cs) w O):Wk P main C V K (G (b.at a (.inRegion ops (i :: rest) :: k)) cs) w O:=
 .step (fun g2 w3 O2=>g2=G (b.at (a.put o.dst v) (.inRegion ops rest :: k)) cs∧O2=O∧Keeps C O w w3) rfl (fun w2 k2 v2=>by
  obtain⟨h1,h2⟩:=hr w2 k2 v2
  refine⟨_,w2,O,_,stepG_value ho hw hk h1,?_,rfl,rfl,k2⟩
  rw[h2]
  exact⟨rfl,rfl,rfl,zL,fun _ _ _=>rfl,fun b=>⟨.inl,fun h=>h.elim id fun⟨x,y⟩=>absurd y zo⟩,fun e he=>by
   simp only[List.mem_singleton] at he
   subst he
   exact .inr ⟨rfl,.inl ⟨ad,rfl,hb.imp id fun h=>⟨rfl,h⟩⟩⟩⟩)
  fun g2 w3 O2 ⟨e1,e2,k2⟩=>by subst e1;subst e2;exact h.keeps k2
theorem WT{obj:Obj}(ho:ops[i]? =some o)(hw:Region.wanted o (yielded ops a.tmps)=true)(hk:b.kind≠.early)
 (hr:∀w2:World,(execOp a.eval o).run P w2=.ok (.value (.pointer (some ⟨w2.heap.size,0,none⟩))) (w2.alloc obj))(he:∀w2:World,(execOp a.eval o).events P w2 #[]=#[])
 (h:∀w2,Keeps C O w w2→V w2→Wk P main C V K (G (b.at (a.put o.dst (.pointer (some ⟨w2.heap.size,0,none⟩))) (.inRegion ops rest :: k)) cs) (w2.alloc obj) (fun b=>O b∨b=w2.heap.size)):
 Wk P main C V K (G (b.at a (.inRegion ops (i :: rest) :: k)) cs) w O:=
 .step (fun g2 w3 O2=>∃w2,Keeps C O w w2∧V w2∧g2=G (b.at (a.put o.dst (.pointer (some ⟨w2.heap.size,0,none⟩))) (.inRegion ops rest :: k)) cs∧w3=w2.alloc obj∧O2=fun b=>O b∨b=w2.heap.size) rfl (fun w2 k2 v2=>by
  refine⟨_,_,fun b=>O b∨b=w2.heap.size,_,stepG_value ho hw hk (hr w2),?_,w2,k2,v2,rfl,rfl,rfl⟩
  rw[listed_nil (he w2)]
  have hsz:(w2.alloc obj).heap.size=w2.heap.size+1:=by show(w2.heap.push obj).size=_;exact Array.size_push ..
  refine⟨rfl,rfl,rfl,by rw[hsz];omega,fun b hb _=>?_,fun b=>⟨fun h=>h.imp id fun h=>?_,fun h=>h.imp id fun⟨x,y⟩=>?_⟩,fun e he=>by simp at he⟩
  ·show(w2.heap.push obj)[b]? =_
   rw[Array.getElem?_push,if_neg (Nat.ne_of_lt hb)]
  ·subst h;rw[hsz];exact⟨zL,Nat.lt_succ_self _⟩
  ·rw[hsz] at y;omega)
  fun g2 w3 O2 ⟨w2,k2,v2,e1,e2,e3⟩=>by subst e1;subst e2;subst e3;exact h w2 k2 v2
theorem WY{v:Value}{ad:Addr}(ho:ops[i]? =some o)(hw:Region.wanted o (yielded ops a.tmps)=true)(hk:b.kind≠.early)(hb:O ad.block)
 (hr:∀w2:World,Keeps C O w w2→V w2→(execOp a.eval o).run P w2=.ok .skip (w2.setCell ad v)∧listed P b.fn a o w2=#[⟨.cell ad,true,false⟩])
 (h:∀w2,Keeps C O w w2→V w2→Wk P main C V K (G (b.at (a.put o.dst undef) (.inRegion ops rest :: k)) cs) (w2.setCell ad v) O):Wk P main C V K (G (b.at a (.inRegion ops (i :: rest) :: k)) cs) w O:=
 .step (fun g2 w3 O2=>∃w2,Keeps C O w w2∧V w2∧g2=G (b.at (a.put o.dst undef) (.inRegion ops rest :: k)) cs∧w3=w2.setCell ad v∧O2=O) rfl (fun w2 k2 v2=>by
  obtain⟨h1,h2⟩:=hr w2 k2 v2
  refine⟨_,_,O,_,stepG_none ho hw hk h1,?_,w2,k2,v2,rfl,rfl,rfl⟩
  rw[h2]
  refine⟨rfl,rfl,rfl,by simp[World.setCell],fun b _ hn=>?_,fun b=>⟨.inl,fun h=>h.elim id fun⟨x,y⟩=>?_⟩,fun e he=>?_⟩
  ·have:b≠ad.block:=fun e=>hn (e ▸ hb)
   simp only[World.setCell,Array.getElem?_modify]
   rw[if_neg (Ne.symm this)]
  ·simp[World.setCell] at y;omega
  ·simp only[List.mem_singleton] at he
   subst he
   exact .inr ⟨rfl,.inl ⟨ad,rfl,.inl hb⟩⟩)
  fun g2 w3 O2 ⟨w2,k2,v2,e1,e2,e3⟩=>by subst e1;subst e2;subst e3;exact h w2 k2 v2
theorem WU{f:FuncId}{fn:Func}{c:Code}{args:Array Operand}{ats:Array TypeId}(ho:ops[i]? =some o)(hw:Region.wanted o (yielded ops a.tmps)=true)(hk:b.kind≠.early)(hop:o.op=.call {callee:=.value (.func f),args,argTypes:=ats })
 (hf:P.funcs[f]? =some fn)(hname:(fn.name == "runtime.NumGoroutine")=false)(hb:fn.body=some c)
 (h:Wk P main C V K (G ((base f).at {tmps:=args.map a.eval ++ Array.replicate (fn.ntmps - (args.map a.eval).size) undef,defers:=[] } [.code c]) (b.at a (.inRegion ops (i :: rest) :: k) :: cs)) w O):Wk P main C V K (G (b.at a (.inRegion ops (i :: rest) :: k)) cs) w O:=by
 have hb':fn.body.isNone=false:=by rw[hb];rfl
 refine Wk.idle rfl (fun w2 _=>by rw[stepG_enter ho hw hk (run_call_body hop hf hname hb'),listed_nil (events_call_body hop hf hname hb' #[])]) ?_
 rw[enter_at _ hf hb]
 exact h
theorem WV{f:FuncId}{args:Array Value}(ho:ops[i]? =some o)(hw:Region.wanted o (yielded ops a.tmps)=true)(hk:b.kind≠.early)(hr:∀w2:World,(execOp a.eval o).run P w2=.ok (.enter f args) w2)(he:∀w2:World,(execOp a.eval o).events P w2 #[]=#[])
 (h:Wk P main C V K (G (Frame.enter P f args .normal) (b.at a (.inRegion ops (i :: rest) :: k) :: cs)) w O):Wk P main C V K (G (b.at a (.inRegion ops (i :: rest) :: k)) cs) w O:=
 Wk.idle rfl (fun w2 _=>by rw[stepG_enter ho hw hk (hr w2),listed_nil (he w2)]) h
end
section
variable{P:Program}{L:WgLink}{Wg:Nat}{Stop Stop':Goroutine→World→Prop}{C O:Nat→Prop}{V:World→Prop}{K:Goroutine→World→(Nat→Prop)→Prop}
theorem AB(hV:∀w,V w→WgLive L.tWg Wg w):∀ {m:Nat} {g:Goroutine} {w:World},gM P L Wg Stop m g w→V w→(∀g' w2,Keeps C O w w2→V w2→Stop g' w2→Wk P true C V K g' w2 O)→Wk P true C V K g w O
 | 0,g,w,h,hv,hK=>hK g w (Keeps.refl C O w) hv (h w fun x=>x)
 | m+1,g,w,h,hv,hK=>by
   rcases h with h|⟨hrun,h⟩
   ·exact hK g w (Keeps.refl C O w) hv (h w fun x=>x)
   ·refine .step (fun g2 w3 O2=>O2=O∧gM P L Wg Stop m g2 w3∧Keeps C O w w3∧V w3) hrun (fun w2 k v=>?_) ?_
    ·have hs:=h w2 fun _=>hV w2 v
     cases hgo:stepG P true g w2 with
     | go g2 w3 es=>
       rw[hgo,goes_go] at hs
       obtain⟨⟨rfl,rfl⟩,hG⟩:=hs
       exact⟨g2,w3,O,#[],rfl,Hq C O w3,rfl,hG,k,v⟩
     | _=>rw[hgo] at hs;exact hs.elim
    ·rintro g2 w3 O2 ⟨e,hG,k,v⟩
     rw[e]
     exact AB hV hG v fun g' w2 k2 v=>hK g' w2 (k.trans k2) v
theorem jo(hS:∀g w,Stop g w→Stop' g w):∀ {m:Nat} {g:Goroutine} {w:World},gM P L Wg Stop m g w→gM P L Wg Stop' m g w
 | 0,g,w,h=>fun w1 h1=>hS _ _ (h w1 h1)
 | m+1,g,w,h=>by
   rcases h with h|⟨hrun,h⟩
   ·exact .inl fun w1 h1=>hS _ _ (h w1 h1)
   ·refine .inr ⟨hrun,fun w1 h1=>?_⟩
    have hs:=h w1 h1
    cases hgo:stepG P true g w1 with
    | go g2 w3 es=>
      rw[hgo,goes_go] at hs
      rw[goes_go]
      exact⟨hs.1,jo hS hs.2⟩
    | _=>rw[hgo] at hs;exact hs.elim
theorem Nv:∀ {m:Nat} {g:Goroutine} {w:World},gM P L Wg Stop m g w→gM P L Wg Stop (m+1) g w
 | 0,g,w,h=>.inl h
 | m+1,g,w,h=>by
   rcases h with h|⟨hrun,h⟩
   ·exact .inl h
   ·refine .inr ⟨hrun,fun w1 h1=>?_⟩
    have hs:=h w1 h1
    cases hgo:stepG P true g w1 with
    | go g2 w3 es=>
      rw[hgo,goes_go] at hs
      rw[goes_go]
      exact⟨hs.1,Nv hs.2⟩
    | _=>rw[hgo] at hs;exact hs.elim
theorem dm{m n:Nat}{g:Goroutine}{w:World}(h:gM P L Wg Stop m g w)(hn:m≤n):gM P L Wg Stop n g w:=by
 induction hn with
 | refl=>exact h
 | step _ ih=>exact Nv ih
theorem Nu(n:Nat)(hn:∀g w,WgLive L.tWg Wg w→Stop g w→gM P L Wg Stop' n g w):∀ {m:Nat} {g:Goroutine} {w:World},gM P L Wg Stop m g w→WgLive L.tWg Wg w→gM P L Wg Stop' (m+n) g w
 | 0,g,w,h,hl=>by rw[Nat.zero_add];exact hn _ _ hl (h w fun x=>x)
 | m+1,g,w,h,hl=>by
   rcases h with h|⟨hrun,h⟩
   ·exact dm (hn _ _ hl (h w fun x=>x)) zo
   ·rw[show m+1+n=m+n+1 by omega]
    refine .inr ⟨hrun,fun w1 h1=>?_⟩
    have hs:=h w1 h1
    cases hgo:stepG P true g w1 with
    | go g2 w3 es=>
      rw[hgo,goes_go] at hs
      rw[goes_go]
      obtain⟨⟨rfl,rfl⟩,hG⟩:=hs
      exact⟨⟨rfl,rfl⟩,Nu n hn hG (h1 hl)⟩
    | _=>rw[hgo] at hs;exact hs.elim
end
section
variable{P:Program}{L:WgLink}{Wg:Nat}{A A':Goroutine→World→Prop}{F F':Goroutine→Prop}
theorem WQ(hF:∀g,F g→F' g){g:Goroutine}{w:World}(h:Kg P Wg F g w):Kg P Wg F' g w:=let ⟨a,g',b,c⟩:=h;⟨a,g',b,hF _ c⟩
theorem OI(hF:∀g,F g→F' g){g:Goroutine}{w:World}(h:cQ P L Wg F g w):cQ P L Wg F' g w:=let ⟨a,g',b,m,c⟩:=h;⟨a,g',b,m,jo (fun _ _=>WQ hF) c⟩
theorem pa(hF:∀g,F g→F' g){g:Goroutine}{w:World}(h:W4 P L Wg F g w):W4 P L Wg F' g w:=⟨h.1,fun x=>let ⟨g',b,m,c⟩:=h.2 x;⟨g',b,m,jo (fun _ _=>OI hF) c⟩⟩
theorem oY(hF:∀g,F g→F' g){g:Goroutine}{w:World}(h:W3 P L Wg F g w):W3 P L Wg F' g w:=⟨h.1,h.2.1,h.2.2.1,fun x=>let ⟨g',b,m,c⟩:=h.2.2.2 x;⟨g',b,m,jo (fun _ _=>pa hF) c⟩⟩
theorem b6(hF:∀g,F g→F' g){g:Goroutine}{w:World}(h:ON P L Wg F g w):ON P L Wg F' g w:=let ⟨a,g',b,m,c⟩:=h;⟨a,g',b,m,jo (fun _ _=>oY hF) c⟩
theorem oX(hA:∀g w,A g w→A' g w)(hF:∀g,F g→F' g){vs:Nat}{g:Goroutine}{w:World}(h:W2 P L Wg A F vs g w):W2 P L Wg A' F' vs g w:=
 ⟨h.1,fun v hv hw=>⟨fun e=>let ⟨g',b,m,c⟩:=(h.2 v hv hw).1 e;⟨g',b,m,jo (fun _ _=>b6 hF) c⟩,fun e=>let ⟨g',b,m,c⟩:=(h.2 v hv hw).2 e;⟨g',b,m,jo hA c⟩⟩⟩
theorem oT(hA:∀g w,A g w→A' g w)(hF:∀g,F g→F' g){g:Goroutine}{w:World}(h:W1 P L Wg A F g w):W1 P L Wg A' F' g w:=
 ⟨h.1,fun v hv hw=>let ⟨g',b,c,d⟩:=h.2 v hv hw;⟨g',b,fun e=>let ⟨m,x⟩:=c e;⟨m,jo (fun _ _=>OI hF) x⟩,fun e=>let ⟨m,x⟩:=d e;⟨m,jo (fun _ _=>oX hA hF) x⟩⟩⟩
end
theorem LZ{S:Site}(H:WgLib S.P S.L)(pl:Payload){b₀:Frame}{ops₀:Array Oper}{i₀:Nat}{rest₀:List Nat}{k₀:List Item}{cs:List Frame}{A:Act→Prop}
 (cA:S.tab S.bA=some (.cells #[S.vA] (@Payload.ety S.pA)))(cB:S.tab S.bB=some (.cells #[S.vB] (@Payload.ety S.pB)))(ab:S.bA≠S.bB)(tw:S.tab S.Wg=none)(wc:S.Wg≠S.Ch)(n31:S.n<2147483648)
 (hAn:S.Anch=fun g w=>∃a₀,A a₀∧AnchW S.L S.Wg (b₀.at a₀ (.inRegion ops₀ (i₀ :: rest₀) :: k₀)) cs g w)(hFi:S.Fin=fun g=>∃a₀,A a₀∧Xt S.P S.L S.Wg (qK b₀ a₀ ops₀ i₀ rest₀ k₀ cs) g):S.Ok:=by
 refine⟨cA,cB,ab,fun e=>?_,fun e=>?_,wc,n31,fun g w h=>?_,fun g w h=>?_⟩
 ·rw[e,tw] at cA;cases cA
 ·rw[e,tw] at cB;cases cB
 ·rw[hAn] at h
  obtain⟨a₀,_,h⟩:=h
  exact Tp h
 ·rw[hAn] at h
  obtain⟨a₀,ha,h⟩:=h
  obtain⟨m,h1⟩:=@ML pl S.L S.P S.Wg b₀ a₀ ops₀ i₀ rest₀ k₀ cs H g w h
  refine⟨m,jo (fun g w h=>oT (fun g w h=>?_) (fun g h=>?_) h) h1⟩
  ·rw[hAn];exact⟨a₀,ha,h⟩
  ·rw[hFi];exact⟨a₀,ha,h⟩
end
end Go.aP
