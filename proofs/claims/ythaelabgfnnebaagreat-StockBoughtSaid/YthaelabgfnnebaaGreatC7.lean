/- Crew9 Crew10 Crew11 Crew12 -/
import Derived.Test.YthaelabgfnnebaaGreatC6
set_option maxRecDepth 100000
set_option maxHeartbeats 16000000
set_option linter.unusedVariables false
set_option linter.unusedSectionVars false
open Go.IntKind(i64)
open Go.Value(int)
namespace Go.aO
section
open Go.Conc Go.ConcN Go.cu Go.Conc.Lib
open Go.ConcR (KK WgAt stA smA rd wr g_of_ofEvents Payload DC0 again_blocked Bk ofEvent_loc_mark ofEvent_cell bk_of_mute)
variable[Inhabited aS]
section
variable{S:Site}{O C:Nat→Nat→Prop}{bx pre:Nat→Nat}{rk:Nat→Rank S.P}{j:Nat}{gs:Array Goroutine}{w w':World}{sl:Option (Nat × Nat)}{t:Trace}{D:Nat→WD}{tag:CTag}{b f0 d0:Nat}{a:Goroutine}{st sm:Int}{i:Nat}
theorem wN{x:WD}(h:OpenSt j D)(hx:x.stage=7∨x.stage=6∨x.stage=5∨x.stage=1):OpenSt j (upd D i x):=fun k hk=>by
 unfold upd
 split
 ·exact hx
 ·exact h k hk
theorem Gi{x:WD}(h:∀k,k<j→k≠i→(D k).stage=1):∀k,k<j→k≠i→(upd D i x k).stage=1:=fun k hk e=>by rw[upd_ne D _ e];exact h k hk e
theorem NI(h:ConcN.Mode j D tag st sm)(hi:i<j)(h5:(D i).stage=5):
 ∃v wt:Nat,wt≤1∧v<j+pend tag∧st=((v:Int)+1) * KK+wt∧sm=0∧(¬ (v=0∧wt=1)→∀z,ConcN.Mode j (upd D i ⟨1,z,1⟩) tag ((v:Int) * KK+wt) 0)∧((v=0∧wt=1)→∀z,ConcN.Mode j (upd D i ⟨4,z,1⟩) tag ((v:Int) * KK+wt) 0):=by
 have hV:=Vc_le j D
 have c1:cnt (D i)=1:=by simp[cnt,h5]
 have hpos:1≤Vc j D:=by have:=le_sumTo (f:=fun x=>cnt (D x)) hi;simp only[Vc];omega
 have gone:∀z,Vc j (upd D i ⟨1,z,1⟩)+1=Vc j D:=fun z=>by
  have:=Vc_upd D (⟨1,z,1⟩:WD) hi
  have:cnt (⟨1,z,1⟩:WD)=0:=rfl
  omega
 cases h with
 | opn h1 h2 h3=>
   refine⟨Vc j D+pend tag - 1,0,zo,zo,?_,rfl,fun _ z=>?_,fun h=>absurd h.2 zD⟩
   ·rw[show((Vc j D+pend tag:Nat):Int)=((Vc j D+pend tag - 1:Nat):Int)+1 by omega];simp
   ·have:=ConcN.Mode.opn (j:=j) (D:=upd D i ⟨1,z,1⟩) h1 (wN h2 zs) (fun vs e=>by have:=h3 vs e;have:=gone z;omega)
    rw[show Vc j (upd D i ⟨1,z,1⟩)+pend tag=Vc j D+pend tag - 1 by have:=gone z;omega] at this
    simpa using this
 | reg h1 h2 h3=>
   refine⟨Vc j D - 1,1,zo,zo,?_,rfl,fun hv z=>?_,fun hv z=>?_⟩
   ·rw[show((Vc j D:Nat):Int)=((Vc j D - 1:Nat):Int)+1 by omega];simp
   ·have:=ConcN.Mode.reg (j:=j) (D:=upd D i ⟨1,z,1⟩) h1 (wN h2 zs) (by have:=gone z;omega)
    rw[show Vc j (upd D i ⟨1,z,1⟩)=Vc j D - 1 by have:=gone z;omega] at this
    simpa using this
   ·have hq:=others_uncounted hi (show Vc j D=1 by omega) c1
    have:=ConcN.Mode.last (j:=j) (D:=upd D i ⟨4,z,1⟩) (tag:=tag) i h1 hi (by rw[upd_same];simp) (Gi fun k hk e=>by
     have a1:=hq k hk e
     have a2:=h2 k hk
     unfold cnt at a1
     split at a1 <;> omega)
    rw[upd_same] at this
    simpa [hv.1] using this
 | last L _ h2 h3 h4=>
   by_cases e:i=L
   ·subst e;omega
   ·have:=h4 i hi e;omega
 | sema h2=>have:=h2 i hi;omega
 | fin _ h2=>have:=h2 i hi;omega
theorem sO(h:ConcN.Mode j D tag st sm)(hi:i<j)(h4:(D i).stage=4∨(D i).stage=3∨(D i).stage=2):st=(if (D i).stage=2 then 0 else 1)∧sm=0∧isW3 tag∧
 (∀s' z,s'=3∨s'=2→ConcN.Mode j (upd D i ⟨s',z,1⟩) tag (if s'=2 then 0 else 1) 0)∧(∀z,AllQuit j (upd D i ⟨1,z,0⟩)):=by
 obtain⟨h1,h2,h3,h5⟩:=h.isLast hi h4
 refine⟨h3,h5,h1,fun s' z hs=>?_,fun z k hk=>?_⟩
 ·have:=ConcN.Mode.last (j:=j) (D:=upd D i ⟨s',z,1⟩) (tag:=tag) i h1 hi (by rw[upd_same];simp only;omega) (Gi h2)
  rwa[upd_same] at this
 ·by_cases e:k=i
  ·subst e;rw[upd_same]
  ·rw[upd_ne D _ e];exact h2 k hk e
def Mt(d:Nat)(es:Array Event):Prop:=∀k e,es[k]? =some e→(MemAct.ofEvent e).touch?=none∨0<deafBehind d (es.extract 0 k)
theorem pF{d:Nat}{es:Array Event}(h:∀e∈es,e.loc=.mark .disable∨e.loc=.mark .enable):Mt d es:=fun k e he=>.inl (by
 rcases h e (Array.mem_of_getElem? he) with h1|h1 <;> rw[ofEvent_loc_mark h1] <;> rfl)
theorem Tg{d:Nat}:Mt d #[]:=fun k e he=>by simp at he
theorem Gp(e:Event):Mt 1 #[e]:=fun k x hx=>by
 cases k with
 | zero=>exact .inr (by simp[deafBehind])
 | succ k=>simp at hx
theorem Xb(Wg:Nat):Mt 1 #[rd (stA Wg),wr (stA Wg)]:=fun k x hx=>by
 rcases k with _|_|k
 ·exact .inr (by simp[deafBehind])
 ·exact .inr (by simp[deafBehind,rd])
 ·simp at hx
theorem Ti(ad:Addr)(d:Nat):Mt d (semEvents ad):=fun k x hx=>by
 rcases k with _|_|_|_|k
 ·simp[semEvents] at hx;subst hx;exact .inl rfl
 ·exact .inr (by simp[deafBehind,semEvents])
 ·exact .inr (by simp[deafBehind,semEvents])
 ·simp[semEvents] at hx;subst hx;exact .inl rfl
 ·simp[semEvents] at hx
theorem qb:∀e∈#[Go.ConcR.mk .disable],Bk S.Wg e:=by intro e he;simp at he;subst he;exact .inl rfl
theorem sD:∀e∈#[Go.ConcR.mk .enable],Bk S.Wg e:=by intro e he;simp at he;subst he;exact .inr (.inl rfl)
theorem bk_rw:∀e∈#[rd (stA S.Wg),wr (stA S.Wg)],Bk S.Wg e:=by intro e he;simp at he;rcases he with rfl|rfl <;> exact bk_cell _ _ rfl
theorem bk_rd:∀e∈#[rd (stA S.Wg)],Bk S.Wg e:=by intro e he;simp at he;subst he;exact bk_cell _ _ rfl
theorem ld:∀e∈#[wr (stA S.Wg)],Bk S.Wg e:=by intro e he;simp at he;subst he;exact bk_cell _ _ rfl
theorem bk_sem:∀e∈semEvents (smA S.Wg),Bk S.Wg e:=by
 intro e he
 simp[semEvents] at he
 rcases he with rfl|rfl|rfl|rfl
 ·exact .inl rfl
 ·exact bk_cell _ _ rfl
 ·exact bk_cell _ _ rfl
 ·exact .inr (.inl rfl)
theorem qp(hS:S.Ok)(ha:gs[0]? =some a)(hm:iT S j (rk 0) tag b f0 d0 a w (O 0))(hc:Com S O C bx pre rk j gs w t D d0)(hi:i<j){g g':Goroutine}(hg:gs[i+1]? =some g)(hpre:pre i=0)(h6:(D i).stage≤6)
 {es:Array Event}{s' m' d':Nat}{st' sm':Int}(hgo:stepG S.P false g w=.go g' w' es)(hAs:Aside S.Wg w w')(hwg:WgAt S.ty S.Wg w' st' sm')(hbk:∀e∈es,Bk S.Wg e)(oe:Mt (D i).deaf es)(hl:S.Late s' m' d' g' w')
 (hd:deafBehind (D i).deaf es=d')(hmode:∀tag',(tag'=tag∨(tag=.blk∧tag'=.w3))→(mayWake S.P g=true→g'.status=.running→tag'≠.blk)→ConcN.Mode j (upd D i ⟨s',m',d'⟩) tag' st' sm')
 (hlt:s'<(D i).stage∨(s'=(D i).stage∧m'<(D i).fuel)):∃m₁ ops μ',runT S.P (crowd gs w sl) (i+1)=(.next m₁,ops)∧yh S μ' (mu S j D tag b pre rk f0)∧Inv S μ' m₁ (t ++ ops):=by
 have hcnt:cnt ⟨s',m',d'⟩≤cnt (D i):=by unfold cnt;simp only;split <;> split <;> omega
 exact IJ hS ha hm hc hi hg hgo hAs hwg (vV hbk) (norel_of_Bk hbk) (by rw[hpre];exact .late zo hl) hd (fun _=>let ⟨r,hr⟩:=hc.rel i hi h6;⟨r,hr.book (hc.deafW i hi) _ _ hbk oe⟩) hmode (hlt.imp (fun h=>⟨h,hcnt⟩) id)
theorem Gw(pl:Payload){q:Nat}{v:Value}(qI:∀s m d g w,@WSit pl S.P S.ty S.Wg q 1 F0 F0 0 1 v s m d g w→S.Late s m d g w)
 (hS:S.Ok)(ha:gs[0]? =some a)(hm:iT S j (rk 0) tag b f0 d0 a w (O 0))(hc:Com S O C bx pre rk j gs w t D d0)(hwg:WgAt S.ty S.Wg w st sm)(hmode:ConcN.Mode j D tag st sm)
 (hi:i<j){g:Goroutine}(hg:gs[i+1]? =some g)(hrun:g.status=.running)(hpre:pre i=0){s m dd:Nat}(hs:@WSit pl S.P S.ty S.Wg q 1 F0 F0 0 1 v s m dd g w)(h6:s≤6)
 (hst:(D i).stage=s)(hfu:(D i).fuel=m)(hde:(D i).deaf=dd):
 ∃m₁ ops μ',runT S.P (crowd gs w sl) (i+1)=(.next m₁,ops)∧yh S μ' (mu S j D tag b pre rk f0)∧Inv S μ' m₁ (t ++ ops):=by
 letI:=pl
 have hb:=hm.bound
 have hn:=hS.n31
 have stay:∀z dz,ConcN.Mode j (upd D i ⟨s,z,dz⟩) tag st sm:=fun z dz=>by have:=hmode.same (i:=i) z dz;rwa[hst] at this
 have idle:∀ {g':Goroutine} {m':Nat},stepG S.P false g w=.go g' w #[]→@WSit pl S.P S.ty S.Wg q 1 F0 F0 0 1 v s m' dd g' w→m'<m→
  ∃m₁ ops μ',runT S.P (crowd gs w sl) (i+1)=(.next m₁,ops)∧yh S μ' (mu S j D tag b pre rk f0)∧Inv S μ' m₁ (t ++ ops):=fun hgo hs' hlt=>
  qp hS ha hm hc hi hg hpre zo hgo (.refl S.Wg w) hwg zs Tg (qI _ _ _ _ _ hs') (by rw[hde];rfl) (fun _ ht _=>(stay _ _).retag ht) (.inr ⟨hst.symm,zo⟩)
 cases hs with
 | r0 h=>omega
 | k1 h=>
   rcases Goes.cases h with hs|⟨m',rfl,hs⟩
   ·obtain⟨_,g',hgo,m₂,hk⟩:=hs w (RW.refl w)
    exact qp hS ha hm hc hi hg hpre zo hgo (.refl S.Wg w) hwg qb (pF (by intro e he;simp at he;subst he;exact .inl rfl)) (qI _ _ _ _ _ (.d1 hk)) (by rw[hde];rfl)
     (fun _ ht _=>(hmode.counted hi zo (.inr rfl) _ _).retag ht) (.inl zo)
   ·obtain⟨g',w',es,hgo,⟨rfl,rfl⟩,hk⟩:=hs w (RW.refl w)
    exact idle hgo (.k1 hk) zo
 | d1 h=>
   rcases Goes.cases h with hs|⟨m',rfl,hs⟩
   ·obtain⟨v,wt,hwt,hv,rfl,rfl,hleave,hlast⟩:=NI hmode hi hst
    obtain⟨g',hgo,hl,hq⟩:=(hs w (RW.refl w)).2 v wt hwt zo hwg
    have go1:∀ {s' m':Nat},s'<5→@WSit pl S.P S.ty S.Wg q 1 F0 F0 0 1 _ s' m' 1 g' (w.setCell (stA S.Wg) (.int .u64 ((v:Int) * KK+wt)))→ConcN.Mode j (upd D i ⟨s',m',1⟩) tag ((v:Int) * KK+wt) 0→
     ∃m₁ ops μ',runT S.P (crowd gs w sl) (i+1)=(.next m₁,ops)∧yh S μ' (mu S j D tag b pre rk f0)∧Inv S μ' m₁ (t ++ ops):=fun hs' hk hm'=>
     qp hS ha hm hc hi hg hpre zo hgo (aside_setCell w (stA S.Wg) _) (hwg.setSt _) bk_rw (by rw[hde];exact Xb _) (qI _ _ _ _ _ hk) (by rw[hde];rfl) (fun _ ht _=>hm'.retag ht) (.inl zo)
    by_cases hx:v=0∧wt=1
    ·obtain⟨m₂,hk⟩:=hl hx
     exact go1 zo (.d2 hk) (hlast hx _)
    ·obtain⟨z,hk⟩:=hq hx
     exact go1 zo (.quit hk) (hleave hx _)
   ·obtain⟨g',w',es,hgo,⟨rfl,rfl⟩,hk⟩:=hs w (RW.refl w)
    exact idle hgo (.d1 hk) zo
 | d2 h=>
   rcases Goes.cases h with hs|⟨m',rfl,hs⟩
   ·obtain⟨e1,e2,_,Rv,_⟩:=sO hmode hi zo
    rw[hst] at e1
    subst e1;subst e2
    obtain⟨g',hgo,m₂,hk⟩:=(hs w (RW.refl w)).2 hwg
    exact qp hS ha hm hc hi hg hpre zo hgo (.refl S.Wg w) hwg bk_rd (by rw[hde];exact Gp _) (qI _ _ _ _ _ (.d3 hk)) (by rw[hde];rfl) (fun _ ht _=>(Rv 3 _ (.inl rfl)).retag ht) (.inl zo)
   ·obtain⟨g',w',es,hgo,⟨rfl,rfl⟩,hk⟩:=hs w (RW.refl w)
    exact idle hgo (.d2 hk) zo
 | d3 h=>
   rcases Goes.cases h with hs|⟨m',rfl,hs⟩
   ·obtain⟨e1,e2,_,Rv,_⟩:=sO hmode hi zo
    rw[hst] at e1
    subst e1;subst e2
    obtain⟨g',hgo,m₂,hk⟩:=(hs w (RW.refl w)).2 hwg
    exact qp hS ha hm hc hi hg hpre zo hgo (aside_setCell w (stA S.Wg) _) (hwg.setSt 0) ld (by rw[hde];exact Gp _) (qI _ _ _ _ _ (.d4 hk)) (by rw[hde];rfl) (fun _ ht _=>(Rv 2 _ (.inr rfl)).retag ht) (.inl zo)
   ·obtain⟨g',w',es,hgo,⟨rfl,rfl⟩,hk⟩:=hs w (RW.refl w)
    exact idle hgo (.d3 hk) zo
 | d4 h=>
   rcases Goes.cases h with hs|⟨m',rfl,hs⟩
   ·obtain⟨e1,e2,hw3,_,hall⟩:=sO hmode hi zo
    rw[hst] at e1
    subst e1;subst e2
    obtain⟨_,hmw,hx⟩:=hs w (RW.refl w)
    obtain⟨g',hgo,z,hk⟩:=hx hwg
    have hr:g'.status=.running:=by
     cases z with
     | zero=>exact absurd hk.2 zD
     | succ z=>
       rcases hk with⟨_,hk⟩|⟨hk,_⟩
       ·exact absurd hk zD
       ·exact hk
    refine qp hS ha hm hc hi hg hpre zo hgo (aside_setCell w (smA S.Wg) _) (hwg.setSm 1) bk_sem (Ti _ _) (d':=1) (qI _ _ _ _ _ (.quit hk)) (by rw[hde];simp[deafBehind,semEvents]) (fun tag' ht hnb=>?_) (.inl zo)
    have hne:=hnb hmw hr
    have e3:tag'=.w3:=by
     rcases ht with rfl|⟨_,rfl⟩
     ·cases tag' <;> first|rfl|exact hw3.elim|exact absurd rfl hne
     ·rfl
    subst e3
    exact .sema fun k hk'=>by
     have:=hall z k hk'
     by_cases e:k=i
     ·subst e;rw[upd_same]
     ·rw[upd_ne D _ e] at this⊢;exact this
   ·obtain⟨g',w',es,hgo,⟨rfl,rfl⟩,hk⟩:=hs w (RW.refl w)
    exact idle hgo (.d4 hk) zo
 | quit h=>
   cases m with
   | zero=>rw[h.1] at hrun;cases hrun
   | succ z=>
     rcases h with⟨hf,_⟩|⟨_,g',es,hmute,hgo,hk⟩
     ·rw[hf] at hrun;cases hrun
     ·have hbk:∀e∈es,Bk S.Wg e:=fun e he=>bk_of_mute (hmute e he)
      refine qp hS ha hm hc hi hg hpre zo (hgo w) (.refl S.Wg w) hwg hbk (pF fun e he=>?_) (qI _ _ _ _ _ (.quit hk)) (by rw[hde]) (fun _ ht _=>(stay _ _).retag ht) (.inr ⟨hst.symm,zo⟩)
      rcases hbk e he with h1|h1|⟨ad,x,rfl,_⟩
      ·exact .inl h1
      ·exact .inr h1
      ·have:=hmute _ he;simp[Event.mute] at this
end
section
variable{S:Site}{O C:Nat→Nat→Prop}{bx pre:Nat→Nat}{rk:Nat→Rank S.P}{j:Nat}{gs:Array Goroutine}{w w':World}{sl:Option (Nat × Nat)}{t:Trace}{D:Nat→WD}{tag:CTag}{b f0 d0:Nat}{a:Goroutine}{st sm:Int}
theorem Com.rename(hS:S.Ok)(h:Com S O C bx pre rk j gs w t D d0){i:Nat}(hi:i<j){g:Goroutine}(hg:gs[i+1]? =some g){x':Rank S.P}{p' m':Nat}(h7:(D i).stage=7)(hd:(D i).deaf=0)
 (iR:rY S j (upd pre i p') w)(hs':Cy S i (bx i) x' p' 7 m' 0 g w (O (i+1))):Com S O C bx (upd pre i p') (upd rk (i+1) x') j gs w t (upd D i ⟨7,m',0⟩) d0:=by
 have:=h.stepW (gs':=gs) (u:=#[]) (O1:=O (i+1)) (w':=w) hS hi h.size hg (fun k _ _ y hy _=>hy) (by rw[jU];exact h.lay) (fun k _=>Keeps.refl _ _ _) (fun _ _=>rfl) h.v0.live ⟨rfl,rfl,rfl⟩ iR hs'
  (by rw[jU];simpa using h.ct) (by simpa using h.Py) zs zs (qP zs) (by simpa [hd] using h.deafW i hi) zo
 rw[jU] at this
 simpa using this
theorem Tp(hS:S.Ok)(ha:gs[0]? =some a)(hm:iT S j (rk 0) tag b f0 d0 a w (O 0))(hc:Com S O C bx pre rk j gs w t D d0)(hwg:WgAt S.ty S.Wg w st sm)(hmode:ConcN.Mode j D tag st sm)
 {i:Nat}(hi:i<j){g:Goroutine}(hg:gs[i+1]? =some g)(hpre:pre i=0){m m':Nat}(h1:S.GA m g w)(h2:S.GB m' g w)(hst:(D i).stage=7)(hfu:(D i).fuel=m+m')(hde:(D i).deaf=0):
 ∃m₁ ops μ',runT S.P (crowd gs w sl) (i+1)=(.next m₁,ops)∧yh S μ' (mu S j D tag b pre rk f0)∧Inv S μ' m₁ (t ++ ops):=by
 have hdk:Deaf t (i+1)=0:=by rw[hc.deafW i hi,hde]
 have rel:∀ {g':Goroutine} {m₂:Nat},stepG S.P false g w=.go g' w #[Go.ConcR.mk (.releaseMerge (stA S.Wg))]→S.Late 6 m₂ 0 g' w→
  ∃m₁ ops μ',runT S.P (crowd gs w sl) (i+1)=(.next m₁,ops)∧yh S μ' (mu S j D tag b pre rk f0)∧Inv S μ' m₁ (t ++ ops):=by
  intro g' m₂ hgo hk
  exact IJ hS ha hm hc hi hg hgo (.refl S.Wg w) hwg (by intro e he x hx;simp at he;subst he;simp[Go.ConcR.mk,MemAct.ofEvent,MemAct.touch?] at hx) (by intro e he;simp at he;subst he;simp[Go.ConcR.mk])
   (by rw[hpre];exact .late zo hk) (by rw[hde];rfl) (fun _=>⟨t.size,RelBy.new hdk _ _⟩) (fun _ ht _=>(hmode.counted hi zo (.inl rfl) _ _).retag ht) (.inl ⟨zo,by simp[cnt,hst]⟩)
 rcases Goes.cases h1 with hA|⟨k,rfl,hA⟩
 ·obtain⟨_,_,g',hgo,m₂,hk⟩:=hA w (@RW.refl S.pA _ _ _ _ _ _ w)
  letI:=S.pA
  exact rel hgo (.inl (.k1 hk))
 rcases Goes.cases h2 with hB|⟨k',rfl,hB⟩
 ·obtain⟨_,_,g',hgo,m₂,hk⟩:=hB w (@RW.refl S.pB _ _ _ _ _ _ w)
  letI:=S.pB
  exact rel hgo (.inr (.k1 hk))
 obtain⟨g',w',es,hgo,⟨a1,e1⟩,hA'⟩:=hA w (@RW.refl S.pA _ _ _ _ _ _ w)
 obtain⟨g2,w2,es2,nw,⟨a2,_⟩,hB'⟩:=hB w (@RW.refl S.pB _ _ _ _ _ _ w)
 rw[hgo] at nw
 cases nw
 have hAs:Aside S.Wg w w':=CP hS.ab a1 a2
 have hwg':WgAt S.ty S.Wg w' st sm:=by
  obtain⟨_,_,_,_,a5,_,_⟩:=a1
  unfold WgAt at *
  rw[a5 _ (Ne.symm hS.aW)];exact hwg
 refine IJ hS ha hm hc hi hg hgo hAs hwg' (Nf e1) (fun e he=>(e1 e he).2.2.2) (by rw[hpre];exact .r0 hA' hB') (by rw[hde];exact deafBehind_idle (fun e he=>⟨(e1 e he).2.1,(e1 e he).2.2.1⟩) 0)
  (fun h=>absurd h zo) (fun _ ht _=>ConcN.Mode.retag (by have:=hmode.same (i:=i) (k+k') 0;rwa[hst] at this) ht) (.inr ⟨hst.symm,zo⟩)
theorem Gu(hS:S.Ok)(ha:gs[0]? =some a)(hm:iT S j (rk 0) tag b f0 d0 a w (O 0))(hc:Com S O C bx pre rk j gs w t D d0)(hwg:WgAt S.ty S.Wg w st sm)(hmode:ConcN.Mode j D tag st sm)
 {i:Nat}(hi:i<j){g:Goroutine}(hg:gs[i+1]? =some g)(hpre:0<pre i)(iR:rY S j (upd pre i 0) w)(h:S.Ci g w)(hst:(D i).stage=7)(hde:(D i).deaf=0):
 ∃m₁ ops μ',runT S.P (crowd gs w sl) (i+1)=(.next m₁,ops)∧yh S μ' (mu S j D tag b pre rk f0)∧Inv S μ' m₁ (t ++ ops):=by
 obtain⟨⟨m,h1⟩,m',h2⟩:=h
 have hc':=hc.rename hS hi hg (x':=rk (i+1)) hst hde iR (.r0 h1 h2)
 rw[tC] at hc'
 have e4:=sumTo_upd pre 0 id hi
 have ev:(sumTo j fun q=>cnt (upd D i ⟨7,m+m',0⟩ q))=sumTo j fun q=>cnt (D q):=by
  have:=sumTo_upd D (⟨7,m+m',0⟩:WD) cnt hi
  have c1:cnt (D i)=1:=by simp[cnt,hst]
  have c2:cnt (⟨7,m+m',0⟩:WD)=1:=by simp[cnt]
  omega
 have es:(sumTo j fun q=>(upd D i ⟨7,m+m',0⟩ q).stage)=sumTo j fun q=>(D q).stage:=by
  have:=sumTo_upd D (⟨7,m+m',0⟩:WD) WD.stage hi
  simp only[hst] at this
  omega
 obtain⟨m₁,ops,μ',r1,r2,r3⟩:=Tp (sl:=sl) hS ha hm hc' hwg (by have:=hmode.same (i:=i) (m+m') 0;rwa[hst] at this) hi hg (upd_same _ _ _) h1 h2 (by rw[upd_same]) (by rw[upd_same]) (by rw[upd_same])
 refine⟨m₁,ops,μ',r1,A8 r2 ?_,r3⟩
 show 2 * phi S.n (Vc j (upd D i ⟨7,m+m',0⟩)) tag+b+Ssum j (upd D i ⟨7,m+m',0⟩)+sumTo j (fun q=>upd pre i 0 q)<2 * phi S.n (Vc j D) tag+b+Ssum j D+sumTo j (fun q=>pre q)
 simp only[Vc,Ssum,id] at *
 rw[ev,es]
 omega
theorem dC(hS:S.Ok)(ha:gs[0]? =some a)(hm:iT S j (rk 0) tag b f0 d0 a w (O 0))(hc:Com S O C bx pre rk j gs w t D d0)(hwg:WgAt S.ty S.Wg w st sm)(hmode:ConcN.Mode j D tag st sm)
 {i:Nat}(hi:i<j){g:Goroutine}(hg:gs[i+1]? =some g)(hpre:pre i=1)(hx:(rk (i+1)).1=mg (S.C1 (bx i)) (S.V1 i (bx i)) false S.K7 g w (O (i+1)))(h:Wk S.P false (S.C1 (bx i)) (S.V1 i (bx i)) S.K7 g w (O (i+1)))
 (hst:(D i).stage=7)(hde:(D i).deaf=0):
 ∃m₁ ops μ',runT S.P (crowd gs w sl) (i+1)=(.next m₁,ops)∧yh S μ' (mu S j D tag b pre rk f0)∧Inv S μ' m₁ (t ++ ops):=by
 by_cases hK:S.K7 g w (O (i+1))
 ·refine Gu hS ha hm hc hwg hmode hi hg zo (hc.sent.congr rfl fun k hk=>?_) hK hst hde
  by_cases e:k=i
  ·subst e;rw[upd_same];omega
  ·rw[upd_ne pre _ e]
 ·obtain⟨h0,g2,w3,O2,es,y,r1,r2,r3,r4,r5⟩:=Ee h (hc.v1 hi) hK _ hx
  rw[← hc.ci i hi] at r2
  exact SI hS ha hm hc hwg hmode hi hg r1 r2 hst hde (by rw[hpre];exact .p1 r4 r3) r5
end
theorem tO{p p':Nat→Bool}{i:Nat}(h0:p i=false)(h1:p' i=true)(h2:∀k,k≠i→p' k=p k):∀ {l:List Nat},l.Nodup→i∈l→(l.filter p').Perm (i :: l.filter p)
 | [],_,hi=>by cases hi
 | y :: l,hn,hi=>by
   obtain⟨hy,hn⟩:=List.nodup_cons.1 hn
   by_cases e:y=i
   ·subst e
    have:l.filter p'=l.filter p:=List.filter_congr fun k hk=>h2 k fun e=>hy (e ▸ hk)
    rw[List.filter_cons_of_pos h1,List.filter_cons_of_neg (by simp[h0]),this]
   ·have ih:=tO h0 h1 h2 hn ((List.mem_cons.1 hi).resolve_left fun e2=>e e2.symm)
    by_cases hp:p y=true
    ·rw[List.filter_cons_of_pos (by rw[h2 y e];exact hp),List.filter_cons_of_pos hp]
     exact(ih.cons y).trans (List.Perm.swap i y _)
    ·rw[List.filter_cons_of_neg (by rw[h2 y e];exact hp),List.filter_cons_of_neg hp]
     exact ih
section
variable{S:Site}{O C:Nat→Nat→Prop}{bx pre:Nat→Nat}{rk:Nat→Rank S.P}{j:Nat}{gs:Array Goroutine}{w w':World}{sl:Option (Nat × Nat)}{t:Trace}{D:Nat→WD}{tag:CTag}{b f0 d0:Nat}{a:Goroutine}{st sm:Int}
theorem yM(w:World)(c n s q:Nat)(buf:Array Value)(x y:Bool):(∀k,k≠c→(w.setChan c n buf x s q y).heap[k]? =w.heap[k]?)∧(w.setChan c n buf x s q y).heap.size=w.heap.size∧(c<w.heap.size→(w.setChan c n buf x s q y).heap[c]? =some (.chan n buf x s q y)):=by
 refine⟨fun k hk=>?_,by simp[World.setChan],fun hc=>?_⟩
 ·simp only[World.setChan]
  exact Array.getElem?_setIfInBounds_ne (fun e=>hk e.symm)
 ·simp only[World.setChan]
  exact Array.getElem?_setIfInBounds_self_of_lt hc
theorem iT.offers{x:Rank S.P}{O0:Nat→Prop}(h:iT S j x .blk b f0 d0 a w O0):a.offers=none:=by
 cases h with
 | blk e hb=>exact(hb w fun x=>x).2.1
theorem Tq(hS:S.Ok)(ha:gs[0]? =some a)(hm:iT S j (rk 0) tag b f0 d0 a w (O 0))(hc:Com S O C bx pre rk j gs w t D d0)(hwg:WgAt S.ty S.Wg w st sm)(hmode:ConcN.Mode j D tag st sm)
 {i:Nat}(hi:i<j){g:Goroutine}(hg:gs[i+1]? =some g)(hpre:pre i=2)(hbit:S.bit i=true)(hK:S.Qx i (bx i) g w (O (i+1)))(hst:(D i).stage=7)(hde:(D i).deaf=0):
 ∃m₁ ops μ',runT S.P (crowd gs w sl) (i+1)=(.next m₁,ops)∧yh S μ' (mu S j D tag b pre rk f0)∧Inv S μ' m₁ (t ++ ops):=by
 obtain⟨hrun,g2,z,hcomm,hafter⟩:=hK
 obtain⟨buf,s,q,hch,hperm⟩:=hc.sent
 have YH:=tO (p:=fun i=>S.bit i && decide (pre i≤1)) (p':=fun k=>S.bit k && decide (upd pre i 1 k≤1)) (i:=i) (by simp[hpre]) (by simp[hbit,upd_same]) (fun k e=>by simp only[upd_ne pre _ e]) (l:=List.range j) List.nodup_range (List.mem_range.2 hi)
 have hjn:j≤S.n:=by have:=hm.bound;omega
 have hroom:buf.size<S.n:=by
  have e1:=hperm.length_eq
  have e2:=YH.length_eq
  have e3:=List.length_filter_le (fun k=>S.bit k && decide (upd pre i 1 k≤1)) (List.range j)
  simp only[List.length_map,Array.length_toList,List.length_cons,List.length_range] at e1 e2 e3
  omega
 have hcl:S.Ch<w.heap.size:=hc.lay.LD _ (.inr rfl)
 obtain⟨s1,s2,s3⟩:=yM w S.Ch S.n (s+1) q (buf.push (int i64 i)) false false
 have hp:partners (gs.setIfInBounds (i+1) ph) S.Ch false=[]:=partners_nil fun k y hy=>by
  rcases getElem?_stand gs (i+1) k y hy with⟨_,rfl⟩|⟨_,hy⟩
  ·exact offersAt_ph _ _
  cases k with
  | zero=>
    rw[ha] at hy;cases hy
    rcases hm.status hS hc.v0 with⟨h,_⟩|⟨_,rfl⟩
    ·exact offersAt_of_not_blocked (by rw[h];simp) _ _
    ·simp[offersAt,hm.offers]
  | succ k=>
    have hk:k<j:=by have:=(Array.getElem?_eq_some_iff.1 hy).1;rw[hc.size] at this;omega
    obtain⟨y',hy',hsy⟩:=hc.wk k hk
    rw[hy] at hy';cases hy'
    rcases hsy.status (hc.v1 hk) with h|h <;> exact offersAt_of_not_blocked (by rw[h];simp) _ _
 have hgo:=crowd_send_room (P:=S.P) (sl:=sl) hg (by simpa using hcomm) hch hroom hp
 have hkp:∀k,Keeps (C k) (O k) w (w.setChan S.Ch S.n (buf.push (int i64 i)) false (s+1) q false):=fun k y hy=>s1 y (by
  rcases hy with h|h
  ·exact fun e=>hc.lay.nu k y h (.inr e)
  ·exact fun e=>hc.lay.cS k y h (.inr e))
 have hwg':WgAt S.ty S.Wg (w.setChan S.Ch S.n (buf.push (int i64 i)) false (s+1) q false) st sm:=by unfold WgAt at *;rw[s1 _ hS.wc];exact hwg
 have hl:WgLive S.ty S.Wg (w.setChan S.Ch S.n (buf.push (int i64 i)) false (s+1) q false):=⟨_,_,hwg'⟩
 have iR:rY S j (upd pre i 1) (w.setChan S.Ch S.n (buf.push (int i64 i)) false (s+1) q false):=by
  refine⟨_,_,_,s3 hcl,?_⟩
  have e1:=YH.map fun(k:Nat)=>int i64 k
  rw[Array.toList_push]
  exact(List.perm_append_singleton _ _).trans ((hperm.cons _).trans (by simpa using e1.symm))
 have hv1:S.V1 i (bx i) (w.setChan S.Ch S.n (buf.push (int i64 i)) false (s+1) q false):=⟨⟨hl,fun y o hb=>by rw[hkp 0 y (.inr (by rw[hc.c0];simp[Site.Cb,hb]))];exact hc.v0.tab y o hb,iR.chan,hc.v0.env⟩,by rw[hkp (i+1) _ (.inr (by rw[hc.ci i hi];exact .inr rfl))];exact hc.box i hi⟩
 have hW:=hafter _ (by rw[← hc.ci i hi];exact hkp (i+1)) hv1
 obtain⟨y,hy⟩:=rW hW
 have hu0:MemOp.ofEvents (i+1) g.frame.fn g.frame.place #[]=#[]:=by simp[ofEvents_eq]
 rw[hu0,Array.empty_append] at hgo
 have hmu:∀op∈#[({g:=i+1,fn:=g2.frame.fn,pos:=g2.frame.place,act:=.send S.Ch s }:MemOp),{g:=i+1,fn:=g2.frame.fn,pos:=g2.frame.place,act:=.sendDone S.Ch s }],op.g=i+1∧op.act.touch?=none∧(∀m,op.act≠.mark m):=by
  intro op hop
  simp only[List.mem_toArray,List.mem_cons,List.not_mem_nil,or_false] at hop
  rcases hop with rfl|rfl <;> exact⟨rfl,rfl,fun m e=>by cases e⟩
 have hcom:=hc.stepW (gs':=gs.setIfInBounds (i+1) (g2.finishComm S.P #[scase S.Ch (int i64 i) z] .send 0 undef false)) (O1:=O (i+1)) (p':=1) (s':=7) (m':=0) (d':=0)
  (u:=#[({g:=i+1,fn:=g2.frame.fn,pos:=g2.frame.place,act:=.send S.Ch s }:MemOp),{g:=i+1,fn:=g2.frame.fn,pos:=g2.frame.place,act:=.sendDone S.Ch s }]) hS hi (by simp[hc.size])
  (Array.getElem?_setIfInBounds_self_of_lt (by rw[hc.size];omega)) (fun k hk e y hy _=>by rw[Array.getElem?_setIfInBounds_ne zo];exact hy) (by rw[jU];exact hc.lay.grow (Nat.le_of_eq s2.symm)) (fun k _=>hkp k)
  (fun y hy=>hkp (i+1) y (.inr hy)) hl ⟨rfl,rfl,rfl⟩ iR (.p1 hy hW) (by rw[jU];exact hc.ct.appW hc.lay.apart zo zo fun op hop=>⟨(hmu op hop).1,fun x hx=>by rw[(hmu op hop).2.1] at hx;cases hx⟩)
  (oC hc.Py (Nat.le_of_eq s2.symm) fun op hop x hx=>by rw[(hmu op hop).2.1] at hx;cases hx) (fun op hop=>(hmu op hop).1) (fun op hop=>(hmu op hop).2.2 _) (qP fun op hop=>(hmu op hop).2.1)
  (by rw[Deaf_still t _ _ fun op hop=>⟨(hmu op hop).2.2 _,(hmu op hop).2.2 _⟩,hc.deafW i hi,hde]) zo
 rw[jU] at hcom
 have e4:=sumTo_upd pre 1 id hi
 have ev:(sumTo j fun q=>cnt (upd D i ⟨7,0,0⟩ q))=sumTo j fun q=>cnt (D q):=by
  have:=sumTo_upd D (⟨7,0,0⟩:WD) cnt hi
  have c1:cnt (D i)=1:=by simp[cnt,hst]
  have c2:cnt (⟨7,0,0⟩:WD)=1:=by simp[cnt]
  omega
 have es:(sumTo j fun q=>(upd D i ⟨7,0,0⟩ q).stage)=sumTo j fun q=>(D q).stage:=by
  have:=sumTo_upd D (⟨7,0,0⟩:WD) WD.stage hi
  simp only[hst] at this
  omega
 refine⟨_,_,mu S j (upd D i ⟨7,0,0⟩) tag b (upd pre i 1) (upd rk (i+1) y) f0,hgo,Dz ?_,_,_,sl,j,upd D i ⟨7,0,0⟩,tag,b,f0,d0,a,st,sm,O,C,bx,_,_,rfl,
  by rw[Array.getElem?_setIfInBounds_ne zo];exact ha,by rw[upd_ne rk _ zo];exact hm.keeps (by rw[← hc.c0];exact hkp 0) hl,hcom,hwg',by have:=hmode.same (i:=i) 0 0;rwa[hst] at this,rfl⟩
 show 2 * phi S.n (Vc j (upd D i ⟨7,0,0⟩)) tag+b+Ssum j (upd D i ⟨7,0,0⟩)+sumTo j (fun q=>upd pre i 1 q)<2 * phi S.n (Vc j D) tag+b+Ssum j D+sumTo j (fun q=>pre q)
 simp only[Vc,Ssum,id] at *
 rw[ev,es]
 omega
theorem dE(hS:S.Ok)(ha:gs[0]? =some a)(hm:iT S j (rk 0) tag b f0 d0 a w (O 0))(hc:Com S O C bx pre rk j gs w t D d0)(hwg:WgAt S.ty S.Wg w st sm)(hmode:ConcN.Mode j D tag st sm)
 {i:Nat}(hi:i<j){g:Goroutine}(hg:gs[i+1]? =some g)(hpre:pre i=2)(hx:(rk (i+1)).1=mg (S.C1 (bx i)) (S.V1 i (bx i)) false (S.K8 i (bx i)) g w (O (i+1)))(h:Wk S.P false (S.C1 (bx i)) (S.V1 i (bx i)) (S.K8 i (bx i)) g w (O (i+1)))
 (hst:(D i).stage=7)(hde:(D i).deaf=0):
 ∃m₁ ops μ',runT S.P (crowd gs w sl) (i+1)=(.next m₁,ops)∧yh S μ' (mu S j D tag b pre rk f0)∧Inv S μ' m₁ (t ++ ops):=by
 by_cases hK:S.K8 i (bx i) g w (O (i+1))
 ·rcases hK with⟨hb,hK⟩|⟨hb,hK⟩
  ·exact Tq hS ha hm hc hwg hmode hi hg hpre hb hK hst hde
  ·refine Gu hS ha hm hc hwg hmode hi hg zo ?_ hK hst hde
   obtain⟨buf,s,q,h1,h2⟩:=hc.sent
   refine⟨buf,s,q,h1,?_⟩
   have:((List.range j).filter fun k=>S.bit k && decide (upd pre i 0 k≤1))=(List.range j).filter fun k=>S.bit k && decide (pre k≤1):=List.filter_congr fun k _=>by
    by_cases e:k=i
    ·subst e;simp[hb]
    ·rw[upd_ne pre _ e]
   rw[this];exact h2
 ·obtain⟨h0,g2,w3,O2,es,y,r1,r2,r3,r4,r5⟩:=Ee h (hc.v1 hi) hK _ hx
  rw[← hc.ci i hi] at r2
  exact SI hS ha hm hc hwg hmode hi hg r1 r2 hst hde (by rw[hpre];exact .p2 r4 r3) r5
theorem stepWorker(hS:S.Ok)(ha:gs[0]? =some a)(hm:iT S j (rk 0) tag b f0 d0 a w (O 0))(hc:Com S O C bx pre rk j gs w t D d0)(hwg:WgAt S.ty S.Wg w st sm)(hmode:ConcN.Mode j D tag st sm)
 {i:Nat}(hi:i<j){g:Goroutine}(hg:gs[i+1]? =some g)(hrun:g.status=.running):
 ∃m₁ ops μ',runT S.P (crowd gs w sl) (i+1)=(.next m₁,ops)∧yh S μ' (mu S j D tag b pre rk f0)∧Inv S μ' m₁ (t ++ ops):=by
 obtain⟨g₁,hg₁,hs⟩:=hc.wk i hi
 obtain rfl:g=g₁:=by rw[hg] at hg₁;exact Option.some.inj hg₁
 generalize hst:(D i).stage=s at hs
 generalize hfu:(D i).fuel=m at hs
 generalize hde:(D i).deaf=dd at hs
 generalize hpre:pre i=p at hs
 cases hs with
 | p2 hx h=>exact dE hS ha hm hc hwg hmode hi hg hpre hx h hst hde
 | p1 hx h=>exact dC hS ha hm hc hwg hmode hi hg hpre hx h hst hde
 | r0 h1 h2=>exact Tp hS ha hm hc hwg hmode hi hg hpre h1 h2 hst hfu hde
 | late h6 h=>
   rcases h with h|h
   ·exact Gw S.pA (fun _ _ _ _ _ h=>.inl h) hS ha hm hc hwg hmode hi hg hrun hpre h h6 hst hfu hde
   ·exact Gw S.pB (fun _ _ _ _ _ h=>.inr h) hS ha hm hc hwg hmode hi hg hrun hpre h h6 hst hfu hde
end
section
variable{S:Site}{O C:Nat→Nat→Prop}{bx pre:Nat→Nat}{rk:Nat→Rank S.P}{j:Nat}{gs:Array Goroutine}{w w':World}{sl:Option (Nat × Nat)}{t:Trace}{D:Nat→WD}{tag:CTag}{b f0 d0:Nat}{a:Goroutine}{st sm:Int}
def Uz(S:Site)(m:Machine)(t:Trace):Prop:=
 ∃ (gs:Array Goroutine) (w:World) (sl:Option (Nat × Nat)) (D:Nat→WD) (a:Goroutine) (O C:Nat→Nat→Prop) (bx pre:Nat→Nat) (rk:Nat→Rank S.P),
   m=crowd gs w sl∧gs[0]? =some a∧S.Fin a∧Com S O C bx pre rk S.n gs w t D 0∧WgAt S.ty S.Wg w 0 0∧AllQuit S.n D∧AcqAll S.Wg S.n t∧O 0=lU
def gY(S:Site)(μ:uE S)(t:Trace)(r:Stepped × Array MemOp):Prop:=∃m₁ ops,r=(.next m₁,ops)∧(Uz S m₁ (t ++ ops)∨∃μ',yh S μ' μ∧Inv S μ' m₁ (t ++ ops))
theorem EI(hS:S.Ok)(ha:gs[0]? =some a)(hc:Com S O C bx pre rk j gs w t D d0){a':Goroutine}{es:Array Event}{O1:Nat→Prop}{x':Rank S.P}{tag':CTag}{b' f':Nat}{st' sm':Int}
 (hgo:stepG S.P true a w=.go a' w' es)(iY:Lay (qJ O 0 O1) C S.Sh w')(hk:∀k,k≠0→Keeps (C k) (O k) w w')(bm:∀q,C 0 q→w'.heap[q]? =w.heap[q]?)(FC:Ai w w')(iR:rY S j pre w')
 (hct:CT (In S.Sh) (gX O) (Cw C) (t ++ MemOp.ofEvents 0 a.frame.fn a.frame.place es) j)(yH:Pm (t ++ MemOp.ofEvents 0 a.frame.fn a.frame.place es) w')(Di:Ml S (MemOp.ofEvents 0 a.frame.fn a.frame.place es))(hnr:∀e∈es,e.loc≠.mark (.release (stA S.Wg)))
 (hm':iT S j x' tag' b' f' (deafBehind d0 es) a' w' O1)(hwg:WgAt S.ty S.Wg w' st' sm')(hmode:ConcN.Mode j D tag' st' sm')
 (hlt:2 * phi S.n (Vc j D) tag'+b'<2 * phi S.n (Vc j D) tag+b∨(2 * phi S.n (Vc j D) tag'+b'=2 * phi S.n (Vc j D) tag+b∧(kM S.P x' (rk 0)∨(x'=rk 0∧f'<f0)))):
 gY S (mu S j D tag b pre rk f0) t (runT S.P (crowd gs w sl) 0):=by
 have hrun:=runT_crowd_go (P:=S.P) (sl:=sl) (i:=0) ha (by simpa using hgo)
 have hcom:=hc.step0 (gs':=(gs.map (woken S.P a a' w')).setIfInBounds 0 a') (u:=MemOp.ofEvents 0 a.frame.fn a.frame.place es) (x':=x') hS (by simp[hc.size])
  (fun k hk' y hy hst=>by
   rw[get_map_set _ _ _ _ zo,hy,Option.map_some]
   congr 1
   unfold Go.Conc.woken
   split
   ·exact again_running _ hst
   ·rfl) iY hk bm ⟨_,_,hwg⟩ FC iR hct yH g_of_ofEvents (norel_of hnr) Di (by rw[Deaf_own,hc.deaf0])
 refine⟨_,_,hrun,.inr ⟨mu S j D tag' b' pre (upd rk 0 x') f',?_,_,w',sl,j,D,tag',b',f',_,a',st',sm',_,C,bx,pre,_,rfl,get_map_set_same _ _ _ (by rw[hc.size];omega),by rw[upd_same,bI];exact hm',hcom,hwg,hmode,rfl⟩⟩
 rcases hlt with h|⟨h1,h2⟩
 ·refine Prod.Lex.left _ _ ?_
  omega
 ·unfold mu
  rw[h1]
  refine Prod.Lex.right _ ?_
  rcases h2 with h2|⟨h2,h3⟩
  ·exact Prod.Lex.left _ _ ⟨0,zo,by rw[upd_same];exact h2,fun k hk'=>upd_ne rk _ hk'⟩
  ·rw[h2,tC]
   exact Prod.Lex.right _ zo
theorem Gf(hS:S.Ok)(ha:gs[0]? =some a)(hc:Com S O C bx pre rk j gs w t D d0)(hwg:WgAt S.ty S.Wg w st sm)(hmode:ConcN.Mode j D tag st sm)
 {a':Goroutine}{es:Array Event}{O1:Nat→Prop}{x':Rank S.P}(hgo:stepG S.P true a w=.go a' w' es)(d:Did (C 0) (O 0) O1 w w' es.toList)(hd:d0=0)
 (hm':iT S j x' tag b f0 0 a' w' O1)(hr:kM S.P x' (rk 0)):gY S (mu S j D tag b pre rk f0) t (runT S.P (crowd gs w sl) 0):=by
 subst hd
 have hev:∀e∈es,PG O1 (C 0) e:=fun e he=>d.evs e (by simpa using he)
 have iY:=hc.lay.did d
 have hbW:w'.heap[S.Wg]? =w.heap[S.Wg]?:=hc.lay.shared d (.inl rfl)
 have hdf:deafBehind 0 es=0:=deafBehind_idle (fun e he=>⟨(jv (hev e he)).1,(jv (hev e he)).2.1⟩) 0
 have o0:∀k,1≤k→qJ O 0 O1 k=O k:=fun k hk=>dR O O1 zo
 refine EI hS ha hc hgo iY (fun k hk=>hc.lay.keeps d hk) (fun q hq=>hc.lay.common d hq) ⟨d.os,d.output,d.tape⟩ (hc.sent.congr (hc.lay.shared d (.inr rfl)) fun _ _=>Iff.rfl) (hc.ct.app0 hc.lay.apart fun op hop=>?_) (Mh hc.lay d hc.Py _ _) (KP hev _ _)
  (fun e he=>(jv (hev e he)).2.2 _) (by rw[hdf];exact hm') (by unfold WgAt at *;rw[hbW];exact hwg) hmode (.inr ⟨rfl,.inl hr⟩)
 obtain⟨e,he,rfl⟩:=mem_ofEvents hop
 refine JK (hc.lay.grow d.size) (hev e he) (fun q hq=>⟨fun k hk=>⟨fun h=>?_,fun h=>?_⟩,fun h=>?_⟩) (fun q hq=>⟨fun k hk h=>?_,fun h=>?_⟩) _ _
 ·have:=iY.own 0 k q (by rw[bI];exact hq) (by rw[o0 k hk];exact h);omega
 ·exact iY.oJ 0 k q (by rw[bI];exact hq) h
 ·exact iY.nu 0 q (by rw[bI];exact hq) h
 ·exact hc.lay.oJ k 0 q h hq
 ·exact hc.lay.cS 0 q hq h
theorem iN(hS:S.Ok)(ha:gs[0]? =some a)(hc:Com S O C bx pre rk j gs w t D d0)
 {a':Goroutine}{es:Array Event}{tag':CTag}{b' f':Nat}{st' sm':Int}(hgo:stepG S.P true a w=.go a' w' es)(hAs:Aside S.Wg w w')(hwg:WgAt S.ty S.Wg w' st' sm')
 (hev:∀e∈es,∀x,(MemAct.ofEvent e).touch?=some x→ShN S.Wg x.loc∧x.kind≠.plain)(hnr:∀e∈es,e.loc≠.mark (.release (stA S.Wg)))
 (hm':iT S j (rk 0) tag' b' f' (deafBehind d0 es) a' w' (O 0))(hmode:ConcN.Mode j D tag' st' sm')
 (hlt:2 * phi S.n (Vc j D) tag'+b'<2 * phi S.n (Vc j D) tag+b∨(2 * phi S.n (Vc j D) tag'+b'=2 * phi S.n (Vc j D) tag+b∧f'<f0)):
 gY S (mu S j D tag b pre rk f0) t (runT S.P (crowd gs w sl) 0):=by
 have hkp:∀k,Keeps (C k) (O k) w w':=fun k q hq=>hAs.block q (by
  rcases hq with h|h
  ·exact fun e=>hc.lay.nu k q h (.inl e)
  ·exact fun e=>hc.lay.cS k q h (.inl e))
 refine EI (O1:=O 0) (x':=rk 0) hS ha hc hgo (by rw[jU];exact hc.lay.grow (Nat.le_of_eq hAs.size.symm)) (fun k _=>hkp k) (fun q hq=>hkp 0 q (.inr hq)) ⟨hAs.os,hAs.output,hAs.tape⟩ (hc.sent.congr (hAs.block _ (Ne.symm hS.wc)) fun _ _=>Iff.rfl)
  (hc.ct.app0 hc.lay.apart fun op hop=>?_) (oC hc.Py (Nat.le_of_eq hAs.size.symm) fun op hop x hx q hq=>?_) (QD (fun e he x hx=>(hev e he x hx).1) _ _) hnr hm' hwg hmode ?_
 ·obtain⟨e,he,rfl⟩:=mem_ofEvents hop
  refine⟨rfl,fun x hx=>.inl ?_⟩
  obtain⟨⟨q,h1,h2⟩,h3⟩:=hev e he x hx
  exact⟨by rw[h1];exact .inl h2,h3⟩
 ·obtain⟨e,he,rfl⟩:=mem_ofEvents hop
  obtain⟨⟨ad,h1,h2⟩,_⟩:=hev e he x hx
  rw[h1] at hq
  simp only[In] at hq
  have:=hc.lay.LD S.Wg (.inl rfl)
  have:=hAs.size
  omega
 ·rcases hlt with h|⟨h1,h2⟩
  ·exact .inl h
  ·exact .inr ⟨h1,.inr ⟨rfl,h2⟩⟩
theorem Da{es:Array Event}(h:∀e∈es,Bk S.Wg e):∀e∈es,∀x,(MemAct.ofEvent e).touch?=some x→ShN S.Wg x.loc∧x.kind≠.plain:=fun e he x hx=>⟨(vV h e he x hx).1,(vV h e he x hx).2.1⟩
theorem E9{m:Mark}(h:∀x,(MemAct.ofEvent ⟨.mark m,false,true⟩).touch?=some x→ShN S.Wg x.loc∧x.kind≠.plain):∀e∈#[(⟨.mark m,false,true⟩:Event)],∀x,(MemAct.ofEvent e).touch?=some x→ShN S.Wg x.loc∧x.kind≠.plain:=by
 intro e he;simp at he;subst he;exact h
theorem ae:∀x,(MemAct.ofEvent ⟨.mark (.read ⟨S.Wg,1,none⟩),false,true⟩).touch?=some x→ShN S.Wg x.loc∧x.kind≠.plain:=by
 intro x hx
 simp[MemAct.ofEvent,MemAct.touch?] at hx
 subst hx
 exact⟨⟨_,rfl,rfl⟩,zs⟩
theorem ai:∀x,(MemAct.ofEvent ⟨.mark (.write ⟨S.Wg,1,none⟩),false,true⟩).touch?=some x→ShN S.Wg x.loc∧x.kind≠.plain:=by
 intro x hx
 simp[MemAct.ofEvent,MemAct.touch?] at hx
 subst hx
 exact⟨⟨_,rfl,rfl⟩,zs⟩
end
end
end Go.aO
