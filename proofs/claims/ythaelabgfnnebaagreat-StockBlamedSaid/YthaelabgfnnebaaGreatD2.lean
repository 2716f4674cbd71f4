/- Far14 Far15 Far16 Far17 Far18 Far19 -/
import Derived.Test.YthaelabgfnnebaaGreatD1
import Derived.Test.YthaelabgfnnebaaGreatC6
set_option maxRecDepth 100000
set_option maxHeartbeats 16000000
set_option linter.unusedVariables false
set_option linter.unusedSectionVars false
open Go.IntKind(i64)
open Go.Value(int)
namespace Go.dS
section
open Go.Conc Go.ConcN Go.aO
open Go.ConcR (g_of_ofEvents)
variable[Inhabited cu.aV]{P:Program}{Z:Env}
section
variable{Shun:Loc→Prop}{t u:Trace}
theorem Bq(h:After Shun t)(hS:∀l,Shun l→¬ EX Z l)(hu:∀op∈u,VH Z op):After Shun (t ++ u):=by
 have h0:∀op∈u,op.g=0:=fun op hop=>(hu op hop).1
 refine⟨fun said=>noRace_append (h.clean said) h0 fun i a ha op hop x hx hc=>?_,fun i a ha hm=>?_,handedOver_app h.over fun op hop=>.inl (h0 op hop),?_⟩
 ·rcases h.known i a ha hc.2.1 with hk|⟨h1,h2⟩
  ·exact hk
  ·exact absurd ((hu op hop).2.2.1 x hx) (hS _ (hc.1 ▸ h1))
 ·obtain⟨op,hop,hx⟩:=touch_of ha
  rcases getElem?_append_cases hop with⟨hi,hop'⟩|⟨_,hopu⟩
  ·rcases h.known i a (by rw[touchAt_of hop'];exact hx) hm with hk|hk
   ·exact .inl (hk.app _)
   ·exact .inr hk
  ·have:=knows_own hop
   rw[h0 op hopu] at this
   exact .inl this
 ·rw[Deaf_still t 0 u fun op hop=>(hu op hop).2.1];exact h.hears
end
theorem OM{gs:Array Goroutine}{t:Trace}{q:Nat→Nat}(h:Leavers P t gs q):kR gs:=fun i g hi hg=>(h.old i g hi hg).status
theorem sM{gs:Array Goroutine}{a:Goroutine}{t:Trace}{q:Nat→Nat}(h0:gs[0]? =some a)(hrun:a.status=.running)(h:Leavers P t gs q):∀g∈gs,awake g:=by
 intro g hg
 obtain⟨i,hi⟩:=Array.mem_iff_getElem?.1 hg
 rcases Nat.eq_zero_or_pos i with rfl|hpos
 ·rw[h0] at hi;cases hi;exact awake_of (.inl hrun)
 ·exact awake_of ((h.old i g hpos hi).status.elim .inl fun x=>.inr (.inr x))
theorem nM{gs:Array Goroutine}{a:Goroutine}{t:Trace}{q:Nat→Nat}{Shun:Loc→Prop}{w:World}{sl:Option (Nat × Nat)}(h0:gs[0]? =some a)(hrun:a.status=.running)(hL:Leavers P t gs q)(hA:After Shun t)
 {i:Nat}{g:Goroutine}(hi:gs[i]? =some g)(hg:g.status=.running)(hpos:0<i):
 ∃gs' ops q',runT P (crowd gs w sl) i=(.next (crowd gs' w sl),ops)∧gs'.size=gs.size∧gs'[0]? =some a∧Leavers P (t ++ ops) gs' q'∧After Shun (t ++ ops)∧sumTo gs.size q'<sumTo gs.size q:=by
 have hq:=hL.old i g hpos hi
 have hi0:(i == 0)=false:=zm
 have hlt:i<gs.size:=(Array.getElem?_eq_some_iff.1 hi).1
 cases hqi:q i with
 | zero=>rw[hqi] at hq;rw[hq.1] at hg;cases hg
 | succ k=>
   rw[hqi] at hq
   rcases hq with⟨hf,_⟩|⟨_,g',es,hm,hstp,hq'⟩
   ·rw[hf] at hg;cases hg
   have hr:=runT_crowd_go (P:=P) (w:=w) (sl:=sl) (i:=i) hi (by rw[hi0];exact hstp w)
   have hsum:sumTo gs.size (upd q i k)+(k+1)=sumTo gs.size q+k:=by
    have:=sumTo_upd q k id hlt
    simpa [hqi] using this
   refine⟨_,_,upd q i k,hr,zs,?_,⟨fun j x hj hx=>?_,fun j hj=>?_⟩,hA.mute zo hm,?_⟩
   ·rw[Array.getElem?_setIfInBounds_ne zo,Array.getElem?_map,h0]
    simp[woken_run hrun]
   ·by_cases e:i=j
    ·subst e
     rw[Array.getElem?_setIfInBounds_self_of_lt (by simpa using hlt)] at hx
     cases hx
     rw[upd_same,Deaf_own]
     exact hq'
    ·rw[Array.getElem?_setIfInBounds_ne e,Array.getElem?_map] at hx
     obtain⟨y,hy,rfl⟩:=Option.map_eq_some_iff.1 hx
     have hqj:=hL.old j y hj hy
     rw[woken_quitsD hqj,upd_ne q k (Ne.symm e),Deaf_other t e _ g_of_ofEvents]
     exact hqj
   ·rw[Deaf_other t (g':=i) (by simp at hj;omega) _ g_of_ofEvents]
    exact hL.above j (by simpa using hj)
   ·omega
section
variable{Fc:Fence}{St:Frame→List Frame→Prop}{Post:Pt→Prop}{Shun:Loc→Prop}
theorem KX(S:jZ P Fc.fn Z)(hal:Fc.alive=true)(hS:∀l,Shun l→¬ EX Z l){K:Nat→Option Obj}{s0:Pt}(H:∀σ:Tape,Way P Fc St Post (s0.on σ)):
 ∀ (b:Pt),Acc (lC P Fc Z St) b→b.Ok P Fc.fn Z→Q8 P Fc Z St s0 b→∀ (M:Nat) (gs:Array Goroutine) (v:World) (sl:Option (Nat × Nat)) (t:Trace) (q:Nat→Nat),sumTo gs.size q=M→gs[0]? =some (G b.fr b.cs)→oN Z K b.w v→Leavers P t gs q→After Shun t→
   ∃ (N:Nat) (gs':Array Goroutine) (b':Pt) (v':World) (sl':Option (Nat × Nat)) (t':Trace) (q':Nat→Nat),
     runNT P N (crowd gs v sl) t=(.next (crowd gs' v' sl'),t')∧gs'.size=gs.size∧gs'[0]? =some (G b'.fr b'.cs)∧St b'.fr b'.cs∧Post b'∧b'.Ok P Fc.fn Z∧oN Z K b'.w v'∧Leavers P t' gs' q'∧After Shun t':=by
 intro b hacc
 induction hacc with
 | intro b _ ihb=>
   intro ok hR M
   induction M using Nat.strongRecOn with
   | _ M ihM=>
     intro gs v sl t q hM h0 jN hL hA
     by_cases hst:St b.fr b.cs
     ·have hw:=yI S hal H hR b.w.tape fun _ _=>rfl
      rcases hw.first S hal (ok.on _) with⟨_,hp⟩|⟨h1,_⟩
      ·exact⟨0,gs,b,v,sl,t,q,rfl,rfl,h0,hst,hp,ok,jN,hL,hA⟩
      ·exact absurd hst h1
     obtain⟨i,g,d,sl',hi,hg,hpick⟩:=crowd_pick (P:=P) (w:=v) (sl:=sl) (sM h0 rfl hL) ⟨0,_,h0,rfl⟩
     rcases Nat.eq_zero_or_pos i with rfl|hpos
     ·let σ:Tape:=fun j=>if j<b.w.drawn then b.w.tape j else(v.at d).tape ((v.at d).drawn+(j - b.w.drawn))
      have hσ:∀j,j<b.w.drawn→σ j=b.w.tape j:=fun j hj=>if_pos hj
      rcases(yI S hal H hR σ hσ).first S hal (ok.on σ) with⟨h1,_⟩|⟨_,b',hstp,hn,hw⟩
      ·exact absurd h1 hst
      have hs:lC P Fc Z St b' b:=⟨ok,hst,σ,hσ,hstp,hn⟩
      obtain⟨hb',ht,n,hd,hc⟩:=hn
      obtain⟨gs2,v2,ops,e,hsz,hz,hrest,s2,d2,t2,hops⟩:=hc gs (v.at d) sl' h0 (OM hL) ⟨jN.size,jN.same,jN.os,jN.output,jN.kept⟩ (fun k hk z=>by
       show(v.at d).tape ((v.at d).drawn+k) z=σ (b.w.drawn+k) z
       simp only[σ]
       rw[if_neg zo,Nat.add_sub_cancel_left])
      have hL2:Leavers P (t ++ ops) gs2 q:=⟨fun j x hj hx=>by
       rw[hrest j hj] at hx
       rw[Deaf_other t (g:=j) (g':=0) zo _ fun op hop=>(hops op hop).1]
       exact hL.old j x hj hx,fun j hj=>by
       have hpos:0<gs2.size:=(Array.getElem?_eq_some_iff.1 hz).1
       rw[Deaf_other t (g:=j) (g':=0) zo _ fun op hop=>(hops op hop).1]
       exact hL.above j zo⟩
      obtain⟨N,gs',b2,v',sl2,t',q',hr,x1,x2,x3,x4,x5,x6,x7,x8⟩:=ihb b' hs hb' (.step hR hs) _ gs2 v2 sl' (t ++ ops) q rfl hz s2 hL2 (Bq hA hS hops)
      exact⟨N+1,gs',b2,v',sl2,t',q',by simp only[runNT,hpick,e];exact hr,x1.trans hsz,x2,x3,x4,x5,x6,x7,x8⟩
     ·obtain⟨gs2,ops,q2,e,hsz,hz,hL2,hA2,hlt⟩:=nM (w:=v.at d) (sl:=sl') h0 rfl hL hA hi hg hpos
      obtain⟨N,gs',b2,v',sl2,t',q',hr,x1,x2,x3,x4,x5,x6,x7,x8⟩:=ihM _ (by rw[hsz];omega) gs2 (v.at d) sl' (t ++ ops) q2 rfl hz ⟨jN.size,jN.same,jN.os,jN.output,jN.kept⟩ hL2 hA2
      exact⟨N+1,gs',b2,v',sl2,t',q',by simp only[runNT,hpick,e];exact hr,x1.trans hsz,x2,x3,x4,x5,x6,x7,x8⟩
end
theorem JB{Shun:Loc→Prop}{Post:Value→World→Prop}{a:Goroutine}(hrun:a.status=.running)(hS:∀l,Shun l→¬ EX Z l){v:World}(hend:∀d,∃r es,stepG P true a (v.at d)=.ended (.done r) (v.at d) es∧(∀e∈es,EU Z e)∧Post r (v.at d)):
 ∀ (M d0:Nat) (gs:Array Goroutine) (sl:Option (Nat × Nat)) (t:Trace) (q:Nat→Nat),sumTo gs.size q=M→gs[0]? =some a→Leavers P t gs q→After Shun t→
   ∃N last o w' t',runNT P (N+1) (crowd gs (v.at d0) sl) t=(.ended o w',t')∧runN P N (crowd gs (v.at d0) sl)=.next last∧step P last=.ended o w'∧Good P Post last o w' t':=by
 intro M
 induction M using Nat.strongRecOn with
 | _ M ih=>
   intro d0 gs sl t q hM h0 hL hA
   obtain⟨i,g,d,sl',hi,hg,hpick⟩:=crowd_pick (P:=P) (w:=v.at d0) (sl:=sl) (sM h0 hrun hL) ⟨0,_,h0,hrun⟩
   rcases Nat.eq_zero_or_pos i with rfl|hpos
   ·obtain rfl:g=a:=by rw[h0] at hi;exact(Option.some.inj hi).symm
    obtain⟨r,es,he,hes,hpost⟩:=hend d
    have he':stepG P (0 == 0) g ((v.at d0).at d)=.ended (.done r) (v.at d) es:=he
    have e:=runT_many_ended (sl:=sl') hi he'
    have hA':After Shun (t ++ MemOp.ofEvents 0 g.frame.fn g.frame.place es):=Bq hA hS (jR hes)
    have hst:stepT P (crowd gs (v.at d0) sl)=(.ended (.done r) (v.at d),MemOp.ofEvents 0 g.frame.fn g.frame.place es):=hpick.trans e
    refine⟨0,crowd gs (v.at d0) sl,.done r,v.at d,t ++ MemOp.ofEvents 0 g.frame.fn g.frame.place es,by simp only[runNT,hst],rfl,by rw[step,hst],r,rfl,hpost,hA'.clean,hA'.over,⟨fun x hx=>?_,rfl⟩,fun j x hx hj=>?_⟩
    ·obtain⟨k,hk⟩:=List.mem_iff_getElem?.1 hx
     rw[List.getElem?_drop] at hk
     exact⟨_,(hL.old (1+k) x zo (by simpa [crowd] using hk)).leaves⟩
    ·refine⟨q j,?_⟩
     have e2:(t ++ MemOp.ofEvents 0 g.frame.fn g.frame.place es).deaf j (t ++ MemOp.ofEvents 0 g.frame.fn g.frame.place es).size=Deaf t j:=Deaf_other t (g:=j) (g':=0) zo _ g_of_ofEvents
     rw[e2]
     exact(hL.old j x zo hx).hears _
   ·obtain⟨gs2,ops,q2,e,hsz,hz,hL2,hA2,hlt⟩:=nM (w:=v.at d) (sl:=sl') h0 hrun hL hA hi hg hpos
    obtain⟨N,last,o,w',t',h1,h2,h3,h4⟩:=ih _ (by rw[hsz];omega) d gs2 sl' (t ++ ops) q2 rfl hz hL2 hA2
    have hst:stepT P (crowd gs (v.at d0) sl)=(.next (crowd gs2 (v.at d) sl'),ops):=hpick.trans e
    refine⟨N+1,last,o,w',t',by rw[runNT];simp only[hst];exact h1,?_,h3,h4⟩
    rw[← runNT_fst P _ _ t]
    simp only[runNT,hst]
    rw[runNT_fst];exact h2
end
section
open Go.Conc Go.ConcN Go.aO Go.Conc.Lib
open Go.ConcR (g_of_ofEvents WgAt stA DC0)
variable[Inhabited cu.aV]
section
variable{P:Program}{L:WgLink}{Wg:Nat}{Shun:Loc→Prop}{R:Goroutine}
theorem Gm{w:World}(hl:WgLive L.tWg Wg w):∀ (M m d0:Nat) (a:Goroutine) (gs:Array Goroutine) (sl:Option (Nat × Nat)) (t:Trace) (q:Nat→Nat),m+sumTo gs.size q≤M→gH P L Wg (fun g _=>g=R) m a w→gs[0]? =some a→Leavers P t gs q→After Shun t→
 ∃N gs' d sl' t' q',runNT P N (crowd gs (w.at d0) sl) t=(.next (crowd gs' (w.at d) sl'),t')∧gs'.size=gs.size∧gs'[0]? =some R∧Leavers P t' gs' q'∧After Shun t':=by
 intro M
 induction M with
 | zero=>
   intro m d0 a gs sl t q hM hG h0 hL hA
   obtain rfl:m=0:=zo
   have e:a=R:=hG w fun x=>x
   subst e
   exact⟨0,gs,d0,sl,t,q,rfl,rfl,h0,hL,hA⟩
 | succ M ih=>
   intro m d0 a gs sl t q hM hG h0 hL hA
   have stop:(∀w₁,uC L Wg w w₁→a=R)→∃N gs' d sl' t' q',runNT P N (crowd gs (w.at d0) sl) t=(.next (crowd gs' (w.at d) sl'),t')∧gs'.size=gs.size∧gs'[0]? =some R∧Leavers P t' gs' q'∧After Shun t':=fun h=>by
    have e:a=R:=h w fun x=>x
    subst e
    exact⟨0,gs,d0,sl,t,q,rfl,rfl,h0,hL,hA⟩
   cases m with
   | zero=>exact stop hG
   | succ m=>
     have hG0:=hG
     rcases hG with hG|⟨hrun,hG⟩
     ·exact stop hG
     obtain⟨i,g,d,sl',hi,hg,hpick⟩:=crowd_pick (P:=P) (w:=w.at d0) (sl:=sl) (sM h0 hrun hL) ⟨0,_,h0,hrun⟩
     have hpick':stepT P (crowd gs (w.at d0) sl)=runT P (crowd gs (w.at d) sl') i:=hpick
     rcases Nat.eq_zero_or_pos i with rfl|hpos
     ·obtain rfl:g=a:=by rw[h0] at hi;exact(Option.some.inj hi).symm
      have hs:=hG (w.at d) fun x=>x
      cases hgo:stepG P true g (w.at d) with
      | go a' w' es=>
        rw[hgo,goes_go] at hs
        obtain⟨⟨rfl,rfl⟩,hG'⟩:=hs
        have e:=runT_crowd_go (P:=P) (sl:=sl') (i:=0) hi (show stepG P (0 == 0) g (w.at d)=_ from hgo)
        have hlt:0<gs.size:=(Array.getElem?_eq_some_iff.1 h0).1
        have hsz:((gs.map (woken P g a' (w.at d))).setIfInBounds 0 a').size=gs.size:=zs
        obtain⟨N,gs',d',sl2,t',q',hr,x1,x2,x3,x4⟩:=ih m d a' ((gs.map (woken P g a' (w.at d))).setIfInBounds 0 a') sl' (t ++ MemOp.ofEvents 0 g.frame.fn g.frame.place #[]) q (by rw[hsz];omega) (fD hG' hl) (by simp[hlt])
         ⟨fun j x hj hx=>by
          have hne:0≠j:=zo
          rw[Array.getElem?_setIfInBounds_ne hne,Array.getElem?_map] at hx
          obtain⟨y,hy,rfl⟩:=Option.map_eq_some_iff.1 hx
          have hq:=hL.old j y hj hy
          rw[woken_quitsD hq,Deaf_other t (g':=0) zo _ g_of_ofEvents]
          exact hq,fun j hj=>by
          rw[Deaf_other t (g':=0) (by simp at hj;omega) _ g_of_ofEvents]
          exact hL.above j (by simpa using hj)⟩ (hA.own zs zs)
        exact⟨N+1,gs',d',sl2,t',q',by simp only[runNT,hpick',e];exact hr,x1.trans hsz,x2,x3,x4⟩
      | _=>rw[hgo] at hs;exact hs.elim
     ·obtain⟨gs2,ops,q2,e,hsz,hz,hL2,hA2,hlt⟩:=nM (w:=w.at d) (sl:=sl') h0 hrun hL hA hi hg hpos
      obtain⟨N,gs',d',sl2,t',q',hr,x1,x2,x3,x4⟩:=ih (m+1) d a gs2 sl' (t ++ ops) q2 (by rw[hsz];omega) hG0 hz hL2 hA2
      exact⟨N+1,gs',d',sl2,t',q',by simp only[runNT,hpick',e];exact hr,x1.trans hsz,x2,x3,x4⟩
end
section
variable{S:Site}{O C:Nat→Nat→Prop}{w:World}{t:Trace}{a:Goroutine}
theorem Oj(jf:Lay O C S.Sh w)(h0:O 0=lX)(c0:C 0=S.Cb)(z:∀k b,0<k→¬ O k b∧¬ C k b)(hv:S.V0 w)(hwg:WgAt S.ty S.Wg w 0 0)(hch:∃s q,w.heap[S.Ch]? =some (.chan S.n #[] false s q false))
 (hct:CT (cu.In S.Sh) (aO.gY O) (aO.Dk C) t 0)(Ai:cu.Qh t w)(hnr:NoRelease (stA S.Wg) t)(hd:Deaf t 0=0)(DW:MZ S t)(h:S.Sp S.n a w)(sl:Option (Nat × Nat)):∃μ,Inv S μ (crowd #[a] w sl) t:=by
 obtain⟨s,q,hch⟩:=hch
 have hcom:∀rk:Nat→Rank S.P,Com S O C (fun _=>0) (fun _=>0) rk 0 #[a] w t (fun _=>⟨0,0,0⟩) 0:=fun rk=>
  ⟨rfl,jf,c0,fun i hi=>zo,z,hv,fun i hi=>zo,fun i hi=>zo,hct,Ai,hnr,hd,fun i hi=>zo,fun i hi=>zo,⟨#[],s,q,hch,zs⟩,DW⟩
 have hmode:∀tag,isOpen tag→pend tag=0→(∀vs,tag≠.w2 vs)→ConcN.Mode 0 (fun _=>(⟨0,0,0⟩:WD)) tag 0 0:=fun tag h1 h2 h3=>by
  have:=ConcN.Mode.opn (j:=0) (D:=fun _=>(⟨0,0,0⟩:WD)) h1 (fun i hi=>zo) (fun vs e=>absurd e (h3 vs))
  simpa [Vc,sumTo,h2] using this
 generalize hn:S.n=n at h
 cases n with
 | zero=>
   obtain⟨m,hk⟩:=h
   obtain⟨x⟩:Nonempty (Rank S.P):=⟨⟨mq (fun _=>False) (fun _=>True) true (fun _ _ _=>True) a w lX,EJ (.stop fun _ _ _=>trivial)⟩⟩
   exact⟨_,#[a],w,sl,0,_,.kd,0,m,0,a,0,0,O,C,_,_,fun _=>x,rfl,rfl,by rw[h0];exact .kd hn.symm hk,hcom _,hwg,hmode .kd trivial rfl zs,rfl⟩
 | succ r=>
   have hk:cu.Wk S.P true S.Cb S.V0 (S.yX (S.n - (r+1)) (S.Sp r)) a w lX:=h
   rw[show S.n - (r+1)=0 by omega] at hk
   obtain⟨x,hx⟩:=sF hk
   exact⟨_,#[a],w,sl,0,_,.sp r 5,0,0,0,a,0,0,O,C,_,_,fun _=>x,rfl,rfl,by rw[h0];exact .skd zo hx hk,hcom _,hwg,hmode (.sp r 5) trivial rfl zs,rfl⟩
end
def Dead'(S:Site)(jh:FuncId→Code→Prop)(Z0:Nat→Prop)(w:World):Env:=⟨fun q=>(¬ S.Cb q∨Z0 q)∧q≠S.Ch∧q<w.heap.size,jh⟩
theorem NG{S:Site}{jh:FuncId→Code→Prop}{Z0:Nat→Prop}{Fc:Fence}{St:Frame→List Frame→Prop}{Post:Pt→Prop}{PV:Value→World→Prop}{Rs:Goroutine→Prop}(hal:Fc.alive=true)(hS:S.Ok)(hfin:∀g,S.Fin g→∃R,Rs R∧Vq S.P S.L S.Wg R g)
 (qS:∀R,Rs R→∀ (w:World) (buf:Array Value) (s z:Nat),S.V0 w→w.heap[S.Ch]? =some (.chan S.n buf false s z false)→buf.toList.Perm (((List.range S.n).filter S.bit).map fun(i:Nat)=>int i64 i)→Dead' S jh Z0 w S.Wg→
  ∃s0:Pt,G s0.fr s0.cs=R∧jZ S.P Fc.fn (Dead' S jh Z0 w)∧s0.Ok S.P Fc.fn (Dead' S jh Z0 w)∧oN (Dead' S jh Z0 w) (fun q=>w.heap[q]?) s0.w w∧(∀σ:Tape,Way S.P Fc St Post (s0.on σ))∧
   ∀ (b:Pt) (v:World),St b.fr b.cs→Post b→b.Ok S.P Fc.fn (Dead' S jh Z0 w)→oN (Dead' S jh Z0 w) (fun q=>w.heap[q]?) b.w v→∃r es,stepG S.P true (G b.fr b.cs) v=.ended (.done r) v es∧(∀e∈es,EU (Dead' S jh Z0 w) e)∧PV r v)
 {μ:uT S}{m:Machine}{t:Trace}(hI:Inv S μ m t):
 ∃N last o w' t',runNT S.P (N+1) m t=(.ended o w',t')∧runN S.P N m=.next last∧step S.P last=.ended o w'∧Good S.P PV last o w' t':=by
 obtain⟨N1,m1,t1,r1,hE⟩:=NH hS μ m t hI
 obtain⟨gs,w,sl,q,a,O,C,pre,rfl,h0,hf,hL,hA,hwl,hv,jf,_,hC,Ai,buf,s,z,hch,hperm⟩:=hE.after
 obtain⟨R,hR0,hfin⟩:=hfin a hf
 obtain⟨mm,hG⟩:=hfin w hwl
 obtain⟨N2,gs2,d,sl2,t2,q2,r2,hsz2,h02,hL2,hA2⟩:=Gm hwl _ mm w.drawn a gs sl t1 q (Nat.le_refl _) hG h0 hL hA
 have r2':runNT S.P N2 (crowd gs w sl) t1=(.next (crowd gs2 (w.at d) sl2),t2):=r2
 have Sd:Dead' S jh Z0 (w.at d) S.Wg:=And.intro (.inl fun h=>jf.cS 0 _ (by rw[hC];exact h) (.inl rfl)) (And.intro hS.wc (jf.Mh _ (.inl rfl)))
 obtain⟨s0,hR,hset,hok,jN,SK,hend⟩:=qS R hR0 (w.at d) buf s z ⟨hv.live,hv.tab,hv.chan,hv.env⟩ hch hperm Sd
 have Zt:∀l,ShN S.Wg l→¬ EX (Dead' S jh Z0 (w.at d)) l:=by
  rintro l ⟨ad,rfl,hb⟩ (⟨a',e,hz⟩|⟨r,e,_⟩|e)
  ·cases e;exact hz (by rw[hb];exact Sd)
  ·cases e
  ·cases e
 obtain⟨N3,we,b,v,xj,t3,q3,r3,eA,h03,hst,hpost,pH,Gc,hL3,hA3⟩:=KX hset hal Zt SK s0 (Jc hset hal SK) hok .refl _ gs2 (w.at d) sl2 t2 q2 rfl (by rw[hR];exact h02) jN hL2 hA2
 obtain⟨N4,last,o,w',t4,r4,r5,r6,r7⟩:=JB (a:=G b.fr b.cs) (v:=v) rfl Zt (fun d'=>hend b (v.at d') hst hpost pH ⟨Gc.size,Gc.same,Gc.os,Gc.output,Gc.kept⟩) _ v.drawn we xj t3 q3 rfl h03 hL3 hA3
 have r4':runNT S.P (N4+1) (crowd we v xj) t3=(.ended o w',t4):=r4
 have r5':runN S.P N4 (crowd we v xj)=.next last:=r5
 have whole:∀k,runNT S.P (N1+(N2+(N3+k))) m t=runNT S.P k (crowd we v xj) t3:=fun k=>by
  rw[runNT_add,r1]
  show runNT S.P (N2+(N3+k)) (crowd gs w sl) t1=_
  rw[runNT_add,r2']
  show runNT S.P (N3+k) (crowd gs2 (w.at d) sl2) t2=_
  rw[runNT_add,r3]
 refine⟨N1+(N2+(N3+N4)),last,o,w',t4,?_,?_,r6,r7⟩
 ·rw[show N1+(N2+(N3+N4))+1=N1+(N2+(N3+(N4+1))) by omega,whole]
  exact r4'
 ·rw[← runNT_fst S.P _ _ t,whole,runNT_fst]
  exact r5'
end
section
open Go.Conc
variable{P:Program}{Z:Env}{F:FuncId→Prop}
def jY(n:Nat)(e:Event):Prop:=(∀a,e.loc=.cell a→a.block<n)∧∀r,e.loc=.obj r→r<n
theorem jY.le{n m:Nat}{e:Event}(h:jY n e)(l:n≤m):jY m e:=⟨fun a ha=>Nat.lt_of_lt_of_le (h.1 a ha) l,fun r hr=>Nat.lt_of_lt_of_le (h.2 r hr) l⟩
theorem jY.cell{n:Nat}{a:Addr}{x y:Bool}(h:a.block<n):jY n ⟨.cell a,x,y⟩:=⟨fun b hb=>by cases hb;exact h,fun r hr=>by cases hr⟩
theorem jY.obj{n r:Nat}{x y:Bool}(h:r<n):jY n ⟨.obj r,x,y⟩:=⟨fun b hb=>(by cases hb),fun q hq=>by cases hq;exact h⟩
theorem jY.mark{n:Nat}{m:Mark}{x y:Bool}:jY n ⟨.mark m,x,y⟩:=⟨fun b hb=>(by cases hb),fun q hq=>by cases hq⟩
theorem jY.output{n:Nat}{x y:Bool}:jY n ⟨.output,x,y⟩:=⟨fun b hb=>(by cases hb),fun q hq=>by cases hq⟩
def tW{α:Type}:Result α→World
 | .ok _ w=>w
 | .halt _ w=>w
def RunIn{α:Type}(w:World)(es:Array Event)(p:Result α × Array Event):Prop:=w.heap.size≤(tW p.1).heap.size∧∀e∈p.2,e∈es∨jY (tW p.1).heap.size e
theorem RunIn.mk'{α:Type}{w w1:World}{es es1:Array Event}{p:Result α × Array Event}(h:RunIn w1 es1 p)(hs:w.heap.size≤w1.heap.size)(he:∀e∈es1,e∈es∨jY w1.heap.size e):RunIn w es p:=
 ⟨Nat.le_trans hs h.1,fun e h0=>(h.2 e h0).elim (fun h1=>(he e h1).imp id (·.le h.1)) .inr⟩
theorem RunIn.push{α:Type}{w w1:World}{es:Array Event}{e0:Event}{p:Result α × Array Event}(h:RunIn w1 (es.push e0) p)(hs:w.heap.size≤w1.heap.size)(he:jY w1.heap.size e0):RunIn w es p:=
 h.mk' hs fun e h0=>by
  rcases Array.mem_push.1 h0 with h1|rfl
  ·exact .inl h1
  ·exact .inr he
theorem RunIn.self{α:Type}{w:World}{es:Array Event}{r:Result α}(h:tW r=w):RunIn w es (r,es):=⟨by rw[h];exact Nat.le_refl _,fun e he=>.inl he⟩
theorem Lr{w:World}{a:Addr}{v:Value}(h:w.cell? a=some v):a.block<w.heap.size:=by
 unfold World.cell? at h
 split at h
 ·exact(Array.getElem?_eq_some_iff.1 ‹_›).1
 ·cases h
theorem MJ{w:World}{b u:Addr × TypeId}{k:Addr}{at_:Bool}{x:Array Value × TypeId × (Nat × Nat) × Nat × Value × List (Nat × Nat × List UInt8)}(h:w.seen P b.1 b.2 k at_=.ok x):b.1.block<w.heap.size:=by
 refine Classical.byContradiction fun hn=>?_
 have hg:w.heap[b.1.block]? =none:=Array.getElem?_eq_none zo
 unfold World.seen at h
 simp only[bind,Except.bind,hg] at h
 repeat' split at h
 all_goals first|cases h|simp_all [throw,throwThe,MonadExceptOf.throw]
theorem Iu{w:World}{b:Addr}{u:TypeId}{k:Addr}{at_:Bool}{x:Value × List Addr}(h:w.viewLoad P b u k at_=.ok x):∀a∈x.2,a.block<w.heap.size:=by
 unfold World.viewLoad at h
 cases hs:w.seen P b u k at_ with
 | error e=>simp[hs,bind,Except.bind] at h
 | ok y=>
   have hb:=MJ (b:=(b,u)) (u:=(b,u)) hs
   obtain⟨c,e,f,first,like,cells⟩:=y
   simp only[hs,bind,Except.bind] at h
   split at h
   ·simp only[pure,Except.pure,Except.ok.injEq] at h
    subst h
    intro a ha
    obtain⟨y,_,rfl⟩:=List.mem_map.1 ha
    exact hb
   ·cases h
theorem EH{w:World}{b:Addr}{u:TypeId}{k:Addr}{v:Value}{at_:Bool}{x:World × List Addr}(h:w.viewStore P b u k v at_=.ok x):x.1.heap.size=w.heap.size∧∀a∈x.2,a.block<w.heap.size:=by
 unfold World.viewStore at h
 cases hs:w.seen P b u k at_ with
 | error e=>
   simp only[hs,bind,Except.bind] at h
   repeat' split at h
   all_goals cases h
 | ok y=>
   have hb:=MJ (b:=(b,u)) (u:=(b,u)) hs
   obtain⟨c,e,f,first,like,cells⟩:=y
   simp only[hs,bind,Except.bind] at h
   repeat' split at h
   all_goals first|(cases h;done)|skip
   all_goals
    simp only[pure,Except.pure,Except.ok.injEq] at h
    subst h
    refine⟨zs,fun a ha=>?_⟩
    obtain⟨y,_,rfl⟩:=List.mem_map.1 ha
    exact hb
theorem JG{w:World}{a:Addr}{at_:Bool}{x:Value × List Addr}(h:w.farLoad P a at_=.ok x):∀b∈x.2,b.block<w.heap.size:=by
 unfold World.farLoad at h
 split at h
 ·split at h
  ·cases h;exact Iu ‹_›
  ·cases h
 ·cases h
theorem FV{w:World}{a:Addr}{v:Value}{at_:Bool}{x:World × List Addr}(h:w.farStore P a v at_=.ok x):x.1.heap.size=w.heap.size∧∀b∈x.2,b.block<w.heap.size:=by
 unfold World.farStore at h
 split at h
 ·split at h
  ·cases h;exact EH ‹_›
  ·cases h
 ·cases h
theorem wu{α:Type}(q:Ask α):∀w:World,(w.ask q).2.heap=w.heap:=by
 induction q with
 | done a=>exact fun w=>rfl
 | ask what range k ih=>
   intro w
   unfold World.ask
   dsimp only
   split
   ·exact ih _ w
   ·exact ih _ _
theorem xX(w:World)(c:Sys):(w.sys c).2.heap=w.heap:=by
 unfold World.sys
 have h:=wu (Kernel.perform c w.os) w
 generalize w.ask (Kernel.perform c w.os)=x at h
 split
 ·rfl
 ·exact h
theorem BZ{w:World}{l:List Addr}{x y:Bool}{es:Array Event}(h:∀b∈l,b.block<w.heap.size):∀e∈es ++ l.toArray.map (⟨.cell ·,x,y⟩),e∈es∨jY w.heap.size e:=fun e he=>by
 rcases Array.mem_append.1 he with he|he
 ·exact .inl he
 ·obtain⟨b,hb,rfl⟩:=Array.mem_map.1 he
  exact .inr (.cell (h b (by simpa using hb)))
theorem En{α:Type}(s:Sem α):∀ (w:World) (es:Array Event),RunIn w es (s.runT P w es):=by
 induction s with
 | pure a=>exact fun w es=>.self rfl
 | load m a k ih=>
   intro w es
   simp only[Sem.runT]
   split
   ·exact(ih _ w _).push (Nat.le_refl _) (.cell (Lr ‹_›))
   ·split
    ·exact(ih _ w _).mk' (Nat.le_refl _) (BZ (JG ‹_›))
    ·exact .self rfl
 | store m a v k ih=>
   intro w es
   have main:RunIn w es (match w.cell? a with
    | some _=>if w.frozen? a then((.halt (.unsupported (.unsafePointer "a write to bytes that a string shares")) w:Result α),es) else k.runT P (w.setCell a v) (es.push ⟨.cell a,true,m == .atomic⟩)
    | none=>match w.farStore P a v (m == .atomic) with
      | .ok (w,touched)=>k.runT P w (es ++ touched.toArray.map (⟨.cell ·,true,m == .atomic⟩))
      | .error h=>(.halt h w,es)):=by
    split
    ·split
     ·exact .self rfl
     ·exact(ih _ _).push (by simp[World.setCell]) (.cell (by simpa [World.setCell] using Lr ‹_›))
    ·split
     ·have:=FV ‹_›
      exact(ih _ _).mk' (by rw[this.1];exact Nat.le_refl _) (BZ (by rw[this.1];exact this.2))
     ·exact .self rfl
   cases v <;> first|exact .self rfl|exact main
 | new o k ih=>
   intro w es
   exact(ih _ _ _).mk' zs fun e he=>.inl he
 | shape r k ih=>exact fun w es=>ih _ w es
 | freeze a n k ih=>exact fun w es=>(ih (w.freeze a n) es).mk' (by rw[(gM w a n).1];exact Nat.le_refl _) fun e he=>.inl he
 | frozen a k ih=>exact fun w es=>ih _ w es
 | getObj r k ih=>
   intro w es
   simp only[Sem.runT]
   split
   ·exact .self rfl
   ·exact(ih _ w _).push (Nat.le_refl _) (.obj (Array.getElem?_eq_some_iff.1 ‹_›).1)
   ·exact .self rfl
 | setObj r o k ih=>
   intro w es
   simp only[Sem.runT]
   split
   ·exact .self rfl
   ·exact(ih _ _).push zs (.obj (by simpa using (Array.getElem?_eq_some_iff.1 ‹_›).1))
   ·exact .self rfl
 | choose q k ih=>
   intro w es
   simp only[Sem.runT]
   split
   ·exact ih _ w es
   ·exact(ih _ {w with drawn:=w.drawn+1 } es).mk' (Nat.le_refl _) fun e he=>.inl he
 | sys c k ih=>
   intro w es
   exact(ih _ (w.sys c).2 _).push (by rw[xX];exact Nat.le_refl _) .output
 | program k ih=>exact fun w es=>ih P w es
 | mark m k ih=>exact fun w es=>(ih w _).push (Nat.le_refl _) .mark
 | halt h=>exact fun w es=>.self rfl
def uS(w:World):GStep→Prop
 | .go g w' es=>g.dying=none→w.heap.size≤w'.heap.size∧∀e∈es,jY w'.heap.size e
 | .comm _ _ _ _ w' es=>w.heap.size≤w'.heap.size∧∀e∈es,jY w'.heap.size e
 | _=>True
theorem bX{g:Goroutine}{w:World}:uS w (.go g w):=fun _=>⟨Nat.le_refl _,fun e he=>by simp at he⟩
theorem Wz{g:Goroutine}{w w':World}(h:w'.heap=w.heap):uS w (.go g w'):=fun _=>⟨by rw[h];exact Nat.le_refl _,fun e he=>by simp at he⟩
theorem F6{g:Goroutine}{w:World}{c:Array CommCase}{b:Bool}{sh:CommShape}:uS w (.comm g c b sh w):=⟨Nat.le_refl _,fun e he=>by simp at he⟩
theorem uS.after{w w1:World}{es:Array Event}{st:GStep}(h1:w.heap.size≤w1.heap.size)(h2:∀e∈es,jY w1.heap.size e)(h:uS w1 st):uS w (st.after es):=by
 have both:∀ {w2:World} {es2:Array Event},(w1.heap.size≤w2.heap.size∧∀e∈es2,jY w2.heap.size e)→w.heap.size≤w2.heap.size∧∀e∈es ++ es2,jY w2.heap.size e:=fun⟨a,b⟩=>
  ⟨Nat.le_trans h1 a,fun e he=>(Array.mem_append.1 he).elim (fun h0=>(h2 e h0).le a) (b e)⟩
 cases st with
 | go g w2 es2=>exact fun hd=>both (h hd)
 | comm g c b sh w2 es2=>exact both h
 | _=>trivial
theorem BG{fr:Frame}{m:String}{w:World}:uS w (endThrow fr m w):=fun h=>by cases h
theorem DU{α:Type}{s:Sem α}{w:World}{fn:FuncId}{f:Result α→GStep}(h:∀r,uS (tW r) (f r)):uS w (GStep.after (seen P fn (s.runT P w #[]).2) (f (s.runT P w #[]).1)):=by
 have hr:=En (P:=P) s w #[]
 generalize s.runT P w #[]=x at hr
 obtain⟨r,es⟩:=x
 exact uS.after hr.1 (fun e he=>(hr.2 e (fJ he)).elim (fun h0=>by simp at h0) id) (h r)
theorem mo(S:jZ P F Z){fr:Frame}(hk:fr.kind=.normal)(hf:F fr.fn){cs:List Frame}{v:Value}{w:World}:uS w (doReturn P true fr cs none v w):=by
 cases cs with
 | cons c cs=>simp only[doReturn,hk];exact bX
 | nil=>simp only[doReturn,hk,S.inits _ hf];exact trivial
theorem wT(S:jZ P F Z){fr:Frame}(hfr:Fr P F fr){cs:List Frame}{w:World}:uS w (unwind P true fr cs none w):=by
 obtain⟨fn,tmps,todo,defers,mode,kind,roundOf⟩:=fr
 cases defers with
 | cons d ds=>
   obtain⟨c,hc⟩:=hfr.defers d zs
   obtain⟨t,args⟩:=d
   simp only at hc
   subst hc
   simp only[unwind]
   refine DU (s:=Instr.takeDeferred c) (f:=fun r=>match r with
    | .ok calls w=>.go {frame:={fn,tmps,todo,defers:=calls ++ ds,mode,kind,roundOf },callers:=cs,status:=.running,dying:=none } w
    | .halt _ w=>.ended (.stuck "the deferred calls of a range-over-func loop have been taken" (Frame.pos P _)) w) fun r=>?_
   cases r with
   | ok v w1=>exact bX
   | halt e w1=>trivial
 | nil=>
   cases mode with
   | run=>simp only[unwind];trivial
   | returning=>
     unfold unwind
     dsimp only
     split
     ·exact mo S hfr.kind hfr.fn
     ·rename_i f2 _
      refine DU (fn:=fn) (s:=results f2 tmps) (f:=fun r=>match r with
       | .ok v w=>doReturn P true _ cs none v w
       | .halt (.stuck s) w=>.ended (.stuck s (Frame.pos P _)) w
       | .halt _ w=>.ended (.stuck sQ7 (Frame.pos P _)) w) fun r=>?_
      cases r with
      | ok v w1=>exact mo S hfr.kind hfr.fn
      | halt e w1=>cases e <;> trivial
   | panicking chain=>
     unfold unwind
     dsimp only
     split
     ·trivial
     ·cases cs with
      | cons c cs=>exact bX
      | nil=>
        dsimp only
        split
        ·exact bX
        ·split
         ·exact fun h=>by cases h
         ·trivial
         ·trivial
theorem jF(S:jZ P F Z){fr:Frame}(hk:fr.kind=.normal){cs:List Frame}{s:Sem Next}{w:World}:uS w (stepG.apply P true fr cs none s w):=by
 have hek:(fr.kind == CallKind.early)=false:=by rw[hk];rfl
 have hr:=En (P:=P) s w #[]
 unfold stepG.apply
 simp only[if_true,hek]
 generalize s.runT P w #[]=x at hr
 obtain⟨r,es⟩:=x
 have ev:∀es':Array Event,(∀e∈es',e∈es)→∀e∈seen P fr.fn es',jY (tW r).heap.size e:=fun es' h e he=>(hr.2 e (h e (fJ he))).elim (fun h0=>by simp at h0) id
 cases r with
 | ok nx w1=>
   refine uS.after hr.1 (ev _ fun e he=>by simpa using he) ?_
   cases nx <;> dsimp only <;> first|exact bX|exact F6|exact trivial|skip
   all_goals (repeat' split)
   all_goals first|exact bX|exact F6|exact trivial|exact BG
 | halt h w1=>
   cases h with
   | unsupported u=>
     cases u <;> first|(refine uS.after hr.1 (ev _ fun e he=>by first|exact he|simp at he) ?_;exact trivial)|skip
     refine uS.after hr.1 (ev _ fun e he=>by first|exact he|simp at he) ?_
     obtain⟨o,w2,es2,e1,_⟩:=uj S fr cs _ w1
     show uS w1 (early P fr cs none _ w1)
     rw[e1];trivial
   | fatal m=>
     refine uS.after hr.1 (ev _ fun e he=>by first|exact he|simp at he) ?_
     show uS w1 (endFatal P fr cs none m w1)
     unfold endFatal
     dsimp only
     repeat' split
     all_goals first|trivial|exact fun h=>by cases h
   | _=>exact uS.after hr.1 (ev _ fun e he=>by first|exact he|simp at he) (by first|exact bX|exact BG|trivial)
theorem FC{q:Question}{w w1:World}{t:Nat}(h:(choose q).run P w=.ok t w1):w1.heap=w.heap:=by
 simp only[choose,Sem.run] at h
 split at h <;> (cases h;rfl)
theorem RU(S:jZ P F Z){fr:Frame}(hfr:Fr P F fr){cs:List Frame}{w:World}:uS w (stepG.exec P true true fr cs none w):=by
 have leave:∀jump:Option Code,uS w (match fr.roundOf with
  | none=>if jump matches none|some .ret then .go {frame:={fr with mode:=.returning },callers:=cs,status:=.running,dying:=none } w else .ended (.stuck tj (fr.pos P)) w
  | some l=>
    let (r,es):=(Instr.endRound l jump).runT P w #[]
    GStep.after (seen P fr.fn es) <| match r with
    | .ok v w=>doReturn P true fr cs none v w
    | .halt _ w=>.ended (.stuck ZL (fr.pos P)) w):=fun jump=>by
  obtain⟨fn,tmps,todo,defers,mode,kind,roundOf⟩:=fr
  cases roundOf with
  | none=>
    cases jump with
    | none=>exact bX
    | some c=>cases c <;> first|exact bX|exact trivial
  | some l=>
    refine DU (s:=Instr.endRound l jump) (f:=fun r=>match r with
     | .ok v w=>doReturn P true _ cs none v w
     | .halt _ w=>.ended (.stuck ZL (Frame.pos P _)) w) fun r=>?_
    cases r with
    | ok v w1=>exact mo S hfr.kind hfr.fn
    | halt e w1=>exact trivial
 obtain⟨fn,tmps,todo,defers,mode,kind,roundOf⟩:=fr
 have hk0:kind=.normal:=hfr.kind
 unfold stepG.exec
 cases todo with
 | nil=>exact leave none
 | cons i k=>
   cases i with
   | code c=>
     cases c with
     | skip=>exact bX
     | label l=>exact bX
     | ret=>exact leave (some .ret)
     | seq a b=>exact bX
     | cond x a b=>
       dsimp only
       generalize Frame.eval _ x=v
       cases v with
       | bool t=>exact bX
       | _=>exact trivial
     | block id b=>exact bX
     | loop b=>exact bX
     | scope b=>exact bX
     | exit id=>
       have:=leave (some (.exit id))
       dsimp only at this⊢
       cases he:exitTo id k with
       | none=>exact this
       | some k'=>exact bX
     | goto l=>
       have:=leave (some (.goto l))
       dsimp only at this⊢
       cases he:gotoIn l k with
       | none=>exact this
       | some k'=>exact bX
     | region id ops draw=>
       cases draw with
       | false=>exact bX
       | true=>
         dsimp only
         cases hr:(choose (.order fn id)).run P w with
         | ok t w1=>exact Wz (FC hr)
         | halt e w1=>exact trivial
     | rangeFunc f params assign body=>
       have hr:=En (P:=P) (Instr.enterLoop fn tmps params assign body roundOf) w #[]
       dsimp only
       generalize (Instr.enterLoop fn tmps params assign body roundOf).runT P w #[]=x at hr
       obtain⟨r,es⟩:=x
       refine uS.after hr.1 (fun e he=>(hr.2 e (fJ he)).elim (fun h0=>by simp at h0) id) ?_
       cases r with
       | ok x w1=>exact jF S hk0
       | halt e w1=>exact trivial
     | refuse y=>exact trivial
   | inBlock id=>exact bX
   | inScope b=>exact bX
   | inLoop b=>exact bX
   | inRegion ops l=>
     cases l with
     | nil=>exact bX
     | cons j l=>
       dsimp only
       split
       ·unfold stepG.oper
        split
        ·exact trivial
        ·dsimp only
         split
         ·exact jF S hk0
         ·exact jF S hk0
       ·exact bX
   | inRangeFunc l=>exact trivial
   | beginRound=>exact jF S hk0
   | endRangeFunc l=>
     have hr:=En (P:=P) (Instr.endLoop l) w #[]
     dsimp only
     generalize (Instr.endLoop l).runT P w #[]=x at hr
     obtain⟨r,es⟩:=x
     refine uS.after hr.1 (fun e he=>(hr.2 e (fJ he)).elim (fun h0=>by simp at h0) id) ?_
     cases r with
     | ok x w1=>exact bX
     | halt e w1=>cases e <;> first|exact bX|exact trivial
   | call x b c e=>exact jF S hk0
   | _=>
     rename_i row args
     dsimp only
     cases Extern.next row with
     | none=>exact trivial
     | some x=>exact jF S hk0
theorem ML(S:jZ P F Z){fr:Frame}(hfr:Fr P F fr){cs:List Frame}{w:World}:uS w (stepG P true (G fr cs) w):=by
 cases hm:fr.mode with
 | run=>simp only[stepG,G,hm];exact RU S hfr
 | returning=>simp only[stepG,G,hm];exact wT S hfr
 | panicking c=>simp only[stepG,G,hm];exact wT S hfr
def Bo(n:Nat)(l:Loc):Prop:=(∀a,l=.cell a→a.block<n)∧∀r,l=.obj r→r<n
def iq(t:Trace)(n:Nat):Prop:=∀op∈t,op.g=0∧(op.act≠.mark .disable∧op.act≠.mark .enable)∧(∀a,op.act≠.mark (.release a))∧∀x,op.act.touch?=some x→Bo n x.loc
theorem iq.nil(n:Nat):iq #[] n:=fun op h=>by simp at h
theorem Bo.le{n m:Nat}{l:Loc}(h:Bo n l)(k:n≤m):Bo m l:=⟨fun a e=>Nat.lt_of_lt_of_le (h.1 a e) k,fun r e=>Nat.lt_of_lt_of_le (h.2 r e) k⟩
theorem iq.app{t u:Trace}{n m:Nat}(h:iq t n)(k:n≤m)(hu:iq u m):iq (t ++ u) m:=fun op hop=>(Array.mem_append.1 hop).elim (fun h0=>let ⟨a,b,c,d⟩:=h op h0;⟨a,b,c,fun x hx=>(d x hx).le k⟩) (hu op)
theorem lW{n:Nat}{fn:FuncId}{pos:String}{es:Array Event}(hok:∀e∈es,EU Z e)(h:∀e∈es,jY n e):∀op∈MemOp.ofEvents 0 fn pos es,∀x,op.act.touch?=some x→Bo n x.loc:=fun op hop x hx=>by
 obtain⟨e,he,rfl⟩:=Go.Conc.mem_ofEvents hop
 have h1:=h e he
 obtain⟨loc,wr,sy⟩:=e
 rcases hok _ he with(h2|h2)|⟨a,h2,hz⟩|⟨r,h2,hz⟩
 ·simp only at h2;subst h2;cases hx
 ·simp only at h2;subst h2
  simp only[MemAct.ofEvent,MemAct.touch?,Option.some.injEq] at hx
  subst hx
  exact h1
 ·simp only at h2;subst h2
  simp only[MemAct.ofEvent,MemAct.touch?,Option.some.injEq] at hx
  subst hx
  exact h1
 ·simp only at h2;subst h2
  cases wr <;> cases sy <;> simp only[MemAct.ofEvent,MemAct.touch?,Option.some.injEq] at hx <;> first|cases hx;done|(subst hx;exact h1)
theorem rJ{n:Nat}{u:Trace}(h:∀op∈u,VH Z op)(h2:∀op∈u,∀x,op.act.touch?=some x→Bo n x.loc):iq u n:=fun op hop=>let ⟨a,b,_,d⟩:=h op hop;⟨a,b,d,h2 op hop⟩
theorem Ow{Fc:Fence}(S:jZ P Fc.fn Z){I:Machine→Prop}(hI:∀m,I m→m.fenced P Fc)(hal:Fc.alive=true){a:Pt}(ok:a.Ok P Fc.fn Z){m1:Machine}{fr':Frame}{cs':List Frame}{v':World}(hI0:I a.m)(hs:step P a.m=.next m1)
 (hp:StepsIn I P m1 (solo (G fr' cs') v')):∃ (b:Pt) (ops:Trace),m1=b.m∧b.Ok P Fc.fn Z∧stepT P a.m=(.next b.m,ops)∧a.w.heap.size≤b.w.heap.size∧iq ops b.w.heap.size:=by
 have hsl:=xW S ok.fr ok.cs ok.lv (fun f hf=>(hI _ hI0 (G a.fr a.cs) (by simp[Pt.m,solo])).2.2.1 f hf)
 have hin:=ML S ok.fr (cs:=a.cs) (w:=a.w)
 have hT:stepT P a.m=runT P (solo (G a.fr a.cs) a.w) 0:=by rw[Pt.m,stepT_solo rfl]
 rw[step,hT] at hs
 unfold SL at hsl
 dsimp only at hsl
 cases hgw:stepG P true (G a.fr a.cs) a.w with
 | go g' w' es=>
   rw[hgw] at hsl hin
   rw[runT_solo_go hgw] at hs hT
   cases hs
   rcases hsl with hd|⟨⟨Qi,cs2,rfl,h1,h2⟩,n,M⟩
   ·exact(jw hI hal hd hp).elim
   have hin':=hin rfl
   exact⟨⟨Qi,cs2,w'⟩,_,rfl,⟨h1,h2,M.2.2.1⟩,hT,hin'.1,rJ (jR M.2.2.2.1) (lW M.2.2.2.1 hin'.2)⟩
 | comm g' cases b sh w' es=>
   rw[hgw] at hsl hin
   obtain⟨⟨Qi,cs2,rfl,h1,h2⟩,⟨rfl,⟨ch,send,z⟩,Tw,rfl,hsend,rfl⟩,n,M⟩:=hsl
   simp only at hsend
   subst hsend
   have ho1:kR #[G a.fr a.cs]:=fun i g hi hg=>by
    rw[Array.getElem?_eq_none zm] at hg;cases hg
   rw[solo_eq_crowd] at hs hT
   rcases qJ (P:=P) (gs:=#[G a.fr a.cs]) (sl:=none) rfl ho1 hgw with⟨o,w2,e⟩|⟨g',ops,hg',e⟩|⟨r,cap,buf,closed,s,q,tm,rfl,hc,hb⟩
   ·rw[e] at hs;cases hs
   ·rw[e] at hs
    cases hs
    exact(jw (g:=g') hI hal (.inr (.inl hg')) hp).elim
   ·have hnz:¬ Z r:=fun hz=>by
     have:=M.2.2.1.dead r hz
     rw[this] at hc
     simp[X0] at hc
    obtain⟨ops,hops,e⟩:=tL (P:=P) (gs:=#[G a.fr a.cs]) (sl:=none) rfl ho1 hgw hc hb
    rw[e] at hs hT
    simp only[Stepped.next.injEq] at hs
    have hsz:w'.heap.size≤(lM w' r cap buf closed s q tm).heap.size:=by
     unfold lM
     split <;> simp[World.setChan]
    refine⟨⟨Qi.finish (Kv Tw z buf),cs2,lM w' r cap buf closed s q tm⟩,_,hs.symm,⟨h1.finish _,h2,El M.2.2.1 hnz⟩,hT,Nat.le_trans hin.1 hsz,iq.app (rJ (jR M.2.2.2.1) (lW M.2.2.2.1 hin.2)) hsz fun op hop=>?_⟩
    obtain⟨k1,k2,k3⟩:=hops op hop
    exact⟨k1,⟨k3 _,k3 _⟩,fun a=>k3 _,fun x hx=>(by rw[k2] at hx;cases hx)⟩
 | ended o w' es=>
   rw[aY hgw] at hs
   cases hs
 | spawn g' child w' es=>
   exfalso
   have h1:=qL (P:=P) hp
   rw[runT_solo_spawn hgw] at hs
   cases hs
   simp[solo,duo] at h1
 | _=>rw[hgw] at hsl;exact hsl.elim
end
end Go.dS
