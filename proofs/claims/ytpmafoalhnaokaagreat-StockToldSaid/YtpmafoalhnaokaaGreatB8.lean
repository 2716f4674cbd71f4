/- Far15 Far16 Far17 Far18 Far19 -/
import Derived.Test.YtpmafoalhnaokaaGreatB7
set_option maxRecDepth 100000
set_option maxHeartbeats 16000000
set_option linter.unusedVariables false
set_option linter.unusedSectionVars false
open Go.IntKind(i64)
open Go.Value(int)
namespace Go.dP
section
open Go.Conc Go.ConcN Go.aP Go.Conc.Lib
open Go.ConcR (g_of_ofEvents WgAt stA DC0)
variable[Inhabited bZ.aT]
section
variable{P:Program}{L:WgLink}{Wg:Nat}{Shun:Loc→Prop}{R:Goroutine}
theorem Ib{w:World}(hl:WgLive L.tWg Wg w):∀ (M m d0:Nat) (a:Goroutine) (gs:Array Goroutine) (sl:Option (Nat × Nat)) (t:Trace) (q:Nat→Nat),m+sumTo gs.size q≤M→gT P L Wg (fun g _=>g=R) m a w→gs[0]? =some a→Leavers P t gs q→After Shun t→
 ∃N gs' d sl' t' q',runNT P N (crowd gs (w.at d0) sl) t=(.next (crowd gs' (w.at d) sl'),t')∧gs'.size=gs.size∧gs'[0]? =some R∧Leavers P t' gs' q'∧After Shun t':=by
 intro M
 induction M with
 | zero=>
   intro m d0 a gs sl t q hM hG h0 hL hA
   obtain rfl:m=0:=zo
   have e:a=R:=hG w fun x=>x
   subst e
   exact⟨0,gs,d0,sl,t,q,rfl,rfl,h0,hL,hA⟩
 | succ M ih=>
   intro m d0 a gs sl t q hM hG h0 hL hA
   have stop:(∀w₁,Ff L Wg w w₁→a=R)→∃N gs' d sl' t' q',runNT P N (crowd gs (w.at d0) sl) t=(.next (crowd gs' (w.at d) sl'),t')∧gs'.size=gs.size∧gs'[0]? =some R∧Leavers P t' gs' q'∧After Shun t':=fun h=>by
    have e:a=R:=h w fun x=>x
    subst e
    exact⟨0,gs,d0,sl,t,q,rfl,rfl,h0,hL,hA⟩
   cases m with
   | zero=>exact stop hG
   | succ m=>
     have hG0:=hG
     rcases hG with hG|⟨hrun,hG⟩
     ·exact stop hG
     obtain⟨i,g,d,sl',hi,hg,hpick⟩:=crowd_pick (P:=P) (w:=w.at d0) (sl:=sl) (uq h0 hrun hL) ⟨0,_,h0,hrun⟩
     have hpick':stepT P (crowd gs (w.at d0) sl)=runT P (crowd gs (w.at d) sl') i:=hpick
     rcases Nat.eq_zero_or_pos i with rfl|hpos
     ·obtain rfl:g=a:=by rw[h0] at hi;exact(Option.some.inj hi).symm
      have hs:=hG (w.at d) fun x=>x
      cases hgo:stepG P true g (w.at d) with
      | go a' w' es=>
        rw[hgo,goes_go] at hs
        obtain⟨⟨rfl,rfl⟩,hG'⟩:=hs
        have e:=runT_crowd_go (P:=P) (sl:=sl') (i:=0) hi (show stepG P (0 == 0) g (w.at d)=_ from hgo)
        have hlt:0<gs.size:=(Array.getElem?_eq_some_iff.1 h0).1
        have hsz:((gs.map (woken P g a' (w.at d))).setIfInBounds 0 a').size=gs.size:=zs
        obtain⟨N,gs',d',sl2,t',q',hr,x1,x2,x3,x4⟩:=ih m d a' ((gs.map (woken P g a' (w.at d))).setIfInBounds 0 a') sl' (t ++ MemOp.ofEvents 0 g.frame.fn g.frame.place #[]) q (by rw[hsz];omega) (fF hG' hl) (by simp[hlt])
         ⟨fun j x hj hx=>by
          have hne:0≠j:=zo
          rw[Array.getElem?_setIfInBounds_ne hne,Array.getElem?_map] at hx
          obtain⟨y,hy,rfl⟩:=Option.map_eq_some_iff.1 hx
          have hq:=hL.old j y hj hy
          rw[woken_quitsD hq,Deaf_other t (g':=0) zo _ g_of_ofEvents]
          exact hq,fun j hj=>by
          rw[Deaf_other t (g':=0) (by simp at hj;omega) _ g_of_ofEvents]
          exact hL.above j (by simpa using hj)⟩ (hA.own zs zs)
        exact⟨N+1,gs',d',sl2,t',q',by simp only[runNT,hpick',e];exact hr,x1.trans hsz,x2,x3,x4⟩
      | _=>rw[hgo] at hs;exact hs.elim
     ·obtain⟨gs2,ops,q2,e,hsz,hz,hL2,hA2,hlt⟩:=nW (w:=w.at d) (sl:=sl') h0 hrun hL hA hi hg hpos
      obtain⟨N,gs',d',sl2,t',q',hr,x1,x2,x3,x4⟩:=ih (m+1) d a gs2 sl' (t ++ ops) q2 (by rw[hsz];omega) hG0 hz hL2 hA2
      exact⟨N+1,gs',d',sl2,t',q',by simp only[runNT,hpick',e];exact hr,x1.trans hsz,x2,x3,x4⟩
end
section
variable{S:Site}{O C:Nat→Nat→Prop}{w:World}{t:Trace}{a:Goroutine}
theorem PE(jo:Lay O C S.Sh w)(h0:O 0=mq)(c0:C 0=S.Cb)(z:∀k b,0<k→¬ O k b∧¬ C k b)(hv:S.V0 w)(hwg:WgAt S.ty S.Wg w 0 0)(hch:∃s q,w.heap[S.Ch]? =some (.chan S.n #[] false s q false))
 (hct:CT (bZ.In S.Sh) (aP.iE O) (aP.D9 C) t 0)(Bt:bZ.Rt t w)(hnr:NoRelease (stA S.Wg) t)(hd:Deaf t 0=0)(Ez:Oo S t)(h:S.Sp S.n a w)(sl:Option (Nat × Nat)):∃μ,Inv S μ (crowd #[a] w sl) t:=by
 obtain⟨s,q,hch⟩:=hch
 have hcom:∀rk:Nat→Rank S.P,Com S O C (fun _=>0) (fun _=>0) rk 0 #[a] w t (fun _=>⟨0,0,0⟩) 0:=fun rk=>
  ⟨rfl,jo,c0,fun i hi=>zo,z,hv,fun i hi=>zo,fun i hi=>zo,hct,Bt,hnr,hd,fun i hi=>zo,fun i hi=>zo,⟨#[],s,q,hch,zs⟩,Ez⟩
 have hmode:∀tag,isOpen tag→pend tag=0→(∀vs,tag≠.w2 vs)→ConcN.Mode 0 (fun _=>(⟨0,0,0⟩:WD)) tag 0 0:=fun tag h1 h2 h3=>by
  have:=ConcN.Mode.opn (j:=0) (D:=fun _=>(⟨0,0,0⟩:WD)) h1 (fun i hi=>zo) (fun vs e=>absurd e (h3 vs))
  simpa [Vc,sumTo,h2] using this
 generalize hn:S.n=n at h
 cases n with
 | zero=>
   obtain⟨m,hk⟩:=h
   obtain⟨x⟩:Nonempty (Rank S.P):=⟨⟨mK (fun _=>False) (fun _=>True) true (fun _ _ _=>True) a w mq,FD (.stop fun _ _ _=>trivial)⟩⟩
   exact⟨_,#[a],w,sl,0,_,.kd,0,m,0,a,0,0,O,C,_,_,fun _=>x,rfl,rfl,by rw[h0];exact .kd hn.symm hk,hcom _,hwg,hmode .kd trivial rfl zs,rfl⟩
 | succ r=>
   have hk:bZ.Wk S.P true S.Cb S.V0 (S.AQ (S.n - (r+1)) (S.Sp r)) a w mq:=h
   rw[show S.n - (r+1)=0 by omega] at hk
   obtain⟨x,hx⟩:=tX hk
   exact⟨_,#[a],w,sl,0,_,.sp r 5,0,0,0,a,0,0,O,C,_,_,fun _=>x,rfl,rfl,by rw[h0];exact .skd zo hx hk,hcom _,hwg,hmode (.sp r 5) trivial rfl zs,rfl⟩
end
def Dead'(S:Site)(jr:FuncId→Code→Prop)(Z0:Nat→Prop)(w:World):Env:=⟨fun q=>(¬ S.Cb q∨Z0 q)∧q≠S.Ch∧q<w.heap.size,jr⟩
theorem Pb{S:Site}{jr:FuncId→Code→Prop}{Z0:Nat→Prop}{Fc:Fence}{St:Frame→List Frame→Prop}{Post:Pt→Prop}{PV:Value→World→Prop}{Rs:Goroutine→Prop}(hal:Fc.alive=true)(hS:S.Ok)(hfin:∀g,S.Fin g→∃R,Rs R∧Xg S.P S.L S.Wg R g)
 (xF:∀R,Rs R→∀ (w:World) (buf:Array Value) (s z:Nat),S.V0 w→w.heap[S.Ch]? =some (.chan S.n buf false s z false)→buf.toList.Perm (((List.range S.n).filter S.bit).map fun(i:Nat)=>int i64 i)→Dead' S jr Z0 w S.Wg→
  ∃s0:Pt,G s0.fr s0.cs=R∧kE S.P Fc.fn (Dead' S jr Z0 w)∧s0.Ok S.P Fc.fn (Dead' S jr Z0 w)∧p8 (Dead' S jr Z0 w) (fun q=>w.heap[q]?) s0.w w∧(∀σ:Tape,Way S.P Fc St Post (s0.on σ))∧
   ∀ (b:Pt) (v:World),St b.fr b.cs→Post b→b.Ok S.P Fc.fn (Dead' S jr Z0 w)→p8 (Dead' S jr Z0 w) (fun q=>w.heap[q]?) b.w v→∃r es,stepG S.P true (G b.fr b.cs) v=.ended (.done r) v es∧(∀e∈es,FV (Dead' S jr Z0 w) e)∧PV r v)
 {μ:vW S}{m:Machine}{t:Trace}(hI:Inv S μ m t):
 ∃N last o w' t',runNT S.P (N+1) m t=(.ended o w',t')∧runN S.P N m=.next last∧step S.P last=.ended o w'∧Good S.P PV last o w' t':=by
 obtain⟨N1,m1,t1,r1,hE⟩:=Pf hS μ m t hI
 obtain⟨gs,w,sl,q,a,O,C,pre,rfl,h0,hf,hL,hA,hwl,hv,jo,_,hC,Bt,buf,s,z,hch,hperm⟩:=hE.after
 obtain⟨R,hR0,hfin⟩:=hfin a hf
 obtain⟨mm,hG⟩:=hfin w hwl
 obtain⟨N2,gs2,d,sl2,t2,q2,r2,hsz2,h02,hL2,hA2⟩:=Ib hwl _ mm w.drawn a gs sl t1 q zL hG h0 hL hA
 have r2':runNT S.P N2 (crowd gs w sl) t1=(.next (crowd gs2 (w.at d) sl2),t2):=r2
 have Ue:Dead' S jr Z0 (w.at d) S.Wg:=And.intro (.inl fun h=>jo.cS 0 _ (by rw[hC];exact h) (.inl rfl)) (And.intro hS.wc (jo.Nu _ (.inl rfl)))
 obtain⟨s0,hR,hset,hok,jT,Uv,hend⟩:=xF R hR0 (w.at d) buf s z ⟨hv.live,hv.tab,hv.chan,hv.env⟩ hch hperm Ue
 have di:∀l,ShN S.Wg l→¬ FY (Dead' S jr Z0 (w.at d)) l:=by
  rintro l ⟨ad,rfl,hb⟩ (⟨a',e,hz⟩|⟨r,e,_⟩|e)
  ·cases e;exact hz (by rw[hb];exact Ue)
  ·cases e
  ·cases e
 obtain⟨N3,GO,b,v,HD,t3,q3,r3,ll,h03,hst,hpost,wv,Hq,hL3,hA3⟩:=Mq hset hal di Uv s0 (JW hset hal Uv) hok .refl _ gs2 (w.at d) sl2 t2 q2 rfl (by rw[hR];exact h02) jT hL2 hA2
 obtain⟨N4,last,o,w',t4,r4,r5,r6,r7⟩:=Ky (a:=G b.fr b.cs) (v:=v) rfl di (fun d'=>hend b (v.at d') hst hpost wv ⟨Hq.size,Hq.same,Hq.os,Hq.output,Hq.kept⟩) _ v.drawn GO HD t3 q3 rfl h03 hL3 hA3
 have r4':runNT S.P (N4+1) (crowd GO v HD) t3=(.ended o w',t4):=r4
 have r5':runN S.P N4 (crowd GO v HD)=.next last:=r5
 have whole:∀k,runNT S.P (N1+(N2+(N3+k))) m t=runNT S.P k (crowd GO v HD) t3:=fun k=>by
  rw[runNT_add,r1]
  show runNT S.P (N2+(N3+k)) (crowd gs w sl) t1=_
  rw[runNT_add,r2']
  show runNT S.P (N3+k) (crowd gs2 (w.at d) sl2) t2=_
  rw[runNT_add,r3]
 refine⟨N1+(N2+(N3+N4)),last,o,w',t4,?_,?_,r6,r7⟩
 ·rw[show N1+(N2+(N3+N4))+1=N1+(N2+(N3+(N4+1))) by omega,whole]
  exact r4'
 ·rw[← runNT_fst S.P _ _ t,whole,runNT_fst]
  exact r5'
end
section
open Go.Conc
variable{P:Program}{Z:Env}{F:FuncId→Prop}
def kD(n:Nat)(e:Event):Prop:=(∀a,e.loc=.cell a→a.block<n)∧∀r,e.loc=.obj r→r<n
theorem kD.le{n m:Nat}{e:Event}(h:kD n e)(l:n≤m):kD m e:=⟨fun a ha=>Nat.lt_of_lt_of_le (h.1 a ha) l,fun r hr=>Nat.lt_of_lt_of_le (h.2 r hr) l⟩
theorem kD.cell{n:Nat}{a:Addr}{x y:Bool}(h:a.block<n):kD n ⟨.cell a,x,y⟩:=⟨fun b hb=>by cases hb;exact h,fun r hr=>by cases hr⟩
theorem kD.obj{n r:Nat}{x y:Bool}(h:r<n):kD n ⟨.obj r,x,y⟩:=⟨fun b hb=>(by cases hb),fun q hq=>by cases hq;exact h⟩
theorem kD.mark{n:Nat}{m:Mark}{x y:Bool}:kD n ⟨.mark m,x,y⟩:=⟨fun b hb=>(by cases hb),fun q hq=>by cases hq⟩
theorem kD.output{n:Nat}{x y:Bool}:kD n ⟨.output,x,y⟩:=⟨fun b hb=>(by cases hb),fun q hq=>by cases hq⟩
def DQ{α:Type}:Result α→World
 | .ok _ w=>w
 | .halt _ w=>w
def RunIn{α:Type}(w:World)(es:Array Event)(p:Result α × Array Event):Prop:=w.heap.size≤(DQ p.1).heap.size∧∀e∈p.2,e∈es∨kD (DQ p.1).heap.size e
theorem RunIn.mk'{α:Type}{w w1:World}{es es1:Array Event}{p:Result α × Array Event}(h:RunIn w1 es1 p)(hs:w.heap.size≤w1.heap.size)(he:∀e∈es1,e∈es∨kD w1.heap.size e):RunIn w es p:=
 ⟨Nat.le_trans hs h.1,fun e h0=>(h.2 e h0).elim (fun h1=>(he e h1).imp id (·.le h.1)) .inr⟩
theorem RunIn.push{α:Type}{w w1:World}{es:Array Event}{e0:Event}{p:Result α × Array Event}(h:RunIn w1 (es.push e0) p)(hs:w.heap.size≤w1.heap.size)(he:kD w1.heap.size e0):RunIn w es p:=
 h.mk' hs fun e h0=>by
  rcases Array.mem_push.1 h0 with h1|rfl
  ·exact .inl h1
  ·exact .inr he
theorem RunIn.self{α:Type}{w:World}{es:Array Event}{r:Result α}(h:DQ r=w):RunIn w es (r,es):=⟨by rw[h];exact zL,fun e he=>.inl he⟩
theorem MO{w:World}{a:Addr}{v:Value}(h:w.cell? a=some v):a.block<w.heap.size:=by
 unfold World.cell? at h
 split at h
 ·exact(Array.getElem?_eq_some_iff.1 ‹_›).1
 ·cases h
theorem NT{w:World}{b u:Addr × TypeId}{k:Addr}{at_:Bool}{x:Array Value × TypeId × (Nat × Nat) × Nat × Value × List (Nat × Nat × List UInt8)}(h:w.seen P b.1 b.2 k at_=.ok x):b.1.block<w.heap.size:=by
 refine Classical.byContradiction fun hn=>?_
 have hg:w.heap[b.1.block]? =none:=Array.getElem?_eq_none zo
 unfold World.seen at h
 simp only[bind,Except.bind,hg] at h
 repeat' split at h
 all_goals first|cases h|simp_all [throw,throwThe,MonadExceptOf.throw]
theorem Js{w:World}{b:Addr}{u:TypeId}{k:Addr}{at_:Bool}{x:Value × List Addr}(h:w.viewLoad P b u k at_=.ok x):∀a∈x.2,a.block<w.heap.size:=by
 unfold World.viewLoad at h
 cases hs:w.seen P b u k at_ with
 | error e=>simp[hs,bind,Except.bind] at h
 | ok y=>
   have hb:=NT (b:=(b,u)) (u:=(b,u)) hs
   obtain⟨c,e,f,first,like,cells⟩:=y
   simp only[hs,bind,Except.bind] at h
   split at h
   ·simp only[pure,Except.pure,Except.ok.injEq] at h
    subst h
    intro a ha
    obtain⟨y,_,rfl⟩:=List.mem_map.1 ha
    exact hb
   ·cases h
theorem FB{w:World}{b:Addr}{u:TypeId}{k:Addr}{v:Value}{at_:Bool}{x:World × List Addr}(h:w.viewStore P b u k v at_=.ok x):x.1.heap.size=w.heap.size∧∀a∈x.2,a.block<w.heap.size:=by
 unfold World.viewStore at h
 cases hs:w.seen P b u k at_ with
 | error e=>
   simp only[hs,bind,Except.bind] at h
   repeat' split at h
   all_goals cases h
 | ok y=>
   have hb:=NT (b:=(b,u)) (u:=(b,u)) hs
   obtain⟨c,e,f,first,like,cells⟩:=y
   simp only[hs,bind,Except.bind] at h
   repeat' split at h
   all_goals first|(cases h;done)|skip
   all_goals
    simp only[pure,Except.pure,Except.ok.injEq] at h
    subst h
    refine⟨zs,fun a ha=>?_⟩
    obtain⟨y,_,rfl⟩:=List.mem_map.1 ha
    exact hb
theorem KE{w:World}{a:Addr}{at_:Bool}{x:Value × List Addr}(h:w.farLoad P a at_=.ok x):∀b∈x.2,b.block<w.heap.size:=by
 unfold World.farLoad at h
 split at h
 ·split at h
  ·cases h;exact Js ‹_›
  ·cases h
 ·cases h
theorem GR{w:World}{a:Addr}{v:Value}{at_:Bool}{x:World × List Addr}(h:w.farStore P a v at_=.ok x):x.1.heap.size=w.heap.size∧∀b∈x.2,b.block<w.heap.size:=by
 unfold World.farStore at h
 split at h
 ·split at h
  ·cases h;exact FB ‹_›
  ·cases h
 ·cases h
theorem xA{α:Type}(q:Ask α):∀w:World,(w.ask q).2.heap=w.heap:=by
 induction q with
 | done a=>exact fun w=>rfl
 | ask what range k ih=>
   intro w
   unfold World.ask
   dsimp only
   split
   ·exact ih _ w
   ·exact ih _ _
theorem yX(w:World)(c:Sys):(w.sys c).2.heap=w.heap:=by
 unfold World.sys
 have h:=xA (Kernel.perform c w.os) w
 generalize w.ask (Kernel.perform c w.os)=x at h
 split
 ·rfl
 ·exact h
theorem CZ{w:World}{l:List Addr}{x y:Bool}{es:Array Event}(h:∀b∈l,b.block<w.heap.size):∀e∈es ++ l.toArray.map (⟨.cell ·,x,y⟩),e∈es∨kD w.heap.size e:=fun e he=>by
 rcases Array.mem_append.1 he with he|he
 ·exact .inl he
 ·obtain⟨b,hb,rfl⟩:=Array.mem_map.1 he
  exact .inr (.cell (h b (by simpa using hb)))
theorem EW{α:Type}(s:Sem α):∀ (w:World) (es:Array Event),RunIn w es (s.runT P w es):=by
 induction s with
 | pure a=>exact fun w es=>.self rfl
 | load m a k ih=>
   intro w es
   simp only[Sem.runT]
   split
   ·exact(ih _ w _).push zL (.cell (MO ‹_›))
   ·split
    ·exact(ih _ w _).mk' zL (CZ (KE ‹_›))
    ·exact .self rfl
 | store m a v k ih=>
   intro w es
   have main:RunIn w es (match w.cell? a with
    | some _=>if w.frozen? a then((.halt (.unsupported (.unsafePointer "a write to bytes that a string shares")) w:Result α),es) else k.runT P (w.setCell a v) (es.push ⟨.cell a,true,m == .atomic⟩)
    | none=>match w.farStore P a v (m == .atomic) with
      | .ok (w,touched)=>k.runT P w (es ++ touched.toArray.map (⟨.cell ·,true,m == .atomic⟩))
      | .error h=>(.halt h w,es)):=by
    split
    ·split
     ·exact .self rfl
     ·exact(ih _ _).push (by simp[World.setCell]) (.cell (by simpa [World.setCell] using MO ‹_›))
    ·split
     ·have:=GR ‹_›
      exact(ih _ _).mk' (by rw[this.1];exact zL) (CZ (by rw[this.1];exact this.2))
     ·exact .self rfl
   cases v <;> first|exact .self rfl|exact main
 | new o k ih=>
   intro w es
   exact(ih _ _ _).mk' zs fun e he=>.inl he
 | shape r k ih=>exact fun w es=>ih _ w es
 | freeze a n k ih=>exact fun w es=>(ih (w.freeze a n) es).mk' (by rw[(gX w a n).1];exact zL) fun e he=>.inl he
 | frozen a k ih=>exact fun w es=>ih _ w es
 | getObj r k ih=>
   intro w es
   simp only[Sem.runT]
   split
   ·exact .self rfl
   ·exact(ih _ w _).push zL (.obj (Array.getElem?_eq_some_iff.1 ‹_›).1)
   ·exact .self rfl
 | setObj r o k ih=>
   intro w es
   simp only[Sem.runT]
   split
   ·exact .self rfl
   ·exact(ih _ _).push zs (.obj (by simpa using (Array.getElem?_eq_some_iff.1 ‹_›).1))
   ·exact .self rfl
 | choose q k ih=>
   intro w es
   simp only[Sem.runT]
   split
   ·exact ih _ w es
   ·exact(ih _ {w with drawn:=w.drawn+1 } es).mk' zL fun e he=>.inl he
 | sys c k ih=>
   intro w es
   exact(ih _ (w.sys c).2 _).push (by rw[yX];exact zL) .output
 | program k ih=>exact fun w es=>ih P w es
 | mark m k ih=>exact fun w es=>(ih w _).push zL .mark
 | halt h=>exact fun w es=>.self rfl
def vV(w:World):GStep→Prop
 | .go g w' es=>g.dying=none→w.heap.size≤w'.heap.size∧∀e∈es,kD w'.heap.size e
 | .comm _ _ _ _ w' es=>w.heap.size≤w'.heap.size∧∀e∈es,kD w'.heap.size e
 | _=>True
theorem bV{g:Goroutine}{w:World}:vV w (.go g w):=fun _=>⟨zL,fun e he=>by simp at he⟩
theorem Yd{g:Goroutine}{w w':World}(h:w'.heap=w.heap):vV w (.go g w'):=fun _=>⟨by rw[h];exact zL,fun e he=>by simp at he⟩
theorem G5{g:Goroutine}{w:World}{c:Array CommCase}{b:Bool}{sh:CommShape}:vV w (.comm g c b sh w):=⟨zL,fun e he=>by simp at he⟩
theorem vV.after{w w1:World}{es:Array Event}{st:GStep}(h1:w.heap.size≤w1.heap.size)(h2:∀e∈es,kD w1.heap.size e)(h:vV w1 st):vV w (st.after es):=by
 have both:∀ {w2:World} {es2:Array Event},(w1.heap.size≤w2.heap.size∧∀e∈es2,kD w2.heap.size e)→w.heap.size≤w2.heap.size∧∀e∈es ++ es2,kD w2.heap.size e:=fun⟨a,b⟩=>
  ⟨Nat.le_trans h1 a,fun e he=>(Array.mem_append.1 he).elim (fun h0=>(h2 e h0).le a) (b e)⟩
 cases st with
 | go g w2 es2=>exact fun hd=>both (h hd)
 | comm g c b sh w2 es2=>exact both h
 | _=>trivial
theorem Cx{fr:Frame}{m:String}{w:World}:vV w (endThrow fr m w):=fun h=>by cases h
theorem Ey{α:Type}{s:Sem α}{w:World}{fn:FuncId}{f:Result α→GStep}(h:∀r,vV (DQ r) (f r)):vV w (GStep.after (seen P fn (s.runT P w #[]).2) (f (s.runT P w #[]).1)):=by
 have hr:=EW (P:=P) s w #[]
 generalize s.runT P w #[]=x at hr
 obtain⟨r,es⟩:=x
 exact vV.after hr.1 (fun e he=>(hr.2 e (fP he)).elim (fun h0=>by simp at h0) id) (h r)
theorem mJ(S:kE P F Z){fr:Frame}(hk:fr.kind=.normal)(hf:F fr.fn){cs:List Frame}{v:Value}{w:World}:vV w (doReturn P true fr cs none v w):=by
 cases cs with
 | cons c cs=>simp only[doReturn,hk];exact bV
 | nil=>simp only[doReturn,hk,S.inits _ hf];exact zT
theorem xS(S:kE P F Z){fr:Frame}(hfr:Fr P F fr){cs:List Frame}{w:World}:vV w (unwind P true fr cs none w):=by
 obtain⟨fn,tmps,todo,defers,mode,kind,roundOf⟩:=fr
 cases defers with
 | cons d ds=>
   obtain⟨c,hc⟩:=hfr.defers d zs
   obtain⟨t,args⟩:=d
   simp only at hc
   subst hc
   simp only[unwind]
   refine Ey (s:=Instr.takeDeferred c) (f:=fun r=>match r with
    | .ok calls w=>.go {frame:={fn,tmps,todo,defers:=calls ++ ds,mode,kind,roundOf },callers:=cs,status:=.running,dying:=none } w
    | .halt _ w=>.ended (.stuck "the deferred calls of a range-over-func loop have been taken" (Frame.pos P _)) w) fun r=>?_
   cases r with
   | ok v w1=>exact bV
   | halt e w1=>trivial
 | nil=>
   cases mode with
   | run=>simp only[unwind];trivial
   | returning=>
     unfold unwind
     dsimp only
     split
     ·exact mJ S hfr.kind hfr.fn
     ·rename_i f2 _
      refine Ey (fn:=fn) (s:=results f2 tmps) (f:=fun r=>match r with
       | .ok v w=>doReturn P true _ cs none v w
       | .halt (.stuck s) w=>.ended (.stuck s (Frame.pos P _)) w
       | .halt _ w=>.ended (.stuck sQ7 (Frame.pos P _)) w) fun r=>?_
      cases r with
      | ok v w1=>exact mJ S hfr.kind hfr.fn
      | halt e w1=>cases e <;> trivial
   | panicking chain=>
     unfold unwind
     dsimp only
     split
     ·trivial
     ·cases cs with
      | cons c cs=>exact bV
      | nil=>
        dsimp only
        split
        ·exact bV
        ·split
         ·exact fun h=>by cases h
         ·trivial
         ·trivial
theorem jO(S:kE P F Z){fr:Frame}(hk:fr.kind=.normal){cs:List Frame}{s:Sem Next}{w:World}:vV w (stepG.apply P true fr cs none s w):=by
 have hek:(fr.kind == CallKind.early)=false:=by rw[hk];rfl
 have hr:=EW (P:=P) s w #[]
 unfold stepG.apply
 simp only[if_true,hek]
 generalize s.runT P w #[]=x at hr
 obtain⟨r,es⟩:=x
 have ev:∀es':Array Event,(∀e∈es',e∈es)→∀e∈seen P fr.fn es',kD (DQ r).heap.size e:=fun es' h e he=>(hr.2 e (h e (fP he))).elim (fun h0=>by simp at h0) id
 cases r with
 | ok nx w1=>
   refine vV.after hr.1 (ev _ fun e he=>by simpa using he) ?_
   cases nx <;> dsimp only <;> first|exact bV|exact G5|exact zT|skip
   all_goals (repeat' split)
   all_goals first|exact bV|exact G5|exact zT|exact Cx
 | halt h w1=>
   cases h with
   | unsupported u=>
     cases u <;> first|(refine vV.after hr.1 (ev _ fun e he=>by first|exact he|simp at he) ?_;exact zT)|skip
     refine vV.after hr.1 (ev _ fun e he=>by first|exact he|simp at he) ?_
     obtain⟨o,w2,es2,e1,_⟩:=uZ S fr cs _ w1
     show vV w1 (early P fr cs none _ w1)
     rw[e1];trivial
   | fatal m=>
     refine vV.after hr.1 (ev _ fun e he=>by first|exact he|simp at he) ?_
     show vV w1 (endFatal P fr cs none m w1)
     unfold endFatal
     dsimp only
     repeat' split
     all_goals first|trivial|exact fun h=>by cases h
   | _=>exact vV.after hr.1 (ev _ fun e he=>by first|exact he|simp at he) (by first|exact bV|exact Cx|trivial)
theorem Gq{q:Question}{w w1:World}{t:Nat}(h:(choose q).run P w=.ok t w1):w1.heap=w.heap:=by
 simp only[choose,Sem.run] at h
 split at h <;> (cases h;rfl)
theorem TL(S:kE P F Z){fr:Frame}(hfr:Fr P F fr){cs:List Frame}{w:World}:vV w (stepG.exec P true true fr cs none w):=by
 have leave:∀jump:Option Code,vV w (match fr.roundOf with
  | none=>if jump matches none|some .ret then .go {frame:={fr with mode:=.returning },callers:=cs,status:=.running,dying:=none } w else .ended (.stuck BY (fr.pos P)) w
  | some l=>
    let (r,es):=(Instr.endRound l jump).runT P w #[]
    GStep.after (seen P fr.fn es) <| match r with
    | .ok v w=>doReturn P true fr cs none v w
    | .halt _ w=>.ended (.stuck eQ (fr.pos P)) w):=fun jump=>by
  obtain⟨fn,tmps,todo,defers,mode,kind,roundOf⟩:=fr
  cases roundOf with
  | none=>
    cases jump with
    | none=>exact bV
    | some c=>cases c <;> first|exact bV|exact zT
  | some l=>
    refine Ey (s:=Instr.endRound l jump) (f:=fun r=>match r with
     | .ok v w=>doReturn P true _ cs none v w
     | .halt _ w=>.ended (.stuck eQ (Frame.pos P _)) w) fun r=>?_
    cases r with
    | ok v w1=>exact mJ S hfr.kind hfr.fn
    | halt e w1=>exact zT
 obtain⟨fn,tmps,todo,defers,mode,kind,roundOf⟩:=fr
 have hk0:kind=.normal:=hfr.kind
 unfold stepG.exec
 cases todo with
 | nil=>exact leave none
 | cons i k=>
   cases i with
   | code c=>
     cases c with
     | skip=>exact bV
     | label l=>exact bV
     | ret=>exact leave (some .ret)
     | seq a b=>exact bV
     | cond x a b=>
       dsimp only
       generalize Frame.eval _ x=v
       cases v with
       | bool t=>exact bV
       | _=>exact zT
     | block id b=>exact bV
     | loop b=>exact bV
     | scope b=>exact bV
     | exit id=>
       have:=leave (some (.exit id))
       dsimp only at this⊢
       cases he:exitTo id k with
       | none=>exact this
       | some k'=>exact bV
     | goto l=>
       have:=leave (some (.goto l))
       dsimp only at this⊢
       cases he:gotoIn l k with
       | none=>exact this
       | some k'=>exact bV
     | region id ops draw=>
       cases draw with
       | false=>exact bV
       | true=>
         dsimp only
         cases hr:(choose (.order fn id)).run P w with
         | ok t w1=>exact Yd (Gq hr)
         | halt e w1=>exact zT
     | rangeFunc f params assign body=>
       have hr:=EW (P:=P) (Instr.enterLoop fn tmps params assign body roundOf) w #[]
       dsimp only
       generalize (Instr.enterLoop fn tmps params assign body roundOf).runT P w #[]=x at hr
       obtain⟨r,es⟩:=x
       refine vV.after hr.1 (fun e he=>(hr.2 e (fP he)).elim (fun h0=>by simp at h0) id) ?_
       cases r with
       | ok x w1=>exact jO S hk0
       | halt e w1=>exact zT
     | refuse y=>exact zT
   | inBlock id=>exact bV
   | inScope b=>exact bV
   | inLoop b=>exact bV
   | inRegion ops l=>
     cases l with
     | nil=>exact bV
     | cons j l=>
       dsimp only
       split
       ·unfold stepG.oper
        split
        ·exact zT
        ·dsimp only
         split
         ·exact jO S hk0
         ·exact jO S hk0
       ·exact bV
   | inRangeFunc l=>exact zT
   | beginRound=>exact jO S hk0
   | endRangeFunc l=>
     have hr:=EW (P:=P) (Instr.endLoop l) w #[]
     dsimp only
     generalize (Instr.endLoop l).runT P w #[]=x at hr
     obtain⟨r,es⟩:=x
     refine vV.after hr.1 (fun e he=>(hr.2 e (fP he)).elim (fun h0=>by simp at h0) id) ?_
     cases r with
     | ok x w1=>exact bV
     | halt e w1=>cases e <;> first|exact bV|exact zT
   | call x b c e=>exact jO S hk0
   | _=>
     rename_i row args
     dsimp only
     cases Extern.next row with
     | none=>exact zT
     | some x=>exact jO S hk0
theorem NV(S:kE P F Z){fr:Frame}(hfr:Fr P F fr){cs:List Frame}{w:World}:vV w (stepG P true (G fr cs) w):=by
 cases hm:fr.mode with
 | run=>simp only[stepG,G,hm];exact TL S hfr
 | returning=>simp only[stepG,G,hm];exact xS S hfr
 | panicking c=>simp only[stepG,G,hm];exact xS S hfr
def Ck(n:Nat)(l:Loc):Prop:=(∀a,l=.cell a→a.block<n)∧∀r,l=.obj r→r<n
def iG(t:Trace)(n:Nat):Prop:=∀op∈t,op.g=0∧(op.act≠.mark .disable∧op.act≠.mark .enable)∧(∀a,op.act≠.mark (.release a))∧∀x,op.act.touch?=some x→Ck n x.loc
theorem iG.nil(n:Nat):iG #[] n:=fun op h=>by simp at h
theorem Ck.le{n m:Nat}{l:Loc}(h:Ck n l)(k:n≤m):Ck m l:=⟨fun a e=>Nat.lt_of_lt_of_le (h.1 a e) k,fun r e=>Nat.lt_of_lt_of_le (h.2 r e) k⟩
theorem iG.app{t u:Trace}{n m:Nat}(h:iG t n)(k:n≤m)(hu:iG u m):iG (t ++ u) m:=fun op hop=>(Array.mem_append.1 hop).elim (fun h0=>let ⟨a,b,c,d⟩:=h op h0;⟨a,b,c,fun x hx=>(d x hx).le k⟩) (hu op)
theorem mo{n:Nat}{fn:FuncId}{pos:String}{es:Array Event}(hok:∀e∈es,FV Z e)(h:∀e∈es,kD n e):∀op∈MemOp.ofEvents 0 fn pos es,∀x,op.act.touch?=some x→Ck n x.loc:=fun op hop x hx=>by
 obtain⟨e,he,rfl⟩:=Go.Conc.mem_ofEvents hop
 have h1:=h e he
 obtain⟨loc,wr,sy⟩:=e
 rcases hok _ he with(h2|h2)|⟨a,h2,hz⟩|⟨r,h2,hz⟩
 ·simp only at h2;subst h2;cases hx
 ·simp only at h2;subst h2
  simp only[MemAct.ofEvent,MemAct.touch?,Option.some.injEq] at hx
  subst hx
  exact h1
 ·simp only at h2;subst h2
  simp only[MemAct.ofEvent,MemAct.touch?,Option.some.injEq] at hx
  subst hx
  exact h1
 ·simp only at h2;subst h2
  cases wr <;> cases sy <;> simp only[MemAct.ofEvent,MemAct.touch?,Option.some.injEq] at hx <;> first|cases hx;done|(subst hx;exact h1)
theorem sQ{n:Nat}{u:Trace}(h:∀op∈u,Xx Z op)(h2:∀op∈u,∀x,op.act.touch?=some x→Ck n x.loc):iG u n:=fun op hop=>let ⟨a,b,_,d⟩:=h op hop;⟨a,b,d,h2 op hop⟩
theorem PN{Fc:Fence}(S:kE P Fc.fn Z){I:Machine→Prop}(hI:∀m,I m→m.fenced P Fc)(hal:Fc.alive=true){a:Pt}(ok:a.Ok P Fc.fn Z){m1:Machine}{fr':Frame}{cs':List Frame}{v':World}(hI0:I a.m)(hs:step P a.m=.next m1)
 (hp:StepsIn I P m1 (solo (G fr' cs') v')):∃ (b:Pt) (ops:Trace),m1=b.m∧b.Ok P Fc.fn Z∧stepT P a.m=(.next b.m,ops)∧a.w.heap.size≤b.w.heap.size∧iG ops b.w.heap.size:=by
 have hsl:=yR S ok.fr ok.cs ok.lv (fun f hf=>(hI _ hI0 (G a.fr a.cs) (by simp[Pt.m,solo])).2.2.1 f hf)
 have hin:=NV S ok.fr (cs:=a.cs) (w:=a.w)
 have hT:stepT P a.m=runT P (solo (G a.fr a.cs) a.w) 0:=by rw[Pt.m,stepT_solo rfl]
 rw[step,hT] at hs
 unfold SL at hsl
 dsimp only at hsl
 cases hgw:stepG P true (G a.fr a.cs) a.w with
 | go g' w' es=>
   rw[hgw] at hsl hin
   rw[runT_solo_go hgw] at hs hT
   cases hs
   rcases hsl with hd|⟨⟨Ru,cs2,rfl,h1,h2⟩,n,M⟩
   ·exact(jJ hI hal hd hp).elim
   have hin':=hin rfl
   exact⟨⟨Ru,cs2,w'⟩,_,rfl,⟨h1,h2,M.2.2.1⟩,hT,hin'.1,sQ (jX M.2.2.2.1) (mo M.2.2.2.1 hin'.2)⟩
 | comm g' cases b sh w' es=>
   rw[hgw] at hsl hin
   obtain⟨⟨Ru,cs2,rfl,h1,h2⟩,⟨rfl,⟨ch,send,z⟩,UU,rfl,hsend,rfl⟩,n,M⟩:=hsl
   simp only at hsend
   subst hsend
   have ho1:kT #[G a.fr a.cs]:=fun i g hi hg=>by
    rw[Array.getElem?_eq_none zm] at hg;cases hg
   rw[solo_eq_crowd] at hs hT
   rcases q9 (P:=P) (gs:=#[G a.fr a.cs]) (sl:=none) rfl ho1 hgw with⟨o,w2,e⟩|⟨g',ops,hg',e⟩|⟨r,cap,buf,closed,s,q,tm,rfl,hc,hb⟩
   ·rw[e] at hs;cases hs
   ·rw[e] at hs
    cases hs
    exact(jJ (g:=g') hI hal (.inr (.inl hg')) hp).elim
   ·have hnz:¬ Z r:=fun hz=>by
     have:=M.2.2.1.dead r hz
     rw[this] at hc
     simp[X0] at hc
    obtain⟨ops,hops,e⟩:=uM (P:=P) (gs:=#[G a.fr a.cs]) (sl:=none) rfl ho1 hgw hc hb
    rw[e] at hs hT
    simp only[Stepped.next.injEq] at hs
    have hsz:w'.heap.size≤(lX w' r cap buf closed s q tm).heap.size:=by
     unfold lX
     split <;> simp[World.setChan]
    refine⟨⟨Ru.finish (LK UU z buf),cs2,lX w' r cap buf closed s q tm⟩,_,hs.symm,⟨h1.finish _,h2,ET M.2.2.1 hnz⟩,hT,Nat.le_trans hin.1 hsz,iG.app (sQ (jX M.2.2.2.1) (mo M.2.2.2.1 hin.2)) hsz fun op hop=>?_⟩
    obtain⟨k1,k2,k3⟩:=hops op hop
    exact⟨k1,⟨k3 _,k3 _⟩,fun a=>k3 _,fun x hx=>(by rw[k2] at hx;cases hx)⟩
 | ended o w' es=>
   rw[aV hgw] at hs
   cases hs
 | spawn g' child w' es=>
   exfalso
   have h1:=rD (P:=P) hp
   rw[runT_solo_spawn hgw] at hs
   cases hs
   simp[solo,duo] at h1
 | _=>rw[hgw] at hsl;exact hsl.elim
end
end Go.dP
