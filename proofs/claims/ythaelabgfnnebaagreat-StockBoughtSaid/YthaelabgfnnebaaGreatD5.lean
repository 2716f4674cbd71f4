/- Far12 Far13 Far14 Far15 Far16 -/
import Derived.Test.YthaelabgfnnebaaGreatD4
import Derived.Test.YthaelabgfnnebaaGreatC9
set_option maxRecDepth 100000
set_option maxHeartbeats 16000000
set_option linter.unusedVariables false
set_option linter.unusedSectionVars false
open Go.IntKind(i64)
open Go.Value(int)
namespace Go.dN
section
open Go.Conc
variable{P:Program}{Z:Env}{F:FuncId→Prop}
def kL(gs:Array Goroutine):Prop:=∀i g,0<i→gs[i]? =some g→g.status=.running∨g.status=.finished
def Et(Z:Env)(l:Loc):Prop:=(∃a,l=.cell a∧¬ Z a.block)∨(∃r,l=.obj r∧¬ Z r)∨l=.output
def UQ(Z:Env)(op:MemOp):Prop:=op.g=0∧(op.act≠.mark .disable∧op.act≠.mark .enable)∧(∀x,op.act.touch?=some x→Et Z x.loc)∧∀a,op.act≠.mark (.release a)
structure Pt where
 fr:Frame
 cs:List Frame
 w:World
def Pt.on(a:Pt)(σ:Tape):Pt:=⟨a.fr,a.cs,{a.w with tape:=σ }⟩
def Pt.m(a:Pt):Machine:=solo (G a.fr a.cs) a.w
structure Pt.Ok(P:Program)(F:FuncId→Prop)(Z:Env)(a:Pt):Prop where
 fr:Fr P F a.fr
 cs:∀c∈a.cs,Fr P F c
 lv:Lv Z a.w
def gh(P:Program)(F:FuncId→Prop)(Z:Env)(a b:Pt):Prop:=b.Ok P F Z∧b.w.tape=a.w.tape∧∃n,b.w.drawn=a.w.drawn+n∧
 ∀ {K:Nat→Option Obj} (gs:Array Goroutine) (v:World) (sl:Option (Nat × Nat)),gs[0]? =some (G a.fr a.cs)→kL gs→oG Z K a.w v→Agree n a.w v→∃gs2 v2 ops,runT P (crowd gs v sl) 0=(.next (crowd gs2 v2 sl),ops)∧gs2.size=gs.size∧gs2[0]? =some (G b.fr b.cs)∧
   (∀i,0<i→gs2[i]? =gs[i]?)∧oG Z K b.w v2∧v2.drawn=v.drawn+n∧v2.tape=v.tape∧∀op∈ops,UQ Z op
theorem mK{g:Goroutine}{w:World}{m1:Machine}(h:g.status=.blocked∨g.status=.waiting∨g.status=.finished)(hs:step P (solo g w)=.next m1):m1=solo g w:=by
 rw[step,stepT] at hs
 rcases h with h|h|h
 ·simp[move,ask,askOn,solo,runnable_eq,due,ahead,Goroutine.canRun,List.range_succ,pure,h] at hs
  split at hs <;> rename_i heq <;> split at heq <;> simp_all
 ·simp[move,ask,askOn,solo,runnable_eq,due,ahead,Goroutine.canRun,List.range_succ,pure,h] at hs
  rw[← hs];simp[solo]
 ·simp[move,ask,askOn,solo,runnable_eq,due,ahead,Goroutine.canRun,List.range_succ,pure,h] at hs
  split at hs <;> rename_i heq <;> split at heq <;> simp_all
theorem DR{I:Machine→Prop}{m m':Machine}(h:StepsIn I P m m'):∀ {g:Goroutine} {w:World},m=solo g w→(g.status=.blocked∨g.status=.waiting∨g.status=.finished)→m'=solo g w:=by
 induction h with
 | refl m=>intro g w e _;exact e
 | head hI hs _ ih=>
   intro g w e hd
   subst e
   exact ih (mK hd hs) hd
theorem wX{g g':Goroutine}{w w':World}(h:solo g w=solo g' w'):g=g'∧w=w':=by
 have h1:=congrArg Machine.gs h
 have h2:=congrArg Machine.world h
 exact⟨Array.singleton_inj.1 h1,h2⟩
theorem jr{I:Machine→Prop}{Fc:Fence}(hI:∀m,I m→m.fenced P Fc)(hal:Fc.alive=true){g:Goroutine}{w v:World}{fr:Frame}{cs:List Frame}(hd:Dead g)(h:StepsIn I P (solo g w) (solo (G fr cs) v)):False:=by
 rcases hd with hd|hd
 ·generalize hm:solo g w=m at h
  generalize hm':solo (G fr cs) v=m' at h
  cases h with
  | refl=>
    subst hm'
    have e:=(wX hm).1
    subst e
    exact hd rfl
  | head hI0 _ _=>
    subst hm
    have:=(hI _ hI0 g (by simp[solo])).1 hal
    rw[Option.isNone_iff_eq_none] at this
    exact hd this
 ·have e:=DR h rfl hd
  have e:=(wX e).1
  subst e
  rcases hd with hd|hd|hd <;> cases hd
theorem aU{a:Goroutine}{w w':World}{o:Outcome}{es:Array Event}(h:stepG P true a w=.ended o w' es):(runT P (solo a w) 0).1=.ended o w':=by
 simp[runT,solo,Array.swapAt!,Array.swapAt,h,GStep.es]
section
variable{gs:Array Goroutine}{w w1:World}{sl:Option (Nat × Nat)}{g g2:Goroutine}{es:Array Event}{cases:Array CommCase}{b:Bool}{shape:CommShape}
theorem M0(hi:gs[0]? =some g)(h:stepG P true g w=.comm g2 cases b shape w1 es)(hx:cases.any (illMade w1)=true):∃o w',(runT P (crowd gs w sl) 0).1=.ended o w':=by
 rw[runT_crowd_comm (i:=0) hi h]
 unfold communicate
 dsimp only
 rw[if_pos]
 ·exact⟨_,_,rfl⟩
 ·exact hx
theorem jL(ho:kL gs)(r:Nat)(send:Bool):partners (gs.setIfInBounds 0 ph) r send=[]:=
 partners_nil fun j g hj=>by
  rcases getElem?_stand gs 0 j g hj with⟨_,rfl⟩|⟨hne,hg⟩
  ·exact offersAt_ph r send
  ·refine offersAt_of_not_blocked (fun e=>?_) r send
   rcases ho j g zo hg with h|h <;> rw[h] at e <;> cases e
end
theorem qz{gs:Array Goroutine}{w w1:World}{sl:Option (Nat × Nat)}{g:Goroutine}{fr:Frame}{cs:List Frame}{es:Array Event}{ch z:Value}{ok:Bool}
 (hi:gs[0]? =some g)(ho:kL gs)(h:stepG P true g w=.comm (G fr cs) #[⟨ch,none,z⟩] true (.recv ok) w1 es):
 (∃o w',(runT P (crowd gs w sl) 0).1=.ended o w')∨
 (∃g' ops,g'.status=.blocked∧runT P (crowd gs w sl) 0=(.next (crowd (gs.setIfInBounds 0 g') w1 sl),ops))∨
 (∃r cap buf closed s q tm,ch=.chan (some r)∧w1.heap[r]? =some (.chan cap buf closed s q tm)∧(0<buf.size∨buf=#[]∧closed=true)):=by
 have wait:illMade w1 ⟨ch,none,z⟩=false→ways w1 (gs.setIfInBounds 0 ph) ⟨ch,none,z⟩=[]→∃g' ops,g'.status=.blocked∧runT P (crowd gs w sl) 0=(.next (crowd (gs.setIfInBounds 0 g') w1 sl),ops):=fun h1 h2=>
  ⟨_,_,rfl,crowd_waits (i:=0) hi h fun cc hcc=>by
    obtain rfl:cc=⟨ch,none,z⟩:=by simpa using hcc
    exact⟨h1,h2⟩⟩
 have ill:illMade w1 ⟨ch,none,z⟩=true→∃o w',(runT P (crowd gs w sl) 0).1=.ended o w':=fun h1=>M0 hi h (by simp[h1])
 cases ch with
 | chan c=>
   cases c with
   | none=>exact .inr (.inl (wait rfl rfl))
   | some r=>
     cases hr:w1.heap[r]? with
     | none=>exact .inl (ill (by simp[illMade,hr]))
     | some x=>
       cases x with
       | chan cap buf closed s q tm=>
         by_cases hb:0<buf.size
         ·exact .inr (.inr ⟨r,cap,buf,closed,s,q,tm,rfl,hr,.inl hb⟩)
         ·have hb0:buf=#[]:=Array.eq_empty_of_size_eq_zero zo
          cases closed with
          | true=>exact .inr (.inr ⟨r,cap,buf,true,s,q,tm,rfl,hr,.inr ⟨hb0,rfl⟩⟩)
          | false=>exact .inr (.inl (wait (by simp[illMade,hr]) (by subst hb0;simp[ways,hr,jL ho])))
       | _=>exact .inl (ill (by simp[illMade,hr]))
 | _=>exact .inl (ill (by simp[illMade]))
def JY(ok:Bool)(z:Value)(buf:Array Value):Value:=recvd ok (if 0<buf.size then buf.getD 0 undef else z) (decide (0<buf.size))
def lH(w:World)(r cap:Nat)(buf:Array Value)(closed:Bool)(s q:Nat)(tm:Bool):World:=if 0<buf.size then w.setChan r cap (buf.extract 1 buf.size) closed s (q+1) tm else w
section
variable{w v:World}{r cap s q:Nat}{buf:Array Value}{closed tm:Bool}
theorem fE:(lH w r cap buf closed s q tm).drawn=w.drawn∧(lH w r cap buf closed s q tm).tape=w.tape:=by unfold lH;split <;> exact⟨rfl,rfl⟩
theorem DI(h:Lv Z w)(hz:¬ Z r):Lv Z (lH w r cap buf closed s q tm):=by
 unfold lH
 split
 ·exact h.set hz trivial
 ·exact h
theorem Gg{K:Nat→Option Obj}(hz:¬ Z r)(h:oG Z K w v):oG Z K (lH w r cap buf closed s q tm) (lH v r cap buf closed s q tm):=by
 unfold lH
 split
 ·exact h.set hz _
 ·exact h
end
theorem sS{gs:Array Goroutine}{w w1:World}{sl:Option (Nat × Nat)}{g:Goroutine}{fr:Frame}{cs:List Frame}{es:Array Event}{z:Value}{ok:Bool}{r cap s q:Nat}{buf:Array Value}{closed tm:Bool}
 (hi:gs[0]? =some g)(ho:kL gs)(h:stepG P true g w=.comm (G fr cs) #[⟨.chan (some r),none,z⟩] true (.recv ok) w1 es)(hc:w1.heap[r]? =some (.chan cap buf closed s q tm))(hb:0<buf.size∨buf=#[]∧closed=true):
 ∃ops,(∀op∈ops,op.g=0∧op.act.touch?=none∧∀m,op.act≠.mark m)∧runT P (crowd gs w sl) 0=(.next (crowd (gs.setIfInBounds 0 (G (fr.finish (JY ok z buf)) cs)) (lH w1 r cap buf closed s q tm) sl),
  MemOp.ofEvents 0 g.frame.fn g.frame.place es ++ ops):=by
 rcases hb with hb|⟨rfl,rfl⟩
 ·have e:=crowd_recv_buf (P:=P) (sl:=sl) (i:=0) (z:=z) hi h hc hb (jL ho r true)
  rw[finishComm_recv] at e
  simp only[JY,lH,if_pos hb,decide_eq_true hb]
  exact⟨_,by simp[MemAct.touch?],e⟩
 ·have e:=crowd_recv_closed (P:=P) (sl:=sl) (i:=0) (z:=z) hi h hc (jL ho r true)
  rw[finishComm_recv] at e
  exact⟨_,by simp[MemAct.touch?],e⟩
theorem jN{fn:FuncId}{pos:String}{es:Array Event}(h:∀e∈es,Ep Z e):∀op∈MemOp.ofEvents 0 fn pos es,UQ Z op:=fun op hop=>by
 obtain⟨e,he,rfl⟩:=Go.Conc.mem_ofEvents hop
 obtain⟨loc,wr,sy⟩:=e
 refine⟨rfl,?_,fun x hx=>?_,fun a=>?_⟩
 ·rcases h _ he with(h|h)|⟨a,h,hz⟩|⟨r,h,hz⟩ <;> simp only at h <;> subst h <;> cases wr <;> cases sy <;> simp[MemAct.ofEvent]
 ·rcases h _ he with(h|h)|⟨a,h,hz⟩|⟨r,h,hz⟩
  ·simp only at h
   subst h
   cases hx
  ·simp only at h
   subst h
   simp only[MemAct.ofEvent,MemAct.touch?,Option.some.injEq] at hx
   subst hx
   exact .inr (.inr rfl)
  ·simp only at h
   subst h
   simp only[MemAct.ofEvent,MemAct.touch?,Option.some.injEq] at hx
   subst hx
   exact .inl ⟨a,rfl,hz⟩
  ·simp only at h
   subst h
   cases wr <;> cases sy <;> simp only[MemAct.ofEvent,MemAct.touch?,Option.some.injEq] at hx <;> first|cases hx;done|(subst hx;exact .inr (.inl ⟨r,rfl,hz⟩))
 ·rcases h _ he with(h|h)|⟨a,h,hz⟩|⟨r,h,hz⟩ <;> simp only at h <;> subst h <;> cases wr <;> cases sy <;> simp[MemAct.ofEvent]
theorem qC{I:Machine→Prop}{m m':Machine}(h:StepsIn I P m m'):m.gs.size≤m'.gs.size:=by
 induction h with
 | refl=>exact Nat.le_refl _
 | head _ hs _ ih=>exact Nat.le_trans (stepT_size P _ _ _ hs) ih
theorem LJ{Fc:Fence}(S:jW P Fc.fn Z){I:Machine→Prop}(hI:∀m,I m→m.fenced P Fc)(hal:Fc.alive=true){a:Pt}(ok:a.Ok P Fc.fn Z){m1:Machine}{fr':Frame}{cs':List Frame}{v':World}(hI0:I a.m)(hs:step P a.m=.next m1)
 (hp:StepsIn I P m1 (solo (G fr' cs') v')):∃b,m1=b.m∧gh P Fc.fn Z a b:=by
 have hsl:=xu S ok.fr ok.cs ok.lv (fun f hf=>(hI _ hI0 (G a.fr a.cs) (by simp[Pt.m,solo])).2.2.1 f hf)
 rw[Pt.m,step,stepT_solo rfl] at hs
 unfold SL at hsl
 dsimp only at hsl
 cases hgw:stepG P true (G a.fr a.cs) a.w with
 | go g' w' es=>
   rw[hgw] at hsl
   rw[runT_solo_go hgw] at hs
   cases hs
   rcases hsl with hd|⟨⟨Pn,cs2,rfl,h1,h2⟩,n,M⟩
   ·exact(jr hI hal hd hp).elim
   refine⟨⟨Pn,cs2,w'⟩,rfl,⟨h1,h2,M.2.2.1⟩,M.2.1,n,M.1,fun gs v sl h0 ho jJ hag=>?_⟩
   obtain⟨v1,e1,s1,d1,t1⟩:=M.2.2.2.2 v jJ hag
   have hlt:0<gs.size:=(Array.getElem?_eq_some_iff.1 h0).1
   refine⟨_,v1,_,runT_crowd_go (i:=0) h0 e1,zs,by simp[hlt],fun i hi=>?_,s1,d1,t1,jN M.2.2.2.1⟩
   rw[Array.getElem?_setIfInBounds_ne zo,Array.getElem?_map]
   cases hg:gs[i]? with
   | none=>rfl
   | some g=>
     have:woken P (G a.fr a.cs) (G Pn cs2) v1 g=g:=by
      unfold woken
      split
      ·exact again_running _ (ho i g hi hg)
      ·rfl
     simp[this]
 | comm g' cases b sh w' es=>
   rw[hgw] at hsl
   obtain⟨⟨Pn,cs2,rfl,h1,h2⟩,⟨rfl,⟨ch,send,z⟩,Sv,rfl,hsend,rfl⟩,n,M⟩:=hsl
   simp only at hsend
   subst hsend
   have ho1:kL #[G a.fr a.cs]:=fun i g hi hg=>by
    rw[Array.getElem?_eq_none zm] at hg;cases hg
   rw[solo_eq_crowd] at hs
   rcases qz (P:=P) (gs:=#[G a.fr a.cs]) (sl:=none) rfl ho1 hgw with⟨o,w2,e⟩|⟨g',ops,hg',e⟩|⟨r,cap,buf,closed,s,q,tm,rfl,hc,hb⟩
   ·rw[e] at hs;cases hs
   ·rw[e] at hs
    cases hs
    exact(jr (g:=g') hI hal (.inr (.inl hg')) hp).elim
   ·have hnz:¬ Z r:=fun hz=>by
     have:=M.2.2.1.dead r hz
     rw[this] at hc
     simp[X0] at hc
    obtain⟨ops,_,e⟩:=sS (P:=P) (gs:=#[G a.fr a.cs]) (sl:=none) rfl ho1 hgw hc hb
    rw[e] at hs
    simp only[Stepped.next.injEq] at hs
    refine⟨⟨Pn.finish (JY Sv z buf),cs2,lH w' r cap buf closed s q tm⟩,hs.symm,⟨h1.finish _,h2,DI M.2.2.1 hnz⟩,fE.2.trans M.2.1,n,fE.1.trans M.1,fun gs v sl h0 ho jJ hag=>?_⟩
    obtain⟨v1,e1,s1,d1,t1⟩:=M.2.2.2.2 v jJ hag
    have hlt:0<gs.size:=(Array.getElem?_eq_some_iff.1 h0).1
    obtain⟨ops,hops,e⟩:=sS (P:=P) (gs:=gs) (sl:=sl) h0 ho e1 ((s1.same r hnz).trans hc) hb
    refine⟨_,_,_,e,zs,by simp[hlt],fun i hi=>Array.getElem?_setIfInBounds_ne zo,Gg hnz s1,fE.1.trans d1,fE.2.trans t1,fun op hop=>?_⟩
    rcases Array.mem_append.1 hop with hop|hop
    ·exact jN M.2.2.2.1 op hop
    ·obtain⟨k1,k2,k3⟩:=hops op hop
     exact⟨k1,⟨k3 _,k3 _⟩,fun x hx=>(by rw[k2] at hx;cases hx),fun a=>k3 _⟩
 | ended o w' es=>
   rw[aU hgw] at hs
   cases hs
 | spawn g' child w' es=>
   exfalso
   have h1:=qC (P:=P) hp
   rw[runT_solo_spawn hgw] at hs
   cases hs
   simp[solo,duo] at h1
 | _=>rw[hgw] at hsl;exact hsl.elim
end
section
open Go.Conc
variable{P:Program}{Z:Env}
def Qu(P:Program)(Fc:Fence)(St:Frame→List Frame→Prop)(m:Machine):Prop:=m.fenced P Fc∧∀fr cs,m.gs[0]? =some (G fr cs)→¬ St fr cs
def Way(P:Program)(Fc:Fence)(St:Frame→List Frame→Prop)(Post:Pt→Prop)(a:Pt):Prop:=∃b:Pt,StepsIn (Qu P Fc St) P a.m b.m∧St b.fr b.cs∧Post b
structure kZ(P:Program)(Fc:Fence)(Z:Env)(St:Frame→List Frame→Prop)(b a:Pt):Prop where
 ok:a.Ok P Fc.fn Z
 not:¬ St a.fr a.cs
 more:∃τ:Tape,(∀j,j<a.w.drawn→τ j=a.w.tape j)∧step P (a.on τ).m=.next b.m∧gh P Fc.fn Z (a.on τ) b
inductive Qw (P:Program) (Fc:Fence) (Z:Env) (St:Frame→List Frame→Prop) (s0:Pt):Pt→Prop
 | refl:Qw P Fc Z St s0 s0
 | step {a b:Pt}:Qw P Fc Z St s0 a→kZ P Fc Z St b a→Qw P Fc Z St s0 b
section
variable{Fc:Fence}{St:Frame→List Frame→Prop}{Post:Pt→Prop}
theorem JX{a b:Pt}(h:a.m=b.m):a=b:=by
 obtain⟨h1,h2⟩:=wX h
 obtain⟨fr,cs,w⟩:=a
 obtain⟨fr',cs',w'⟩:=b
 have e1:fr=fr':=congrArg Goroutine.frame h1
 have e2:cs=cs':=congrArg Goroutine.callers h1
 have e3:w=w':=h2
 rw[e1,e2,e3]
theorem Pt.Ok.on{a:Pt}(h:a.Ok P Fc.fn Z)(σ:Tape):(a.on σ).Ok P Fc.fn Z:=⟨h.fr,h.cs,⟨h.lv.dead,h.lv.live⟩⟩
theorem Way.first(S:jW P Fc.fn Z)(hal:Fc.alive=true){a:Pt}(ok:a.Ok P Fc.fn Z)(h:Way P Fc St Post a):(St a.fr a.cs∧Post a)∨(¬ St a.fr a.cs∧∃b,step P a.m=.next b.m∧gh P Fc.fn Z a b∧Way P Fc St Post b):=by
 obtain⟨c,hp,hs,hpost⟩:=h
 generalize hm:a.m=m at hp
 generalize hm':c.m=m' at hp
 cases hp with
 | refl=>
   subst hm'
   obtain rfl:=JX hm
   exact .inl ⟨hs,hpost⟩
 | head hI hst hp=>
   subst hm
   subst hm'
   refine .inr ⟨hI.2 _ _ (by simp[Pt.m,solo]),?_⟩
   obtain⟨b,rfl,hn⟩:=LJ S (fun m h=>h.1) hal ok hI hst hp
   exact⟨b,hst,hn,c,hp,hs,hpost⟩
theorem gh.drawn{F:FuncId→Prop}{a b:Pt}(h:gh P F Z a b):a.w.drawn≤b.w.drawn:=by
 obtain⟨_,_,n,h,_⟩:=h
 omega
theorem yE{g g2:Goroutine}{gs2:Array Goroutine}{w v2:World}{sl:Option (Nat × Nat)}(h:crowd gs2 v2 sl=solo g w)(hg:gs2[0]? =some g2):g2=g∧v2=w:=by
 have h1:=congrArg Machine.gs h
 have h2:=congrArg Machine.world h
 simp only[crowd,solo] at h1 h2
 subst h1
 exact⟨by simpa using hg.symm,h2⟩
theorem Bu{F:FuncId→Prop}{a b b':Pt}{τ σ:Tape}(ha:a.Ok P F Z)(h:gh P F Z (a.on τ) b)(hσ:∀j,j<b.w.drawn→σ j=b.w.tape j)(hs:step P (a.on σ).m=.next b'.m)(hl:Lv Z b'.w):b'=b.on σ:=by
 obtain⟨hb,ht,n,hd,hc⟩:=h
 obtain⟨gs2,v2,ops,e,hsz,h0,_,s2,d2,t2,_⟩:=hc #[G a.fr a.cs] {a.w with tape:=σ } none rfl (fun i g hi hg=>by
  rw[Array.getElem?_eq_none zm] at hg;cases hg) (K:=fun _=>none) ⟨rfl,fun _ _=>rfl,rfl,rfl,fun _ _ _ hk _=>by cases hk⟩ (fun k hk q=>by
   show σ (a.w.drawn+k) q=τ (a.w.drawn+k) q
   have hd':b.w.drawn=a.w.drawn+n:=hd
   rw[hσ _ zo,ht]
   rfl)
 rw[step,Pt.m,stepT_solo rfl,solo_eq_crowd] at hs
 have hs':(runT P (crowd #[G a.fr a.cs] {a.w with tape:=σ } none) 0).1=.next b'.m:=hs
 rw[e] at hs'
 simp only[Stepped.next.injEq] at hs'
 obtain⟨e1,e2⟩:=yE hs' h0
 obtain⟨fr,cs,w'⟩:=b'
 have f1:b.fr=fr:=congrArg Goroutine.frame e1
 have f2:b.cs=cs:=congrArg Goroutine.callers e1
 simp only at e2 hl
 subst e2
 have hh:v2.heap=b.w.heap:=by
  apply Array.ext_getElem?
  intro i
  by_cases hz:Z i
  ·rw[hl.dead i hz,hb.lv.dead i hz]
  ·exact s2.same i hz
 obtain⟨heap,tape,drawn,os,output⟩:=v2
 have q1:=s2.os
 have q2:=s2.output
 simp only at hh d2 t2 q1 q2
 unfold Pt.on
 rw[f1,f2]
 congr 1
 rw[hh,q1,q2,t2,d2]
 congr 1
 exact hd.symm
theorem xR(S:jW P Fc.fn Z)(hal:Fc.alive=true){s0:Pt}(H:∀σ:Tape,Way P Fc St Post (s0.on σ)):
 ∀ {u:Pt},Qw P Fc Z St s0 u→∀σ:Tape,(∀j,j<u.w.drawn→σ j=u.w.tape j)→Way P Fc St Post (u.on σ):=by
 intro u h
 induction h with
 | refl=>intro σ _;exact H σ
 | @step a b _ hs ih=>
   intro σ hσ
   obtain⟨τ,hτ,hst,hn⟩:=hs.more
   have hmono:a.w.drawn≤b.w.drawn:=hn.drawn
   rcases(ih σ fun j hj=>by
    rw[hσ j zo,hn.2.1]
    exact hτ j hj).first S hal (hs.ok.on σ) with⟨h1,_⟩|⟨_,b',hst',hn',hw⟩
   ·exact absurd h1 hs.not
   ·rw[← Bu hs.ok hn hσ hst' hn'.1.lv]
    exact hw
theorem Iu(S:jW P Fc.fn Z)(hal:Fc.alive=true){s0:Pt}(H:∀σ:Tape,Way P Fc St Post (s0.on σ)):Acc (kZ P Fc Z St) s0:=by
 refine Classical.byContradiction fun hn=>?_
 have next:∀a:{a:Pt // ¬ Acc (kZ P Fc Z St) a },∃b:{a:Pt // ¬ Acc (kZ P Fc Z St) a },kZ P Fc Z St b.1 a.1:=fun a=>by
  refine Classical.byContradiction fun h=>a.2 ⟨a.1,fun b hb=>Classical.byContradiction fun hb2=>h ⟨⟨b,hb2⟩,hb⟩⟩
 let f:Nat→{a:Pt // ¬ Acc (kZ P Fc Z St) a }:=fun n=>Nat.rec ⟨s0,hn⟩ (fun _ a=>Classical.choose (next a)) n
 have hf:∀i,kZ P Fc Z St (f (i+1)).1 (f i).1:=fun i=>Classical.choose_spec (next (f i))
 have mono:∀i,(f i).1.w.drawn≤(f (i+1)).1.w.drawn:=fun i=>by
  obtain⟨τ,_,_,hn⟩:=(hf i).more
  exact hn.drawn
 have S9:∀i j,j<(f i).1.w.drawn→(f (i+1)).1.w.tape j=(f i).1.w.tape j:=fun i j hj=>by
  obtain⟨τ,hτ,_,hn⟩:=(hf i).more
  rw[hn.2.1];exact hτ j hj
 have mono':∀i k,(f i).1.w.drawn≤(f (i+k)).1.w.drawn:=fun i k=>by
  induction k with
  | zero=>exact Nat.le_refl _
  | succ k ih=>exact Nat.le_trans ih (mono (i+k))
 have same:∀i k j,j<(f i).1.w.drawn→(f (i+k)).1.w.tape j=(f i).1.w.tape j:=fun i k j hj=>by
  induction k with
  | zero=>rfl
  | succ k ih=>exact(S9 (i+k) j (Nat.lt_of_lt_of_le hj (mono' i k))).trans ih
 classical
 let σ:Tape:=fun j=>if h:∃i,j<(f i).1.w.drawn then(f (Classical.choose h)).1.w.tape j else fun _=>0
 have hσ:∀i j,j<(f i).1.w.drawn→σ j=(f i).1.w.tape j:=fun i j hj=>by
  have hx:∃i,j<(f i).1.w.drawn:=⟨i,hj⟩
  have e:σ j=(f (Classical.choose hx)).1.w.tape j:=dif_pos hx
  rw[e]
  have hc:=Classical.choose_spec hx
  generalize Classical.choose hx=c at hc
  rcases Nat.le_total c i with l|l
  ·obtain⟨k,rfl⟩:=Nat.exists_eq_add_of_le l
   exact(same c k j hc).symm
  ·obtain⟨k,rfl⟩:=Nat.exists_eq_add_of_le l
   exact same i k j hj
 obtain⟨c,hp,hs,_⟩:=H σ
 have key:∀ {m m':Machine},StepsIn (Qu P Fc St) P m m'→m'=c.m→∀i,m=((f i).1.on σ).m→False:=by
  intro m m' h
  induction h with
  | refl m=>
    rintro rfl i e
    have:=JX e
    subst this
    exact(hf i).not hs
  | @head m m1 m2 hI hst hp ih=>
    rintro rfl i rfl
    obtain⟨b',rfl,hn'⟩:=LJ S (fun m h=>h.1) hal ((hf i).ok.on σ) hI hst hp
    obtain⟨τ,hτ,_,hn⟩:=(hf i).more
    have:=Bu (hf i).ok hn (hσ (i+1)) hst hn'.1.lv
    exact ih rfl (i+1) (by rw[this])
 exact key hp rfl 0 rfl
end
end
section
open Go.Conc Go.ConcN Go.aO
open Go.ConcR (g_of_ofEvents)
variable[Inhabited cu.aS]{P:Program}{Z:Env}
section
variable{Shun:Loc→Prop}{t u:Trace}
theorem Aj(h:After Shun t)(hS:∀l,Shun l→¬ Et Z l)(hu:∀op∈u,UQ Z op):After Shun (t ++ u):=by
 have h0:∀op∈u,op.g=0:=fun op hop=>(hu op hop).1
 refine⟨fun said=>noRace_append (h.clean said) h0 fun i a ha op hop x hx hc=>?_,fun i a ha hm=>?_,handedOver_app h.over fun op hop=>.inl (h0 op hop),?_⟩
 ·rcases h.known i a ha hc.2.1 with hk|⟨h1,h2⟩
  ·exact hk
  ·exact absurd ((hu op hop).2.2.1 x hx) (hS _ (hc.1 ▸ h1))
 ·obtain⟨op,hop,hx⟩:=touch_of ha
  rcases getElem?_append_cases hop with⟨hi,hop'⟩|⟨_,hopu⟩
  ·rcases h.known i a (by rw[touchAt_of hop'];exact hx) hm with hk|hk
   ·exact .inl (hk.app _)
   ·exact .inr hk
  ·have:=knows_own hop
   rw[h0 op hopu] at this
   exact .inl this
 ·rw[Deaf_still t 0 u fun op hop=>(hu op hop).2.1];exact h.hears
end
theorem NU{gs:Array Goroutine}{t:Trace}{q:Nat→Nat}(h:Leavers P t gs q):kL gs:=fun i g hi hg=>(h.old i g hi hg).status
theorem sw{gs:Array Goroutine}{a:Goroutine}{t:Trace}{q:Nat→Nat}(h0:gs[0]? =some a)(hrun:a.status=.running)(h:Leavers P t gs q):∀g∈gs,awake g:=by
 intro g hg
 obtain⟨i,hi⟩:=Array.mem_iff_getElem?.1 hg
 rcases Nat.eq_zero_or_pos i with rfl|hpos
 ·rw[h0] at hi;cases hi;exact awake_of (.inl hrun)
 ·exact awake_of ((h.old i g hpos hi).status.elim .inl fun x=>.inr (.inr x))
theorem nI{gs:Array Goroutine}{a:Goroutine}{t:Trace}{q:Nat→Nat}{Shun:Loc→Prop}{w:World}{sl:Option (Nat × Nat)}(h0:gs[0]? =some a)(hrun:a.status=.running)(hL:Leavers P t gs q)(hA:After Shun t)
 {i:Nat}{g:Goroutine}(hi:gs[i]? =some g)(hg:g.status=.running)(hpos:0<i):
 ∃gs' ops q',runT P (crowd gs w sl) i=(.next (crowd gs' w sl),ops)∧gs'.size=gs.size∧gs'[0]? =some a∧Leavers P (t ++ ops) gs' q'∧After Shun (t ++ ops)∧sumTo gs.size q'<sumTo gs.size q:=by
 have hq:=hL.old i g hpos hi
 have hi0:(i == 0)=false:=zm
 have hlt:i<gs.size:=(Array.getElem?_eq_some_iff.1 hi).1
 cases hqi:q i with
 | zero=>rw[hqi] at hq;rw[hq.1] at hg;cases hg
 | succ k=>
   rw[hqi] at hq
   rcases hq with⟨hf,_⟩|⟨_,g',es,hm,hstp,hq'⟩
   ·rw[hf] at hg;cases hg
   have hr:=runT_crowd_go (P:=P) (w:=w) (sl:=sl) (i:=i) hi (by rw[hi0];exact hstp w)
   have hsum:sumTo gs.size (upd q i k)+(k+1)=sumTo gs.size q+k:=by
    have:=sumTo_upd q k id hlt
    simpa [hqi] using this
   refine⟨_,_,upd q i k,hr,zs,?_,⟨fun j x hj hx=>?_,fun j hj=>?_⟩,hA.mute zo hm,?_⟩
   ·rw[Array.getElem?_setIfInBounds_ne zo,Array.getElem?_map,h0]
    simp[woken_run hrun]
   ·by_cases e:i=j
    ·subst e
     rw[Array.getElem?_setIfInBounds_self_of_lt (by simpa using hlt)] at hx
     cases hx
     rw[upd_same,Deaf_own]
     exact hq'
    ·rw[Array.getElem?_setIfInBounds_ne e,Array.getElem?_map] at hx
     obtain⟨y,hy,rfl⟩:=Option.map_eq_some_iff.1 hx
     have hqj:=hL.old j y hj hy
     rw[woken_quitsD hqj,upd_ne q k (Ne.symm e),Deaf_other t e _ g_of_ofEvents]
     exact hqj
   ·rw[Deaf_other t (g':=i) (by simp at hj;omega) _ g_of_ofEvents]
    exact hL.above j (by simpa using hj)
   ·omega
section
variable{Fc:Fence}{St:Frame→List Frame→Prop}{Post:Pt→Prop}{Shun:Loc→Prop}
theorem KA(S:jW P Fc.fn Z)(hal:Fc.alive=true)(hS:∀l,Shun l→¬ Et Z l){K:Nat→Option Obj}{s0:Pt}(H:∀σ:Tape,Way P Fc St Post (s0.on σ)):
 ∀ (b:Pt),Acc (kZ P Fc Z St) b→b.Ok P Fc.fn Z→Qw P Fc Z St s0 b→∀ (M:Nat) (gs:Array Goroutine) (v:World) (sl:Option (Nat × Nat)) (t:Trace) (q:Nat→Nat),sumTo gs.size q=M→gs[0]? =some (G b.fr b.cs)→oG Z K b.w v→Leavers P t gs q→After Shun t→
   ∃ (N:Nat) (gs':Array Goroutine) (b':Pt) (v':World) (sl':Option (Nat × Nat)) (t':Trace) (q':Nat→Nat),
     runNT P N (crowd gs v sl) t=(.next (crowd gs' v' sl'),t')∧gs'.size=gs.size∧gs'[0]? =some (G b'.fr b'.cs)∧St b'.fr b'.cs∧Post b'∧b'.Ok P Fc.fn Z∧oG Z K b'.w v'∧Leavers P t' gs' q'∧After Shun t':=by
 intro b hacc
 induction hacc with
 | intro b _ ihb=>
   intro ok hR M
   induction M using Nat.strongRecOn with
   | _ M ihM=>
     intro gs v sl t q hM h0 jJ hL hA
     by_cases hst:St b.fr b.cs
     ·have hw:=xR S hal H hR b.w.tape fun _ _=>rfl
      rcases hw.first S hal (ok.on _) with⟨_,hp⟩|⟨h1,_⟩
      ·exact⟨0,gs,b,v,sl,t,q,rfl,rfl,h0,hst,hp,ok,jJ,hL,hA⟩
      ·exact absurd hst h1
     obtain⟨i,g,d,sl',hi,hg,hpick⟩:=crowd_pick (P:=P) (w:=v) (sl:=sl) (sw h0 rfl hL) ⟨0,_,h0,rfl⟩
     rcases Nat.eq_zero_or_pos i with rfl|hpos
     ·let σ:Tape:=fun j=>if j<b.w.drawn then b.w.tape j else(v.at d).tape ((v.at d).drawn+(j - b.w.drawn))
      have hσ:∀j,j<b.w.drawn→σ j=b.w.tape j:=fun j hj=>if_pos hj
      rcases(xR S hal H hR σ hσ).first S hal (ok.on σ) with⟨h1,_⟩|⟨_,b',hstp,hn,hw⟩
      ·exact absurd h1 hst
      have hs:kZ P Fc Z St b' b:=⟨ok,hst,σ,hσ,hstp,hn⟩
      obtain⟨hb',ht,n,hd,hc⟩:=hn
      obtain⟨gs2,v2,ops,e,hsz,hz,hrest,s2,d2,t2,hops⟩:=hc gs (v.at d) sl' h0 (NU hL) ⟨jJ.size,jJ.same,jJ.os,jJ.output,jJ.kept⟩ (fun k hk z=>by
       show(v.at d).tape ((v.at d).drawn+k) z=σ (b.w.drawn+k) z
       simp only[σ]
       rw[if_neg zo,Nat.add_sub_cancel_left])
      have hL2:Leavers P (t ++ ops) gs2 q:=⟨fun j x hj hx=>by
       rw[hrest j hj] at hx
       rw[Deaf_other t (g:=j) (g':=0) zo _ fun op hop=>(hops op hop).1]
       exact hL.old j x hj hx,fun j hj=>by
       have hpos:0<gs2.size:=(Array.getElem?_eq_some_iff.1 hz).1
       rw[Deaf_other t (g:=j) (g':=0) zo _ fun op hop=>(hops op hop).1]
       exact hL.above j zo⟩
      obtain⟨N,gs',b2,v',sl2,t',q',hr,x1,x2,x3,x4,x5,x6,x7,x8⟩:=ihb b' hs hb' (.step hR hs) _ gs2 v2 sl' (t ++ ops) q rfl hz s2 hL2 (Aj hA hS hops)
      exact⟨N+1,gs',b2,v',sl2,t',q',by simp only[runNT,hpick,e];exact hr,x1.trans hsz,x2,x3,x4,x5,x6,x7,x8⟩
     ·obtain⟨gs2,ops,q2,e,hsz,hz,hL2,hA2,hlt⟩:=nI (w:=v.at d) (sl:=sl') h0 rfl hL hA hi hg hpos
      obtain⟨N,gs',b2,v',sl2,t',q',hr,x1,x2,x3,x4,x5,x6,x7,x8⟩:=ihM _ (by rw[hsz];omega) gs2 (v.at d) sl' (t ++ ops) q2 rfl hz ⟨jJ.size,jJ.same,jJ.os,jJ.output,jJ.kept⟩ hL2 hA2
      exact⟨N+1,gs',b2,v',sl2,t',q',by simp only[runNT,hpick,e];exact hr,x1.trans hsz,x2,x3,x4,x5,x6,x7,x8⟩
end
theorem Ja{Shun:Loc→Prop}{Post:Value→World→Prop}{a:Goroutine}(hrun:a.status=.running)(hS:∀l,Shun l→¬ Et Z l){v:World}(hend:∀d,∃r es,stepG P true a (v.at d)=.ended (.done r) (v.at d) es∧(∀e∈es,Ep Z e)∧Post r (v.at d)):
 ∀ (M d0:Nat) (gs:Array Goroutine) (sl:Option (Nat × Nat)) (t:Trace) (q:Nat→Nat),sumTo gs.size q=M→gs[0]? =some a→Leavers P t gs q→After Shun t→
   ∃N last o w' t',runNT P (N+1) (crowd gs (v.at d0) sl) t=(.ended o w',t')∧runN P N (crowd gs (v.at d0) sl)=.next last∧step P last=.ended o w'∧Good P Post last o w' t':=by
 intro M
 induction M using Nat.strongRecOn with
 | _ M ih=>
   intro d0 gs sl t q hM h0 hL hA
   obtain⟨i,g,d,sl',hi,hg,hpick⟩:=crowd_pick (P:=P) (w:=v.at d0) (sl:=sl) (sw h0 hrun hL) ⟨0,_,h0,hrun⟩
   rcases Nat.eq_zero_or_pos i with rfl|hpos
   ·obtain rfl:g=a:=by rw[h0] at hi;exact(Option.some.inj hi).symm
    obtain⟨r,es,he,hes,hpost⟩:=hend d
    have he':stepG P (0 == 0) g ((v.at d0).at d)=.ended (.done r) (v.at d) es:=he
    have e:=runT_many_ended (sl:=sl') hi he'
    have hA':After Shun (t ++ MemOp.ofEvents 0 g.frame.fn g.frame.place es):=Aj hA hS (jN hes)
    have hst:stepT P (crowd gs (v.at d0) sl)=(.ended (.done r) (v.at d),MemOp.ofEvents 0 g.frame.fn g.frame.place es):=hpick.trans e
    refine⟨0,crowd gs (v.at d0) sl,.done r,v.at d,t ++ MemOp.ofEvents 0 g.frame.fn g.frame.place es,by simp only[runNT,hst],rfl,by rw[step,hst],r,rfl,hpost,hA'.clean,hA'.over,⟨fun x hx=>?_,rfl⟩,fun j x hx hj=>?_⟩
    ·obtain⟨k,hk⟩:=List.mem_iff_getElem?.1 hx
     rw[List.getElem?_drop] at hk
     exact⟨_,(hL.old (1+k) x zo (by simpa [crowd] using hk)).leaves⟩
    ·refine⟨q j,?_⟩
     have e2:(t ++ MemOp.ofEvents 0 g.frame.fn g.frame.place es).deaf j (t ++ MemOp.ofEvents 0 g.frame.fn g.frame.place es).size=Deaf t j:=Deaf_other t (g:=j) (g':=0) zo _ g_of_ofEvents
     rw[e2]
     exact(hL.old j x zo hx).hears _
   ·obtain⟨gs2,ops,q2,e,hsz,hz,hL2,hA2,hlt⟩:=nI (w:=v.at d) (sl:=sl') h0 hrun hL hA hi hg hpos
    obtain⟨N,last,o,w',t',h1,h2,h3,h4⟩:=ih _ (by rw[hsz];omega) d gs2 sl' (t ++ ops) q2 rfl hz hL2 hA2
    have hst:stepT P (crowd gs (v.at d0) sl)=(.next (crowd gs2 (v.at d) sl'),ops):=hpick.trans e
    refine⟨N+1,last,o,w',t',by rw[runNT];simp only[hst];exact h1,?_,h3,h4⟩
    rw[← runNT_fst P _ _ t]
    simp only[runNT,hst]
    rw[runNT_fst];exact h2
end
section
open Go.Conc Go.ConcN Go.aO Go.Conc.Lib
open Go.ConcR (g_of_ofEvents WgAt stA DC0)
variable[Inhabited cu.aS]
section
variable{P:Program}{L:WgLink}{Wg:Nat}{Shun:Loc→Prop}{R:Goroutine}
theorem FJ{w:World}(hl:WgLive L.tWg Wg w):∀ (M m d0:Nat) (a:Goroutine) (gs:Array Goroutine) (sl:Option (Nat × Nat)) (t:Trace) (q:Nat→Nat),m+sumTo gs.size q≤M→gD P L Wg (fun g _=>g=R) m a w→gs[0]? =some a→Leavers P t gs q→After Shun t→
 ∃N gs' d sl' t' q',runNT P N (crowd gs (w.at d0) sl) t=(.next (crowd gs' (w.at d) sl'),t')∧gs'.size=gs.size∧gs'[0]? =some R∧Leavers P t' gs' q'∧After Shun t':=by
 intro M
 induction M with
 | zero=>
   intro m d0 a gs sl t q hM hG h0 hL hA
   obtain rfl:m=0:=zo
   have e:a=R:=hG w fun x=>x
   subst e
   exact⟨0,gs,d0,sl,t,q,rfl,rfl,h0,hL,hA⟩
 | succ M ih=>
   intro m d0 a gs sl t q hM hG h0 hL hA
   have stop:(∀w₁,rN L Wg w w₁→a=R)→∃N gs' d sl' t' q',runNT P N (crowd gs (w.at d0) sl) t=(.next (crowd gs' (w.at d) sl'),t')∧gs'.size=gs.size∧gs'[0]? =some R∧Leavers P t' gs' q'∧After Shun t':=fun h=>by
    have e:a=R:=h w fun x=>x
    subst e
    exact⟨0,gs,d0,sl,t,q,rfl,rfl,h0,hL,hA⟩
   cases m with
   | zero=>exact stop hG
   | succ m=>
     have hG0:=hG
     rcases hG with hG|⟨hrun,hG⟩
     ·exact stop hG
     obtain⟨i,g,d,sl',hi,hg,hpick⟩:=crowd_pick (P:=P) (w:=w.at d0) (sl:=sl) (sw h0 hrun hL) ⟨0,_,h0,hrun⟩
     have hpick':stepT P (crowd gs (w.at d0) sl)=runT P (crowd gs (w.at d) sl') i:=hpick
     rcases Nat.eq_zero_or_pos i with rfl|hpos
     ·obtain rfl:g=a:=by rw[h0] at hi;exact(Option.some.inj hi).symm
      have hs:=hG (w.at d) fun x=>x
      cases hgo:stepG P true g (w.at d) with
      | go a' w' es=>
        rw[hgo,goes_go] at hs
        obtain⟨⟨rfl,rfl⟩,hG'⟩:=hs
        have e:=runT_crowd_go (P:=P) (sl:=sl') (i:=0) hi (show stepG P (0 == 0) g (w.at d)=_ from hgo)
        have hlt:0<gs.size:=(Array.getElem?_eq_some_iff.1 h0).1
        have hsz:((gs.map (woken P g a' (w.at d))).setIfInBounds 0 a').size=gs.size:=zs
        obtain⟨N,gs',d',sl2,t',q',hr,x1,x2,x3,x4⟩:=ih m d a' ((gs.map (woken P g a' (w.at d))).setIfInBounds 0 a') sl' (t ++ MemOp.ofEvents 0 g.frame.fn g.frame.place #[]) q (by rw[hsz];omega) (fu hG' hl) (by simp[hlt])
         ⟨fun j x hj hx=>by
          have hne:0≠j:=zo
          rw[Array.getElem?_setIfInBounds_ne hne,Array.getElem?_map] at hx
          obtain⟨y,hy,rfl⟩:=Option.map_eq_some_iff.1 hx
          have hq:=hL.old j y hj hy
          rw[woken_quitsD hq,Deaf_other t (g':=0) zo _ g_of_ofEvents]
          exact hq,fun j hj=>by
          rw[Deaf_other t (g':=0) (by simp at hj;omega) _ g_of_ofEvents]
          exact hL.above j (by simpa using hj)⟩ (hA.own zs zs)
        exact⟨N+1,gs',d',sl2,t',q',by simp only[runNT,hpick',e];exact hr,x1.trans hsz,x2,x3,x4⟩
      | _=>rw[hgo] at hs;exact hs.elim
     ·obtain⟨gs2,ops,q2,e,hsz,hz,hL2,hA2,hlt⟩:=nI (w:=w.at d) (sl:=sl') h0 hrun hL hA hi hg hpos
      obtain⟨N,gs',d',sl2,t',q',hr,x1,x2,x3,x4⟩:=ih (m+1) d a gs2 sl' (t ++ ops) q2 (by rw[hsz];omega) hG0 hz hL2 hA2
      exact⟨N+1,gs',d',sl2,t',q',by simp only[runNT,hpick',e];exact hr,x1.trans hsz,x2,x3,x4⟩
end
section
variable{S:Site}{O C:Nat→Nat→Prop}{w:World}{t:Trace}{a:Goroutine}
theorem Nt(iY:Lay O C S.Sh w)(h0:O 0=lU)(c0:C 0=S.Cb)(z:∀k b,0<k→¬ O k b∧¬ C k b)(hv:S.V0 w)(hwg:WgAt S.ty S.Wg w 0 0)(hch:∃s q,w.heap[S.Ch]? =some (.chan S.n #[] false s q false))
 (hct:CT (cu.In S.Sh) (aO.gX O) (aO.Cw C) t 0)(yH:cu.Pm t w)(hnr:NoRelease (stA S.Wg) t)(hd:Deaf t 0=0)(Di:Ml S t)(h:S.Sp S.n a w)(sl:Option (Nat × Nat)):∃μ,Inv S μ (crowd #[a] w sl) t:=by
 obtain⟨s,q,hch⟩:=hch
 have hcom:∀rk:Nat→Rank S.P,Com S O C (fun _=>0) (fun _=>0) rk 0 #[a] w t (fun _=>⟨0,0,0⟩) 0:=fun rk=>
  ⟨rfl,iY,c0,fun i hi=>zo,z,hv,fun i hi=>zo,fun i hi=>zo,hct,yH,hnr,hd,fun i hi=>zo,fun i hi=>zo,⟨#[],s,q,hch,zs⟩,Di⟩
 have hmode:∀tag,isOpen tag→pend tag=0→(∀vs,tag≠.w2 vs)→ConcN.Mode 0 (fun _=>(⟨0,0,0⟩:WD)) tag 0 0:=fun tag h1 h2 h3=>by
  have:=ConcN.Mode.opn (j:=0) (D:=fun _=>(⟨0,0,0⟩:WD)) h1 (fun i hi=>zo) (fun vs e=>absurd e (h3 vs))
  simpa [Vc,sumTo,h2] using this
 generalize hn:S.n=n at h
 cases n with
 | zero=>
   obtain⟨m,hk⟩:=h
   obtain⟨x⟩:Nonempty (Rank S.P):=⟨⟨mg (fun _=>False) (fun _=>True) true (fun _ _ _=>True) a w lU,Ec (.stop fun _ _ _=>trivial)⟩⟩
   exact⟨_,#[a],w,sl,0,_,.kd,0,m,0,a,0,0,O,C,_,_,fun _=>x,rfl,rfl,by rw[h0];exact .kd hn.symm hk,hcom _,hwg,hmode .kd trivial rfl zs,rfl⟩
 | succ r=>
   have hk:cu.Wk S.P true S.Cb S.V0 (S.yj (S.n - (r+1)) (S.Sp r)) a w lU:=h
   rw[show S.n - (r+1)=0 by omega] at hk
   obtain⟨x,hx⟩:=rW hk
   exact⟨_,#[a],w,sl,0,_,.sp r 5,0,0,0,a,0,0,O,C,_,_,fun _=>x,rfl,rfl,by rw[h0];exact .skd zo hx hk,hcom _,hwg,hmode (.sp r 5) trivial rfl zs,rfl⟩
end
def Dead'(S:Site)(jc:FuncId→Code→Prop)(Z0:Nat→Prop)(w:World):Env:=⟨fun q=>(¬ S.Cb q∨Z0 q)∧q≠S.Ch∧q<w.heap.size,jc⟩
theorem MX{S:Site}{jc:FuncId→Code→Prop}{Z0:Nat→Prop}{Fc:Fence}{St:Frame→List Frame→Prop}{Post:Pt→Prop}{PV:Value→World→Prop}{Rs:Goroutine→Prop}(hal:Fc.alive=true)(hS:S.Ok)(hfin:∀g,S.Fin g→∃R,Rs R∧UA S.P S.L S.Wg R g)
 (nB:∀R,Rs R→∀ (w:World) (buf:Array Value) (s z:Nat),S.V0 w→w.heap[S.Ch]? =some (.chan S.n buf false s z false)→buf.toList.Perm (((List.range S.n).filter S.bit).map fun(i:Nat)=>int i64 i)→Dead' S jc Z0 w S.Wg→
  ∃s0:Pt,G s0.fr s0.cs=R∧jW S.P Fc.fn (Dead' S jc Z0 w)∧s0.Ok S.P Fc.fn (Dead' S jc Z0 w)∧oG (Dead' S jc Z0 w) (fun q=>w.heap[q]?) s0.w w∧(∀σ:Tape,Way S.P Fc St Post (s0.on σ))∧
   ∀ (b:Pt) (v:World),St b.fr b.cs→Post b→b.Ok S.P Fc.fn (Dead' S jc Z0 w)→oG (Dead' S jc Z0 w) (fun q=>w.heap[q]?) b.w v→∃r es,stepG S.P true (G b.fr b.cs) v=.ended (.done r) v es∧(∀e∈es,Ep (Dead' S jc Z0 w) e)∧PV r v)
 {μ:uE S}{m:Machine}{t:Trace}(hI:Inv S μ m t):
 ∃N last o w' t',runNT S.P (N+1) m t=(.ended o w',t')∧runN S.P N m=.next last∧step S.P last=.ended o w'∧Good S.P PV last o w' t':=by
 obtain⟨N1,m1,t1,r1,hE⟩:=MZ hS μ m t hI
 obtain⟨gs,w,sl,q,a,O,C,pre,rfl,h0,hf,hL,hA,hwl,hv,iY,_,hC,yH,buf,s,z,hch,hperm⟩:=hE.after
 obtain⟨R,hR0,hfin⟩:=hfin a hf
 obtain⟨mm,hG⟩:=hfin w hwl
 obtain⟨N2,gs2,d,sl2,t2,q2,r2,hsz2,h02,hL2,hA2⟩:=FJ hwl _ mm w.drawn a gs sl t1 q (Nat.le_refl _) hG h0 hL hA
 have r2':runNT S.P N2 (crowd gs w sl) t1=(.next (crowd gs2 (w.at d) sl2),t2):=r2
 have Ru:Dead' S jc Z0 (w.at d) S.Wg:=And.intro (.inl fun h=>iY.cS 0 _ (by rw[hC];exact h) (.inl rfl)) (And.intro hS.wc (iY.LD _ (.inl rfl)))
 obtain⟨s0,hR,hset,hok,jJ,RP,hend⟩:=nB R hR0 (w.at d) buf s z ⟨hv.live,hv.tab,hv.chan,hv.env⟩ hch hperm Ru
 have YC:∀l,ShN S.Wg l→¬ Et (Dead' S jc Z0 (w.at d)) l:=by
  rintro l ⟨ad,rfl,hb⟩ (⟨a',e,hz⟩|⟨r,e,_⟩|e)
  ·cases e;exact hz (by rw[hb];exact Ru)
  ·cases e
  ·cases e
 obtain⟨N3,sB,b,v,th,t3,q3,r3,b6,h03,hst,hpost,mC,Fw,hL3,hA3⟩:=KA hset hal YC RP s0 (Iu hset hal RP) hok .refl _ gs2 (w.at d) sl2 t2 q2 rfl (by rw[hR];exact h02) jJ hL2 hA2
 obtain⟨N4,last,o,w',t4,r4,r5,r6,r7⟩:=Ja (a:=G b.fr b.cs) (v:=v) rfl YC (fun d'=>hend b (v.at d') hst hpost mC ⟨Fw.size,Fw.same,Fw.os,Fw.output,Fw.kept⟩) _ v.drawn sB th t3 q3 rfl h03 hL3 hA3
 have r4':runNT S.P (N4+1) (crowd sB v th) t3=(.ended o w',t4):=r4
 have r5':runN S.P N4 (crowd sB v th)=.next last:=r5
 have whole:∀k,runNT S.P (N1+(N2+(N3+k))) m t=runNT S.P k (crowd sB v th) t3:=fun k=>by
  rw[runNT_add,r1]
  show runNT S.P (N2+(N3+k)) (crowd gs w sl) t1=_
  rw[runNT_add,r2']
  show runNT S.P (N3+k) (crowd gs2 (w.at d) sl2) t2=_
  rw[runNT_add,r3]
 refine⟨N1+(N2+(N3+N4)),last,o,w',t4,?_,?_,r6,r7⟩
 ·rw[show N1+(N2+(N3+N4))+1=N1+(N2+(N3+(N4+1))) by omega,whole]
  exact r4'
 ·rw[← runNT_fst S.P _ _ t,whole,runNT_fst]
  exact r5'
end
end Go.dN
