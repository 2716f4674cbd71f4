/- Far20 -/
import Derived.Test.YtpmafoalhnaokaaGreatB2
set_option maxRecDepth 100000
set_option maxHeartbeats 16000000
set_option linter.unusedVariables false
set_option linter.unusedSectionVars false
namespace Go.dP
section
open Go.Conc
variable{P:Program}{Z:Env}{F:FuncId→Prop}
structure Gq(Z:Env)(K:Nat→Option Obj)(w v:World):Prop where
 qz:pQ Z K w v
 drawn:v.drawn=w.drawn
 tape:v.tape=w.tape
theorem Gq.agree{K:Nat→Option Obj}{w v:World}(h:Gq Z K w v)(n:Nat):Agree n w v:=fun k _ q=>by rw[h.drawn,h.tape]
theorem Vx{gs0:Array Goroutine}{w0 w01:World}{sl:Option (Nat × Nat)}{g:Goroutine}{fr:Frame}{cs:List Frame}{es:Array Event}{z:Value}{ok:Bool}{r cap s q:Nat}{buf:Array Value}{closed tm:Bool}
 (_:gs0[0]? =some g)(_:kX gs0)(_:stepG P true g w0=.comm (G fr cs) #[⟨.chan (some r),none,z⟩] true (.recv ok) w01 es)(_:w01.heap[r]? =some (.chan cap buf closed s q tm))(hb:0<buf.size∨buf=#[]∧closed=true):
 ∃ops:Trace,(∀op∈ops,op.g=0∧op.act.touch?=none∧∀m,op.act≠.mark m)∧∀ (gs:Array Goroutine) (w w1:World),gs[0]? =some g→kX gs→stepG P true g w=.comm (G fr cs) #[⟨.chan (some r),none,z⟩] true (.recv ok) w1 es→w1.heap[r]? =some (.chan cap buf closed s q tm)→
  runT P (crowd gs w sl) 0=(.next (crowd (gs.setIfInBounds 0 (G (fr.finish (Me ok z buf)) cs)) (lY w1 r cap buf closed s q tm) sl),MemOp.ofEvents 0 g.frame.fn g.frame.place es ++ ops):=by
 rcases hb with hb|⟨rfl,rfl⟩
 ·refine⟨#[{g:=0,fn:=(G fr cs).frame.fn,pos:=(G fr cs).frame.place,act:=.recv r q cap },{g:=0,fn:=(G fr cs).frame.fn,pos:=(G fr cs).frame.place,act:=.recvDone r q }],by simp[MemAct.touch?],fun gs w w1 hi ho h hc=>?_⟩
  have e:=crowd_recv_buf (P:=P) (sl:=sl) (i:=0) (z:=z) hi h hc hb (jY ho r true)
  rw[finishComm_recv] at e
  simp only[Me,lY,if_pos hb,decide_eq_true hb]
  exact e
 ·refine⟨#[{g:=0,fn:=(G fr cs).frame.fn,pos:=(G fr cs).frame.place,act:=.recvClosed r }],by simp[MemAct.touch?],fun gs w w1 hi ho h hc=>?_⟩
  have e:=crowd_recv_closed (P:=P) (sl:=sl) (i:=0) (z:=z) hi h hc (jY ho r true)
  rw[finishComm_recv] at e
  exact e
theorem LA{Fc:Fence}(S:kH P Fc.fn Z){I:Machine→Prop}(hI:∀m,I m→m.fenced P Fc)(hal:Fc.alive=true){a:Pt}(ok:a.Ok P Fc.fn Z){m1:Machine}{fr':Frame}{cs':List Frame}{v':World}(hI0:I a.m)(hs:step P a.m=.next m1)
 (hp:StepsIn I P m1 (solo (G fr' cs') v')):∃ (b:Pt) (ops:Trace),m1=b.m∧b.Ok P Fc.fn Z∧a.w.heap.size≤b.w.heap.size∧iH ops b.w.heap.size∧
  ∀ {K:Nat→Option Obj} (v:World),Gq Z K a.w v→∃v2,stepT P (solo (G a.fr a.cs) v)=(.next (solo (G b.fr b.cs) v2),ops)∧Gq Z K b.w v2:=by
 have hsl:=Ab S ok.fr ok.cs ok.lv (fun f hf=>(hI _ hI0 (G a.fr a.cs) (by simp[Pt.m,solo])).2.2.1 f hf)
 have hin:=Oy S ok.fr (cs:=a.cs) (w:=a.w)
 have hT:stepT P a.m=runT P (solo (G a.fr a.cs) a.w) 0:=by rw[Pt.m,stepT_solo rfl]
 rw[step,hT] at hs
 unfold SL at hsl
 dsimp only at hsl
 cases hgw:stepG P true (G a.fr a.cs) a.w with
 | go g' w' es=>
   rw[hgw] at hsl hin
   rw[runT_solo_go hgw] at hs hT
   cases hs
   rcases hsl with hd|⟨⟨RP,cs2,rfl,h1,h2⟩,n,M⟩
   ·exact(jK hI hal hd hp).elim
   have hin':=hin rfl
   refine⟨⟨RP,cs2,w'⟩,MemOp.ofEvents 0 (G a.fr a.cs).frame.fn (G a.fr a.cs).frame.place es,rfl,⟨h1,h2,M.2.2.1⟩,hin'.1,sJ (kg M.2.2.2.1) (mq M.2.2.2.1 hin'.2),fun v hv=>?_⟩
   obtain⟨v1,e1,s1,d1,t1⟩:=M.2.2.2.2 v hv.qz (hv.agree n)
   refine⟨v1,by rw[stepT_solo rfl,runT_solo_go e1],s1,?_,?_⟩
   ·rw[d1,hv.drawn];exact M.1.symm
   ·rw[t1,hv.tape];exact M.2.1.symm
 | comm g' cases b sh w' es=>
   rw[hgw] at hsl hin
   obtain⟨⟨RP,cs2,rfl,h1,h2⟩,⟨rfl,⟨ch,send,z⟩,Vm,rfl,hsend,rfl⟩,n,M⟩:=hsl
   simp only at hsend
   subst hsend
   have ho1:kX #[G a.fr a.cs]:=fun i g hi hg=>by
    rw[Array.getElem?_eq_none zm] at hg;cases hg
   rw[solo_eq_crowd] at hs hT
   rcases qZ (P:=P) (gs:=#[G a.fr a.cs]) (sl:=none) rfl ho1 hgw with⟨o,w2,e⟩|⟨g',ops,hg',e⟩|⟨r,cap,buf,closed,s,q,tm,rfl,hc,hb⟩
   ·rw[e] at hs;cases hs
   ·rw[e] at hs
    cases hs
    exact(jK (g:=g') hI hal (.inr (.inl hg')) hp).elim
   ·have hnz:¬ Z r:=fun hz=>by
     have:=M.2.2.1.dead r hz
     rw[this] at hc
     simp[X0] at hc
    have hops:=Vx (P:=P) (sl:=none) rfl ho1 hgw hc hb
    obtain⟨ops,hops,e⟩:=hops
    rw[e #[G a.fr a.cs] a.w w' rfl ho1 hgw hc] at hs hT
    simp only[Stepped.next.injEq] at hs
    have hsz:w'.heap.size≤(lY w' r cap buf closed s q tm).heap.size:=by
     unfold lY
     split <;> simp[World.setChan]
    refine⟨⟨RP.finish (Me Vm z buf),cs2,lY w' r cap buf closed s q tm⟩,MemOp.ofEvents 0 (G a.fr a.cs).frame.fn (G a.fr a.cs).frame.place es ++ ops,hs.symm,⟨h1.finish _,h2,Fp M.2.2.1 hnz⟩,Nat.le_trans hin.1 hsz,iH.app (sJ (kg M.2.2.2.1) (mq M.2.2.2.1 hin.2)) hsz fun op hop=>?_,fun v hv=>?_⟩
    ·obtain⟨k1,k2,k3⟩:=hops op hop
     exact⟨k1,⟨k3 _,k3 _⟩,fun a=>k3 _,fun x hx=>(by rw[k2] at hx;cases hx)⟩
    ·obtain⟨v1,e1,s1,d1,t1⟩:=M.2.2.2.2 v hv.qz (hv.agree n)
     refine⟨lY v1 r cap buf closed s q tm,?_,I9 hnz s1,?_,?_⟩
     ·rw[stepT_solo rfl,solo_eq_crowd,e #[G a.fr a.cs] v v1 rfl ho1 e1 ((s1.same r hnz).trans hc)]
      rfl
     ·rw[fQ.1,fQ.1,d1,hv.drawn];exact M.1.symm
     ·rw[fQ.2,fQ.2,t1,hv.tape];exact M.2.1.symm
 | ended o w' es=>
   rw[aY hgw] at hs
   cases hs
 | spawn g' child w' es=>
   exfalso
   have h1:=q9 (P:=P) hp
   rw[runT_solo_spawn hgw] at hs
   cases hs
   simp[solo,duo] at h1
 | _=>rw[hgw] at hsl;exact hsl.elim
theorem Db{Fc:Fence}(S:kH P Fc.fn Z)(hal:Fc.alive=true){I:Machine→Prop}(hI:∀m,I m→m.fenced P Fc){m m':Machine}(hp:StepsIn I P m m'):∀ {K:Nat→Option Obj} {a b:Pt},m=a.m→m'=b.m→a.Ok P Fc.fn Z→∀ (v:World),Gq Z K a.w v→∀t:Trace,iH t a.w.heap.size→
 ∃N v2 t',runNT P N (solo (G a.fr a.cs) v) t=(.next (solo (G b.fr b.cs) v2),t')∧Gq Z K b.w v2∧b.Ok P Fc.fn Z∧iH t' b.w.heap.size∧a.w.heap.size≤b.w.heap.size:=by
 induction hp with
 | refl=>
   intro K a b h1 h2 ok v hv t ht
   subst h1
   obtain rfl:=Md h2
   exact⟨0,v,t,rfl,hv,ok,ht,zL⟩
 | head hI0 hst hp ih=>
   intro K a b h1 h2 ok v hv t ht
   subst h1
   subst h2
   obtain⟨c,ops,rfl,hc,hsz,hops,hrun⟩:=LA S hI hal ok hI0 hst hp
   obtain⟨v1,hT,hv1⟩:=hrun v hv
   obtain⟨N,v2,t',r1,r2,r3,r4,r5⟩:=ih rfl rfl hc v1 hv1 (t ++ ops) (ht.app hsz hops)
   exact⟨N+1,v2,t',by simp only[runNT,hT];exact r1,r2,r3,r4,Nat.le_trans hsz r5⟩
end
end Go.dP
