/- HY HW HL -/
import Derived.Test.YthaelabgfnnebaaGreatB2
set_option maxRecDepth 100000
set_option maxHeartbeats 16000000
set_option linter.unusedVariables false
set_option linter.unusedSectionVars false
open Go.IntKind(i64)
open Go.Lib(hid)
open Go.Proofs.Tryz
open Go.Value(int)
namespace Go.Proofs.YthaelabgfnnebaaGreat
section
open Go.RowKit
open Go.Sort (grow)
attribute [local go_sem] Oper.semAt_some
theorem QL(b:Bk)(ok:b.Ok)(A:Option Addr)(n p:Nat)(g:Nat)(hg:g<3)(xs:List Ht)(hx:∀h∈xs,oD h)(Bc Bg:Nat)(w:World)(hA:b.At w w.heap.size)(hc:Whole w Bc 76 (aA b A n p))(hgg:Whole w Bg 3 #[int i64 g]):rX FF 71 #[.pointer (some ⟨Bc,0,none⟩),.pointer (some ⟨Bg,0,none⟩)] xs (fun h=>int i64 (stk b h b.days b.nm g)) w:=by
 refine⟨zs,enters_of func71 zk rfl,fun W h hh hW=>?_⟩
 have HF:=hid fun W hA=>gu b h b.days W hA ok.moves ok.bn.1.2 (hx h hh)
 have HA:=hid (hA.up hW)
 have C1:=hid (hc.below hW hc.lt)
 have G1:=hid (hgg.below hW hgg.lt)
 have h1:=C1.out.lt
 have h3:=G1.out.lt
 show CallsIn FF 0 prog 71 #[h.val,.pointer (some ⟨Bc,0,none⟩),.pointer (some ⟨Bg,0,none⟩)] W fun e W'=>e=.returned (int i64 (stk b h b.days b.nm g))∧Below W.heap.size W W'
 obtain⟨r,hr⟩:∃r,r=stk b h b.days b.nm:=⟨_,rfl⟩
 rw[← hr] at HF⊢
 clear hh hr hc hgg hx hA ok hW
 obtain⟨w1,hw1⟩:∃w1,w1=W.alloc (.cells h.cells 88):=⟨_,rfl⟩
 have B1:Hid (Below W.heap.size W w1):=hid (by rw[hw1];exact bw)
 have H1:Hid (Whole w1 W.heap.size 88 h.cells):=hid (by rw[hw1];exact Whole.new _ _ _)
 have C2:=hid (C1.out.below B1.out h1)
 have G2:=hid (G1.out.below B1.out h3)
 have A2:=hid (HA.out.up B1.out)
 obtain⟨f,m,li⟩:=h
 obtain⟨days,most,gA,ng,gc,gs,mA,nm,mc,ms,cA,nc,cc,cs⟩:=b
 simp only[Ht.val,Ht.cells,Bk.val,Bk.cells,lV] at HF H1⊢
 simp only[aA] at C2
 simp only[Ht.cells] at hw1
 have lT:=hid hw1
 clear hw1
 have q0:∀d os,(grow (redrawn w1 d) os).cell? ⟨Bc,0,none⟩=some (int i64 days):=cell_regrown (C2.out.cell 0)
 have q1:∀d os,(grow (redrawn w1 d) os).cell? ⟨Bc,1,none⟩=some (int i64 most):=cell_regrown (C2.out.cell 1)
 have q2:∀d os,(grow (redrawn w1 d) os).cell? ⟨Bc,2,none⟩=some (.slice gA ng gc):=cell_regrown (C2.out.cell 2)
 have q3:∀d os,(grow (redrawn w1 d) os).cell? ⟨Bc,3,none⟩=some (.slice mA nm mc):=cell_regrown (C2.out.cell 3)
 have q4:∀d os,(grow (redrawn w1 d) os).cell? ⟨Bc,4,none⟩=some (.slice cA nc cc):=cell_regrown (C2.out.cell 4)
 have qg:∀d os,(grow (redrawn w1 d) os).cell? ⟨Bg,0,none⟩=some (int i64 g):=cell_regrown (G2.out.cell 0)
 have x0:∀d os,(grow (redrawn w1 d) os).cell? ⟨W.heap.size,0,none⟩=some (int i64 (f 0)):=cell_regrown (H1.out.cell 0)
 have x1:∀d os,(grow (redrawn w1 d) os).cell? ⟨W.heap.size,1,none⟩=some (int i64 (f 1)):=cell_regrown (H1.out.cell 1)
 have x2:∀d os,(grow (redrawn w1 d) os).cell? ⟨W.heap.size,2,none⟩=some (int i64 (f 2)):=cell_regrown (H1.out.cell 2)
 have x3:∀d os,(grow (redrawn w1 d) os).cell? ⟨W.heap.size,3,none⟩=some (int i64 (m 0)):=cell_regrown (H1.out.cell 3)
 have x4:∀d os,(grow (redrawn w1 d) os).cell? ⟨W.heap.size,4,none⟩=some (int i64 (m 1)):=cell_regrown (H1.out.cell 4)
 have x5:∀d os,(grow (redrawn w1 d) os).cell? ⟨W.heap.size,5,none⟩=some (int i64 (m 2)):=cell_regrown (H1.out.cell 5)
 have x6:∀d os,(grow (redrawn w1 d) os).cell? ⟨W.heap.size,6,none⟩=some (int i64 (m 3)):=cell_regrown (H1.out.cell 6)
 have x7:∀d os,(grow (redrawn w1 d) os).cell? ⟨W.heap.size,7,none⟩=some (int i64 (m 4)):=cell_regrown (H1.out.cell 7)
 have x8:∀d os,(grow (redrawn w1 d) os).cell? ⟨W.heap.size,8,none⟩=some (int i64 (m 5)):=cell_regrown (H1.out.cell 8)
 have x9:∀d os,(grow (redrawn w1 d) os).cell? ⟨W.heap.size,9,none⟩=some (int i64 li):=cell_regrown (H1.out.cell 9)
 have cS:∀d os,CallsIn FF 0 prog 42 #[.agg #[int i64 days,int i64 most,.slice gA ng gc,.slice mA nm mc,.slice cA nc cc],.agg #[int i64 (f 0),int i64 (f 1),int i64 (f 2),int i64 (m 0),int i64 (m 1),int i64 (m 2),int i64 (m 3),int i64 (m 4),int i64 (m 5),int i64 li],int i64 days] (grow (redrawn w1 d) os) fun e w''=>e=.returned (.agg #[int i64 (r 0),int i64 (r 1),int i64 (r 2)])∧∃p:Regrown,w''=grow (redrawn w1 p.d) p.os:=fun d os=>CallsIn.regrown_of (HF.out _ ((A2.out.below (below_regrown w1 d os)).more (below_regrown w1 d os).size))
 have ix:∀ (u v z:Int) (w:World),(Instr.index 85 (.agg #[int i64 u,int i64 v,int i64 z]) (int i64 0)).run prog w=.ok (int i64 u) w∧(Instr.index 85 (.agg #[int i64 u,int i64 v,int i64 z]) (int i64 1)).run prog w=.ok (int i64 v) w∧(Instr.index 85 (.agg #[int i64 u,int i64 v,int i64 z]) (int i64 2)).run prog w=.ok (int i64 z) w:=fun _ _ _ _=>⟨zk,zk,zk⟩
 have BW:=fun u v z w=>(ix u v z w).1
 have BY:=fun u v z w=>(ix u v z w).2.1
 have B0:=fun u v z w=>(ix u v z w).2.2
 clear ix
 gi_enter func71,ntmps71
 gi_wp2
 rw[← lT.out]
 refine wpIn_region_quiet_below rfl zk zk ?_
 rcases(show g=0∨g=1∨g=2 by omega) with rfl|rfl|rfl
 all_goals
  repeat (quiet_step_in (exact cS _ _))
  refine wpQuietIn_nil ?_
  rintro w' ⟨⟨dq,osq⟩,rfl⟩
  have bg:=below_regrown w1 dq osq
  gi_wp2
  go_ret
  exact⟨rfl,Below.next B1.out bg⟩
theorem R6(b:Bk)(ok:b.Ok)(A:Option Addr)(n p:Nat)(g:Nat)(hg:g<3)(xs:List Ht)(hx:∀h∈xs,oD h)(Bc Bg Bd:Nat)(w:World)(hA:b.At w w.heap.size)(hc:Whole w Bc 76 (aA b A n p))(hd:Whole w Bd 3 #[int i64 2])(hgg:Whole w Bg 3 #[int i64 g]):rX FF 44 #[.pointer (some ⟨Bc,0,none⟩),.pointer (some ⟨Bg,0,none⟩),.pointer (some ⟨Bd,0,none⟩)] xs (fun h=>int i64 ((IntKind.i64.wrap ((stk b h b.days b.nm g).tdiv 2)))) w:=by
 refine⟨zs,enters_of func44 zk rfl,fun W h hh hW=>?_⟩
 have HF:=hid fun W hA=>gu b h b.days W hA ok.moves ok.bn.1.2 (hx h hh)
 have HA:=hid (hA.up hW)
 have C1:=hid (hc.below hW hc.lt)
 have D1:=hid (hd.below hW hd.lt)
 have G1:=hid (hgg.below hW hgg.lt)
 have h1:=C1.out.lt
 have h2:=D1.out.lt
 have h3:=G1.out.lt
 show CallsIn FF 0 prog 44 #[h.val,.pointer (some ⟨Bc,0,none⟩),.pointer (some ⟨Bg,0,none⟩),.pointer (some ⟨Bd,0,none⟩)] W fun e W'=>e=.returned (int i64 ((IntKind.i64.wrap ((stk b h b.days b.nm g).tdiv 2))))∧Below W.heap.size W W'
 obtain⟨r,hr⟩:∃r,r=stk b h b.days b.nm:=⟨_,rfl⟩
 rw[← hr] at HF⊢
 clear hh hr hc hd hgg hx hA ok hW
 obtain⟨w1,hw1⟩:∃w1,w1=W.alloc (.cells h.cells 88):=⟨_,rfl⟩
 have B1:Hid (Below W.heap.size W w1):=hid (by rw[hw1];exact bw)
 have H1:Hid (Whole w1 W.heap.size 88 h.cells):=hid (by rw[hw1];exact Whole.new _ _ _)
 have C2:=hid (C1.out.below B1.out h1)
 have D2:=hid (D1.out.below B1.out h2)
 have G2:=hid (G1.out.below B1.out h3)
 have A2:=hid (HA.out.up B1.out)
 obtain⟨f,m,li⟩:=h
 obtain⟨days,most,gA,ng,gc,gs,mA,nm,mc,ms,cA,nc,cc,cs⟩:=b
 simp only[Ht.val,Ht.cells,Bk.val,Bk.cells,lV] at HF H1⊢
 simp only[aA] at C2
 simp only[Ht.cells] at hw1
 have lT:=hid hw1
 clear hw1
 have q0:∀d os,(grow (redrawn w1 d) os).cell? ⟨Bc,0,none⟩=some (int i64 days):=cell_regrown (C2.out.cell 0)
 have q1:∀d os,(grow (redrawn w1 d) os).cell? ⟨Bc,1,none⟩=some (int i64 most):=cell_regrown (C2.out.cell 1)
 have q2:∀d os,(grow (redrawn w1 d) os).cell? ⟨Bc,2,none⟩=some (.slice gA ng gc):=cell_regrown (C2.out.cell 2)
 have q3:∀d os,(grow (redrawn w1 d) os).cell? ⟨Bc,3,none⟩=some (.slice mA nm mc):=cell_regrown (C2.out.cell 3)
 have q4:∀d os,(grow (redrawn w1 d) os).cell? ⟨Bc,4,none⟩=some (.slice cA nc cc):=cell_regrown (C2.out.cell 4)
 have qd:∀d os,(grow (redrawn w1 d) os).cell? ⟨Bd,0,none⟩=some (int i64 2):=cell_regrown (D2.out.cell 0)
 have qg:∀d os,(grow (redrawn w1 d) os).cell? ⟨Bg,0,none⟩=some (int i64 g):=cell_regrown (G2.out.cell 0)
 have x0:∀d os,(grow (redrawn w1 d) os).cell? ⟨W.heap.size,0,none⟩=some (int i64 (f 0)):=cell_regrown (H1.out.cell 0)
 have x1:∀d os,(grow (redrawn w1 d) os).cell? ⟨W.heap.size,1,none⟩=some (int i64 (f 1)):=cell_regrown (H1.out.cell 1)
 have x2:∀d os,(grow (redrawn w1 d) os).cell? ⟨W.heap.size,2,none⟩=some (int i64 (f 2)):=cell_regrown (H1.out.cell 2)
 have x3:∀d os,(grow (redrawn w1 d) os).cell? ⟨W.heap.size,3,none⟩=some (int i64 (m 0)):=cell_regrown (H1.out.cell 3)
 have x4:∀d os,(grow (redrawn w1 d) os).cell? ⟨W.heap.size,4,none⟩=some (int i64 (m 1)):=cell_regrown (H1.out.cell 4)
 have x5:∀d os,(grow (redrawn w1 d) os).cell? ⟨W.heap.size,5,none⟩=some (int i64 (m 2)):=cell_regrown (H1.out.cell 5)
 have x6:∀d os,(grow (redrawn w1 d) os).cell? ⟨W.heap.size,6,none⟩=some (int i64 (m 3)):=cell_regrown (H1.out.cell 6)
 have x7:∀d os,(grow (redrawn w1 d) os).cell? ⟨W.heap.size,7,none⟩=some (int i64 (m 4)):=cell_regrown (H1.out.cell 7)
 have x8:∀d os,(grow (redrawn w1 d) os).cell? ⟨W.heap.size,8,none⟩=some (int i64 (m 5)):=cell_regrown (H1.out.cell 8)
 have x9:∀d os,(grow (redrawn w1 d) os).cell? ⟨W.heap.size,9,none⟩=some (int i64 li):=cell_regrown (H1.out.cell 9)
 have cS:∀d os,CallsIn FF 0 prog 42 #[.agg #[int i64 days,int i64 most,.slice gA ng gc,.slice mA nm mc,.slice cA nc cc],.agg #[int i64 (f 0),int i64 (f 1),int i64 (f 2),int i64 (m 0),int i64 (m 1),int i64 (m 2),int i64 (m 3),int i64 (m 4),int i64 (m 5),int i64 li],int i64 days] (grow (redrawn w1 d) os) fun e w''=>e=.returned (.agg #[int i64 (r 0),int i64 (r 1),int i64 (r 2)])∧∃p:Regrown,w''=grow (redrawn w1 p.d) p.os:=fun d os=>CallsIn.regrown_of (HF.out _ ((A2.out.below (below_regrown w1 d os)).more (below_regrown w1 d os).size))
 have ix:∀ (u v z:Int) (w:World),(Instr.index 85 (.agg #[int i64 u,int i64 v,int i64 z]) (int i64 0)).run prog w=.ok (int i64 u) w∧(Instr.index 85 (.agg #[int i64 u,int i64 v,int i64 z]) (int i64 1)).run prog w=.ok (int i64 v) w∧(Instr.index 85 (.agg #[int i64 u,int i64 v,int i64 z]) (int i64 2)).run prog w=.ok (int i64 z) w:=fun _ _ _ _=>⟨zk,zk,zk⟩
 have BW:=fun u v z w=>(ix u v z w).1
 have BY:=fun u v z w=>(ix u v z w).2.1
 have B0:=fun u v z w=>(ix u v z w).2.2
 clear ix
 gi_enter func44,ntmps44
 gi_wp2
 rw[← lT.out]
 refine wpIn_region_quiet_below rfl zk zk ?_
 rcases(show g=0∨g=1∨g=2 by omega) with rfl|rfl|rfl
 all_goals
  repeat (quiet_step_in (exact cS _ _))
  refine wpQuietIn_nil ?_
  rintro w' ⟨⟨dq,osq⟩,rfl⟩
  have bg:=below_regrown w1 dq osq
  gi_wp2
  go_ret
  exact⟨rfl,Below.next B1.out bg⟩
def iG(b:Bk)(s:Nat→Int):Nat→Int
 | 0=>0
 | Nat.succ k=>IntKind.i64.wrap (iG b s k+IntKind.i64.wrap ((b.g k).cost * s k))
theorem Yc(b:Bk)(s:Nat→Int)(w:World)(hA:b.At w w.heap.size)(hg:b.ng≤3):CallsIn FF 0 prog 66 #[b.val,lV s] w fun e w'=>e=.returned (int i64 (iG b s b.ng))∧Below w.heap.size w w':=by
 obtain⟨L,hL⟩:∃L,L=iG b s:=⟨_,rfl⟩
 have i9:Hid (L 0=0):=hid (by rw[hL];rfl)
 have Qk:Hid (∀k,L (k+1)=IntKind.i64.wrap (L k+IntKind.i64.wrap ((b.g k).cost * s k))):=hid fun k=>by rw[hL];rfl
 rw[← hL]
 clear hL
 have HA:=hid hA
 clear hA
 obtain⟨days,most,gA,ng,gc,g,mA,nm,mc,m,cA,nc,cc,c⟩:=b
 simp only[Bk.val,Bk.cells,lV] at Qk hg⊢
 obtain⟨w1,hw1⟩:∃w1,w1=(w.alloc (.cells #[int i64 days,int i64 most,.slice gA ng gc,.slice mA nm mc,.slice cA nc cc] 74)).alloc (.cells #[int i64 (s 0),int i64 (s 1),int i64 (s 2)] 85):=⟨_,rfl⟩
 have B1:Hid (Below w.heap.size w w1):=hid (by rw[hw1];exact bw)
 have S1:Hid (Whole w1 (w.heap.size+1) 85 #[int i64 (s 0),int i64 (s 1),int i64 (s 2)]):=hid (by
  have:=Whole.new (w.alloc (.cells #[int i64 days,int i64 most,.slice gA ng gc,.slice mA nm mc,.slice cA nc cc] 74)) 85 #[int i64 (s 0),int i64 (s 1),int i64 (s 2)]
  rw[World.size_alloc] at this;rw[hw1];exact this)
 have A1:=hid (HA.out.up B1.out)
 have hs1:w1.heap.size=w.heap.size+2:=by rw[hw1];simp
 have lT:=hid hw1
 clear hw1
 gi_enter func66,ntmps66
 gi_wp2
 rw[← lT.out]
 clear lT
 gi_loopw [5,12] (fun u i wr=>∃k:Nat,k≤ng∧i=int i64 k∧u=int i64 (L k)∧Hid (Below w1.heap.size w1 wr)) (fun _ i _=>ng - (intOf i).toNat)
 case atStart=>exact⟨0,Nat.zero_le _,rfl,by rw[i9.out],hid (Below.refl _ _)⟩
 case round=>
  obtain⟨k,hk,rfl,rfl,hT⟩:=hrel
  obtain⟨wo,rfl⟩:∃wo:World,wo=wr:=⟨_,rfl⟩
  have hsz:=hT.out.size
  by_cases hlt:k<ng
  ·obtain⟨ad,hA',hbl,-⟩:=A1.out.g (show 0<ng by omega)
   simp only at hA'
   subst hA'
   obtain⟨gk,uJ⟩:∃gk,gk=g k:=⟨_,rfl⟩
   have hr:∀j,j<5→wo.cell? ((ad.add (k * 5)).add j)=some (gk.cell j):=fun j hj=>by rw[uJ];exact((A1.out.g.below hT.out)).row hlt |>.2 j hj
   have hLk:=Qk.out k
   rw[← uJ] at hLk
   obtain⟨DC,co,pk,lo,hi⟩:=gk
   have c0:wo.cell? (ad.add (k * 5))=some (.string DC):=hr 0 zD
   have c1:wo.cell? ⟨(ad.add (k * 5)).block,(ad.add (k * 5)).off+1,none⟩=some (int i64 co):=hr 1 zD
   have c2:wo.cell? ⟨(ad.add (k * 5)).block,(ad.add (k * 5)).off+2,none⟩=some (int i64 pk):=hr 2 zD
   have c3:wo.cell? ⟨(ad.add (k * 5)).block,(ad.add (k * 5)).off+3,none⟩=some (int i64 lo):=hr 3 zD
   have c4:wo.cell? ⟨(ad.add (k * 5)).block,(ad.add (k * 5)).off+4,none⟩=some (int i64 hi):=hr 4 zD
   clear hr
   simp only at hLk
   have Ur:=hid hLk
   clear uJ hLk
   obtain⟨w2,hw2⟩:∃w2,w2=wo.alloc (.cells #[.string DC,int i64 co,int i64 pk,int i64 lo,int i64 hi] 40):=⟨_,rfl⟩
   have B2:Hid (Below wo.heap.size wo w2):=hid (by rw[hw2];exact bw)
   have G2:Hid (Whole w2 wo.heap.size 40 #[.string DC,int i64 co,int i64 pk,int i64 lo,int i64 hi]):=hid (by rw[hw2];exact Whole.new _ _ _)
   have S2:=hid ((S1.out.below hT.out S1.out.lt).below B2.out zo)
   have Af:=hid hw2
   clear hw2
   gi_wp2
   rw[← Af.out]
   have qc:∀d os,(grow (redrawn w2 d) os).cell? ⟨wo.heap.size,1,none⟩=some (int i64 co):=cell_regrown (G2.out.cell 1)
   have q0:∀d os,(grow (redrawn w2 d) os).cell? ⟨w.heap.size+1,0,none⟩=some (int i64 (s 0)):=cell_regrown (S2.out.cell 0)
   have q1:∀d os,(grow (redrawn w2 d) os).cell? ⟨w.heap.size+1,1,none⟩=some (int i64 (s 1)):=cell_regrown (S2.out.cell 1)
   have q2:∀d os,(grow (redrawn w2 d) os).cell? ⟨w.heap.size+1,2,none⟩=some (int i64 (s 2)):=cell_regrown (S2.out.cell 2)
   refine wpIn_region_quiet_below rfl zk zk ?_
   rcases(show k=0∨k=1∨k=2 by omega) with rfl|rfl|rfl
   all_goals
    repeat (quiet_step_in (fail))
    refine wpQuietIn_nil ?_
    rintro w' ⟨⟨dq,osq⟩,rfl⟩
    have bg:=below_regrown w2 dq osq
    gi_wp2
    exact⟨⟨_+1,hlt,rfl,by rw[Ur.out],hid (Below.next (Below.next hT.out B2.out) bg)⟩,by simp[intOf];omega⟩
  ·obtain rfl:k=ng:=zo
   gi_wp2
   go_ret
   exact⟨rfl,Below.next B1.out hT.out⟩
theorem Uk(b:Bk)(ok:b.Ok)(A:Option Addr)(n p:Nat)(day:Int)(xs:List Ht)(hx:∀h∈xs,oD h)(Bc Bd:Nat)(w:World)(hA:b.At w w.heap.size)(hc:Whole w Bc 76 (aA b A n p))(hd:Whole w Bd 3 #[int i64 day]):rX FF 65 #[.pointer (some ⟨Bc,0,none⟩),.pointer (some ⟨Bd,0,none⟩)] xs (fun h=>int i64 (iG b (stk b h day b.nm) b.ng)) w:=by
 refine⟨zs,enters_of func65 zk rfl,fun W h hh hW=>?_⟩
 have HF:=hid fun W hA=>gu b h day W hA ok.moves ok.bn.1.2 (hx h hh)
 have HG:=hid fun s W hA=>Yc b s W hA ok.bn.1.2
 have HA:=hid (hA.up hW)
 have C1:=hid (hc.below hW hc.lt)
 have D1:=hid (hd.below hW hd.lt)
 have h1:=C1.out.lt
 have h2:=D1.out.lt
 show CallsIn FF 0 prog 65 #[h.val,.pointer (some ⟨Bc,0,none⟩),.pointer (some ⟨Bd,0,none⟩)] W fun e W'=>e=.returned (int i64 (iG b (stk b h day b.nm) b.ng))∧Below W.heap.size W W'
 obtain⟨r,hr⟩:∃r,r=stk b h day b.nm:=⟨_,rfl⟩
 rw[← hr] at HF⊢
 have ur:=hid fun W hA=>HG.out r W hA
 obtain⟨u,hu⟩:∃u,u=iG b r b.ng:=⟨_,rfl⟩
 rw[← hu] at ur⊢
 clear hh hr hu hc hd hx hA ok hW HG
 obtain⟨w1,hw1⟩:∃w1,w1=W.alloc (.cells h.cells 88):=⟨_,rfl⟩
 have B1:Hid (Below W.heap.size W w1):=hid (by rw[hw1];exact bw)
 have H1:Hid (Whole w1 W.heap.size 88 h.cells):=hid (by rw[hw1];exact Whole.new _ _ _)
 have C2:=hid (C1.out.below B1.out h1)
 have D2:=hid (D1.out.below B1.out h2)
 have A2:=hid (HA.out.up B1.out)
 obtain⟨f,m,li⟩:=h
 obtain⟨days,most,gA,ng,gc,gs,mA,nm,mc,ms,cA,nc,cc,cs⟩:=b
 simp only[Ht.val,Ht.cells,Bk.val,Bk.cells,lV] at HF ur H1⊢
 simp only[aA] at C2
 simp only[Ht.cells] at hw1
 have lT:=hid hw1
 clear hw1
 have q0:∀d os,(grow (redrawn w1 d) os).cell? ⟨Bc,0,none⟩=some (int i64 days):=cell_regrown (C2.out.cell 0)
 have q1:∀d os,(grow (redrawn w1 d) os).cell? ⟨Bc,1,none⟩=some (int i64 most):=cell_regrown (C2.out.cell 1)
 have q2:∀d os,(grow (redrawn w1 d) os).cell? ⟨Bc,2,none⟩=some (.slice gA ng gc):=cell_regrown (C2.out.cell 2)
 have q3:∀d os,(grow (redrawn w1 d) os).cell? ⟨Bc,3,none⟩=some (.slice mA nm mc):=cell_regrown (C2.out.cell 3)
 have q4:∀d os,(grow (redrawn w1 d) os).cell? ⟨Bc,4,none⟩=some (.slice cA nc cc):=cell_regrown (C2.out.cell 4)
 have qd:∀d os,(grow (redrawn w1 d) os).cell? ⟨Bd,0,none⟩=some (int i64 day):=cell_regrown (D2.out.cell 0)
 have x0:∀d os,(grow (redrawn w1 d) os).cell? ⟨W.heap.size,0,none⟩=some (int i64 (f 0)):=cell_regrown (H1.out.cell 0)
 have x1:∀d os,(grow (redrawn w1 d) os).cell? ⟨W.heap.size,1,none⟩=some (int i64 (f 1)):=cell_regrown (H1.out.cell 1)
 have x2:∀d os,(grow (redrawn w1 d) os).cell? ⟨W.heap.size,2,none⟩=some (int i64 (f 2)):=cell_regrown (H1.out.cell 2)
 have x3:∀d os,(grow (redrawn w1 d) os).cell? ⟨W.heap.size,3,none⟩=some (int i64 (m 0)):=cell_regrown (H1.out.cell 3)
 have x4:∀d os,(grow (redrawn w1 d) os).cell? ⟨W.heap.size,4,none⟩=some (int i64 (m 1)):=cell_regrown (H1.out.cell 4)
 have x5:∀d os,(grow (redrawn w1 d) os).cell? ⟨W.heap.size,5,none⟩=some (int i64 (m 2)):=cell_regrown (H1.out.cell 5)
 have x6:∀d os,(grow (redrawn w1 d) os).cell? ⟨W.heap.size,6,none⟩=some (int i64 (m 3)):=cell_regrown (H1.out.cell 6)
 have x7:∀d os,(grow (redrawn w1 d) os).cell? ⟨W.heap.size,7,none⟩=some (int i64 (m 4)):=cell_regrown (H1.out.cell 7)
 have x8:∀d os,(grow (redrawn w1 d) os).cell? ⟨W.heap.size,8,none⟩=some (int i64 (m 5)):=cell_regrown (H1.out.cell 8)
 have x9:∀d os,(grow (redrawn w1 d) os).cell? ⟨W.heap.size,9,none⟩=some (int i64 li):=cell_regrown (H1.out.cell 9)
 have cS:∀d os,CallsIn FF 0 prog 42 #[.agg #[int i64 days,int i64 most,.slice gA ng gc,.slice mA nm mc,.slice cA nc cc],.agg #[int i64 (f 0),int i64 (f 1),int i64 (f 2),int i64 (m 0),int i64 (m 1),int i64 (m 2),int i64 (m 3),int i64 (m 4),int i64 (m 5),int i64 li],int i64 day] (grow (redrawn w1 d) os) fun e w''=>e=.returned (.agg #[int i64 (r 0),int i64 (r 1),int i64 (r 2)])∧∃p:Regrown,w''=grow (redrawn w1 p.d) p.os:=fun d os=>CallsIn.regrown_of (HF.out _ ((A2.out.below (below_regrown w1 d os)).more (below_regrown w1 d os).size))
 have cW:∀d os,CallsIn FF 0 prog 66 #[.agg #[int i64 days,int i64 most,.slice gA ng gc,.slice mA nm mc,.slice cA nc cc],.agg #[int i64 (r 0),int i64 (r 1),int i64 (r 2)]] (grow (redrawn w1 d) os) fun e w''=>e=.returned (int i64 u)∧∃p:Regrown,w''=grow (redrawn w1 p.d) p.os:=fun d os=>CallsIn.regrown_of (ur.out _ ((A2.out.below (below_regrown w1 d os)).more (below_regrown w1 d os).size))
 gi_enter func65,ntmps65
 gi_wp2
 rw[← lT.out]
 refine wpIn_region_quiet_below rfl zk zk ?_
 repeat (quiet_step_in (first|exact cS _ _|exact cW _ _))
 refine wpQuietIn_nil ?_
 rintro w' ⟨⟨dq,osq⟩,rfl⟩
 have bg:=below_regrown w1 dq osq
 gi_wp2
 go_ret
 exact⟨rfl,Below.next B1.out bg⟩
def AO(kd go dy:Int)(gd:Nat)(a z:Int):Bool:=decide (kd=2) && (decide (go=gd) && fO dy a z)
def kD(b:Bk)(h:Ht)(gd:Nat)(a z:Int):Nat→Int
 | 0=>0
 | Nat.succ k=>bif AO (b.m k).kind (b.m k).good (b.m k).day gd a z then wrap64 (kD b h gd a z k+h.real k) else kD b h gd a z k
theorem cx(b:Bk)(h:Ht)(gd:Nat)(a z:Int)(w:World)(hA:b.At w w.heap.size)(hnm:b.nm≤6)(hh:h.lies<64):CallsIn FF 0 prog 64 #[b.val,h.val,int i64 gd,.agg #[int i64 a,int i64 z]] w fun e w'=>e=.returned (int i64 (kD b h gd a z b.nm))∧Below w.heap.size w w':=by
 obtain⟨L,hL⟩:∃L,L=kD b h gd a z:=⟨_,rfl⟩
 obtain⟨R,hR⟩:∃R,R=h.real:=⟨_,rfl⟩
 have i9:Hid (L 0=0):=hid (by rw[hL];rfl)
 have Qk:Hid (∀k,L (k+1)=bif AO (b.m k).kind (b.m k).good (b.m k).day gd a z then wrap64 (L k+R k) else L k):=hid fun k=>by rw[hL,hR];rfl
 have fS:=hid fun k (w:World) (hk:k<b.nm)=>nK h k w hh zo
 have G4:=hid fun n (w:World)=>CallsIn.wider (YE a z n w)
 rw[← hL]
 rw[← hR] at fS
 clear hL hR hh
 have HA:=hid hA
 clear hA
 obtain⟨days,most,gA,ng,gc,g,mA,nm,mc,m,cA,nc,cc,c⟩:=b
 obtain⟨f,ms,li⟩:=h
 simp only[Bk.val,Bk.cells,Ht.val,Ht.cells] at Qk fS hnm⊢
 obtain⟨w1,hw1⟩:∃w1,w1=((w.alloc (.cells #[int i64 days,int i64 most,.slice gA ng gc,.slice mA nm mc,.slice cA nc cc] 74)).alloc (.cells #[int i64 (f 0),int i64 (f 1),int i64 (f 2),int i64 (ms 0),int i64 (ms 1),int i64 (ms 2),int i64 (ms 3),int i64 (ms 4),int i64 (ms 5),int i64 li] 88)).alloc (.cells #[int i64 a,int i64 z] 38):=⟨_,rfl⟩
 have B1:Hid (Below w.heap.size w w1):=hid (by rw[hw1];exact bw)
 have H1:Hid (Whole w1 (w.heap.size+1) 88 #[int i64 (f 0),int i64 (f 1),int i64 (f 2),int i64 (ms 0),int i64 (ms 1),int i64 (ms 2),int i64 (ms 3),int i64 (ms 4),int i64 (ms 5),int i64 li]):=hid (by
  have:=(Whole.new (w.alloc (.cells #[int i64 days,int i64 most,.slice gA ng gc,.slice mA nm mc,.slice cA nc cc] 74)) 88 #[int i64 (f 0),int i64 (f 1),int i64 (f 2),int i64 (ms 0),int i64 (ms 1),int i64 (ms 2),int i64 (ms 3),int i64 (ms 4),int i64 (ms 5),int i64 li]).alloc (.cells #[int i64 a,int i64 z] 38)
  rw[World.size_alloc] at this;rw[hw1];exact this)
 have D1:Hid (Whole w1 (w.heap.size+1+1) 38 #[int i64 a,int i64 z]):=hid (by
  have:=Whole.new ((w.alloc (.cells #[int i64 days,int i64 most,.slice gA ng gc,.slice mA nm mc,.slice cA nc cc] 74)).alloc (.cells #[int i64 (f 0),int i64 (f 1),int i64 (f 2),int i64 (ms 0),int i64 (ms 1),int i64 (ms 2),int i64 (ms 3),int i64 (ms 4),int i64 (ms 5),int i64 li] 88)) 38 #[int i64 a,int i64 z]
  rw[World.size_alloc,World.size_alloc] at this;rw[hw1];exact this)
 have A1:=hid (HA.out.up B1.out)
 have hs1:w1.heap.size=w.heap.size+3:=by rw[hw1];simp
 have lT:=hid hw1
 clear hw1
 gi_enter func64,ntmps64
 gi_wp2
 rw[← lT.out]
 clear lT
 gi_loopw [9,16] (fun u i wr=>∃k:Nat,k≤nm∧i=int i64 k∧u=int i64 (L k)∧Hid (Below w1.heap.size w1 wr)) (fun _ i _=>nm - (intOf i).toNat)
 case atStart=>exact⟨0,Nat.zero_le _,rfl,by rw[i9.out],hid (Below.refl _ _)⟩
 case round=>
  obtain⟨k,hk,rfl,rfl,hT⟩:=hrel
  obtain⟨wo,rfl⟩:∃wo:World,wo=wr:=⟨_,rfl⟩
  have hsz:=hT.out.size
  by_cases hlt:k<nm
  ·obtain⟨ad,hA',hbl,-⟩:=A1.out.m (show 0<nm by omega)
   simp only at hA'
   subst hA'
   obtain⟨gk,uJ⟩:∃gk,gk=m k:=⟨_,rfl⟩
   have hr:∀j,j<5→wo.cell? ((ad.add (k * 5)).add j)=some (gk.cell j):=fun j hj=>by rw[uJ];exact((A1.out.m.below hT.out)).row hlt |>.2 j hj
   have hLk:=Qk.out k
   rw[← uJ] at hLk
   obtain⟨kd,go,dy,lo,hi⟩:=gk
   have c0:wo.cell? (ad.add (k * 5))=some (int i64 kd):=hr 0 zD
   have c1:wo.cell? ⟨(ad.add (k * 5)).block,(ad.add (k * 5)).off+1,none⟩=some (int i64 go):=hr 1 zD
   have c2:wo.cell? ⟨(ad.add (k * 5)).block,(ad.add (k * 5)).off+2,none⟩=some (int i64 dy):=hr 2 zD
   have c3:wo.cell? ⟨(ad.add (k * 5)).block,(ad.add (k * 5)).off+3,none⟩=some (int i64 lo):=hr 3 zD
   have c4:wo.cell? ⟨(ad.add (k * 5)).block,(ad.add (k * 5)).off+4,none⟩=some (int i64 hi):=hr 4 zD
   clear hr
   simp only at hLk
   have Ur:=hid hLk
   clear uJ hLk
   by_cases k2:kd=2
   ·subst k2
    by_cases g2:go=gd
    ·subst g2
     obtain⟨w2,hw2⟩:∃w2,w2=wo.alloc (.cells #[int i64 2,int i64 gd,int i64 dy,int i64 lo,int i64 hi] 52):=⟨_,rfl⟩
     have B2:Hid (Below wo.heap.size wo w2):=hid (by rw[hw2];exact bw)
     have H2:=hid ((H1.out.below hT.out H1.out.lt).below B2.out zo)
     have D2:=hid ((D1.out.below hT.out D1.out.lt).below B2.out zo)
     have d0:w2.cell? ⟨w.heap.size+1+1,0,none⟩=some (int i64 a):=D2.out.cell 0
     have d1:w2.cell? ⟨w.heap.size+1+1,1,none⟩=some (int i64 z):=D2.out.cell 1
     have h0:w2.cell? ⟨w.heap.size+1,0,none⟩=some (int i64 (f 0)):=H2.out.cell 0
     have h1:w2.cell? ⟨w.heap.size+1,1,none⟩=some (int i64 (f 1)):=H2.out.cell 1
     have h2:w2.cell? ⟨w.heap.size+1,2,none⟩=some (int i64 (f 2)):=H2.out.cell 2
     have h3:w2.cell? ⟨w.heap.size+1,3,none⟩=some (int i64 (ms 0)):=H2.out.cell 3
     have h4:w2.cell? ⟨w.heap.size+1,4,none⟩=some (int i64 (ms 1)):=H2.out.cell 4
     have h5:w2.cell? ⟨w.heap.size+1,5,none⟩=some (int i64 (ms 2)):=H2.out.cell 5
     have h6:w2.cell? ⟨w.heap.size+1,6,none⟩=some (int i64 (ms 3)):=H2.out.cell 6
     have h7:w2.cell? ⟨w.heap.size+1,7,none⟩=some (int i64 (ms 4)):=H2.out.cell 7
     have h8:w2.cell? ⟨w.heap.size+1,8,none⟩=some (int i64 (ms 5)):=H2.out.cell 8
     have h9:w2.cell? ⟨w.heap.size+1,9,none⟩=some (int i64 li):=H2.out.cell 9
     have RE:=hid fun w=>fS.out k w hlt
     rw[hw2] at d0 d1 h0 h1 h2 h3 h4 h5 h6 h7 h8 h9
     have Af:=hid hw2
     clear hw2
     cases hi2:fO dy a z with
     | true=>
       have HI:=hid hi2
       rw[AO,decide_eq_true rfl,decide_eq_true rfl,hi2] at Ur
       have uu:=hid fun w=>by have:=G4.out dy w;rw[hi2] at this;exact this
       clear hi2
       gi_wp2_with (first
        | (gi_at_call 91;rw[← Af.out];refine(uu.out _).mono ?_;rintro e w3 ⟨rfl,hb3⟩;have H3:=H2.out.below hb3 H2.out.lt;have j0:w3.cell? ⟨w.heap.size+1,0,none⟩=some (int i64 (f 0)):=H3.cell 0;have j1:w3.cell? ⟨w.heap.size+1,1,none⟩=some (int i64 (f 1)):=H3.cell 1;have j2:w3.cell? ⟨w.heap.size+1,2,none⟩=some (int i64 (f 2)):=H3.cell 2;have j3:w3.cell? ⟨w.heap.size+1,3,none⟩=some (int i64 (ms 0)):=H3.cell 3;have j4:w3.cell? ⟨w.heap.size+1,4,none⟩=some (int i64 (ms 1)):=H3.cell 4;have j5:w3.cell? ⟨w.heap.size+1,5,none⟩=some (int i64 (ms 2)):=H3.cell 5;have j6:w3.cell? ⟨w.heap.size+1,6,none⟩=some (int i64 (ms 3)):=H3.cell 6;have j7:w3.cell? ⟨w.heap.size+1,7,none⟩=some (int i64 (ms 4)):=H3.cell 7;have j8:w3.cell? ⟨w.heap.size+1,8,none⟩=some (int i64 (ms 5)):=H3.cell 8;have j9:w3.cell? ⟨w.heap.size+1,9,none⟩=some (int i64 li):=H3.cell 9)
        | (gi_at_call 57;refine(RE.out _).mono ?_;rintro e w4 ⟨rfl,hb4⟩))
       exact⟨⟨k+1,hlt,by push_cast;rfl,by rw[Ur.out];rfl,hid (Below.next (Below.next (Below.next hT.out B2.out) hb3) hb4)⟩,by simp[intOf];omega⟩
     | false=>
       rw[AO,decide_eq_true rfl,decide_eq_true rfl,hi2] at Ur
       have uu:=hid fun w=>by have:=G4.out dy w;rw[hi2] at this;exact this
       clear hi2
       gi_wp2_with (gi_at_call 91;rw[← Af.out];refine(uu.out _).mono ?_;rintro e w3 ⟨rfl,hb3⟩)
       exact⟨⟨k+1,hlt,by push_cast;rfl,by rw[Ur.out];rfl,hid (Below.next (Below.next hT.out B2.out) hb3)⟩,by simp[intOf];omega⟩
    ·have hd:decide (go=(gd:Int))=false:=decide_eq_false g2
     rw[AO,hd,Bool.false_and,Bool.and_false] at Ur
     gi_wp2
     exact⟨⟨k+1,hlt,by push_cast;rfl,by rw[Ur.out];rfl,hid (Below.al hT.out _)⟩,by simp[intOf];omega⟩
   ·have hd:decide (kd=2)=false:=decide_eq_false k2
    rw[AO,hd,Bool.false_and] at Ur
    gi_wp2
    exact⟨⟨k+1,hlt,by push_cast;rfl,by rw[Ur.out];rfl,hid (Below.al hT.out _)⟩,by simp[intOf];omega⟩
  ·obtain rfl:k=nm:=zo
   gi_wp2
   go_ret
   exact⟨rfl,Below.next B1.out hT.out⟩
theorem VZ(b:Bk)(ok:b.Ok)(A:Option Addr)(n p:Nat)(gd:Nat)(a z:Int)(xs:List Ht)(hx:∀h∈xs,oD h)(Bc Bg Bd:Nat)(w:World)(hA:b.At w w.heap.size)(hc:Whole w Bc 76 (aA b A n p))(hg:Whole w Bg 3 #[int i64 gd])(hd:Whole w Bd 38 #[int i64 a,int i64 z]):rX FF 63 #[.pointer (some ⟨Bc,0,none⟩),.pointer (some ⟨Bg,0,none⟩),.pointer (some ⟨Bd,0,none⟩)] xs (fun h=>int i64 (kD b h gd a z b.nm)) w:=by
 refine⟨zs,enters_of func63 zk rfl,fun W h hh hW=>?_⟩
 have HF:=hid fun W hA=>cx b h gd a z W hA ok.moves.1 (hx h hh).lies
 have HA:=hid (hA.up hW)
 have C1:=hid (hc.below hW hc.lt)
 have G1:=hid (hg.below hW hg.lt)
 have D1:=hid (hd.below hW hd.lt)
 have h1:=C1.out.lt
 have h2:=D1.out.lt
 have h3:=G1.out.lt
 show CallsIn FF 0 prog 63 #[h.val,.pointer (some ⟨Bc,0,none⟩),.pointer (some ⟨Bg,0,none⟩),.pointer (some ⟨Bd,0,none⟩)] W fun e W'=>e=.returned (int i64 (kD b h gd a z b.nm))∧Below W.heap.size W W'
 obtain⟨u,hu⟩:∃u,u=kD b h gd a z b.nm:=⟨_,rfl⟩
 rw[← hu] at HF⊢
 clear hh hu hc hd hg hx hA ok hW
 obtain⟨f,m,li⟩:=h
 obtain⟨days,most,gA,ng,gc,gs,mA,nm,mc,ms,cA,nc,cc,cs⟩:=b
 simp only[Ht.val,Ht.cells,Bk.val,Bk.cells] at HF⊢
 simp only[aA] at C1
 have q0:W.cell? ⟨Bc,0,none⟩=some (int i64 days):=C1.out.cell 0
 have q1:W.cell? ⟨Bc,1,none⟩=some (int i64 most):=C1.out.cell 1
 have q2:W.cell? ⟨Bc,2,none⟩=some (.slice gA ng gc):=C1.out.cell 2
 have q3:W.cell? ⟨Bc,3,none⟩=some (.slice mA nm mc):=C1.out.cell 3
 have q4:W.cell? ⟨Bc,4,none⟩=some (.slice cA nc cc):=C1.out.cell 4
 have d0:W.cell? ⟨Bd,0,none⟩=some (int i64 a):=D1.out.cell 0
 have d1:W.cell? ⟨Bd,1,none⟩=some (int i64 z):=D1.out.cell 1
 have g0:W.cell? ⟨Bg,0,none⟩=some (int i64 gd):=G1.out.cell 0
 gi_enter func63,ntmps63
 gi_wp2_with (gi_at_call 64;refine(HF.out _ (HA.out.up (bw))).mono ?_;rintro e w4 ⟨rfl,hb4⟩)
 go_ret
 exact⟨rfl,Below.next (bw) hb4⟩
end
end Go.Proofs.YthaelabgfnnebaaGreat
