/- HW HL HQ -/
import Derived.Test.YtmjjocnfidnelaaGreatD0
set_option maxRecDepth 100000
set_option maxHeartbeats 16000000
set_option linter.unusedVariables false
set_option linter.unusedSectionVars false
open Go.IntKind(i64)
open Go.Lib(hid)
open Go.Proofs.Tryz
open Go.Value(int)
namespace Go.Proofs.YtmjjocnfidnelaaGreat
section
open Go.RowKit
open Go.Sort (grow)
attribute [local go_sem] Oper.semAt_some
def iJ(b:Bk)(s:Nat→Int):Nat→Int
 | 0=>0
 | Nat.succ k=>IntKind.i64.wrap (iJ b s k+IntKind.i64.wrap ((b.g k).cost * s k))
theorem Zz(b:Bk)(s:Nat→Int)(w:World)(hA:b.At w w.heap.size)(hg:b.ng≤3):CallsIn FF 0 prog 55 #[b.val,mE s] w fun e w'=>e=.returned (int i64 (iJ b s b.ng))∧Below w.heap.size w w':=by
 obtain⟨L,hL⟩:∃L,L=iJ b s:=⟨_,rfl⟩
 have od:Hid (L 0=0):=hid (by rw[hL];rfl)
 have Rk:Hid (∀k,L (k+1)=IntKind.i64.wrap (L k+IntKind.i64.wrap ((b.g k).cost * s k))):=hid fun k=>by rw[hL];rfl
 rw[← hL]
 clear hL
 have HA:=hid hA
 clear hA
 obtain⟨days,most,gA,ng,gc,g,mA,nm,mc,m,cA,nc,cc,c⟩:=b
 simp only[Bk.val,Bk.cells,mE] at Rk hg⊢
 obtain⟨w1,hw1⟩:∃w1,w1=(w.alloc (.cells #[int i64 days,int i64 most,.slice gA ng gc,.slice mA nm mc,.slice cA nc cc] 71)).alloc (.cells #[int i64 (s 0),int i64 (s 1),int i64 (s 2)] 75):=⟨_,rfl⟩
 have B1:Hid (Below w.heap.size w w1):=hid (by rw[hw1];exact bw)
 have S1:Hid (Whole w1 (w.heap.size+1) 75 #[int i64 (s 0),int i64 (s 1),int i64 (s 2)]):=hid (by
  have:=Whole.new (w.alloc (.cells #[int i64 days,int i64 most,.slice gA ng gc,.slice mA nm mc,.slice cA nc cc] 71)) 75 #[int i64 (s 0),int i64 (s 1),int i64 (s 2)]
  rw[World.size_alloc] at this;rw[hw1];exact this)
 have A1:=hid (HA.out.up B1.out)
 have hs1:w1.heap.size=w.heap.size+2:=by rw[hw1];simp
 have nK:=hid hw1
 clear hw1
 gi_enter func55,ntmps55
 gi_wp2
 rw[← nK.out]
 clear nK
 gi_loopw [5,12] (fun u i wr=>∃k:Nat,k≤ng∧i=int i64 k∧u=int i64 (L k)∧Hid (Below w1.heap.size w1 wr)) (fun _ i _=>ng - (intOf i).toNat)
 case atStart=>exact⟨0,Nat.zero_le _,rfl,by rw[od.out],hid (Below.refl _ _)⟩
 case round=>
  obtain⟨k,hk,rfl,rfl,hT⟩:=hrel
  obtain⟨wo,rfl⟩:∃wo:World,wo=wr:=⟨_,rfl⟩
  have hsz:=hT.out.size
  by_cases hlt:k<ng
  ·obtain⟨ad,hA',hbl,-⟩:=A1.out.g (show 0<ng by omega)
   simp only at hA'
   subst hA'
   obtain⟨gk,Ee⟩:∃gk,gk=g k:=⟨_,rfl⟩
   have hr:∀j,j<5→wo.cell? ((ad.add (k * 5)).add j)=some (gk.cell j):=fun j hj=>by rw[Ee];exact((A1.out.g.below hT.out)).row hlt |>.2 j hj
   have hLk:=Rk.out k
   rw[← Ee] at hLk
   obtain⟨MP,co,pk,lo,hi⟩:=gk
   have c0:wo.cell? (ad.add (k * 5))=some (.string MP):=hr 0 zD
   have c1:wo.cell? ⟨(ad.add (k * 5)).block,(ad.add (k * 5)).off+1,none⟩=some (int i64 co):=hr 1 zD
   have c2:wo.cell? ⟨(ad.add (k * 5)).block,(ad.add (k * 5)).off+2,none⟩=some (int i64 pk):=hr 2 zD
   have c3:wo.cell? ⟨(ad.add (k * 5)).block,(ad.add (k * 5)).off+3,none⟩=some (int i64 lo):=hr 3 zD
   have c4:wo.cell? ⟨(ad.add (k * 5)).block,(ad.add (k * 5)).off+4,none⟩=some (int i64 hi):=hr 4 zD
   clear hr
   simp only at hLk
   have VH:=hid hLk
   clear Ee hLk
   obtain⟨w2,hw2⟩:∃w2,w2=wo.alloc (.cells #[.string MP,int i64 co,int i64 pk,int i64 lo,int i64 hi] 68):=⟨_,rfl⟩
   have B2:Hid (Below wo.heap.size wo w2):=hid (by rw[hw2];exact bw)
   have G2:Hid (Whole w2 wo.heap.size 68 #[.string MP,int i64 co,int i64 pk,int i64 lo,int i64 hi]):=hid (by rw[hw2];exact Whole.new _ _ _)
   have S2:=hid ((S1.out.below hT.out S1.out.lt).below B2.out zo)
   have E9:=hid hw2
   clear hw2
   gi_wp2
   rw[← E9.out]
   have qc:∀d os,(grow (redrawn w2 d) os).cell? ⟨wo.heap.size,1,none⟩=some (int i64 co):=cell_regrown (G2.out.cell 1)
   have q0:∀d os,(grow (redrawn w2 d) os).cell? ⟨w.heap.size+1,0,none⟩=some (int i64 (s 0)):=cell_regrown (S2.out.cell 0)
   have q1:∀d os,(grow (redrawn w2 d) os).cell? ⟨w.heap.size+1,1,none⟩=some (int i64 (s 1)):=cell_regrown (S2.out.cell 1)
   have q2:∀d os,(grow (redrawn w2 d) os).cell? ⟨w.heap.size+1,2,none⟩=some (int i64 (s 2)):=cell_regrown (S2.out.cell 2)
   refine wpIn_region_quiet_below rfl zk zk ?_
   rcases(show k=0∨k=1∨k=2 by omega) with rfl|rfl|rfl
   all_goals
    repeat (quiet_step_in (fail))
    refine wpQuietIn_nil ?_
    rintro w' ⟨⟨dq,osq⟩,rfl⟩
    have bE:=below_regrown w2 dq osq
    gi_wp2
    exact⟨⟨_+1,hlt,rfl,by rw[VH.out],hid (Below.next (Below.next hT.out B2.out) bE)⟩,by simp[intOf];omega⟩
  ·obtain rfl:k=ng:=zo
   gi_wp2
   go_ret
   exact⟨rfl,Below.next B1.out hT.out⟩
theorem Vz(b:Bk)(ok:b.Ok)(A:Option Addr)(n p:Nat)(day:Int)(xs:List Ht)(hx:∀h∈xs,oW h)(Bc Bd:Nat)(w:World)(hA:b.At w w.heap.size)(hc:Whole w Bc 73 (ay b A n p))(hd:Whole w Bd 3 #[int i64 day]):tC FF 54 #[.pointer (some ⟨Bc,0,none⟩),.pointer (some ⟨Bd,0,none⟩)] xs (fun h=>int i64 (iJ b (stk b h day b.nm) b.ng)) w:=by
 refine⟨zs,enters_of func54 zk rfl,fun W h hh hW=>?_⟩
 have HF:=hid fun W hA=>gF b h day W hA ok.moves ok.dn.1.2 (hx h hh)
 have HG:=hid fun s W hA=>Zz b s W hA ok.dn.1.2
 have HA:=hid (hA.up hW)
 have C1:=hid (hc.below hW hc.lt)
 have D1:=hid (hd.below hW hd.lt)
 have h1:=C1.out.lt
 have h2:=D1.out.lt
 show CallsIn FF 0 prog 54 #[h.val,.pointer (some ⟨Bc,0,none⟩),.pointer (some ⟨Bd,0,none⟩)] W fun e W'=>e=.returned (int i64 (iJ b (stk b h day b.nm) b.ng))∧Below W.heap.size W W'
 obtain⟨r,hr⟩:∃r,r=stk b h day b.nm:=⟨_,rfl⟩
 rw[← hr] at HF⊢
 have Dd:=hid fun W hA=>HG.out r W hA
 obtain⟨u,hu⟩:∃u,u=iJ b r b.ng:=⟨_,rfl⟩
 rw[← hu] at Dd⊢
 clear hh hr hu hc hd hx hA ok hW HG
 obtain⟨w1,hw1⟩:∃w1,w1=W.alloc (.cells h.cells 78):=⟨_,rfl⟩
 have B1:Hid (Below W.heap.size W w1):=hid (by rw[hw1];exact bw)
 have H1:Hid (Whole w1 W.heap.size 78 h.cells):=hid (by rw[hw1];exact Whole.new _ _ _)
 have C2:=hid (C1.out.below B1.out h1)
 have D2:=hid (D1.out.below B1.out h2)
 have A2:=hid (HA.out.up B1.out)
 obtain⟨f,m,li⟩:=h
 obtain⟨days,most,gA,ng,gc,gs,mA,nm,mc,ms,cA,nc,cc,cs⟩:=b
 simp only[Ht.val,Ht.cells,Bk.val,Bk.cells,mE] at HF Dd H1⊢
 simp only[ay] at C2
 simp only[Ht.cells] at hw1
 have nK:=hid hw1
 clear hw1
 have q0:∀d os,(grow (redrawn w1 d) os).cell? ⟨Bc,0,none⟩=some (int i64 days):=cell_regrown (C2.out.cell 0)
 have q1:∀d os,(grow (redrawn w1 d) os).cell? ⟨Bc,1,none⟩=some (int i64 most):=cell_regrown (C2.out.cell 1)
 have q2:∀d os,(grow (redrawn w1 d) os).cell? ⟨Bc,2,none⟩=some (.slice gA ng gc):=cell_regrown (C2.out.cell 2)
 have q3:∀d os,(grow (redrawn w1 d) os).cell? ⟨Bc,3,none⟩=some (.slice mA nm mc):=cell_regrown (C2.out.cell 3)
 have q4:∀d os,(grow (redrawn w1 d) os).cell? ⟨Bc,4,none⟩=some (.slice cA nc cc):=cell_regrown (C2.out.cell 4)
 have qd:∀d os,(grow (redrawn w1 d) os).cell? ⟨Bd,0,none⟩=some (int i64 day):=cell_regrown (D2.out.cell 0)
 have x0:∀d os,(grow (redrawn w1 d) os).cell? ⟨W.heap.size,0,none⟩=some (int i64 (f 0)):=cell_regrown (H1.out.cell 0)
 have x1:∀d os,(grow (redrawn w1 d) os).cell? ⟨W.heap.size,1,none⟩=some (int i64 (f 1)):=cell_regrown (H1.out.cell 1)
 have x2:∀d os,(grow (redrawn w1 d) os).cell? ⟨W.heap.size,2,none⟩=some (int i64 (f 2)):=cell_regrown (H1.out.cell 2)
 have x3:∀d os,(grow (redrawn w1 d) os).cell? ⟨W.heap.size,3,none⟩=some (int i64 (m 0)):=cell_regrown (H1.out.cell 3)
 have x4:∀d os,(grow (redrawn w1 d) os).cell? ⟨W.heap.size,4,none⟩=some (int i64 (m 1)):=cell_regrown (H1.out.cell 4)
 have x5:∀d os,(grow (redrawn w1 d) os).cell? ⟨W.heap.size,5,none⟩=some (int i64 (m 2)):=cell_regrown (H1.out.cell 5)
 have x6:∀d os,(grow (redrawn w1 d) os).cell? ⟨W.heap.size,6,none⟩=some (int i64 (m 3)):=cell_regrown (H1.out.cell 6)
 have x7:∀d os,(grow (redrawn w1 d) os).cell? ⟨W.heap.size,7,none⟩=some (int i64 (m 4)):=cell_regrown (H1.out.cell 7)
 have x8:∀d os,(grow (redrawn w1 d) os).cell? ⟨W.heap.size,8,none⟩=some (int i64 (m 5)):=cell_regrown (H1.out.cell 8)
 have x9:∀d os,(grow (redrawn w1 d) os).cell? ⟨W.heap.size,9,none⟩=some (int i64 li):=cell_regrown (H1.out.cell 9)
 have cS:∀d os,CallsIn FF 0 prog 28 #[.agg #[int i64 days,int i64 most,.slice gA ng gc,.slice mA nm mc,.slice cA nc cc],.agg #[int i64 (f 0),int i64 (f 1),int i64 (f 2),int i64 (m 0),int i64 (m 1),int i64 (m 2),int i64 (m 3),int i64 (m 4),int i64 (m 5),int i64 li],int i64 day] (grow (redrawn w1 d) os) fun e w''=>e=.returned (.agg #[int i64 (r 0),int i64 (r 1),int i64 (r 2)])∧∃p:Regrown,w''=grow (redrawn w1 p.d) p.os:=fun d os=>CallsIn.regrown_of (HF.out _ ((A2.out.below (below_regrown w1 d os)).more (below_regrown w1 d os).size))
 have cW:∀d os,CallsIn FF 0 prog 55 #[.agg #[int i64 days,int i64 most,.slice gA ng gc,.slice mA nm mc,.slice cA nc cc],.agg #[int i64 (r 0),int i64 (r 1),int i64 (r 2)]] (grow (redrawn w1 d) os) fun e w''=>e=.returned (int i64 u)∧∃p:Regrown,w''=grow (redrawn w1 p.d) p.os:=fun d os=>CallsIn.regrown_of (Dd.out _ ((A2.out.below (below_regrown w1 d os)).more (below_regrown w1 d os).size))
 gi_enter func54,ntmps54
 gi_wp2
 rw[← nK.out]
 refine wpIn_region_quiet_below rfl zk zk ?_
 repeat (quiet_step_in (first|exact cS _ _|exact cW _ _))
 refine wpQuietIn_nil ?_
 rintro w' ⟨⟨dq,osq⟩,rfl⟩
 have bE:=below_regrown w1 dq osq
 gi_wp2
 go_ret
 exact⟨rfl,Below.next B1.out bE⟩
def Cq(kd go dy:Int)(gd:Nat)(a z:Int):Bool:=decide (kd=2) && (decide (go=gd) && gI dy a z)
def kM(b:Bk)(h:Ht)(gd:Nat)(a z:Int):Nat→Int
 | 0=>0
 | Nat.succ k=>bif Cq (b.m k).kind (b.m k).good (b.m k).day gd a z then wrap64 (kM b h gd a z k+h.real k) else kM b h gd a z k
theorem gr(b:Bk)(h:Ht)(gd:Nat)(a z:Int)(w:World)(hA:b.At w w.heap.size)(hnm:b.nm≤6)(hh:h.lies<64):CallsIn FF 0 prog 53 #[b.val,h.val,int i64 gd,.agg #[int i64 a,int i64 z]] w fun e w'=>e=.returned (int i64 (kM b h gd a z b.nm))∧Below w.heap.size w w':=by
 obtain⟨L,hL⟩:∃L,L=kM b h gd a z:=⟨_,rfl⟩
 obtain⟨R,hR⟩:∃R,R=h.real:=⟨_,rfl⟩
 have od:Hid (L 0=0):=hid (by rw[hL];rfl)
 have Rk:Hid (∀k,L (k+1)=bif Cq (b.m k).kind (b.m k).good (b.m k).day gd a z then wrap64 (L k+R k) else L k):=hid fun k=>by rw[hL,hR];rfl
 have ma:=hid fun k (w:World) (hk:k<b.nm)=>nX h k w hh zo
 have Se:=hid fun n (w:World)=>CallsIn.wider (Z9 a z n w)
 rw[← hL]
 rw[← hR] at ma
 clear hL hR hh
 have HA:=hid hA
 clear hA
 obtain⟨days,most,gA,ng,gc,g,mA,nm,mc,m,cA,nc,cc,c⟩:=b
 obtain⟨f,ms,li⟩:=h
 simp only[Bk.val,Bk.cells,Ht.val,Ht.cells] at Rk ma hnm⊢
 obtain⟨w1,hw1⟩:∃w1,w1=((w.alloc (.cells #[int i64 days,int i64 most,.slice gA ng gc,.slice mA nm mc,.slice cA nc cc] 71)).alloc (.cells #[int i64 (f 0),int i64 (f 1),int i64 (f 2),int i64 (ms 0),int i64 (ms 1),int i64 (ms 2),int i64 (ms 3),int i64 (ms 4),int i64 (ms 5),int i64 li] 78)).alloc (.cells #[int i64 a,int i64 z] 39):=⟨_,rfl⟩
 have B1:Hid (Below w.heap.size w w1):=hid (by rw[hw1];exact bw)
 have H1:Hid (Whole w1 (w.heap.size+1) 78 #[int i64 (f 0),int i64 (f 1),int i64 (f 2),int i64 (ms 0),int i64 (ms 1),int i64 (ms 2),int i64 (ms 3),int i64 (ms 4),int i64 (ms 5),int i64 li]):=hid (by
  have:=(Whole.new (w.alloc (.cells #[int i64 days,int i64 most,.slice gA ng gc,.slice mA nm mc,.slice cA nc cc] 71)) 78 #[int i64 (f 0),int i64 (f 1),int i64 (f 2),int i64 (ms 0),int i64 (ms 1),int i64 (ms 2),int i64 (ms 3),int i64 (ms 4),int i64 (ms 5),int i64 li]).alloc (.cells #[int i64 a,int i64 z] 39)
  rw[World.size_alloc] at this;rw[hw1];exact this)
 have D1:Hid (Whole w1 (w.heap.size+1+1) 39 #[int i64 a,int i64 z]):=hid (by
  have:=Whole.new ((w.alloc (.cells #[int i64 days,int i64 most,.slice gA ng gc,.slice mA nm mc,.slice cA nc cc] 71)).alloc (.cells #[int i64 (f 0),int i64 (f 1),int i64 (f 2),int i64 (ms 0),int i64 (ms 1),int i64 (ms 2),int i64 (ms 3),int i64 (ms 4),int i64 (ms 5),int i64 li] 78)) 39 #[int i64 a,int i64 z]
  rw[World.size_alloc,World.size_alloc] at this;rw[hw1];exact this)
 have A1:=hid (HA.out.up B1.out)
 have hs1:w1.heap.size=w.heap.size+3:=by rw[hw1];simp
 have nK:=hid hw1
 clear hw1
 gi_enter func53,ntmps53
 gi_wp2
 rw[← nK.out]
 clear nK
 gi_loopw [9,16] (fun u i wr=>∃k:Nat,k≤nm∧i=int i64 k∧u=int i64 (L k)∧Hid (Below w1.heap.size w1 wr)) (fun _ i _=>nm - (intOf i).toNat)
 case atStart=>exact⟨0,Nat.zero_le _,rfl,by rw[od.out],hid (Below.refl _ _)⟩
 case round=>
  obtain⟨k,hk,rfl,rfl,hT⟩:=hrel
  obtain⟨wo,rfl⟩:∃wo:World,wo=wr:=⟨_,rfl⟩
  have hsz:=hT.out.size
  by_cases hlt:k<nm
  ·obtain⟨ad,hA',hbl,-⟩:=A1.out.m (show 0<nm by omega)
   simp only at hA'
   subst hA'
   obtain⟨gk,Ee⟩:∃gk,gk=m k:=⟨_,rfl⟩
   have hr:∀j,j<5→wo.cell? ((ad.add (k * 5)).add j)=some (gk.cell j):=fun j hj=>by rw[Ee];exact((A1.out.m.below hT.out)).row hlt |>.2 j hj
   have hLk:=Rk.out k
   rw[← Ee] at hLk
   obtain⟨kd,go,dy,lo,hi⟩:=gk
   have c0:wo.cell? (ad.add (k * 5))=some (int i64 kd):=hr 0 zD
   have c1:wo.cell? ⟨(ad.add (k * 5)).block,(ad.add (k * 5)).off+1,none⟩=some (int i64 go):=hr 1 zD
   have c2:wo.cell? ⟨(ad.add (k * 5)).block,(ad.add (k * 5)).off+2,none⟩=some (int i64 dy):=hr 2 zD
   have c3:wo.cell? ⟨(ad.add (k * 5)).block,(ad.add (k * 5)).off+3,none⟩=some (int i64 lo):=hr 3 zD
   have c4:wo.cell? ⟨(ad.add (k * 5)).block,(ad.add (k * 5)).off+4,none⟩=some (int i64 hi):=hr 4 zD
   clear hr
   simp only at hLk
   have VH:=hid hLk
   clear Ee hLk
   by_cases k2:kd=2
   ·subst k2
    by_cases g2:go=gd
    ·subst g2
     obtain⟨w2,hw2⟩:∃w2,w2=wo.alloc (.cells #[int i64 2,int i64 gd,int i64 dy,int i64 lo,int i64 hi] 41):=⟨_,rfl⟩
     have B2:Hid (Below wo.heap.size wo w2):=hid (by rw[hw2];exact bw)
     have H2:=hid ((H1.out.below hT.out H1.out.lt).below B2.out zo)
     have D2:=hid ((D1.out.below hT.out D1.out.lt).below B2.out zo)
     have d0:w2.cell? ⟨w.heap.size+1+1,0,none⟩=some (int i64 a):=D2.out.cell 0
     have d1:w2.cell? ⟨w.heap.size+1+1,1,none⟩=some (int i64 z):=D2.out.cell 1
     have h0:w2.cell? ⟨w.heap.size+1,0,none⟩=some (int i64 (f 0)):=H2.out.cell 0
     have h1:w2.cell? ⟨w.heap.size+1,1,none⟩=some (int i64 (f 1)):=H2.out.cell 1
     have h2:w2.cell? ⟨w.heap.size+1,2,none⟩=some (int i64 (f 2)):=H2.out.cell 2
     have h3:w2.cell? ⟨w.heap.size+1,3,none⟩=some (int i64 (ms 0)):=H2.out.cell 3
     have h4:w2.cell? ⟨w.heap.size+1,4,none⟩=some (int i64 (ms 1)):=H2.out.cell 4
     have h5:w2.cell? ⟨w.heap.size+1,5,none⟩=some (int i64 (ms 2)):=H2.out.cell 5
     have h6:w2.cell? ⟨w.heap.size+1,6,none⟩=some (int i64 (ms 3)):=H2.out.cell 6
     have h7:w2.cell? ⟨w.heap.size+1,7,none⟩=some (int i64 (ms 4)):=H2.out.cell 7
     have h8:w2.cell? ⟨w.heap.size+1,8,none⟩=some (int i64 (ms 5)):=H2.out.cell 8
     have h9:w2.cell? ⟨w.heap.size+1,9,none⟩=some (int i64 li):=H2.out.cell 9
     have RE:=hid fun w=>ma.out k w hlt
     rw[hw2] at d0 d1 h0 h1 h2 h3 h4 h5 h6 h7 h8 h9
     have E9:=hid hw2
     clear hw2
     cases hi2:gI dy a z with
     | true=>
       have HI:=hid hi2
       rw[Cq,decide_eq_true rfl,decide_eq_true rfl,hi2] at VH
       have De:=hid fun w=>by have:=Se.out dy w;rw[hi2] at this;exact this
       clear hi2
       gi_wp2_with (first
        | (gi_at_call 78;rw[← E9.out];refine(De.out _).mono ?_;rintro e w3 ⟨rfl,hb3⟩;have H3:=H2.out.below hb3 H2.out.lt;have j0:w3.cell? ⟨w.heap.size+1,0,none⟩=some (int i64 (f 0)):=H3.cell 0;have j1:w3.cell? ⟨w.heap.size+1,1,none⟩=some (int i64 (f 1)):=H3.cell 1;have j2:w3.cell? ⟨w.heap.size+1,2,none⟩=some (int i64 (f 2)):=H3.cell 2;have j3:w3.cell? ⟨w.heap.size+1,3,none⟩=some (int i64 (ms 0)):=H3.cell 3;have j4:w3.cell? ⟨w.heap.size+1,4,none⟩=some (int i64 (ms 1)):=H3.cell 4;have j5:w3.cell? ⟨w.heap.size+1,5,none⟩=some (int i64 (ms 2)):=H3.cell 5;have j6:w3.cell? ⟨w.heap.size+1,6,none⟩=some (int i64 (ms 3)):=H3.cell 6;have j7:w3.cell? ⟨w.heap.size+1,7,none⟩=some (int i64 (ms 4)):=H3.cell 7;have j8:w3.cell? ⟨w.heap.size+1,8,none⟩=some (int i64 (ms 5)):=H3.cell 8;have j9:w3.cell? ⟨w.heap.size+1,9,none⟩=some (int i64 li):=H3.cell 9)
        | (gi_at_call 45;refine(RE.out _).mono ?_;rintro e w4 ⟨rfl,hb4⟩))
       exact⟨⟨k+1,hlt,by push_cast;rfl,by rw[VH.out];rfl,hid (Below.next (Below.next (Below.next hT.out B2.out) hb3) hb4)⟩,by simp[intOf];omega⟩
     | false=>
       rw[Cq,decide_eq_true rfl,decide_eq_true rfl,hi2] at VH
       have De:=hid fun w=>by have:=Se.out dy w;rw[hi2] at this;exact this
       clear hi2
       gi_wp2_with (gi_at_call 78;rw[← E9.out];refine(De.out _).mono ?_;rintro e w3 ⟨rfl,hb3⟩)
       exact⟨⟨k+1,hlt,by push_cast;rfl,by rw[VH.out];rfl,hid (Below.next (Below.next hT.out B2.out) hb3)⟩,by simp[intOf];omega⟩
    ·have hd:decide (go=(gd:Int))=false:=decide_eq_false g2
     rw[Cq,hd,Bool.false_and,Bool.and_false] at VH
     gi_wp2
     exact⟨⟨k+1,hlt,by push_cast;rfl,by rw[VH.out];rfl,hid (Below.al hT.out _)⟩,by simp[intOf];omega⟩
   ·have hd:decide (kd=2)=false:=decide_eq_false k2
    rw[Cq,hd,Bool.false_and] at VH
    gi_wp2
    exact⟨⟨k+1,hlt,by push_cast;rfl,by rw[VH.out];rfl,hid (Below.al hT.out _)⟩,by simp[intOf];omega⟩
  ·obtain rfl:k=nm:=zo
   gi_wp2
   go_ret
   exact⟨rfl,Below.next B1.out hT.out⟩
theorem XJ(b:Bk)(ok:b.Ok)(A:Option Addr)(n p:Nat)(gd:Nat)(a z:Int)(xs:List Ht)(hx:∀h∈xs,oW h)(Bc Bg Bd:Nat)(w:World)(hA:b.At w w.heap.size)(hc:Whole w Bc 73 (ay b A n p))(hg:Whole w Bg 3 #[int i64 gd])(hd:Whole w Bd 39 #[int i64 a,int i64 z]):tC FF 52 #[.pointer (some ⟨Bc,0,none⟩),.pointer (some ⟨Bg,0,none⟩),.pointer (some ⟨Bd,0,none⟩)] xs (fun h=>int i64 (kM b h gd a z b.nm)) w:=by
 refine⟨zs,enters_of func52 zk rfl,fun W h hh hW=>?_⟩
 have HF:=hid fun W hA=>gr b h gd a z W hA ok.moves.1 (hx h hh).lies
 have HA:=hid (hA.up hW)
 have C1:=hid (hc.below hW hc.lt)
 have G1:=hid (hg.below hW hg.lt)
 have D1:=hid (hd.below hW hd.lt)
 have h1:=C1.out.lt
 have h2:=D1.out.lt
 have h3:=G1.out.lt
 show CallsIn FF 0 prog 52 #[h.val,.pointer (some ⟨Bc,0,none⟩),.pointer (some ⟨Bg,0,none⟩),.pointer (some ⟨Bd,0,none⟩)] W fun e W'=>e=.returned (int i64 (kM b h gd a z b.nm))∧Below W.heap.size W W'
 obtain⟨u,hu⟩:∃u,u=kM b h gd a z b.nm:=⟨_,rfl⟩
 rw[← hu] at HF⊢
 clear hh hu hc hd hg hx hA ok hW
 obtain⟨f,m,li⟩:=h
 obtain⟨days,most,gA,ng,gc,gs,mA,nm,mc,ms,cA,nc,cc,cs⟩:=b
 simp only[Ht.val,Ht.cells,Bk.val,Bk.cells] at HF⊢
 simp only[ay] at C1
 have q0:W.cell? ⟨Bc,0,none⟩=some (int i64 days):=C1.out.cell 0
 have q1:W.cell? ⟨Bc,1,none⟩=some (int i64 most):=C1.out.cell 1
 have q2:W.cell? ⟨Bc,2,none⟩=some (.slice gA ng gc):=C1.out.cell 2
 have q3:W.cell? ⟨Bc,3,none⟩=some (.slice mA nm mc):=C1.out.cell 3
 have q4:W.cell? ⟨Bc,4,none⟩=some (.slice cA nc cc):=C1.out.cell 4
 have d0:W.cell? ⟨Bd,0,none⟩=some (int i64 a):=D1.out.cell 0
 have d1:W.cell? ⟨Bd,1,none⟩=some (int i64 z):=D1.out.cell 1
 have g0:W.cell? ⟨Bg,0,none⟩=some (int i64 gd):=G1.out.cell 0
 gi_enter func52,ntmps52
 gi_wp2_with (gi_at_call 53;refine(HF.out _ (HA.out.up (bw))).mono ?_;rintro e w4 ⟨rfl,hb4⟩)
 go_ret
 exact⟨rfl,Below.next (bw) hb4⟩
theorem aP{w:World}{t:TypeId}{cs:Array Value}{n:Nat}(h:w.heap.size=n):Whole (w.alloc (.cells cs t)) n t cs:=by subst h;exact Whole.new _ _ _
theorem vE(b:Bk)(k:Nat)(w:World)(h:b.At w w.heap.size)(ok:b.Ok)(hcap:b.ng≤b.gc)(hl:∀s∈au b,fG s)(hlen:(aH b (au b)).length<2 ^ 40)(hk:k<b.nm)(hkd:(b.m k).kind=0):CallsIn FF 0 prog 16 #[b.val,int i64 k] w fun e w'=>e=.returned (.tuple #[int i64 (Nh (aH b (au b)).length ((aH b (au b)).filter fun h=>h.IY k).length),int i64 (RN (aH b (au b)).length)])∧Below w.heap.size w w':=by
 have hx:=kL b ok (au b) hl
 have HO:=hid fun w h=>nU b w h ok hcap
 have HH:=hid fun A p w hc=>uN b ok hl A p w hc
 have HN:=hid fun w h=>by have:=tX b k w h hk;rw[decide_eq_true hkd] at this;exact this
 have Ta:k<6:=by have:=ok.moves.1;omega
 have HK:=hid fun lb B w h hB=>jj 71 lb 48 #[.pointer (some ⟨B,0,none⟩)] (fun h=>h.IY k) (aH b (au b)) w hlen h (Sc k Ta _ hx B w hB)
 have HA:=hid h
 have HC:=hid fun A w (h:oV b A w)=>h.at_
 obtain⟨n,hn⟩:∃n,n=(au b).length:=⟨_,rfl⟩
 obtain⟨xs,hxs⟩:∃xs,xs=aH b (au b):=⟨_,rfl⟩
 rw[← hn] at HO HH
 rw[← hxs] at HH HK⊢
 obtain⟨R1,mC⟩:∃R,R=Nh xs.length (xs.filter fun h=>h.IY k).length:=⟨_,rfl⟩
 rw[← mC] at HK⊢
 clear hn hxs h hcap hl hlen ok mC hkd hx
 obtain⟨days,most,gA,ng,gc,g,mA,nm,mc,m,cA,nc,cc,c⟩:=b
 simp only[Bk.val,Bk.cells,ay] at HO HH HN⊢
 have K1:Hid (Whole ((w.alloc (.cells #[int i64 days,int i64 most,.slice gA ng gc,.slice mA nm mc,.slice cA nc cc] 26)).alloc (.cells #[int i64 k] 3)) (w.heap.size+1) 3 #[int i64 k]):=hid (aP zs)
 gi_enter func16,ntmps16
 gi_wp2_with (first
  | (gi_at_call 36;refine(HO.out _ (HA.out.up (bw))).mono ?_;rintro e w2 ⟨A,p,rfl,hc2,hb2,-⟩;have K2:=(K1.out.below hb2 zs).alloc (.cells #[int i64 days,int i64 most,.slice gA ng gc,.slice mA nm mc,.slice cA nc cc,.slice A n p] 73);have k2:(w2.alloc (.cells #[int i64 days,int i64 most,.slice gA ng gc,.slice mA nm mc,.slice cA nc cc,.slice A n p] 73)).cell? ⟨w.heap.size+1,0,none⟩=some (int i64 k):=K2.cell 0)
  | (gi_at_call 46;refine(HN.out _ ((HC.out A _ (hc2.below (bw))))).mono ?_;rintro e w3 ⟨rfl,hb3⟩;have X3:Whole w3 w2.heap.size 73 #[int i64 days,int i64 most,.slice gA ng gc,.slice mA nm mc,.slice cA nc cc,.slice A n p]:=(Whole.new w2 _ _).below hb3 zs;have x0:w3.cell? ⟨w2.heap.size,0,none⟩=some (int i64 days):=X3.cell 0;have x1:w3.cell? ⟨w2.heap.size,1,none⟩=some (int i64 most):=X3.cell 1;have x2:w3.cell? ⟨w2.heap.size,2,none⟩=some (.slice gA ng gc):=X3.cell 2;have x3:w3.cell? ⟨w2.heap.size,3,none⟩=some (.slice mA nm mc):=X3.cell 3;have x4:w3.cell? ⟨w2.heap.size,4,none⟩=some (.slice cA nc cc):=X3.cell 4;have x5:w3.cell? ⟨w2.heap.size,5,none⟩=some (.slice A n p):=X3.cell 5;have K3:=K2.below hb3 K2.lt)
  | (gi_at_call 38;refine(HH.out A p _ ((hc2.below (bw)).below hb3)).mono ?_;rintro e w4 ⟨lb,rfl,hs4,hb4⟩)
  | (gi_at_call 47;refine(HK.out lb _ _ hs4 (K3.below hb4 K3.lt)).mono ?_;rintro e w5 ⟨rfl,hb5⟩))
 go_ret2
 exact⟨rfl,Below.next (Below.next (Below.next (Below.al (Below.next (bw) hb2) _) hb3) hb4) hb5⟩
theorem Iq(b:Bk)(k:Nat)(w:World)(h:b.At w w.heap.size)(ok:b.Ok)(hcap:b.ng≤b.gc)(hl:∀s∈au b,fG s)(hk:(k:Int)≤b.days):CallsIn FF 0 prog 18 #[b.val,int i64 k] w fun e w'=>e=.returned (.tuple #[.agg #[int i64 (bX (fun h=>iJ b (stk b h k b.nm) b.ng) (aH b (au b))).1,int i64 (bX (fun h=>iJ b (stk b h k b.nm) b.ng) (aH b (au b))).2.1],int i64 (if (bX (fun h=>iJ b (stk b h k b.nm) b.ng) (aH b (au b))).2.2 then 0 else 9)])∧Below w.heap.size w w':=by
 have hx:=kL b ok (au b) hl
 have HO:=hid fun w h=>nU b w h ok hcap
 have HH:=hid fun A p w hc=>uN b ok hl A p w hc
 have HN:=hid fun(w:World)=>show CallsIn FF 0 prog 40 #[b.val,int i64 k] w fun e w'=>e=.returned (.bool true)∧Below w.heap.size w w' from by
  have:=xO b k w
  have e:gI (k:Int) 0 b.days=true:=by unfold gI;simp;omega
  rwa[e] at this
 have HK:=hid fun lb A n p Bc B w h hA hc hB=>EB 71 lb 54 #[.pointer (some ⟨Bc,0,none⟩),.pointer (some ⟨B,0,none⟩)] (fun h=>iJ b (stk b h k b.nm) b.ng) (aH b (au b)) w h (Vz b ok A n p k _ hx Bc B w hA hc hB)
 have HA:=hid h
 have HC:=hid fun A w (h:oV b A w)=>h.at_
 obtain⟨n,hn⟩:∃n,n=(au b).length:=⟨_,rfl⟩
 obtain⟨xs,hxs⟩:∃xs,xs=aH b (au b):=⟨_,rfl⟩
 rw[← hn] at HO HH
 rw[← hxs] at HH HK⊢
 obtain⟨⟨R1,R2,R3⟩,hR⟩:∃R,R=bX (fun h=>iJ b (stk b h k b.nm) b.ng) xs:=⟨_,rfl⟩
 rw[← hR] at HK⊢
 obtain⟨R4,wm⟩:∃R4:Int,R4=if (R1,R2,R3).2.2=true then 0 else 9:=⟨_,rfl⟩
 rw[← wm] at HK⊢
 clear hn hxs h hcap hl ok hR wm hk hx
 obtain⟨days,most,gA,ng,gc,g,mA,nm,mc,m,cA,nc,cc,c⟩:=b
 simp only[Bk.val,Bk.cells,ay] at HO HH HN HK⊢
 have K1:Hid (Whole (((w.alloc (.cells #[int i64 days,int i64 most,.slice gA ng gc,.slice mA nm mc,.slice cA nc cc] 26)).alloc (.cells #[int i64 k] 3)).alloc (.cells #[int i64 0,int i64 0] 39)) (w.heap.size+1) 3 #[int i64 k]):=hid ((aP zs).alloc _)
 have Z1:Hid (Whole (((w.alloc (.cells #[int i64 days,int i64 most,.slice gA ng gc,.slice mA nm mc,.slice cA nc cc] 26)).alloc (.cells #[int i64 k] 3)).alloc (.cells #[int i64 0,int i64 0] 39)) (w.heap.size+1+1) 39 #[int i64 0,int i64 0]):=hid (aP zs)
 gi_enter func18,ntmps18
 gi_wp2_with (first
  | (gi_at_call 36;refine(HO.out _ (HA.out.up (bw))).mono ?_;rintro e w2 ⟨A,p,rfl,hc2,hb2,-⟩;have K2:=(K1.out.below hb2 zs).alloc (.cells #[int i64 days,int i64 most,.slice gA ng gc,.slice mA nm mc,.slice cA nc cc,.slice A n p] 73);have k2:(w2.alloc (.cells #[int i64 days,int i64 most,.slice gA ng gc,.slice mA nm mc,.slice cA nc cc,.slice A n p] 73)).cell? ⟨w.heap.size+1,0,none⟩=some (int i64 k):=K2.cell 0;have Z2:=(Z1.out.below hb2 zs).alloc (.cells #[int i64 days,int i64 most,.slice gA ng gc,.slice mA nm mc,.slice cA nc cc,.slice A n p] 73))
  | (gi_at_call 40;refine(HN.out _).mono ?_;rintro e w3 ⟨rfl,hb3⟩;have X3:Whole w3 w2.heap.size 73 #[int i64 days,int i64 most,.slice gA ng gc,.slice mA nm mc,.slice cA nc cc,.slice A n p]:=(Whole.new w2 _ _).below hb3 zs;have x0:w3.cell? ⟨w2.heap.size,0,none⟩=some (int i64 days):=X3.cell 0;have x1:w3.cell? ⟨w2.heap.size,1,none⟩=some (int i64 most):=X3.cell 1;have x2:w3.cell? ⟨w2.heap.size,2,none⟩=some (.slice gA ng gc):=X3.cell 2;have x3:w3.cell? ⟨w2.heap.size,3,none⟩=some (.slice mA nm mc):=X3.cell 3;have x4:w3.cell? ⟨w2.heap.size,4,none⟩=some (.slice cA nc cc):=X3.cell 4;have x5:w3.cell? ⟨w2.heap.size,5,none⟩=some (.slice A n p):=X3.cell 5;have K3:=K2.below hb3 K2.lt)
  | (gi_at_call 38;refine(HH.out A p _ ((hc2.below (bw)).below hb3)).mono ?_;rintro e w4 ⟨lb,rfl,hs4,hb4⟩)
  | (gi_at_call 51;refine(HK.out lb A n p _ _ _ hs4 (((HC.out A _ (hc2.below (bw))).up hb3).up hb4) (X3.below hb4 X3.lt) (K3.below hb4 K3.lt)).mono ?_;rintro e w5 ⟨rfl,hb5⟩;have Gj:=hb4.trans (hb5.mono hb4.size);have Z5:=(Z2.below hb3 Z2.lt).below Gj (Z2.below hb3 Z2.lt).lt;have z0:w5.cell? ⟨w.heap.size+1+1,0,none⟩=some (int i64 0):=Z5.cell 0;have z1:w5.cell? ⟨w.heap.size+1+1,1,none⟩=some (int i64 0):=Z5.cell 1;have zf:=Z5.thaw))
 have U:=(Z5.set 0 (int i64 R1)).set 1 (int i64 R2)
 have u0:=U.cell 0
 have u1:=U.cell 1
 refine bodyPost_ret (v:=.tuple #[.agg #[int i64 R1,int i64 R2],int i64 R4]) (by simp[results,results18,go_sem,u0,u1]) rfl ⟨rfl,?_⟩
 exact((Below.next (Below.next (Below.al (Below.next (bw) hb2) _) hb3) Gj).setCell zm _).setCell zm _
theorem Ip(b:Bk)(gd:Nat)(w:World)(h:b.At w w.heap.size)(ok:b.Ok)(hcap:b.ng≤b.gc)(hl:∀s∈au b,fG s)(hgd:gd<b.ng):CallsIn FF 0 prog 19 #[b.val,int i64 gd,int i64 2] w fun e w'=>e=.returned (.tuple #[.agg #[int i64 (bX (fun h=>IntKind.i64.wrap ((stk b h b.days b.nm gd).tdiv 2)) (aH b (au b))).1,int i64 (bX (fun h=>IntKind.i64.wrap ((stk b h b.days b.nm gd).tdiv 2)) (aH b (au b))).2.1],int i64 (if (bX (fun h=>IntKind.i64.wrap ((stk b h b.days b.nm gd).tdiv 2)) (aH b (au b))).2.2 then 0 else 9)])∧Below w.heap.size w w':=by
 have hx:=kL b ok (au b) hl
 have HO:=hid fun w h=>qW b gd w h ok hcap hgd
 have HH:=hid fun A p w hc=>uN b ok hl A p w hc
 have hg3:gd<3:=by have:=ok.dn.1.2;omega
 have HN:=hid fun(w:World)=>show CallsIn FF 0 prog 56 #[int i64 2,int i64 1,int i64 99] w fun e w'=>e=.returned (.bool true)∧w=w' from by
  have:=dw 2 1 99 w
  have e:gI 2 1 99=true:=zD
  rwa[e] at this
 have HK:=hid fun lb A n p Bc Bg B w h hA hc hg hB=>EB 71 lb 57 #[.pointer (some ⟨Bc,0,none⟩),.pointer (some ⟨Bg,0,none⟩),.pointer (some ⟨B,0,none⟩)] (fun h=>IntKind.i64.wrap ((stk b h b.days b.nm gd).tdiv 2)) (aH b (au b)) w h (TF b ok A n p gd hg3 _ hx Bc Bg B w hA hc hB hg)
 have HA:=hid h
 have HC:=hid fun A w (h:oV b A w)=>h.at_
 obtain⟨n,hn⟩:∃n,n=(au b).length:=⟨_,rfl⟩
 obtain⟨xs,hxs⟩:∃xs,xs=aH b (au b):=⟨_,rfl⟩
 rw[← hn] at HO HH
 rw[← hxs] at HH HK⊢
 obtain⟨⟨R1,R2,R3⟩,hR⟩:∃R,R=bX (fun h=>IntKind.i64.wrap ((stk b h b.days b.nm gd).tdiv 2)) xs:=⟨_,rfl⟩
 rw[← hR] at HK⊢
 obtain⟨R4,wm⟩:∃R4:Int,R4=if (R1,R2,R3).2.2=true then 0 else 9:=⟨_,rfl⟩
 rw[← wm] at HK⊢
 clear hn hxs h hcap hl ok hR wm hgd hx
 obtain⟨days,most,gA,ng,gc,g,mA,nm,mc,m,cA,nc,cc,c⟩:=b
 simp only[Bk.val,Bk.cells,ay] at HO HH HK⊢
 obtain⟨w1,hw1⟩:∃w1,w1=(((w.alloc (.cells #[int i64 days,int i64 most,.slice gA ng gc,.slice mA nm mc,.slice cA nc cc] 26)).alloc (.cells #[int i64 gd] 3)).alloc (.cells #[int i64 2] 3)).alloc (.cells #[int i64 0,int i64 0] 39):=⟨_,rfl⟩
 have B1:Hid (Below w.heap.size w w1):=hid (by rw[hw1];exact bw)
 have G1:Hid (Whole w1 (w.heap.size+1) 3 #[int i64 gd]):=hid (by rw[hw1];exact((aP zs).alloc _).alloc _)
 have K1:Hid (Whole w1 (w.heap.size+1+1) 3 #[int i64 2]):=hid (by rw[hw1];exact(aP zs).alloc _)
 have Z1:Hid (Whole w1 (w.heap.size+1+1+1) 39 #[int i64 0,int i64 0]):=hid (by rw[hw1];exact aP zs)
 have nK:=hid hw1
 clear hw1
 gi_enter func19,ntmps19
 gi_wp2_with (first
  | (gi_at_call 39;rw[← nK.out];refine(HO.out _ (HA.out.up B1.out)).mono ?_;rintro e w2 ⟨A,p,rfl,hc2,hb2⟩;have K2:=(K1.out.below hb2 K1.out.lt).alloc (.cells #[int i64 days,int i64 most,.slice gA ng gc,.slice mA nm mc,.slice cA nc cc,.slice A n p] 73);have k2:(w2.alloc (.cells #[int i64 days,int i64 most,.slice gA ng gc,.slice mA nm mc,.slice cA nc cc,.slice A n p] 73)).cell? ⟨w.heap.size+1+1,0,none⟩=some (int i64 2):=K2.cell 0;have Z2:=(Z1.out.below hb2 Z1.out.lt).alloc (.cells #[int i64 days,int i64 most,.slice gA ng gc,.slice mA nm mc,.slice cA nc cc,.slice A n p] 73);have G2:=(G1.out.below hb2 G1.out.lt).alloc (.cells #[int i64 days,int i64 most,.slice gA ng gc,.slice mA nm mc,.slice cA nc cc,.slice A n p] 73))
  | (gi_at_call 56;refine(HN.out _).mono ?_;rintro e w3 ⟨rfl,rfl⟩)
  | (gi_at_call 38;refine(HH.out A p _ (hc2.below (bw))).mono ?_;rintro e w4 ⟨lb,rfl,hs4,hb4⟩)
  | (gi_at_call 51;refine(HK.out lb A n p _ _ _ _ hs4 ((HC.out A _ (hc2.below (bw))).up hb4) ((Whole.new w2 _ _).below hb4 zs) (G2.below hb4 G2.lt) (K2.below hb4 K2.lt)).mono ?_;rintro e w5 ⟨rfl,hb5⟩;have Gj:=hb4.trans (hb5.mono hb4.size);have Z5:=Z2.below Gj Z2.lt;have z0:w5.cell? ⟨w.heap.size+1+1+1,0,none⟩=some (int i64 0):=Z5.cell 0;have z1:w5.cell? ⟨w.heap.size+1+1+1,1,none⟩=some (int i64 0):=Z5.cell 1;have zf:=Z5.thaw))
 have U:=(Z5.set 0 (int i64 R1)).set 1 (int i64 R2)
 have u0:=U.cell 0
 have u1:=U.cell 1
 refine bodyPost_ret (v:=.tuple #[.agg #[int i64 R1,int i64 R2],int i64 R4]) (by simp[results,results19,go_sem,u0,u1]) rfl ⟨rfl,?_⟩
 exact((Below.next (Below.al (Below.next B1.out hb2) _) Gj).setCell zm _).setCell zm _
theorem La(b:Bk)(gd:Nat)(a z:Int)(w:World)(h:b.At w w.heap.size)(ok:b.Ok)(hcap:b.ng≤b.gc)(hl:∀s∈au b,fG s)(hgd:gd<b.ng)(hf:uR a z 1 b.days=true):CallsIn FF 0 prog 17 #[b.val,int i64 gd,int i64 a,int i64 z] w fun e w'=>e=.returned (.tuple #[.agg #[int i64 (bX (fun h=>kM b h gd a z b.nm) (aH b (au b))).1,int i64 (bX (fun h=>kM b h gd a z b.nm) (aH b (au b))).2.1],int i64 (if (bX (fun h=>kM b h gd a z b.nm) (aH b (au b))).2.2 then 0 else 9)])∧Below w.heap.size w w':=by
 have hx:=kL b ok (au b) hl
 have HO:=hid fun w h=>qW b gd w h ok hcap hgd
 have HH:=hid fun A p w hc=>uN b ok hl A p w hc
 have HN:=hid fun(w:World)=>show CallsIn FF 0 prog 50 #[.agg #[int i64 a,int i64 z],int i64 1,int i64 b.days] w fun e w'=>e=.returned (.bool true)∧Below w.heap.size w w' from by
  have:=xS a z 1 b.days w
  rwa[hf] at this
 have HK:=hid fun lb A n p Bc Bg B w h hA hc hg hB=>EB 71 lb 52 #[.pointer (some ⟨Bc,0,none⟩),.pointer (some ⟨Bg,0,none⟩),.pointer (some ⟨B,0,none⟩)] (fun h=>kM b h gd a z b.nm) (aH b (au b)) w h (XJ b ok A n p gd a z _ hx Bc Bg B w hA hc hg hB)
 have HA:=hid h
 have HC:=hid fun A w (h:oV b A w)=>h.at_
 obtain⟨n,hn⟩:∃n,n=(au b).length:=⟨_,rfl⟩
 obtain⟨xs,hxs⟩:∃xs,xs=aH b (au b):=⟨_,rfl⟩
 rw[← hn] at HO HH
 rw[← hxs] at HH HK⊢
 obtain⟨⟨R1,R2,R3⟩,hR⟩:∃R,R=bX (fun h=>kM b h gd a z b.nm) xs:=⟨_,rfl⟩
 rw[← hR] at HK⊢
 obtain⟨R4,wm⟩:∃R4:Int,R4=if (R1,R2,R3).2.2=true then 0 else 9:=⟨_,rfl⟩
 rw[← wm] at HK⊢
 clear hn hxs h hcap hl ok hR wm hgd hx hf
 obtain⟨days,most,gA,ng,gc,g,mA,nm,mc,m,cA,nc,cc,c⟩:=b
 simp only[Bk.val,Bk.cells,ay] at HO HH HK HN⊢
 obtain⟨w1,hw1⟩:∃w1,w1=((w.alloc (.cells #[int i64 days,int i64 most,.slice gA ng gc,.slice mA nm mc,.slice cA nc cc] 26)).alloc (.cells #[int i64 gd] 3)).alloc (.cells #[int i64 0,int i64 0] 39):=⟨_,rfl⟩
 have B1:Hid (Below w.heap.size w w1):=hid (by rw[hw1];exact bw)
 have G1:Hid (Whole w1 (w.heap.size+1) 3 #[int i64 gd]):=hid (by rw[hw1];exact(aP zs).alloc _)
 have Z1:Hid (Whole w1 (w.heap.size+1+1) 39 #[int i64 0,int i64 0]):=hid (by rw[hw1];exact aP zs)
 have hs1:w1.heap.size=w.heap.size+3:=by rw[hw1];simp
 have nK:=hid hw1
 clear hw1
 gi_enter func17,ntmps17
 gi_wp2_with (first
  | (gi_at_call 39;rw[← nK.out];refine(HO.out _ (HA.out.up B1.out)).mono ?_;rintro e w2 ⟨A,p,rfl,hc2,hb2⟩;have X2:=(Whole.new w2 73 #[int i64 days,int i64 most,.slice gA ng gc,.slice mA nm mc,.slice cA nc cc,.slice A n p]).alloc (.cells #[int i64 a,int i64 z] 39);have Z2:=((Z1.out.below hb2 Z1.out.lt).alloc (.cells #[int i64 days,int i64 most,.slice gA ng gc,.slice mA nm mc,.slice cA nc cc,.slice A n p] 73)).alloc (.cells #[int i64 a,int i64 z] 39);have G2:=((G1.out.below hb2 G1.out.lt).alloc (.cells #[int i64 days,int i64 most,.slice gA ng gc,.slice mA nm mc,.slice cA nc cc,.slice A n p] 73)).alloc (.cells #[int i64 a,int i64 z] 39);have S2:Whole ((w2.alloc (.cells #[int i64 days,int i64 most,.slice gA ng gc,.slice mA nm mc,.slice cA nc cc,.slice A n p] 73)).alloc (.cells #[int i64 a,int i64 z] 39)) (w2.heap.size+1) 39 #[int i64 a,int i64 z]:=aP zs;have hs2:=hb2.size)
  | (gi_at_call 50;refine(HN.out _).mono ?_;rintro e w3 ⟨rfl,hb3⟩;have X3:=X2.below hb3 X2.lt;have x0:w3.cell? ⟨w2.heap.size,0,none⟩=some (int i64 days):=X3.cell 0;have x1:w3.cell? ⟨w2.heap.size,1,none⟩=some (int i64 most):=X3.cell 1;have x2:w3.cell? ⟨w2.heap.size,2,none⟩=some (.slice gA ng gc):=X3.cell 2;have x3:w3.cell? ⟨w2.heap.size,3,none⟩=some (.slice mA nm mc):=X3.cell 3;have x4:w3.cell? ⟨w2.heap.size,4,none⟩=some (.slice cA nc cc):=X3.cell 4;have x5:w3.cell? ⟨w2.heap.size,5,none⟩=some (.slice A n p):=X3.cell 5)
  | (gi_at_call 38;refine(HH.out A p _ ((hc2.below (bw)).below hb3)).mono ?_;rintro e w4 ⟨lb,rfl,hs4,hb4⟩)
  | (gi_at_call 51;have Sy:=hb3.trans (hb4.mono hb3.size);refine(HK.out lb A n p _ _ _ _ hs4 (((HC.out A _ (hc2.below (bw))).up hb3).up hb4) (X2.below Sy X2.lt) (G2.below Sy G2.lt) (S2.below Sy S2.lt)).mono ?_;rintro e w5 ⟨rfl,hb5⟩;have Gj:=Sy.trans (hb5.mono Sy.size);have Z5:=Z2.below Gj Z2.lt;have z0:w5.cell? ⟨w.heap.size+1+1,0,none⟩=some (int i64 0):=Z5.cell 0;have z1:w5.cell? ⟨w.heap.size+1+1,1,none⟩=some (int i64 0):=Z5.cell 1;have zf:=Z5.thaw))
 have U:=(Z5.set 0 (int i64 R1)).set 1 (int i64 R2)
 have u0:=U.cell 0
 have u1:=U.cell 1
 refine bodyPost_ret (v:=.tuple #[.agg #[int i64 R1,int i64 R2],int i64 R4]) (by simp[results,results17,go_sem,u0,u1]) rfl ⟨rfl,?_⟩
 exact((Below.next (Below.al (Below.al (Below.next B1.out hb2) _) _) Gj).setCell zm _).setCell zm _
end
end Go.Proofs.YtmjjocnfidnelaaGreat
