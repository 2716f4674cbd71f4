/- HW HL AD0 -/
import Derived.Test.YtoldgagdgjilgaaGreatB1
set_option maxRecDepth 100000
set_option maxHeartbeats 16000000
set_option linter.unusedVariables false
set_option linter.unusedSectionVars false
open Go.IntKind(i64)
open Go.Lib(hid)
open Go.Proofs.Tryz
open Go.Value(int)
namespace Go.Proofs.YtoldgagdgjilgaaGreat
section
open Go.RowKit
open Go.Sort (grow)
attribute [local go_sem] Oper.semAt_some
def iA(b:Bk)(s:Nat→Int):Nat→Int
 | 0=>0
 | Nat.succ k=>IntKind.i64.wrap (iA b s k+IntKind.i64.wrap ((b.g k).cost * s k))
theorem XI(b:Bk)(s:Nat→Int)(w:World)(hA:b.At w w.heap.size)(hg:b.ng≤3):CallsIn FF 0 prog 50 #[b.val,lK s] w fun e w'=>e=.returned (int i64 (iA b s b.ng))∧Below w.heap.size w w':=by
 obtain⟨L,hL⟩:∃L,L=iA b s:=⟨_,rfl⟩
 have gz:Hid (L 0=0):=hid (by rw[hL];rfl)
 have PY:Hid (∀k,L (k+1)=IntKind.i64.wrap (L k+IntKind.i64.wrap ((b.g k).cost * s k))):=hid fun k=>by rw[hL];rfl
 rw[← hL]
 clear hL
 have HA:=hid hA
 clear hA
 obtain⟨days,most,gA,ng,gc,g,mA,nm,mc,m,cA,nc,cc,c⟩:=b
 simp only[Bk.val,Bk.cells,lK] at PY hg⊢
 obtain⟨w1,hw1⟩:∃w1,w1=(w.alloc (.cells #[int i64 days,int i64 most,.slice gA ng gc,.slice mA nm mc,.slice cA nc cc] 59)).alloc (.cells #[int i64 (s 0),int i64 (s 1),int i64 (s 2)] 67):=⟨_,rfl⟩
 have B1:Hid (Below w.heap.size w w1):=hid (by rw[hw1];exact bw)
 have S1:Hid (Whole w1 (w.heap.size+1) 67 #[int i64 (s 0),int i64 (s 1),int i64 (s 2)]):=hid (by
  have:=Whole.new (w.alloc (.cells #[int i64 days,int i64 most,.slice gA ng gc,.slice mA nm mc,.slice cA nc cc] 59)) 67 #[int i64 (s 0),int i64 (s 1),int i64 (s 2)]
  rw[World.size_alloc] at this;rw[hw1];exact this)
 have A1:=hid (HA.out.up B1.out)
 have hs1:w1.heap.size=w.heap.size+2:=by rw[hw1];simp
 have mQ:=hid hw1
 clear hw1
 gi_enter func50,ntmps50
 gi_wp2
 rw[← mQ.out]
 clear mQ
 gi_loopw [5,12] (fun u i wr=>∃k:Nat,k≤ng∧i=int i64 k∧u=int i64 (L k)∧Hid (Below w1.heap.size w1 wr)) (fun _ i _=>ng - (intOf i).toNat)
 case atStart=>exact⟨0,Nat.zero_le _,rfl,by rw[gz.out],hid (Below.refl _ _)⟩
 case round=>
  obtain⟨k,hk,rfl,rfl,hT⟩:=hrel
  obtain⟨wo,rfl⟩:∃wo:World,wo=wr:=⟨_,rfl⟩
  have hsz:=hT.out.size
  by_cases hlt:k<ng
  ·obtain⟨ad,hA',hbl,-⟩:=A1.out.g (show 0<ng by omega)
   simp only at hA'
   subst hA'
   obtain⟨gk,CU⟩:∃gk,gk=g k:=⟨_,rfl⟩
   have hr:∀j,j<5→wo.cell? ((ad.add (k * 5)).add j)=some (gk.cell j):=fun j hj=>by rw[CU];exact((A1.out.g.below hT.out)).row hlt |>.2 j hj
   have hLk:=PY.out k
   rw[← CU] at hLk
   obtain⟨Lb,co,pk,lo,hi⟩:=gk
   have c0:wo.cell? (ad.add (k * 5))=some (.string Lb):=hr 0 zD
   have c1:wo.cell? ⟨(ad.add (k * 5)).block,(ad.add (k * 5)).off+1,none⟩=some (int i64 co):=hr 1 zD
   have c2:wo.cell? ⟨(ad.add (k * 5)).block,(ad.add (k * 5)).off+2,none⟩=some (int i64 pk):=hr 2 zD
   have c3:wo.cell? ⟨(ad.add (k * 5)).block,(ad.add (k * 5)).off+3,none⟩=some (int i64 lo):=hr 3 zD
   have c4:wo.cell? ⟨(ad.add (k * 5)).block,(ad.add (k * 5)).off+4,none⟩=some (int i64 hi):=hr 4 zD
   clear hr
   simp only at hLk
   have TT:=hid hLk
   clear CU hLk
   obtain⟨w2,hw2⟩:∃w2,w2=wo.alloc (.cells #[.string Lb,int i64 co,int i64 pk,int i64 lo,int i64 hi] 77):=⟨_,rfl⟩
   have B2:Hid (Below wo.heap.size wo w2):=hid (by rw[hw2];exact bw)
   have G2:Hid (Whole w2 wo.heap.size 77 #[.string Lb,int i64 co,int i64 pk,int i64 lo,int i64 hi]):=hid (by rw[hw2];exact Whole.new _ _ _)
   have S2:=hid ((S1.out.below hT.out S1.out.lt).below B2.out zo)
   have D5:=hid hw2
   clear hw2
   gi_wp2
   rw[← D5.out]
   have qc:∀d os,(grow (redrawn w2 d) os).cell? ⟨wo.heap.size,1,none⟩=some (int i64 co):=cell_regrown (G2.out.cell 1)
   have q0:∀d os,(grow (redrawn w2 d) os).cell? ⟨w.heap.size+1,0,none⟩=some (int i64 (s 0)):=cell_regrown (S2.out.cell 0)
   have q1:∀d os,(grow (redrawn w2 d) os).cell? ⟨w.heap.size+1,1,none⟩=some (int i64 (s 1)):=cell_regrown (S2.out.cell 1)
   have q2:∀d os,(grow (redrawn w2 d) os).cell? ⟨w.heap.size+1,2,none⟩=some (int i64 (s 2)):=cell_regrown (S2.out.cell 2)
   refine wpIn_region_quiet_below rfl zk zk ?_
   rcases(show k=0∨k=1∨k=2 by omega) with rfl|rfl|rfl
   all_goals
    repeat (quiet_step_in (fail))
    refine wpQuietIn_nil ?_
    rintro w' ⟨⟨dq,osq⟩,rfl⟩
    have bf:=below_regrown w2 dq osq
    gi_wp2
    exact⟨⟨_+1,hlt,rfl,by rw[TT.out],hid (Below.next (Below.next hT.out B2.out) bf)⟩,by simp[intOf];omega⟩
  ·obtain rfl:k=ng:=zo
   gi_wp2
   go_ret
   exact⟨rfl,Below.next B1.out hT.out⟩
theorem TL(b:Bk)(ok:b.Ok)(A:Option Addr)(n p:Nat)(day:Int)(xs:List Ht)(hx:∀h∈xs,lQ h)(Bc Bd:Nat)(w:World)(hA:b.At w w.heap.size)(hc:Whole w Bc 61 (aA b A n p))(hd:Whole w Bd 3 #[int i64 day]):rP FF 49 #[.pointer (some ⟨Bc,0,none⟩),.pointer (some ⟨Bd,0,none⟩)] xs (fun h=>int i64 (iA b (stk b h day b.nm) b.ng)) w:=by
 refine⟨zs,enters_of func49 zk rfl,fun W h hh hW=>?_⟩
 have HF:=hid fun W hA=>fQ b h day W hA ok.moves ok.dG.1.2 (hx h hh)
 have HG:=hid fun s W hA=>XI b s W hA ok.dG.1.2
 have HA:=hid (hA.up hW)
 have C1:=hid (hc.below hW hc.lt)
 have D1:=hid (hd.below hW hd.lt)
 have h1:=C1.out.lt
 have h2:=D1.out.lt
 show CallsIn FF 0 prog 49 #[h.val,.pointer (some ⟨Bc,0,none⟩),.pointer (some ⟨Bd,0,none⟩)] W fun e W'=>e=.returned (int i64 (iA b (stk b h day b.nm) b.ng))∧Below W.heap.size W W'
 obtain⟨r,hr⟩:∃r,r=stk b h day b.nm:=⟨_,rfl⟩
 rw[← hr] at HF⊢
 have tl:=hid fun W hA=>HG.out r W hA
 obtain⟨u,hu⟩:∃u,u=iA b r b.ng:=⟨_,rfl⟩
 rw[← hu] at tl⊢
 clear hh hr hu hc hd hx hA ok hW HG
 obtain⟨w1,hw1⟩:∃w1,w1=W.alloc (.cells h.cells 70):=⟨_,rfl⟩
 have B1:Hid (Below W.heap.size W w1):=hid (by rw[hw1];exact bw)
 have H1:Hid (Whole w1 W.heap.size 70 h.cells):=hid (by rw[hw1];exact Whole.new _ _ _)
 have C2:=hid (C1.out.below B1.out h1)
 have D2:=hid (D1.out.below B1.out h2)
 have A2:=hid (HA.out.up B1.out)
 obtain⟨f,m,li⟩:=h
 obtain⟨days,most,gA,ng,gc,gs,mA,nm,mc,ms,cA,nc,cc,cs⟩:=b
 simp only[Ht.val,Ht.cells,Bk.val,Bk.cells,lK] at HF tl H1⊢
 simp only[aA] at C2
 simp only[Ht.cells] at hw1
 have mQ:=hid hw1
 clear hw1
 have q0:∀d os,(grow (redrawn w1 d) os).cell? ⟨Bc,0,none⟩=some (int i64 days):=cell_regrown (C2.out.cell 0)
 have q1:∀d os,(grow (redrawn w1 d) os).cell? ⟨Bc,1,none⟩=some (int i64 most):=cell_regrown (C2.out.cell 1)
 have q2:∀d os,(grow (redrawn w1 d) os).cell? ⟨Bc,2,none⟩=some (.slice gA ng gc):=cell_regrown (C2.out.cell 2)
 have q3:∀d os,(grow (redrawn w1 d) os).cell? ⟨Bc,3,none⟩=some (.slice mA nm mc):=cell_regrown (C2.out.cell 3)
 have q4:∀d os,(grow (redrawn w1 d) os).cell? ⟨Bc,4,none⟩=some (.slice cA nc cc):=cell_regrown (C2.out.cell 4)
 have qd:∀d os,(grow (redrawn w1 d) os).cell? ⟨Bd,0,none⟩=some (int i64 day):=cell_regrown (D2.out.cell 0)
 have x0:∀d os,(grow (redrawn w1 d) os).cell? ⟨W.heap.size,0,none⟩=some (int i64 (f 0)):=cell_regrown (H1.out.cell 0)
 have x1:∀d os,(grow (redrawn w1 d) os).cell? ⟨W.heap.size,1,none⟩=some (int i64 (f 1)):=cell_regrown (H1.out.cell 1)
 have x2:∀d os,(grow (redrawn w1 d) os).cell? ⟨W.heap.size,2,none⟩=some (int i64 (f 2)):=cell_regrown (H1.out.cell 2)
 have x3:∀d os,(grow (redrawn w1 d) os).cell? ⟨W.heap.size,3,none⟩=some (int i64 (m 0)):=cell_regrown (H1.out.cell 3)
 have x4:∀d os,(grow (redrawn w1 d) os).cell? ⟨W.heap.size,4,none⟩=some (int i64 (m 1)):=cell_regrown (H1.out.cell 4)
 have x5:∀d os,(grow (redrawn w1 d) os).cell? ⟨W.heap.size,5,none⟩=some (int i64 (m 2)):=cell_regrown (H1.out.cell 5)
 have x6:∀d os,(grow (redrawn w1 d) os).cell? ⟨W.heap.size,6,none⟩=some (int i64 (m 3)):=cell_regrown (H1.out.cell 6)
 have x7:∀d os,(grow (redrawn w1 d) os).cell? ⟨W.heap.size,7,none⟩=some (int i64 (m 4)):=cell_regrown (H1.out.cell 7)
 have x8:∀d os,(grow (redrawn w1 d) os).cell? ⟨W.heap.size,8,none⟩=some (int i64 (m 5)):=cell_regrown (H1.out.cell 8)
 have x9:∀d os,(grow (redrawn w1 d) os).cell? ⟨W.heap.size,9,none⟩=some (int i64 li):=cell_regrown (H1.out.cell 9)
 have cS:∀d os,CallsIn FF 0 prog 34 #[.agg #[int i64 days,int i64 most,.slice gA ng gc,.slice mA nm mc,.slice cA nc cc],.agg #[int i64 (f 0),int i64 (f 1),int i64 (f 2),int i64 (m 0),int i64 (m 1),int i64 (m 2),int i64 (m 3),int i64 (m 4),int i64 (m 5),int i64 li],int i64 day] (grow (redrawn w1 d) os) fun e w''=>e=.returned (.agg #[int i64 (r 0),int i64 (r 1),int i64 (r 2)])∧∃p:Regrown,w''=grow (redrawn w1 p.d) p.os:=fun d os=>CallsIn.regrown_of (HF.out _ ((A2.out.below (below_regrown w1 d os)).more (below_regrown w1 d os).size))
 have cW:∀d os,CallsIn FF 0 prog 50 #[.agg #[int i64 days,int i64 most,.slice gA ng gc,.slice mA nm mc,.slice cA nc cc],.agg #[int i64 (r 0),int i64 (r 1),int i64 (r 2)]] (grow (redrawn w1 d) os) fun e w''=>e=.returned (int i64 u)∧∃p:Regrown,w''=grow (redrawn w1 p.d) p.os:=fun d os=>CallsIn.regrown_of (tl.out _ ((A2.out.below (below_regrown w1 d os)).more (below_regrown w1 d os).size))
 gi_enter func49,ntmps49
 gi_wp2
 rw[← mQ.out]
 refine wpIn_region_quiet_below rfl zk zk ?_
 repeat (quiet_step_in (first|exact cS _ _|exact cW _ _))
 refine wpQuietIn_nil ?_
 rintro w' ⟨⟨dq,osq⟩,rfl⟩
 have bf:=below_regrown w1 dq osq
 gi_wp2
 go_ret
 exact⟨rfl,Below.next B1.out bf⟩
def tN(kd go dy:Int)(gd:Nat)(a z:Int):Bool:=decide (kd=2) && (decide (go=gd) && fJ dy a z)
def aQ(b:Bk)(h:Ht)(gd:Nat)(a z:Int):Nat→Int
 | 0=>0
 | Nat.succ k=>bif tN (b.m k).kind (b.m k).good (b.m k).day gd a z then wrap64 (aQ b h gd a z k+h.real k) else aQ b h gd a z k
theorem bo(b:Bk)(h:Ht)(gd:Nat)(a z:Int)(w:World)(hA:b.At w w.heap.size)(hnm:b.nm≤6)(hh:h.lies<64):CallsIn FF 0 prog 28 #[b.val,h.val,int i64 gd,.agg #[int i64 a,int i64 z]] w fun e w'=>e=.returned (int i64 (aQ b h gd a z b.nm))∧Below w.heap.size w w':=by
 obtain⟨L,hL⟩:∃L,L=aQ b h gd a z:=⟨_,rfl⟩
 obtain⟨R,hR⟩:∃R,R=h.real:=⟨_,rfl⟩
 have gz:Hid (L 0=0):=hid (by rw[hL];rfl)
 have PY:Hid (∀k,L (k+1)=bif tN (b.m k).kind (b.m k).good (b.m k).day gd a z then wrap64 (L k+R k) else L k):=hid fun k=>by rw[hL,hR];rfl
 have fa:=hid fun k (w:World) (hk:k<b.nm)=>nk h k w hh zo
 have Fi:=hid fun n (w:World)=>CallsIn.wider (Yl a z n w)
 rw[← hL]
 rw[← hR] at fa
 clear hL hR hh
 have HA:=hid hA
 clear hA
 obtain⟨days,most,gA,ng,gc,g,mA,nm,mc,m,cA,nc,cc,c⟩:=b
 obtain⟨f,ms,li⟩:=h
 simp only[Bk.val,Bk.cells,Ht.val,Ht.cells] at PY fa hnm⊢
 obtain⟨w1,hw1⟩:∃w1,w1=((w.alloc (.cells #[int i64 days,int i64 most,.slice gA ng gc,.slice mA nm mc,.slice cA nc cc] 59)).alloc (.cells #[int i64 (f 0),int i64 (f 1),int i64 (f 2),int i64 (ms 0),int i64 (ms 1),int i64 (ms 2),int i64 (ms 3),int i64 (ms 4),int i64 (ms 5),int i64 li] 70)).alloc (.cells #[int i64 a,int i64 z] 30):=⟨_,rfl⟩
 have B1:Hid (Below w.heap.size w w1):=hid (by rw[hw1];exact bw)
 have H1:Hid (Whole w1 (w.heap.size+1) 70 #[int i64 (f 0),int i64 (f 1),int i64 (f 2),int i64 (ms 0),int i64 (ms 1),int i64 (ms 2),int i64 (ms 3),int i64 (ms 4),int i64 (ms 5),int i64 li]):=hid (by
  have:=(Whole.new (w.alloc (.cells #[int i64 days,int i64 most,.slice gA ng gc,.slice mA nm mc,.slice cA nc cc] 59)) 70 #[int i64 (f 0),int i64 (f 1),int i64 (f 2),int i64 (ms 0),int i64 (ms 1),int i64 (ms 2),int i64 (ms 3),int i64 (ms 4),int i64 (ms 5),int i64 li]).alloc (.cells #[int i64 a,int i64 z] 30)
  rw[World.size_alloc] at this;rw[hw1];exact this)
 have D1:Hid (Whole w1 (w.heap.size+1+1) 30 #[int i64 a,int i64 z]):=hid (by
  have:=Whole.new ((w.alloc (.cells #[int i64 days,int i64 most,.slice gA ng gc,.slice mA nm mc,.slice cA nc cc] 59)).alloc (.cells #[int i64 (f 0),int i64 (f 1),int i64 (f 2),int i64 (ms 0),int i64 (ms 1),int i64 (ms 2),int i64 (ms 3),int i64 (ms 4),int i64 (ms 5),int i64 li] 70)) 30 #[int i64 a,int i64 z]
  rw[World.size_alloc,World.size_alloc] at this;rw[hw1];exact this)
 have A1:=hid (HA.out.up B1.out)
 have hs1:w1.heap.size=w.heap.size+3:=by rw[hw1];simp
 have mQ:=hid hw1
 clear hw1
 gi_enter func28,ntmps28
 gi_wp2
 rw[← mQ.out]
 clear mQ
 gi_loopw [9,16] (fun u i wr=>∃k:Nat,k≤nm∧i=int i64 k∧u=int i64 (L k)∧Hid (Below w1.heap.size w1 wr)) (fun _ i _=>nm - (intOf i).toNat)
 case atStart=>exact⟨0,Nat.zero_le _,rfl,by rw[gz.out],hid (Below.refl _ _)⟩
 case round=>
  obtain⟨k,hk,rfl,rfl,hT⟩:=hrel
  obtain⟨wo,rfl⟩:∃wo:World,wo=wr:=⟨_,rfl⟩
  have hsz:=hT.out.size
  by_cases hlt:k<nm
  ·obtain⟨ad,hA',hbl,-⟩:=A1.out.m (show 0<nm by omega)
   simp only at hA'
   subst hA'
   obtain⟨gk,CU⟩:∃gk,gk=m k:=⟨_,rfl⟩
   have hr:∀j,j<5→wo.cell? ((ad.add (k * 5)).add j)=some (gk.cell j):=fun j hj=>by rw[CU];exact((A1.out.m.below hT.out)).row hlt |>.2 j hj
   have hLk:=PY.out k
   rw[← CU] at hLk
   obtain⟨kd,go,dy,lo,hi⟩:=gk
   have c0:wo.cell? (ad.add (k * 5))=some (int i64 kd):=hr 0 zD
   have c1:wo.cell? ⟨(ad.add (k * 5)).block,(ad.add (k * 5)).off+1,none⟩=some (int i64 go):=hr 1 zD
   have c2:wo.cell? ⟨(ad.add (k * 5)).block,(ad.add (k * 5)).off+2,none⟩=some (int i64 dy):=hr 2 zD
   have c3:wo.cell? ⟨(ad.add (k * 5)).block,(ad.add (k * 5)).off+3,none⟩=some (int i64 lo):=hr 3 zD
   have c4:wo.cell? ⟨(ad.add (k * 5)).block,(ad.add (k * 5)).off+4,none⟩=some (int i64 hi):=hr 4 zD
   clear hr
   simp only at hLk
   have TT:=hid hLk
   clear CU hLk
   by_cases k2:kd=2
   ·subst k2
    by_cases g2:go=gd
    ·subst g2
     obtain⟨w2,hw2⟩:∃w2,w2=wo.alloc (.cells #[int i64 2,int i64 gd,int i64 dy,int i64 lo,int i64 hi] 84):=⟨_,rfl⟩
     have B2:Hid (Below wo.heap.size wo w2):=hid (by rw[hw2];exact bw)
     have H2:=hid ((H1.out.below hT.out H1.out.lt).below B2.out zo)
     have D2:=hid ((D1.out.below hT.out D1.out.lt).below B2.out zo)
     have d0:w2.cell? ⟨w.heap.size+1+1,0,none⟩=some (int i64 a):=D2.out.cell 0
     have d1:w2.cell? ⟨w.heap.size+1+1,1,none⟩=some (int i64 z):=D2.out.cell 1
     have h0:w2.cell? ⟨w.heap.size+1,0,none⟩=some (int i64 (f 0)):=H2.out.cell 0
     have h1:w2.cell? ⟨w.heap.size+1,1,none⟩=some (int i64 (f 1)):=H2.out.cell 1
     have h2:w2.cell? ⟨w.heap.size+1,2,none⟩=some (int i64 (f 2)):=H2.out.cell 2
     have h3:w2.cell? ⟨w.heap.size+1,3,none⟩=some (int i64 (ms 0)):=H2.out.cell 3
     have h4:w2.cell? ⟨w.heap.size+1,4,none⟩=some (int i64 (ms 1)):=H2.out.cell 4
     have h5:w2.cell? ⟨w.heap.size+1,5,none⟩=some (int i64 (ms 2)):=H2.out.cell 5
     have h6:w2.cell? ⟨w.heap.size+1,6,none⟩=some (int i64 (ms 3)):=H2.out.cell 6
     have h7:w2.cell? ⟨w.heap.size+1,7,none⟩=some (int i64 (ms 4)):=H2.out.cell 7
     have h8:w2.cell? ⟨w.heap.size+1,8,none⟩=some (int i64 (ms 5)):=H2.out.cell 8
     have h9:w2.cell? ⟨w.heap.size+1,9,none⟩=some (int i64 li):=H2.out.cell 9
     have RE:=hid fun w=>fa.out k w hlt
     rw[hw2] at d0 d1 h0 h1 h2 h3 h4 h5 h6 h7 h8 h9
     have D5:=hid hw2
     clear hw2
     cases hi2:fJ dy a z with
     | true=>
       have HI:=hid hi2
       rw[tN,decide_eq_true rfl,decide_eq_true rfl,hi2] at TT
       have tn:=hid fun w=>by have:=Fi.out dy w;rw[hi2] at this;exact this
       clear hi2
       gi_wp2_with (first
        | (gi_at_call 63;rw[← D5.out];refine(tn.out _).mono ?_;rintro e w3 ⟨rfl,hb3⟩;have H3:=H2.out.below hb3 H2.out.lt;have j0:w3.cell? ⟨w.heap.size+1,0,none⟩=some (int i64 (f 0)):=H3.cell 0;have j1:w3.cell? ⟨w.heap.size+1,1,none⟩=some (int i64 (f 1)):=H3.cell 1;have j2:w3.cell? ⟨w.heap.size+1,2,none⟩=some (int i64 (f 2)):=H3.cell 2;have j3:w3.cell? ⟨w.heap.size+1,3,none⟩=some (int i64 (ms 0)):=H3.cell 3;have j4:w3.cell? ⟨w.heap.size+1,4,none⟩=some (int i64 (ms 1)):=H3.cell 4;have j5:w3.cell? ⟨w.heap.size+1,5,none⟩=some (int i64 (ms 2)):=H3.cell 5;have j6:w3.cell? ⟨w.heap.size+1,6,none⟩=some (int i64 (ms 3)):=H3.cell 6;have j7:w3.cell? ⟨w.heap.size+1,7,none⟩=some (int i64 (ms 4)):=H3.cell 7;have j8:w3.cell? ⟨w.heap.size+1,8,none⟩=some (int i64 (ms 5)):=H3.cell 8;have j9:w3.cell? ⟨w.heap.size+1,9,none⟩=some (int i64 li):=H3.cell 9)
        | (gi_at_call 44;refine(RE.out _).mono ?_;rintro e w4 ⟨rfl,hb4⟩))
       exact⟨⟨k+1,hlt,by push_cast;rfl,by rw[TT.out];rfl,hid (Below.next (Below.next (Below.next hT.out B2.out) hb3) hb4)⟩,by simp[intOf];omega⟩
     | false=>
       rw[tN,decide_eq_true rfl,decide_eq_true rfl,hi2] at TT
       have tn:=hid fun w=>by have:=Fi.out dy w;rw[hi2] at this;exact this
       clear hi2
       gi_wp2_with (gi_at_call 63;rw[← D5.out];refine(tn.out _).mono ?_;rintro e w3 ⟨rfl,hb3⟩)
       exact⟨⟨k+1,hlt,by push_cast;rfl,by rw[TT.out];rfl,hid (Below.next (Below.next hT.out B2.out) hb3)⟩,by simp[intOf];omega⟩
    ·have hd:decide (go=(gd:Int))=false:=decide_eq_false g2
     rw[tN,hd,Bool.false_and,Bool.and_false] at TT
     gi_wp2
     exact⟨⟨k+1,hlt,by push_cast;rfl,by rw[TT.out];rfl,hid (Below.al hT.out _)⟩,by simp[intOf];omega⟩
   ·have hd:decide (kd=2)=false:=decide_eq_false k2
    rw[tN,hd,Bool.false_and] at TT
    gi_wp2
    exact⟨⟨k+1,hlt,by push_cast;rfl,by rw[TT.out];rfl,hid (Below.al hT.out _)⟩,by simp[intOf];omega⟩
  ·obtain rfl:k=nm:=zo
   gi_wp2
   go_ret
   exact⟨rfl,Below.next B1.out hT.out⟩
theorem VF(b:Bk)(ok:b.Ok)(A:Option Addr)(n p:Nat)(gd:Nat)(a z:Int)(xs:List Ht)(hx:∀h∈xs,lQ h)(Bc Bg Bd:Nat)(w:World)(hA:b.At w w.heap.size)(hc:Whole w Bc 61 (aA b A n p))(hg:Whole w Bg 3 #[int i64 gd])(hd:Whole w Bd 30 #[int i64 a,int i64 z]):rP FF 27 #[.pointer (some ⟨Bc,0,none⟩),.pointer (some ⟨Bg,0,none⟩),.pointer (some ⟨Bd,0,none⟩)] xs (fun h=>int i64 (aQ b h gd a z b.nm)) w:=by
 refine⟨zs,enters_of func27 zk rfl,fun W h hh hW=>?_⟩
 have HF:=hid fun W hA=>bo b h gd a z W hA ok.moves.1 (hx h hh).lies
 have HA:=hid (hA.up hW)
 have C1:=hid (hc.below hW hc.lt)
 have G1:=hid (hg.below hW hg.lt)
 have D1:=hid (hd.below hW hd.lt)
 have h1:=C1.out.lt
 have h2:=D1.out.lt
 have h3:=G1.out.lt
 show CallsIn FF 0 prog 27 #[h.val,.pointer (some ⟨Bc,0,none⟩),.pointer (some ⟨Bg,0,none⟩),.pointer (some ⟨Bd,0,none⟩)] W fun e W'=>e=.returned (int i64 (aQ b h gd a z b.nm))∧Below W.heap.size W W'
 obtain⟨u,hu⟩:∃u,u=aQ b h gd a z b.nm:=⟨_,rfl⟩
 rw[← hu] at HF⊢
 clear hh hu hc hd hg hx hA ok hW
 obtain⟨f,m,li⟩:=h
 obtain⟨days,most,gA,ng,gc,gs,mA,nm,mc,ms,cA,nc,cc,cs⟩:=b
 simp only[Ht.val,Ht.cells,Bk.val,Bk.cells] at HF⊢
 simp only[aA] at C1
 have q0:W.cell? ⟨Bc,0,none⟩=some (int i64 days):=C1.out.cell 0
 have q1:W.cell? ⟨Bc,1,none⟩=some (int i64 most):=C1.out.cell 1
 have q2:W.cell? ⟨Bc,2,none⟩=some (.slice gA ng gc):=C1.out.cell 2
 have q3:W.cell? ⟨Bc,3,none⟩=some (.slice mA nm mc):=C1.out.cell 3
 have q4:W.cell? ⟨Bc,4,none⟩=some (.slice cA nc cc):=C1.out.cell 4
 have d0:W.cell? ⟨Bd,0,none⟩=some (int i64 a):=D1.out.cell 0
 have d1:W.cell? ⟨Bd,1,none⟩=some (int i64 z):=D1.out.cell 1
 have g0:W.cell? ⟨Bg,0,none⟩=some (int i64 gd):=G1.out.cell 0
 gi_enter func27,ntmps27
 gi_wp2_with (gi_at_call 28;refine(HF.out _ (HA.out.up (bw))).mono ?_;rintro e w4 ⟨rfl,hb4⟩)
 go_ret
 exact⟨rfl,Below.next (bw) hb4⟩
end
section
open Go.RowKit
variable{b:Bk}{h:Ht}{gd:Nat}{a z:Int}
theorem lY(ok:lQ h):∀ {k:Nat},k≤6→0≤aQ b h gd a z k∧aQ b h gd a z k≤99 * k
 | 0,_=>⟨Int.le_refl _,Int.le_refl _⟩
 | Nat.succ k,hk=>by
   have ih:=lY ok (k:=k) zo
   have hr:=ok.real (k:=k) zo
   unfold aQ
   cases tN (b.m k).kind (b.m k).good (b.m k).day gd a z with
   | false=>simp only[cond_false];omega
   | true=>simp only[cond_true];rw[IntWalk.wrap64_in _ zo];omega
theorem FH(ok:lQ h){d B:Int}(h1:1≤d)(h2:d<B):∀ {k:Nat},k≤6→aQ b h gd 1 B k=aQ b h gd 1 d k+aQ b h gd (d+1) B k
 | 0,_=>rfl
 | Nat.succ k,hk=>by
   have ih:=FH ok h1 h2 (k:=k) zo
   have hr:=ok.real (k:=k) zo
   have n1:=lY (b:=b) (gd:=gd) (a:=1) (z:=d) ok (k:=k) zo
   have n2:=lY (b:=b) (gd:=gd) (a:=d+1) (z:=B) ok (k:=k) zo
   have n3:=lY (b:=b) (gd:=gd) (a:=1) (z:=B) ok (k:=k) zo
   have w1:=IntWalk.wrap64_in (aQ b h gd 1 B k+h.real k) zo
   have w2:=IntWalk.wrap64_in (aQ b h gd 1 d k+h.real k) zo
   have w3:=IntWalk.wrap64_in (aQ b h gd (d+1) B k+h.real k) zo
   unfold aQ
   rw[w1,w2,w3]
   unfold tN fJ
   generalize (b.m k).day=y
   by_cases k1:(b.m k).kind=2
   ·by_cases k2:(b.m k).good=(gd:Int)
    ·by_cases y1:1≤y
     ·by_cases y2:y≤d
      ·have e1:decide (y≤B)=true:=decide_eq_true zo
       have e2:decide (d+1≤y)=false:=decide_eq_false zo
       simp only[k1,k2,y1,y2,e1,e2,decide_true,Bool.true_and,Bool.false_and,cond_true,cond_false];omega
      ·have e2:decide (d+1≤y)=true:=decide_eq_true zo
       have e3:decide (y≤d)=false:=decide_eq_false y2
       by_cases y3:y≤B
       ·simp only[k1,k2,y1,y3,e2,e3,decide_true,Bool.true_and,Bool.and_false,cond_true,cond_false];omega
       ·have e4:decide (y≤B)=false:=decide_eq_false y3
        simp only[e3,e4,Bool.and_false,cond_false];exact ih
     ·have e1:decide (1≤y)=false:=decide_eq_false y1
      have e2:decide (d+1≤y)=false:=decide_eq_false zo
      simp only[e1,e2,Bool.false_and,Bool.and_false,cond_false];exact ih
    ·have e:decide ((b.m k).good=(gd:Int))=false:=decide_eq_false k2
     simp only[e,Bool.false_and,Bool.and_false,cond_false];exact ih
   ·have e:decide ((b.m k).kind=2)=false:=decide_eq_false k1
    simp only[e,Bool.false_and,cond_false];exact ih
theorem Bh(v:Ht→Int):∀ (L:List Ht) (l u:Int),l≤u→∃l' u',L.foldl (fun s h=>if s.2.2 then(min s.1 (v h),max s.2.1 (v h),true) else(v h,v h,true)) (l,u,true)=(l',u',true)∧l'≤l∧u≤u'∧
 (∀h∈L,l'≤v h∧v h≤u')∧(l'=l∨∃h∈L,v h=l')∧(u'=u∨∃h∈L,v h=u')
 | [],l,u,_=>⟨l,u,rfl,Int.le_refl _,Int.le_refl _,(fun _ h=>by cases h),.inl rfl,.inl rfl⟩
 | x :: L,l,u,US=>by
   obtain⟨l',u',e,h1,h2,h3,h4,h5⟩:=Bh v L (min l (v x)) (max u (v x)) (Int.le_trans (Int.min_le_left _ _) (Int.le_trans US (Int.le_max_left _ _)))
   refine⟨l',u',e,Int.le_trans h1 (Int.min_le_left _ _),Int.le_trans (Int.le_max_left _ _) h2,fun h hh=>?_,?_,?_⟩
   ·rcases List.mem_cons.1 hh with rfl|hh
    ·exact⟨Int.le_trans h1 (Int.min_le_right _ _),Int.le_trans (Int.le_max_right _ _) h2⟩
    ·exact h3 h hh
   ·rcases h4 with h4|⟨h,hh,e4⟩
    ·by_cases hc:l≤v x
     ·exact .inl (h4.trans (Int.min_eq_left hc))
     ·exact .inr ⟨x,List.mem_cons_self,(h4.trans (Int.min_eq_right (Int.le_of_lt (Int.not_le.1 hc)))).symm⟩
    ·exact .inr ⟨h,List.mem_cons_of_mem _ hh,e4⟩
   ·rcases h5 with h5|⟨h,hh,e5⟩
    ·by_cases hc:v x≤u
     ·exact .inl (h5.trans (Int.max_eq_left hc))
     ·exact .inr ⟨x,List.mem_cons_self,(h5.trans (Int.max_eq_right (Int.le_of_lt (Int.not_le.1 hc)))).symm⟩
    ·exact .inr ⟨h,List.mem_cons_of_mem _ hh,e5⟩
theorem nU(v:Ht→Int){L:List Ht}(hL:L≠[]):∃l u,bg v L=(l,u,true)∧(∀h∈L,l≤v h∧v h≤u)∧(∃h∈L,v h=l)∧∃h∈L,v h=u:=by
 cases L with
 | nil=>exact absurd rfl hL
 | cons x L=>
   obtain⟨l,u,e,h1,h2,h3,h4,h5⟩:=Bh v L (v x) (v x) (Int.le_refl _)
   refine⟨l,u,e,fun h hh=>?_,?_,?_⟩
   ·rcases List.mem_cons.1 hh with rfl|hh
    ·exact⟨h1,h2⟩
    ·exact h3 h hh
   ·rcases h4 with rfl|⟨h,hh,e4⟩
    ·exact⟨x,List.mem_cons_self,rfl⟩
    ·exact⟨h,List.mem_cons_of_mem _ hh,e4⟩
   ·rcases h5 with rfl|⟨h,hh,e5⟩
    ·exact⟨x,List.mem_cons_self,rfl⟩
    ·exact⟨h,List.mem_cons_of_mem _ hh,e5⟩
theorem Uv{L:List Ht}(hok:∀h∈L,lQ h){d B:Int}(h1:1≤d)(h2:d<B)(hnm:b.nm≤6)(hL:L≠[]):∃xl xu yl yu zl zu:Int,
 bg (fun h=>aQ b h gd 1 d b.nm) L=(xl,xu,true)∧bg (fun h=>aQ b h gd (d+1) B b.nm) L=(yl,yu,true)∧bg (fun h=>aQ b h gd 1 B b.nm) L=(zl,zu,true)∧
 0≤xl∧xl≤xu∧xu≤594∧0≤yl∧yl≤yu∧yu≤594∧zl≤zu∧zu≤594∧xl+yl≤zl∧zu≤xu+yu∧xl≤zl∧yl≤zl∧xu≤zu∧yu≤zu∧(xl=xu→zl=xl+yl∧zu=xl+yu):=by
 obtain⟨xl,xu,ex,x1,⟨p1,q1,r1⟩,p2,q2,r2⟩:=nU (fun h=>aQ b h gd 1 d b.nm) hL
 obtain⟨yl,yu,ey,y1,⟨p3,q3,r3⟩,p4,q4,r4⟩:=nU (fun h=>aQ b h gd (d+1) B b.nm) hL
 obtain⟨zl,zu,ez,z1,⟨p5,q5,r5⟩,p6,q6,r6⟩:=nU (fun h=>aQ b h gd 1 B b.nm) hL
 have all:∀h∈L,(0≤aQ b h gd 1 d b.nm∧aQ b h gd 1 d b.nm≤594)∧(0≤aQ b h gd (d+1) B b.nm∧aQ b h gd (d+1) B b.nm≤594)∧(0≤aQ b h gd 1 B b.nm∧aQ b h gd 1 B b.nm≤594)∧aQ b h gd 1 B b.nm=aQ b h gd 1 d b.nm+aQ b h gd (d+1) B b.nm:=fun h hh=>by
  have a1:=lY (b:=b) (gd:=gd) (a:=1) (z:=d) (hok h hh) hnm
  have a2:=lY (b:=b) (gd:=gd) (a:=d+1) (z:=B) (hok h hh) hnm
  have a3:=lY (b:=b) (gd:=gd) (a:=1) (z:=B) (hok h hh) hnm
  have a4:=FH (b:=b) (gd:=gd) (hok h hh) h1 h2 hnm
  omega
 refine⟨xl,xu,yl,yu,zl,zu,ex,ey,ez,?_⟩
 have X:∀h∈L,xl≤aQ b h gd 1 d b.nm∧aQ b h gd 1 d b.nm≤xu:=x1
 have Y:∀h∈L,yl≤aQ b h gd (d+1) B b.nm∧aQ b h gd (d+1) B b.nm≤yu:=y1
 have Z:∀h∈L,zl≤aQ b h gd 1 B b.nm∧aQ b h gd 1 B b.nm≤zu:=z1
 try simp only at r1 r2 r3 r4 r5 r6
 have:=all p1 q1;have:=all p2 q2;have:=all p3 q3;have:=all p4 q4;have:=all p5 q5;have:=all p6 q6
 have:=X p1 q1;have:=X p2 q2;have:=X p3 q3;have:=X p4 q4;have:=X p5 q5;have:=X p6 q6
 have:=Y p1 q1;have:=Y p2 q2;have:=Y p3 q3;have:=Y p4 q4;have:=Y p5 q5;have:=Y p6 q6
 have:=Z p1 q1;have:=Z p2 q2;have:=Z p3 q3;have:=Z p4 q4;have:=Z p5 q5;have:=Z p6 q6
 omega
end
end Go.Proofs.YtoldgagdgjilgaaGreat
