/- HX HW HL AD0 HO HY HQ HB AE0 TK3 TN3 TK2 TK4 HE HG P14 AG0 AG1 AG2 AG3 NT0 TK6 TK5 -/
import Derived.Test.YtpmafoalhnaokaaGreatA3
import Derived.Sort.CutIn
set_option maxRecDepth 100000
set_option maxHeartbeats 16000000
set_option linter.unusedVariables false
set_option linter.unusedSectionVars false
open Go.IntKind(i64)
open Go.Lib(hid)
open Go.Proofs.Tryz
open Go.Value(int)
namespace Go.Proofs.YtpmafoalhnaokaaGreat
section
open Go.RowKit
open Go.Sort (grow)
attribute [local go_sem] Oper.semAt_some
theorem VQ{lo:Int}{k:Nat}{n:Int}(h:n∈bD lo k):lo≤n∧n<lo+k:=by
 unfold bD at h
 obtain⟨i,hi,rfl⟩:=List.mem_map.1 h
 have:=List.mem_range.1 hi
 omega
theorem Nr(b:Bk)(ok:gT b):∀ (n k:Nat) (h:Ht) (s:Nat→Int) (x:Ht),k+n≤b.nm→pK h→x∈eB b n k h s→pK x
 | 0,k,h,s,x,_,hh,hx=>by
   simp only[eB] at hx
   split at hx
   ·obtain rfl:x=h:=by simpa using hx
    exact hh
   ·cases hx
 | Nat.succ n,k,h,s,x,hk,hh,hx=>by
   simp only[eB] at hx
   split at hx
   ·obtain⟨z,hz,hx⟩:=List.mem_flatMap.1 hx
    refine Nr b ok n (k+1) (dV h k z) _ x zo ⟨hh.f,fun i hi=>?_,hh.lies⟩ hx
    have hf:=jT (ok.2 k zo).few
    have:=VQ hz
    have:=hh.m i hi
    unfold dV
    simp only
    split <;> omega
   ·cases hx
theorem jE(b:Bk)(ok:b.Ok)(ls:List Nat)(hl:∀s∈ls,eu s):∀h∈aB b ls,pK h:=fun h hh=>by
 unfold aB at hh
 obtain⟨s,hs,hh⟩:=List.mem_flatMap.1 hh
 unfold gy at hh
 obtain⟨f,hf,hh⟩:=List.mem_flatMap.1 hh
 have hfi:=uE b ok.bE b.ng zL f hf
 refine Nr b ok.moves b.nm 0 ⟨f,fun _=>0,s⟩ f h zo ⟨fun i hi=>hfi i hi,fun i _=>zs,?_⟩ hh
 exact hl s (List.mem_filter.1 hs).1
theorem TU(k:Nat)(hk:k<6)(xs:List Ht)(hx:∀h∈xs,pK h)(B:Nat)(w:World)(hB:Whole w B 3 #[int i64 k]):uf FF 58 #[.pointer (some ⟨B,0,none⟩)] xs (fun h=>.bool (h.JJ k)) w:=by
 refine⟨zs,enters_of func58 zk rfl,fun W h hh hW=>?_⟩
 have HF:=hid fun W=>oQ h k W (hx h hh).lies hk
 have hB':=hB.below hW hB.lt
 have Lo:=hid hB'
 have hlt:=hB'.lt
 show CallsIn FF 0 prog 58 #[h.val,.pointer (some ⟨B,0,none⟩)] W fun e W'=>e=.returned (.bool (h.JJ k))∧Below W.heap.size W W'
 obtain⟨r,hr⟩:∃r,r=h.JJ k:=zE
 rw[← hr] at HF⊢
 clear hh hr hB hx
 obtain⟨f,m,li⟩:=h
 simp only[Ht.val,Ht.cells] at HF⊢
 have c0:W.cell? ⟨B,0,none⟩=some (int i64 k):=Lo.out.cell 0
 gi_enter func58,ntmps58
 gi_wp2_with (gi_at_call 59;refine(HF.out _).mono ?_;rintro e w4 ⟨rfl,hb4⟩)
 go_ret
 exact⟨rfl,Below.next (bw) hb4⟩
theorem LU(k:Nat)(hk:k<6)(xs:List Ht)(hx:∀h∈xs,pK h)(B:Nat)(w:World)(hB:Whole w B 3 #[int i64 k]):uf FF 54 #[.pointer (some ⟨B,0,none⟩)] xs (fun h=>int i64 (h.real k)) w:=by
 refine⟨zs,enters_of func54 zk rfl,fun W h hh hW=>?_⟩
 have HF:=hid fun W=>oh h k W (hx h hh).lies hk
 have hB':=hB.below hW hB.lt
 have Lo:=hid hB'
 have hlt:=hB'.lt
 show CallsIn FF 0 prog 54 #[h.val,.pointer (some ⟨B,0,none⟩)] W fun e W'=>e=.returned (int i64 (h.real k))∧Below W.heap.size W W'
 obtain⟨r,hr⟩:∃r,r=h.real k:=zE
 rw[← hr] at HF⊢
 clear hh hr hB hx
 obtain⟨f,m,li⟩:=h
 simp only[Ht.val,Ht.cells] at HF⊢
 have c0:W.cell? ⟨B,0,none⟩=some (int i64 k):=Lo.out.cell 0
 gi_enter func54,ntmps54
 gi_wp2_with (gi_at_call 55;refine(HF.out _).mono ?_;rintro e w4 ⟨rfl,hb4⟩)
 go_ret
 exact⟨rfl,Below.next (bw) hb4⟩
theorem YI(b:Bk)(ok:b.Ok)(A:Option Addr)(n p:Nat)(day:Int)(g:Nat)(hg:g<3)(xs:List Ht)(hx:∀h∈xs,pK h)(Bc Bd Bg:Nat)(w:World)(hA:b.At w w.heap.size)(hc:Whole w Bc 75 (aA b A n p))(hd:Whole w Bd 3 #[int i64 day])(hgg:Whole w Bg 3 #[int i64 g]):uf FF 53 #[.pointer (some ⟨Bc,0,none⟩),.pointer (some ⟨Bd,0,none⟩),.pointer (some ⟨Bg,0,none⟩)] xs (fun h=>int i64 (stk b h day b.nm g)) w:=by
 refine⟨zs,enters_of func53 zk rfl,fun W h hh hW=>?_⟩
 have HF:=hid fun W hA=>gK b h day W hA ok.moves ok.bE.1.2 (hx h hh)
 have HA:=hid (hA.up hW)
 have C1:=hid (hc.below hW hc.lt)
 have D1:=hid (hd.below hW hd.lt)
 have G1:=hid (hgg.below hW hgg.lt)
 have h1:=C1.out.lt
 have h2:=D1.out.lt
 have h3:=G1.out.lt
 show CallsIn FF 0 prog 53 #[h.val,.pointer (some ⟨Bc,0,none⟩),.pointer (some ⟨Bd,0,none⟩),.pointer (some ⟨Bg,0,none⟩)] W fun e W'=>e=.returned (int i64 (stk b h day b.nm g))∧Below W.heap.size W W'
 obtain⟨r,hr⟩:∃r,r=stk b h day b.nm:=zE
 rw[← hr] at HF⊢
 clear hh hr hc hd hgg hx hA ok hW
 obtain⟨w1,hw1⟩:∃w1,w1=W.alloc (.cells h.cells 91):=zE
 have B1:Hid (Below W.heap.size W w1):=hid (by rw[hw1];exact bw)
 have H1:Hid (Whole w1 W.heap.size 91 h.cells):=hid (by rw[hw1];exact Whole.new _ _ _)
 have C2:=hid (C1.out.below B1.out h1)
 have D2:=hid (D1.out.below B1.out h2)
 have G2:=hid (G1.out.below B1.out h3)
 have A2:=hid (HA.out.up B1.out)
 obtain⟨f,m,li⟩:=h
 obtain⟨dY,mO,gA,ng,gc,gs,mA,nm,mc,ms,cA,nc,cc,cs⟩:=b
 simp only[Ht.val,Ht.cells,Bk.val,Bk.cells,mF] at HF H1⊢
 simp only[aA] at C2
 simp only[Ht.cells] at hw1
 have jd:=hid hw1
 clear hw1
 have q0:=cell_regrown (C2.out.cell 0)
 have q1:=cell_regrown (C2.out.cell 1)
 have q2:=cell_regrown (C2.out.cell 2)
 have q3:=cell_regrown (C2.out.cell 3)
 have q4:=cell_regrown (C2.out.cell 4)
 have qd:=cell_regrown (D2.out.cell 0)
 have qg:=cell_regrown (G2.out.cell 0)
 have x0:=cell_regrown (H1.out.cell 0)
 have x1:=cell_regrown (H1.out.cell 1)
 have x2:=cell_regrown (H1.out.cell 2)
 have x3:=cell_regrown (H1.out.cell 3)
 have x4:=cell_regrown (H1.out.cell 4)
 have x5:=cell_regrown (H1.out.cell 5)
 have x6:=cell_regrown (H1.out.cell 6)
 have x7:=cell_regrown (H1.out.cell 7)
 have x8:=cell_regrown (H1.out.cell 8)
 have x9:=cell_regrown (H1.out.cell 9)
 have cS:∀d os,CallsIn FF 0 prog 47 #[.agg #[int i64 dY,int i64 mO,.slice gA ng gc,.slice mA nm mc,.slice cA nc cc],.agg #[int i64 (f 0),int i64 (f 1),int i64 (f 2),int i64 (m 0),int i64 (m 1),int i64 (m 2),int i64 (m 3),int i64 (m 4),int i64 (m 5),int i64 li],int i64 day] (grow (redrawn w1 d) os) fun e w''=>e=.returned (.agg #[int i64 (r 0),int i64 (r 1),int i64 (r 2)])∧∃p:Regrown,w''=grow (redrawn w1 p.d) p.os:=fun d os=>CallsIn.regrown_of (HF.out _ ((A2.out.below (below_regrown w1 d os)).more (below_regrown w1 d os).size))
 have ix:∀ (u v z:Int) (w:World),(Instr.index 88 (.agg #[int i64 u,int i64 v,int i64 z]) (int i64 0)).run prog w=.ok (int i64 u) w∧(Instr.index 88 (.agg #[int i64 u,int i64 v,int i64 z]) (int i64 1)).run prog w=.ok (int i64 v) w∧(Instr.index 88 (.agg #[int i64 u,int i64 v,int i64 z]) (int i64 2)).run prog w=.ok (int i64 z) w:=fun _ _ _ _=>⟨zk,zk,zk⟩
 have T3:=fun u v z w=>(ix u v z w).1
 have T5:=fun u v z w=>(ix u v z w).2.1
 have T6:=fun u v z w=>(ix u v z w).2.2
 clear ix
 gi_enter func53,ntmps53
 gi_wp2
 rw[← jd.out]
 refine wpIn_region_quiet_below rfl zk zk ?_
 rcases(show g=0∨g=1∨g=2 by omega) with rfl|rfl|rfl
 all_goals
  repeat (quiet_step_in (exact cS _ _))
  refine wpQuietIn_nil ?_
  rintro w' ⟨⟨dq,osq⟩,rfl⟩
  have bn:=below_regrown w1 dq osq
  gi_wp2
  go_ret
  exact⟨rfl,Below.next B1.out bn⟩
def eG(b:Bk)(s:Nat→Int):Nat→Int
 | 0=>0
 | Nat.succ k=>IntKind.i64.wrap (eG b s k+IntKind.i64.wrap ((b.g k).cost * s k))
theorem b8(b:Bk)(s:Nat→Int)(w:World)(hA:b.At w w.heap.size)(hg:b.ng≤3):CallsIn FF 0 prog 64 #[b.val,mF s] w fun e w'=>e=.returned (int i64 (eG b s b.ng))∧Below w.heap.size w w':=by
 obtain⟨L,hL⟩:∃L,L=eG b s:=zE
 have s9:Hid (L 0=0):=hid (by rw[hL];rfl)
 have SX:Hid (∀k,L (k+1)=IntKind.i64.wrap (L k+IntKind.i64.wrap ((b.g k).cost * s k))):=hid fun k=>by rw[hL];rfl
 rw[← hL]
 clear hL
 have HA:=hid hA
 clear hA
 obtain⟨dY,mO,gA,ng,gc,g,mA,nm,mc,m,cA,nc,cc,c⟩:=b
 simp only[Bk.val,Bk.cells,mF] at SX hg⊢
 obtain⟨w1,hw1⟩:∃w1,w1=(w.alloc (.cells #[int i64 dY,int i64 mO,.slice gA ng gc,.slice mA nm mc,.slice cA nc cc] 73)).alloc (.cells #[int i64 (s 0),int i64 (s 1),int i64 (s 2)] 88):=zE
 have B1:Hid (Below w.heap.size w w1):=hid (by rw[hw1];exact bw)
 have S1:Hid (Whole w1 (w.heap.size+1) 88 #[int i64 (s 0),int i64 (s 1),int i64 (s 2)]):=hid (by
  have:=Whole.new (w.alloc (.cells #[int i64 dY,int i64 mO,.slice gA ng gc,.slice mA nm mc,.slice cA nc cc] 73)) 88 #[int i64 (s 0),int i64 (s 1),int i64 (s 2)]
  rw[World.size_alloc] at this;rw[hw1];exact this)
 have A1:=hid (HA.out.up B1.out)
 have hs1:w1.heap.size=w.heap.size+2:=by rw[hw1];simp
 have jd:=hid hw1
 clear hw1
 gi_enter func64,ntmps64
 gi_wp2
 rw[← jd.out]
 clear jd
 gi_loopw [5,12] (fun u i wr=>∃k:Nat,k≤ng∧i=int i64 k∧u=int i64 (L k)∧Hid (Below w1.heap.size w1 wr)) (fun _ i _=>ng - (intOf i).toNat)
 case atStart=>exact⟨0,Nat.zero_le _,rfl,by rw[s9.out],hid zB⟩
 case round=>
  obtain⟨k,hk,rfl,rfl,hT⟩:=hrel
  obtain⟨wo,rfl⟩:∃wo:World,wo=wr:=zE
  have hsz:=hT.out.size
  by_cases hlt:k<ng
  ·obtain⟨ad,hA',hbl,-⟩:=A1.out.g (show 0<ng by omega)
   simp only at hA'
   subst hA'
   obtain⟨gk,EN⟩:∃gk,gk=g k:=zE
   have hr:∀j,j<5→wo.cell? ((ad.add (k * 5)).add j)=some (gk.cell j):=fun j hj=>by rw[EN];exact((A1.out.g.below hT.out)).row hlt |>.2 j hj
   have hLk:=SX.out k
   rw[← EN] at hLk
   obtain⟨Qs,co,pk,lo,hi⟩:=gk
   have c0:wo.cell? (ad.add (k * 5))=some (.string Qs):=hr 0 zD
   have c1:wo.cell? ⟨(ad.add (k * 5)).block,(ad.add (k * 5)).off+1,none⟩=some (int i64 co):=hr 1 zD
   have c2:wo.cell? ⟨(ad.add (k * 5)).block,(ad.add (k * 5)).off+2,none⟩=some (int i64 pk):=hr 2 zD
   have c3:wo.cell? ⟨(ad.add (k * 5)).block,(ad.add (k * 5)).off+3,none⟩=some (int i64 lo):=hr 3 zD
   have c4:wo.cell? ⟨(ad.add (k * 5)).block,(ad.add (k * 5)).off+4,none⟩=some (int i64 hi):=hr 4 zD
   clear hr
   simp only at hLk
   have Xg:=hid hLk
   clear EN hLk
   obtain⟨w2,hw2⟩:∃w2,w2=wo.alloc (.cells #[.string Qs,int i64 co,int i64 pk,int i64 lo,int i64 hi] 83):=zE
   have B2:Hid (Below wo.heap.size wo w2):=hid (by rw[hw2];exact bw)
   have G2:Hid (Whole w2 wo.heap.size 83 #[.string Qs,int i64 co,int i64 pk,int i64 lo,int i64 hi]):=hid (by rw[hw2];exact Whole.new _ _ _)
   have S2:=hid ((S1.out.below hT.out S1.out.lt).below B2.out zo)
   have Ga:=hid hw2
   clear hw2
   gi_wp2
   rw[← Ga.out]
   have qc:=cell_regrown (G2.out.cell 1)
   have q0:=cell_regrown (S2.out.cell 0)
   have q1:=cell_regrown (S2.out.cell 1)
   have q2:=cell_regrown (S2.out.cell 2)
   refine wpIn_region_quiet_below rfl zk zk ?_
   rcases(show k=0∨k=1∨k=2 by omega) with rfl|rfl|rfl
   all_goals
    repeat (quiet_step_in (fail))
    refine wpQuietIn_nil ?_
    rintro w' ⟨⟨dq,osq⟩,rfl⟩
    have bn:=below_regrown w2 dq osq
    gi_wp2
    exact⟨⟨_+1,hlt,rfl,by rw[Xg.out],hid (Below.next (Below.next hT.out B2.out) bn)⟩,by simp[intOf];omega⟩
  ·obtain rfl:k=ng:=zo
   gi_wp2
   go_ret
   exact⟨rfl,Below.next B1.out hT.out⟩
theorem WZ(b:Bk)(ok:b.Ok)(A:Option Addr)(n p:Nat)(day:Int)(xs:List Ht)(hx:∀h∈xs,pK h)(Bc Bd:Nat)(w:World)(hA:b.At w w.heap.size)(hc:Whole w Bc 75 (aA b A n p))(hd:Whole w Bd 3 #[int i64 day]):uf FF 63 #[.pointer (some ⟨Bc,0,none⟩),.pointer (some ⟨Bd,0,none⟩)] xs (fun h=>int i64 (eG b (stk b h day b.nm) b.ng)) w:=by
 refine⟨zs,enters_of func63 zk rfl,fun W h hh hW=>?_⟩
 have HF:=hid fun W hA=>gK b h day W hA ok.moves ok.bE.1.2 (hx h hh)
 have HG:=hid fun s W hA=>b8 b s W hA ok.bE.1.2
 have HA:=hid (hA.up hW)
 have C1:=hid (hc.below hW hc.lt)
 have D1:=hid (hd.below hW hd.lt)
 have h1:=C1.out.lt
 have h2:=D1.out.lt
 show CallsIn FF 0 prog 63 #[h.val,.pointer (some ⟨Bc,0,none⟩),.pointer (some ⟨Bd,0,none⟩)] W fun e W'=>e=.returned (int i64 (eG b (stk b h day b.nm) b.ng))∧Below W.heap.size W W'
 obtain⟨r,hr⟩:∃r,r=stk b h day b.nm:=zE
 rw[← hr] at HF⊢
 have LF:=hid fun W hA=>HG.out r W hA
 obtain⟨u,hu⟩:∃u,u=eG b r b.ng:=zE
 rw[← hu] at LF⊢
 clear hh hr hu hc hd hx hA ok hW HG
 obtain⟨w1,hw1⟩:∃w1,w1=W.alloc (.cells h.cells 91):=zE
 have B1:Hid (Below W.heap.size W w1):=hid (by rw[hw1];exact bw)
 have H1:Hid (Whole w1 W.heap.size 91 h.cells):=hid (by rw[hw1];exact Whole.new _ _ _)
 have C2:=hid (C1.out.below B1.out h1)
 have D2:=hid (D1.out.below B1.out h2)
 have A2:=hid (HA.out.up B1.out)
 obtain⟨f,m,li⟩:=h
 obtain⟨dY,mO,gA,ng,gc,gs,mA,nm,mc,ms,cA,nc,cc,cs⟩:=b
 simp only[Ht.val,Ht.cells,Bk.val,Bk.cells,mF] at HF LF H1⊢
 simp only[aA] at C2
 simp only[Ht.cells] at hw1
 have jd:=hid hw1
 clear hw1
 have q0:=cell_regrown (C2.out.cell 0)
 have q1:=cell_regrown (C2.out.cell 1)
 have q2:=cell_regrown (C2.out.cell 2)
 have q3:=cell_regrown (C2.out.cell 3)
 have q4:=cell_regrown (C2.out.cell 4)
 have qd:=cell_regrown (D2.out.cell 0)
 have x0:=cell_regrown (H1.out.cell 0)
 have x1:=cell_regrown (H1.out.cell 1)
 have x2:=cell_regrown (H1.out.cell 2)
 have x3:=cell_regrown (H1.out.cell 3)
 have x4:=cell_regrown (H1.out.cell 4)
 have x5:=cell_regrown (H1.out.cell 5)
 have x6:=cell_regrown (H1.out.cell 6)
 have x7:=cell_regrown (H1.out.cell 7)
 have x8:=cell_regrown (H1.out.cell 8)
 have x9:=cell_regrown (H1.out.cell 9)
 have cS:∀d os,CallsIn FF 0 prog 47 #[.agg #[int i64 dY,int i64 mO,.slice gA ng gc,.slice mA nm mc,.slice cA nc cc],.agg #[int i64 (f 0),int i64 (f 1),int i64 (f 2),int i64 (m 0),int i64 (m 1),int i64 (m 2),int i64 (m 3),int i64 (m 4),int i64 (m 5),int i64 li],int i64 day] (grow (redrawn w1 d) os) fun e w''=>e=.returned (.agg #[int i64 (r 0),int i64 (r 1),int i64 (r 2)])∧∃p:Regrown,w''=grow (redrawn w1 p.d) p.os:=fun d os=>CallsIn.regrown_of (HF.out _ ((A2.out.below (below_regrown w1 d os)).more (below_regrown w1 d os).size))
 have cW:∀d os,CallsIn FF 0 prog 64 #[.agg #[int i64 dY,int i64 mO,.slice gA ng gc,.slice mA nm mc,.slice cA nc cc],.agg #[int i64 (r 0),int i64 (r 1),int i64 (r 2)]] (grow (redrawn w1 d) os) fun e w''=>e=.returned (int i64 u)∧∃p:Regrown,w''=grow (redrawn w1 p.d) p.os:=fun d os=>CallsIn.regrown_of (LF.out _ ((A2.out.below (below_regrown w1 d os)).more (below_regrown w1 d os).size))
 gi_enter func63,ntmps63
 gi_wp2
 rw[← jd.out]
 refine wpIn_region_quiet_below rfl zk zk ?_
 repeat (quiet_step_in (first|exact cS _ _|exact cW _ _))
 refine wpQuietIn_nil ?_
 rintro w' ⟨⟨dq,osq⟩,rfl⟩
 have bn:=below_regrown w1 dq osq
 gi_wp2
 go_ret
 exact⟨rfl,Below.next B1.out bn⟩
def Dc(kd go dy:Int)(gd:Nat)(a z:Int):Bool:=decide (kd=2) && (decide (go=gd) && fJ dy a z)
def kQ(b:Bk)(h:Ht)(gd:Nat)(a z:Int):Nat→Int
 | 0=>0
 | Nat.succ k=>bif Dc (b.m k).kind (b.m k).good (b.m k).day gd a z then wrap64 (kQ b h gd a z k+h.real k) else kQ b h gd a z k
theorem ml(b:Bk)(h:Ht)(gd:Nat)(a z:Int)(w:World)(hA:b.At w w.heap.size)(hnm:b.nm≤6)(hh:h.lies<64):CallsIn FF 0 prog 62 #[b.val,h.val,int i64 gd,.agg #[int i64 a,int i64 z]] w fun e w'=>e=.returned (int i64 (kQ b h gd a z b.nm))∧Below w.heap.size w w':=by
 obtain⟨L,hL⟩:∃L,L=kQ b h gd a z:=zE
 obtain⟨R,hR⟩:∃R,R=h.real:=zE
 have s9:Hid (L 0=0):=hid (by rw[hL];rfl)
 have SX:Hid (∀k,L (k+1)=bif Dc (b.m k).kind (b.m k).good (b.m k).day gd a z then wrap64 (L k+R k) else L k):=hid fun k=>by rw[hL,hR];rfl
 have pS:=hid fun k (w:World) (hk:k<b.nm)=>oh h k w hh zo
 have HHs:=hid fun n (w:World)=>CallsIn.wider (dC a z n w)
 rw[← hL]
 rw[← hR] at pS
 clear hL hR hh
 have HA:=hid hA
 clear hA
 obtain⟨dY,mO,gA,ng,gc,g,mA,nm,mc,m,cA,nc,cc,c⟩:=b
 obtain⟨f,ms,li⟩:=h
 simp only[Bk.val,Bk.cells,Ht.val,Ht.cells] at SX pS hnm⊢
 obtain⟨w1,hw1⟩:∃w1,w1=((w.alloc (.cells #[int i64 dY,int i64 mO,.slice gA ng gc,.slice mA nm mc,.slice cA nc cc] 73)).alloc (.cells #[int i64 (f 0),int i64 (f 1),int i64 (f 2),int i64 (ms 0),int i64 (ms 1),int i64 (ms 2),int i64 (ms 3),int i64 (ms 4),int i64 (ms 5),int i64 li] 91)).alloc (.cells #[int i64 a,int i64 z] 28):=zE
 have B1:Hid (Below w.heap.size w w1):=hid (by rw[hw1];exact bw)
 have H1:Hid (Whole w1 (w.heap.size+1) 91 #[int i64 (f 0),int i64 (f 1),int i64 (f 2),int i64 (ms 0),int i64 (ms 1),int i64 (ms 2),int i64 (ms 3),int i64 (ms 4),int i64 (ms 5),int i64 li]):=hid (by
  have:=(Whole.new (w.alloc (.cells #[int i64 dY,int i64 mO,.slice gA ng gc,.slice mA nm mc,.slice cA nc cc] 73)) 91 #[int i64 (f 0),int i64 (f 1),int i64 (f 2),int i64 (ms 0),int i64 (ms 1),int i64 (ms 2),int i64 (ms 3),int i64 (ms 4),int i64 (ms 5),int i64 li]).alloc (.cells #[int i64 a,int i64 z] 28)
  rw[World.size_alloc] at this;rw[hw1];exact this)
 have D1:Hid (Whole w1 (w.heap.size+1+1) 28 #[int i64 a,int i64 z]):=hid (by
  have:=Whole.new ((w.alloc (.cells #[int i64 dY,int i64 mO,.slice gA ng gc,.slice mA nm mc,.slice cA nc cc] 73)).alloc (.cells #[int i64 (f 0),int i64 (f 1),int i64 (f 2),int i64 (ms 0),int i64 (ms 1),int i64 (ms 2),int i64 (ms 3),int i64 (ms 4),int i64 (ms 5),int i64 li] 91)) 28 #[int i64 a,int i64 z]
  rw[World.size_alloc,World.size_alloc] at this;rw[hw1];exact this)
 have A1:=hid (HA.out.up B1.out)
 have hs1:w1.heap.size=w.heap.size+3:=by rw[hw1];simp
 have jd:=hid hw1
 clear hw1
 gi_enter func62,ntmps62
 gi_wp2
 rw[← jd.out]
 clear jd
 gi_loopw [9,16] (fun u i wr=>∃k:Nat,k≤nm∧i=int i64 k∧u=int i64 (L k)∧Hid (Below w1.heap.size w1 wr)) (fun _ i _=>nm - (intOf i).toNat)
 case atStart=>exact⟨0,Nat.zero_le _,rfl,by rw[s9.out],hid zB⟩
 case round=>
  obtain⟨k,hk,rfl,rfl,hT⟩:=hrel
  obtain⟨wo,rfl⟩:∃wo:World,wo=wr:=zE
  have hsz:=hT.out.size
  by_cases hlt:k<nm
  ·obtain⟨ad,hA',hbl,-⟩:=A1.out.m (show 0<nm by omega)
   simp only at hA'
   subst hA'
   obtain⟨gk,EN⟩:∃gk,gk=m k:=zE
   have hr:∀j,j<5→wo.cell? ((ad.add (k * 5)).add j)=some (gk.cell j):=fun j hj=>by rw[EN];exact((A1.out.m.below hT.out)).row hlt |>.2 j hj
   have hLk:=SX.out k
   rw[← EN] at hLk
   obtain⟨kd,go,dy,lo,hi⟩:=gk
   have c0:wo.cell? (ad.add (k * 5))=some (int i64 kd):=hr 0 zD
   have c1:wo.cell? ⟨(ad.add (k * 5)).block,(ad.add (k * 5)).off+1,none⟩=some (int i64 go):=hr 1 zD
   have c2:wo.cell? ⟨(ad.add (k * 5)).block,(ad.add (k * 5)).off+2,none⟩=some (int i64 dy):=hr 2 zD
   have c3:wo.cell? ⟨(ad.add (k * 5)).block,(ad.add (k * 5)).off+3,none⟩=some (int i64 lo):=hr 3 zD
   have c4:wo.cell? ⟨(ad.add (k * 5)).block,(ad.add (k * 5)).off+4,none⟩=some (int i64 hi):=hr 4 zD
   clear hr
   simp only at hLk
   have Xg:=hid hLk
   clear EN hLk
   by_cases k2:kd=2
   ·subst k2
    by_cases g2:go=gd
    ·subst g2
     obtain⟨w2,hw2⟩:∃w2,w2=wo.alloc (.cells #[int i64 2,int i64 gd,int i64 dy,int i64 lo,int i64 hi] 39):=zE
     have B2:Hid (Below wo.heap.size wo w2):=hid (by rw[hw2];exact bw)
     have H2:=hid ((H1.out.below hT.out H1.out.lt).below B2.out zo)
     have D2:=hid ((D1.out.below hT.out D1.out.lt).below B2.out zo)
     have d0:w2.cell? ⟨w.heap.size+1+1,0,none⟩=some (int i64 a):=D2.out.cell 0
     have d1:w2.cell? ⟨w.heap.size+1+1,1,none⟩=some (int i64 z):=D2.out.cell 1
     have h0:w2.cell? ⟨w.heap.size+1,0,none⟩=some (int i64 (f 0)):=H2.out.cell 0
     have h1:w2.cell? ⟨w.heap.size+1,1,none⟩=some (int i64 (f 1)):=H2.out.cell 1
     have h2:w2.cell? ⟨w.heap.size+1,2,none⟩=some (int i64 (f 2)):=H2.out.cell 2
     have h3:w2.cell? ⟨w.heap.size+1,3,none⟩=some (int i64 (ms 0)):=H2.out.cell 3
     have h4:w2.cell? ⟨w.heap.size+1,4,none⟩=some (int i64 (ms 1)):=H2.out.cell 4
     have h5:w2.cell? ⟨w.heap.size+1,5,none⟩=some (int i64 (ms 2)):=H2.out.cell 5
     have h6:w2.cell? ⟨w.heap.size+1,6,none⟩=some (int i64 (ms 3)):=H2.out.cell 6
     have h7:w2.cell? ⟨w.heap.size+1,7,none⟩=some (int i64 (ms 4)):=H2.out.cell 7
     have h8:w2.cell? ⟨w.heap.size+1,8,none⟩=some (int i64 (ms 5)):=H2.out.cell 8
     have h9:w2.cell? ⟨w.heap.size+1,9,none⟩=some (int i64 li):=H2.out.cell 9
     have RE:=hid fun w=>pS.out k w hlt
     rw[hw2] at d0 d1 h0 h1 h2 h3 h4 h5 h6 h7 h8 h9
     have Ga:=hid hw2
     clear hw2
     cases hi2:fJ dy a z with
     | true=>
       have HI:=hid hi2
       rw[Dc,decide_eq_true rfl,decide_eq_true rfl,hi2] at Xg
       have LI:=hid fun w=>by have:=HHs.out dy w;rw[hi2] at this;exact this
       clear hi2
       gi_wp2_with (first
        | (gi_at_call 92;rw[← Ga.out];refine(LI.out _).mono ?_;rintro e w3 ⟨rfl,hb3⟩;have H3:=H2.out.below hb3 H2.out.lt;have j0:w3.cell? ⟨w.heap.size+1,0,none⟩=some (int i64 (f 0)):=H3.cell 0;have j1:w3.cell? ⟨w.heap.size+1,1,none⟩=some (int i64 (f 1)):=H3.cell 1;have j2:w3.cell? ⟨w.heap.size+1,2,none⟩=some (int i64 (f 2)):=H3.cell 2;have j3:w3.cell? ⟨w.heap.size+1,3,none⟩=some (int i64 (ms 0)):=H3.cell 3;have j4:w3.cell? ⟨w.heap.size+1,4,none⟩=some (int i64 (ms 1)):=H3.cell 4;have j5:w3.cell? ⟨w.heap.size+1,5,none⟩=some (int i64 (ms 2)):=H3.cell 5;have j6:w3.cell? ⟨w.heap.size+1,6,none⟩=some (int i64 (ms 3)):=H3.cell 6;have j7:w3.cell? ⟨w.heap.size+1,7,none⟩=some (int i64 (ms 4)):=H3.cell 7;have j8:w3.cell? ⟨w.heap.size+1,8,none⟩=some (int i64 (ms 5)):=H3.cell 8;have j9:w3.cell? ⟨w.heap.size+1,9,none⟩=some (int i64 li):=H3.cell 9)
        | (gi_at_call 55;refine(RE.out _).mono ?_;rintro e w4 ⟨rfl,hb4⟩))
       exact⟨⟨k+1,hlt,by push_cast;rfl,by rw[Xg.out];rfl,hid (Below.next (Below.next (Below.next hT.out B2.out) hb3) hb4)⟩,by simp[intOf];omega⟩
     | false=>
       rw[Dc,decide_eq_true rfl,decide_eq_true rfl,hi2] at Xg
       have LI:=hid fun w=>by have:=HHs.out dy w;rw[hi2] at this;exact this
       clear hi2
       gi_wp2_with (gi_at_call 92;rw[← Ga.out];refine(LI.out _).mono ?_;rintro e w3 ⟨rfl,hb3⟩)
       exact⟨⟨k+1,hlt,by push_cast;rfl,by rw[Xg.out];rfl,hid (Below.next (Below.next hT.out B2.out) hb3)⟩,by simp[intOf];omega⟩
    ·have hd:decide (go=(gd:Int))=false:=decide_eq_false g2
     rw[Dc,hd,Bool.false_and,Bool.and_false] at Xg
     gi_wp2
     exact⟨⟨k+1,hlt,by push_cast;rfl,by rw[Xg.out];rfl,hid (Below.al hT.out _)⟩,by simp[intOf];omega⟩
   ·have hd:decide (kd=2)=false:=decide_eq_false k2
    rw[Dc,hd,Bool.false_and] at Xg
    gi_wp2
    exact⟨⟨k+1,hlt,by push_cast;rfl,by rw[Xg.out];rfl,hid (Below.al hT.out _)⟩,by simp[intOf];omega⟩
  ·obtain rfl:k=nm:=zo
   gi_wp2
   go_ret
   exact⟨rfl,Below.next B1.out hT.out⟩
theorem YM(b:Bk)(ok:b.Ok)(A:Option Addr)(n p:Nat)(gd:Nat)(a z:Int)(xs:List Ht)(hx:∀h∈xs,pK h)(Bc Bg Bd:Nat)(w:World)(hA:b.At w w.heap.size)(hc:Whole w Bc 75 (aA b A n p))(hg:Whole w Bg 3 #[int i64 gd])(hd:Whole w Bd 28 #[int i64 a,int i64 z]):uf FF 61 #[.pointer (some ⟨Bc,0,none⟩),.pointer (some ⟨Bg,0,none⟩),.pointer (some ⟨Bd,0,none⟩)] xs (fun h=>int i64 (kQ b h gd a z b.nm)) w:=by
 refine⟨zs,enters_of func61 zk rfl,fun W h hh hW=>?_⟩
 have HF:=hid fun W hA=>ml b h gd a z W hA ok.moves.1 (hx h hh).lies
 have HA:=hid (hA.up hW)
 have C1:=hid (hc.below hW hc.lt)
 have G1:=hid (hg.below hW hg.lt)
 have D1:=hid (hd.below hW hd.lt)
 have h1:=C1.out.lt
 have h2:=D1.out.lt
 have h3:=G1.out.lt
 show CallsIn FF 0 prog 61 #[h.val,.pointer (some ⟨Bc,0,none⟩),.pointer (some ⟨Bg,0,none⟩),.pointer (some ⟨Bd,0,none⟩)] W fun e W'=>e=.returned (int i64 (kQ b h gd a z b.nm))∧Below W.heap.size W W'
 obtain⟨u,hu⟩:∃u,u=kQ b h gd a z b.nm:=zE
 rw[← hu] at HF⊢
 clear hh hu hc hd hg hx hA ok hW
 obtain⟨f,m,li⟩:=h
 obtain⟨dY,mO,gA,ng,gc,gs,mA,nm,mc,ms,cA,nc,cc,cs⟩:=b
 simp only[Ht.val,Ht.cells,Bk.val,Bk.cells] at HF⊢
 simp only[aA] at C1
 have q0:W.cell? ⟨Bc,0,none⟩=some (int i64 dY):=C1.out.cell 0
 have q1:W.cell? ⟨Bc,1,none⟩=some (int i64 mO):=C1.out.cell 1
 have q2:W.cell? ⟨Bc,2,none⟩=some (.slice gA ng gc):=C1.out.cell 2
 have q3:W.cell? ⟨Bc,3,none⟩=some (.slice mA nm mc):=C1.out.cell 3
 have q4:W.cell? ⟨Bc,4,none⟩=some (.slice cA nc cc):=C1.out.cell 4
 have d0:W.cell? ⟨Bd,0,none⟩=some (int i64 a):=D1.out.cell 0
 have d1:W.cell? ⟨Bd,1,none⟩=some (int i64 z):=D1.out.cell 1
 have g0:W.cell? ⟨Bg,0,none⟩=some (int i64 gd):=G1.out.cell 0
 gi_enter func61,ntmps61
 gi_wp2_with (gi_at_call 62;refine(HF.out _ (HA.out.up (bw))).mono ?_;rintro e w4 ⟨rfl,hb4⟩)
 go_ret
 exact⟨rfl,Below.next (bw) hb4⟩
end
section
open Go.RowKit
variable{b:Bk}{h:Ht}{gd:Nat}{a z:Int}
theorem DI(v:Ht→Int):∀ (L:List Ht) (l u:Int),l≤u→∃l' u',L.foldl (fun s h=>if s.2.2 then(min s.1 (v h),max s.2.1 (v h),true) else(v h,v h,true)) (l,u,true)=(l',u',true)∧l'≤l∧u≤u'∧
 (∀h∈L,l'≤v h∧v h≤u')∧(l'=l∨∃h∈L,v h=l')∧(u'=u∨∃h∈L,v h=u')
 | [],l,u,_=>⟨l,u,rfl,Int.le_refl _,Int.le_refl _,(fun _ h=>by cases h),.inl rfl,.inl rfl⟩
 | x :: L,l,u,hlu=>by
   obtain⟨l',u',e,h1,h2,h3,h4,h5⟩:=DI v L (min l (v x)) (max u (v x)) (Int.le_trans (Int.min_le_left _ _) (Int.le_trans hlu (Int.le_max_left _ _)))
   refine⟨l',u',e,Int.le_trans h1 (Int.min_le_left _ _),Int.le_trans (Int.le_max_left _ _) h2,fun h hh=>?_,?_,?_⟩
   ·rcases List.mem_cons.1 hh with rfl|hh
    ·exact⟨Int.le_trans h1 (Int.min_le_right _ _),Int.le_trans (Int.le_max_right _ _) h2⟩
    ·exact h3 h hh
   ·rcases h4 with h4|⟨h,hh,e4⟩
    ·by_cases hc:l≤v x
     ·exact .inl (h4.trans (Int.min_eq_left hc))
     ·exact .inr ⟨x,List.mem_cons_self,(h4.trans (Int.min_eq_right (Int.le_of_lt (Int.not_le.1 hc)))).symm⟩
    ·exact .inr ⟨h,List.mem_cons_of_mem _ hh,e4⟩
   ·rcases h5 with h5|⟨h,hh,e5⟩
    ·by_cases hc:v x≤u
     ·exact .inl (h5.trans (Int.max_eq_left hc))
     ·exact .inr ⟨x,List.mem_cons_self,(h5.trans (Int.max_eq_right (Int.le_of_lt (Int.not_le.1 hc)))).symm⟩
    ·exact .inr ⟨h,List.mem_cons_of_mem _ hh,e5⟩
theorem DJ(v:Ht→Int){L:List Ht}(hL:L≠[]):∃l u,bM v L=(l,u,true)∧(∀h∈L,l≤v h∧v h≤u)∧(∃h∈L,v h=l)∧∃h∈L,v h=u:=by
 cases L with
 | nil=>exact absurd rfl hL
 | cons x L=>
   obtain⟨l,u,e,h1,h2,h3,h4,h5⟩:=DI v L (v x) (v x) (Int.le_refl _)
   refine⟨l,u,e,fun h hh=>?_,?_,?_⟩
   ·rcases List.mem_cons.1 hh with rfl|hh
    ·exact⟨h1,h2⟩
    ·exact h3 h hh
   ·rcases h4 with rfl|⟨h,hh,e4⟩
    ·exact⟨x,List.mem_cons_self,rfl⟩
    ·exact⟨h,List.mem_cons_of_mem _ hh,e4⟩
   ·rcases h5 with rfl|⟨h,hh,e5⟩
    ·exact⟨x,List.mem_cons_self,rfl⟩
    ·exact⟨h,List.mem_cons_of_mem _ hh,e5⟩
end
section
open Go.RowKit
open Go.Sort (grow)
attribute [local go_sem] Oper.semAt_some
theorem qY(b:Bk)(i:Nat)(w:World)(h:b.At w w.heap.size)(ok:b.Ok)(hcap:b.ng≤b.gc)(hi:i<b.ng):CallsIn FF 0 prog 50 #[b.val,int i64 i] w fun e w'=>∃A p,e=.returned (.tuple #[.agg (aA b A (ak b).length p),int i64 0])∧pJ b A w'∧Below w.heap.size w w':=by
 have HO:=hid fun w h=>mW b w h ok hcap
 have HH:=hid fun(w:World)=>show CallsIn FF 0 prog 89 #[b.val,int i64 i] w fun e w'=>e=.returned (.bool true)∧Below w.heap.size w w' from by
  have:=uG b i w (by unfold maxLen;have:=ok.bE.1.2;omega)
  have e:fJ (i:Int) 0 ((b.ng:Int) - 1)=true:=by unfold fJ;simp;omega
  rwa[e] at this
 have HA:=hid h
 obtain⟨n,hn⟩:∃n,n=(ak b).length:=zE
 obtain⟨CK,Yo⟩:∃CK:Option Addr→World→Prop,CK=fun A w=>pJ b A w:=⟨_,rfl⟩
 have th:Hid (∀w,b.At w w.heap.size→CallsIn FF 0 prog 37 #[b.val] w fun e w'=>∃A p,e=.returned (.tuple #[.agg (aA b A n p),int i64 0])∧CK A w'∧Below w.heap.size w w'∧∀ad,A=some ad→0<n→w.heap.size≤ad.block):=hid fun w h=>by rw[Yo,hn];exact HO.out w h
 have goal:∀ (e:Ending) (w':World),(∃A p,e=.returned (.tuple #[.agg (aA b A n p),int i64 0])∧CK A w'∧Below w.heap.size w w')→∃A p,e=.returned (.tuple #[.agg (aA b A (ak b).length p),int i64 0])∧pJ b A w'∧Below w.heap.size w w':=fun e w' h=>by rw[Yo,hn] at h;exact h
 refine CallsIn.mono (R:=fun e w'=>∃A p,e=.returned (.tuple #[.agg (aA b A n p),int i64 0])∧CK A w'∧Below w.heap.size w w') ?_ goal
 have Lq:Hid (∀A (w2 w4:World) (q:Addr) (u0 u1 u2 u3 u4 u5:Value),CK A w2→Below w.heap.size w (((((((w4.setCell q u0).setCell ⟨q.block,1,none⟩ u1).setCell ⟨q.block,2,none⟩ u2).setCell ⟨q.block,3,none⟩ u3).setCell ⟨q.block,4,none⟩ u4).setCell ⟨q.block,5,none⟩ u5))→Below w2.heap.size w2 w4→(∀ad,A=some ad→0<n→q.block<ad.block)→CK A (((((((w4.setCell q u0).setCell ⟨q.block,1,none⟩ u1).setCell ⟨q.block,2,none⟩ u2).setCell ⟨q.block,3,none⟩ u3).setCell ⟨q.block,4,none⟩ u4).setCell ⟨q.block,5,none⟩ u5))):=hid fun A w2 w4 q u0 u1 u2 u3 u4 u5 hc hb hb4 hf=>by
  rw[Yo] at hc⊢
  rw[hn] at hf
  refine⟨h.up hb,?_⟩
  have hr:=(hc.row.below hb4).more hb4.size
  have hne:∀ad,A=some ad→0<(ak b).length→ad.block≠q.block:=fun ad hA hl=>by have:=hf ad hA hl;omega
  have:=(((((hr.bC hne u0).bC (p:=⟨q.block,1,none⟩) hne u1).bC (p:=⟨q.block,2,none⟩) hne u2).bC (p:=⟨q.block,3,none⟩) hne u3).bC (p:=⟨q.block,4,none⟩) hne u4).bC (p:=⟨q.block,5,none⟩) hne u5
  exact this.more (by simp[World.setCell])
 clear hn Yo h hcap hi ok HO goal
 obtain⟨dY,mO,gA,ng,gc,g,mA,nm,mc,m,cA,nc,cc,c⟩:=b
 simp only[Bk.val,Bk.cells,aA] at th HH⊢
 have Y1:Hid (Whole ((w.alloc (.cells #[int i64 dY,int i64 mO,.slice gA ng gc,.slice mA nm mc,.slice cA nc cc] 26)).alloc (.cells #[int i64 0,int i64 0,.slice none 0 0,.slice none 0 0,.slice none 0 0,.slice none 0 0] 75)) (w.heap.size+1) 75 #[int i64 0,int i64 0,.slice none 0 0,.slice none 0 0,.slice none 0 0,.slice none 0 0]):=hid (by
  have:=Whole.new (w.alloc (.cells #[int i64 dY,int i64 mO,.slice gA ng gc,.slice mA nm mc,.slice cA nc cc] 26)) 75 #[int i64 0,int i64 0,.slice none 0 0,.slice none 0 0,.slice none 0 0,.slice none 0 0]
  rwa[World.size_alloc] at this)
 gi_enter func50,ntmps50
 gi_wp2_with (first
  | (gi_at_call 37;refine(th.out _ (HA.out.up (bw))).mono ?_;rintro e w2 ⟨A,p,rfl,hc2,hb2,hf2⟩;have Ly:=hid hf2;clear hf2;have HB2:=hid hb2;have Lt:=hid hc2;have hl2:w.heap.size+2≤w2.heap.size:=by have:=hb2.size;simpa using this)
  | (gi_at_call 89;refine(HH.out _).mono ?_;rintro e w4 ⟨rfl,hb4⟩;have Eh:=hid hb4;have X4:Whole w4 w2.heap.size 75 #[int i64 dY,int i64 mO,.slice gA ng gc,.slice mA nm mc,.slice cA nc cc,.slice A n p]:=(Whole.new w2 _ _).below hb4 zs;have x0:w4.cell? ⟨w2.heap.size,0,none⟩=some (int i64 dY):=X4.cell 0;have x1:w4.cell? ⟨w2.heap.size,1,none⟩=some (int i64 mO):=X4.cell 1;have x2:w4.cell? ⟨w2.heap.size,2,none⟩=some (.slice gA ng gc):=X4.cell 2;have x3:w4.cell? ⟨w2.heap.size,3,none⟩=some (.slice mA nm mc):=X4.cell 3;have x4:w4.cell? ⟨w2.heap.size,4,none⟩=some (.slice cA nc cc):=X4.cell 4;have x5:w4.cell? ⟨w2.heap.size,5,none⟩=some (.slice A n p):=X4.cell 5;have Y4:=((Y1.out.below hb2 zs).alloc (.cells #[int i64 dY,int i64 mO,.slice gA ng gc,.slice mA nm mc,.slice cA nc cc,.slice A n p] 75)).below hb4 zm;have yf:=Y4.thaw;have y0:w4.cell? ⟨w.heap.size+1,0,none⟩=some (int i64 0):=Y4.cell 0;have y1:w4.cell? ⟨w.heap.size+1,1,none⟩=some (int i64 0):=Y4.cell 1;have y2:w4.cell? ⟨w.heap.size+1,2,none⟩=some (.slice none 0 0):=Y4.cell 2;have y3:w4.cell? ⟨w.heap.size+1,3,none⟩=some (.slice none 0 0):=Y4.cell 3;have y4:w4.cell? ⟨w.heap.size+1,4,none⟩=some (.slice none 0 0):=Y4.cell 4;have y5:w4.cell? ⟨w.heap.size+1,5,none⟩=some (.slice none 0 0):=Y4.cell 5))
 have U:=(((((Y4.set 0 (int i64 dY)).set 1 (int i64 mO)).set 2 (.slice gA ng gc)).set 3 (.slice mA nm mc)).set 4 (.slice cA nc cc)).set 5 (.slice A n p)
 have u0:=U.cell 0
 have u1:=U.cell 1
 have u2:=U.cell 2
 have u3:=U.cell 3
 have u4:=U.cell 4
 have u5:=U.cell 5
 have UB:=hid ((((((((Below.next (Below.al (Below.next (show Below w.heap.size w ((w.alloc (.cells #[int i64 dY,int i64 mO,.slice gA ng gc,.slice mA nm mc,.slice cA nc cc] 26)).alloc (.cells #[int i64 0,int i64 0,.slice none 0 0,.slice none 0 0,.slice none 0 0,.slice none 0 0] 75)) from bw) HB2.out) (.cells #[int i64 dY,int i64 mO,.slice gA ng gc,.slice mA nm mc,.slice cA nc cc,.slice A n p] 75)) Eh.out).setCell (p:=⟨w.heap.size+1,0,none⟩) zs (int i64 dY)).setCell (p:=⟨w.heap.size+1,1,none⟩) zs (int i64 mO)).setCell (p:=⟨w.heap.size+1,2,none⟩) zs (.slice gA ng gc)).setCell (p:=⟨w.heap.size+1,3,none⟩) zs (.slice mA nm mc)).setCell (p:=⟨w.heap.size+1,4,none⟩) zs (.slice cA nc cc)).setCell (p:=⟨w.heap.size+1,5,none⟩) zs (.slice A n p)))
 refine bodyPost_ret (v:=.tuple #[.agg #[int i64 dY,int i64 mO,.slice gA ng gc,.slice mA nm mc,.slice cA nc cc,.slice A n p],int i64 0]) (by simp[results,results50,go_sem,u0,u1,u2,u3,u4,u5]) rfl ⟨A,p,rfl,?_,?_⟩
 ·exact Lq.out A w2 w4 ⟨w.heap.size+1,0,none⟩ _ _ _ _ _ _ Lt.out UB.out (Below.next (Below.al (Below.refl _ w2) _) Eh.out) fun ad hA hn=>by have:=Ly.out ad hA hn;simp at this⊢;omega
 ·exact UB.out
theorem L6(b:Bk)(i:Nat)(w:World)(h:b.At w w.heap.size)(ok:b.Ok)(hcap:b.ng≤b.gc)(hi:i<b.nm):CallsIn FF 0 prog 31 #[b.val,int i64 i] w fun e w'=>∃A p,e=.returned (.tuple #[.agg (aA b A (ak b).length p),int i64 0])∧pJ b A w'∧Below w.heap.size w w':=by
 have HO:=hid fun w h=>mW b w h ok hcap
 have HH:=hid fun(w:World)=>show CallsIn FF 0 prog 73 #[b.val,int i64 i] w fun e w'=>e=.returned (.bool true)∧Below w.heap.size w w' from by
  have:=CV b i w (by unfold maxLen;have:=ok.moves.1;omega)
  have e:fJ (i:Int) 0 ((b.nm:Int) - 1)=true:=by unfold fJ;simp;omega
  rwa[e] at this
 have HA:=hid h
 obtain⟨n,hn⟩:∃n,n=(ak b).length:=zE
 obtain⟨CK,Yo⟩:∃CK:Option Addr→World→Prop,CK=fun A w=>pJ b A w:=⟨_,rfl⟩
 have th:Hid (∀w,b.At w w.heap.size→CallsIn FF 0 prog 37 #[b.val] w fun e w'=>∃A p,e=.returned (.tuple #[.agg (aA b A n p),int i64 0])∧CK A w'∧Below w.heap.size w w'∧∀ad,A=some ad→0<n→w.heap.size≤ad.block):=hid fun w h=>by rw[Yo,hn];exact HO.out w h
 have goal:∀ (e:Ending) (w':World),(∃A p,e=.returned (.tuple #[.agg (aA b A n p),int i64 0])∧CK A w'∧Below w.heap.size w w')→∃A p,e=.returned (.tuple #[.agg (aA b A (ak b).length p),int i64 0])∧pJ b A w'∧Below w.heap.size w w':=fun e w' h=>by rw[Yo,hn] at h;exact h
 refine CallsIn.mono (R:=fun e w'=>∃A p,e=.returned (.tuple #[.agg (aA b A n p),int i64 0])∧CK A w'∧Below w.heap.size w w') ?_ goal
 have Lq:Hid (∀A (w2 w4:World) (q:Addr) (u0 u1 u2 u3 u4 u5:Value),CK A w2→Below w.heap.size w (((((((w4.setCell q u0).setCell ⟨q.block,1,none⟩ u1).setCell ⟨q.block,2,none⟩ u2).setCell ⟨q.block,3,none⟩ u3).setCell ⟨q.block,4,none⟩ u4).setCell ⟨q.block,5,none⟩ u5))→Below w2.heap.size w2 w4→(∀ad,A=some ad→0<n→q.block<ad.block)→CK A (((((((w4.setCell q u0).setCell ⟨q.block,1,none⟩ u1).setCell ⟨q.block,2,none⟩ u2).setCell ⟨q.block,3,none⟩ u3).setCell ⟨q.block,4,none⟩ u4).setCell ⟨q.block,5,none⟩ u5))):=hid fun A w2 w4 q u0 u1 u2 u3 u4 u5 hc hb hb4 hf=>by
  rw[Yo] at hc⊢
  rw[hn] at hf
  refine⟨h.up hb,?_⟩
  have hr:=(hc.row.below hb4).more hb4.size
  have hne:∀ad,A=some ad→0<(ak b).length→ad.block≠q.block:=fun ad hA hl=>by have:=hf ad hA hl;omega
  have:=(((((hr.bC hne u0).bC (p:=⟨q.block,1,none⟩) hne u1).bC (p:=⟨q.block,2,none⟩) hne u2).bC (p:=⟨q.block,3,none⟩) hne u3).bC (p:=⟨q.block,4,none⟩) hne u4).bC (p:=⟨q.block,5,none⟩) hne u5
  exact this.more (by simp[World.setCell])
 clear hn Yo h hcap hi ok HO goal
 obtain⟨dY,mO,gA,ng,gc,g,mA,nm,mc,m,cA,nc,cc,c⟩:=b
 simp only[Bk.val,Bk.cells,aA] at th HH⊢
 have Y1:Hid (Whole ((w.alloc (.cells #[int i64 dY,int i64 mO,.slice gA ng gc,.slice mA nm mc,.slice cA nc cc] 26)).alloc (.cells #[int i64 0,int i64 0,.slice none 0 0,.slice none 0 0,.slice none 0 0,.slice none 0 0] 75)) (w.heap.size+1) 75 #[int i64 0,int i64 0,.slice none 0 0,.slice none 0 0,.slice none 0 0,.slice none 0 0]):=hid (by
  have:=Whole.new (w.alloc (.cells #[int i64 dY,int i64 mO,.slice gA ng gc,.slice mA nm mc,.slice cA nc cc] 26)) 75 #[int i64 0,int i64 0,.slice none 0 0,.slice none 0 0,.slice none 0 0,.slice none 0 0]
  rwa[World.size_alloc] at this)
 gi_enter func31,ntmps31
 gi_wp2_with (first
  | (gi_at_call 37;refine(th.out _ (HA.out.up (bw))).mono ?_;rintro e w2 ⟨A,p,rfl,hc2,hb2,hf2⟩;have Ly:=hid hf2;clear hf2;have HB2:=hid hb2;have Lt:=hid hc2;have hl2:w.heap.size+2≤w2.heap.size:=by have:=hb2.size;simpa using this)
  | (gi_at_call 73;refine(HH.out _).mono ?_;rintro e w4 ⟨rfl,hb4⟩;have Eh:=hid hb4;have X4:Whole w4 w2.heap.size 75 #[int i64 dY,int i64 mO,.slice gA ng gc,.slice mA nm mc,.slice cA nc cc,.slice A n p]:=(Whole.new w2 _ _).below hb4 zs;have x0:w4.cell? ⟨w2.heap.size,0,none⟩=some (int i64 dY):=X4.cell 0;have x1:w4.cell? ⟨w2.heap.size,1,none⟩=some (int i64 mO):=X4.cell 1;have x2:w4.cell? ⟨w2.heap.size,2,none⟩=some (.slice gA ng gc):=X4.cell 2;have x3:w4.cell? ⟨w2.heap.size,3,none⟩=some (.slice mA nm mc):=X4.cell 3;have x4:w4.cell? ⟨w2.heap.size,4,none⟩=some (.slice cA nc cc):=X4.cell 4;have x5:w4.cell? ⟨w2.heap.size,5,none⟩=some (.slice A n p):=X4.cell 5;have Y4:=((Y1.out.below hb2 zs).alloc (.cells #[int i64 dY,int i64 mO,.slice gA ng gc,.slice mA nm mc,.slice cA nc cc,.slice A n p] 75)).below hb4 zm;have yf:=Y4.thaw;have y0:w4.cell? ⟨w.heap.size+1,0,none⟩=some (int i64 0):=Y4.cell 0;have y1:w4.cell? ⟨w.heap.size+1,1,none⟩=some (int i64 0):=Y4.cell 1;have y2:w4.cell? ⟨w.heap.size+1,2,none⟩=some (.slice none 0 0):=Y4.cell 2;have y3:w4.cell? ⟨w.heap.size+1,3,none⟩=some (.slice none 0 0):=Y4.cell 3;have y4:w4.cell? ⟨w.heap.size+1,4,none⟩=some (.slice none 0 0):=Y4.cell 4;have y5:w4.cell? ⟨w.heap.size+1,5,none⟩=some (.slice none 0 0):=Y4.cell 5))
 have U:=(((((Y4.set 0 (int i64 dY)).set 1 (int i64 mO)).set 2 (.slice gA ng gc)).set 3 (.slice mA nm mc)).set 4 (.slice cA nc cc)).set 5 (.slice A n p)
 have u0:=U.cell 0
 have u1:=U.cell 1
 have u2:=U.cell 2
 have u3:=U.cell 3
 have u4:=U.cell 4
 have u5:=U.cell 5
 have UB:=hid ((((((((Below.next (Below.al (Below.next (show Below w.heap.size w ((w.alloc (.cells #[int i64 dY,int i64 mO,.slice gA ng gc,.slice mA nm mc,.slice cA nc cc] 26)).alloc (.cells #[int i64 0,int i64 0,.slice none 0 0,.slice none 0 0,.slice none 0 0,.slice none 0 0] 75)) from bw) HB2.out) (.cells #[int i64 dY,int i64 mO,.slice gA ng gc,.slice mA nm mc,.slice cA nc cc,.slice A n p] 75)) Eh.out).setCell (p:=⟨w.heap.size+1,0,none⟩) zs (int i64 dY)).setCell (p:=⟨w.heap.size+1,1,none⟩) zs (int i64 mO)).setCell (p:=⟨w.heap.size+1,2,none⟩) zs (.slice gA ng gc)).setCell (p:=⟨w.heap.size+1,3,none⟩) zs (.slice mA nm mc)).setCell (p:=⟨w.heap.size+1,4,none⟩) zs (.slice cA nc cc)).setCell (p:=⟨w.heap.size+1,5,none⟩) zs (.slice A n p)))
 refine bodyPost_ret (v:=.tuple #[.agg #[int i64 dY,int i64 mO,.slice gA ng gc,.slice mA nm mc,.slice cA nc cc,.slice A n p],int i64 0]) (by simp[results,results31,go_sem,u0,u1,u2,u3,u4,u5]) rfl ⟨A,p,rfl,?_,?_⟩
 ·exact Lq.out A w2 w4 ⟨w.heap.size+1,0,none⟩ _ _ _ _ _ _ Lt.out UB.out (Below.next (Below.al (Below.refl _ w2) _) Eh.out) fun ad hA hn=>by have:=Ly.out ad hA hn;simp at this⊢;omega
 ·exact UB.out
theorem i9(b:Bk)(ok:b.Ok)(A:Option Addr)(n p:Nat)(g:Nat)(hg:g<3)(xs:List Ht)(hx:∀h∈xs,pK h)(Bc Bg:Nat)(w:World)(hA:b.At w w.heap.size)(hc:Whole w Bc 75 (aA b A n p))(hgg:Whole w Bg 3 #[int i64 g]):uf FF 93 #[.pointer (some ⟨Bc,0,none⟩),.pointer (some ⟨Bg,0,none⟩)] xs (fun h=>int i64 (stk b h b.dY b.nm g)) w:=by
 refine⟨zs,enters_of func93 zk rfl,fun W h hh hW=>?_⟩
 have HF:=hid fun W hA=>gK b h b.dY W hA ok.moves ok.bE.1.2 (hx h hh)
 have HA:=hid (hA.up hW)
 have C1:=hid (hc.below hW hc.lt)
 have G1:=hid (hgg.below hW hgg.lt)
 have h1:=C1.out.lt
 have h3:=G1.out.lt
 show CallsIn FF 0 prog 93 #[h.val,.pointer (some ⟨Bc,0,none⟩),.pointer (some ⟨Bg,0,none⟩)] W fun e W'=>e=.returned (int i64 (stk b h b.dY b.nm g))∧Below W.heap.size W W'
 obtain⟨r,hr⟩:∃r,r=stk b h b.dY b.nm:=zE
 rw[← hr] at HF⊢
 clear hh hr hc hgg hx hA ok hW
 obtain⟨w1,hw1⟩:∃w1,w1=W.alloc (.cells h.cells 91):=zE
 have B1:Hid (Below W.heap.size W w1):=hid (by rw[hw1];exact bw)
 have H1:Hid (Whole w1 W.heap.size 91 h.cells):=hid (by rw[hw1];exact Whole.new _ _ _)
 have C2:=hid (C1.out.below B1.out h1)
 have G2:=hid (G1.out.below B1.out h3)
 have A2:=hid (HA.out.up B1.out)
 obtain⟨f,m,li⟩:=h
 obtain⟨dY,mO,gA,ng,gc,gs,mA,nm,mc,ms,cA,nc,cc,cs⟩:=b
 simp only[Ht.val,Ht.cells,Bk.val,Bk.cells,mF] at HF H1⊢
 simp only[aA] at C2
 simp only[Ht.cells] at hw1
 have jd:=hid hw1
 clear hw1
 have q0:=cell_regrown (C2.out.cell 0)
 have q1:=cell_regrown (C2.out.cell 1)
 have q2:=cell_regrown (C2.out.cell 2)
 have q3:=cell_regrown (C2.out.cell 3)
 have q4:=cell_regrown (C2.out.cell 4)
 have qg:=cell_regrown (G2.out.cell 0)
 have x0:=cell_regrown (H1.out.cell 0)
 have x1:=cell_regrown (H1.out.cell 1)
 have x2:=cell_regrown (H1.out.cell 2)
 have x3:=cell_regrown (H1.out.cell 3)
 have x4:=cell_regrown (H1.out.cell 4)
 have x5:=cell_regrown (H1.out.cell 5)
 have x6:=cell_regrown (H1.out.cell 6)
 have x7:=cell_regrown (H1.out.cell 7)
 have x8:=cell_regrown (H1.out.cell 8)
 have x9:=cell_regrown (H1.out.cell 9)
 have cS:∀d os,CallsIn FF 0 prog 47 #[.agg #[int i64 dY,int i64 mO,.slice gA ng gc,.slice mA nm mc,.slice cA nc cc],.agg #[int i64 (f 0),int i64 (f 1),int i64 (f 2),int i64 (m 0),int i64 (m 1),int i64 (m 2),int i64 (m 3),int i64 (m 4),int i64 (m 5),int i64 li],int i64 dY] (grow (redrawn w1 d) os) fun e w''=>e=.returned (.agg #[int i64 (r 0),int i64 (r 1),int i64 (r 2)])∧∃p:Regrown,w''=grow (redrawn w1 p.d) p.os:=fun d os=>CallsIn.regrown_of (HF.out _ ((A2.out.below (below_regrown w1 d os)).more (below_regrown w1 d os).size))
 have ix:∀ (u v z:Int) (w:World),(Instr.index 88 (.agg #[int i64 u,int i64 v,int i64 z]) (int i64 0)).run prog w=.ok (int i64 u) w∧(Instr.index 88 (.agg #[int i64 u,int i64 v,int i64 z]) (int i64 1)).run prog w=.ok (int i64 v) w∧(Instr.index 88 (.agg #[int i64 u,int i64 v,int i64 z]) (int i64 2)).run prog w=.ok (int i64 z) w:=fun _ _ _ _=>⟨zk,zk,zk⟩
 have T3:=fun u v z w=>(ix u v z w).1
 have T5:=fun u v z w=>(ix u v z w).2.1
 have T6:=fun u v z w=>(ix u v z w).2.2
 clear ix
 gi_enter func93,ntmps93
 gi_wp2
 rw[← jd.out]
 refine wpIn_region_quiet_below rfl zk zk ?_
 rcases(show g=0∨g=1∨g=2 by omega) with rfl|rfl|rfl
 all_goals
  repeat (quiet_step_in (exact cS _ _))
  refine wpQuietIn_nil ?_
  rintro w' ⟨⟨dq,osq⟩,rfl⟩
  have bn:=below_regrown w1 dq osq
  gi_wp2
  go_ret
  exact⟨rfl,Below.next B1.out bn⟩
theorem UW(b:Bk)(ok:b.Ok)(A:Option Addr)(n p:Nat)(g:Nat)(hg:g<3)(xs:List Ht)(hx:∀h∈xs,pK h)(Bc Bg Bd:Nat)(w:World)(hA:b.At w w.heap.size)(hc:Whole w Bc 75 (aA b A n p))(hd:Whole w Bd 3 #[int i64 2])(hgg:Whole w Bg 3 #[int i64 g]):uf FF 66 #[.pointer (some ⟨Bc,0,none⟩),.pointer (some ⟨Bg,0,none⟩),.pointer (some ⟨Bd,0,none⟩)] xs (fun h=>int i64 ((IntKind.i64.wrap ((stk b h b.dY b.nm g).tdiv 2)))) w:=by
 refine⟨zs,enters_of func66 zk rfl,fun W h hh hW=>?_⟩
 have HF:=hid fun W hA=>gK b h b.dY W hA ok.moves ok.bE.1.2 (hx h hh)
 have HA:=hid (hA.up hW)
 have C1:=hid (hc.below hW hc.lt)
 have D1:=hid (hd.below hW hd.lt)
 have G1:=hid (hgg.below hW hgg.lt)
 have h1:=C1.out.lt
 have h2:=D1.out.lt
 have h3:=G1.out.lt
 show CallsIn FF 0 prog 66 #[h.val,.pointer (some ⟨Bc,0,none⟩),.pointer (some ⟨Bg,0,none⟩),.pointer (some ⟨Bd,0,none⟩)] W fun e W'=>e=.returned (int i64 ((IntKind.i64.wrap ((stk b h b.dY b.nm g).tdiv 2))))∧Below W.heap.size W W'
 obtain⟨r,hr⟩:∃r,r=stk b h b.dY b.nm:=zE
 rw[← hr] at HF⊢
 clear hh hr hc hd hgg hx hA ok hW
 obtain⟨w1,hw1⟩:∃w1,w1=W.alloc (.cells h.cells 91):=zE
 have B1:Hid (Below W.heap.size W w1):=hid (by rw[hw1];exact bw)
 have H1:Hid (Whole w1 W.heap.size 91 h.cells):=hid (by rw[hw1];exact Whole.new _ _ _)
 have C2:=hid (C1.out.below B1.out h1)
 have D2:=hid (D1.out.below B1.out h2)
 have G2:=hid (G1.out.below B1.out h3)
 have A2:=hid (HA.out.up B1.out)
 obtain⟨f,m,li⟩:=h
 obtain⟨dY,mO,gA,ng,gc,gs,mA,nm,mc,ms,cA,nc,cc,cs⟩:=b
 simp only[Ht.val,Ht.cells,Bk.val,Bk.cells,mF] at HF H1⊢
 simp only[aA] at C2
 simp only[Ht.cells] at hw1
 have jd:=hid hw1
 clear hw1
 have q0:=cell_regrown (C2.out.cell 0)
 have q1:=cell_regrown (C2.out.cell 1)
 have q2:=cell_regrown (C2.out.cell 2)
 have q3:=cell_regrown (C2.out.cell 3)
 have q4:=cell_regrown (C2.out.cell 4)
 have qd:=cell_regrown (D2.out.cell 0)
 have qg:=cell_regrown (G2.out.cell 0)
 have x0:=cell_regrown (H1.out.cell 0)
 have x1:=cell_regrown (H1.out.cell 1)
 have x2:=cell_regrown (H1.out.cell 2)
 have x3:=cell_regrown (H1.out.cell 3)
 have x4:=cell_regrown (H1.out.cell 4)
 have x5:=cell_regrown (H1.out.cell 5)
 have x6:=cell_regrown (H1.out.cell 6)
 have x7:=cell_regrown (H1.out.cell 7)
 have x8:=cell_regrown (H1.out.cell 8)
 have x9:=cell_regrown (H1.out.cell 9)
 have cS:∀d os,CallsIn FF 0 prog 47 #[.agg #[int i64 dY,int i64 mO,.slice gA ng gc,.slice mA nm mc,.slice cA nc cc],.agg #[int i64 (f 0),int i64 (f 1),int i64 (f 2),int i64 (m 0),int i64 (m 1),int i64 (m 2),int i64 (m 3),int i64 (m 4),int i64 (m 5),int i64 li],int i64 dY] (grow (redrawn w1 d) os) fun e w''=>e=.returned (.agg #[int i64 (r 0),int i64 (r 1),int i64 (r 2)])∧∃p:Regrown,w''=grow (redrawn w1 p.d) p.os:=fun d os=>CallsIn.regrown_of (HF.out _ ((A2.out.below (below_regrown w1 d os)).more (below_regrown w1 d os).size))
 have ix:∀ (u v z:Int) (w:World),(Instr.index 88 (.agg #[int i64 u,int i64 v,int i64 z]) (int i64 0)).run prog w=.ok (int i64 u) w∧(Instr.index 88 (.agg #[int i64 u,int i64 v,int i64 z]) (int i64 1)).run prog w=.ok (int i64 v) w∧(Instr.index 88 (.agg #[int i64 u,int i64 v,int i64 z]) (int i64 2)).run prog w=.ok (int i64 z) w:=fun _ _ _ _=>⟨zk,zk,zk⟩
 have T3:=fun u v z w=>(ix u v z w).1
 have T5:=fun u v z w=>(ix u v z w).2.1
 have T6:=fun u v z w=>(ix u v z w).2.2
 clear ix
 gi_enter func66,ntmps66
 gi_wp2
 rw[← jd.out]
 refine wpIn_region_quiet_below rfl zk zk ?_
 rcases(show g=0∨g=1∨g=2 by omega) with rfl|rfl|rfl
 all_goals
  repeat (quiet_step_in (exact cS _ _))
  refine wpQuietIn_nil ?_
  rintro w' ⟨⟨dq,osq⟩,rfl⟩
  have bn:=below_regrown w1 dq osq
  gi_wp2
  go_ret
  exact⟨rfl,Below.next B1.out bn⟩
theorem aK{w:World}{t:TypeId}{cs:Array Value}{n:Nat}(h:w.heap.size=n):Whole (w.alloc (.cells cs t)) n t cs:=by subst h;exact Whole.new _ _ _
theorem vP(b:Bk)(k:Nat)(w:World)(h:b.At w w.heap.size)(ok:b.Ok)(hcap:b.ng≤b.gc)(hl:∀s∈ak b,eu s)(hlen:(aB b (ak b)).length<2 ^ 40)(hk:k<b.nm)(hkd:(b.m k).kind=0):CallsIn FF 0 prog 21 #[b.val,int i64 k] w fun e w'=>e=.returned (.tuple #[int i64 (Oz (aB b (ak b)).length ((aB b (ak b)).filter fun h=>h.JJ k).length),int i64 (TD (aB b (ak b)).length)])∧Below w.heap.size w w':=by
 have hx:=jE b ok (ak b) hl
 have HO:=hid fun w h=>mW b w h ok hcap
 have HH:=hid fun A p w hc=>rQ b ok hl A p w hc
 have HN:=hid fun w h=>by have:=uH b k w h hk;rw[decide_eq_true hkd] at this;exact this
 have Uu:k<6:=by have:=ok.moves.1;omega
 have HK:=hid fun lb B w h hB=>oa 79 lb 58 #[.pointer (some ⟨B,0,none⟩)] (fun h=>h.JJ k) (aB b (ak b)) w hlen h (TU k Uu _ hx B w hB)
 have HA:=hid h
 have HC:=hid fun A w (h:pJ b A w)=>h.at_
 obtain⟨n,hn⟩:∃n,n=(ak b).length:=zE
 obtain⟨xs,hxs⟩:∃xs,xs=aB b (ak b):=zE
 rw[← hn] at HO HH
 rw[← hxs] at HH HK⊢
 obtain⟨R1,rf⟩:∃R,R=Oz xs.length (xs.filter fun h=>h.JJ k).length:=zE
 rw[← rf] at HK⊢
 clear hn hxs h hcap hl hlen ok rf hkd hx
 obtain⟨dY,mO,gA,ng,gc,g,mA,nm,mc,m,cA,nc,cc,c⟩:=b
 simp only[Bk.val,Bk.cells,aA] at HO HH HN⊢
 have K1:Hid (Whole ((w.alloc (.cells #[int i64 dY,int i64 mO,.slice gA ng gc,.slice mA nm mc,.slice cA nc cc] 26)).alloc (.cells #[int i64 k] 3)) (w.heap.size+1) 3 #[int i64 k]):=hid (aK zs)
 gi_enter func21,ntmps21
 gi_wp2_with (first
  | (gi_at_call 37;refine(HO.out _ (HA.out.up (bw))).mono ?_;rintro e w2 ⟨A,p,rfl,hc2,hb2,-⟩;have K2:=(K1.out.below hb2 zs).alloc (.cells #[int i64 dY,int i64 mO,.slice gA ng gc,.slice mA nm mc,.slice cA nc cc,.slice A n p] 75);have k2:(w2.alloc (.cells #[int i64 dY,int i64 mO,.slice gA ng gc,.slice mA nm mc,.slice cA nc cc,.slice A n p] 75)).cell? ⟨w.heap.size+1,0,none⟩=some (int i64 k):=K2.cell 0)
  | (gi_at_call 56;refine(HN.out _ ((HC.out A _ (hc2.below (bw))))).mono ?_;rintro e w3 ⟨rfl,hb3⟩;have X3:Whole w3 w2.heap.size 75 #[int i64 dY,int i64 mO,.slice gA ng gc,.slice mA nm mc,.slice cA nc cc,.slice A n p]:=(Whole.new w2 _ _).below hb3 zs;have x0:w3.cell? ⟨w2.heap.size,0,none⟩=some (int i64 dY):=X3.cell 0;have x1:w3.cell? ⟨w2.heap.size,1,none⟩=some (int i64 mO):=X3.cell 1;have x2:w3.cell? ⟨w2.heap.size,2,none⟩=some (.slice gA ng gc):=X3.cell 2;have x3:w3.cell? ⟨w2.heap.size,3,none⟩=some (.slice mA nm mc):=X3.cell 3;have x4:w3.cell? ⟨w2.heap.size,4,none⟩=some (.slice cA nc cc):=X3.cell 4;have x5:w3.cell? ⟨w2.heap.size,5,none⟩=some (.slice A n p):=X3.cell 5;have K3:=K2.below hb3 K2.lt)
  | (gi_at_call 39;refine(HH.out A p _ ((hc2.below (bw)).below hb3)).mono ?_;rintro e w4 ⟨lb,rfl,hs4,hb4⟩)
  | (gi_at_call 57;refine(HK.out lb _ _ hs4 (K3.below hb4 K3.lt)).mono ?_;rintro e w5 ⟨rfl,hb5⟩))
 go_ret2
 exact⟨rfl,Below.next (Below.next (Below.next (Below.al (Below.next (bw) hb2) _) hb3) hb4) hb5⟩
theorem oz(b:Bk)(k:Nat)(w:World)(h:b.At w w.heap.size)(ok:b.Ok)(hcap:b.ng≤b.gc)(hl:∀s∈ak b,eu s)(hk:(k:Int)≤b.dY):CallsIn FF 0 prog 23 #[b.val,int i64 k] w fun e w'=>e=.returned (.tuple #[.agg #[int i64 (bM (fun h=>eG b (stk b h k b.nm) b.ng) (aB b (ak b))).1,int i64 (bM (fun h=>eG b (stk b h k b.nm) b.ng) (aB b (ak b))).2.1],int i64 (if (bM (fun h=>eG b (stk b h k b.nm) b.ng) (aB b (ak b))).2.2 then 0 else 9)])∧Below w.heap.size w w':=by
 have hx:=jE b ok (ak b) hl
 have HO:=hid fun w h=>mW b w h ok hcap
 have HH:=hid fun A p w hc=>rQ b ok hl A p w hc
 have HN:=hid fun(w:World)=>show CallsIn FF 0 prog 51 #[b.val,int i64 k] w fun e w'=>e=.returned (.bool true)∧Below w.heap.size w w' from by
  have:=xY b k w
  have e:fJ (k:Int) 0 b.dY=true:=by unfold fJ;simp;omega
  rwa[e] at this
 have HK:=hid fun lb A n p Bc B w h hA hc hB=>FB 79 lb 63 #[.pointer (some ⟨Bc,0,none⟩),.pointer (some ⟨B,0,none⟩)] (fun h=>eG b (stk b h k b.nm) b.ng) (aB b (ak b)) w h (WZ b ok A n p k _ hx Bc B w hA hc hB)
 have HA:=hid h
 have HC:=hid fun A w (h:pJ b A w)=>h.at_
 obtain⟨n,hn⟩:∃n,n=(ak b).length:=zE
 obtain⟨xs,hxs⟩:∃xs,xs=aB b (ak b):=zE
 rw[← hn] at HO HH
 rw[← hxs] at HH HK⊢
 obtain⟨⟨R1,R2,R3⟩,hR⟩:∃R,R=bM (fun h=>eG b (stk b h k b.nm) b.ng) xs:=zE
 rw[← hR] at HK⊢
 obtain⟨R4,Ud⟩:∃R4:Int,R4=if (R1,R2,R3).2.2=true then 0 else 9:=zE
 rw[← Ud] at HK⊢
 clear hn hxs h hcap hl ok hR Ud hk hx
 obtain⟨dY,mO,gA,ng,gc,g,mA,nm,mc,m,cA,nc,cc,c⟩:=b
 simp only[Bk.val,Bk.cells,aA] at HO HH HN HK⊢
 have K1:Hid (Whole (((w.alloc (.cells #[int i64 dY,int i64 mO,.slice gA ng gc,.slice mA nm mc,.slice cA nc cc] 26)).alloc (.cells #[int i64 k] 3)).alloc (.cells #[int i64 0,int i64 0] 28)) (w.heap.size+1) 3 #[int i64 k]):=hid ((aK zs).alloc _)
 have Z1:Hid (Whole (((w.alloc (.cells #[int i64 dY,int i64 mO,.slice gA ng gc,.slice mA nm mc,.slice cA nc cc] 26)).alloc (.cells #[int i64 k] 3)).alloc (.cells #[int i64 0,int i64 0] 28)) (w.heap.size+1+1) 28 #[int i64 0,int i64 0]):=hid (aK zs)
 gi_enter func23,ntmps23
 gi_wp2_with (first
  | (gi_at_call 37;refine(HO.out _ (HA.out.up (bw))).mono ?_;rintro e w2 ⟨A,p,rfl,hc2,hb2,-⟩;have K2:=(K1.out.below hb2 zs).alloc (.cells #[int i64 dY,int i64 mO,.slice gA ng gc,.slice mA nm mc,.slice cA nc cc,.slice A n p] 75);have k2:(w2.alloc (.cells #[int i64 dY,int i64 mO,.slice gA ng gc,.slice mA nm mc,.slice cA nc cc,.slice A n p] 75)).cell? ⟨w.heap.size+1,0,none⟩=some (int i64 k):=K2.cell 0;have Z2:=(Z1.out.below hb2 zs).alloc (.cells #[int i64 dY,int i64 mO,.slice gA ng gc,.slice mA nm mc,.slice cA nc cc,.slice A n p] 75))
  | (gi_at_call 51;refine(HN.out _).mono ?_;rintro e w3 ⟨rfl,hb3⟩;have X3:Whole w3 w2.heap.size 75 #[int i64 dY,int i64 mO,.slice gA ng gc,.slice mA nm mc,.slice cA nc cc,.slice A n p]:=(Whole.new w2 _ _).below hb3 zs;have x0:w3.cell? ⟨w2.heap.size,0,none⟩=some (int i64 dY):=X3.cell 0;have x1:w3.cell? ⟨w2.heap.size,1,none⟩=some (int i64 mO):=X3.cell 1;have x2:w3.cell? ⟨w2.heap.size,2,none⟩=some (.slice gA ng gc):=X3.cell 2;have x3:w3.cell? ⟨w2.heap.size,3,none⟩=some (.slice mA nm mc):=X3.cell 3;have x4:w3.cell? ⟨w2.heap.size,4,none⟩=some (.slice cA nc cc):=X3.cell 4;have x5:w3.cell? ⟨w2.heap.size,5,none⟩=some (.slice A n p):=X3.cell 5;have K3:=K2.below hb3 K2.lt)
  | (gi_at_call 39;refine(HH.out A p _ ((hc2.below (bw)).below hb3)).mono ?_;rintro e w4 ⟨lb,rfl,hs4,hb4⟩)
  | (gi_at_call 60;refine(HK.out lb A n p _ _ _ hs4 (((HC.out A _ (hc2.below (bw))).up hb3).up hb4) (X3.below hb4 X3.lt) (K3.below hb4 K3.lt)).mono ?_;rintro e w5 ⟨rfl,hb5⟩;have Ij:=hb4.trans (hb5.mono hb4.size);have Z5:=(Z2.below hb3 Z2.lt).below Ij (Z2.below hb3 Z2.lt).lt;have z0:w5.cell? ⟨w.heap.size+1+1,0,none⟩=some (int i64 0):=Z5.cell 0;have z1:w5.cell? ⟨w.heap.size+1+1,1,none⟩=some (int i64 0):=Z5.cell 1;have zf:=Z5.thaw))
 have U:=(Z5.set 0 (int i64 R1)).set 1 (int i64 R2)
 have u0:=U.cell 0
 have u1:=U.cell 1
 refine bodyPost_ret (v:=.tuple #[.agg #[int i64 R1,int i64 R2],int i64 R4]) (by simp[results,results23,go_sem,u0,u1]) rfl ⟨rfl,?_⟩
 exact((Below.next (Below.next (Below.al (Below.next (bw) hb2) _) hb3) Ij).setCell zm _).setCell zm _
theorem Jr(b:Bk)(gd:Nat)(w:World)(h:b.At w w.heap.size)(ok:b.Ok)(hcap:b.ng≤b.gc)(hl:∀s∈ak b,eu s)(hgd:gd<b.ng):CallsIn FF 0 prog 24 #[b.val,int i64 gd,int i64 2] w fun e w'=>e=.returned (.tuple #[.agg #[int i64 (bM (fun h=>IntKind.i64.wrap ((stk b h b.dY b.nm gd).tdiv 2)) (aB b (ak b))).1,int i64 (bM (fun h=>IntKind.i64.wrap ((stk b h b.dY b.nm gd).tdiv 2)) (aB b (ak b))).2.1],int i64 (if (bM (fun h=>IntKind.i64.wrap ((stk b h b.dY b.nm gd).tdiv 2)) (aB b (ak b))).2.2 then 0 else 9)])∧Below w.heap.size w w':=by
 have hx:=jE b ok (ak b) hl
 have HO:=hid fun w h=>qY b gd w h ok hcap hgd
 have HH:=hid fun A p w hc=>rQ b ok hl A p w hc
 have hg3:gd<3:=by have:=ok.bE.1.2;omega
 have HN:=hid fun(w:World)=>show CallsIn FF 0 prog 65 #[int i64 2,int i64 1,int i64 99] w fun e w'=>e=.returned (.bool true)∧w=w' from by
  have:=dw 2 1 99 w
  have e:fJ 2 1 99=true:=zD
  rwa[e] at this
 have HK:=hid fun lb A n p Bc Bg B w h hA hc hg hB=>FB 79 lb 66 #[.pointer (some ⟨Bc,0,none⟩),.pointer (some ⟨Bg,0,none⟩),.pointer (some ⟨B,0,none⟩)] (fun h=>IntKind.i64.wrap ((stk b h b.dY b.nm gd).tdiv 2)) (aB b (ak b)) w h (UW b ok A n p gd hg3 _ hx Bc Bg B w hA hc hB hg)
 have HA:=hid h
 have HC:=hid fun A w (h:pJ b A w)=>h.at_
 obtain⟨n,hn⟩:∃n,n=(ak b).length:=zE
 obtain⟨xs,hxs⟩:∃xs,xs=aB b (ak b):=zE
 rw[← hn] at HO HH
 rw[← hxs] at HH HK⊢
 obtain⟨⟨R1,R2,R3⟩,hR⟩:∃R,R=bM (fun h=>IntKind.i64.wrap ((stk b h b.dY b.nm gd).tdiv 2)) xs:=zE
 rw[← hR] at HK⊢
 obtain⟨R4,Ud⟩:∃R4:Int,R4=if (R1,R2,R3).2.2=true then 0 else 9:=zE
 rw[← Ud] at HK⊢
 clear hn hxs h hcap hl ok hR Ud hgd hx
 obtain⟨dY,mO,gA,ng,gc,g,mA,nm,mc,m,cA,nc,cc,c⟩:=b
 simp only[Bk.val,Bk.cells,aA] at HO HH HK⊢
 obtain⟨w1,hw1⟩:∃w1,w1=(((w.alloc (.cells #[int i64 dY,int i64 mO,.slice gA ng gc,.slice mA nm mc,.slice cA nc cc] 26)).alloc (.cells #[int i64 gd] 3)).alloc (.cells #[int i64 2] 3)).alloc (.cells #[int i64 0,int i64 0] 28):=zE
 have B1:Hid (Below w.heap.size w w1):=hid (by rw[hw1];exact bw)
 have G1:Hid (Whole w1 (w.heap.size+1) 3 #[int i64 gd]):=hid (by rw[hw1];exact((aK zs).alloc _).alloc _)
 have K1:Hid (Whole w1 (w.heap.size+1+1) 3 #[int i64 2]):=hid (by rw[hw1];exact(aK zs).alloc _)
 have Z1:Hid (Whole w1 (w.heap.size+1+1+1) 28 #[int i64 0,int i64 0]):=hid (by rw[hw1];exact aK zs)
 have jd:=hid hw1
 clear hw1
 gi_enter func24,ntmps24
 gi_wp2_with (first
  | (gi_at_call 50;rw[← jd.out];refine(HO.out _ (HA.out.up B1.out)).mono ?_;rintro e w2 ⟨A,p,rfl,hc2,hb2⟩;have K2:=(K1.out.below hb2 K1.out.lt).alloc (.cells #[int i64 dY,int i64 mO,.slice gA ng gc,.slice mA nm mc,.slice cA nc cc,.slice A n p] 75);have k2:(w2.alloc (.cells #[int i64 dY,int i64 mO,.slice gA ng gc,.slice mA nm mc,.slice cA nc cc,.slice A n p] 75)).cell? ⟨w.heap.size+1+1,0,none⟩=some (int i64 2):=K2.cell 0;have Z2:=(Z1.out.below hb2 Z1.out.lt).alloc (.cells #[int i64 dY,int i64 mO,.slice gA ng gc,.slice mA nm mc,.slice cA nc cc,.slice A n p] 75);have G2:=(G1.out.below hb2 G1.out.lt).alloc (.cells #[int i64 dY,int i64 mO,.slice gA ng gc,.slice mA nm mc,.slice cA nc cc,.slice A n p] 75))
  | (gi_at_call 65;refine(HN.out _).mono ?_;rintro e w3 ⟨rfl,rfl⟩)
  | (gi_at_call 39;refine(HH.out A p _ (hc2.below (bw))).mono ?_;rintro e w4 ⟨lb,rfl,hs4,hb4⟩)
  | (gi_at_call 60;refine(HK.out lb A n p _ _ _ _ hs4 ((HC.out A _ (hc2.below (bw))).up hb4) ((Whole.new w2 _ _).below hb4 zs) (G2.below hb4 G2.lt) (K2.below hb4 K2.lt)).mono ?_;rintro e w5 ⟨rfl,hb5⟩;have Ij:=hb4.trans (hb5.mono hb4.size);have Z5:=Z2.below Ij Z2.lt;have z0:w5.cell? ⟨w.heap.size+1+1+1,0,none⟩=some (int i64 0):=Z5.cell 0;have z1:w5.cell? ⟨w.heap.size+1+1+1,1,none⟩=some (int i64 0):=Z5.cell 1;have zf:=Z5.thaw))
 have U:=(Z5.set 0 (int i64 R1)).set 1 (int i64 R2)
 have u0:=U.cell 0
 have u1:=U.cell 1
 refine bodyPost_ret (v:=.tuple #[.agg #[int i64 R1,int i64 R2],int i64 R4]) (by simp[results,results24,go_sem,u0,u1]) rfl ⟨rfl,?_⟩
 exact((Below.next (Below.al (Below.next B1.out hb2) _) Ij).setCell zm _).setCell zm _
theorem Mx(b:Bk)(gd:Nat)(a z:Int)(w:World)(h:b.At w w.heap.size)(ok:b.Ok)(hcap:b.ng≤b.gc)(hl:∀s∈ak b,eu s)(hgd:gd<b.ng)(hf:xW a z 1 b.dY=true):CallsIn FF 0 prog 22 #[b.val,int i64 gd,int i64 a,int i64 z] w fun e w'=>e=.returned (.tuple #[.agg #[int i64 (bM (fun h=>kQ b h gd a z b.nm) (aB b (ak b))).1,int i64 (bM (fun h=>kQ b h gd a z b.nm) (aB b (ak b))).2.1],int i64 (if (bM (fun h=>kQ b h gd a z b.nm) (aB b (ak b))).2.2 then 0 else 9)])∧Below w.heap.size w w':=by
 have hx:=jE b ok (ak b) hl
 have HO:=hid fun w h=>qY b gd w h ok hcap hgd
 have HH:=hid fun A p w hc=>rQ b ok hl A p w hc
 have HN:=hid fun(w:World)=>show CallsIn FF 0 prog 32 #[.agg #[int i64 a,int i64 z],int i64 1,int i64 b.dY] w fun e w'=>e=.returned (.bool true)∧Below w.heap.size w w' from by
  have:=yu a z 1 b.dY w
  rwa[hf] at this
 have HK:=hid fun lb A n p Bc Bg B w h hA hc hg hB=>FB 79 lb 61 #[.pointer (some ⟨Bc,0,none⟩),.pointer (some ⟨Bg,0,none⟩),.pointer (some ⟨B,0,none⟩)] (fun h=>kQ b h gd a z b.nm) (aB b (ak b)) w h (YM b ok A n p gd a z _ hx Bc Bg B w hA hc hg hB)
 have HA:=hid h
 have HC:=hid fun A w (h:pJ b A w)=>h.at_
 obtain⟨n,hn⟩:∃n,n=(ak b).length:=zE
 obtain⟨xs,hxs⟩:∃xs,xs=aB b (ak b):=zE
 rw[← hn] at HO HH
 rw[← hxs] at HH HK⊢
 obtain⟨⟨R1,R2,R3⟩,hR⟩:∃R,R=bM (fun h=>kQ b h gd a z b.nm) xs:=zE
 rw[← hR] at HK⊢
 obtain⟨R4,Ud⟩:∃R4:Int,R4=if (R1,R2,R3).2.2=true then 0 else 9:=zE
 rw[← Ud] at HK⊢
 clear hn hxs h hcap hl ok hR Ud hgd hx hf
 obtain⟨dY,mO,gA,ng,gc,g,mA,nm,mc,m,cA,nc,cc,c⟩:=b
 simp only[Bk.val,Bk.cells,aA] at HO HH HK HN⊢
 obtain⟨w1,hw1⟩:∃w1,w1=((w.alloc (.cells #[int i64 dY,int i64 mO,.slice gA ng gc,.slice mA nm mc,.slice cA nc cc] 26)).alloc (.cells #[int i64 gd] 3)).alloc (.cells #[int i64 0,int i64 0] 28):=zE
 have B1:Hid (Below w.heap.size w w1):=hid (by rw[hw1];exact bw)
 have G1:Hid (Whole w1 (w.heap.size+1) 3 #[int i64 gd]):=hid (by rw[hw1];exact(aK zs).alloc _)
 have Z1:Hid (Whole w1 (w.heap.size+1+1) 28 #[int i64 0,int i64 0]):=hid (by rw[hw1];exact aK zs)
 have hs1:w1.heap.size=w.heap.size+3:=by rw[hw1];simp
 have jd:=hid hw1
 clear hw1
 gi_enter func22,ntmps22
 gi_wp2_with (first
  | (gi_at_call 50;rw[← jd.out];refine(HO.out _ (HA.out.up B1.out)).mono ?_;rintro e w2 ⟨A,p,rfl,hc2,hb2⟩;have X2:=(Whole.new w2 75 #[int i64 dY,int i64 mO,.slice gA ng gc,.slice mA nm mc,.slice cA nc cc,.slice A n p]).alloc (.cells #[int i64 a,int i64 z] 28);have Z2:=((Z1.out.below hb2 Z1.out.lt).alloc (.cells #[int i64 dY,int i64 mO,.slice gA ng gc,.slice mA nm mc,.slice cA nc cc,.slice A n p] 75)).alloc (.cells #[int i64 a,int i64 z] 28);have G2:=((G1.out.below hb2 G1.out.lt).alloc (.cells #[int i64 dY,int i64 mO,.slice gA ng gc,.slice mA nm mc,.slice cA nc cc,.slice A n p] 75)).alloc (.cells #[int i64 a,int i64 z] 28);have S2:Whole ((w2.alloc (.cells #[int i64 dY,int i64 mO,.slice gA ng gc,.slice mA nm mc,.slice cA nc cc,.slice A n p] 75)).alloc (.cells #[int i64 a,int i64 z] 28)) (w2.heap.size+1) 28 #[int i64 a,int i64 z]:=aK zs;have hs2:=hb2.size)
  | (gi_at_call 32;refine(HN.out _).mono ?_;rintro e w3 ⟨rfl,hb3⟩;have X3:=X2.below hb3 X2.lt;have x0:w3.cell? ⟨w2.heap.size,0,none⟩=some (int i64 dY):=X3.cell 0;have x1:w3.cell? ⟨w2.heap.size,1,none⟩=some (int i64 mO):=X3.cell 1;have x2:w3.cell? ⟨w2.heap.size,2,none⟩=some (.slice gA ng gc):=X3.cell 2;have x3:w3.cell? ⟨w2.heap.size,3,none⟩=some (.slice mA nm mc):=X3.cell 3;have x4:w3.cell? ⟨w2.heap.size,4,none⟩=some (.slice cA nc cc):=X3.cell 4;have x5:w3.cell? ⟨w2.heap.size,5,none⟩=some (.slice A n p):=X3.cell 5)
  | (gi_at_call 39;refine(HH.out A p _ ((hc2.below (bw)).below hb3)).mono ?_;rintro e w4 ⟨lb,rfl,hs4,hb4⟩)
  | (gi_at_call 60;have Uh:=hb3.trans (hb4.mono hb3.size);refine(HK.out lb A n p _ _ _ _ hs4 (((HC.out A _ (hc2.below (bw))).up hb3).up hb4) (X2.below Uh X2.lt) (G2.below Uh G2.lt) (S2.below Uh S2.lt)).mono ?_;rintro e w5 ⟨rfl,hb5⟩;have Ij:=Uh.trans (hb5.mono Uh.size);have Z5:=Z2.below Ij Z2.lt;have z0:w5.cell? ⟨w.heap.size+1+1,0,none⟩=some (int i64 0):=Z5.cell 0;have z1:w5.cell? ⟨w.heap.size+1+1,1,none⟩=some (int i64 0):=Z5.cell 1;have zf:=Z5.thaw))
 have U:=(Z5.set 0 (int i64 R1)).set 1 (int i64 R2)
 have u0:=U.cell 0
 have u1:=U.cell 1
 refine bodyPost_ret (v:=.tuple #[.agg #[int i64 R1,int i64 R2],int i64 R4]) (by simp[results,results22,go_sem,u0,u1]) rfl ⟨rfl,?_⟩
 exact((Below.next (Below.al (Below.al (Below.next B1.out hb2) _) _) Ij).setCell zm _).setCell zm _
theorem QA(q:Good)(m:Int)(w:World)(hp:1≤q.pack):CallsIn FF 0 prog 94 #[CU q,int i64 m] w fun e w'=>e=.returned (int i64 (max 0 (wrap64 ((wrap64 (wrap64 (m+q.pack) - 1)).tdiv q.pack))))∧Below w.heap.size w w':=by
 obtain⟨nm,co,pk,lo,hi⟩:=q
 simp only[CU] at hp⊢
 have h0:¬ pk=0:=zo
 gi_enter func94,ntmps94
 gi_wp2
 go_ret
 exact⟨rfl,bw⟩
def vO(b:Bk)(gd:Nat):Int × Int × Bool:=bM (fun h=>stk b h b.dY b.nm gd) (aB b (ak b))
def Vu(q:Good)(m:Int):Int:=max 0 (wrap64 ((wrap64 (wrap64 (m+q.pack) - 1)).tdiv q.pack))
def XU(b:Bk)(rt:Nat→Int)(d:Int)(k:Nat):Int:=Vu (b.g k) (IntKind.i64.wrap (IntKind.i64.wrap (rt k * d) - (vO b k).1))
def xH(b:Bk)(rt:Nat→Int)(d:Int)(k:Nat):List Int:=(List.range k).map (XU b rt d)
theorem Pk(b:Bk)(rt:Nat→Int)(d:Int)(k:Nat):xH b rt d (k+1)=xH b rt d k ++ [XU b rt d k]:=by unfold xH;rw[List.range_succ,List.map_append];rfl
theorem TH(b:Bk)(rt:Nat→Int)(d:Int)(k:Nat):(xH b rt d k).length=k:=by simp[xH]
def xJ(b:Bk)(rt:Nat→Int)(d:Int):Nat→Int
 | 0=>0
 | Nat.succ k=>wrap64 (xJ b rt d k+wrap64 (wrap64 (XU b rt d k * (b.g k).pack) * (b.g k).cost))
theorem uc(b:Bk)(A:Option Addr)(p:Nat)(rA:Option Addr)(nr rc:Nat)(rt:Nat→Int)(d:Int)(w:World)(hc:pJ b A w)(ok:b.Ok)(hl:∀s∈ak b,eu s)(hr:Ints w w.heap.size rA nr rt)(hnr:nr=b.ng)(hne:∀k,k<b.ng→(vO b k).2.2=true)(hpk:∀k,k<b.ng→1≤(b.g k).pack):
 CallsIn FF 0 prog 68 #[.agg (aA b A (ak b).length p),.slice rA nr rc,int i64 d] w fun e w'=>∃v,e=.returned (.tuple #[v,int i64 (xJ b rt d b.ng),int i64 0])∧w'.ownsRow w.heap.size 3 1 v b.ng ((xH b rt d b.ng).map (int i64))∧Below w.heap.size w w':=by
 have hx:=jE b ok (ak b) hl
 have HH:=hid fun A p w hc=>rQ b ok hl A p w hc
 have hg3:b.ng≤3:=ok.bE.1.2
 have HK:=hid fun lb A n p Bc B w k (hk:k<b.ng) h hA hc hB=>by
  have:=FB 79 lb 93 #[.pointer (some ⟨Bc,0,none⟩),.pointer (some ⟨B,0,none⟩)] (fun h=>stk b h b.dY b.nm k) (aB b (ak b)) w h (i9 b ok A n p k zo _ hx Bc B w hA hc hB)
  change CallsIn _ _ _ _ _ _ fun e w'=>e=.returned (.tuple #[.agg #[int i64 (vO b k).1,int i64 (vO b k).2.1],int i64 (if (vO b k).2.2 then 0 else 9)])∧_ at this
  rw[hne k hk] at this
  exact this
 have HP:=hid fun k m (w:World) (hk:k<b.ng)=>show CallsIn FF 0 prog 94 #[CU (b.g k),int i64 m] w fun e w'=>e=.returned (int i64 (Vu (b.g k) m))∧Below w.heap.size w w' from QA (b.g k) m w (hpk k hk)
 have HC:=hid hc
 have fS:=hid fun A w (h:pJ b A w)=>h.at_
 have sX:=hid fun A (w w':World) (h:pJ b A w) (hb:Below w.heap.size w w')=>h.below hb
 have HR:=hid hr
 obtain⟨n,hn⟩:∃n,n=(ak b).length:=zE
 obtain⟨xs,hxs⟩:∃xs,xs=aB b (ak b):=zE
 rw[← hn] at HH⊢
 rw[← hxs] at HH HK
 obtain⟨SG,Re⟩:∃SG,SG=vO b:=zE
 obtain⟨BM,qT⟩:∃BM,BM=XU b rt d:=zE
 obtain⟨BL,hBL⟩:∃BL,BL=xH b rt d:=zE
 obtain⟨CN,kx⟩:∃CN,CN=xJ b rt d:=zE
 have HBM:Hid (∀k,BM k=Vu (b.g k) (IntKind.i64.wrap (IntKind.i64.wrap (rt k * d) - (SG k).1))):=hid fun k=>by rw[qT,Re];rfl
 have KB:Hid (BL 0=[]):=hid (by rw[hBL];rfl)
 have Ln:Hid (∀k,BL (k+1)=BL k ++ [BM k]):=hid fun k=>by rw[hBL,qT];exact Pk b rt d k
 have Lk:Hid (∀k,(BL k).length=k):=hid fun k=>by rw[hBL];exact TH b rt d k
 have Lw:Hid (CN 0=0):=hid (by rw[kx];rfl)
 have sR:Hid (∀k,CN (k+1)=wrap64 (CN k+wrap64 (wrap64 (BM k * (b.g k).pack) * (b.g k).cost))):=hid fun k=>by rw[kx,qT];rfl
 rw[← Re] at HK
 rw[← hBL,← kx]
 obtain⟨i0,hi,hz0,hz1,hz2⟩:=info_parts info3
 have hi0:=hid hi
 clear hi hn hxs hc hl ok hpk hx hr hne Re qT hBL kx
 subst hnr
 obtain⟨dY,mO,gA,ng,gc,g,mA,nm,mc,m,cA,nc,cc,c⟩:=b
 simp only[aA,CU] at HH HK HP HBM sR hg3 HR⊢
 obtain⟨w1,hw1⟩:∃w1,w1=w.alloc (.cells #[int i64 dY,int i64 mO,.slice gA ng gc,.slice mA nm mc,.slice cA nc cc,.slice A n p] 75):=zE
 have B1:Hid (Below w.heap.size w w1):=hid (by rw[hw1];exact bw)
 have X1:Hid (Whole w1 w.heap.size 75 #[int i64 dY,int i64 mO,.slice gA ng gc,.slice mA nm mc,.slice cA nc cc,.slice A n p]):=hid (by rw[hw1];exact Whole.new _ _ _)
 have hs1:w1.heap.size=w.heap.size+1:=by rw[hw1];simp
 have jd:=hid hw1
 clear hw1
 gi_enter func68,ntmps68
 gi_wp2
 rw[← jd.out]
 clear jd
 gi_loopw [6,7,19] (fun l u i wr=>∃k:Nat,k≤ng∧i=int i64 k∧u=int i64 (CN k)∧Hid (wr.ownsRow (w.heap.size+1) 3 1 l k ((BL k).map (int i64))∧Below (w.heap.size+1) w1 wr)) (fun _ _ i _=>ng - (intOf i).toNat)
 case atStart=>exact⟨0,Nat.zero_le _,rfl,by rw[Lw.out],hid ⟨by rw[KB.out];exact oV _ (w.heap.size+1) 3,zB⟩⟩
 case round=>
  obtain⟨k,hk,rfl,rfl,hT⟩:=hrel
  obtain⟨A9,n9,p9,rfl⟩:=ig hT.out.1
  obtain⟨wo,rfl⟩:∃wo:World,wo=wr:=zE
  have hso:w.heap.size+1≤wo.heap.size:=by have:=hT.out.2.size;omega
  have BO:Hid (Below w.heap.size w wo):=hid (B1.out.trans (hT.out.2.mono zo))
  by_cases hlt:k<ng
  ·obtain⟨ad,hA',hbl,-⟩:=(fS.out A w HC.out).g (show 0<ng by omega)
   simp only at hA'
   subst hA'
   obtain⟨gk,EN⟩:∃gk,gk=g k:=zE
   have hr:∀j,j<5→wo.cell? ((ad.add (k * 5)).add j)=some (gk.cell j):=fun j hj=>by rw[EN];exact(((fS.out (A) w HC.out).g.below BO.out)).row hlt |>.2 j hj
   have Hs:=HBM.out k
   have vd:=sR.out k
   have Is:=fun m w=>HP.out k m w hlt
   have QR:=fun lb n p Bc B w'=>HK.out lb A n p Bc B w' k hlt
   have QQ:=Ln.out k
   rw[← EN] at Hs vd Is
   obtain⟨Qs,co,pk,lo,hi⟩:=gk
   have c0:wo.cell? (ad.add (k * 5))=some (.string Qs):=hr 0 zD
   have c1:wo.cell? ⟨(ad.add (k * 5)).block,(ad.add (k * 5)).off+1,none⟩=some (int i64 co):=hr 1 zD
   have c2:wo.cell? ⟨(ad.add (k * 5)).block,(ad.add (k * 5)).off+2,none⟩=some (int i64 pk):=hr 2 zD
   have c3:wo.cell? ⟨(ad.add (k * 5)).block,(ad.add (k * 5)).off+3,none⟩=some (int i64 lo):=hr 3 zD
   have c4:wo.cell? ⟨(ad.add (k * 5)).block,(ad.add (k * 5)).off+4,none⟩=some (int i64 hi):=hr 4 zD
   obtain⟨R1,rf⟩:∃R1,R1=(SG k).1:=zE
   obtain⟨R2,hR2⟩:∃R2,R2=(SG k).2.1:=zE
   obtain⟨M,hM⟩:∃M,M=BM k:=zE
   obtain⟨rk,lB⟩:∃rk,rk=rt k:=zE
   rw[← rf,← hR2] at QR
   rw[← rf,← hM,← lB] at Hs
   rw[← hM] at vd QQ
   simp only at vd Is
   have HCk:=hid vd
   have HBs:=hid QQ
   have HPk:=hid fun w=>by have:=Is (IntKind.i64.wrap (IntKind.i64.wrap (rk * d) - R1)) w;rw[← Hs] at this;exact this
   have HKk:=hid QR
   obtain⟨ra,hra,hrb,-⟩:=HR.out (show 0<ng by omega)
   subst hra
   have rr:wo.cell? (ra.add k)=some (int i64 rk):=by
    rw[lB]
    exact(BO.out.cell (by rw[aH];exact hrb)).trans (HR.out.at_ hlt)
   clear hr EN vd QQ Is QR rf hR2 hM Hs lB
   obtain⟨w2,hw2⟩:∃w2,w2=(wo.alloc (.cells #[int i64 k] 3)).alloc (.cells #[.string Qs,int i64 co,int i64 pk,int i64 lo,int i64 hi] 83):=zE
   have B2:Hid (Below wo.heap.size wo w2):=hid (by rw[hw2];exact bw)
   have K2:Hid (Whole w2 wo.heap.size 3 #[int i64 k]):=hid (by rw[hw2];exact(Whole.new _ _ _).alloc _)
   have G2:Hid (Whole w2 (wo.heap.size+1) 83 #[.string Qs,int i64 co,int i64 pk,int i64 lo,int i64 hi]):=hid (by rw[hw2];exact aK zs)
   have X2:=hid ((X1.out.below hT.out.2 zo).below B2.out zo)
   have x0:w2.cell? ⟨w.heap.size,0,none⟩=some (int i64 dY):=X2.out.cell 0
   have x1:w2.cell? ⟨w.heap.size,1,none⟩=some (int i64 mO):=X2.out.cell 1
   have x2:w2.cell? ⟨w.heap.size,2,none⟩=some (.slice (some ad) ng gc):=X2.out.cell 2
   have x3:w2.cell? ⟨w.heap.size,3,none⟩=some (.slice mA nm mc):=X2.out.cell 3
   have x4:w2.cell? ⟨w.heap.size,4,none⟩=some (.slice cA nc cc):=X2.out.cell 4
   have x5:w2.cell? ⟨w.heap.size,5,none⟩=some (.slice A n p):=X2.out.cell 5
   have BW2:Hid (Below w.heap.size w w2):=hid (Below.next BO.out B2.out)
   have C2:=hid (sX.out A w w2 HC.out BW2.out)
   rw[hw2] at x0 x1 x2 x3 x4 x5
   have Ga:=hid hw2
   clear hw2
   gi_wp2_with (first
    | (gi_at_call 39;rw[← Ga.out];refine(HH.out A p _ C2.out).mono ?_;rintro e w4 ⟨lb,rfl,hs4,hb4⟩;have aaP:=hb4.size)
    | (gi_at_call 60;refine(HKk.out lb n p _ _ _ hs4 (fS.out A _ (sX.out A w2 w4 C2.out hb4)) (X2.out.below hb4 X2.out.lt) (K2.out.below hb4 K2.out.lt)).mono ?_;rintro e w5 ⟨rfl,hb5⟩))
   have kO:=hb4.trans (hb5.mono hb4.size)
   obtain⟨w7,hw7⟩:∃w7,w7=w5.alloc (.cells #[int i64 R1,int i64 R2] 28):=zE
   have B7:Hid (Below w2.heap.size w2 w7):=hid (by rw[hw7];exact kO.alloc kO.size _)
   have S7:Hid (Whole w7 w5.heap.size 28 #[int i64 R1,int i64 R2]):=hid (by rw[hw7];exact Whole.new _ _ _)
   have K7:=hid (K2.out.below B7.out K2.out.lt)
   have G7:=hid (G2.out.below B7.out G2.out.lt)
   have BO7:Hid (Below wo.heap.size wo w7):=hid (Below.next B2.out B7.out)
   have hwo:w.heap.size≤wo.heap.size:=zo
   have rr7:w7.cell? (ra.add k)=some (int i64 rk):=(BO7.out.cell (by rw[aH];omega)).trans rr
   rw[← hw7]
   clear hw7
   have qk:=cell_regrown (K7.out.cell 0)
   have qg0:=cell_regrown (G7.out.cell 0)
   have qg1:=cell_regrown (G7.out.cell 1)
   have qg2:=cell_regrown (G7.out.cell 2)
   have qg3:=cell_regrown (G7.out.cell 3)
   have qg4:=cell_regrown (G7.out.cell 4)
   have qs:=cell_regrown (S7.out.cell 0)
   have qr:=cell_regrown rr7
   have cP:∀dd os,CallsIn FF 0 prog 94 #[.agg #[.string Qs,int i64 co,int i64 pk,int i64 lo,int i64 hi],int i64 (IntKind.i64.wrap (IntKind.i64.wrap (rk * d) - R1))] (grow (redrawn w7 dd) os) fun e w''=>e=.returned (int i64 M)∧∃p:Regrown,w''=grow (redrawn w7 p.d) p.os:=fun dd os=>CallsIn.regrown_of (HPk.out _)
   refine wpIn_region_quiet_below rfl zk zk ?_
   repeat (quiet_step_in (exact cP _ _))
   refine wpQuietIn_nil ?_
   rintro w' ⟨⟨dq,osq⟩,rfl⟩
   have bn:=below_regrown w7 dq osq
   clear qk qg0 qg1 qg2 qg3 qg4 qs qr cP
   generalize grow (redrawn w7 dq) osq=w9 at bn⊢
   have JS:Hid (Below wo.heap.size wo w9):=hid (Below.next BO7.out bn)
   have G9:=hid (G7.out.below bn G7.out.lt)
   have Ho:=hid (own_below hT.out.1 JS.out)
   have HT1:=hid hT.out.1
   have hs9:=JS.out.size
   have hk3:k≤3:=zo
   have hBn:=Lk.out k
   clear bn rr7 kO hb4 hb5 hs4 rr c0 c1 c2 c3 c4
   gi_wp2_with (gi_at_builtin;refine aD rfl rfl rfl fun K5 iI=>?_;refine wp_append_lies _ _ _ _ rfl (w.heap.size+1) 3 i0 _ 1 8 underlying51 hi0.out hz0 hz1 hz2 rfl zo (.slice A9 n9 p9) k _ rfl (bG Ho.out _) ⟨w9.heap.size,0,none⟩ 1 1 [_] rfl rfl (World.news_of_block (heap_alloc_new w9 _)) (by simp[Value.oneCell']) zo zU zo zm (w9.heap.size+1) zs ?_;intro qQ nQ w10 hown5 aN kI mR;have GG:=(G9.out.alloc (.cells #[int i64 M] 3)).grown aN (fun e=>by have:=aQ HT1.out e.symm;omega);have y0:w10.cell? ⟨wo.heap.size+1,0,none⟩=some (.string Qs):=GG.cell 0;have y1:w10.cell? ⟨wo.heap.size+1,1,none⟩=some (int i64 co):=GG.cell 1;have y2:w10.cell? ⟨wo.heap.size+1,2,none⟩=some (int i64 pk):=GG.cell 2;have y3:w10.cell? ⟨wo.heap.size+1,3,none⟩=some (int i64 lo):=GG.cell 3;have y4:w10.cell? ⟨wo.heap.size+1,4,none⟩=some (int i64 hi):=GG.cell 4;refine iI _ _ ?_;clear iI K5)
   exact⟨⟨k+1,hlt,by push_cast;rfl,by rw[HCk.out],hid ⟨by rw[HBs.out,List.map_append];exact hown5,(((hT.out.2.trans (JS.out.mono zo)).alloc zo _).trans (below_grown aN zm (fun g hg=>(aQ HT1.out hg).1)))⟩⟩,by simp[intOf];omega⟩
  ·obtain rfl:k=ng:=zo
   gi_wp2
   go_ret3
   exact⟨_,rfl,bO hT.out.1 (Nat.le_succ _),BO.out⟩
theorem QV(b:Bk)(rA:Option Addr)(nr rc:Nat)(rt:Nat→Int)(d:Int)(w:World)(h:b.At w w.heap.size)(ok:b.Ok)(hcap:b.ng≤b.gc)(hl:∀s∈ak b,eu s)(hr:Ints w w.heap.size rA nr rt)(hnr:nr=b.ng)(hne:∀k,k<b.ng→(vO b k).2.2=true)(hpk:∀k,k<b.ng→1≤(b.g k).pack)(hrt:∀i,i<nr→0≤rt i∧rt i≤99)(hd:0≤d∧d≤99):
 CallsIn FF 0 prog 25 #[b.val,.slice rA nr rc,int i64 d] w fun e w'=>∃v,e=.returned (.tuple #[v,int i64 (xJ b rt d b.ng),int i64 0])∧w'.ownsRow w.heap.size 3 1 v b.ng ((xH b rt d b.ng).map (int i64))∧Below w.heap.size w w':=by
 have HO:=hid fun w h=>mW b w h ok hcap
 have HB:=hid fun A p w hc hr=>uc b A p rA nr rc rt d w hc ok hl hr hnr hne hpk
 have HE:=hid fun(w:World) (hI:Ints w w.heap.size rA nr rt)=>show CallsIn FF 0 prog 67 #[.slice rA nr rc,int i64 b.ng,int i64 99] w fun e w'=>e=.returned (int i64 0)∧Below w.heap.size w w' from by
  have:=KJ rt rA nr rc 99 w hI (by unfold maxLen;have:=ok.bE.1.2;omega) hrt
  rwa[hnr] at this⊢
 have HN:=hid fun(w:World)=>show CallsIn FF 0 prog 65 #[int i64 d,int i64 0,int i64 99] w fun e w'=>e=.returned (.bool true)∧w=w' from by
  have:=dw d 0 99 w
  have e:fJ d 0 99=true:=by unfold fJ;simp;omega
  rwa[e] at this
 have HR:=hid fun(w':World) (hb:Below w.heap.size w w')=>show Ints w' w'.heap.size rA nr rt from(Rows.below hr hb).more hb.size
 have HA:=hid h
 obtain⟨n,hn⟩:∃n,n=(ak b).length:=zE
 rw[← hn] at HO HB
 obtain⟨BL,hBL⟩:∃BL,BL=xH b rt d b.ng:=zE
 obtain⟨CN,kx⟩:∃CN,CN=xJ b rt d b.ng:=zE
 rw[← hBL,← kx] at HB⊢
 clear hn h hcap hl ok hBL kx hr hne hpk hrt hd hnr
 obtain⟨dY,mO,gA,ng,gc,g,mA,nm,mc,m,cA,nc,cc,c⟩:=b
 simp only[Bk.val,Bk.cells,aA] at HO HB HE⊢
 gi_enter func25,ntmps25
 gi_wp2_with (first
  | (gi_at_call 37;refine(HO.out _ (HA.out.up (bw))).mono ?_;rintro e w2 ⟨A,p,rfl,hc2,hb2,-⟩;have Lb:Hid (Below w.heap.size w (w2.alloc (.cells #[int i64 dY,int i64 mO,.slice gA ng gc,.slice mA nm mc,.slice cA nc cc,.slice A n p] 75))):=hid (Below.al (Below.next (show Below w.heap.size w (w.alloc (.cells #[int i64 dY,int i64 mO,.slice gA ng gc,.slice mA nm mc,.slice cA nc cc] 26)) from bw) hb2) _))
  | (gi_at_call 67;refine(HE.out _ (HR.out _ Lb.out)).mono ?_;rintro e w3 ⟨rfl,hb3⟩;have X3:Whole w3 w2.heap.size 75 #[int i64 dY,int i64 mO,.slice gA ng gc,.slice mA nm mc,.slice cA nc cc,.slice A n p]:=(Whole.new w2 _ _).below hb3 zs;have x0:w3.cell? ⟨w2.heap.size,0,none⟩=some (int i64 dY):=X3.cell 0;have x1:w3.cell? ⟨w2.heap.size,1,none⟩=some (int i64 mO):=X3.cell 1;have x2:w3.cell? ⟨w2.heap.size,2,none⟩=some (.slice gA ng gc):=X3.cell 2;have x3:w3.cell? ⟨w2.heap.size,3,none⟩=some (.slice mA nm mc):=X3.cell 3;have x4:w3.cell? ⟨w2.heap.size,4,none⟩=some (.slice cA nc cc):=X3.cell 4;have x5:w3.cell? ⟨w2.heap.size,5,none⟩=some (.slice A n p):=X3.cell 5)
  | (gi_at_call 65;refine(HN.out _).mono ?_;rintro e w4 ⟨rfl,rfl⟩)
  | (gi_at_call 68;refine(HB.out A p _ ((hc2.below (bw)).below hb3) (HR.out _ (Below.next Lb.out hb3))).mono ?_;rintro e w5 ⟨v,rfl,hv,hb5⟩))
 go_ret3
 exact⟨v,rfl,bO hv (by have:=Lb.out.size;have:=hb3.size;omega),Below.next (Below.next Lb.out hb3) hb5⟩
end
section
open Go.RowKit
theorem ji(b:Bk)(ok:b.Ok):∀s∈ak b,eu s:=fun s hs=>by
 have:=List.mem_range.1 (List.mem_filter.1 hs).1
 exact Nat.lt_of_lt_of_le this (Nat.le_trans (Nat.pow_le_pow_right zD ok.moves.1) zD)
end
section
open Go.RowKit
attribute [local go_sem] Oper.semAt_some
def tZ:Value:=.agg #[int i64 0,int i64 0,.slice none 0 0,.slice none 0 0,.slice none 0 0]
theorem sw(b:Bk)(ok:b.Ok)(hcap:b.ng≤b.gc)(w:World)(h:b.At w w.heap.size):CallsIn FF 0 prog 35 #[b.val] w fun e w'=>e=.returned (.tuple #[if (aB b (ak b)).isEmpty=true then tZ else b.val,int i64 (if (aB b (ak b)).isEmpty=true then 9 else 0)])∧Below w.heap.size w w':=by
 have HO:=hid fun w h=>mW b w h ok hcap
 have HH:=hid fun A p w hc=>rQ b ok (ji b ok) A p w hc
 have HY:=hid fun lb (w:World) h=>Tq (p:=FF.fn) 79 lb (aB b (ak b)) w h
 have HA:=hid h
 obtain⟨n,hn⟩:∃n,n=(ak b).length:=zE
 obtain⟨xs,hxs⟩:∃xs,xs=aB b (ak b):=zE
 rw[← hn] at HO HH
 rw[← hxs] at HH HY⊢
 have HY:Hid (∀lb (w:World),pO FF 79 lb xs w→CallsIn FF 0 prog 77 #[.func (.func 79) #[] lb] w fun e w'=>e=.returned (.bool (!xs.isEmpty))∧Below w.heap.size w w'):=hid fun lb w h=>HY.out lb w h
 obtain⟨t,ht⟩:∃t,t=xs.isEmpty:=zE
 rw[← ht] at HY⊢
 clear hn hxs ht h hcap ok
 obtain⟨dY,mO,gA,ng,gc,g,mA,nm,mc,m,cA,nc,cc,c⟩:=b
 simp only[Bk.val,Bk.cells,aA,tZ] at HO HH⊢
 obtain⟨w1,hw1⟩:∃w1,w1=(w.alloc (.cells #[int i64 dY,int i64 mO,.slice gA ng gc,.slice mA nm mc,.slice cA nc cc] 26)).alloc (.cells #[int i64 0,int i64 0,.slice none 0 0,.slice none 0 0,.slice none 0 0] 26):=zE
 have B1:Hid (Below w.heap.size w w1):=hid (by rw[hw1];exact bw)
 have X1:Hid (Whole w1 w.heap.size 26 #[int i64 dY,int i64 mO,.slice gA ng gc,.slice mA nm mc,.slice cA nc cc]):=hid (by rw[hw1];exact(Whole.new _ _ _).alloc _)
 have Z1:Hid (Whole w1 (w.heap.size+1) 26 #[int i64 0,int i64 0,.slice none 0 0,.slice none 0 0,.slice none 0 0]):=hid (by rw[hw1];exact aK zs)
 have jd:=hid hw1
 clear hw1
 cases t
 rotate_left 1
 ·gi_enter func35,ntmps35
  gi_wp2_with (first
   | (gi_at_call 37;rw[← jd.out];refine(HO.out _ (HA.out.up B1.out)).mono ?_;rintro e w2 ⟨A,p,rfl,hc2,hb2,-⟩;have X2:=(X1.out.below hb2 X1.out.lt).alloc (.cells #[int i64 dY,int i64 mO,.slice gA ng gc,.slice mA nm mc,.slice cA nc cc,.slice A n p] 75);have Z2:=(Z1.out.below hb2 Z1.out.lt).alloc (.cells #[int i64 dY,int i64 mO,.slice gA ng gc,.slice mA nm mc,.slice cA nc cc,.slice A n p] 75))
   | (gi_at_call 39;refine(HH.out A p _ (hc2.below (bw))).mono ?_;rintro e w4 ⟨lb,rfl,hs4,hb4⟩)
   | (gi_at_call 77;refine(HY.out lb _ hs4).mono ?_;rintro e w5 ⟨rfl,hb5⟩;have wh:=hb4.trans (hb5.mono hb4.size);have Z5:=Z2.below wh Z2.lt;have X5:=X2.below wh X2.lt;have z0:w5.cell? ⟨w.heap.size+1,0,none⟩=some (int i64 0):=Z5.cell 0;have z1:w5.cell? ⟨w.heap.size+1,1,none⟩=some (int i64 0):=Z5.cell 1;have z2:w5.cell? ⟨w.heap.size+1,2,none⟩=some (.slice none 0 0):=Z5.cell 2;have z3:w5.cell? ⟨w.heap.size+1,3,none⟩=some (.slice none 0 0):=Z5.cell 3;have z4:w5.cell? ⟨w.heap.size+1,4,none⟩=some (.slice none 0 0):=Z5.cell 4;have zf:=Z5.thaw;have x5:∀o,w5.cell? ⟨w.heap.size,o,none⟩=(#[int i64 dY,int i64 mO,.slice gA ng gc,.slice mA nm mc,.slice cA nc cc]:Array Value)[o]?:=fun o=>X5.cell o))
  have u:=(Z5.tF (int i64 0) (int i64 0) (.slice none 0 0) (.slice none 0 0) (.slice none 0 0)).cell
  refine bodyPost_ret (v:=.tuple #[.agg #[int i64 0,int i64 0,.slice none 0 0,.slice none 0 0,.slice none 0 0],int i64 9]) (by simp[results,results35,go_sem,u]) rfl ⟨rfl,?_⟩
  exact Below.tF (Below.next (Below.next (Below.al (Below.next B1.out hb2) _) hb4) hb5) zo _ _ _ _ _
 ·gi_enter func35,ntmps35
  gi_wp2_with (first
   | (gi_at_call 37;rw[← jd.out];refine(HO.out _ (HA.out.up B1.out)).mono ?_;rintro e w2 ⟨A,p,rfl,hc2,hb2,-⟩;have X2:=(X1.out.below hb2 X1.out.lt).alloc (.cells #[int i64 dY,int i64 mO,.slice gA ng gc,.slice mA nm mc,.slice cA nc cc,.slice A n p] 75);have Z2:=(Z1.out.below hb2 Z1.out.lt).alloc (.cells #[int i64 dY,int i64 mO,.slice gA ng gc,.slice mA nm mc,.slice cA nc cc,.slice A n p] 75))
   | (gi_at_call 39;refine(HH.out A p _ (hc2.below (bw))).mono ?_;rintro e w4 ⟨lb,rfl,hs4,hb4⟩)
   | (gi_at_call 77;refine(HY.out lb _ hs4).mono ?_;rintro e w5 ⟨rfl,hb5⟩;have wh:=hb4.trans (hb5.mono hb4.size);have Z5:=Z2.below wh Z2.lt;have X5:=X2.below wh X2.lt;have z0:w5.cell? ⟨w.heap.size+1,0,none⟩=some (int i64 0):=Z5.cell 0;have z1:w5.cell? ⟨w.heap.size+1,1,none⟩=some (int i64 0):=Z5.cell 1;have z2:w5.cell? ⟨w.heap.size+1,2,none⟩=some (.slice none 0 0):=Z5.cell 2;have z3:w5.cell? ⟨w.heap.size+1,3,none⟩=some (.slice none 0 0):=Z5.cell 3;have z4:w5.cell? ⟨w.heap.size+1,4,none⟩=some (.slice none 0 0):=Z5.cell 4;have zf:=Z5.thaw;have x5:∀o,w5.cell? ⟨w.heap.size,o,none⟩=(#[int i64 dY,int i64 mO,.slice gA ng gc,.slice mA nm mc,.slice cA nc cc]:Array Value)[o]?:=fun o=>X5.cell o))
  have u:=(Z5.tF (int i64 dY) (int i64 mO) (.slice gA ng gc) (.slice mA nm mc) (.slice cA nc cc)).cell
  refine bodyPost_ret (v:=.tuple #[.agg #[int i64 dY,int i64 mO,.slice gA ng gc,.slice mA nm mc,.slice cA nc cc],int i64 0]) (by simp[results,results35,go_sem,u]) rfl ⟨rfl,?_⟩
  exact Below.tF (Below.next (Below.next (Below.al (Below.next B1.out hb2) _) hb4) hb5) zo _ _ _ _ _
theorem mT(b:Bk)(w:World)(h:b.At w w.heap.size){r:Int}(ok:b.But r)(hcap:b.ng≤b.gc)(hr:r≠0):CallsIn FF 0 prog 37 #[b.val] w fun e w'=>e=.returned (.tuple #[.agg #[int i64 0,int i64 0,.slice none 0 0,.slice none 0 0,.slice none 0 0,.slice none 0 0],int i64 r])∧Below w.heap.size w w':=by
 have HC:=hid fun w h=>Ni b w h ok hcap
 have HA:=hid h
 have hne:(r != 0)=true:=by simpa using hr
 clear h ok hcap hr
 obtain⟨dY,mO,gA,ng,gc,g,mA,nm,mc,m,cA,nc,cc,c⟩:=b
 simp only[Bk.val,Bk.cells] at HC⊢
 obtain⟨w1,hw1⟩:∃w1,w1=(w.alloc (.cells #[int i64 dY,int i64 mO,.slice gA ng gc,.slice mA nm mc,.slice cA nc cc] 26)).alloc (.cells #[int i64 0,int i64 0,.slice none 0 0,.slice none 0 0,.slice none 0 0,.slice none 0 0] 75):=zE
 have B1:Hid (Below w.heap.size w w1):=hid (by rw[hw1];exact bw)
 have Z1:Hid (Whole w1 (w.heap.size+1) 75 #[int i64 0,int i64 0,.slice none 0 0,.slice none 0 0,.slice none 0 0,.slice none 0 0]):=hid (by rw[hw1];exact aK zs)
 have jd:=hid hw1
 clear hw1
 gi_enter func37,ntmps37
 gi_wp2_with (gi_at_call 42;rw[← jd.out];refine(HC.out _ (HA.out.up B1.out)).mono ?_;rintro e w2 ⟨rfl,hb2⟩;have Z2:=Z1.out.below hb2 Z1.out.lt;have z0:w2.cell? ⟨w.heap.size+1,0,none⟩=some (int i64 0):=Z2.cell 0;have z1:w2.cell? ⟨w.heap.size+1,1,none⟩=some (int i64 0):=Z2.cell 1;have z2:w2.cell? ⟨w.heap.size+1,2,none⟩=some (.slice none 0 0):=Z2.cell 2;have z3:w2.cell? ⟨w.heap.size+1,3,none⟩=some (.slice none 0 0):=Z2.cell 3;have z4:w2.cell? ⟨w.heap.size+1,4,none⟩=some (.slice none 0 0):=Z2.cell 4;have z5:w2.cell? ⟨w.heap.size+1,5,none⟩=some (.slice none 0 0):=Z2.cell 5;have zf:=Z2.thaw)
 have u:=((((((Z2.set 0 (int i64 0)).set 1 (int i64 0)).set 2 (.slice none 0 0)).set 3 (.slice none 0 0)).set 4 (.slice none 0 0)).set 5 (.slice none 0 0)).cell
 refine bodyPost_ret (v:=.tuple #[.agg #[int i64 0,int i64 0,.slice none 0 0,.slice none 0 0,.slice none 0 0,.slice none 0 0],int i64 r]) (by simp[results,results37,go_sem,u]) rfl ⟨rfl,?_⟩
 exact(Below.tF (Below.next B1.out hb2) zo _ _ _ _ _).setCell (p:=⟨w.heap.size+1,5,none⟩) (by show w.heap.size≤w.heap.size+1;omega) _
theorem ES(b:Bk)(w:World)(h:b.At w w.heap.size){r:Int}(ok:b.But r)(hcap:b.ng≤b.gc)(hr:r≠0):CallsIn FF 0 prog 35 #[b.val] w fun e w'=>e=.returned (.tuple #[tZ,int i64 r])∧Below w.heap.size w w':=by
 have HO:=hid fun w h=>mT b w h ok hcap hr
 have HA:=hid h
 have hne:(r != 0)=true:=by simpa using hr
 clear h ok hcap hr
 obtain⟨dY,mO,gA,ng,gc,g,mA,nm,mc,m,cA,nc,cc,c⟩:=b
 simp only[Bk.val,Bk.cells,tZ] at HO⊢
 obtain⟨w1,hw1⟩:∃w1,w1=(w.alloc (.cells #[int i64 dY,int i64 mO,.slice gA ng gc,.slice mA nm mc,.slice cA nc cc] 26)).alloc (.cells #[int i64 0,int i64 0,.slice none 0 0,.slice none 0 0,.slice none 0 0] 26):=zE
 have B1:Hid (Below w.heap.size w w1):=hid (by rw[hw1];exact bw)
 have Z1:Hid (Whole w1 (w.heap.size+1) 26 #[int i64 0,int i64 0,.slice none 0 0,.slice none 0 0,.slice none 0 0]):=hid (by rw[hw1];exact aK zs)
 have jd:=hid hw1
 clear hw1
 gi_enter func35,ntmps35
 gi_upto_region 3 with(gi_at_call 37;rw[← jd.out];refine(HO.out _ (HA.out.up B1.out)).mono ?_;rintro e w2 ⟨rfl,hb2⟩)
 obtain⟨w3,hw3⟩:∃x,x=w2.alloc (.cells #[int i64 0,int i64 0,.slice none 0 0,.slice none 0 0,.slice none 0 0,.slice none 0 0] 75):=zE
 rw[← hw3]
 have hb3:Below w1.heap.size w1 w3:=by rw[hw3];exact Below.al hb2 _
 have Z3:=Z1.out.below hb3 Z1.out.lt
 have z0:w3.cell? ⟨w.heap.size+1,0,none⟩=some (int i64 0):=Z3.cell 0
 have z1:w3.cell? ⟨w.heap.size+1,1,none⟩=some (int i64 0):=Z3.cell 1
 have z2:w3.cell? ⟨w.heap.size+1,2,none⟩=some (.slice none 0 0):=Z3.cell 2
 have z3:w3.cell? ⟨w.heap.size+1,3,none⟩=some (.slice none 0 0):=Z3.cell 3
 have z4:w3.cell? ⟨w.heap.size+1,4,none⟩=some (.slice none 0 0):=Z3.cell 4
 have zf:=Z3.thaw
 clear hw3
 gi_wp2
 have u:=(Z3.tF (int i64 0) (int i64 0) (.slice none 0 0) (.slice none 0 0) (.slice none 0 0)).cell
 exact bodyPost_ret (v:=.tuple #[.agg #[int i64 0,int i64 0,.slice none 0 0,.slice none 0 0,.slice none 0 0],int i64 r]) (by simp[results,results35,go_sem,u]) rfl ⟨rfl,Below.tF (Below.next B1.out hb3) zo _ _ _ _ _⟩
theorem Lh(A B:Option Addr)(n p m q:Nat)(xs ys:Nat→Int)(K:Nat)(w:World)(h:Ints w K A n xs)(h':Ints w K B m ys)(hn:n≤maxLen)(hm:m≤maxLen)(hin:∀i,i<n→hasB m ys (xs i)=true):
 CallsIn FF 0 prog 41 #[.slice A n p,.slice B m q] w fun e w'=>e=.returned (.bool true)∧w=w':=by
 have HA:=hid h
 have HIn:=hid hin
 have HB:=hid fun v=>Yp B m q ys v K w h' hm
 clear h h' hin
 unfold maxLen at hn hm
 gi_enter func41,ntmps41
 gi_wp2
 gi_loop [5] (fun i=>∃k:Nat,k≤n∧i=int i64 k) (fun i=>n - (intOf i).toNat)
 case atStart=>exact⟨0,Nat.zero_le _,rfl⟩
 case round=>
  obtain⟨k,hk,rfl⟩:=hrel
  by_cases hlt:k<n
  ·obtain⟨ad,rfl,-⟩:=HA.out (show 0<n by omega)
   have d0:=Ints.at_ HA.out hlt
   have hh:=HB.out (xs k)
   rw[HIn.out k hlt] at hh
   generalize xs k=x at d0 hh
   have HH:=hid hh
   clear hh
   gi_wp2_with (gi_at_call 82;refine HH.out.mono ?_;rintro e w' ⟨rfl,rfl⟩)
   go_round
   case rel=>exact⟨k+1,zo,by go_num⟩
   case measure=>simp[intOf];omega
  ·obtain rfl:n=k:=zo
   gi_wp2
   go_ret
   exact⟨rfl,rfl⟩
theorem KG(b:Bk)(w:World)(h:b.At w w.heap.size)(wu:b.ng≤6)(hnm:b.nm≤6)(hnc:b.nc≤6):CallsIn FF 0 prog 34 #[b.val] w fun e w'=>∃G mD M sM C mH,e=.returned (.agg #[int i64 b.dY,int i64 b.mO,.slice G b.ng mD,.slice M b.nm sM,.slice C b.nc mH])∧
 w'.ownsRow w.heap.size 83 5 (.slice G b.ng mD) b.ng (dH 5 (fun i=>(b.g i).cell) b.ng)∧w'.ownsRow w.heap.size 39 5 (.slice M b.nm sM) b.nm (dH 5 (fun i=>(b.m i).cell) b.nm)∧w'.ownsRow w.heap.size 45 4 (.slice C b.nc mH) b.nc (dH 4 (fun i=>(b.c i).cell) b.nc)∧
 (∀a,(Value.slice M b.nm sM).ownBlock=some a→(Value.slice G b.ng mD).ownBlock≠some a∧(Value.slice C b.nc mH).ownBlock≠some a)∧(∀a,(Value.slice C b.nc mH).ownBlock=some a→(Value.slice G b.ng mD).ownBlock≠some a)∧Below w.heap.size w w':=by
 have HA:=hid h
 clear h
 obtain⟨dY,mO,gA,ng,gc,g,mA,nm,mc,m,cA,nc,cc,c⟩:=b
 simp only[Bk.val,Bk.cells] at wu hnm hnc⊢
 have CG:=hid fun(w':World) (hb:Below w.heap.size w w')=>G5 g gA ng gc w' ((HA.out.g.below hb).more hb.size) wu
 have CM:=hid fun(w':World) (hb:Below w.heap.size w w')=>Px m mA nm mc w' ((HA.out.m.below hb).more hb.size) hnm
 have CC:=hid fun(w':World) (hb:Below w.heap.size w w')=>Pw c cA nc cc w' ((HA.out.c.below hb).more hb.size) hnc
 clear HA
 obtain⟨w1,hw1⟩:∃w1,w1=(w.alloc (.cells #[int i64 dY,int i64 mO,.slice gA ng gc,.slice mA nm mc,.slice cA nc cc] 26)).alloc (.cells #[int i64 0,int i64 0,.slice none 0 0,.slice none 0 0,.slice none 0 0] 26):=zE
 have B1:Hid (Below w.heap.size w w1):=hid (by rw[hw1];exact bw)
 have hs1:w1.heap.size=w.heap.size+1+1:=by rw[hw1];simp
 have X1:Hid (Whole w1 w.heap.size 26 #[int i64 dY,int i64 mO,.slice gA ng gc,.slice mA nm mc,.slice cA nc cc]):=hid (by rw[hw1];exact(Whole.new _ _ _).alloc _)
 have Z1:Hid (Whole w1 (w.heap.size+1) 26 #[int i64 0,int i64 0,.slice none 0 0,.slice none 0 0,.slice none 0 0]):=hid (by rw[hw1];have:=Whole.new (w.alloc (.cells #[int i64 dY,int i64 mO,.slice gA ng gc,.slice mA nm mc,.slice cA nc cc] 26)) 26 #[int i64 0,int i64 0,.slice none 0 0,.slice none 0 0,.slice none 0 0];rw[World.size_alloc] at this;exact this)
 have jd:=hid hw1
 clear hw1
 have S1:=hid hs1
 clear hs1
 gi_enter func34,ntmps34
 gi_wp2_with (first
  | (gi_at_call 74;rw[← jd.out];refine(CG.out w1 B1.out).mono ?_;rintro e w2 ⟨G,mD,rfl,hoG,hb2⟩;have OG:=hid hoG;have pD:=hid hb2;have X2:=hid (X1.out.below hb2 X1.out.lt);have Z2:=hid (Z1.out.below hb2 Z1.out.lt);have x2:∀o,w2.cell? ⟨w.heap.size,o,none⟩=(#[int i64 dY,int i64 mO,.slice gA ng gc,.slice mA nm mc,.slice cA nc cc]:Array Value)[o]?:=fun o=>X2.out.cell o;have xf2:=X2.out.thaw 2;clear hoG hb2)
  | (gi_at_call 75;obtain⟨v2,hv2⟩:∃x,x=w2.setCell ⟨w.heap.size,2,none⟩ (.slice G ng mD):=zE;have sv2:v2.heap.size=w2.heap.size:=(by rw[hv2];simp);have PH:Below w.heap.size w v2:=(by rw[hv2];exact(B1.out.trans (pD.out.mono (by have:=S1.out;omega))).setCell zs _);have OS:Whole v2 w.heap.size 26 #[int i64 dY,int i64 mO,.slice G ng mD,.slice mA nm mc,.slice cA nc cc]:=(by rw[hv2];exact X2.out.set 2 _);have Pc:Whole v2 (w.heap.size+1) 26 #[int i64 0,int i64 0,.slice none 0 0,.slice none 0 0,.slice none 0 0]:=(by rw[hv2];exact Z2.out.other zs _);have ia:=(by rw[hv2];exact bU OG.out (by have:=S1.out;show w.heap.size<w1.heap.size;omega) _:v2.ownsRow w1.heap.size 83 5 (.slice G ng mD) ng (dH 5 (fun i=>(g i).cell) ng));rw[← hv2];have s2:=pD.out.size;refine(CM.out v2 PH).mono ?_;rintro e w3 ⟨M,sM,rfl,hoM,hb3⟩;have OM:=hid hoM;have si:=hid (PH.trans (hb3.mono (by have:=S1.out;omega)));have X3:=hid (OS.below hb3 OS.lt);have Z3:=hid (Pc.below hb3 Pc.lt);have OG3:=hid (own_below ia hb3);have OGl:=hid (fun a (e:(Value.slice G ng mD).ownBlock=some a)=>(aQ ia e).2);have Dd:=hid (And.intro sv2 (And.intro s2 hb3.size));have x3:∀o,w3.cell? ⟨w.heap.size,o,none⟩=(#[int i64 dY,int i64 mO,.slice G ng mD,.slice mA nm mc,.slice cA nc cc]:Array Value)[o]?:=(fun o=>X3.out.cell o);have xf3:=X3.out.thaw 3;clear hoM hb3 OS Pc ia hv2 PH sv2 s2 x2 xf2)
  | (gi_at_call 76;obtain⟨v3,hv3⟩:∃x,x=w3.setCell ⟨w.heap.size,3,none⟩ (.slice M nm sM):=zE;have sv3:v3.heap.size=w3.heap.size:=(by rw[hv3];simp);have Ha:Below w.heap.size w v3:=(by rw[hv3];exact si.out.setCell zs _);have Pa:Whole v3 w.heap.size 26 #[int i64 dY,int i64 mO,.slice G ng mD,.slice M nm sM,.slice cA nc cc]:=(by rw[hv3];exact X3.out.set 3 _);have Pd:Whole v3 (w.heap.size+1) 26 #[int i64 0,int i64 0,.slice none 0 0,.slice none 0 0,.slice none 0 0]:=(by rw[hv3];exact Z3.out.other zs _);have tG:=(by rw[hv3];exact bU OG3.out (by have:=S1.out;show w.heap.size<w1.heap.size;omega) _:v3.ownsRow w1.heap.size 83 5 (.slice G ng mD) ng (dH 5 (fun i=>(g i).cell) ng));have ib:=(by rw[hv3];exact bU OM.out (by have:=S1.out;have:=Dd.out;show w.heap.size<v2.heap.size;omega) _:v3.ownsRow v2.heap.size 39 5 (.slice M nm sM) nm (dH 5 (fun i=>(m i).cell) nm));rw[← hv3];refine(CC.out v3 Ha).mono ?_;rintro e w4 ⟨C,mH,rfl,hoC,hb4⟩;have OC:=hid hoC;have sk:=hid (Ha.trans (hb4.mono (by have:=Ha.size;omega)));have X4:=hid (Pa.below hb4 Pa.lt);have Z4:=hid (Pd.below hb4 Pd.lt);have OG4:=hid (own_below tG hb4);have OM4:=hid (own_below ib hb4);have OMl:=hid (fun a (e:(Value.slice M nm sM).ownBlock=some a)=>(aQ ib e));have Y':=hid (And.intro sv3 hb4.size);have x4:∀o,w4.cell? ⟨w.heap.size,o,none⟩=(#[int i64 dY,int i64 mO,.slice G ng mD,.slice M nm sM,.slice cA nc cc]:Array Value)[o]?:=(fun o=>X4.out.cell o);have xf4:=X4.out.thaw 4;have zc4:∀o,w4.cell? ⟨w.heap.size+1,o,none⟩=(#[int i64 0,int i64 0,.slice none 0 0,.slice none 0 0,.slice none 0 0]:Array Value)[o]?:=(fun o=>Z4.out.cell o);have zf4:=Z4.out.thaw;clear hoC hb4 Pa Pd tG ib hv3 Ha sv3 x3 xf3))
 have UX:=X4.out.set 4 (.slice C nc mH)
 have UZ:=Z4.out.other (p:=⟨w.heap.size,4,none⟩) zs (.slice C nc mH)
 have u:=(UZ.tF (int i64 dY) (int i64 mO) (.slice G ng mD) (.slice M nm sM) (.slice C nc mH)).cell
 refine bodyPost_ret (v:=.agg #[int i64 dY,int i64 mO,.slice G ng mD,.slice M nm sM,.slice C nc mH]) (by simp[results,results34,go_sem,u]) rfl ⟨G,mD,M,sM,C,mH,rfl,?_,?_,?_,?_,?_,?_⟩
 ·have hs:=S1.out
  exact bO (yI (bU OG4.out (by show w.heap.size<w1.heap.size;omega) _) zo _ _ _ _ _) zo
 ·have hs:=S1.out
  have h3:=Dd.out
  exact bO (yI (bU OM4.out (by show w.heap.size<v2.heap.size;omega) _) zo _ _ _ _ _) zo
 ·have hs:=S1.out
  have h3:=Dd.out
  have h4:=Y'.out
  exact bO (yI (bU OC.out (by show w.heap.size<v3.heap.size;omega) _) zo _ _ _ _ _) zo
 ·intro a ha
  have hs:=S1.out
  have h3:=Dd.out
  have h4:=Y'.out
  have hm:=OMl.out a ha
  refine⟨fun e=>?_,fun e=>?_⟩
  ·have:=OGl.out a e;omega
  ·have:=(aQ OC.out e).1;omega
 ·intro a ha e
  have hs:=S1.out
  have h3:=Dd.out
  have h4:=Y'.out
  have:=OGl.out a e
  have:=(aQ OC.out ha).1
  omega
 ·have hs:=S1.out
  exact Below.tF (sk.out.setCell (p:=⟨w.heap.size,4,none⟩) zL _) zo _ _ _ _ _
end
section
open Go.RowKit
open Go.Sort (grow)
attribute [local go_sem] Oper.semAt_some
theorem Tryz.infoL:(Tryz.prog.info? 51).map (fun i=>(i.zero,i.size,i.bytes))=some (some (.slice none 0 0),1,24):=zk
theorem Vb(g:Nat)(c:Nat)(v f:Value)(w:World)(hv:∃A n p,v=.slice A n p)(hc:w.cell? ⟨g,0,none⟩=some v):CallsIn FF 0 prog 124 #[f,.slice (some ⟨g,0,none⟩) 1 c] w fun e w'=>e=.returned (.tuple #[v,.bool true])∧Below w.heap.size w w':=by
 obtain⟨A,n,p,rfl⟩:=hv
 gi_enter func124,ntmps124
 gi_wp2
 refine wpIn_loop_rounds 2 ?_
 rw[roundsIn_succ]
 gi_wp2
 repeat (refine⟨fun f h=>(by cases h),?_⟩;gi_wp2)
 rw[roundsIn_succ]
 gi_wp2
 go_ret2
 exact⟨rfl,zB⟩
theorem Lm(s:Nat)(hs:s<1024)(g c:Nat)(w:World)(hc:w.cell? ⟨g,0,none⟩=some (int i64 s)):CallsIn FF 0 prog 95 #[.slice (some ⟨g,0,none⟩) 1 c] w fun e w'=>∃v,e=.returned (.tuple #[v,.bool true])∧w'.ownsRow w.heap.size 3 1 v (aM s 10).length ((aM s 10).map (int i64))∧Below w.heap.size w w':=by
 have HS:=hid fun w=>mU s w hs
 have HL:=hid fun g c v w hv hc=>Vb g c v (.func (.func 125) #[] #[]) w hv hc
 obtain⟨i0,hi,hz0,hz1,hz2⟩:=info_parts Tryz.infoL
 have hi0:=hid hi
 obtain⟨L,hL⟩:∃L,L=aM s 10:=zE
 rw[← hL] at HS⊢
 clear hL hi
 gi_enter func95,ntmps95
 gi_wp2
 refine wpIn_loop_rounds 2 ?_
 rw[roundsIn_succ]
 gi_wp2_with (first
  | (gi_at_call 102;refine(HS.out w).mono ?_;rintro e w3 ⟨v,rfl,hown,hb3⟩;have pN:=hid hown;have hv:=ig hown;have HV:=hid hv;obtain⟨A3,n3,p3,rfl⟩:=hv;clear hown)
  | (gi_at_builtin;refine aD rfl rfl rfl fun K5 iI=>?_;refine wp_append_lies _ _ _ _ rfl w3.heap.size 51 i0 _ 1 24 underlying71 hi0.out hz0 hz1 hz2 rfl zo (.slice none 0 0) 0 [] rfl ⟨rfl,.inl ⟨rfl,rfl⟩⟩ ⟨w3.heap.size,0,none⟩ 1 1 [_] rfl rfl (World.news_of_block (heap_alloc_new w3 _)) (by simp[Value.oneCell']) zo zU zo zs (w3.heap.size+1) zs ?_;intro qQ nQ w10 hown5 aN kI mR;refine iI _ _ ?_;clear iI K5))
 rw[roundsIn_succ]
 gi_wp2_with (gi_at_call 124;refine(HL.out _ _ _ w10 HV.out ?_).mono ?_;rotate_left;(rintro e w12 ⟨rfl,La⟩))
 ·go_ret2
  have SQ:Below w.heap.size w w10:=(Below.al hb3 _).trans (below_grown aN (by simp;have:=hb3.size;omega) (fun g hg=>by cases hg))
  exact⟨_,rfl,own_below (oU (bG pN.out _) aN (fun g hg=>by simp[Value.ownBlock])) La,Below.next SQ La⟩
 ·have:=hown5.cells (g:=qQ) rfl 0 (.slice A3 n3 p3) zs
  simpa [Addr.add] using this
theorem VJ(b:Bk)(ok:b.Ok)(s:Nat)(hl:eu s)(Bb Bl:Nat)(w:World)(hb:Whole w Bb 73 b.cells)(hw:Whole w Bl 3 #[int i64 s])(hA:b.At w w.heap.size):pO FF 104 #[.pointer (some ⟨Bb,0,none⟩),.pointer (some ⟨Bl,0,none⟩)] (gy b s) w:=by
 refine⟨zs,enters_of func104 zk rfl,fun C W hW hC=>?_⟩
 exact WG (p:=FF.fn) b ok s hl C w.heap.size Bb Bl W (fun x hx=>(hC x hx).2) (hb.below hW hb.lt) (hw.below hW hw.lt) (hA.below hW) hW.size (fun h=>by have:=(hC _ h).1;have:=hb.lt;omega) (fun h=>by have:=(hC _ h).1;have:=hw.lt;omega) (fun x hx h=>by have:=(hC _ h).1;omega)
theorem Ry(b:Bk)(ok:b.Ok)(s:Nat)(hl:eu s)(w:World)(hA:b.At w w.heap.size):CallsIn FF 0 prog 81 #[b.val,int i64 s] w fun e w'=>∃lb,e=.returned (.func (.func 104) #[] lb)∧pO FF 104 lb (gy b s) w'∧Below w.heap.size w w':=by
 refine(WO (p:=FF.fn) b s w).mono ?_
 rintro e w' ⟨rfl,hb,hi,hbw,-⟩
 exact⟨_,rfl,VJ b ok s hl _ _ w' hb hi (hA.up hbw),hbw⟩
def Ez(b:Bk)(k:Nat):List Int:=(((ak b).take k).filter fun s=>!(gy b s).isEmpty).map fun(n:Nat)=>(n:Int)
theorem Pn(b:Bk)(k:Nat)(hk:k<(ak b).length):Ez b (k+1)=Ez b k ++ if (!(gy b ((ak b).getD k 0)).isEmpty)=true then[(((ak b).getD k 0:Nat):Int)] else[]:=by
 unfold Ez
 rw[List.take_add_one,List.getD_eq_getElem?_getD,List.getElem?_eq_getElem hk,List.filter_append,List.map_append]
 congr 1
 simp only[Option.toList,Option.getD,List.filter_cons,List.filter_nil]
 split <;> simp_all
theorem TK(b:Bk)(k:Nat):(Ez b k).length≤(ak b).length:=by
 unfold Ez
 rw[List.length_map]
 exact Nat.le_trans (List.length_filter_le _ _) (by rw[List.length_take];exact Nat.min_le_right _ _)
theorem XR(b:Bk)(A:Option Addr)(p:Nat)(s0:Nat)(w:World)(hc:pJ b A w)(ok:b.Ok)(hl:∀s∈ak b,eu s)(hcan:Ez b (ak b).length=[(s0:Int)])(hs0:s0<1024):
 CallsIn FF 0 prog 69 #[.agg (aA b A (ak b).length p)] w fun e w'=>∃v,e=.returned (.tuple #[v,.bool true])∧w'.ownsRow w.heap.size 3 1 v (aM s0 10).length ((aM s0 10).map (int i64))∧Below w.heap.size w w':=by
 have HT:=hid fun k (w':World) (hk:k<(ak b).length) (hA:b.At w' w'.heap.size)=>Ry b ok ((ak b).getD k 0) (hl _ (by rw[List.getD_eq_getElem?_getD,List.getElem?_eq_getElem hk];exact List.getElem_mem hk)) w' hA
 have HY:=hid fun k lb (w':World) h=>Tq (p:=FF.fn) 104 lb (gy b ((ak b).getD k 0)) w' h
 have HL:=hid fun g c w hc=>Lm s0 hs0 g c w hc
 have HC:=hid hc
 have HR:=hid hc.row
 have Ks:=hid hc.at_
 obtain⟨n,hn⟩:∃n,n=(ak b).length:=zE
 obtain⟨LN,H'⟩:∃LN:Nat→Nat,LN=fun k=>(ak b).getD k 0:=⟨_,rfl⟩
 obtain⟨T,hT⟩:∃T:Nat→List Ht,T=fun k=>gy b ((ak b).getD k 0):=⟨_,rfl⟩
 obtain⟨F,hF⟩:∃F:Nat→List Int,F=Ez b:=⟨_,rfl⟩
 have HT':Hid (∀k (w':World),k<n→b.At w' w'.heap.size→CallsIn FF 0 prog 81 #[b.val,int i64 (LN k)] w' fun e w''=>∃lb,e=.returned (.func (.func 104) #[] lb)∧pO FF 104 lb (T k) w''∧Below w'.heap.size w' w''):=hid fun k w' hk hA=>by rw[H',hT];rw[hn] at hk;exact HT.out k w' hk hA
 have HY':Hid (∀k lb (w':World),pO FF 104 lb (T k) w'→CallsIn FF 0 prog 77 #[.func (.func 104) #[] lb] w' fun e w''=>e=.returned (.bool (!(T k).isEmpty))∧Below w'.heap.size w' w''):=hid fun k lb w' h=>by rw[hT] at h⊢;exact HY.out k lb w' h
 have HR':Hid (Rows w w.heap.size 1 A n (fun i _=>int i64 ((LN i:Nat):Int))):=hid (by rw[H',hn];exact HR.out)
 have HF0:Hid (F 0=[]):=hid (by rw[hF];rfl)
 have Lz:Hid (∀k,k<n→F (k+1)=F k ++ if (!(T k).isEmpty)=true then[((LN k:Nat):Int)] else[]):=hid fun k hk=>by rw[hF,hT,H'];rw[hn] at hk;exact Pn b k hk
 have HFn:Hid (F n=[(s0:Int)]):=hid (by rw[hF,hn];exact hcan)
 have HFl:Hid (∀k,(F k).length≤64):=hid fun k=>by rw[hF];exact Nat.le_trans (TK b k) (lT b ok)
 have aaJ:n≤64:=by rw[hn];exact lT b ok
 obtain⟨L0,hL0⟩:∃L,L=aM s0 10:=zE
 rw[← hL0] at HL⊢
 rw[← hn]
 obtain⟨i0,hi,hz0,hz1,hz2⟩:=info_parts info3
 have hi0:=hid hi
 clear hi hn H' hT hF HT HY HR hcan hl ok hc HC hL0 hs0
 obtain⟨dY,mO,gA,ng,gc,g,mA,nm,mc,m,cA,nc,cc,c⟩:=b
 simp only[Bk.val,Bk.cells,aA] at HT'⊢
 obtain⟨w1,hw1⟩:∃w1,w1=w.alloc (.cells #[int i64 dY,int i64 mO,.slice gA ng gc,.slice mA nm mc,.slice cA nc cc,.slice A n p] 75):=zE
 have B1:Hid (Below w.heap.size w w1):=hid (by rw[hw1];exact bw)
 have X1:Hid (Whole w1 w.heap.size 75 #[int i64 dY,int i64 mO,.slice gA ng gc,.slice mA nm mc,.slice cA nc cc,.slice A n p]):=hid (by rw[hw1];exact Whole.new _ _ _)
 have hs1:w1.heap.size=w.heap.size+1:=by rw[hw1];simp
 have jd:=hid hw1
 clear hw1
 gi_enter func69,ntmps69
 gi_wp2
 rw[← jd.out]
 clear jd
 gi_loopw [4,10] (fun l i wr=>∃k:Nat,k≤n∧i=int i64 k∧Hid (wr.ownsRow (w.heap.size+1) 3 1 l (F k).length ((F k).map (int i64))∧Below (w.heap.size+1) w1 wr)) (fun _ i _=>n - (intOf i).toNat)
 case atStart=>exact⟨0,Nat.zero_le _,rfl,hid ⟨by rw[HF0.out];exact oV _ (w.heap.size+1) 3,zB⟩⟩
 case round=>
  obtain⟨k,hk,rfl,hT⟩:=hrel
  obtain⟨A9,n9,p9,rfl⟩:=ig hT.out.1
  obtain⟨wo,rfl⟩:∃wo:World,wo=wr:=zE
  have hso:w.heap.size+1≤wo.heap.size:=by have:=hT.out.2.size;omega
  have BO:Hid (Below w.heap.size w wo):=hid (B1.out.trans (hT.out.2.mono zo))
  by_cases hlt:k<n
  ·obtain⟨ad,hA',hbl,-⟩:=HR'.out (show 0<n by omega)
   subst hA'
   obtain⟨s,hs⟩:∃s,s=LN k:=zE
   have d0:wo.cell? (ad.add k)=some (int i64 s):=by
    rw[hs]
    refine(BO.out.cell (by rw[aH];exact hbl)).trans ?_
    have:=(HR'.out.row hlt).2 0 zD
    rwa[Nat.mul_one,add_zero'] at this
   have RM:=HT'.out k wo hlt (Ks.out.up BO.out)
   have H5:=Lz.out k hlt
   have hFl:=HFl.out k
   rw[← hs] at RM H5
   obtain⟨t,ht⟩:∃t,t=!(T k).isEmpty:=zE
   have RR:=fun lb w' h=>HY'.out k lb w' h
   rw[← ht] at RR H5
   have X2:=hid (X1.out.below hT.out.2 zo)
   have x0:wo.cell? ⟨w.heap.size,0,none⟩=some (int i64 dY):=X2.out.cell 0
   have x1:wo.cell? ⟨w.heap.size,1,none⟩=some (int i64 mO):=X2.out.cell 1
   have x2:wo.cell? ⟨w.heap.size,2,none⟩=some (.slice gA ng gc):=X2.out.cell 2
   have x3:wo.cell? ⟨w.heap.size,3,none⟩=some (.slice mA nm mc):=X2.out.cell 3
   have x4:wo.cell? ⟨w.heap.size,4,none⟩=some (.slice cA nc cc):=X2.out.cell 4
   have HTo:=hid RM
   have HYo:=hid RR
   have HFk:=hid H5
   clear RM RR H5 hs ht
   cases t
   ·gi_wp2_with (first
     | (gi_at_call 81;refine HTo.out.mono ?_;rintro e w4 ⟨lb,rfl,hs4,hb4⟩)
     | (gi_at_call 77;refine(HYo.out lb _ hs4).mono ?_;rintro e w5 ⟨rfl,hb5⟩))
    have wh:=hb4.trans (hb5.mono hb4.size)
    exact⟨⟨k+1,hlt,by push_cast;rfl,hid ⟨by rw[HFk.out];simpa using own_below hT.out.1 wh,hT.out.2.trans (wh.mono hso)⟩⟩,by simp[intOf];omega⟩
   ·gi_wp2_with (first
     | (gi_at_call 81;refine HTo.out.mono ?_;rintro e w4 ⟨lb,rfl,hs4,hb4⟩)
     | (gi_at_call 77;refine(HYo.out lb _ hs4).mono ?_;rintro e w5 ⟨rfl,hb5⟩;have wh:=hb4.trans (hb5.mono hb4.size);have Ho:=hid (own_below hT.out.1 wh);have hs5:=wh.size)
     | (gi_at_builtin;refine aD rfl rfl rfl fun K5 iI=>?_;refine wp_append_lies _ _ _ _ rfl (w.heap.size+1) 3 i0 _ 1 8 underlying51 hi0.out hz0 hz1 hz2 rfl zo (.slice A9 n9 p9) (F k).length _ rfl (bG Ho.out _) ⟨w5.heap.size,0,none⟩ 1 1 [_] rfl rfl (World.news_of_block (heap_alloc_new w5 _)) (by simp[Value.oneCell']) zo zU zo zm (w5.heap.size+1) zs ?_;intro qQ nQ w10 hown5 aN kI mR;refine iI _ _ ?_;clear iI K5))
    exact⟨⟨k+1,hlt,by push_cast;rfl,hid ⟨by rw[HFk.out];simpa using hown5,((hT.out.2.trans (wh.mono hso)).alloc zo _).trans (below_grown aN zm (fun g hg=>(aQ Ho.out hg).1))⟩⟩,by simp[intOf];omega⟩
  ·obtain rfl:k=n:=zo
   have hown:=hT.out.1
   rw[HFn.out] at hown
   obtain⟨g9,c9,hv,-,-⟩:=hown.form zs
   have hcl:=hown.cells (g:=g9) (by rw[hv];rfl) 0 (int i64 s0) zs
   injection hv with h1 h2 h3
   subst h1 h2 h3
   have hcl:wo.cell? ⟨g9,0,none⟩=some (int i64 s0):=by simpa [Addr.add] using hcl
   gi_wp2_with (gi_at_call 95;refine(HL.out _ _ _ hcl).mono ?_;rintro e w12 ⟨v,rfl,TO,La⟩)
   go_ret2
   exact⟨_,rfl,bO TO zo,Below.next BO.out La⟩
theorem Jq(b:Bk)(s0:Nat)(w:World)(h:b.At w w.heap.size)(ok:b.Ok)(hcap:b.ng≤b.gc)(hl:∀s∈ak b,eu s)(hcan:Ez b (ak b).length=[(s0:Int)])(hs0:s0<1024):CallsIn FF 0 prog 26 #[b.val] w fun e w'=>∃v,e=.returned (.tuple #[v,int i64 0])∧w'.ownsRow w.heap.size 3 1 v (aM s0 10).length ((aM s0 10).map (int i64))∧Below w.heap.size w w':=by
 have HO:=hid fun w h=>mW b w h ok hcap
 have HB:=hid fun A p w hc=>XR b A p s0 w hc ok hl hcan hs0
 have HA:=hid h
 obtain⟨n,hn⟩:∃n,n=(ak b).length:=zE
 rw[← hn] at HO HB
 obtain⟨L0,hL0⟩:∃L,L=aM s0 10:=zE
 rw[← hL0] at HB⊢
 clear hn h hcap hl ok hcan hs0 hL0
 obtain⟨dY,mO,gA,ng,gc,g,mA,nm,mc,m,cA,nc,cc,c⟩:=b
 simp only[Bk.val,Bk.cells,aA] at HO HB⊢
 gi_enter func26,ntmps26
 gi_wp2_with (first
  | (gi_at_call 37;refine(HO.out _ (HA.out.up (bw))).mono ?_;rintro e w2 ⟨A,p,rfl,hc2,hb2,-⟩)
  | (gi_at_call 69;refine(HB.out A p _ (hc2.below (bw))).mono ?_;rintro e w4 ⟨v,rfl,hv,hb4⟩))
 go_ret2
 have Lb:=Below.al (Below.next (show Below w.heap.size w (w.alloc (.cells #[int i64 dY,int i64 mO,.slice gA ng gc,.slice mA nm mc,.slice cA nc cc] 26)) from bw) hb2) (.cells #[int i64 dY,int i64 mO,.slice gA ng gc,.slice mA nm mc,.slice cA nc cc,.slice A n p] 75)
 exact⟨v,rfl,bO hv Lb.size,Below.next Lb hb4⟩
def G6(a b:Int):Int:=if a<b then -1 else if b<a then 1 else 0
theorem BE(a:Int)(w:World):CallsIn FF 0 prog 180 #[int i64 a] w fun e w'=>e=.returned (.bool false)∧w=w':=by
 gi_enter func180,ntmps180
 gi_wp2
 go_ret
 exact⟨zs,rfl⟩
theorem db(a b:Int)(w:World):CallsIn FF 0 prog 145 #[int i64 a,int i64 b] w fun e w'=>e=.returned (int i64 (G6 a b))∧w=w':=by
 have HN:=hid BE
 rcases Int.lt_trichotomy a b with h|h|h
 ·have e:G6 a b=-1:=if_pos h
  rw[e]
  gi_enter func145,ntmps145
  gi_wp2_with (gi_at_call 180;refine(HN.out _ _).mono ?_;rintro e w3 ⟨rfl,rfl⟩)
  all_goals (go_ret;exact⟨rfl,rfl⟩)
 ·subst h
  have e:G6 a a=0:=by simp[G6]
  rw[e]
  gi_enter func145,ntmps145
  gi_wp2_with (gi_at_call 180;refine(HN.out _ _).mono ?_;rintro e w3 ⟨rfl,rfl⟩)
  all_goals (go_ret;exact⟨rfl,rfl⟩)
 ·have e:G6 a b=1:=by unfold G6;rw[if_neg zo,if_pos h]
  have hn:¬ a<b:=zo
  rw[e]
  gi_enter func145,ntmps145
  gi_wp2_with (gi_at_call 180;refine(HN.out _ _).mono ?_;rintro e w3 ⟨rfl,rfl⟩)
  all_goals (go_ret;exact⟨rfl,rfl⟩)
theorem m6(g1 c1 g2 c2:Nat)(w:World)(h10:w.cell? ⟨g1,0,none⟩=some (int i64 0))(h20:w.cell? ⟨g2,0,none⟩=some (int i64 1)):CallsIn FF 0 prog 146 #[.slice (some ⟨g1,0,none⟩) 2 c1,.slice (some ⟨g2,0,none⟩) 1 c2] w fun e w'=>e=.returned (int i64 (-1))∧w=w':=by
 have HC:=hid db
 have e:G6 0 1=-1:=zD
 gi_enter func146,ntmps146
 gi_wp2
 refine wpIn_loop_rounds 1 ?_
 rw[roundsIn_succ]
 gi_wp2_with (gi_at_call 145;refine(HC.out _ _ _).mono ?_;rintro e w3 ⟨rfl,rfl⟩;rw[e])
 all_goals (go_ret;exact⟨rfl,rfl⟩)
theorem Xs(g c:Nat)(w:World)(h0:w.cell? ⟨g,0,none⟩=some (int i64 1)):CallsIn FF 0 prog 144 #[.slice (some ⟨g,0,none⟩) 2 c] w fun e w'=>e=.returned (int i64 1)∧w=w':=by
 gi_enter func144,ntmps144
 gi_wp2
 refine wpIn_loop_rounds 1 ?_
 rw[roundsIn_succ]
 gi_wp2
 all_goals (go_ret;exact⟨rfl,rfl⟩)
theorem Pz(g1 c1 g2 c2:Nat)(w:World)(h10:w.cell? ⟨g1,0,none⟩=some (int i64 0))(h20:w.cell? ⟨g2,0,none⟩=some (int i64 1)):CallsIn FF 0 prog 125 #[.slice (some ⟨g1,0,none⟩) 2 c1,.slice (some ⟨g2,0,none⟩) 1 c2] w fun e w'=>e=.returned (int i64 1)∧Below w.heap.size w w':=by
 have HC:=hid db
 have HS:=hid (m6 g1 c1 g2 c2 w h10 h20)
 have HO:=hid fun g c w h=>Xs g c w h
 have e:G6 2 1=1:=zD
 gi_enter func125,ntmps125
 gi_wp2_with (first
  | (gi_at_call 145;refine(HC.out _ _ _).mono ?_;rintro e w3 ⟨rfl,rfl⟩;rw[e])
  | (gi_at_call 146;refine HS.out.mono ?_;rintro e w3 ⟨rfl,rfl⟩)
  | (gi_at_call 144;refine(HO.out _ _ _ zs).mono ?_;rintro e w3 ⟨rfl,rfl⟩))
 all_goals (go_ret;exact⟨rfl,bw⟩)
end
section
open Go.RowKit
theorem UM(B b1 b2 b3 b4 b5:Nat)(w:World)(hB:B<w.heap.size)
 (l0:w.cell? ⟨B,0,none⟩=some (.func (.func 116) #[] #[.pointer (some ⟨b1,0,none⟩),.pointer (some ⟨b2,0,none⟩)]))
 (l1:w.cell? ⟨B,1,none⟩=some (.func (.func 117) #[] #[.pointer (some ⟨b3,0,none⟩),.pointer (some ⟨b2,0,none⟩)]))
 (l2:w.cell? ⟨B,2,none⟩=some (.func (.func 118) #[] #[.pointer (some ⟨b4,0,none⟩),.pointer (some ⟨b5,0,none⟩)]))
 (h1:∀w',Below w.heap.size w w'→CallsIn FF 0 prog 116 #[.pointer (some ⟨b1,0,none⟩),.pointer (some ⟨b2,0,none⟩)] w' fun e w2=>e=.returned (int i64 0)∧Below w'.heap.size w' w2)
 (h2:∀w',Below w.heap.size w w'→CallsIn FF 0 prog 117 #[.pointer (some ⟨b3,0,none⟩),.pointer (some ⟨b2,0,none⟩)] w' fun e w2=>e=.returned (int i64 0)∧Below w'.heap.size w' w2)
 (h3:∀w',Below w.heap.size w w'→CallsIn FF 0 prog 118 #[.pointer (some ⟨b4,0,none⟩),.pointer (some ⟨b5,0,none⟩)] w' fun e w2=>e=.returned (int i64 0)∧Below w'.heap.size w' w2):
 CallsIn FF 0 prog 115 #[.slice (some ⟨B,0,none⟩) 3 3] w fun e w'=>e=.returned (int i64 0)∧Below w.heap.size w w':=by
 have H1:=hid h1
 have H2:=hid h2
 have H3:=hid h3
 have L0:=hid l0
 have L1:=hid l1
 have L2:=hid l2
 clear h1 h2 h3 l0 l1 l2
 gi_enter func115,ntmps115
 gi_wp2
 gi_loopw [8] (fun i wr=>∃k:Nat,k≤3∧i=int i64 k∧Below w.heap.size w wr) (fun i _=>3 - (intOf i).toNat)
 case atStart=>exact⟨0,zo,rfl,zB⟩
 case round=>
  obtain⟨k,hk,rfl,hb⟩:=hrel
  have hsz:=hb.size
  by_cases hlt:k<3
  ·rcases(show k=0∨k=1∨k=2 by omega) with rfl|rfl|rfl
   ·have c0:=(hb.cell (p:=⟨B,0,none⟩) hB).trans L0.out
    gi_wp2_with (gi_at_call 116;refine(H1.out _ hb).mono ?_;rintro e w2 ⟨rfl,hb2⟩)
    go_roundw
    case rel=>exact⟨0+1,zo,by go_num,hb.trans (hb2.mono hsz)⟩
    case measure=>simp[intOf]
   ·have c0:=(hb.cell (p:=⟨B,1,none⟩) hB).trans L1.out
    gi_wp2_with (gi_at_call 117;refine(H2.out _ hb).mono ?_;rintro e w2 ⟨rfl,hb2⟩)
    go_roundw
    case rel=>exact⟨1+1,zo,by go_num,hb.trans (hb2.mono hsz)⟩
    case measure=>simp[intOf]
   ·have c0:=(hb.cell (p:=⟨B,2,none⟩) hB).trans L2.out
    gi_wp2_with (gi_at_call 118;refine(H3.out _ hb).mono ?_;rintro e w2 ⟨rfl,hb2⟩)
    go_roundw
    case rel=>exact⟨2+1,zo,by go_num,hb.trans (hb2.mono hsz)⟩
    case measure=>simp[intOf]
  ·obtain rfl:k=3:=zo
   gi_wp2
   go_ret
   exact⟨rfl,hb⟩
theorem bJ{w w':World}{A:Option Addr}{n:Nat}{xs:Nat→Int}(h:Ints w w.heap.size A n xs)(hb:Below w.heap.size w w'):Ints w' w'.heap.size A n xs:=(Rows.below h hb).more hb.size
theorem Zc(xs:Nat→Int)(A:Option Addr)(n p:Nat)(gA:Option Addr)(gc B1 B2:Nat)(w:World)(hI:Ints w w.heap.size A n xs)(hn:n≤maxLen)(hx:∀i,i<n→0≤xs i∧xs i≤99)
 (c1:w.cell? ⟨B1,0,none⟩=some (.slice A n p))(c2:w.cell? ⟨B2,2,none⟩=some (.slice gA n gc)):
 CallsIn FF 0 prog 116 #[.pointer (some ⟨B1,0,none⟩),.pointer (some ⟨B2,0,none⟩)] w fun e w'=>e=.returned (int i64 0)∧Below w.heap.size w w':=by
 have H:=hid (KJ xs A n p 99 w hI hn hx)
 clear hI hx
 gi_enter func116,ntmps116
 gi_wp2_with (gi_at_call 67;refine H.out.mono ?_;rintro e w2 ⟨rfl,hb2⟩)
 go_ret
 exact⟨rfl,hb2⟩
theorem Zd(xs:Nat→Int)(A:Option Addr)(n p:Nat)(gA:Option Addr)(gc B1 B2:Nat)(w:World)(hI:Ints w w.heap.size A n xs)(hn:n≤maxLen)(hx:∀i,i<n→0≤xs i∧xs i≤99)
 (c1:w.cell? ⟨B1,0,none⟩=some (.slice A n p))(c2:w.cell? ⟨B2,3,none⟩=some (.slice gA n gc)):
 CallsIn FF 0 prog 117 #[.pointer (some ⟨B1,0,none⟩),.pointer (some ⟨B2,0,none⟩)] w fun e w'=>e=.returned (int i64 0)∧Below w.heap.size w w':=by
 have H:=hid (KJ xs A n p 99 w hI hn hx)
 clear hI hx
 gi_enter func117,ntmps117
 gi_wp2_with (gi_at_call 67;refine H.out.mono ?_;rintro e w2 ⟨rfl,hb2⟩)
 go_ret
 exact⟨rfl,hb2⟩
theorem Ze(xs:Nat→Int)(A:Option Addr)(n p M:Nat)(gA:Option Addr)(gc B1 B2:Nat)(w:World)(hI:Ints w w.heap.size A n xs)(hn:n≤maxLen)(hM:M≤maxLen)(hx:∀i,i<n→0≤xs i∧xs i≤(M:Int) - 1)(hup:∀i,i+1<n→xs i<xs (i+1))
 (c1:w.cell? ⟨B1,0,none⟩=some (.slice A n p))(c2:w.cell? ⟨B2,0,none⟩=some (.slice gA M gc)):
 CallsIn FF 0 prog 118 #[.pointer (some ⟨B1,0,none⟩),.pointer (some ⟨B2,0,none⟩)] w fun e w'=>e=.returned (int i64 0)∧Below w.heap.size w w':=by
 have H:=hid (Vz xs A n p M w hI hn hM hx hup)
 clear hI hx hup
 gi_enter func118,ntmps118
 gi_wp2_with (gi_at_call 119;refine H.out.mono ?_;rintro e w2 ⟨rfl,hb2⟩)
 go_ret
 exact⟨rfl,hb2⟩
end
section
open Go.RowKit
open Go.Sort (grow)
attribute [local go_sem] Oper.semAt_some
end
section
open Go.RowKit
def BY(b:Bk)(s:Nat→Int)(d:Int):Prop:=0≤min (s 0) (min (s 1) (s 2))∧∀i,i<b.nc→(b.c i).day=d→fJ (s (b.c i).good.toNat) (b.c i).lo (b.c i).hi=true
theorem QC(b:Bk)(s:Nat→Int)(lo hi:Int):eY b s lo hi=true↔∀d,lo≤d→d≤hi→BY b s d:=by
 unfold eY
 rw[Bool.or_eq_true,Bool.and_eq_true,decide_eq_true_eq,decide_eq_true_eq,List.all_eq_true]
 constructor
 ·rintro(h|⟨h1,h2⟩) d hd1 hd2
  ·omega
  ·refine⟨h2,fun i hj hd=>?_⟩
   have:=h1 i (List.mem_range.2 hj)
   unfold Bu at this
   have e:fJ (b.c i).day lo hi=true:=by unfold fJ;simp;omega
   rw[e] at this
   simpa using this
 ·intro h
  by_cases hl:hi<lo
  ·exact .inl hl
  ·refine .inr ⟨fun i hi'=>?_,(h lo (Int.le_refl _) zo).1⟩
   unfold Bu
   cases e:fJ (b.c i).day lo hi with
   | false=>rfl
   | true=>
     unfold fJ at e
     simp only[Bool.and_eq_true,decide_eq_true_eq] at e
     rw[(h _ e.1 e.2).2 i (List.mem_range.1 hi') rfl]
     rfl
structure Of(b' b:Bk):Prop where
 dY:b'.dY=b.dY
 ng:b'.ng=b.ng
 nm:b'.nm=b.nm
 g:b'.g=b.g
 sub:(aB b' (ak b')).Sublist (aB b (ak b))
 stk:∀h d k,stk b' h d k=stk b h d k
theorem Ad{α β:Type}{f f':α→List β}:∀ {l' l:List α},l'.Sublist l→(∀x∈l',(f' x).Sublist (f x))→(l'.flatMap f').Sublist (l.flatMap f):=by
 intro l' l h
 induction h with
 | slnil=>intro _;exact List.Sublist.refl _
 | cons a h ih=>
   intro hf
   rw[List.flatMap_cons]
   exact(ih hf).trans (List.sublist_append_right _ _)
 | cons_cons a h ih=>
   intro hf
   rw[List.flatMap_cons,List.flatMap_cons]
   exact(hf a List.mem_cons_self).append (ih fun x hx=>hf x (List.mem_cons_of_mem _ hx))
section
variable(b:Bk)(i:Nat)(lo hi:Int)(G:Option Addr)(gc:Nat)(A:Option Addr)(c:Nat)(C:Option Addr)(cc:Nat)
end
def Bk.re(b:Bk)(G:Option Addr)(gc:Nat)(A:Option Addr)(c:Nat)(C:Option Addr)(cc:Nat):Bk:={b with gA:=G,gc:=gc,mA:=A,mc:=c,cA:=C,cc:=cc }
section
variable(b:Bk)(G:Option Addr)(gc:Nat)(A:Option Addr)(c:Nat)(C:Option Addr)(cc:Nat)
theorem Ns:∀ (n k:Nat) (h:Ht) (s:Nat→Int),eB (b.re G gc A c C cc) n k h s=eB b n k h s
 | 0,k,h,s=>by simp only[eB];rfl
 | Nat.succ n,k,h,s=>by
   simp only[eB,Ns n]
   rfl
theorem CQ:∀k:Nat,aS (b.re G gc A c C cc) k=aS b k
 | 0=>rfl
 | Nat.succ k=>by
   unfold aS
   rw[CQ k]
   rfl
theorem Yu:aB (b.re G gc A c C cc) (ak (b.re G gc A c C cc))=aB b (ak b):=by
 have e:∀s,gy (b.re G gc A c C cc) s=gy b s:=fun s=>by
  unfold gy
  rw[CQ]
  simp only[Ns]
  rfl
 unfold aB
 simp only[e]
 rfl
end
end
section
open Go.RowKit
attribute [local go_sem] Oper.semAt_some
theorem Mg{sz n:Nat}{f f':Nat→Nat→Value}(h:∀i j,i<n→j<sz→f i j=f' i j):dH sz f n=dH sz f' n:=by
 unfold dH
 rw[List.flatMap_def,List.flatMap_def,List.map_congr_left fun i hi=>List.map_congr_left fun j hj=>h i j (by simpa using hi) (by simpa using hj)]
theorem tU(g n:Nat):(⟨g,0,none⟩:Addr).add n=⟨g,n,none⟩:=by
 unfold Addr.add
 split <;> simp_all
theorem nO{b:Bk}{w:World}{B:Nat}{p:Addr}(h:b.At w B)(hG:∀ad,b.gA=some ad→0<b.ng→ad.block≠p.block)(hM:∀ad,b.mA=some ad→0<b.nm→ad.block≠p.block)(hC:∀ad,b.cA=some ad→0<b.nc→ad.block≠p.block)(v:Value):b.At (w.setCell p v) B:=
 ⟨h.g.bC hG v,h.m.bC hM v,h.c.bC hC v,h.ng,h.nm,h.nc,h.name⟩
theorem Nf{b:Bk}{w:World}{X:Nat}(h:b.At w w.heap.size)(hG:∀ad,b.gA=some ad→0<b.ng→ad.block≠X)(hM:∀ad,b.mA=some ad→0<b.nm→ad.block≠X)(hC:∀ad,b.cA=some ad→0<b.nc→ad.block≠X)(v0 v1 v2 v3 v4:Value):
 b.At (((((w.setCell ⟨X,0,none⟩ v0).setCell ⟨X,1,none⟩ v1).setCell ⟨X,2,none⟩ v2).setCell ⟨X,3,none⟩ v3).setCell ⟨X,4,none⟩ v4) (((((w.setCell ⟨X,0,none⟩ v0).setCell ⟨X,1,none⟩ v1).setCell ⟨X,2,none⟩ v2).setCell ⟨X,3,none⟩ v3).setCell ⟨X,4,none⟩ v4).heap.size:=
 (nO (p:=⟨X,4,none⟩) (nO (p:=⟨X,3,none⟩) (nO (p:=⟨X,2,none⟩) (nO (p:=⟨X,1,none⟩) (nO (p:=⟨X,0,none⟩) h hG hM hC v0) hG hM hC v1) hG hM hC v2) hG hM hC v3) hG hM hC v4).more zs
end
end Go.Proofs.YtpmafoalhnaokaaGreat
