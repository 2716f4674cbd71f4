/- WP18 P19 -/
import Derived.Test.YthaelabgfnnebaaGreatA5
set_option maxRecDepth 100000
set_option maxHeartbeats 16000000
set_option linter.unusedVariables false
set_option linter.unusedSectionVars false
open Go.IntKind(i64)
open Go.Lib(hid)
open Go.Proofs.Tryz
open Go.Value(int)
namespace Go.Proofs.YthaelabgfnnebaaGreat.W
open Go.RowKit Go.Sort
theorem uT(b:Bk)(s:Nat→Int)(h:Ht)(k:Nat)(w:World)(hA:b.At w w.heap.size)(hk:k<b.nm)(ok:Mv.ok b k)(Ay:b.ng≤3)(RA:k<6)(hl:h.lies<64)
 (hs:∀g,g<3→-100000≤s g∧s g≤100000)(hm:-1000≤h.real k∧h.real k≤1000):
 CallsIn SF 0 prog 79 #[b.val,lV s,h.val,int i64 k] w fun e w'=>e=.returned (lV (yA b s h k))∧Below w.heap.size w w':=by
 obtain⟨days,most,gA,ng,gc,g,mA,nm,mc,m,cA,nc,cc,c⟩:=b
 obtain⟨hf,hmm,lies⟩:=h
 simp only at hk Ay hl
 obtain⟨o1,o2,-,-,-⟩:=ok
 simp only at o1 o2
 have hnm:=hA.nm
 simp only at hnm
 unfold maxLen at hnm
 have hR:∀w,CallsIn SF 0 prog 57 #[.agg #[int i64 (hf 0),int i64 (hf 1),int i64 (hf 2),int i64 (hmm 0),int i64 (hmm 1),int i64 (hmm 2),int i64 (hmm 3),int i64 (hmm 4),int i64 (hmm 5),int i64 lies],int i64 k] w fun e w'=>e=.returned (int i64 ((⟨hf,hmm,lies⟩:Ht).real k))∧Below w.heap.size w w':=fun w=>nK ⟨hf,hmm,lies⟩ k w hl RA
 obtain⟨rk,bz⟩:∃rk,rk=(⟨hf,hmm,lies⟩:Ht).real k:=⟨_,rfl⟩
 have hd:yA ⟨days,most,gA,ng,gc,g,mA,nm,mc,m,cA,nc,cc,c⟩ s ⟨hf,hmm,lies⟩ k=fun(q:Nat)=>if (m k).good=(q:Int) then s q+(if (m k).kind=0∨(m k).kind=4 then rk else - rk) else s q:=by
  funext q;unfold yA Yv;rw[bz]
 rw[hd]
 rw[← bz] at hR hm
 clear hd bz
 have hS0:=hs 0 zD
 have hS1:=hs 1 zD
 have hS2:=hs 2 zD
 clear hs
 obtain⟨ad,hA',hbl,-⟩:=hA.m (show 0<nm by omega)
 simp only at hA'
 subst hA'
 simp only[Bk.val,Bk.cells,Ht.val,Ht.cells,lV]
 have hr:=hid (hA.m.row hk)
 have U':=hbl
 have hM:∃mk:Mv,mk=m k:=⟨_,rfl⟩
 obtain⟨mk,hmk⟩:=hM
 rw[← hmk] at o1 o2⊢
 have HR:=hid (show ∀j,j<5→w.cell? ((ad.add (k * 5)).add j)=some (mk.cell j) by rw[hmk];exact hr.out.2)
 clear hr hmk hA
 obtain⟨kd,gd,dy,lo,hi⟩:=mk
 simp only at o1 o2⊢
 have hlt:(ad.add (k * 5)).block<w.heap.size:=by rw[aH];exact hbl
 obtain⟨z0,hz0⟩:∃z,z=s 0:=⟨_,rfl⟩
 obtain⟨z1,hz1⟩:∃z,z=s 1:=⟨_,rfl⟩
 obtain⟨z2,hz2⟩:∃z,z=s 2:=⟨_,rfl⟩
 simp only[← hz0,← hz1,← hz2] at hS0 hS1 hS2⊢
 clear hz0 hz1 hz2
 have e:∀j,j<5→((((w.alloc (.cells #[int i64 days,int i64 most,.slice gA ng gc,.slice (some ad) nm mc,.slice cA nc cc] 74)).alloc (.cells #[int i64 z0,int i64 z1,int i64 z2] 85)).alloc (.cells #[int i64 (hf 0),int i64 (hf 1),int i64 (hf 2),int i64 (hmm 0),int i64 (hmm 1),int i64 (hmm 2),int i64 (hmm 3),int i64 (hmm 4),int i64 (hmm 5),int i64 lies] 88)).alloc (.cells #[int i64 0,int i64 0,int i64 0] 85)).cell? ((ad.add (k * 5)).add j)=some ((⟨kd,gd,dy,lo,hi⟩:Mv).cell j):=fun j hj=>((bw:Below w.heap.size w ((((w.alloc (.cells #[int i64 days,int i64 most,.slice gA ng gc,.slice (some ad) nm mc,.slice cA nc cc] 74)).alloc (.cells #[int i64 z0,int i64 z1,int i64 z2] 85)).alloc (.cells #[int i64 (hf 0),int i64 (hf 1),int i64 (hf 2),int i64 (hmm 0),int i64 (hmm 1),int i64 (hmm 2),int i64 (hmm 3),int i64 (hmm 4),int i64 (hmm 5),int i64 lies] 88)).alloc (.cells #[int i64 0,int i64 0,int i64 0] 85))).cell (by rw[aH,aH];exact hbl)).trans (HR.out j hj)
 have c0:((((w.alloc (.cells #[int i64 days,int i64 most,.slice gA ng gc,.slice (some ad) nm mc,.slice cA nc cc] 74)).alloc (.cells #[int i64 z0,int i64 z1,int i64 z2] 85)).alloc (.cells #[int i64 (hf 0),int i64 (hf 1),int i64 (hf 2),int i64 (hmm 0),int i64 (hmm 1),int i64 (hmm 2),int i64 (hmm 3),int i64 (hmm 4),int i64 (hmm 5),int i64 lies] 88)).alloc (.cells #[int i64 0,int i64 0,int i64 0] 85)).cell? (ad.add (k * 5))=some (int i64 kd):=e 0 zD
 have c1:((((w.alloc (.cells #[int i64 days,int i64 most,.slice gA ng gc,.slice (some ad) nm mc,.slice cA nc cc] 74)).alloc (.cells #[int i64 z0,int i64 z1,int i64 z2] 85)).alloc (.cells #[int i64 (hf 0),int i64 (hf 1),int i64 (hf 2),int i64 (hmm 0),int i64 (hmm 1),int i64 (hmm 2),int i64 (hmm 3),int i64 (hmm 4),int i64 (hmm 5),int i64 lies] 88)).alloc (.cells #[int i64 0,int i64 0,int i64 0] 85)).cell? ⟨(ad.add (k * 5)).block,(ad.add (k * 5)).off+1,none⟩=some (int i64 gd):=e 1 zD
 have c2:((((w.alloc (.cells #[int i64 days,int i64 most,.slice gA ng gc,.slice (some ad) nm mc,.slice cA nc cc] 74)).alloc (.cells #[int i64 z0,int i64 z1,int i64 z2] 85)).alloc (.cells #[int i64 (hf 0),int i64 (hf 1),int i64 (hf 2),int i64 (hmm 0),int i64 (hmm 1),int i64 (hmm 2),int i64 (hmm 3),int i64 (hmm 4),int i64 (hmm 5),int i64 lies] 88)).alloc (.cells #[int i64 0,int i64 0,int i64 0] 85)).cell? ⟨(ad.add (k * 5)).block,(ad.add (k * 5)).off+2,none⟩=some (int i64 dy):=e 2 zD
 have c3:((((w.alloc (.cells #[int i64 days,int i64 most,.slice gA ng gc,.slice (some ad) nm mc,.slice cA nc cc] 74)).alloc (.cells #[int i64 z0,int i64 z1,int i64 z2] 85)).alloc (.cells #[int i64 (hf 0),int i64 (hf 1),int i64 (hf 2),int i64 (hmm 0),int i64 (hmm 1),int i64 (hmm 2),int i64 (hmm 3),int i64 (hmm 4),int i64 (hmm 5),int i64 lies] 88)).alloc (.cells #[int i64 0,int i64 0,int i64 0] 85)).cell? ⟨(ad.add (k * 5)).block,(ad.add (k * 5)).off+3,none⟩=some (int i64 lo):=e 3 zD
 have c4:((((w.alloc (.cells #[int i64 days,int i64 most,.slice gA ng gc,.slice (some ad) nm mc,.slice cA nc cc] 74)).alloc (.cells #[int i64 z0,int i64 z1,int i64 z2] 85)).alloc (.cells #[int i64 (hf 0),int i64 (hf 1),int i64 (hf 2),int i64 (hmm 0),int i64 (hmm 1),int i64 (hmm 2),int i64 (hmm 3),int i64 (hmm 4),int i64 (hmm 5),int i64 lies] 88)).alloc (.cells #[int i64 0,int i64 0,int i64 0] 85)).cell? ⟨(ad.add (k * 5)).block,(ad.add (k * 5)).off+4,none⟩=some (int i64 hi):=e 4 zD
 clear e
 gi_enter func79,ntmps79
 gi_wp2
 obtain⟨wq,hwq⟩:∃wq,wq=((((w.alloc (.cells #[int i64 days,int i64 most,.slice gA ng gc,.slice (some ad) nm mc,.slice cA nc cc] 74)).alloc (.cells #[int i64 z0,int i64 z1,int i64 z2] 85)).alloc (.cells #[int i64 (hf 0),int i64 (hf 1),int i64 (hf 2),int i64 (hmm 0),int i64 (hmm 1),int i64 (hmm 2),int i64 (hmm 3),int i64 (hmm 4),int i64 (hmm 5),int i64 lies] 88)).alloc (.cells #[int i64 0,int i64 0,int i64 0] 85)).alloc (.cells #[int i64 kd,int i64 gd,int i64 dy,int i64 lo,int i64 hi] 52):=⟨_,rfl⟩
 have hq1:Whole wq (w.heap.size+1) 85 #[int i64 z0,int i64 z1,int i64 z2]:=by
  have e:=((((Whole.new (w.alloc (.cells #[int i64 days,int i64 most,.slice gA ng gc,.slice (some ad) nm mc,.slice cA nc cc] 74)) 85 #[int i64 z0,int i64 z1,int i64 z2]).alloc (.cells #[int i64 (hf 0),int i64 (hf 1),int i64 (hf 2),int i64 (hmm 0),int i64 (hmm 1),int i64 (hmm 2),int i64 (hmm 3),int i64 (hmm 4),int i64 (hmm 5),int i64 lies] 88)).alloc (.cells #[int i64 0,int i64 0,int i64 0] 85)).alloc (.cells #[int i64 kd,int i64 gd,int i64 dy,int i64 lo,int i64 hi] 52))
  rw[hwq];simpa using e
 have hq2:Whole wq (w.heap.size+2) 88 #[int i64 (hf 0),int i64 (hf 1),int i64 (hf 2),int i64 (hmm 0),int i64 (hmm 1),int i64 (hmm 2),int i64 (hmm 3),int i64 (hmm 4),int i64 (hmm 5),int i64 lies]:=by
  have e:=((Whole.new ((w.alloc (.cells #[int i64 days,int i64 most,.slice gA ng gc,.slice (some ad) nm mc,.slice cA nc cc] 74)).alloc (.cells #[int i64 z0,int i64 z1,int i64 z2] 85)) 88 #[int i64 (hf 0),int i64 (hf 1),int i64 (hf 2),int i64 (hmm 0),int i64 (hmm 1),int i64 (hmm 2),int i64 (hmm 3),int i64 (hmm 4),int i64 (hmm 5),int i64 lies]).alloc (.cells #[int i64 0,int i64 0,int i64 0] 85)).alloc (.cells #[int i64 kd,int i64 gd,int i64 dy,int i64 lo,int i64 hi] 52)
  rw[hwq];simpa using e
 have hq3:Whole wq (w.heap.size+3) 85 #[int i64 0,int i64 0,int i64 0]:=by
  have e:=(Whole.new (((w.alloc (.cells #[int i64 days,int i64 most,.slice gA ng gc,.slice (some ad) nm mc,.slice cA nc cc] 74)).alloc (.cells #[int i64 z0,int i64 z1,int i64 z2] 85)).alloc (.cells #[int i64 (hf 0),int i64 (hf 1),int i64 (hf 2),int i64 (hmm 0),int i64 (hmm 1),int i64 (hmm 2),int i64 (hmm 3),int i64 (hmm 4),int i64 (hmm 5),int i64 lies] 88)) 85 #[int i64 0,int i64 0,int i64 0]).alloc (.cells #[int i64 kd,int i64 gd,int i64 dy,int i64 lo,int i64 hi] 52)
  rw[hwq];simpa using e
 have hq4:Whole wq (w.heap.size+4) 52 #[int i64 kd,int i64 gd,int i64 dy,int i64 lo,int i64 hi]:=by
  have e:=Whole.new ((((w.alloc (.cells #[int i64 days,int i64 most,.slice gA ng gc,.slice (some ad) nm mc,.slice cA nc cc] 74)).alloc (.cells #[int i64 z0,int i64 z1,int i64 z2] 85)).alloc (.cells #[int i64 (hf 0),int i64 (hf 1),int i64 (hf 2),int i64 (hmm 0),int i64 (hmm 1),int i64 (hmm 2),int i64 (hmm 3),int i64 (hmm 4),int i64 (hmm 5),int i64 lies] 88)).alloc (.cells #[int i64 0,int i64 0,int i64 0] 85)) 52 #[int i64 kd,int i64 gd,int i64 dy,int i64 lo,int i64 hi]
  rw[hwq];simpa using e
 have hbq:Below w.heap.size w wq:=by rw[hwq];exact bw
 have BB:wq.heap.size=w.heap.size+5:=by rw[hwq];simp
 rw[← hwq]
 clear c0 c1 c2 c3 c4 hwq HR hlt hbl U'
 have g2:Whole wq (w.heap.size+1+1) _ _:=hq2
 have g3:Whole wq (w.heap.size+1+1+1) _ _:=hq3
 have g4:Whole wq (w.heap.size+1+1+1+1) _ _:=hq4
 clear hq2 hq3 hq4
 have t1:w.heap.size+1<wq.heap.size:=zo
 have t2:w.heap.size+1+1<wq.heap.size:=zo
 have t3:w.heap.size+1+1+1<wq.heap.size:=zo
 have t4:w.heap.size+1+1+1+1<wq.heap.size:=zo
 have a0:=hq1.cell 0
 have a1:=hq1.cell 1
 have a2:=hq1.cell 2
 have af:=hq1.thaw
 have d0:=g4.cell 0
 have d1:=g4.cell 1
 have h0:=g2.cell 0
 have h1:=g2.cell 1
 have h2:=g2.cell 2
 have h3:=g2.cell 3
 have h4:=g2.cell 4
 have h5:=g2.cell 5
 have h6:=g2.cell 6
 have h7:=g2.cell 7
 have h8:=g2.cell 8
 have h9:=g2.cell 9
 obtain⟨xk,fk,bj,VE⟩:=RY o1
 have hix:=fun w=>(VE w).1
 have hif:=fun w=>(VE w).2
 clear VE
 have fW:=hid hbq
 have Yd:∀a b:Int,-100000≤a∧a≤100000→-1000≤b∧b≤1000→wrap64 (a+b)=a+b∧wrap64 (a - b)=a - b:=fun a b h1 h2=>⟨IntWalk.wrap64_in _ zo,IntWalk.wrap64_in _ zo⟩
 have Pd:=hid (Yd _ _ hS0 hm)
 have Pe:=hid (Yd _ _ hS1 hm)
 have Pl:=hid (Yd _ _ hS2 hm)
 clear hbq Yd hS0 hS1 hS2 hm
 have B8:=cell_regrown a0
 have B9:=cell_regrown a1
 have Cd:=cell_regrown a2
 have Cf:=cell_regrown d0
 have Cp:=cell_regrown d1
 have Cs:=cell_regrown h0
 have CE:=cell_regrown h1
 have CH:=cell_regrown h2
 have CI:=cell_regrown h3
 have CR:=cell_regrown h4
 have C6:=cell_regrown h5
 have Dd:=cell_regrown h6
 have De:=cell_regrown h7
 have Ds:=cell_regrown h8
 have DD:=cell_regrown h9
 have cK:∀d os,CallsIn SF 0 prog 106 #[] (grow (redrawn wq d) os) fun e w''=>e=.returned (.agg wI)∧∃p:Regrown,w''=grow (redrawn wq p.d) p.os:=fun d os=>CallsIn.regrown_of (VQ _)
 have cR:∀d os,CallsIn SF 0 prog 57 #[.agg #[int i64 (hf 0),int i64 (hf 1),int i64 (hf 2),int i64 (hmm 0),int i64 (hmm 1),int i64 (hmm 2),int i64 (hmm 3),int i64 (hmm 4),int i64 (hmm 5),int i64 lies],int i64 k] (grow (redrawn wq d) os) fun e w''=>e=.returned (int i64 rk)∧∃p:Regrown,w''=grow (redrawn wq p.d) p.os:=fun d os=>CallsIn.regrown_of (hR _)
 have cM:∀x y d os,CallsIn SF 0 prog 130 #[int i64 x,int i64 y] (grow (redrawn wq d) os) fun e w''=>e=.returned (int i64 (wrap64 (x+y)))∧∃p:Regrown,w''=grow (redrawn wq p.d) p.os:=fun x y d os=>CallsIn.regrown_of ((cF x y _).mono fun e w' h=>⟨h.1,h.2 ▸ Below.refl _ _⟩)
 have cL:∀x y d os,CallsIn SF 0 prog 131 #[int i64 x,int i64 y] (grow (redrawn wq d) os) fun e w''=>e=.returned (int i64 (wrap64 (x - y)))∧∃p:Regrown,w''=grow (redrawn wq p.d) p.os:=fun x y d os=>CallsIn.regrown_of ((cv x y _).mono fun e w' h=>⟨h.1,h.2 ▸ Below.refl _ _⟩)
 have Q1:=hid hq1
 have Q3:=hid g3
 clear a0 a1 a2 af d0 d1 h0 h1 h2 h3 h4 h5 h6 h7 h8 h9 t1 t2 t3 t4 hR hq1 g2 g3 g4
 have fin:∀ (zg u:Int) (f:Nat),(f=130∧(kd=0∨kd=4)∧u=zg+rk∨f=131∧¬ (kd=0∨kd=4)∧u=zg - rk)→wrap64 (zg+rk)=zg+rk∧wrap64 (zg - rk)=zg - rk→
  (∀d os,CallsIn SF 0 prog f #[int i64 zg,int i64 rk] (grow (redrawn wq d) os) fun e w''=>e=.returned (int i64 u)∧∃p:Regrown,w''=grow (redrawn wq p.d) p.os):=fun zg u f h hw d os=>by
  rcases h with⟨rfl,-,rfl⟩|⟨rfl,-,rfl⟩
  ·have:=cM zg rk d os;rwa[hw.1] at this
  ·have:=cL zg rk d os;rwa[hw.2] at this
 clear cM cL
 have hU:∀zg:Int,∃u,u=zg+(if kd=0∨kd=4 then rk else - rk)∧(fk=130∧(kd=0∨kd=4)∧u=zg+rk∨fk=131∧¬ (kd=0∨kd=4)∧u=zg - rk):=fun zg=>by
  rcases bj with⟨h1,h2⟩|⟨h1,h2⟩
  ·exact⟨_,rfl,.inl ⟨h1,h2,by rw[if_pos h2]⟩⟩
  ·exact⟨_,rfl,.inr ⟨h1,h2,by rw[if_neg h2];omega⟩⟩
 obtain⟨u0,hu0,hv0⟩:=hU z0
 obtain⟨u1,hu1,hv1⟩:=hU z1
 obtain⟨u2,hu2,hv2⟩:=hU z2
 have gl:=fin z0 u0 fk hv0 Pd.out
 have gm:=fin z1 u1 fk hv1 Pe.out
 have gn:=fin z2 u2 fk hv2 Pl.out
 have SW:=hid hu0
 have SZ:=hid hu1
 have S0:=hid hu2
 clear hU fin hv0 hv1 hv2 hu0 hu1 hu2 Pd Pe Pl
 have Ax:fk=130∨fk=131:=bj.imp (·.1) (·.1)
 clear bj
 rcases Ax with rfl|rfl
 all_goals
  rcases(show gd=0∨gd=1∨gd=2 by omega) with rfl|rfl|rfl
  all_goals clear o1 o2
  ·refine aJ 16 rfl zk zk ?_
   simp only[List.take_succ_cons,List.take_zero,List.drop_succ_cons,List.drop_zero]
   repeat (quiet_step_in (first|exact cK _ _|exact cR _ _|exact gl _ _|exact gm _ _|exact gn _ _))
   refine wpQuietIn_nil ?_
   rintro w' ⟨⟨dq,osq⟩,rfl⟩
   have bg:=below_regrown wq dq osq
   clear Cs CE CH CI CR C6 Dd De Ds DD B8 B9 Cd Cf Cp cK cR gl gm gn hix hif
   generalize grow (redrawn wq dq) osq=w9 at bg⊢
   have W1:=Q1.out.below bg Q1.out.lt
   have W3:=Q3.out.below bg Q3.out.lt
   have x0:=W1.cell 0
   have x1:=W1.cell 1
   have x2:=W1.cell 2
   have xf:=W1.thaw
   have yc:=W3.cell
   have yf:=W3.thaw
   have l1:=W1.lt
   have l3:=W3.lt
   have V3:=hid W3
   have Rh:=hid (fW.out.trans (bg.mono zo))
   clear bg Q1 Q3 fW W1 W3 BB hnm hl Ay RA hk
   rename_i Kr Qr hKr
   refine wpListIn_plain rfl (fun K hK=>?_)
   go_simp
   refine hK _ _ (wpListIn_nil (hKr _ _ ?_))
   clear hKr Kr hK K
   apply wpIn_seq_k
   intro K hK
   apply wpIn_region_lit
   refine wpListIn_plain rfl (fun K2 hK2=>?_)
   go_simp
   refine hK2 _ _ ?_
   clear hK2 K2
   refine wpListIn_plain rfl (fun K2 hK2=>?_)
   go_simp
   refine hK2 _ _ (wpListIn_nil (hK _ _ ?_))
   clear hK2 K2 hK K
   apply wpIn_ret
   have U0:=V3.out.other (p:=⟨w.heap.size+1,0,none⟩) zm (int i64 u0)
   have U3:=((U0.set 0 (int i64 u0)).set 1 (int i64 z1)).set 2 (int i64 z2)
   have q0:=U3.cell 0
   have q1:=U3.cell 1
   have q2:=U3.cell 2
   clear x0 x1 x2 xf yc yf l1 l3
   refine bodyPost_ret (v:=.agg #[int i64 u0,int i64 z1,int i64 z2]) (by simp[results,results79,go_sem,q0,q1,q2]) rfl ⟨?_,?_⟩
   ·rw[SW.out];simp
   ·exact(((Rh.out.setCell (p:=⟨w.heap.size+1,0,none⟩) (Nat.le_succ _) _).setCell (p:=⟨w.heap.size+1+1+1,0,none⟩) (by show w.heap.size≤w.heap.size+1+1+1;omega) _).setCell (p:=⟨w.heap.size+1+1+1,1,none⟩) (by show w.heap.size≤w.heap.size+1+1+1;omega) _).setCell (p:=⟨w.heap.size+1+1+1,2,none⟩) (by show w.heap.size≤w.heap.size+1+1+1;omega) _
  ·refine aJ 16 rfl zk zk ?_
   simp only[List.take_succ_cons,List.take_zero,List.drop_succ_cons,List.drop_zero]
   repeat (quiet_step_in (first|exact cK _ _|exact cR _ _|exact gl _ _|exact gm _ _|exact gn _ _))
   refine wpQuietIn_nil ?_
   rintro w' ⟨⟨dq,osq⟩,rfl⟩
   have bg:=below_regrown wq dq osq
   clear Cs CE CH CI CR C6 Dd De Ds DD B8 B9 Cd Cf Cp cK cR gl gm gn hix hif
   generalize grow (redrawn wq dq) osq=w9 at bg⊢
   have W1:=Q1.out.below bg Q1.out.lt
   have W3:=Q3.out.below bg Q3.out.lt
   have x0:=W1.cell 0
   have x1:=W1.cell 1
   have x2:=W1.cell 2
   have xf:=W1.thaw
   have yc:=W3.cell
   have yf:=W3.thaw
   have l1:=W1.lt
   have l3:=W3.lt
   have V3:=hid W3
   have Rh:=hid (fW.out.trans (bg.mono zo))
   clear bg Q1 Q3 fW W1 W3 BB hnm hl Ay RA hk
   rename_i Kr Qr hKr
   refine wpListIn_plain rfl (fun K hK=>?_)
   go_simp
   refine hK _ _ (wpListIn_nil (hKr _ _ ?_))
   clear hKr Kr hK K
   apply wpIn_seq_k
   intro K hK
   apply wpIn_region_lit
   refine wpListIn_plain rfl (fun K2 hK2=>?_)
   go_simp
   refine hK2 _ _ ?_
   clear hK2 K2
   refine wpListIn_plain rfl (fun K2 hK2=>?_)
   go_simp
   refine hK2 _ _ (wpListIn_nil (hK _ _ ?_))
   clear hK2 K2 hK K
   apply wpIn_ret
   have U0:=V3.out.other (p:=⟨w.heap.size+1,1,none⟩) zm (int i64 u1)
   have U3:=((U0.set 0 (int i64 z0)).set 1 (int i64 u1)).set 2 (int i64 z2)
   have q0:=U3.cell 0
   have q1:=U3.cell 1
   have q2:=U3.cell 2
   clear x0 x1 x2 xf yc yf l1 l3
   refine bodyPost_ret (v:=.agg #[int i64 z0,int i64 u1,int i64 z2]) (by simp[results,results79,go_sem,q0,q1,q2]) rfl ⟨?_,?_⟩
   ·rw[SZ.out];simp
   ·exact(((Rh.out.setCell (p:=⟨w.heap.size+1,1,none⟩) (Nat.le_succ _) _).setCell (p:=⟨w.heap.size+1+1+1,0,none⟩) (by show w.heap.size≤w.heap.size+1+1+1;omega) _).setCell (p:=⟨w.heap.size+1+1+1,1,none⟩) (by show w.heap.size≤w.heap.size+1+1+1;omega) _).setCell (p:=⟨w.heap.size+1+1+1,2,none⟩) (by show w.heap.size≤w.heap.size+1+1+1;omega) _
  ·refine aJ 16 rfl zk zk ?_
   simp only[List.take_succ_cons,List.take_zero,List.drop_succ_cons,List.drop_zero]
   repeat (quiet_step_in (first|exact cK _ _|exact cR _ _|exact gl _ _|exact gm _ _|exact gn _ _))
   refine wpQuietIn_nil ?_
   rintro w' ⟨⟨dq,osq⟩,rfl⟩
   have bg:=below_regrown wq dq osq
   clear Cs CE CH CI CR C6 Dd De Ds DD B8 B9 Cd Cf Cp cK cR gl gm gn hix hif
   generalize grow (redrawn wq dq) osq=w9 at bg⊢
   have W1:=Q1.out.below bg Q1.out.lt
   have W3:=Q3.out.below bg Q3.out.lt
   have x0:=W1.cell 0
   have x1:=W1.cell 1
   have x2:=W1.cell 2
   have xf:=W1.thaw
   have yc:=W3.cell
   have yf:=W3.thaw
   have l1:=W1.lt
   have l3:=W3.lt
   have V3:=hid W3
   have Rh:=hid (fW.out.trans (bg.mono zo))
   clear bg Q1 Q3 fW W1 W3 BB hnm hl Ay RA hk
   rename_i Kr Qr hKr
   refine wpListIn_plain rfl (fun K hK=>?_)
   go_simp
   refine hK _ _ (wpListIn_nil (hKr _ _ ?_))
   clear hKr Kr hK K
   apply wpIn_seq_k
   intro K hK
   apply wpIn_region_lit
   refine wpListIn_plain rfl (fun K2 hK2=>?_)
   go_simp
   refine hK2 _ _ ?_
   clear hK2 K2
   refine wpListIn_plain rfl (fun K2 hK2=>?_)
   go_simp
   refine hK2 _ _ (wpListIn_nil (hK _ _ ?_))
   clear hK2 K2 hK K
   apply wpIn_ret
   have U0:=V3.out.other (p:=⟨w.heap.size+1,2,none⟩) zm (int i64 u2)
   have U3:=((U0.set 0 (int i64 z0)).set 1 (int i64 z1)).set 2 (int i64 u2)
   have q0:=U3.cell 0
   have q1:=U3.cell 1
   have q2:=U3.cell 2
   clear x0 x1 x2 xf yc yf l1 l3
   refine bodyPost_ret (v:=.agg #[int i64 z0,int i64 z1,int i64 u2]) (by simp[results,results79,go_sem,q0,q1,q2]) rfl ⟨?_,?_⟩
   ·rw[S0.out];simp
   ·exact(((Rh.out.setCell (p:=⟨w.heap.size+1,2,none⟩) (Nat.le_succ _) _).setCell (p:=⟨w.heap.size+1+1+1,0,none⟩) (by show w.heap.size≤w.heap.size+1+1+1;omega) _).setCell (p:=⟨w.heap.size+1+1+1,1,none⟩) (by show w.heap.size≤w.heap.size+1+1+1;omega) _).setCell (p:=⟨w.heap.size+1+1+1,2,none⟩) (by show w.heap.size≤w.heap.size+1+1+1;omega) _
end Go.Proofs.YthaelabgfnnebaaGreat.W
namespace Go.Proofs.YthaelabgfnnebaaGreat
open Go.RowKit
theorem uT(b:Bk)(s:Nat→Int)(h:Ht)(k:Nat)(w:World)(hA:b.At w w.heap.size)(hk:k<b.nm)(ok:Mv.ok b k)(Ay:b.ng≤3)(RA:k<6)(hl:h.lies<64)
 (hs:∀g,g<3→-100000≤s g∧s g≤100000)(hm:-1000≤h.real k∧h.real k≤1000):
 CallsIn FF 0 prog 79 #[b.val,lV s,h.val,int i64 k] w fun e w'=>e=.returned (lV (yA b s h k))∧Below w.heap.size w w':=
 CallsIn.wider (W.uT b s h k w hA hk ok Ay RA hl hs hm)
end Go.Proofs.YthaelabgfnnebaaGreat
namespace Go.Proofs.YthaelabgfnnebaaGreat
section
open Go.RowKit
section
variable{w w':World}{b B n:Nat}{t:TypeId}{cs:Array Value}{x y z x' y' z':Value}
theorem Whole.bP(h:Whole w b t cs)(hb:b≠B):Whole (((w.setCell ⟨B,0,none⟩ x).setCell ⟨B,1,none⟩ y).setCell ⟨B,2,none⟩ z) b t cs:=
 ((h.other (p:=⟨B,0,none⟩) hb x).other (p:=⟨B,1,none⟩) hb y).other (p:=⟨B,2,none⟩) hb z
theorem Whole.iE(h:Whole w B t #[x',y',z']):Whole (((w.setCell ⟨B,0,none⟩ x).setCell ⟨B,1,none⟩ y).setCell ⟨B,2,none⟩ z) B t #[x,y,z]:=
 ((h.set 0 x).set 1 y).set 2 z
theorem aB(h:Below n w w')(hB:n≤B):Below n w (((w'.setCell ⟨B,0,none⟩ x).setCell ⟨B,1,none⟩ y).setCell ⟨B,2,none⟩ z):=
 ((h.setCell (p:=⟨B,0,none⟩) hB x).setCell (p:=⟨B,1,none⟩) hB y).setCell (p:=⟨B,2,none⟩) hB z
end
structure oD(h:Ht):Prop where
 f:∀i,i<3→0≤h.f i∧h.f i≤99
 m:∀i,i<6→0≤h.m i∧h.m i≤99
 lies:h.lies<64
theorem oD.real{h:Ht}(ok:oD h){k:Nat}(hk:k<6):0≤h.real k∧h.real k≤99:=by
 unfold Ht.real
 have:=ok.m k hk
 split <;> omega
def stk(b:Bk)(h:Ht)(d:Int):Nat→Nat→Int
 | 0=>h.f
 | Nat.succ k=>if (b.m k).day≤d then yA b (stk b h d k) h k else stk b h d k
theorem Kh{b:Bk}{h:Ht}(ok:oD h)(d:Int):∀k:Nat,k≤6→∀g:Nat,g<3→-99 * (k:Int)≤stk b h d k g∧stk b h d k g≤99 * ((k:Int)+1)
 | 0,_,g,hg=>by have:=ok.f g hg;simp only[stk];omega
 | k+1,hk,g,hg=>by
   have ih:=Kh (b:=b) ok d k zo g hg
   have hr:=ok.real (k:=k) zo
   simp only[stk]
   split
   ·unfold yA Yv
    split <;> (try split) <;> (push_cast;omega)
   ·push_cast;omega
theorem gu(b:Bk)(h:Ht)(d:Int)(w:World)(hA:b.At w w.heap.size)(ok:ji b)(Ay:b.ng≤3)(hok:oD h):
 CallsIn FF 0 prog 42 #[b.val,h.val,int i64 d] w fun e w'=>e=.returned (lV (stk b h d b.nm))∧Below w.heap.size w w':=by
 have xz:∀ (s:Nat→Int) (k:Nat) (w:World),b.At w w.heap.size→k<b.nm→(∀g,g<3→-100000≤s g∧s g≤100000)→CallsIn FF 0 prog 79 #[b.val,lV s,h.val,int i64 k] w fun e w'=>e=.returned (lV (yA b s h k))∧Below w.heap.size w w':=fun s k w hA hk hs=>
  uT b s h k w hA hk (ok.2 k hk) Ay (Nat.lt_of_lt_of_le hk ok.1) hok.lies hs (by have:=hok.real (k:=k) (Nat.lt_of_lt_of_le hk ok.1);omega)
 have hst:Hid (∀k:Nat,k≤b.nm→∀g:Nat,g<3→-100000≤stk b h d k g∧stk b h d k g≤100000):=hid fun k hk g hg=>by
  have:=Kh (b:=b) hok d k (Nat.le_trans hk ok.1) g hg
  have:=ok.1
  omega
 have RB:=ok.1
 obtain⟨days,most,gA,ng,gc,g,mA,nm,mc,m,cA,nc,cc,c⟩:=b
 obtain⟨hf,hmm,lies⟩:=h
 simp only[Bk.val,Bk.cells,Ht.val,Ht.cells,lV] at xz⊢
 simp only at Ay RB
 obtain⟨S,hS⟩:∃S,S=stk (⟨days,most,gA,ng,gc,g,mA,nm,mc,m,cA,nc,cc,c⟩:Bk) ⟨hf,hmm,lies⟩ d:=⟨_,rfl⟩
 have hS0:S 0=hf:=by rw[hS];rfl
 have Mu:∀k,S (k+1)=if (m k).day≤d then yA (⟨days,most,gA,ng,gc,g,mA,nm,mc,m,cA,nc,cc,c⟩:Bk) (S k) ⟨hf,hmm,lies⟩ k else S k:=fun k=>by rw[hS];rfl
 rw[← hS] at hst⊢
 clear hS ok hok
 have HA:=hid hA
 have tM:=hid xz
 have H':=hid Mu
 clear hA xz Mu
 obtain⟨w4,hw4⟩:∃w4,w4=(((w.alloc (.cells #[int i64 days,int i64 most,.slice gA ng gc,.slice mA nm mc,.slice cA nc cc] 74)).alloc (.cells #[int i64 (hf 0),int i64 (hf 1),int i64 (hf 2),int i64 (hmm 0),int i64 (hmm 1),int i64 (hmm 2),int i64 (hmm 3),int i64 (hmm 4),int i64 (hmm 5),int i64 lies] 88)).alloc (.cells #[int i64 0,int i64 0,int i64 0] 85)).alloc (.cells #[int i64 (hf 0),int i64 (hf 1),int i64 (hf 2)] 85):=⟨_,rfl⟩
 have W0:Hid (Whole w4 w.heap.size 74 #[int i64 days,int i64 most,.slice gA ng gc,.slice mA nm mc,.slice cA nc cc]):=hid (by rw[hw4];exact(((Whole.new w _ _).alloc _).alloc _).alloc _)
 have W1:Hid (Whole w4 (w.heap.size+1) 88 #[int i64 (hf 0),int i64 (hf 1),int i64 (hf 2),int i64 (hmm 0),int i64 (hmm 1),int i64 (hmm 2),int i64 (hmm 3),int i64 (hmm 4),int i64 (hmm 5),int i64 lies]):=hid (by
  have:=((Whole.new (w.alloc (.cells #[int i64 days,int i64 most,.slice gA ng gc,.slice mA nm mc,.slice cA nc cc] 74)) 88 #[int i64 (hf 0),int i64 (hf 1),int i64 (hf 2),int i64 (hmm 0),int i64 (hmm 1),int i64 (hmm 2),int i64 (hmm 3),int i64 (hmm 4),int i64 (hmm 5),int i64 lies]).alloc (.cells #[int i64 0,int i64 0,int i64 0] 85)).alloc (.cells #[int i64 (hf 0),int i64 (hf 1),int i64 (hf 2)] 85)
  rw[World.size_alloc] at this;rw[hw4];exact this)
 have W2:Hid (Whole w4 (w.heap.size+1+1) 85 #[int i64 0,int i64 0,int i64 0]):=hid (by
  have:=(Whole.new ((w.alloc (.cells #[int i64 days,int i64 most,.slice gA ng gc,.slice mA nm mc,.slice cA nc cc] 74)).alloc (.cells #[int i64 (hf 0),int i64 (hf 1),int i64 (hf 2),int i64 (hmm 0),int i64 (hmm 1),int i64 (hmm 2),int i64 (hmm 3),int i64 (hmm 4),int i64 (hmm 5),int i64 lies] 88)) 85 #[int i64 0,int i64 0,int i64 0]).alloc (.cells #[int i64 (hf 0),int i64 (hf 1),int i64 (hf 2)] 85)
  rw[World.size_alloc,World.size_alloc] at this;rw[hw4];exact this)
 have W3:Hid (Whole w4 (w.heap.size+1+1+1) 85 #[int i64 (S 0 0),int i64 (S 0 1),int i64 (S 0 2)]):=hid (by
  have:=Whole.new (((w.alloc (.cells #[int i64 days,int i64 most,.slice gA ng gc,.slice mA nm mc,.slice cA nc cc] 74)).alloc (.cells #[int i64 (hf 0),int i64 (hf 1),int i64 (hf 2),int i64 (hmm 0),int i64 (hmm 1),int i64 (hmm 2),int i64 (hmm 3),int i64 (hmm 4),int i64 (hmm 5),int i64 lies] 88)).alloc (.cells #[int i64 0,int i64 0,int i64 0] 85)) 85 #[int i64 (hf 0),int i64 (hf 1),int i64 (hf 2)]
  rw[World.size_alloc,World.size_alloc,World.size_alloc] at this;rw[hw4,hS0];exact this)
 have WB:Hid (Below w.heap.size w w4):=hid (by rw[hw4];exact bw)
 have kp:=hid hw4
 clear hw4 hS0
 gi_enter func42,ntmps42
 gi_wp2
 rw[← kp.out]
 clear kp
 gi_loopw [16] (fun i wr=>∃k:Nat,k≤nm∧i=int i64 k∧Hid (Whole wr w.heap.size 74 #[int i64 days,int i64 most,.slice gA ng gc,.slice mA nm mc,.slice cA nc cc]∧Whole wr (w.heap.size+1) 88 #[int i64 (hf 0),int i64 (hf 1),int i64 (hf 2),int i64 (hmm 0),int i64 (hmm 1),int i64 (hmm 2),int i64 (hmm 3),int i64 (hmm 4),int i64 (hmm 5),int i64 lies]∧Whole wr (w.heap.size+1+1) 85 #[int i64 0,int i64 0,int i64 0]∧Whole wr (w.heap.size+1+1+1) 85 #[int i64 (S k 0),int i64 (S k 1),int i64 (S k 2)]∧Below w.heap.size w wr)) (fun i _=>nm - (intOf i).toNat)
 case atStart=>exact⟨0,Nat.zero_le _,rfl,hid ⟨W0.out,W1.out,W2.out,W3.out,WB.out⟩⟩
 case round=>
  obtain⟨k,hk,rfl,hR⟩:=hrel
  clear W0 W1 W2 W3 WB
  by_cases hlt:k<nm
  ·obtain⟨wo,rfl⟩:∃wo:World,wo=wr:=⟨_,rfl⟩
   have hs3:=hR.out.2.2.2.1.lt
   have hsz:w.heap.size≤wo.heap.size:=zo
   obtain⟨ad,hA',hbl,-⟩:=HA.out.m (show 0<nm by omega)
   simp only at hA'
   subst hA'
   have hr:=(HA.out.m.below hR.out.2.2.2.2).row hlt
   have c0:wo.cell? (ad.add (k * 5))=some (int i64 (m k).kind):=hr.2 0 zD
   have c1:wo.cell? ⟨(ad.add (k * 5)).block,(ad.add (k * 5)).off+1,none⟩=some (int i64 (m k).good):=hr.2 1 zD
   have c2:wo.cell? ⟨(ad.add (k * 5)).block,(ad.add (k * 5)).off+2,none⟩=some (int i64 (m k).day):=hr.2 2 zD
   have c3:wo.cell? ⟨(ad.add (k * 5)).block,(ad.add (k * 5)).off+3,none⟩=some (int i64 (m k).lo):=hr.2 3 zD
   have c4:wo.cell? ⟨(ad.add (k * 5)).block,(ad.add (k * 5)).off+4,none⟩=some (int i64 (m k).hi):=hr.2 4 zD
   clear hr
   have q0:=hR.out.1.cell
   have q1:=hR.out.2.1.cell
   have q3:=hR.out.2.2.2.1.cell
   have t0:w.heap.size<wo.heap.size:=zo
   have t1:w.heap.size+1<wo.heap.size:=zo
   have t2:w.heap.size+1+1<wo.heap.size:=zo
   by_cases Jm:(m k).day≤d
   ·have hdd:decide ((m k).day≤d)=true:=decide_eq_true Jm
    have Lf:=H'.out k
    rw[if_pos Jm] at Lf
    have iV:=hid Lf
    clear Lf
    gi_wp2_with (gi_at_call 79;refine(tM.out (S k) k _ ((HA.out.below (hR.out.2.2.2.2.trans (bw))).more zm) hlt (hst.out k zo)).mono ?_;rintro e w2 ⟨rfl,hb2⟩;have HB2:Hid (Below wo.heap.size wo w2):=hid ((bw:Below wo.heap.size wo _).trans (hb2.mono zs));clear hb2;have y3:=hR.out.2.2.2.1.below HB2.out hs3;have yc:=y3.cell;have yf:=y3.thaw)
    go_roundw
    case rel=>
     refine⟨k+1,zo,by go_num,hid ⟨(hR.out.1.below HB2.out t0).bP zo,(hR.out.2.1.below HB2.out t1).bP zo,(hR.out.2.2.1.below HB2.out t2).bP zo,?_,aB (hR.out.2.2.2.2.trans (HB2.out.mono hsz)) zo⟩⟩
     rw[iV.out]
     exact y3.iE
    case measure=>simp[intOf];omega
   ·have hdd:decide ((m k).day≤d)=false:=decide_eq_false Jm
    have Lf:=H'.out k
    rw[if_neg Jm] at Lf
    have iV:=hid Lf
    clear Lf
    gi_wp2
    go_roundw
    case rel=>exact⟨k+1,zo,by go_num,hid ⟨hR.out.1.alloc _,hR.out.2.1.alloc _,hR.out.2.2.1.alloc _,by rw[iV.out];exact hR.out.2.2.2.1.alloc _,hR.out.2.2.2.2.alloc hsz _⟩⟩
    case measure=>simp[intOf];omega
  ·obtain rfl:k=nm:=zo
   have q3:=hR.out.2.2.2.1.cell
   have q2:=hR.out.2.2.1.cell
   have DQ:=hR.out.2.2.1.thaw
   gi_wp2
   have U:=(hR.out.2.2.1.iE (x:=int i64 (S k 0)) (y:=int i64 (S k 1)) (z:=int i64 (S k 2)))
   have u0:=U.cell 0
   have u1:=U.cell 1
   have u2:=U.cell 2
   clear q3 q2 DQ
   refine bodyPost_ret (v:=.agg #[int i64 (S k 0),int i64 (S k 1),int i64 (S k 2)]) (by simp[results,results42,go_sem,u0,u1,u2]) rfl ⟨rfl,aB hR.out.2.2.2.2 zo⟩
end
end Go.Proofs.YthaelabgfnnebaaGreat
