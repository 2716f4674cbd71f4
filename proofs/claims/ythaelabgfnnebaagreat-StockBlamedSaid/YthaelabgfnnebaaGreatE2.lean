/- P23 -/
import Derived.Test.YthaelabgfnnebaaGreatE1
set_option maxRecDepth 100000
set_option maxHeartbeats 16000000
set_option linter.unusedVariables false
set_option linter.unusedSectionVars false
open Go.IntKind(i64)
open Go.Lib(hid)
open Go.Proofs.Tryz
open Go.Value(int)
namespace Go.Proofs.YthaelabgfnnebaaGreat
section
open Go.RowKit Go.Sort
theorem fx:VI:=by
 intro b l1 l2 l3 w ok hcap hp h A1 A2 A3 p1 p2 p3 i1 i2 i3
 have po:=MB ok hp
 have h0:∀x∈l3,0≤x:=fun x hx=>(po.2.1 x hx).1
 have hO:=xD b l1 l2 l3 w h ok hcap hp A1 A2 A3 p1 p2 p3 i1 i2 i3
 have hO2:∀W,Below W.heap.size W W:=fun W=>Below.refl _ _
 have hO3:∀w',Below w.heap.size w w'→CallsIn FF 0 prog 52 #[b.val,.slice A1 l1.length p1,.slice A2 l2.length p2,.slice A3 l3.length p3] w' fun e w2=>∃A n p,e=.returned (.tuple #[b.cD A n p,(iA l1 l2 l3).val,int i64 0])∧Below w'.heap.size w' w2:=fun w' hb=>
  xD b l1 l2 l3 w' ((h.below hb).more hb.size) ok hcap hp A1 A2 A3 p1 p2 p3 (aT i1 hb) (aT i2 hb) (aT i3 hb)
 have hS:∀w',Below w.heap.size w w'→CallsIn FF 0 prog 42 #[b.val,(iA l1 l2 l3).val,int i64 b.days] w' fun e w2=>e=.returned (lY (stk b (iA l1 l2 l3) b.days b.nm))∧Below w'.heap.size w' w2:=fun w' hb=>
  gD b (iA l1 l2 l3) b.days w' ((h.below hb).more hb.size) ok.moves ok.bM.1.2 po.1
 have hL:∀w',Below w.heap.size w w'→CallsIn FF 0 prog 53 #[b.val,(iA l1 l2 l3).val] w' fun e w2=>e=.returned (lY (Ee b (iA l1 l2 l3) (b.days.toNat+1)))∧Below w'.heap.size w' w2:=fun w' hb=>
  sf b (iA l1 l2 l3) w' ((h.below hb).more hb.size) ok.moves ok.days ok.bM.1.2 po.1
 have eS:∀q,stk b (iA l1 l2 l3) b.days b.nm q=D9 b l1 l2 l3 q:=fun q=>Ia b l1 l2 l3 h0 b.days q
 have eL:∀q,Ee b (iA l1 l2 l3) (b.days.toNat+1) q=Mj b l1 l2 l3 q:=fun q=>Gz b l1 l2 l3 h0 q _
 unfold EZ
 simp only[← eS,← eL]
 clear eS eL hO hO2 h0
 obtain⟨S,hSd⟩:∃S,S=stk b (iA l1 l2 l3) b.days b.nm:=⟨_,rfl⟩
 obtain⟨L,SU⟩:∃L,L=Ee b (iA l1 l2 l3) (b.days.toNat+1):=⟨_,rfl⟩
 rw[← hSd] at hS⊢
 rw[← SU] at hL⊢
 obtain⟨n1,hn1⟩:∃n1,n1=l1.length:=⟨_,rfl⟩
 obtain⟨n2,hn2⟩:∃n2,n2=l2.length:=⟨_,rfl⟩
 obtain⟨n3,Qk⟩:∃n3,n3=l3.length:=⟨_,rfl⟩
 rw[← hn1,← hn2,← Qk] at hO3⊢
 obtain⟨ht,hht⟩:∃ht,ht=iA l1 l2 l3:=⟨_,rfl⟩
 rw[← hht] at hO3 hS hL
 have BK:=ok.bM.1
 clear hn1 hn2 Qk hht i1 i2 i3 po hp ok h hcap hSd SU
 obtain⟨days,most,gA,ng,gc,g,mA,nm,mc,m,cA,nc,cc,c⟩:=b
 obtain⟨hf,hmm,lies⟩:=ht
 simp only at BK
 have pb:∀w',Below w.heap.size w w'→CallsIn FF 0 prog 52 #[.agg #[int i64 days,int i64 most,.slice gA ng gc,.slice mA nm mc,.slice cA nc cc],.slice A1 n1 p1,.slice A2 n2 p2,.slice A3 n3 p3] w' fun e w2=>∃A n p,e=.returned (.tuple #[.agg #[int i64 days,int i64 most,.slice gA ng gc,.slice mA nm mc,.slice cA nc cc,.slice A n p],.agg #[int i64 (hf 0),int i64 (hf 1),int i64 (hf 2),int i64 (hmm 0),int i64 (hmm 1),int i64 (hmm 2),int i64 (hmm 3),int i64 (hmm 4),int i64 (hmm 5),int i64 lies],int i64 0])∧Below w'.heap.size w' w2:=hO3
 simp only[Bk.val,Bk.cells,Ht.val,Ht.cells,lY] at hS hL⊢
 have HS:=hid hS
 have HL:=hid hL
 have HO:=hid pb
 clear hS hL hO3 pb
 have VB:Hid (Below w.heap.size w (w.alloc (.cells #[int i64 days,int i64 most,.slice gA ng gc,.slice mA nm mc,.slice cA nc cc] 26))):=hid (bw)
 gi_enter func25,ntmps25
 gi_wp2_with (gi_at_call 52;refine(HO.out _ VB.out).mono ?_;rintro e w5 ⟨A5,n5,p5,rfl,hb5⟩;have EW:=hid hb5;clear hb5;have hs5:=EW.out.size;have Fa:=hid ((Whole.new w5 76 #[int i64 days,int i64 most,.slice gA ng gc,.slice mA nm mc,.slice cA nc cc,.slice A5 n5 p5]).alloc (.cells #[int i64 (hf 0),int i64 (hf 1),int i64 (hf 2),int i64 (hmm 0),int i64 (hmm 1),int i64 (hmm 2),int i64 (hmm 3),int i64 (hmm 4),int i64 (hmm 5),int i64 lies] 88));have Lj:=hid (Whole.new (w5.alloc (.cells #[int i64 days,int i64 most,.slice gA ng gc,.slice mA nm mc,.slice cA nc cc,.slice A5 n5 p5] 76)) 88 #[int i64 (hf 0),int i64 (hf 1),int i64 (hf 2),int i64 (hmm 0),int i64 (hmm 1),int i64 (hmm 2),int i64 (hmm 3),int i64 (hmm 4),int i64 (hmm 5),int i64 lies]))
 obtain⟨w6,Gj⟩:∃w6,w6=(w5.alloc (.cells #[int i64 days,int i64 most,.slice gA ng gc,.slice mA nm mc,.slice cA nc cc,.slice A5 n5 p5] 76)).alloc (.cells #[int i64 (hf 0),int i64 (hf 1),int i64 (hf 2),int i64 (hmm 0),int i64 (hmm 1),int i64 (hmm 2),int i64 (hmm 3),int i64 (hmm 4),int i64 (hmm 5),int i64 lies] 88):=⟨_,rfl⟩
 have Jb:Hid (Whole w6 w5.heap.size 76 #[int i64 days,int i64 most,.slice gA ng gc,.slice mA nm mc,.slice cA nc cc,.slice A5 n5 p5]):=hid (by rw[Gj];exact Fa.out)
 have vY:Hid (Whole w6 (w5.heap.size+1) 88 #[int i64 (hf 0),int i64 (hf 1),int i64 (hf 2),int i64 (hmm 0),int i64 (hmm 1),int i64 (hmm 2),int i64 (hmm 3),int i64 (hmm 4),int i64 (hmm 5),int i64 lies]):=hid (by have:=Lj.out;rw[World.size_alloc] at this;rw[Gj];exact this)
 have l8:Hid (Below w.heap.size w w6):=hid (by
  rw[Gj]
  exact((VB.out.trans (EW.out.mono VB.out.size)).alloc (by have:=VB.out.size;omega) _).alloc (by have:=VB.out.size;simp;omega) _)
 have hs6:w6.heap.size=w5.heap.size+2:=by rw[Gj];simp
 rw[← Gj]
 clear Gj Fa Lj
 gi_wp2
 rename_i Qr Kr hKr
 have rest:∀ (ZT lE:Nat) (wz:World),Below w6.heap.size w6 wz→Whole wz ZT 85 #[int i64 (S 0),int i64 (S 1),int i64 (S 2)]→Whole wz lE 85 #[int i64 (L 0),int i64 (L 1),int i64 (L 2)]→Kr {tmps:=#[Value.agg #[int i64 days,int i64 most,.slice gA ng gc,.slice mA nm mc,.slice cA nc cc],.slice A1 n1 p1,.slice A2 n2 p2,.slice A3 n3 p3,.pointer (some ⟨w.heap.size,0,none⟩),undef,undef,undef,.slice none 0 0,.slice none 0 0,int i64 0,Value.pointer (some ⟨w5.heap.size,0,none⟩),.pointer (some ⟨w5.heap.size+1,0,none⟩),.pointer (some ⟨ZT,0,none⟩),.pointer (some ⟨lE,0,none⟩),undef,Value.tuple #[Value.agg #[int i64 days,int i64 most,.slice gA ng gc,.slice mA nm mc,.slice cA nc cc,.slice A5 n5 p5],Value.agg #[int i64 (hf 0),int i64 (hf 1),int i64 (hf 2),int i64 (hmm 0),int i64 (hmm 1),int i64 (hmm 2),int i64 (hmm 3),int i64 (hmm 4),int i64 (hmm 5),int i64 lies],int i64 0],Value.agg #[int i64 days,int i64 most,.slice gA ng gc,.slice mA nm mc,.slice cA nc cc],.slice A1 n1 p1,.slice A2 n2 p2,.slice A3 n3 p3,Value.tuple #[Value.agg #[int i64 days,int i64 most,.slice gA ng gc,.slice mA nm mc,.slice cA nc cc,.slice A5 n5 p5],Value.agg #[int i64 (hf 0),int i64 (hf 1),int i64 (hf 2),int i64 (hmm 0),int i64 (hmm 1),int i64 (hmm 2),int i64 (hmm 3),int i64 (hmm 4),int i64 (hmm 5),int i64 lies],int i64 0],Value.agg #[int i64 days,int i64 most,.slice gA ng gc,.slice mA nm mc,.slice cA nc cc,.slice A5 n5 p5],Value.agg #[int i64 (hf 0),int i64 (hf 1),int i64 (hf 2),int i64 (hmm 0),int i64 (hmm 1),int i64 (hmm 2),int i64 (hmm 3),int i64 (hmm 4),int i64 (hmm 5),int i64 lies],int i64 0,int i64 0,.bool false,undef,Value.pointer (some ⟨w5.heap.size,0,none⟩),Value.agg #[int i64 days,int i64 most,.slice gA ng gc,.slice mA nm mc,.slice cA nc cc],Value.agg #[int i64 (hf 0),int i64 (hf 1),int i64 (hf 2),int i64 (hmm 0),int i64 (hmm 1),int i64 (hmm 2),int i64 (hmm 3),int i64 (hmm 4),int i64 (hmm 5),int i64 lies],Value.pointer (some ⟨w5.heap.size,0,none⟩),Value.pointer (some ⟨w5.heap.size,0,none⟩),Value.pointer (some ⟨w5.heap.size,0,none⟩),int i64 days,.agg #[int i64 (S 0),int i64 (S 1),int i64 (S 2)],Value.pointer (some ⟨w5.heap.size,0,none⟩),Value.agg #[int i64 days,int i64 most,.slice gA ng gc,.slice mA nm mc,.slice cA nc cc],Value.agg #[int i64 (hf 0),int i64 (hf 1),int i64 (hf 2),int i64 (hmm 0),int i64 (hmm 1),int i64 (hmm 2),int i64 (hmm 3),int i64 (hmm 4),int i64 (hmm 5),int i64 lies],.agg #[int i64 (L 0),int i64 (L 1),int i64 (L 2)],undef,undef,undef,undef,undef,undef,undef,undef,undef,undef,undef],defers:=[] } wz:=by
  intro ZT lE wz hbz h13 h14
  refine hKr _ _ ?_
  have vi:=hid (Jb.out.below hbz Jb.out.lt)
  have tZ:Hid (Below w.heap.size w wz):=hid (l8.out.trans (hbz.mono l8.out.size))
  have y:∀i,wz.cell? ⟨w5.heap.size,i,none⟩=(#[int i64 days,int i64 most,.slice gA ng gc,.slice mA nm mc,.slice cA nc cc,.slice A5 n5 p5]:Array Value)[i]?:=vi.out.cell
  have AW:=hid h13
  have A6:=hid h14
  clear hKr hbz h13 h14
  have Qk:(ng:Int)≤3:=zo
  have hn0:(0:Int)≤(ng:Int):=zo
  gi_wp2
  refine iP 8 (fun _=>True) zk ?_
  have hS:True:=trivial
  have hB1:Below w.heap.size w wz.drew:=fG tZ.out
  have nw:=hid (show Whole wz.drew _ _ _ from AW.out)
  have ks:=hid (show Whole wz.drew _ _ _ from A6.out)
  obtain⟨wd,hwd⟩:∃wd,wd=wz.drew:=⟨_,rfl⟩
  rw[← hwd] at nw ks hB1⊢
  refine Az (i:=0) (some 45) hS ?_
  simp only[Act.put,List.setIfInBounds_toArray,List.set]
  refine Az (i:=1) (some 46) hS ?_
  simp only[Act.put,List.setIfInBounds_toArray,List.set]
  refine Az (i:=3) (some 48) hS ?_
  simp only[Act.put,List.setIfInBounds_toArray,List.set]
  refine Az (i:=4) (some 49) hS ?_
  simp only[Act.put,List.setIfInBounds_toArray,List.set]
  clear hwd
  have ints:∀ (wq:World) (B:Nat) (f:Nat→Int),Whole wq B 85 #[int i64 (f 0),int i64 (f 1),int i64 (f 2)]→Ints wq wq.heap.size (some ⟨B,0,none⟩) ng f:=fun wq B f hW hn=>by
   refine⟨_,rfl,hW.lt,fun i j hi hj=>?_⟩
   obtain rfl:j=0:=zo
   have e:((⟨B,0,none⟩:Addr).add (i * 1+0))=⟨B,i,none⟩:=by unfold Addr.add;split <;> simp_all
   rw[e,hW.cell]
   rcases(show i=0∨i=1∨i=2 by omega) with rfl|rfl|rfl <;> rfl
  refine bf 2 fun K hK=>?_
  go_simp
  refine(Ls S _ ng 3 _ (ints _ _ _ nw.out) zo zo).mono ?_
  rintro e w1 ⟨E1,f1,rfl,hI1,hb1⟩
  have HI1:=hid hI1
  have MA:Hid (Below w.heap.size w w1):=hid (hB1.trans (hb1.mono hB1.size))
  have BY:=hid (ks.out.below hb1 ks.out.lt)
  clear hI1 hb1 hB1
  refine hK.out _ _ (fun _=>hS) ?_
  clear hK K
  refine bf 5 fun K hK=>?_
  go_simp
  refine(Ls L _ ng 3 _ (ints _ _ _ BY.out) zo zo).mono ?_
  rintro e w2 ⟨E2,f2,rfl,hI2,hb2⟩
  have HI2:=hid hI2
  have Ax:=hid (aT HI1.out hb2)
  have We:Hid (Below w.heap.size w w2):=hid (MA.out.trans (hb2.mono MA.out.size))
  clear hI2 hb2
  refine hK.out _ _ (fun _=>hS) ?_
  clear hK K
  refine bf 6 fun K hK=>?_
  go_simp
  refine hK.out _ _ (fun _=>hS) ?_
  clear hK K
  refine bf 7 fun K hK=>?_
  go_simp
  refine hK.out _ _ (fun _=>hS) ?_
  clear hK K
  refine bf 8 fun K hK=>?_
  go_simp
  refine hK.out _ _ (fun h=>absurd rfl h) ?_
  clear hK K
  refine aI zk ?_ _
  gi_wp2
  refine bodyPost_ret (v:=.tuple #[.slice E1 ng f1,.slice E2 ng f2,int i64 0]) (by simp[results,results25,go_sem]) rfl ⟨E1,f1,E2,f2,rfl,Ax.out,HI2.out,We.out⟩
 have Rest:=hid rest
 clear rest hKr
 obtain⟨w60,h60⟩:∃w60,w60=w6.drew:=⟨_,rfl⟩
 have F8:∀w',Below w6.heap.size w6 w'→(w'.cell? ⟨w5.heap.size,0,none⟩=some (int i64 days)∧w'.cell? ⟨w5.heap.size,1,none⟩=some (int i64 most)∧w'.cell? ⟨w5.heap.size,2,none⟩=some (.slice gA ng gc)∧w'.cell? ⟨w5.heap.size,3,none⟩=some (.slice mA nm mc)∧w'.cell? ⟨w5.heap.size,4,none⟩=some (.slice cA nc cc)∧w'.cell? ⟨w5.heap.size+1,0,none⟩=some (int i64 (hf 0))∧w'.cell? ⟨w5.heap.size+1,1,none⟩=some (int i64 (hf 1))∧w'.cell? ⟨w5.heap.size+1,2,none⟩=some (int i64 (hf 2))∧w'.cell? ⟨w5.heap.size+1,3,none⟩=some (int i64 (hmm 0))∧w'.cell? ⟨w5.heap.size+1,4,none⟩=some (int i64 (hmm 1))∧w'.cell? ⟨w5.heap.size+1,5,none⟩=some (int i64 (hmm 2))∧w'.cell? ⟨w5.heap.size+1,6,none⟩=some (int i64 (hmm 3))∧w'.cell? ⟨w5.heap.size+1,7,none⟩=some (int i64 (hmm 4))∧w'.cell? ⟨w5.heap.size+1,8,none⟩=some (int i64 (hmm 5))∧w'.cell? ⟨w5.heap.size+1,9,none⟩=some (int i64 lies)):=fun w' hb=>
  ⟨(Jb.out.below hb Jb.out.lt).cell 0,(Jb.out.below hb Jb.out.lt).cell 1,(Jb.out.below hb Jb.out.lt).cell 2,(Jb.out.below hb Jb.out.lt).cell 3,(Jb.out.below hb Jb.out.lt).cell 4,(vY.out.below hb vY.out.lt).cell 0,(vY.out.below hb vY.out.lt).cell 1,(vY.out.below hb vY.out.lt).cell 2,(vY.out.below hb vY.out.lt).cell 3,(vY.out.below hb vY.out.lt).cell 4,(vY.out.below hb vY.out.lt).cell 5,(vY.out.below hb vY.out.lt).cell 6,(vY.out.below hb vY.out.lt).cell 7,(vY.out.below hb vY.out.lt).cell 8,(vY.out.below hb vY.out.lt).cell 9⟩
 have ig:=hid F8
 clear F8
 refine iP 15 (fun w'=>w'.cell? ⟨w5.heap.size,0,none⟩=some (int i64 days)∧w'.cell? ⟨w5.heap.size,1,none⟩=some (int i64 most)∧w'.cell? ⟨w5.heap.size,2,none⟩=some (.slice gA ng gc)∧w'.cell? ⟨w5.heap.size,3,none⟩=some (.slice mA nm mc)∧w'.cell? ⟨w5.heap.size,4,none⟩=some (.slice cA nc cc)∧w'.cell? ⟨w5.heap.size+1,0,none⟩=some (int i64 (hf 0))∧w'.cell? ⟨w5.heap.size+1,1,none⟩=some (int i64 (hf 1))∧w'.cell? ⟨w5.heap.size+1,2,none⟩=some (int i64 (hf 2))∧w'.cell? ⟨w5.heap.size+1,3,none⟩=some (int i64 (hmm 0))∧w'.cell? ⟨w5.heap.size+1,4,none⟩=some (int i64 (hmm 1))∧w'.cell? ⟨w5.heap.size+1,5,none⟩=some (int i64 (hmm 2))∧w'.cell? ⟨w5.heap.size+1,6,none⟩=some (int i64 (hmm 3))∧w'.cell? ⟨w5.heap.size+1,7,none⟩=some (int i64 (hmm 4))∧w'.cell? ⟨w5.heap.size+1,8,none⟩=some (int i64 (hmm 5))∧w'.cell? ⟨w5.heap.size+1,9,none⟩=some (int i64 lies)) zk ?_
 rw[← h60]
 have HB:Hid (Below w6.heap.size w6 w60):=hid (by rw[h60];exact fG (Below.refl _ _))
 clear h60
 have hS:=ig.out w60 HB.out
 refine Az (i:=0) (some 28) hS ?_
 simp only[Act.put,List.setIfInBounds_toArray,List.set]
 refine Az (i:=1) (some 29) hS ?_
 simp only[Act.put,List.setIfInBounds_toArray,List.set]
 refine Az (i:=2) (some 30) hS ?_
 simp only[Act.put,List.setIfInBounds_toArray,List.set]
 refine Az (i:=3) (some 31) hS ?_
 simp only[Act.put,List.setIfInBounds_toArray,List.set]
 refine Az (i:=4) (some 32) hS ?_
 simp only[Act.put,List.setIfInBounds_toArray,List.set]
 refine Az (i:=5) (some 33) hS ?_
 simp only[Act.put,List.setIfInBounds_toArray,List.set]
 refine Az (i:=6) (some 34) hS ?_
 simp only[Act.put,List.setIfInBounds_toArray,List.set]
 refine Az (i:=8) (some 36) hS ?_
 simp only[Act.put,List.setIfInBounds_toArray,List.set]
 refine Az (i:=9) (some 37) hS ?_
 simp only[Act.put,List.setIfInBounds_toArray,List.set]
 refine Az (i:=10) (some 38) hS ?_
 simp only[Act.put,List.setIfInBounds_toArray,List.set]
 clear hS
 refine oh (i:=7) (i':=12) (i2:=13) zk rfl rfl rfl (fun K hK=>?_) (fun K hK=>?_) (fun K hK=>?_)
 ·skip
  go_simp
  refine(HS.out _ (l8.out.trans (HB.out.mono l8.out.size))).mono ?_
  rintro e Qa ⟨rfl,py⟩
  have Vh:Hid (Below w6.heap.size w6 Qa):=hid (HB.out.trans (py.mono HB.out.size))
  clear py
  refine hK.out _ _ (fun _=>ig.out _ Vh.out) ?_
  clear hK K
  refine oh (i:=11) (i':=12) (i2:=13) zk rfl rfl rfl (fun K hK=>?_) (fun K hK=>?_) (fun K hK=>?_)
  ·skip
   go_simp
   refine(HL.out _ (l8.out.trans (Vh.out.mono l8.out.size))).mono ?_
   rintro e Vn ⟨rfl,pD⟩
   have a9:Hid (Below w6.heap.size w6 Vn):=hid (Vh.out.trans (pD.mono Vh.out.size))
   clear pD
   refine hK.out _ _ (fun _=>ig.out _ a9.out) ?_
   clear hK K
   refine aU (i:=12) (i':=13) zk rfl rfl (fun K hK=>?_) (fun K hK=>?_)
   ·skip
    go_simp
    obtain⟨lr,hw3⟩:∃x,x=Vn.alloc (.cells #[int i64 0,int i64 0,int i64 0] 85):=⟨_,rfl⟩
    rw[← hw3]
    have ur:Hid (Below w6.heap.size w6 lr):=hid (by rw[hw3];exact a9.out.alloc a9.out.size _)
    have YU:Hid (Whole lr Vn.heap.size 85 #[int i64 0,int i64 0,int i64 0]):=hid (by rw[hw3];exact Whole.new _ _ _)
    have qf:w6.heap.size≤Vn.heap.size:=a9.out.size
    clear hw3
    refine hK.out _ _ (fun _=>ig.out _ ur.out) ?_
    clear hK K
    refine bf 13 fun K hK=>?_
    go_simp
    obtain⟨LL,hw4⟩:∃x,x=lr.alloc (.cells #[int i64 0,int i64 0,int i64 0] 85):=⟨_,rfl⟩
    rw[← hw4]
    have Bi:Hid (Below w6.heap.size w6 LL):=hid (by rw[hw4];exact ur.out.alloc ur.out.size _)
    have lP:Hid (Whole LL lr.heap.size 85 #[int i64 0,int i64 0,int i64 0]):=hid (by rw[hw4];exact Whole.new _ _ _)
    have hge4:w6.heap.size≤lr.heap.size:=ur.out.size
    have aax:=YU.out.lt
    have QE:=hid (show Whole LL _ _ _ by rw[hw4];exact YU.out.alloc _)
    clear hw4
    refine hK.out _ _ (fun _=>ig.out _ Bi.out) ?_
    clear hK K
    have c13:=QE.out.cell
    have f13:=QE.out.thaw
    refine bf 14 fun K hK=>?_
    go_simp
    refine hK.out _ _ (fun _=>ig.out _ (aC Bi.out qf)) ?_
    clear hK K
    have g14:=hid ((lP.out.bQ (x:=int i64 (S 0)) (y:=int i64 (S 1)) (z:=int i64 (S 2)) (B:=Vn.heap.size) zo))
    have c14:=g14.out.cell
    have f14:=g14.out.thaw
    clear c13 f13
    refine bf 15 fun K hK=>?_
    go_simp
    refine hK.out _ _ (fun h=>absurd rfl h) ?_
    clear hK K c14 f14
    refine aI zk ?_ _
    exact Rest.out Vn.heap.size lr.heap.size _ (aC (aC Bi.out qf) hge4) (QE.out.iG.bQ zo) g14.out.iG
   ·skip
    go_simp
    obtain⟨jj,wZ⟩:∃x,x=Vn.alloc (.cells #[int i64 0,int i64 0,int i64 0] 85):=⟨_,rfl⟩
    rw[← wZ]
    have uu:Hid (Below w6.heap.size w6 jj):=hid (by rw[wZ];exact a9.out.alloc a9.out.size _)
    have YX:Hid (Whole jj Vn.heap.size 85 #[int i64 0,int i64 0,int i64 0]):=hid (by rw[wZ];exact Whole.new _ _ _)
    have Ft:w6.heap.size≤Vn.heap.size:=a9.out.size
    clear wZ
    refine hK.out _ _ (fun _=>ig.out _ uu.out) ?_
    clear hK K
    refine bf 12 fun K hK=>?_
    go_simp
    obtain⟨LO,Gj⟩:∃x,x=jj.alloc (.cells #[int i64 0,int i64 0,int i64 0] 85):=⟨_,rfl⟩
    rw[← Gj]
    have Bm:Hid (Below w6.heap.size w6 LO):=hid (by rw[Gj];exact uu.out.alloc uu.out.size _)
    have QF:Hid (Whole LO jj.heap.size 85 #[int i64 0,int i64 0,int i64 0]):=hid (by rw[Gj];exact Whole.new _ _ _)
    have qi:w6.heap.size≤jj.heap.size:=uu.out.size
    have aay:=YX.out.lt
    have lR:=hid (show Whole LO _ _ _ by rw[Gj];exact YX.out.alloc _)
    clear Gj
    refine hK.out _ _ (fun _=>ig.out _ Bm.out) ?_
    clear hK K
    have c13:=QF.out.cell
    have f13:=QF.out.thaw
    refine bf 14 fun K hK=>?_
    go_simp
    refine hK.out _ _ (fun _=>ig.out _ (aC Bm.out qi)) ?_
    clear hK K
    have g14:=hid ((lR.out.bQ (x:=int i64 (S 0)) (y:=int i64 (S 1)) (z:=int i64 (S 2)) (B:=jj.heap.size) zo))
    have c14:=g14.out.cell
    have f14:=g14.out.thaw
    clear c13 f13
    refine bf 15 fun K hK=>?_
    go_simp
    refine hK.out _ _ (fun h=>absurd rfl h) ?_
    clear hK K c14 f14
    refine aI zk ?_ _
    exact Rest.out jj.heap.size Vn.heap.size _ (aC (aC Bm.out qi) Ft) (QF.out.iG.bQ zo) g14.out.iG
  ·skip
   go_simp
   obtain⟨lx,hw7⟩:∃x,x=Qa.alloc (.cells #[int i64 0,int i64 0,int i64 0] 85):=⟨_,rfl⟩
   rw[← hw7]
   have br:Hid (Below w6.heap.size w6 lx):=hid (by rw[hw7];exact Vh.out.alloc Vh.out.size _)
   have Lf:Hid (Whole lx Qa.heap.size 85 #[int i64 0,int i64 0,int i64 0]):=hid (by rw[hw7];exact Whole.new _ _ _)
   have WH:w6.heap.size≤Qa.heap.size:=Vh.out.size
   clear hw7
   refine hK.out _ _ (fun _=>ig.out _ br.out) ?_
   clear hK K
   refine aU (i:=11) (i':=13) zk rfl rfl (fun K hK=>?_) (fun K hK=>?_)
   ·skip
    go_simp
    refine(HL.out _ (l8.out.trans (br.out.mono l8.out.size))).mono ?_
    rintro e ua ⟨rfl,dv⟩
    have uv:Hid (Below w6.heap.size w6 ua):=hid (br.out.trans (dv.mono br.out.size))
    have YV:=hid (Lf.out.below dv Lf.out.lt)
    clear dv
    refine hK.out _ _ (fun _=>ig.out _ uv.out) ?_
    clear hK K
    refine bf 13 fun K hK=>?_
    go_simp
    obtain⟨LS,rp⟩:∃x,x=ua.alloc (.cells #[int i64 0,int i64 0,int i64 0] 85):=⟨_,rfl⟩
    rw[← rp]
    have Bs:Hid (Below w6.heap.size w6 LS):=hid (by rw[rp];exact uv.out.alloc uv.out.size _)
    have ma:Hid (Whole LS ua.heap.size 85 #[int i64 0,int i64 0,int i64 0]):=hid (by rw[rp];exact Whole.new _ _ _)
    have FA:w6.heap.size≤ua.heap.size:=uv.out.size
    have aaz:=YV.out.lt
    have QG:=hid (show Whole LS _ _ _ by rw[rp];exact YV.out.alloc _)
    clear rp
    refine hK.out _ _ (fun _=>ig.out _ Bs.out) ?_
    clear hK K
    have c13:=QG.out.cell
    have f13:=QG.out.thaw
    refine bf 14 fun K hK=>?_
    go_simp
    refine hK.out _ _ (fun _=>ig.out _ (aC Bs.out WH)) ?_
    clear hK K
    have g14:=hid ((ma.out.bQ (x:=int i64 (S 0)) (y:=int i64 (S 1)) (z:=int i64 (S 2)) (B:=Qa.heap.size) zo))
    have c14:=g14.out.cell
    have f14:=g14.out.thaw
    clear c13 f13
    refine bf 15 fun K hK=>?_
    go_simp
    refine hK.out _ _ (fun h=>absurd rfl h) ?_
    clear hK K c14 f14
    refine aI zk ?_ _
    exact Rest.out Qa.heap.size ua.heap.size _ (aC (aC Bs.out WH) FA) (QG.out.iG.bQ zo) g14.out.iG
   ·skip
    go_simp
    obtain⟨iv,Aj⟩:∃x,x=lx.alloc (.cells #[int i64 0,int i64 0,int i64 0] 85):=⟨_,rfl⟩
    rw[← Aj]
    have Vu:Hid (Below w6.heap.size w6 iv):=hid (by rw[Aj];exact br.out.alloc br.out.size _)
    have QH:Hid (Whole iv lx.heap.size 85 #[int i64 0,int i64 0,int i64 0]):=hid (by rw[Aj];exact Whole.new _ _ _)
    have p6:w6.heap.size≤lx.heap.size:=br.out.size
    have Tr:=Lf.out.lt
    have Qv:=hid (show Whole iv _ _ _ by rw[Aj];exact Lf.out.alloc _)
    clear Aj
    refine hK.out _ _ (fun _=>ig.out _ Vu.out) ?_
    clear hK K
    refine bf 11 fun K hK=>?_
    go_simp
    refine(HL.out _ (l8.out.trans (Vu.out.mono l8.out.size))).mono ?_
    rintro e Lo ⟨rfl,LX⟩
    have a6:Hid (Below w6.heap.size w6 Lo):=hid (Vu.out.trans (LX.mono Vu.out.size))
    have IG:=hid (Qv.out.below LX Qv.out.lt)
    have ZV:=hid (QH.out.below LX QH.out.lt)
    clear LX
    refine hK.out _ _ (fun _=>ig.out _ a6.out) ?_
    clear hK K
    have c13:=IG.out.cell
    have f13:=IG.out.thaw
    refine bf 14 fun K hK=>?_
    go_simp
    refine hK.out _ _ (fun _=>ig.out _ (aC a6.out WH)) ?_
    clear hK K
    have g14:=hid ((ZV.out.bQ (x:=int i64 (S 0)) (y:=int i64 (S 1)) (z:=int i64 (S 2)) (B:=Qa.heap.size) zo))
    have c14:=g14.out.cell
    have f14:=g14.out.thaw
    clear c13 f13
    refine bf 15 fun K hK=>?_
    go_simp
    refine hK.out _ _ (fun h=>absurd rfl h) ?_
    clear hK K c14 f14
    refine aI zk ?_ _
    exact Rest.out Qa.heap.size lx.heap.size _ (aC (aC a6.out WH) p6) (IG.out.iG.bQ zo) g14.out.iG
  ·skip
   go_simp
   obtain⟨La,WK⟩:∃x,x=Qa.alloc (.cells #[int i64 0,int i64 0,int i64 0] 85):=⟨_,rfl⟩
   rw[← WK]
   have I5:Hid (Below w6.heap.size w6 La):=hid (by rw[WK];exact Vh.out.alloc Vh.out.size _)
   have Dc:Hid (Whole La Qa.heap.size 85 #[int i64 0,int i64 0,int i64 0]):=hid (by rw[WK];exact Whole.new _ _ _)
   have Zz:w6.heap.size≤Qa.heap.size:=Vh.out.size
   clear WK
   refine hK.out _ _ (fun _=>ig.out _ I5.out) ?_
   clear hK K
   refine aU (i:=11) (i':=12) zk rfl rfl (fun K hK=>?_) (fun K hK=>?_)
   ·skip
    go_simp
    refine(HL.out _ (l8.out.trans (I5.out.mono l8.out.size))).mono ?_
    rintro e Qb ⟨rfl,RZ⟩
    have Vv:Hid (Below w6.heap.size w6 Qb):=hid (I5.out.trans (RZ.mono I5.out.size))
    have QI:=hid (Dc.out.below RZ Dc.out.lt)
    clear RZ
    refine hK.out _ _ (fun _=>ig.out _ Vv.out) ?_
    clear hK K
    refine bf 12 fun K hK=>?_
    go_simp
    obtain⟨iz,Sz⟩:∃x,x=Qb.alloc (.cells #[int i64 0,int i64 0,int i64 0] 85):=⟨_,rfl⟩
    rw[← Sz]
    have a7:Hid (Below w6.heap.size w6 iz):=hid (by rw[Sz];exact Vv.out.alloc Vv.out.size _)
    have II:Hid (Whole iz Qb.heap.size 85 #[int i64 0,int i64 0,int i64 0]):=hid (by rw[Sz];exact Whole.new _ _ _)
    have ZA:w6.heap.size≤Qb.heap.size:=Vv.out.size
    have Ts:=QI.out.lt
    have ZW:=hid (show Whole iz _ _ _ by rw[Sz];exact QI.out.alloc _)
    clear Sz
    refine hK.out _ _ (fun _=>ig.out _ a7.out) ?_
    clear hK K
    have c13:=II.out.cell
    have f13:=II.out.thaw
    refine bf 14 fun K hK=>?_
    go_simp
    refine hK.out _ _ (fun _=>ig.out _ (aC a7.out ZA)) ?_
    clear hK K
    have g14:=hid ((ZW.out.bQ (x:=int i64 (S 0)) (y:=int i64 (S 1)) (z:=int i64 (S 2)) (B:=Qb.heap.size) zo))
    have c14:=g14.out.cell
    have f14:=g14.out.thaw
    clear c13 f13
    refine bf 15 fun K hK=>?_
    go_simp
    refine hK.out _ _ (fun h=>absurd rfl h) ?_
    clear hK K c14 f14
    refine aI zk ?_ _
    exact Rest.out Qb.heap.size Qa.heap.size _ (aC (aC a7.out ZA) Zz) (II.out.iG.bQ zo) g14.out.iG
   ·skip
    go_simp
    obtain⟨i4,SA⟩:∃x,x=La.alloc (.cells #[int i64 0,int i64 0,int i64 0] 85):=⟨_,rfl⟩
    rw[← SA]
    have Vw:Hid (Below w6.heap.size w6 i4):=hid (by rw[SA];exact I5.out.alloc I5.out.size _)
    have Qw:Hid (Whole i4 La.heap.size 85 #[int i64 0,int i64 0,int i64 0]):=hid (by rw[SA];exact Whole.new _ _ _)
    have ZB:w6.heap.size≤La.heap.size:=I5.out.size
    have Tu:=Dc.out.lt
    have QJ:=hid (show Whole i4 _ _ _ by rw[SA];exact Dc.out.alloc _)
    clear SA
    refine hK.out _ _ (fun _=>ig.out _ Vw.out) ?_
    clear hK K
    refine bf 11 fun K hK=>?_
    go_simp
    refine(HL.out _ (l8.out.trans (Vw.out.mono l8.out.size))).mono ?_
    rintro e Lq ⟨rfl,LY⟩
    have a8:Hid (Below w6.heap.size w6 Lq):=hid (Vw.out.trans (LY.mono Vw.out.size))
    have IL:=hid (Qw.out.below LY Qw.out.lt)
    have ZX:=hid (QJ.out.below LY QJ.out.lt)
    clear LY
    refine hK.out _ _ (fun _=>ig.out _ a8.out) ?_
    clear hK K
    have c13:=IL.out.cell
    have f13:=IL.out.thaw
    refine bf 14 fun K hK=>?_
    go_simp
    refine hK.out _ _ (fun _=>ig.out _ (aC a8.out ZB)) ?_
    clear hK K
    have g14:=hid ((ZX.out.bQ (x:=int i64 (S 0)) (y:=int i64 (S 1)) (z:=int i64 (S 2)) (B:=La.heap.size) zo))
    have c14:=g14.out.cell
    have f14:=g14.out.thaw
    clear c13 f13
    refine bf 15 fun K hK=>?_
    go_simp
    refine hK.out _ _ (fun h=>absurd rfl h) ?_
    clear hK K c14 f14
    refine aI zk ?_ _
    exact Rest.out La.heap.size Qa.heap.size _ (aC (aC a8.out ZB) Zz) (IL.out.iG.bQ zo) g14.out.iG
 ·skip
  go_simp
  obtain⟨Qc,WL⟩:∃x,x=w60.alloc (.cells #[int i64 0,int i64 0,int i64 0] 85):=⟨_,rfl⟩
  rw[← WL]
  have I6:Hid (Below w6.heap.size w6 Qc):=hid (by rw[WL];exact HB.out.alloc HB.out.size _)
  have Da:Hid (Whole Qc w60.heap.size 85 #[int i64 0,int i64 0,int i64 0]):=hid (by rw[WL];exact Whole.new _ _ _)
  have BJ:w6.heap.size≤w60.heap.size:=HB.out.size
  clear WL
  refine hK.out _ _ (fun _=>ig.out _ I6.out) ?_
  clear hK K
  refine aU (i:=7) (i':=13) zk rfl rfl (fun K hK=>?_) (fun K hK=>?_)
  ·skip
   go_simp
   refine(HS.out _ (l8.out.trans (I6.out.mono l8.out.size))).mono ?_
   rintro e Vb ⟨rfl,R6⟩
   have I7:Hid (Below w6.heap.size w6 Vb):=hid (I6.out.trans (R6.mono I6.out.size))
   have Db:=hid (Da.out.below R6 Da.out.lt)
   clear R6
   refine hK.out _ _ (fun _=>ig.out _ I7.out) ?_
   clear hK K
   refine aU (i:=11) (i':=13) zk rfl rfl (fun K hK=>?_) (fun K hK=>?_)
   ·skip
    go_simp
    refine(HL.out _ (l8.out.trans (I7.out.mono l8.out.size))).mono ?_
    rintro e Vd ⟨rfl,R7⟩
    have Vx:Hid (Below w6.heap.size w6 Vd):=hid (I7.out.trans (R7.mono I7.out.size))
    have Qx:=hid (Db.out.below R7 Db.out.lt)
    clear R7
    refine hK.out _ _ (fun _=>ig.out _ Vx.out) ?_
    clear hK K
    refine bf 13 fun K hK=>?_
    go_simp
    obtain⟨i5,SB⟩:∃x,x=Vd.alloc (.cells #[int i64 0,int i64 0,int i64 0] 85):=⟨_,rfl⟩
    rw[← SB]
    have bh:Hid (Below w6.heap.size w6 i5):=hid (by rw[SB];exact Vx.out.alloc Vx.out.size _)
    have ZY:Hid (Whole i5 Vd.heap.size 85 #[int i64 0,int i64 0,int i64 0]):=hid (by rw[SB];exact Whole.new _ _ _)
    have p7:w6.heap.size≤Vd.heap.size:=Vx.out.size
    have Ty:=Qx.out.lt
    have IQ:=hid (show Whole i5 _ _ _ by rw[SB];exact Qx.out.alloc _)
    clear SB
    refine hK.out _ _ (fun _=>ig.out _ bh.out) ?_
    clear hK K
    have c13:=IQ.out.cell
    have f13:=IQ.out.thaw
    refine bf 14 fun K hK=>?_
    go_simp
    refine hK.out _ _ (fun _=>ig.out _ (aC bh.out BJ)) ?_
    clear hK K
    have g14:=hid ((ZY.out.bQ (x:=int i64 (S 0)) (y:=int i64 (S 1)) (z:=int i64 (S 2)) (B:=w60.heap.size) zo))
    have c14:=g14.out.cell
    have f14:=g14.out.thaw
    clear c13 f13
    refine bf 15 fun K hK=>?_
    go_simp
    refine hK.out _ _ (fun h=>absurd rfl h) ?_
    clear hK K c14 f14
    refine aI zk ?_ _
    exact Rest.out w60.heap.size Vd.heap.size _ (aC (aC bh.out BJ) p7) (IQ.out.iG.bQ zo) g14.out.iG
   ·skip
    go_simp
    obtain⟨i6,Od⟩:∃x,x=Vb.alloc (.cells #[int i64 0,int i64 0,int i64 0] 85):=⟨_,rfl⟩
    rw[← Od]
    have Vy:Hid (Below w6.heap.size w6 i6):=hid (by rw[Od];exact I7.out.alloc I7.out.size _)
    have QK:Hid (Whole i6 Vb.heap.size 85 #[int i64 0,int i64 0,int i64 0]):=hid (by rw[Od];exact Whole.new _ _ _)
    have qa:w6.heap.size≤Vb.heap.size:=I7.out.size
    have TC:=Db.out.lt
    have Qy:=hid (show Whole i6 _ _ _ by rw[Od];exact Db.out.alloc _)
    clear Od
    refine hK.out _ _ (fun _=>ig.out _ Vy.out) ?_
    clear hK K
    refine bf 11 fun K hK=>?_
    go_simp
    refine(HL.out _ (l8.out.trans (Vy.out.mono l8.out.size))).mono ?_
    rintro e Lt ⟨rfl,LZ⟩
    have bj:Hid (Below w6.heap.size w6 Lt):=hid (Vy.out.trans (LZ.mono Vy.out.size))
    have IU:=hid (Qy.out.below LZ Qy.out.lt)
    have Z4:=hid (QK.out.below LZ QK.out.lt)
    clear LZ
    refine hK.out _ _ (fun _=>ig.out _ bj.out) ?_
    clear hK K
    have c13:=IU.out.cell
    have f13:=IU.out.thaw
    refine bf 14 fun K hK=>?_
    go_simp
    refine hK.out _ _ (fun _=>ig.out _ (aC bj.out BJ)) ?_
    clear hK K
    have g14:=hid ((Z4.out.bQ (x:=int i64 (S 0)) (y:=int i64 (S 1)) (z:=int i64 (S 2)) (B:=w60.heap.size) zo))
    have c14:=g14.out.cell
    have f14:=g14.out.thaw
    clear c13 f13
    refine bf 15 fun K hK=>?_
    go_simp
    refine hK.out _ _ (fun h=>absurd rfl h) ?_
    clear hK K c14 f14
    refine aI zk ?_ _
    exact Rest.out w60.heap.size Vb.heap.size _ (aC (aC bj.out BJ) qa) (IU.out.iG.bQ zo) g14.out.iG
  ·skip
   go_simp
   obtain⟨i7,SC⟩:∃x,x=Qc.alloc (.cells #[int i64 0,int i64 0,int i64 0] 85):=⟨_,rfl⟩
   rw[← SC]
   have Vz:Hid (Below w6.heap.size w6 i7):=hid (by rw[SC];exact I6.out.alloc I6.out.size _)
   have QL:Hid (Whole i7 Qc.heap.size 85 #[int i64 0,int i64 0,int i64 0]):=hid (by rw[SC];exact Whole.new _ _ _)
   have qe:w6.heap.size≤Qc.heap.size:=I6.out.size
   have TE:=Da.out.lt
   have Qz:=hid (show Whole i7 _ _ _ by rw[SC];exact Da.out.alloc _)
   clear SC
   refine hK.out _ _ (fun _=>ig.out _ Vz.out) ?_
   clear hK K
   refine bf 7 fun K hK=>?_
   go_simp
   refine(HS.out _ (l8.out.trans (Vz.out.mono l8.out.size))).mono ?_
   rintro e Lw ⟨rfl,L6⟩
   have VA:Hid (Below w6.heap.size w6 Lw):=hid (Vz.out.trans (L6.mono Vz.out.size))
   have QA:=hid (Qz.out.below L6 Qz.out.lt)
   have QM:=hid (QL.out.below L6 QL.out.lt)
   clear L6
   refine hK.out _ _ (fun _=>ig.out _ VA.out) ?_
   clear hK K
   refine bf 11 fun K hK=>?_
   go_simp
   refine(HL.out _ (l8.out.trans (VA.out.mono l8.out.size))).mono ?_
   rintro e Ly ⟨rfl,L8⟩
   have bk:Hid (Below w6.heap.size w6 Ly):=hid (VA.out.trans (L8.mono VA.out.size))
   have IV:=hid (QA.out.below L8 QA.out.lt)
   have Z6:=hid (QM.out.below L8 QM.out.lt)
   clear L8
   refine hK.out _ _ (fun _=>ig.out _ bk.out) ?_
   clear hK K
   have c13:=IV.out.cell
   have f13:=IV.out.thaw
   refine bf 14 fun K hK=>?_
   go_simp
   refine hK.out _ _ (fun _=>ig.out _ (aC bk.out BJ)) ?_
   clear hK K
   have g14:=hid ((Z6.out.bQ (x:=int i64 (S 0)) (y:=int i64 (S 1)) (z:=int i64 (S 2)) (B:=w60.heap.size) zo))
   have c14:=g14.out.cell
   have f14:=g14.out.thaw
   clear c13 f13
   refine bf 15 fun K hK=>?_
   go_simp
   refine hK.out _ _ (fun h=>absurd rfl h) ?_
   clear hK K c14 f14
   refine aI zk ?_ _
   exact Rest.out w60.heap.size Qc.heap.size _ (aC (aC bk.out BJ) qe) (IV.out.iG.bQ zo) g14.out.iG
 ·skip
  go_simp
  obtain⟨Lb,WM⟩:∃x,x=w60.alloc (.cells #[int i64 0,int i64 0,int i64 0] 85):=⟨_,rfl⟩
  rw[← WM]
  have I8:Hid (Below w6.heap.size w6 Lb):=hid (by rw[WM];exact HB.out.alloc HB.out.size _)
  have Df:Hid (Whole Lb w60.heap.size 85 #[int i64 0,int i64 0,int i64 0]):=hid (by rw[WM];exact Whole.new _ _ _)
  have Sj:w6.heap.size≤w60.heap.size:=HB.out.size
  clear WM
  refine hK.out _ _ (fun _=>ig.out _ I8.out) ?_
  clear hK K
  refine aU (i:=7) (i':=12) zk rfl rfl (fun K hK=>?_) (fun K hK=>?_)
  ·skip
   go_simp
   refine(HS.out _ (l8.out.trans (I8.out.mono l8.out.size))).mono ?_
   rintro e Qd ⟨rfl,R8⟩
   have I9:Hid (Below w6.heap.size w6 Qd):=hid (I8.out.trans (R8.mono I8.out.size))
   have Dg:=hid (Df.out.below R8 Df.out.lt)
   clear R8
   refine hK.out _ _ (fun _=>ig.out _ I9.out) ?_
   clear hK K
   refine aU (i:=11) (i':=12) zk rfl rfl (fun K hK=>?_) (fun K hK=>?_)
   ·skip
    go_simp
    refine(HL.out _ (l8.out.trans (I9.out.mono l8.out.size))).mono ?_
    rintro e Qe ⟨rfl,Sb⟩
    have VD:Hid (Below w6.heap.size w6 Qe):=hid (I9.out.trans (Sb.mono I9.out.size))
    have QN:=hid (Dg.out.below Sb Dg.out.lt)
    clear Sb
    refine hK.out _ _ (fun _=>ig.out _ VD.out) ?_
    clear hK K
    refine bf 12 fun K hK=>?_
    go_simp
    obtain⟨i9,SE⟩:∃x,x=Qe.alloc (.cells #[int i64 0,int i64 0,int i64 0] 85):=⟨_,rfl⟩
    rw[← SE]
    have bm:Hid (Below w6.heap.size w6 i9):=hid (by rw[SE];exact VD.out.alloc VD.out.size _)
    have IW:Hid (Whole i9 Qe.heap.size 85 #[int i64 0,int i64 0,int i64 0]):=hid (by rw[SE];exact Whole.new _ _ _)
    have ZC:w6.heap.size≤Qe.heap.size:=VD.out.size
    have TO:=QN.out.lt
    have Z7:=hid (show Whole i9 _ _ _ by rw[SE];exact QN.out.alloc _)
    clear SE
    refine hK.out _ _ (fun _=>ig.out _ bm.out) ?_
    clear hK K
    have c13:=IW.out.cell
    have f13:=IW.out.thaw
    refine bf 14 fun K hK=>?_
    go_simp
    refine hK.out _ _ (fun _=>ig.out _ (aC bm.out ZC)) ?_
    clear hK K
    have g14:=hid ((Z7.out.bQ (x:=int i64 (S 0)) (y:=int i64 (S 1)) (z:=int i64 (S 2)) (B:=Qe.heap.size) zo))
    have c14:=g14.out.cell
    have f14:=g14.out.thaw
    clear c13 f13
    refine bf 15 fun K hK=>?_
    go_simp
    refine hK.out _ _ (fun h=>absurd rfl h) ?_
    clear hK K c14 f14
    refine aI zk ?_ _
    exact Rest.out Qe.heap.size w60.heap.size _ (aC (aC bm.out ZC) Sj) (IW.out.iG.bQ zo) g14.out.iG
   ·skip
    go_simp
    obtain⟨ja,SH⟩:∃x,x=Qd.alloc (.cells #[int i64 0,int i64 0,int i64 0] 85):=⟨_,rfl⟩
    rw[← SH]
    have VE:Hid (Below w6.heap.size w6 ja):=hid (by rw[SH];exact I9.out.alloc I9.out.size _)
    have QB:Hid (Whole ja Qd.heap.size 85 #[int i64 0,int i64 0,int i64 0]):=hid (by rw[SH];exact Whole.new _ _ _)
    have ZE:w6.heap.size≤Qd.heap.size:=I9.out.size
    have TX:=Dg.out.lt
    have QO:=hid (show Whole ja _ _ _ by rw[SH];exact Dg.out.alloc _)
    clear SH
    refine hK.out _ _ (fun _=>ig.out _ VE.out) ?_
    clear hK K
    refine bf 11 fun K hK=>?_
    go_simp
    refine(HL.out _ (l8.out.trans (VE.out.mono l8.out.size))).mono ?_
    rintro e Lz ⟨rfl,L9⟩
    have bo:Hid (Below w6.heap.size w6 Lz):=hid (VE.out.trans (L9.mono VE.out.size))
    have IX:=hid (QB.out.below L9 QB.out.lt)
    have Z8:=hid (QO.out.below L9 QO.out.lt)
    clear L9
    refine hK.out _ _ (fun _=>ig.out _ bo.out) ?_
    clear hK K
    have c13:=IX.out.cell
    have f13:=IX.out.thaw
    refine bf 14 fun K hK=>?_
    go_simp
    refine hK.out _ _ (fun _=>ig.out _ (aC bo.out ZE)) ?_
    clear hK K
    have g14:=hid ((Z8.out.bQ (x:=int i64 (S 0)) (y:=int i64 (S 1)) (z:=int i64 (S 2)) (B:=Qd.heap.size) zo))
    have c14:=g14.out.cell
    have f14:=g14.out.thaw
    clear c13 f13
    refine bf 15 fun K hK=>?_
    go_simp
    refine hK.out _ _ (fun h=>absurd rfl h) ?_
    clear hK K c14 f14
    refine aI zk ?_ _
    exact Rest.out Qd.heap.size w60.heap.size _ (aC (aC bo.out ZE) Sj) (IX.out.iG.bQ zo) g14.out.iG
  ·skip
   go_simp
   obtain⟨jb,hw32⟩:∃x,x=Lb.alloc (.cells #[int i64 0,int i64 0,int i64 0] 85):=⟨_,rfl⟩
   rw[← hw32]
   have VF:Hid (Below w6.heap.size w6 jb):=hid (by rw[hw32];exact I8.out.alloc I8.out.size _)
   have QC:Hid (Whole jb Lb.heap.size 85 #[int i64 0,int i64 0,int i64 0]):=hid (by rw[hw32];exact Whole.new _ _ _)
   have ZF:w6.heap.size≤Lb.heap.size:=I8.out.size
   have hne32:=Df.out.lt
   have QS:=hid (show Whole jb _ _ _ by rw[hw32];exact Df.out.alloc _)
   clear hw32
   refine hK.out _ _ (fun _=>ig.out _ VF.out) ?_
   clear hK K
   refine bf 7 fun K hK=>?_
   go_simp
   refine(HS.out _ (l8.out.trans (VF.out.mono l8.out.size))).mono ?_
   rintro e LF ⟨rfl,Ma⟩
   have VG:Hid (Below w6.heap.size w6 LF):=hid (VF.out.trans (Ma.mono VF.out.size))
   have QD:=hid (QC.out.below Ma QC.out.lt)
   have QT:=hid (QS.out.below Ma QS.out.lt)
   clear Ma
   refine hK.out _ _ (fun _=>ig.out _ VG.out) ?_
   clear hK K
   refine bf 11 fun K hK=>?_
   go_simp
   refine(HL.out _ (l8.out.trans (VG.out.mono l8.out.size))).mono ?_
   rintro e LI ⟨rfl,Mc⟩
   have bp:Hid (Below w6.heap.size w6 LI):=hid (VG.out.trans (Mc.mono VG.out.size))
   have IY:=hid (QD.out.below Mc QD.out.lt)
   have Z9:=hid (QT.out.below Mc QT.out.lt)
   clear Mc
   refine hK.out _ _ (fun _=>ig.out _ bp.out) ?_
   clear hK K
   have c13:=IY.out.cell
   have f13:=IY.out.thaw
   refine bf 14 fun K hK=>?_
   go_simp
   refine hK.out _ _ (fun _=>ig.out _ (aC bp.out ZF)) ?_
   clear hK K
   have g14:=hid ((Z9.out.bQ (x:=int i64 (S 0)) (y:=int i64 (S 1)) (z:=int i64 (S 2)) (B:=Lb.heap.size) zo))
   have c14:=g14.out.cell
   have f14:=g14.out.thaw
   clear c13 f13
   refine bf 15 fun K hK=>?_
   go_simp
   refine hK.out _ _ (fun h=>absurd rfl h) ?_
   clear hK K c14 f14
   refine aI zk ?_ _
   exact Rest.out Lb.heap.size w60.heap.size _ (aC (aC bp.out ZF) Sj) (IY.out.iG.bQ zo) g14.out.iG
end
end Go.Proofs.YthaelabgfnnebaaGreat
