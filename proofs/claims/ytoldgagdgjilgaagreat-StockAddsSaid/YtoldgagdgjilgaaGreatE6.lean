/- P23 -/
import Derived.Test.YtoldgagdgjilgaaGreatE5
set_option maxRecDepth 100000
set_option maxHeartbeats 16000000
set_option linter.unusedVariables false
set_option linter.unusedSectionVars false
open Go.IntKind(i64)
open Go.Lib(hid)
open Go.Proofs.Tryz
open Go.Value(int)
namespace Go.Proofs.YtoldgagdgjilgaaGreat
section
open Go.RowKit Go.Sort
theorem cm:Uu:=by
 intro b l1 l2 l3 w ok hcap hp h A1 A2 A3 p1 p2 p3 i1 i2 i3
 have po:=Lg ok hp
 have h0:∀x∈l3,0≤x:=fun x hx=>(po.2.1 x hx).1
 have hO:=wG b l1 l2 l3 w h ok hcap hp A1 A2 A3 p1 p2 p3 i1 i2 i3
 have hO2:∀W,Below W.heap.size W W:=fun W=>Below.refl _ _
 have hO3:∀w',Below w.heap.size w w'→CallsIn FF 0 prog 33 #[b.val,.slice A1 l1.length p1,.slice A2 l2.length p2,.slice A3 l3.length p3] w' fun e w2=>∃A n p,e=.returned (.tuple #[b.ZE A n p,(gX l1 l2 l3).val,int i64 0])∧Below w'.heap.size w' w2:=fun w' hb=>
  wG b l1 l2 l3 w' ((h.below hb).more hb.size) ok hcap hp A1 A2 A3 p1 p2 p3 (dA i1 hb) (dA i2 hb) (dA i3 hb)
 have hS:∀w',Below w.heap.size w w'→CallsIn FF 0 prog 34 #[b.val,(gX l1 l2 l3).val,int i64 b.days] w' fun e w2=>e=.returned (lK (stk b (gX l1 l2 l3) b.days b.nm))∧Below w'.heap.size w' w2:=fun w' hb=>
  fQ b (gX l1 l2 l3) b.days w' ((h.below hb).more hb.size) ok.moves ok.dG.1.2 po.1
 have hL:∀w',Below w.heap.size w w'→CallsIn FF 0 prog 35 #[b.val,(gX l1 l2 l3).val] w' fun e w2=>e=.returned (lK (Df b (gX l1 l2 l3) (b.days.toNat+1)))∧Below w'.heap.size w' w2:=fun w' hb=>
  ns b (gX l1 l2 l3) w' ((h.below hb).more hb.size) ok.moves ok.days ok.dG.1.2 po.1
 have eS:∀q,stk b (gX l1 l2 l3) b.days b.nm q=CZ b l1 l2 l3 q:=fun q=>Gj b l1 l2 l3 h0 b.days q
 have eL:∀q,Df b (gX l1 l2 l3) (b.days.toNat+1) q=KX b l1 l2 l3 q:=fun q=>FI b l1 l2 l3 h0 q _
 unfold Ee
 simp only[← eS,← eL]
 clear eS eL hO hO2 h0
 obtain⟨S,hSd⟩:∃S,S=stk b (gX l1 l2 l3) b.days b.nm:=⟨_,rfl⟩
 obtain⟨L,JS⟩:∃L,L=Df b (gX l1 l2 l3) (b.days.toNat+1):=⟨_,rfl⟩
 rw[← hSd] at hS⊢
 rw[← JS] at hL⊢
 obtain⟨n1,hn1⟩:∃n1,n1=l1.length:=⟨_,rfl⟩
 obtain⟨n2,hn2⟩:∃n2,n2=l2.length:=⟨_,rfl⟩
 obtain⟨n3,OT⟩:∃n3,n3=l3.length:=⟨_,rfl⟩
 rw[← hn1,← hn2,← OT] at hO3⊢
 obtain⟨ht,hht⟩:∃ht,ht=gX l1 l2 l3:=⟨_,rfl⟩
 rw[← hht] at hO3 hS hL
 have Al:=ok.dG.1
 clear hn1 hn2 OT hht i1 i2 i3 po hp ok h hcap hSd JS
 obtain⟨days,most,gA,ng,gc,g,mA,nm,mc,m,cA,nc,cc,c⟩:=b
 obtain⟨hf,hmm,lies⟩:=ht
 simp only at Al
 have ld:∀w',Below w.heap.size w w'→CallsIn FF 0 prog 33 #[.agg #[int i64 days,int i64 most,.slice gA ng gc,.slice mA nm mc,.slice cA nc cc],.slice A1 n1 p1,.slice A2 n2 p2,.slice A3 n3 p3] w' fun e w2=>∃A n p,e=.returned (.tuple #[.agg #[int i64 days,int i64 most,.slice gA ng gc,.slice mA nm mc,.slice cA nc cc,.slice A n p],.agg #[int i64 (hf 0),int i64 (hf 1),int i64 (hf 2),int i64 (hmm 0),int i64 (hmm 1),int i64 (hmm 2),int i64 (hmm 3),int i64 (hmm 4),int i64 (hmm 5),int i64 lies],int i64 0])∧Below w'.heap.size w' w2:=hO3
 simp only[Bk.val,Bk.cells,Ht.val,Ht.cells,lK] at hS hL⊢
 have HS:=hid hS
 have HL:=hid hL
 have HO:=hid ld
 clear hS hL hO3 ld
 have VB:Hid (Below w.heap.size w (w.alloc (.cells #[int i64 days,int i64 most,.slice gA ng gc,.slice mA nm mc,.slice cA nc cc] 26))):=hid (bw)
 gi_enter func11,ntmps11
 gi_wp2_with (gi_at_call 33;refine(HO.out _ VB.out).mono ?_;rintro e w5 ⟨A5,n5,p5,rfl,hb5⟩;have Eb:=hid hb5;clear hb5;have hs5:=Eb.out.size;have Ej:=hid ((Whole.new w5 61 #[int i64 days,int i64 most,.slice gA ng gc,.slice mA nm mc,.slice cA nc cc,.slice A5 n5 p5]).alloc (.cells #[int i64 (hf 0),int i64 (hf 1),int i64 (hf 2),int i64 (hmm 0),int i64 (hmm 1),int i64 (hmm 2),int i64 (hmm 3),int i64 (hmm 4),int i64 (hmm 5),int i64 lies] 70));have TY:=hid (Whole.new (w5.alloc (.cells #[int i64 days,int i64 most,.slice gA ng gc,.slice mA nm mc,.slice cA nc cc,.slice A5 n5 p5] 61)) 70 #[int i64 (hf 0),int i64 (hf 1),int i64 (hf 2),int i64 (hmm 0),int i64 (hmm 1),int i64 (hmm 2),int i64 (hmm 3),int i64 (hmm 4),int i64 (hmm 5),int i64 lies]))
 obtain⟨w6,OV⟩:∃w6,w6=(w5.alloc (.cells #[int i64 days,int i64 most,.slice gA ng gc,.slice mA nm mc,.slice cA nc cc,.slice A5 n5 p5] 61)).alloc (.cells #[int i64 (hf 0),int i64 (hf 1),int i64 (hf 2),int i64 (hmm 0),int i64 (hmm 1),int i64 (hmm 2),int i64 (hmm 3),int i64 (hmm 4),int i64 (hmm 5),int i64 lies] 70):=⟨_,rfl⟩
 have Ic:Hid (Whole w6 w5.heap.size 61 #[int i64 days,int i64 most,.slice gA ng gc,.slice mA nm mc,.slice cA nc cc,.slice A5 n5 p5]):=hid (by rw[OV];exact Ej.out)
 have vk:Hid (Whole w6 (w5.heap.size+1) 70 #[int i64 (hf 0),int i64 (hf 1),int i64 (hf 2),int i64 (hmm 0),int i64 (hmm 1),int i64 (hmm 2),int i64 (hmm 3),int i64 (hmm 4),int i64 (hmm 5),int i64 lies]):=hid (by have:=TY.out;rw[World.size_alloc] at this;rw[OV];exact this)
 have lN:Hid (Below w.heap.size w w6):=hid (by
  rw[OV]
  exact((VB.out.trans (Eb.out.mono VB.out.size)).alloc (by have:=VB.out.size;omega) _).alloc (by have:=VB.out.size;simp;omega) _)
 have hs6:w6.heap.size=w5.heap.size+2:=by rw[OV];simp
 rw[← OV]
 clear OV Ej TY
 gi_wp2
 rename_i Qr Kr hKr
 have rest:∀ (sk sn:Nat) (wz:World),Below w6.heap.size w6 wz→Whole wz sk 67 #[int i64 (S 0),int i64 (S 1),int i64 (S 2)]→Whole wz sn 67 #[int i64 (L 0),int i64 (L 1),int i64 (L 2)]→Kr {tmps:=#[Value.agg #[int i64 days,int i64 most,.slice gA ng gc,.slice mA nm mc,.slice cA nc cc],.slice A1 n1 p1,.slice A2 n2 p2,.slice A3 n3 p3,.pointer (some ⟨w.heap.size,0,none⟩),undef,undef,undef,.slice none 0 0,.slice none 0 0,int i64 0,Value.pointer (some ⟨w5.heap.size,0,none⟩),.pointer (some ⟨w5.heap.size+1,0,none⟩),.pointer (some ⟨sk,0,none⟩),.pointer (some ⟨sn,0,none⟩),undef,Value.tuple #[Value.agg #[int i64 days,int i64 most,.slice gA ng gc,.slice mA nm mc,.slice cA nc cc,.slice A5 n5 p5],Value.agg #[int i64 (hf 0),int i64 (hf 1),int i64 (hf 2),int i64 (hmm 0),int i64 (hmm 1),int i64 (hmm 2),int i64 (hmm 3),int i64 (hmm 4),int i64 (hmm 5),int i64 lies],int i64 0],Value.agg #[int i64 days,int i64 most,.slice gA ng gc,.slice mA nm mc,.slice cA nc cc],.slice A1 n1 p1,.slice A2 n2 p2,.slice A3 n3 p3,Value.tuple #[Value.agg #[int i64 days,int i64 most,.slice gA ng gc,.slice mA nm mc,.slice cA nc cc,.slice A5 n5 p5],Value.agg #[int i64 (hf 0),int i64 (hf 1),int i64 (hf 2),int i64 (hmm 0),int i64 (hmm 1),int i64 (hmm 2),int i64 (hmm 3),int i64 (hmm 4),int i64 (hmm 5),int i64 lies],int i64 0],Value.agg #[int i64 days,int i64 most,.slice gA ng gc,.slice mA nm mc,.slice cA nc cc,.slice A5 n5 p5],Value.agg #[int i64 (hf 0),int i64 (hf 1),int i64 (hf 2),int i64 (hmm 0),int i64 (hmm 1),int i64 (hmm 2),int i64 (hmm 3),int i64 (hmm 4),int i64 (hmm 5),int i64 lies],int i64 0,int i64 0,.bool false,undef,Value.pointer (some ⟨w5.heap.size,0,none⟩),Value.agg #[int i64 days,int i64 most,.slice gA ng gc,.slice mA nm mc,.slice cA nc cc],Value.agg #[int i64 (hf 0),int i64 (hf 1),int i64 (hf 2),int i64 (hmm 0),int i64 (hmm 1),int i64 (hmm 2),int i64 (hmm 3),int i64 (hmm 4),int i64 (hmm 5),int i64 lies],Value.pointer (some ⟨w5.heap.size,0,none⟩),Value.pointer (some ⟨w5.heap.size,0,none⟩),Value.pointer (some ⟨w5.heap.size,0,none⟩),int i64 days,.agg #[int i64 (S 0),int i64 (S 1),int i64 (S 2)],Value.pointer (some ⟨w5.heap.size,0,none⟩),Value.agg #[int i64 days,int i64 most,.slice gA ng gc,.slice mA nm mc,.slice cA nc cc],Value.agg #[int i64 (hf 0),int i64 (hf 1),int i64 (hf 2),int i64 (hmm 0),int i64 (hmm 1),int i64 (hmm 2),int i64 (hmm 3),int i64 (hmm 4),int i64 (hmm 5),int i64 lies],.agg #[int i64 (L 0),int i64 (L 1),int i64 (L 2)],undef,undef,undef,undef,undef,undef,undef,undef,undef,undef,undef],defers:=[] } wz:=by
  intro sk sn wz hbz h13 h14
  refine hKr _ _ ?_
  have qq:=hid (Ic.out.below hbz Ic.out.lt)
  have sS:Hid (Below w.heap.size w wz):=hid (lN.out.trans (hbz.mono lN.out.size))
  have y:∀i,wz.cell? ⟨w5.heap.size,i,none⟩=(#[int i64 days,int i64 most,.slice gA ng gc,.slice mA nm mc,.slice cA nc cc,.slice A5 n5 p5]:Array Value)[i]?:=qq.out.cell
  have tP:=hid h13
  have tR:=hid h14
  clear hKr hbz h13 h14
  have OT:(ng:Int)≤3:=zo
  have hn0:(0:Int)≤(ng:Int):=zo
  gi_wp2
  refine iF 8 (fun _=>True) zk ?_
  have hS:True:=trivial
  have hB1:Below w.heap.size w wz.drew:=fO sS.out
  have i6:=hid (show Whole wz.drew _ _ _ from tP.out)
  have fi:=hid (show Whole wz.drew _ _ _ from tR.out)
  obtain⟨wd,hwd⟩:∃wd,wd=wz.drew:=⟨_,rfl⟩
  rw[← hwd] at i6 fi hB1⊢
  refine yN (i:=0) (some 45) hS ?_
  simp only[Act.put,List.setIfInBounds_toArray,List.set]
  refine yN (i:=1) (some 46) hS ?_
  simp only[Act.put,List.setIfInBounds_toArray,List.set]
  refine yN (i:=3) (some 48) hS ?_
  simp only[Act.put,List.setIfInBounds_toArray,List.set]
  refine yN (i:=4) (some 49) hS ?_
  simp only[Act.put,List.setIfInBounds_toArray,List.set]
  clear hwd
  have ints:∀ (wq:World) (B:Nat) (f:Nat→Int),Whole wq B 67 #[int i64 (f 0),int i64 (f 1),int i64 (f 2)]→Ints wq wq.heap.size (some ⟨B,0,none⟩) ng f:=fun wq B f hW hn=>by
   refine⟨_,rfl,hW.lt,fun i j hi hj=>?_⟩
   obtain rfl:j=0:=zo
   have e:((⟨B,0,none⟩:Addr).add (i * 1+0))=⟨B,i,none⟩:=by unfold Addr.add;split <;> simp_all
   rw[e,hW.cell]
   rcases(show i=0∨i=1∨i=2 by omega) with rfl|rfl|rfl <;> rfl
  refine aX 2 fun K hK=>?_
  go_simp
  refine(Kq S _ ng 3 _ (ints _ _ _ i6.out) zo zo).mono ?_
  rintro e w1 ⟨E1,f1,rfl,hI1,hb1⟩
  have HI1:=hid hI1
  have E0:Hid (Below w.heap.size w w1):=hid (hB1.trans (hb1.mono hB1.size))
  have uA:=hid (fi.out.below hb1 fi.out.lt)
  clear hI1 hb1 hB1
  refine hK.out _ _ (fun _=>hS) ?_
  clear hK K
  refine aX 5 fun K hK=>?_
  go_simp
  refine(Kq L _ ng 3 _ (ints _ _ _ uA.out) zo zo).mono ?_
  rintro e w2 ⟨E2,f2,rfl,hI2,hb2⟩
  have HI2:=hid hI2
  have tp:=hid (dA HI1.out hb2)
  have M':Hid (Below w.heap.size w w2):=hid (E0.out.trans (hb2.mono E0.out.size))
  clear hI2 hb2
  refine hK.out _ _ (fun _=>hS) ?_
  clear hK K
  refine aX 6 fun K hK=>?_
  go_simp
  refine hK.out _ _ (fun _=>hS) ?_
  clear hK K
  refine aX 7 fun K hK=>?_
  go_simp
  refine hK.out _ _ (fun _=>hS) ?_
  clear hK K
  refine aX 8 fun K hK=>?_
  go_simp
  refine hK.out _ _ (fun h=>absurd rfl h) ?_
  clear hK K
  refine aF zk ?_ _
  gi_wp2
  refine bodyPost_ret (v:=.tuple #[.slice E1 ng f1,.slice E2 ng f2,int i64 0]) (by simp[results,results11,go_sem]) rfl ⟨E1,f1,E2,f2,rfl,tp.out,HI2.out,M'.out⟩
 have Rest:=hid rest
 clear rest hKr
 obtain⟨w60,h60⟩:∃w60,w60=w6.drew:=⟨_,rfl⟩
 have D6:∀w',Below w6.heap.size w6 w'→(w'.cell? ⟨w5.heap.size,0,none⟩=some (int i64 days)∧w'.cell? ⟨w5.heap.size,1,none⟩=some (int i64 most)∧w'.cell? ⟨w5.heap.size,2,none⟩=some (.slice gA ng gc)∧w'.cell? ⟨w5.heap.size,3,none⟩=some (.slice mA nm mc)∧w'.cell? ⟨w5.heap.size,4,none⟩=some (.slice cA nc cc)∧w'.cell? ⟨w5.heap.size+1,0,none⟩=some (int i64 (hf 0))∧w'.cell? ⟨w5.heap.size+1,1,none⟩=some (int i64 (hf 1))∧w'.cell? ⟨w5.heap.size+1,2,none⟩=some (int i64 (hf 2))∧w'.cell? ⟨w5.heap.size+1,3,none⟩=some (int i64 (hmm 0))∧w'.cell? ⟨w5.heap.size+1,4,none⟩=some (int i64 (hmm 1))∧w'.cell? ⟨w5.heap.size+1,5,none⟩=some (int i64 (hmm 2))∧w'.cell? ⟨w5.heap.size+1,6,none⟩=some (int i64 (hmm 3))∧w'.cell? ⟨w5.heap.size+1,7,none⟩=some (int i64 (hmm 4))∧w'.cell? ⟨w5.heap.size+1,8,none⟩=some (int i64 (hmm 5))∧w'.cell? ⟨w5.heap.size+1,9,none⟩=some (int i64 lies)):=fun w' hb=>
  ⟨(Ic.out.below hb Ic.out.lt).cell 0,(Ic.out.below hb Ic.out.lt).cell 1,(Ic.out.below hb Ic.out.lt).cell 2,(Ic.out.below hb Ic.out.lt).cell 3,(Ic.out.below hb Ic.out.lt).cell 4,(vk.out.below hb vk.out.lt).cell 0,(vk.out.below hb vk.out.lt).cell 1,(vk.out.below hb vk.out.lt).cell 2,(vk.out.below hb vk.out.lt).cell 3,(vk.out.below hb vk.out.lt).cell 4,(vk.out.below hb vk.out.lt).cell 5,(vk.out.below hb vk.out.lt).cell 6,(vk.out.below hb vk.out.lt).cell 7,(vk.out.below hb vk.out.lt).cell 8,(vk.out.below hb vk.out.lt).cell 9⟩
 have iI:=hid D6
 clear D6
 refine iF 15 (fun w'=>w'.cell? ⟨w5.heap.size,0,none⟩=some (int i64 days)∧w'.cell? ⟨w5.heap.size,1,none⟩=some (int i64 most)∧w'.cell? ⟨w5.heap.size,2,none⟩=some (.slice gA ng gc)∧w'.cell? ⟨w5.heap.size,3,none⟩=some (.slice mA nm mc)∧w'.cell? ⟨w5.heap.size,4,none⟩=some (.slice cA nc cc)∧w'.cell? ⟨w5.heap.size+1,0,none⟩=some (int i64 (hf 0))∧w'.cell? ⟨w5.heap.size+1,1,none⟩=some (int i64 (hf 1))∧w'.cell? ⟨w5.heap.size+1,2,none⟩=some (int i64 (hf 2))∧w'.cell? ⟨w5.heap.size+1,3,none⟩=some (int i64 (hmm 0))∧w'.cell? ⟨w5.heap.size+1,4,none⟩=some (int i64 (hmm 1))∧w'.cell? ⟨w5.heap.size+1,5,none⟩=some (int i64 (hmm 2))∧w'.cell? ⟨w5.heap.size+1,6,none⟩=some (int i64 (hmm 3))∧w'.cell? ⟨w5.heap.size+1,7,none⟩=some (int i64 (hmm 4))∧w'.cell? ⟨w5.heap.size+1,8,none⟩=some (int i64 (hmm 5))∧w'.cell? ⟨w5.heap.size+1,9,none⟩=some (int i64 lies)) zk ?_
 rw[← h60]
 have HB:Hid (Below w6.heap.size w6 w60):=hid (by rw[h60];exact fO (Below.refl _ _))
 clear h60
 have hS:=iI.out w60 HB.out
 refine yN (i:=0) (some 28) hS ?_
 simp only[Act.put,List.setIfInBounds_toArray,List.set]
 refine yN (i:=1) (some 29) hS ?_
 simp only[Act.put,List.setIfInBounds_toArray,List.set]
 refine yN (i:=2) (some 30) hS ?_
 simp only[Act.put,List.setIfInBounds_toArray,List.set]
 refine yN (i:=3) (some 31) hS ?_
 simp only[Act.put,List.setIfInBounds_toArray,List.set]
 refine yN (i:=4) (some 32) hS ?_
 simp only[Act.put,List.setIfInBounds_toArray,List.set]
 refine yN (i:=5) (some 33) hS ?_
 simp only[Act.put,List.setIfInBounds_toArray,List.set]
 refine yN (i:=6) (some 34) hS ?_
 simp only[Act.put,List.setIfInBounds_toArray,List.set]
 refine yN (i:=8) (some 36) hS ?_
 simp only[Act.put,List.setIfInBounds_toArray,List.set]
 refine yN (i:=9) (some 37) hS ?_
 simp only[Act.put,List.setIfInBounds_toArray,List.set]
 refine yN (i:=10) (some 38) hS ?_
 simp only[Act.put,List.setIfInBounds_toArray,List.set]
 clear hS
 refine nK (i:=7) (i':=12) (i2:=13) zk rfl rfl rfl (fun K hK=>?_) (fun K hK=>?_) (fun K hK=>?_)
 ·skip
  go_simp
  refine(HS.out _ (lN.out.trans (HB.out.mono lN.out.size))).mono ?_
  rintro e OG ⟨rfl,ly⟩
  have TU:Hid (Below w6.heap.size w6 OG):=hid (HB.out.trans (ly.mono HB.out.size))
  clear ly
  refine hK.out _ _ (fun _=>iI.out _ TU.out) ?_
  clear hK K
  refine nK (i:=11) (i':=12) (i2:=13) zk rfl rfl rfl (fun K hK=>?_) (fun K hK=>?_) (fun K hK=>?_)
  ·skip
   go_simp
   refine(HL.out _ (lN.out.trans (TU.out.mono lN.out.size))).mono ?_
   rintro e Ub ⟨rfl,lz⟩
   have Zd:Hid (Below w6.heap.size w6 Ub):=hid (TU.out.trans (lz.mono TU.out.size))
   clear lz
   refine hK.out _ _ (fun _=>iI.out _ Zd.out) ?_
   clear hK K
   refine aR (i:=12) (i':=13) zk rfl rfl (fun K hK=>?_) (fun K hK=>?_)
   ·skip
    go_simp
    obtain⟨fW,hw3⟩:∃x,x=Ub.alloc (.cells #[int i64 0,int i64 0,int i64 0] 67):=⟨_,rfl⟩
    rw[← hw3]
    have pT:Hid (Below w6.heap.size w6 fW):=hid (by rw[hw3];exact Zd.out.alloc Zd.out.size _)
    have XK:Hid (Whole fW Ub.heap.size 67 #[int i64 0,int i64 0,int i64 0]):=hid (by rw[hw3];exact Whole.new _ _ _)
    have mn:w6.heap.size≤Ub.heap.size:=Zd.out.size
    clear hw3
    refine hK.out _ _ (fun _=>iI.out _ pT.out) ?_
    clear hK K
    refine aX 13 fun K hK=>?_
    go_simp
    obtain⟨DM,hw4⟩:∃x,x=fW.alloc (.cells #[int i64 0,int i64 0,int i64 0] 67):=⟨_,rfl⟩
    rw[← hw4]
    have tS:Hid (Below w6.heap.size w6 DM):=hid (by rw[hw4];exact pT.out.alloc pT.out.size _)
    have gl:Hid (Whole DM fW.heap.size 67 #[int i64 0,int i64 0,int i64 0]):=hid (by rw[hw4];exact Whole.new _ _ _)
    have hge4:w6.heap.size≤fW.heap.size:=pT.out.size
    have VM:=XK.out.lt
    have Pw:=hid (show Whole DM _ _ _ by rw[hw4];exact XK.out.alloc _)
    clear hw4
    refine hK.out _ _ (fun _=>iI.out _ tS.out) ?_
    clear hK K
    have c13:=Pw.out.cell
    have f13:=Pw.out.thaw
    refine aX 14 fun K hK=>?_
    go_simp
    refine hK.out _ _ (fun _=>iI.out _ (aB tS.out mn)) ?_
    clear hK K
    have g14:=hid ((gl.out.bN (x:=int i64 (S 0)) (y:=int i64 (S 1)) (z:=int i64 (S 2)) (B:=Ub.heap.size) zo))
    have c14:=g14.out.cell
    have f14:=g14.out.thaw
    clear c13 f13
    refine aX 15 fun K hK=>?_
    go_simp
    refine hK.out _ _ (fun h=>absurd rfl h) ?_
    clear hK K c14 f14
    refine aF zk ?_ _
    exact Rest.out Ub.heap.size fW.heap.size _ (aB (aB tS.out mn) hge4) (Pw.out.iw.bN zo) g14.out.iw
   ·skip
    go_simp
    obtain⟨eN,wh⟩:∃x,x=Ub.alloc (.cells #[int i64 0,int i64 0,int i64 0] 67):=⟨_,rfl⟩
    rw[← wh]
    have pZ:Hid (Below w6.heap.size w6 eN):=hid (by rw[wh];exact Zd.out.alloc Zd.out.size _)
    have XM:Hid (Whole eN Ub.heap.size 67 #[int i64 0,int i64 0,int i64 0]):=hid (by rw[wh];exact Whole.new _ _ _)
    have xN:w6.heap.size≤Ub.heap.size:=Zd.out.size
    clear wh
    refine hK.out _ _ (fun _=>iI.out _ pZ.out) ?_
    clear hK K
    refine aX 12 fun K hK=>?_
    go_simp
    obtain⟨DO,OV⟩:∃x,x=eN.alloc (.cells #[int i64 0,int i64 0,int i64 0] 67):=⟨_,rfl⟩
    rw[← OV]
    have tU:Hid (Below w6.heap.size w6 DO):=hid (by rw[OV];exact pZ.out.alloc pZ.out.size _)
    have Px:Hid (Whole DO eN.heap.size 67 #[int i64 0,int i64 0,int i64 0]):=hid (by rw[OV];exact Whole.new _ _ _)
    have mr:w6.heap.size≤eN.heap.size:=pZ.out.size
    have VS:=XM.out.lt
    have gm:=hid (show Whole DO _ _ _ by rw[OV];exact XM.out.alloc _)
    clear OV
    refine hK.out _ _ (fun _=>iI.out _ tU.out) ?_
    clear hK K
    have c13:=Px.out.cell
    have f13:=Px.out.thaw
    refine aX 14 fun K hK=>?_
    go_simp
    refine hK.out _ _ (fun _=>iI.out _ (aB tU.out mr)) ?_
    clear hK K
    have g14:=hid ((gm.out.bN (x:=int i64 (S 0)) (y:=int i64 (S 1)) (z:=int i64 (S 2)) (B:=eN.heap.size) zo))
    have c14:=g14.out.cell
    have f14:=g14.out.thaw
    clear c13 f13
    refine aX 15 fun K hK=>?_
    go_simp
    refine hK.out _ _ (fun h=>absurd rfl h) ?_
    clear hK K c14 f14
    refine aF zk ?_ _
    exact Rest.out eN.heap.size Ub.heap.size _ (aB (aB tU.out mr) xN) (Px.out.iw.bN zo) g14.out.iw
  ·skip
   go_simp
   obtain⟨fX,hw7⟩:∃x,x=OG.alloc (.cells #[int i64 0,int i64 0,int i64 0] 67):=⟨_,rfl⟩
   rw[← hw7]
   have Zk:Hid (Below w6.heap.size w6 fX):=hid (by rw[hw7];exact TU.out.alloc TU.out.size _)
   have Kg:Hid (Whole fX OG.heap.size 67 #[int i64 0,int i64 0,int i64 0]):=hid (by rw[hw7];exact Whole.new _ _ _)
   have Vh:w6.heap.size≤OG.heap.size:=TU.out.size
   clear hw7
   refine hK.out _ _ (fun _=>iI.out _ Zk.out) ?_
   clear hK K
   refine aR (i:=11) (i':=13) zk rfl rfl (fun K hK=>?_) (fun K hK=>?_)
   ·skip
    go_simp
    refine(HL.out _ (lN.out.trans (Zk.out.mono lN.out.size))).mono ?_
    rintro e pH ⟨rfl,ZX⟩
    have p0:Hid (Below w6.heap.size w6 pH):=hid (Zk.out.trans (ZX.mono Zk.out.size))
    have XL:=hid (Kg.out.below ZX Kg.out.lt)
    clear ZX
    refine hK.out _ _ (fun _=>iI.out _ p0.out) ?_
    clear hK K
    refine aX 13 fun K hK=>?_
    go_simp
    obtain⟨DQ,Ua⟩:∃x,x=pH.alloc (.cells #[int i64 0,int i64 0,int i64 0] 67):=⟨_,rfl⟩
    rw[← Ua]
    have tW:Hid (Below w6.heap.size w6 DQ):=hid (by rw[Ua];exact p0.out.alloc p0.out.size _)
    have gn:Hid (Whole DQ pH.heap.size 67 #[int i64 0,int i64 0,int i64 0]):=hid (by rw[Ua];exact Whole.new _ _ _)
    have xT:w6.heap.size≤pH.heap.size:=p0.out.size
    have VV:=XL.out.lt
    have Py:=hid (show Whole DQ _ _ _ by rw[Ua];exact XL.out.alloc _)
    clear Ua
    refine hK.out _ _ (fun _=>iI.out _ tW.out) ?_
    clear hK K
    have c13:=Py.out.cell
    have f13:=Py.out.thaw
    refine aX 14 fun K hK=>?_
    go_simp
    refine hK.out _ _ (fun _=>iI.out _ (aB tW.out Vh)) ?_
    clear hK K
    have g14:=hid ((gn.out.bN (x:=int i64 (S 0)) (y:=int i64 (S 1)) (z:=int i64 (S 2)) (B:=OG.heap.size) zo))
    have c14:=g14.out.cell
    have f14:=g14.out.thaw
    clear c13 f13
    refine aX 15 fun K hK=>?_
    go_simp
    refine hK.out _ _ (fun h=>absurd rfl h) ?_
    clear hK K c14 f14
    refine aF zk ?_ _
    exact Rest.out OG.heap.size pH.heap.size _ (aB (aB tW.out Vh) xT) (Py.out.iw.bN zo) g14.out.iw
   ·skip
    go_simp
    obtain⟨eo,Q9⟩:∃x,x=fX.alloc (.cells #[int i64 0,int i64 0,int i64 0] 67):=⟨_,rfl⟩
    rw[← Q9]
    have Uh:Hid (Below w6.heap.size w6 eo):=hid (by rw[Q9];exact Zk.out.alloc Zk.out.size _)
    have Pz:Hid (Whole eo fX.heap.size 67 #[int i64 0,int i64 0,int i64 0]):=hid (by rw[Q9];exact Whole.new _ _ _)
    have mf:w6.heap.size≤fX.heap.size:=Zk.out.size
    have Lk:=Kg.out.lt
    have Ph:=hid (show Whole eo _ _ _ by rw[Q9];exact Kg.out.alloc _)
    clear Q9
    refine hK.out _ _ (fun _=>iI.out _ Uh.out) ?_
    clear hK K
    refine aX 11 fun K hK=>?_
    go_simp
    refine(HL.out _ (lN.out.trans (Uh.out.mono lN.out.size))).mono ?_
    rintro e CR ⟨rfl,KF⟩
    have Za:Hid (Below w6.heap.size w6 CR):=hid (Uh.out.trans (KF.mono Uh.out.size))
    have GV:=hid (Ph.out.below KF Ph.out.lt)
    have YI:=hid (Pz.out.below KF Pz.out.lt)
    clear KF
    refine hK.out _ _ (fun _=>iI.out _ Za.out) ?_
    clear hK K
    have c13:=GV.out.cell
    have f13:=GV.out.thaw
    refine aX 14 fun K hK=>?_
    go_simp
    refine hK.out _ _ (fun _=>iI.out _ (aB Za.out Vh)) ?_
    clear hK K
    have g14:=hid ((YI.out.bN (x:=int i64 (S 0)) (y:=int i64 (S 1)) (z:=int i64 (S 2)) (B:=OG.heap.size) zo))
    have c14:=g14.out.cell
    have f14:=g14.out.thaw
    clear c13 f13
    refine aX 15 fun K hK=>?_
    go_simp
    refine hK.out _ _ (fun h=>absurd rfl h) ?_
    clear hK K c14 f14
    refine aF zk ?_ _
    exact Rest.out OG.heap.size fX.heap.size _ (aB (aB Za.out Vh) mf) (GV.out.iw.bN zo) g14.out.iw
  ·skip
   go_simp
   obtain⟨Ka,Vo⟩:∃x,x=OG.alloc (.cells #[int i64 0,int i64 0,int i64 0] 67):=⟨_,rfl⟩
   rw[← Vo]
   have H6:Hid (Below w6.heap.size w6 Ka):=hid (by rw[Vo];exact TU.out.alloc TU.out.size _)
   have BQ:Hid (Whole Ka OG.heap.size 67 #[int i64 0,int i64 0,int i64 0]):=hid (by rw[Vo];exact Whole.new _ _ _)
   have Yp:w6.heap.size≤OG.heap.size:=TU.out.size
   clear Vo
   refine hK.out _ _ (fun _=>iI.out _ H6.out) ?_
   clear hK K
   refine aR (i:=11) (i':=12) zk rfl rfl (fun K hK=>?_) (fun K hK=>?_)
   ·skip
    go_simp
    refine(HL.out _ (lN.out.trans (H6.out.mono lN.out.size))).mono ?_
    rintro e OH ⟨rfl,QO⟩
    have Ui:Hid (Below w6.heap.size w6 OH):=hid (H6.out.trans (QO.mono H6.out.size))
    have PD:=hid (BQ.out.below QO BQ.out.lt)
    clear QO
    refine hK.out _ _ (fun _=>iI.out _ Ui.out) ?_
    clear hK K
    refine aX 12 fun K hK=>?_
    go_simp
    obtain⟨ep,Ra⟩:∃x,x=OH.alloc (.cells #[int i64 0,int i64 0,int i64 0] 67):=⟨_,rfl⟩
    rw[← Ra]
    have Zb:Hid (Below w6.heap.size w6 ep):=hid (by rw[Ra];exact Ui.out.alloc Ui.out.size _)
    have GY:Hid (Whole ep OH.heap.size 67 #[int i64 0,int i64 0,int i64 0]):=hid (by rw[Ra];exact Whole.new _ _ _)
    have Yq:w6.heap.size≤OH.heap.size:=Ui.out.size
    have Ln:=PD.out.lt
    have YJ:=hid (show Whole ep _ _ _ by rw[Ra];exact PD.out.alloc _)
    clear Ra
    refine hK.out _ _ (fun _=>iI.out _ Zb.out) ?_
    clear hK K
    have c13:=GY.out.cell
    have f13:=GY.out.thaw
    refine aX 14 fun K hK=>?_
    go_simp
    refine hK.out _ _ (fun _=>iI.out _ (aB Zb.out Yq)) ?_
    clear hK K
    have g14:=hid ((YJ.out.bN (x:=int i64 (S 0)) (y:=int i64 (S 1)) (z:=int i64 (S 2)) (B:=OH.heap.size) zo))
    have c14:=g14.out.cell
    have f14:=g14.out.thaw
    clear c13 f13
    refine aX 15 fun K hK=>?_
    go_simp
    refine hK.out _ _ (fun h=>absurd rfl h) ?_
    clear hK K c14 f14
    refine aF zk ?_ _
    exact Rest.out OH.heap.size OG.heap.size _ (aB (aB Zb.out Yq) Yp) (GY.out.iw.bN zo) g14.out.iw
   ·skip
    go_simp
    obtain⟨et,Rb⟩:∃x,x=Ka.alloc (.cells #[int i64 0,int i64 0,int i64 0] 67):=⟨_,rfl⟩
    rw[← Rb]
    have Uj:Hid (Below w6.heap.size w6 et):=hid (by rw[Rb];exact H6.out.alloc H6.out.size _)
    have Pj:Hid (Whole et Ka.heap.size 67 #[int i64 0,int i64 0,int i64 0]):=hid (by rw[Rb];exact Whole.new _ _ _)
    have Yr:w6.heap.size≤Ka.heap.size:=H6.out.size
    have Lo:=BQ.out.lt
    have PE:=hid (show Whole et _ _ _ by rw[Rb];exact BQ.out.alloc _)
    clear Rb
    refine hK.out _ _ (fun _=>iI.out _ Uj.out) ?_
    clear hK K
    refine aX 11 fun K hK=>?_
    go_simp
    refine(HL.out _ (lN.out.trans (Uj.out.mono lN.out.size))).mono ?_
    rintro e C6 ⟨rfl,KG⟩
    have Zc:Hid (Below w6.heap.size w6 C6):=hid (Uj.out.trans (KG.mono Uj.out.size))
    have GZ:=hid (Pj.out.below KG Pj.out.lt)
    have YK:=hid (PE.out.below KG PE.out.lt)
    clear KG
    refine hK.out _ _ (fun _=>iI.out _ Zc.out) ?_
    clear hK K
    have c13:=GZ.out.cell
    have f13:=GZ.out.thaw
    refine aX 14 fun K hK=>?_
    go_simp
    refine hK.out _ _ (fun _=>iI.out _ (aB Zc.out Yr)) ?_
    clear hK K
    have g14:=hid ((YK.out.bN (x:=int i64 (S 0)) (y:=int i64 (S 1)) (z:=int i64 (S 2)) (B:=Ka.heap.size) zo))
    have c14:=g14.out.cell
    have f14:=g14.out.thaw
    clear c13 f13
    refine aX 15 fun K hK=>?_
    go_simp
    refine hK.out _ _ (fun h=>absurd rfl h) ?_
    clear hK K c14 f14
    refine aF zk ?_ _
    exact Rest.out Ka.heap.size OG.heap.size _ (aB (aB Zc.out Yr) Yp) (GZ.out.iw.bN zo) g14.out.iw
 ·skip
  go_simp
  obtain⟨OI,Vp⟩:∃x,x=w60.alloc (.cells #[int i64 0,int i64 0,int i64 0] 67):=⟨_,rfl⟩
  rw[← Vp]
  have H7:Hid (Below w6.heap.size w6 OI):=hid (by rw[Vp];exact HB.out.alloc HB.out.size _)
  have BK:Hid (Whole OI w60.heap.size 67 #[int i64 0,int i64 0,int i64 0]):=hid (by rw[Vp];exact Whole.new _ _ _)
  have Ak:w6.heap.size≤w60.heap.size:=HB.out.size
  clear Vp
  refine hK.out _ _ (fun _=>iI.out _ H7.out) ?_
  clear hK K
  refine aR (i:=7) (i':=13) zk rfl rfl (fun K hK=>?_) (fun K hK=>?_)
  ·skip
   go_simp
   refine(HS.out _ (lN.out.trans (H7.out.mono lN.out.size))).mono ?_
   rintro e TM ⟨rfl,QS⟩
   have H8:Hid (Below w6.heap.size w6 TM):=hid (H7.out.trans (QS.mono H7.out.size))
   have BP:=hid (BK.out.below QS BK.out.lt)
   clear QS
   refine hK.out _ _ (fun _=>iI.out _ H8.out) ?_
   clear hK K
   refine aR (i:=11) (i':=13) zk rfl rfl (fun K hK=>?_) (fun K hK=>?_)
   ·skip
    go_simp
    refine(HL.out _ (lN.out.trans (H8.out.mono lN.out.size))).mono ?_
    rintro e TN ⟨rfl,QT⟩
    have Uk:Hid (Below w6.heap.size w6 TN):=hid (H8.out.trans (QT.mono H8.out.size))
    have Pk:=hid (BP.out.below QT BP.out.lt)
    clear QT
    refine hK.out _ _ (fun _=>iI.out _ Uk.out) ?_
    clear hK K
    refine aX 13 fun K hK=>?_
    go_simp
    obtain⟨eA,Rf⟩:∃x,x=TN.alloc (.cells #[int i64 0,int i64 0,int i64 0] 67):=⟨_,rfl⟩
    rw[← Rf]
    have Ze:Hid (Below w6.heap.size w6 eA):=hid (by rw[Rf];exact Uk.out.alloc Uk.out.size _)
    have YL:Hid (Whole eA TN.heap.size 67 #[int i64 0,int i64 0,int i64 0]):=hid (by rw[Rf];exact Whole.new _ _ _)
    have mi:w6.heap.size≤TN.heap.size:=Uk.out.size
    have Lq:=Pk.out.lt
    have G5:=hid (show Whole eA _ _ _ by rw[Rf];exact Pk.out.alloc _)
    clear Rf
    refine hK.out _ _ (fun _=>iI.out _ Ze.out) ?_
    clear hK K
    have c13:=G5.out.cell
    have f13:=G5.out.thaw
    refine aX 14 fun K hK=>?_
    go_simp
    refine hK.out _ _ (fun _=>iI.out _ (aB Ze.out Ak)) ?_
    clear hK K
    have g14:=hid ((YL.out.bN (x:=int i64 (S 0)) (y:=int i64 (S 1)) (z:=int i64 (S 2)) (B:=w60.heap.size) zo))
    have c14:=g14.out.cell
    have f14:=g14.out.thaw
    clear c13 f13
    refine aX 15 fun K hK=>?_
    go_simp
    refine hK.out _ _ (fun h=>absurd rfl h) ?_
    clear hK K c14 f14
    refine aF zk ?_ _
    exact Rest.out w60.heap.size TN.heap.size _ (aB (aB Ze.out Ak) mi) (G5.out.iw.bN zo) g14.out.iw
   ·skip
    go_simp
    obtain⟨eC,MU⟩:∃x,x=TM.alloc (.cells #[int i64 0,int i64 0,int i64 0] 67):=⟨_,rfl⟩
    rw[← MU]
    have Ul:Hid (Below w6.heap.size w6 eC):=hid (by rw[MU];exact H8.out.alloc H8.out.size _)
    have PG:Hid (Whole eC TM.heap.size 67 #[int i64 0,int i64 0,int i64 0]):=hid (by rw[MU];exact Whole.new _ _ _)
    have mj:w6.heap.size≤TM.heap.size:=H8.out.size
    have Lt:=BP.out.lt
    have Pm:=hid (show Whole eC _ _ _ by rw[MU];exact BP.out.alloc _)
    clear MU
    refine hK.out _ _ (fun _=>iI.out _ Ul.out) ?_
    clear hK K
    refine aX 11 fun K hK=>?_
    go_simp
    refine(HL.out _ (lN.out.trans (Ul.out.mono lN.out.size))).mono ?_
    rintro e Dd ⟨rfl,KH⟩
    have Zf:Hid (Below w6.heap.size w6 Dd):=hid (Ul.out.trans (KH.mono Ul.out.size))
    have G6:=hid (Pm.out.below KH Pm.out.lt)
    have YM:=hid (PG.out.below KH PG.out.lt)
    clear KH
    refine hK.out _ _ (fun _=>iI.out _ Zf.out) ?_
    clear hK K
    have c13:=G6.out.cell
    have f13:=G6.out.thaw
    refine aX 14 fun K hK=>?_
    go_simp
    refine hK.out _ _ (fun _=>iI.out _ (aB Zf.out Ak)) ?_
    clear hK K
    have g14:=hid ((YM.out.bN (x:=int i64 (S 0)) (y:=int i64 (S 1)) (z:=int i64 (S 2)) (B:=w60.heap.size) zo))
    have c14:=g14.out.cell
    have f14:=g14.out.thaw
    clear c13 f13
    refine aX 15 fun K hK=>?_
    go_simp
    refine hK.out _ _ (fun h=>absurd rfl h) ?_
    clear hK K c14 f14
    refine aF zk ?_ _
    exact Rest.out w60.heap.size TM.heap.size _ (aB (aB Zf.out Ak) mj) (G6.out.iw.bN zo) g14.out.iw
  ·skip
   go_simp
   obtain⟨eE,Rh⟩:∃x,x=OI.alloc (.cells #[int i64 0,int i64 0,int i64 0] 67):=⟨_,rfl⟩
   rw[← Rh]
   have Um:Hid (Below w6.heap.size w6 eE):=hid (by rw[Rh];exact H7.out.alloc H7.out.size _)
   have PI:Hid (Whole eE OI.heap.size 67 #[int i64 0,int i64 0,int i64 0]):=hid (by rw[Rh];exact Whole.new _ _ _)
   have ml:w6.heap.size≤OI.heap.size:=H7.out.size
   have Lw:=BK.out.lt
   have Pn:=hid (show Whole eE _ _ _ by rw[Rh];exact BK.out.alloc _)
   clear Rh
   refine hK.out _ _ (fun _=>iI.out _ Um.out) ?_
   clear hK K
   refine aX 7 fun K hK=>?_
   go_simp
   refine(HS.out _ (lN.out.trans (Um.out.mono lN.out.size))).mono ?_
   rintro e De ⟨rfl,KI⟩
   have Un:Hid (Below w6.heap.size w6 De):=hid (Um.out.trans (KI.mono Um.out.size))
   have Po:=hid (Pn.out.below KI Pn.out.lt)
   have PK:=hid (PI.out.below KI PI.out.lt)
   clear KI
   refine hK.out _ _ (fun _=>iI.out _ Un.out) ?_
   clear hK K
   refine aX 11 fun K hK=>?_
   go_simp
   refine(HL.out _ (lN.out.trans (Un.out.mono lN.out.size))).mono ?_
   rintro e Ds ⟨rfl,KJ⟩
   have Zg:Hid (Below w6.heap.size w6 Ds):=hid (Un.out.trans (KJ.mono Un.out.size))
   have G8:=hid (Po.out.below KJ Po.out.lt)
   have YN:=hid (PK.out.below KJ PK.out.lt)
   clear KJ
   refine hK.out _ _ (fun _=>iI.out _ Zg.out) ?_
   clear hK K
   have c13:=G8.out.cell
   have f13:=G8.out.thaw
   refine aX 14 fun K hK=>?_
   go_simp
   refine hK.out _ _ (fun _=>iI.out _ (aB Zg.out Ak)) ?_
   clear hK K
   have g14:=hid ((YN.out.bN (x:=int i64 (S 0)) (y:=int i64 (S 1)) (z:=int i64 (S 2)) (B:=w60.heap.size) zo))
   have c14:=g14.out.cell
   have f14:=g14.out.thaw
   clear c13 f13
   refine aX 15 fun K hK=>?_
   go_simp
   refine hK.out _ _ (fun h=>absurd rfl h) ?_
   clear hK K c14 f14
   refine aF zk ?_ _
   exact Rest.out w60.heap.size OI.heap.size _ (aB (aB Zg.out Ak) ml) (G8.out.iw.bN zo) g14.out.iw
 ·skip
  go_simp
  obtain⟨Kc,Vq⟩:∃x,x=w60.alloc (.cells #[int i64 0,int i64 0,int i64 0] 67):=⟨_,rfl⟩
  rw[← Vq]
  have H9:Hid (Below w6.heap.size w6 Kc):=hid (by rw[Vq];exact HB.out.alloc HB.out.size _)
  have BR:Hid (Whole Kc w60.heap.size 67 #[int i64 0,int i64 0,int i64 0]):=hid (by rw[Vq];exact Whole.new _ _ _)
  have Q0:w6.heap.size≤w60.heap.size:=HB.out.size
  clear Vq
  refine hK.out _ _ (fun _=>iI.out _ H9.out) ?_
  clear hK K
  refine aR (i:=7) (i':=12) zk rfl rfl (fun K hK=>?_) (fun K hK=>?_)
  ·skip
   go_simp
   refine(HS.out _ (lN.out.trans (H9.out.mono lN.out.size))).mono ?_
   rintro e OJ ⟨rfl,QU⟩
   have Ia:Hid (Below w6.heap.size w6 OJ):=hid (H9.out.trans (QU.mono H9.out.size))
   have BS:=hid (BR.out.below QU BR.out.lt)
   clear QU
   refine hK.out _ _ (fun _=>iI.out _ Ia.out) ?_
   clear hK K
   refine aR (i:=11) (i':=12) zk rfl rfl (fun K hK=>?_) (fun K hK=>?_)
   ·skip
    go_simp
    refine(HL.out _ (lN.out.trans (Ia.out.mono lN.out.size))).mono ?_
    rintro e OL ⟨rfl,QV⟩
    have Uo:Hid (Below w6.heap.size w6 OL):=hid (Ia.out.trans (QV.mono Ia.out.size))
    have PL:=hid (BS.out.below QV BS.out.lt)
    clear QV
    refine hK.out _ _ (fun _=>iI.out _ Uo.out) ?_
    clear hK K
    refine aX 12 fun K hK=>?_
    go_simp
    obtain⟨eI,Ri⟩:∃x,x=OL.alloc (.cells #[int i64 0,int i64 0,int i64 0] 67):=⟨_,rfl⟩
    rw[← Ri]
    have Zh:Hid (Below w6.heap.size w6 eI):=hid (by rw[Ri];exact Uo.out.alloc Uo.out.size _)
    have He:Hid (Whole eI OL.heap.size 67 #[int i64 0,int i64 0,int i64 0]):=hid (by rw[Ri];exact Whole.new _ _ _)
    have Yt:w6.heap.size≤OL.heap.size:=Uo.out.size
    have Ly:=PL.out.lt
    have YO:=hid (show Whole eI _ _ _ by rw[Ri];exact PL.out.alloc _)
    clear Ri
    refine hK.out _ _ (fun _=>iI.out _ Zh.out) ?_
    clear hK K
    have c13:=He.out.cell
    have f13:=He.out.thaw
    refine aX 14 fun K hK=>?_
    go_simp
    refine hK.out _ _ (fun _=>iI.out _ (aB Zh.out Yt)) ?_
    clear hK K
    have g14:=hid ((YO.out.bN (x:=int i64 (S 0)) (y:=int i64 (S 1)) (z:=int i64 (S 2)) (B:=OL.heap.size) zo))
    have c14:=g14.out.cell
    have f14:=g14.out.thaw
    clear c13 f13
    refine aX 15 fun K hK=>?_
    go_simp
    refine hK.out _ _ (fun h=>absurd rfl h) ?_
    clear hK K c14 f14
    refine aF zk ?_ _
    exact Rest.out OL.heap.size w60.heap.size _ (aB (aB Zh.out Yt) Q0) (He.out.iw.bN zo) g14.out.iw
   ·skip
    go_simp
    obtain⟨eJ,Rj⟩:∃x,x=OJ.alloc (.cells #[int i64 0,int i64 0,int i64 0] 67):=⟨_,rfl⟩
    rw[← Rj]
    have Uq:Hid (Below w6.heap.size w6 eJ):=hid (by rw[Rj];exact Ia.out.alloc Ia.out.size _)
    have Pp:Hid (Whole eJ OJ.heap.size 67 #[int i64 0,int i64 0,int i64 0]):=hid (by rw[Rj];exact Whole.new _ _ _)
    have Yu:w6.heap.size≤OJ.heap.size:=Ia.out.size
    have Lz:=BS.out.lt
    have PN:=hid (show Whole eJ _ _ _ by rw[Rj];exact BS.out.alloc _)
    clear Rj
    refine hK.out _ _ (fun _=>iI.out _ Uq.out) ?_
    clear hK K
    refine aX 11 fun K hK=>?_
    go_simp
    refine(HL.out _ (lN.out.trans (Uq.out.mono lN.out.size))).mono ?_
    rintro e DD ⟨rfl,KL⟩
    have Zi:Hid (Below w6.heap.size w6 DD):=hid (Uq.out.trans (KL.mono Uq.out.size))
    have Hf:=hid (Pp.out.below KL Pp.out.lt)
    have YP:=hid (PN.out.below KL PN.out.lt)
    clear KL
    refine hK.out _ _ (fun _=>iI.out _ Zi.out) ?_
    clear hK K
    have c13:=Hf.out.cell
    have f13:=Hf.out.thaw
    refine aX 14 fun K hK=>?_
    go_simp
    refine hK.out _ _ (fun _=>iI.out _ (aB Zi.out Yu)) ?_
    clear hK K
    have g14:=hid ((YP.out.bN (x:=int i64 (S 0)) (y:=int i64 (S 1)) (z:=int i64 (S 2)) (B:=OJ.heap.size) zo))
    have c14:=g14.out.cell
    have f14:=g14.out.thaw
    clear c13 f13
    refine aX 15 fun K hK=>?_
    go_simp
    refine hK.out _ _ (fun h=>absurd rfl h) ?_
    clear hK K c14 f14
    refine aF zk ?_ _
    exact Rest.out OJ.heap.size w60.heap.size _ (aB (aB Zi.out Yu) Q0) (Hf.out.iw.bN zo) g14.out.iw
  ·skip
   go_simp
   obtain⟨eK,hw32⟩:∃x,x=Kc.alloc (.cells #[int i64 0,int i64 0,int i64 0] 67):=⟨_,rfl⟩
   rw[← hw32]
   have Ur:Hid (Below w6.heap.size w6 eK):=hid (by rw[hw32];exact H9.out.alloc H9.out.size _)
   have Pq:Hid (Whole eK Kc.heap.size 67 #[int i64 0,int i64 0,int i64 0]):=hid (by rw[hw32];exact Whole.new _ _ _)
   have Yv:w6.heap.size≤Kc.heap.size:=H9.out.size
   have hne32:=BR.out.lt
   have PO:=hid (show Whole eK _ _ _ by rw[hw32];exact BR.out.alloc _)
   clear hw32
   refine hK.out _ _ (fun _=>iI.out _ Ur.out) ?_
   clear hK K
   refine aX 7 fun K hK=>?_
   go_simp
   refine(HS.out _ (lN.out.trans (Ur.out.mono lN.out.size))).mono ?_
   rintro e DG ⟨rfl,KM⟩
   have Us:Hid (Below w6.heap.size w6 DG):=hid (Ur.out.trans (KM.mono Ur.out.size))
   have Pv:=hid (Pq.out.below KM Pq.out.lt)
   have PU:=hid (PO.out.below KM PO.out.lt)
   clear KM
   refine hK.out _ _ (fun _=>iI.out _ Us.out) ?_
   clear hK K
   refine aX 11 fun K hK=>?_
   go_simp
   refine(HL.out _ (lN.out.trans (Us.out.mono lN.out.size))).mono ?_
   rintro e DH ⟨rfl,KO⟩
   have Zj:Hid (Below w6.heap.size w6 DH):=hid (Us.out.trans (KO.mono Us.out.size))
   have Hq:=hid (Pv.out.below KO Pv.out.lt)
   have YQ:=hid (PU.out.below KO PU.out.lt)
   clear KO
   refine hK.out _ _ (fun _=>iI.out _ Zj.out) ?_
   clear hK K
   have c13:=Hq.out.cell
   have f13:=Hq.out.thaw
   refine aX 14 fun K hK=>?_
   go_simp
   refine hK.out _ _ (fun _=>iI.out _ (aB Zj.out Yv)) ?_
   clear hK K
   have g14:=hid ((YQ.out.bN (x:=int i64 (S 0)) (y:=int i64 (S 1)) (z:=int i64 (S 2)) (B:=Kc.heap.size) zo))
   have c14:=g14.out.cell
   have f14:=g14.out.thaw
   clear c13 f13
   refine aX 15 fun K hK=>?_
   go_simp
   refine hK.out _ _ (fun h=>absurd rfl h) ?_
   clear hK K c14 f14
   refine aF zk ?_ _
   exact Rest.out Kc.heap.size w60.heap.size _ (aB (aB Zj.out Yv) Q0) (Hq.out.iw.bN zo) g14.out.iw
end
end Go.Proofs.YtoldgagdgjilgaaGreat
