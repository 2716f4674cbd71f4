/- P23 -/
import Derived.Test.YthaelabgfnnebaaGreatE6
set_option maxRecDepth 100000
set_option maxHeartbeats 16000000
set_option linter.unusedVariables false
set_option linter.unusedSectionVars false
open Go.IntKind(i64)
open Go.Lib(hid)
open Go.Proofs.Tryz
open Go.Value(int)
namespace Go.Proofs.YthaelabgfnnebaaGreat
section
open Go.RowKit Go.Sort
theorem cD:UF:=by
 intro b l1 l2 l3 w ok hcap hp h A1 A2 A3 p1 p2 p3 i1 i2 i3
 have po:=Lx ok hp
 have h0:∀x∈l3,0≤x:=fun x hx=>(po.2.1 x hx).1
 have hO:=wM b l1 l2 l3 w h ok hcap hp A1 A2 A3 p1 p2 p3 i1 i2 i3
 have hO2:∀W,Below W.heap.size W W:=fun W=>Below.refl _ _
 have hO3:∀w',Below w.heap.size w w'→CallsIn FF 0 prog 52 #[b.val,.slice A1 l1.length p1,.slice A2 l2.length p2,.slice A3 l3.length p3] w' fun e w2=>∃A n p,e=.returned (.tuple #[b.ZK A n p,(gZ l1 l2 l3).val,int i64 0])∧Below w'.heap.size w' w2:=fun w' hb=>
  wM b l1 l2 l3 w' ((h.below hb).more hb.size) ok hcap hp A1 A2 A3 p1 p2 p3 (cZ i1 hb) (cZ i2 hb) (cZ i3 hb)
 have hS:∀w',Below w.heap.size w w'→CallsIn FF 0 prog 42 #[b.val,(gZ l1 l2 l3).val,int i64 b.days] w' fun e w2=>e=.returned (lH (stk b (gZ l1 l2 l3) b.days b.nm))∧Below w'.heap.size w' w2:=fun w' hb=>
  fE b (gZ l1 l2 l3) b.days w' ((h.below hb).more hb.size) ok.moves ok.bJ.1.2 po.1
 have hL:∀w',Below w.heap.size w w'→CallsIn FF 0 prog 53 #[b.val,(gZ l1 l2 l3).val] w' fun e w2=>e=.returned (lH (Du b (gZ l1 l2 l3) (b.days.toNat+1)))∧Below w'.heap.size w' w2:=fun w' hb=>
  oa b (gZ l1 l2 l3) w' ((h.below hb).more hb.size) ok.moves ok.days ok.bJ.1.2 po.1
 have eS:∀q,stk b (gZ l1 l2 l3) b.days b.nm q=Dn b l1 l2 l3 q:=fun q=>Gp b l1 l2 l3 h0 b.days q
 have eL:∀q,Du b (gZ l1 l2 l3) (b.days.toNat+1) q=Lj b l1 l2 l3 q:=fun q=>FR b l1 l2 l3 h0 q _
 unfold Es
 simp only[← eS,← eL]
 clear eS eL hO hO2 h0
 obtain⟨S,hSd⟩:∃S,S=stk b (gZ l1 l2 l3) b.days b.nm:=⟨_,rfl⟩
 obtain⟨L,J1⟩:∃L,L=Du b (gZ l1 l2 l3) (b.days.toNat+1):=⟨_,rfl⟩
 rw[← hSd] at hS⊢
 rw[← J1] at hL⊢
 obtain⟨n1,hn1⟩:∃n1,n1=l1.length:=⟨_,rfl⟩
 obtain⟨n2,hn2⟩:∃n2,n2=l2.length:=⟨_,rfl⟩
 obtain⟨n3,Pg⟩:∃n3,n3=l3.length:=⟨_,rfl⟩
 rw[← hn1,← hn2,← Pg] at hO3⊢
 obtain⟨ht,hht⟩:∃ht,ht=gZ l1 l2 l3:=⟨_,rfl⟩
 rw[← hht] at hO3 hS hL
 have Ay:=ok.bJ.1
 clear hn1 hn2 Pg hht i1 i2 i3 po hp ok h hcap hSd J1
 obtain⟨days,most,gA,ng,gc,g,mA,nm,mc,m,cA,nc,cc,c⟩:=b
 obtain⟨hf,hmm,lies⟩:=ht
 simp only at Ay
 have lr:∀w',Below w.heap.size w w'→CallsIn FF 0 prog 52 #[.agg #[int i64 days,int i64 most,.slice gA ng gc,.slice mA nm mc,.slice cA nc cc],.slice A1 n1 p1,.slice A2 n2 p2,.slice A3 n3 p3] w' fun e w2=>∃A n p,e=.returned (.tuple #[.agg #[int i64 days,int i64 most,.slice gA ng gc,.slice mA nm mc,.slice cA nc cc,.slice A n p],.agg #[int i64 (hf 0),int i64 (hf 1),int i64 (hf 2),int i64 (hmm 0),int i64 (hmm 1),int i64 (hmm 2),int i64 (hmm 3),int i64 (hmm 4),int i64 (hmm 5),int i64 lies],int i64 0])∧Below w'.heap.size w' w2:=hO3
 simp only[Bk.val,Bk.cells,Ht.val,Ht.cells,lH] at hS hL⊢
 have HS:=hid hS
 have HL:=hid hL
 have HO:=hid lr
 clear hS hL hO3 lr
 have VB:Hid (Below w.heap.size w (w.alloc (.cells #[int i64 days,int i64 most,.slice gA ng gc,.slice mA nm mc,.slice cA nc cc] 26))):=hid (bw)
 gi_enter func25,ntmps25
 gi_wp2_with (gi_at_call 52;refine(HO.out _ VB.out).mono ?_;rintro e w5 ⟨A5,n5,p5,rfl,hb5⟩;have Eo:=hid hb5;clear hb5;have hs5:=Eo.out.size;have Ew:=hid ((Whole.new w5 76 #[int i64 days,int i64 most,.slice gA ng gc,.slice mA nm mc,.slice cA nc cc,.slice A5 n5 p5]).alloc (.cells #[int i64 (hf 0),int i64 (hf 1),int i64 (hf 2),int i64 (hmm 0),int i64 (hmm 1),int i64 (hmm 2),int i64 (hmm 3),int i64 (hmm 4),int i64 (hmm 5),int i64 lies] 88));have Ui:=hid (Whole.new (w5.alloc (.cells #[int i64 days,int i64 most,.slice gA ng gc,.slice mA nm mc,.slice cA nc cc,.slice A5 n5 p5] 76)) 88 #[int i64 (hf 0),int i64 (hf 1),int i64 (hf 2),int i64 (hmm 0),int i64 (hmm 1),int i64 (hmm 2),int i64 (hmm 3),int i64 (hmm 4),int i64 (hmm 5),int i64 lies]))
 obtain⟨w6,Pj⟩:∃w6,w6=(w5.alloc (.cells #[int i64 days,int i64 most,.slice gA ng gc,.slice mA nm mc,.slice cA nc cc,.slice A5 n5 p5] 76)).alloc (.cells #[int i64 (hf 0),int i64 (hf 1),int i64 (hf 2),int i64 (hmm 0),int i64 (hmm 1),int i64 (hmm 2),int i64 (hmm 3),int i64 (hmm 4),int i64 (hmm 5),int i64 lies] 88):=⟨_,rfl⟩
 have Ih:Hid (Whole w6 w5.heap.size 76 #[int i64 days,int i64 most,.slice gA ng gc,.slice mA nm mc,.slice cA nc cc,.slice A5 n5 p5]):=hid (by rw[Pj];exact Ew.out)
 have vF:Hid (Whole w6 (w5.heap.size+1) 88 #[int i64 (hf 0),int i64 (hf 1),int i64 (hf 2),int i64 (hmm 0),int i64 (hmm 1),int i64 (hmm 2),int i64 (hmm 3),int i64 (hmm 4),int i64 (hmm 5),int i64 lies]):=hid (by have:=Ui.out;rw[World.size_alloc] at this;rw[Pj];exact this)
 have lU:Hid (Below w.heap.size w w6):=hid (by
  rw[Pj]
  exact((VB.out.trans (Eo.out.mono VB.out.size)).alloc (by have:=VB.out.size;omega) _).alloc (by have:=VB.out.size;simp;omega) _)
 have hs6:w6.heap.size=w5.heap.size+2:=by rw[Pj];simp
 rw[← Pj]
 clear Pj Ew Ui
 gi_wp2
 rename_i Qr Kr hKr
 have rest:∀ (sX sY:Nat) (wz:World),Below w6.heap.size w6 wz→Whole wz sX 85 #[int i64 (S 0),int i64 (S 1),int i64 (S 2)]→Whole wz sY 85 #[int i64 (L 0),int i64 (L 1),int i64 (L 2)]→Kr {tmps:=#[Value.agg #[int i64 days,int i64 most,.slice gA ng gc,.slice mA nm mc,.slice cA nc cc],.slice A1 n1 p1,.slice A2 n2 p2,.slice A3 n3 p3,.pointer (some ⟨w.heap.size,0,none⟩),undef,undef,undef,.slice none 0 0,.slice none 0 0,int i64 0,Value.pointer (some ⟨w5.heap.size,0,none⟩),.pointer (some ⟨w5.heap.size+1,0,none⟩),.pointer (some ⟨sX,0,none⟩),.pointer (some ⟨sY,0,none⟩),undef,Value.tuple #[Value.agg #[int i64 days,int i64 most,.slice gA ng gc,.slice mA nm mc,.slice cA nc cc,.slice A5 n5 p5],Value.agg #[int i64 (hf 0),int i64 (hf 1),int i64 (hf 2),int i64 (hmm 0),int i64 (hmm 1),int i64 (hmm 2),int i64 (hmm 3),int i64 (hmm 4),int i64 (hmm 5),int i64 lies],int i64 0],Value.agg #[int i64 days,int i64 most,.slice gA ng gc,.slice mA nm mc,.slice cA nc cc],.slice A1 n1 p1,.slice A2 n2 p2,.slice A3 n3 p3,Value.tuple #[Value.agg #[int i64 days,int i64 most,.slice gA ng gc,.slice mA nm mc,.slice cA nc cc,.slice A5 n5 p5],Value.agg #[int i64 (hf 0),int i64 (hf 1),int i64 (hf 2),int i64 (hmm 0),int i64 (hmm 1),int i64 (hmm 2),int i64 (hmm 3),int i64 (hmm 4),int i64 (hmm 5),int i64 lies],int i64 0],Value.agg #[int i64 days,int i64 most,.slice gA ng gc,.slice mA nm mc,.slice cA nc cc,.slice A5 n5 p5],Value.agg #[int i64 (hf 0),int i64 (hf 1),int i64 (hf 2),int i64 (hmm 0),int i64 (hmm 1),int i64 (hmm 2),int i64 (hmm 3),int i64 (hmm 4),int i64 (hmm 5),int i64 lies],int i64 0,int i64 0,.bool false,undef,Value.pointer (some ⟨w5.heap.size,0,none⟩),Value.agg #[int i64 days,int i64 most,.slice gA ng gc,.slice mA nm mc,.slice cA nc cc],Value.agg #[int i64 (hf 0),int i64 (hf 1),int i64 (hf 2),int i64 (hmm 0),int i64 (hmm 1),int i64 (hmm 2),int i64 (hmm 3),int i64 (hmm 4),int i64 (hmm 5),int i64 lies],Value.pointer (some ⟨w5.heap.size,0,none⟩),Value.pointer (some ⟨w5.heap.size,0,none⟩),Value.pointer (some ⟨w5.heap.size,0,none⟩),int i64 days,.agg #[int i64 (S 0),int i64 (S 1),int i64 (S 2)],Value.pointer (some ⟨w5.heap.size,0,none⟩),Value.agg #[int i64 days,int i64 most,.slice gA ng gc,.slice mA nm mc,.slice cA nc cc],Value.agg #[int i64 (hf 0),int i64 (hf 1),int i64 (hf 2),int i64 (hmm 0),int i64 (hmm 1),int i64 (hmm 2),int i64 (hmm 3),int i64 (hmm 4),int i64 (hmm 5),int i64 lies],.agg #[int i64 (L 0),int i64 (L 1),int i64 (L 2)],undef,undef,undef,undef,undef,undef,undef,undef,undef,undef,undef],defers:=[] } wz:=by
  intro sX sY wz hbz h13 h14
  refine hKr _ _ ?_
  have re:=hid (Ih.out.below hbz Ih.out.lt)
  have tH:Hid (Below w.heap.size w wz):=hid (lU.out.trans (hbz.mono lU.out.size))
  have y:∀i,wz.cell? ⟨w5.heap.size,i,none⟩=(#[int i64 days,int i64 most,.slice gA ng gc,.slice mA nm mc,.slice cA nc cc,.slice A5 n5 p5]:Array Value)[i]?:=re.out.cell
  have ui:=hid h13
  have uk:=hid h14
  clear hKr hbz h13 h14
  have Pg:(ng:Int)≤3:=zo
  have hn0:(0:Int)≤(ng:Int):=zo
  gi_wp2
  refine iI 8 (fun _=>True) zk ?_
  have hS:True:=trivial
  have hB1:Below w.heap.size w wz.drew:=fQ tH.out
  have jx:=hid (show Whole wz.drew _ _ _ from ui.out)
  have fw:=hid (show Whole wz.drew _ _ _ from uk.out)
  obtain⟨wd,hwd⟩:∃wd,wd=wz.drew:=⟨_,rfl⟩
  rw[← hwd] at jx fw hB1⊢
  refine yX (i:=0) (some 45) hS ?_
  simp only[Act.put,List.setIfInBounds_toArray,List.set]
  refine yX (i:=1) (some 46) hS ?_
  simp only[Act.put,List.setIfInBounds_toArray,List.set]
  refine yX (i:=3) (some 48) hS ?_
  simp only[Act.put,List.setIfInBounds_toArray,List.set]
  refine yX (i:=4) (some 49) hS ?_
  simp only[Act.put,List.setIfInBounds_toArray,List.set]
  clear hwd
  have ints:∀ (wq:World) (B:Nat) (f:Nat→Int),Whole wq B 85 #[int i64 (f 0),int i64 (f 1),int i64 (f 2)]→Ints wq wq.heap.size (some ⟨B,0,none⟩) ng f:=fun wq B f hW hn=>by
   refine⟨_,rfl,hW.lt,fun i j hi hj=>?_⟩
   obtain rfl:j=0:=zo
   have e:((⟨B,0,none⟩:Addr).add (i * 1+0))=⟨B,i,none⟩:=by unfold Addr.add;split <;> simp_all
   rw[e,hW.cell]
   rcases(show i=0∨i=1∨i=2 by omega) with rfl|rfl|rfl <;> rfl
  refine aV 2 fun K hK=>?_
  go_simp
  refine(KC S _ ng 3 _ (ints _ _ _ jx.out) zo zo).mono ?_
  rintro e w1 ⟨E1,f1,rfl,hI1,hb1⟩
  have HI1:=hid hI1
  have E6:Hid (Below w.heap.size w w1):=hid (hB1.trans (hb1.mono hB1.size))
  have vi:=hid (fw.out.below hb1 fw.out.lt)
  clear hI1 hb1 hB1
  refine hK.out _ _ (fun _=>hS) ?_
  clear hK K
  refine aV 5 fun K hK=>?_
  go_simp
  refine(KC L _ ng 3 _ (ints _ _ _ vi.out) zo zo).mono ?_
  rintro e w2 ⟨E2,f2,rfl,hI2,hb2⟩
  have HI2:=hid hI2
  have tP:=hid (cZ HI1.out hb2)
  have No:Hid (Below w.heap.size w w2):=hid (E6.out.trans (hb2.mono E6.out.size))
  clear hI2 hb2
  refine hK.out _ _ (fun _=>hS) ?_
  clear hK K
  refine aV 6 fun K hK=>?_
  go_simp
  refine hK.out _ _ (fun _=>hS) ?_
  clear hK K
  refine aV 7 fun K hK=>?_
  go_simp
  refine hK.out _ _ (fun _=>hS) ?_
  clear hK K
  refine aV 8 fun K hK=>?_
  go_simp
  refine hK.out _ _ (fun h=>absurd rfl h) ?_
  clear hK K
  refine aF zk ?_ _
  gi_wp2
  refine bodyPost_ret (v:=.tuple #[.slice E1 ng f1,.slice E2 ng f2,int i64 0]) (by simp[results,results25,go_sem]) rfl ⟨E1,f1,E2,f2,rfl,tP.out,HI2.out,No.out⟩
 have Rest:=hid rest
 clear rest hKr
 obtain⟨w60,h60⟩:∃w60,w60=w6.drew:=⟨_,rfl⟩
 have KO:∀w',Below w6.heap.size w6 w'→(w'.cell? ⟨w5.heap.size,0,none⟩=some (int i64 days)∧w'.cell? ⟨w5.heap.size,1,none⟩=some (int i64 most)∧w'.cell? ⟨w5.heap.size,2,none⟩=some (.slice gA ng gc)∧w'.cell? ⟨w5.heap.size,3,none⟩=some (.slice mA nm mc)∧w'.cell? ⟨w5.heap.size,4,none⟩=some (.slice cA nc cc)∧w'.cell? ⟨w5.heap.size+1,0,none⟩=some (int i64 (hf 0))∧w'.cell? ⟨w5.heap.size+1,1,none⟩=some (int i64 (hf 1))∧w'.cell? ⟨w5.heap.size+1,2,none⟩=some (int i64 (hf 2))∧w'.cell? ⟨w5.heap.size+1,3,none⟩=some (int i64 (hmm 0))∧w'.cell? ⟨w5.heap.size+1,4,none⟩=some (int i64 (hmm 1))∧w'.cell? ⟨w5.heap.size+1,5,none⟩=some (int i64 (hmm 2))∧w'.cell? ⟨w5.heap.size+1,6,none⟩=some (int i64 (hmm 3))∧w'.cell? ⟨w5.heap.size+1,7,none⟩=some (int i64 (hmm 4))∧w'.cell? ⟨w5.heap.size+1,8,none⟩=some (int i64 (hmm 5))∧w'.cell? ⟨w5.heap.size+1,9,none⟩=some (int i64 lies)):=fun w' hb=>
  ⟨(Ih.out.below hb Ih.out.lt).cell 0,(Ih.out.below hb Ih.out.lt).cell 1,(Ih.out.below hb Ih.out.lt).cell 2,(Ih.out.below hb Ih.out.lt).cell 3,(Ih.out.below hb Ih.out.lt).cell 4,(vF.out.below hb vF.out.lt).cell 0,(vF.out.below hb vF.out.lt).cell 1,(vF.out.below hb vF.out.lt).cell 2,(vF.out.below hb vF.out.lt).cell 3,(vF.out.below hb vF.out.lt).cell 4,(vF.out.below hb vF.out.lt).cell 5,(vF.out.below hb vF.out.lt).cell 6,(vF.out.below hb vF.out.lt).cell 7,(vF.out.below hb vF.out.lt).cell 8,(vF.out.below hb vF.out.lt).cell 9⟩
 have iU:=hid KO
 clear KO
 refine iI 15 (fun w'=>w'.cell? ⟨w5.heap.size,0,none⟩=some (int i64 days)∧w'.cell? ⟨w5.heap.size,1,none⟩=some (int i64 most)∧w'.cell? ⟨w5.heap.size,2,none⟩=some (.slice gA ng gc)∧w'.cell? ⟨w5.heap.size,3,none⟩=some (.slice mA nm mc)∧w'.cell? ⟨w5.heap.size,4,none⟩=some (.slice cA nc cc)∧w'.cell? ⟨w5.heap.size+1,0,none⟩=some (int i64 (hf 0))∧w'.cell? ⟨w5.heap.size+1,1,none⟩=some (int i64 (hf 1))∧w'.cell? ⟨w5.heap.size+1,2,none⟩=some (int i64 (hf 2))∧w'.cell? ⟨w5.heap.size+1,3,none⟩=some (int i64 (hmm 0))∧w'.cell? ⟨w5.heap.size+1,4,none⟩=some (int i64 (hmm 1))∧w'.cell? ⟨w5.heap.size+1,5,none⟩=some (int i64 (hmm 2))∧w'.cell? ⟨w5.heap.size+1,6,none⟩=some (int i64 (hmm 3))∧w'.cell? ⟨w5.heap.size+1,7,none⟩=some (int i64 (hmm 4))∧w'.cell? ⟨w5.heap.size+1,8,none⟩=some (int i64 (hmm 5))∧w'.cell? ⟨w5.heap.size+1,9,none⟩=some (int i64 lies)) zk ?_
 rw[← h60]
 have HB:Hid (Below w6.heap.size w6 w60):=hid (by rw[h60];exact fQ (Below.refl _ _))
 clear h60
 have hS:=iU.out w60 HB.out
 refine yX (i:=0) (some 28) hS ?_
 simp only[Act.put,List.setIfInBounds_toArray,List.set]
 refine yX (i:=1) (some 29) hS ?_
 simp only[Act.put,List.setIfInBounds_toArray,List.set]
 refine yX (i:=2) (some 30) hS ?_
 simp only[Act.put,List.setIfInBounds_toArray,List.set]
 refine yX (i:=3) (some 31) hS ?_
 simp only[Act.put,List.setIfInBounds_toArray,List.set]
 refine yX (i:=4) (some 32) hS ?_
 simp only[Act.put,List.setIfInBounds_toArray,List.set]
 refine yX (i:=5) (some 33) hS ?_
 simp only[Act.put,List.setIfInBounds_toArray,List.set]
 refine yX (i:=6) (some 34) hS ?_
 simp only[Act.put,List.setIfInBounds_toArray,List.set]
 refine yX (i:=8) (some 36) hS ?_
 simp only[Act.put,List.setIfInBounds_toArray,List.set]
 refine yX (i:=9) (some 37) hS ?_
 simp only[Act.put,List.setIfInBounds_toArray,List.set]
 refine yX (i:=10) (some 38) hS ?_
 simp only[Act.put,List.setIfInBounds_toArray,List.set]
 clear hS
 refine nP (i:=7) (i':=12) (i2:=13) zk rfl rfl rfl (fun K hK=>?_) (fun K hK=>?_) (fun K hK=>?_)
 ·skip
  go_simp
  refine(HS.out _ (lU.out.trans (HB.out.mono lU.out.size))).mono ?_
  rintro e OT ⟨rfl,ma⟩
  have Ug:Hid (Below w6.heap.size w6 OT):=hid (HB.out.trans (ma.mono HB.out.size))
  clear ma
  refine hK.out _ _ (fun _=>iU.out _ Ug.out) ?_
  clear hK K
  refine nP (i:=11) (i':=12) (i2:=13) zk rfl rfl rfl (fun K hK=>?_) (fun K hK=>?_) (fun K hK=>?_)
  ·skip
   go_simp
   refine(HL.out _ (lU.out.trans (Ug.out.mono lU.out.size))).mono ?_
   rintro e Ul ⟨rfl,me⟩
   have Zj:Hid (Below w6.heap.size w6 Ul):=hid (Ug.out.trans (me.mono Ug.out.size))
   clear me
   refine hK.out _ _ (fun _=>iU.out _ Zj.out) ?_
   clear hK K
   refine aQ (i:=12) (i':=13) zk rfl rfl (fun K hK=>?_) (fun K hK=>?_)
   ·skip
    go_simp
    obtain⟨gl,hw3⟩:∃x,x=Ul.alloc (.cells #[int i64 0,int i64 0,int i64 0] 85):=⟨_,rfl⟩
    rw[← hw3]
    have qf:Hid (Below w6.heap.size w6 gl):=hid (by rw[hw3];exact Zj.out.alloc Zj.out.size _)
    have XP:Hid (Whole gl Ul.heap.size 85 #[int i64 0,int i64 0,int i64 0]):=hid (by rw[hw3];exact Whole.new _ _ _)
    have mL:w6.heap.size≤Ul.heap.size:=Zj.out.size
    clear hw3
    refine hK.out _ _ (fun _=>iU.out _ qf.out) ?_
    clear hK K
    refine aV 13 fun K hK=>?_
    go_simp
    obtain⟨DO,hw4⟩:∃x,x=gl.alloc (.cells #[int i64 0,int i64 0,int i64 0] 85):=⟨_,rfl⟩
    rw[← hw4]
    have ur:Hid (Below w6.heap.size w6 DO):=hid (by rw[hw4];exact qf.out.alloc qf.out.size _)
    have gx:Hid (Whole DO gl.heap.size 85 #[int i64 0,int i64 0,int i64 0]):=hid (by rw[hw4];exact Whole.new _ _ _)
    have hge4:w6.heap.size≤gl.heap.size:=qf.out.size
    have V':=XP.out.lt
    have PL:=hid (show Whole DO _ _ _ by rw[hw4];exact XP.out.alloc _)
    clear hw4
    refine hK.out _ _ (fun _=>iU.out _ ur.out) ?_
    clear hK K
    have c13:=PL.out.cell
    have f13:=PL.out.thaw
    refine aV 14 fun K hK=>?_
    go_simp
    refine hK.out _ _ (fun _=>iU.out _ (aB ur.out mL)) ?_
    clear hK K
    have g14:=hid ((gx.out.bN (x:=int i64 (S 0)) (y:=int i64 (S 1)) (z:=int i64 (S 2)) (B:=Ul.heap.size) zo))
    have c14:=g14.out.cell
    have f14:=g14.out.thaw
    clear c13 f13
    refine aV 15 fun K hK=>?_
    go_simp
    refine hK.out _ _ (fun h=>absurd rfl h) ?_
    clear hK K c14 f14
    refine aF zk ?_ _
    exact Rest.out Ul.heap.size gl.heap.size _ (aB (aB ur.out mL) hge4) (PL.out.iA.bN zo) g14.out.iA
   ·skip
    go_simp
    obtain⟨ff,wE⟩:∃x,x=Ul.alloc (.cells #[int i64 0,int i64 0,int i64 0] 85):=⟨_,rfl⟩
    rw[← wE]
    have qi:Hid (Below w6.heap.size w6 ff):=hid (by rw[wE];exact Zj.out.alloc Zj.out.size _)
    have XR:Hid (Whole ff Ul.heap.size 85 #[int i64 0,int i64 0,int i64 0]):=hid (by rw[wE];exact Whole.new _ _ _)
    have yi:w6.heap.size≤Ul.heap.size:=Zj.out.size
    clear wE
    refine hK.out _ _ (fun _=>iU.out _ qi.out) ?_
    clear hK K
    refine aV 12 fun K hK=>?_
    go_simp
    obtain⟨DQ,Pj⟩:∃x,x=ff.alloc (.cells #[int i64 0,int i64 0,int i64 0] 85):=⟨_,rfl⟩
    rw[← Pj]
    have uu:Hid (Below w6.heap.size w6 DQ):=hid (by rw[Pj];exact qi.out.alloc qi.out.size _)
    have PN:Hid (Whole DQ ff.heap.size 85 #[int i64 0,int i64 0,int i64 0]):=hid (by rw[Pj];exact Whole.new _ _ _)
    have mN:w6.heap.size≤ff.heap.size:=qi.out.size
    have Wb:=XR.out.lt
    have gz:=hid (show Whole DQ _ _ _ by rw[Pj];exact XR.out.alloc _)
    clear Pj
    refine hK.out _ _ (fun _=>iU.out _ uu.out) ?_
    clear hK K
    have c13:=PN.out.cell
    have f13:=PN.out.thaw
    refine aV 14 fun K hK=>?_
    go_simp
    refine hK.out _ _ (fun _=>iU.out _ (aB uu.out mN)) ?_
    clear hK K
    have g14:=hid ((gz.out.bN (x:=int i64 (S 0)) (y:=int i64 (S 1)) (z:=int i64 (S 2)) (B:=ff.heap.size) zo))
    have c14:=g14.out.cell
    have f14:=g14.out.thaw
    clear c13 f13
    refine aV 15 fun K hK=>?_
    go_simp
    refine hK.out _ _ (fun h=>absurd rfl h) ?_
    clear hK K c14 f14
    refine aF zk ?_ _
    exact Rest.out ff.heap.size Ul.heap.size _ (aB (aB uu.out mN) yi) (PN.out.iA.bN zo) g14.out.iA
  ·skip
   go_simp
   obtain⟨gm,hw7⟩:∃x,x=OT.alloc (.cells #[int i64 0,int i64 0,int i64 0] 85):=⟨_,rfl⟩
   rw[← hw7]
   have Zq:Hid (Below w6.heap.size w6 gm):=hid (by rw[hw7];exact Ug.out.alloc Ug.out.size _)
   have Kq:Hid (Whole gm OT.heap.size 85 #[int i64 0,int i64 0,int i64 0]):=hid (by rw[hw7];exact Whole.new _ _ _)
   have Vr:w6.heap.size≤OT.heap.size:=Ug.out.size
   clear hw7
   refine hK.out _ _ (fun _=>iU.out _ Zq.out) ?_
   clear hK K
   refine aQ (i:=11) (i':=13) zk rfl rfl (fun K hK=>?_) (fun K hK=>?_)
   ·skip
    go_simp
    refine(HL.out _ (lU.out.trans (Zq.out.mono lU.out.size))).mono ?_
    rintro e p0 ⟨rfl,Z9⟩
    have qn:Hid (Below w6.heap.size w6 p0):=hid (Zq.out.trans (Z9.mono Zq.out.size))
    have XQ:=hid (Kq.out.below Z9 Kq.out.lt)
    clear Z9
    refine hK.out _ _ (fun _=>iU.out _ qn.out) ?_
    clear hK K
    refine aV 13 fun K hK=>?_
    go_simp
    obtain⟨DS,Rt⟩:∃x,x=p0.alloc (.cells #[int i64 0,int i64 0,int i64 0] 85):=⟨_,rfl⟩
    rw[← Rt]
    have uv:Hid (Below w6.heap.size w6 DS):=hid (by rw[Rt];exact qn.out.alloc qn.out.size _)
    have gC:Hid (Whole DS p0.heap.size 85 #[int i64 0,int i64 0,int i64 0]):=hid (by rw[Rt];exact Whole.new _ _ _)
    have yn:w6.heap.size≤p0.heap.size:=qn.out.size
    have We:=XQ.out.lt
    have PO:=hid (show Whole DS _ _ _ by rw[Rt];exact XQ.out.alloc _)
    clear Rt
    refine hK.out _ _ (fun _=>iU.out _ uv.out) ?_
    clear hK K
    have c13:=PO.out.cell
    have f13:=PO.out.thaw
    refine aV 14 fun K hK=>?_
    go_simp
    refine hK.out _ _ (fun _=>iU.out _ (aB uv.out Vr)) ?_
    clear hK K
    have g14:=hid ((gC.out.bN (x:=int i64 (S 0)) (y:=int i64 (S 1)) (z:=int i64 (S 2)) (B:=OT.heap.size) zo))
    have c14:=g14.out.cell
    have f14:=g14.out.thaw
    clear c13 f13
    refine aV 15 fun K hK=>?_
    go_simp
    refine hK.out _ _ (fun h=>absurd rfl h) ?_
    clear hK K c14 f14
    refine aF zk ?_ _
    exact Rest.out OT.heap.size p0.heap.size _ (aB (aB uv.out Vr) yn) (PO.out.iA.bN zo) g14.out.iA
   ·skip
    go_simp
    obtain⟨eI,Ri⟩:∃x,x=gm.alloc (.cells #[int i64 0,int i64 0,int i64 0] 85):=⟨_,rfl⟩
    rw[← Ri]
    have Us:Hid (Below w6.heap.size w6 eI):=hid (by rw[Ri];exact Zq.out.alloc Zq.out.size _)
    have PU:Hid (Whole eI gm.heap.size 85 #[int i64 0,int i64 0,int i64 0]):=hid (by rw[Ri];exact Whole.new _ _ _)
    have my:w6.heap.size≤gm.heap.size:=Zq.out.size
    have Lq:=Kq.out.lt
    have Pw:=hid (show Whole eI _ _ _ by rw[Ri];exact Kq.out.alloc _)
    clear Ri
    refine hK.out _ _ (fun _=>iU.out _ Us.out) ?_
    clear hK K
    refine aV 11 fun K hK=>?_
    go_simp
    refine(HL.out _ (lU.out.trans (Us.out.mono lU.out.size))).mono ?_
    rintro e C6 ⟨rfl,KT⟩
    have Zg:Hid (Below w6.heap.size w6 C6):=hid (Us.out.trans (KT.mono Us.out.size))
    have G5:=hid (Pw.out.below KT Pw.out.lt)
    have YO:=hid (PU.out.below KT PU.out.lt)
    clear KT
    refine hK.out _ _ (fun _=>iU.out _ Zg.out) ?_
    clear hK K
    have c13:=G5.out.cell
    have f13:=G5.out.thaw
    refine aV 14 fun K hK=>?_
    go_simp
    refine hK.out _ _ (fun _=>iU.out _ (aB Zg.out Vr)) ?_
    clear hK K
    have g14:=hid ((YO.out.bN (x:=int i64 (S 0)) (y:=int i64 (S 1)) (z:=int i64 (S 2)) (B:=OT.heap.size) zo))
    have c14:=g14.out.cell
    have f14:=g14.out.thaw
    clear c13 f13
    refine aV 15 fun K hK=>?_
    go_simp
    refine hK.out _ _ (fun h=>absurd rfl h) ?_
    clear hK K c14 f14
    refine aF zk ?_ _
    exact Rest.out OT.heap.size gm.heap.size _ (aB (aB Zg.out Vr) my) (G5.out.iA.bN zo) g14.out.iA
  ·skip
   go_simp
   obtain⟨Km,Vv⟩:∃x,x=OT.alloc (.cells #[int i64 0,int i64 0,int i64 0] 85):=⟨_,rfl⟩
   rw[← Vv]
   have H9:Hid (Below w6.heap.size w6 Km):=hid (by rw[Vv];exact Ug.out.alloc Ug.out.size _)
   have Ck:Hid (Whole Km OT.heap.size 85 #[int i64 0,int i64 0,int i64 0]):=hid (by rw[Vv];exact Whole.new _ _ _)
   have Yw:w6.heap.size≤OT.heap.size:=Ug.out.size
   clear Vv
   refine hK.out _ _ (fun _=>iU.out _ H9.out) ?_
   clear hK K
   refine aQ (i:=11) (i':=12) zk rfl rfl (fun K hK=>?_) (fun K hK=>?_)
   ·skip
    go_simp
    refine(HL.out _ (lU.out.trans (H9.out.mono lU.out.size))).mono ?_
    rintro e OU ⟨rfl,QW⟩
    have Ut:Hid (Below w6.heap.size w6 OU):=hid (H9.out.trans (QW.mono H9.out.size))
    have PW:=hid (Ck.out.below QW Ck.out.lt)
    clear QW
    refine hK.out _ _ (fun _=>iU.out _ Ut.out) ?_
    clear hK K
    refine aV 12 fun K hK=>?_
    go_simp
    obtain⟨eJ,Rj⟩:∃x,x=OU.alloc (.cells #[int i64 0,int i64 0,int i64 0] 85):=⟨_,rfl⟩
    rw[← Rj]
    have Zh:Hid (Below w6.heap.size w6 eJ):=hid (by rw[Rj];exact Ut.out.alloc Ut.out.size _)
    have G6:Hid (Whole eJ OU.heap.size 85 #[int i64 0,int i64 0,int i64 0]):=hid (by rw[Rj];exact Whole.new _ _ _)
    have Yx:w6.heap.size≤OU.heap.size:=Ut.out.size
    have Lt:=PW.out.lt
    have YP:=hid (show Whole eJ _ _ _ by rw[Rj];exact PW.out.alloc _)
    clear Rj
    refine hK.out _ _ (fun _=>iU.out _ Zh.out) ?_
    clear hK K
    have c13:=G6.out.cell
    have f13:=G6.out.thaw
    refine aV 14 fun K hK=>?_
    go_simp
    refine hK.out _ _ (fun _=>iU.out _ (aB Zh.out Yx)) ?_
    clear hK K
    have g14:=hid ((YP.out.bN (x:=int i64 (S 0)) (y:=int i64 (S 1)) (z:=int i64 (S 2)) (B:=OU.heap.size) zo))
    have c14:=g14.out.cell
    have f14:=g14.out.thaw
    clear c13 f13
    refine aV 15 fun K hK=>?_
    go_simp
    refine hK.out _ _ (fun h=>absurd rfl h) ?_
    clear hK K c14 f14
    refine aF zk ?_ _
    exact Rest.out OU.heap.size OT.heap.size _ (aB (aB Zh.out Yx) Yw) (G6.out.iA.bN zo) g14.out.iA
   ·skip
    go_simp
    obtain⟨eK,Rk⟩:∃x,x=Km.alloc (.cells #[int i64 0,int i64 0,int i64 0] 85):=⟨_,rfl⟩
    rw[← Rk]
    have Uu:Hid (Below w6.heap.size w6 eK):=hid (by rw[Rk];exact H9.out.alloc H9.out.size _)
    have Px:Hid (Whole eK Km.heap.size 85 #[int i64 0,int i64 0,int i64 0]):=hid (by rw[Rk];exact Whole.new _ _ _)
    have Yy:w6.heap.size≤Km.heap.size:=H9.out.size
    have Lw:=Ck.out.lt
    have PX:=hid (show Whole eK _ _ _ by rw[Rk];exact Ck.out.alloc _)
    clear Rk
    refine hK.out _ _ (fun _=>iU.out _ Uu.out) ?_
    clear hK K
    refine aV 11 fun K hK=>?_
    go_simp
    refine(HL.out _ (lU.out.trans (Uu.out.mono lU.out.size))).mono ?_
    rintro e Dd ⟨rfl,KU⟩
    have Zi:Hid (Below w6.heap.size w6 Dd):=hid (Uu.out.trans (KU.mono Uu.out.size))
    have G8:=hid (Px.out.below KU Px.out.lt)
    have YQ:=hid (PX.out.below KU PX.out.lt)
    clear KU
    refine hK.out _ _ (fun _=>iU.out _ Zi.out) ?_
    clear hK K
    have c13:=G8.out.cell
    have f13:=G8.out.thaw
    refine aV 14 fun K hK=>?_
    go_simp
    refine hK.out _ _ (fun _=>iU.out _ (aB Zi.out Yy)) ?_
    clear hK K
    have g14:=hid ((YQ.out.bN (x:=int i64 (S 0)) (y:=int i64 (S 1)) (z:=int i64 (S 2)) (B:=Km.heap.size) zo))
    have c14:=g14.out.cell
    have f14:=g14.out.thaw
    clear c13 f13
    refine aV 15 fun K hK=>?_
    go_simp
    refine hK.out _ _ (fun h=>absurd rfl h) ?_
    clear hK K c14 f14
    refine aF zk ?_ _
    exact Rest.out Km.heap.size OT.heap.size _ (aB (aB Zi.out Yy) Yw) (G8.out.iA.bN zo) g14.out.iA
 ·skip
  go_simp
  obtain⟨OV,Vw⟩:∃x,x=w60.alloc (.cells #[int i64 0,int i64 0,int i64 0] 85):=⟨_,rfl⟩
  rw[← Vw]
  have Ia:Hid (Below w6.heap.size w6 OV):=hid (by rw[Vw];exact HB.out.alloc HB.out.size _)
  have Ci:Hid (Whole OV w60.heap.size 85 #[int i64 0,int i64 0,int i64 0]):=hid (by rw[Vw];exact Whole.new _ _ _)
  have Aw:w6.heap.size≤w60.heap.size:=HB.out.size
  clear Vw
  refine hK.out _ _ (fun _=>iU.out _ Ia.out) ?_
  clear hK K
  refine aQ (i:=7) (i':=13) zk rfl rfl (fun K hK=>?_) (fun K hK=>?_)
  ·skip
   go_simp
   refine(HS.out _ (lU.out.trans (Ia.out.mono lU.out.size))).mono ?_
   rintro e Ua ⟨rfl,QX⟩
   have Ib:Hid (Below w6.heap.size w6 Ua):=hid (Ia.out.trans (QX.mono Ia.out.size))
   have Cj:=hid (Ci.out.below QX Ci.out.lt)
   clear QX
   refine hK.out _ _ (fun _=>iU.out _ Ib.out) ?_
   clear hK K
   refine aQ (i:=11) (i':=13) zk rfl rfl (fun K hK=>?_) (fun K hK=>?_)
   ·skip
    go_simp
    refine(HL.out _ (lU.out.trans (Ib.out.mono lU.out.size))).mono ?_
    rintro e Ub ⟨rfl,QY⟩
    have Uv:Hid (Below w6.heap.size w6 Ub):=hid (Ib.out.trans (QY.mono Ib.out.size))
    have Py:=hid (Cj.out.below QY Cj.out.lt)
    clear QY
    refine hK.out _ _ (fun _=>iU.out _ Uv.out) ?_
    clear hK K
    refine aV 13 fun K hK=>?_
    go_simp
    obtain⟨eN,Rm⟩:∃x,x=Ub.alloc (.cells #[int i64 0,int i64 0,int i64 0] 85):=⟨_,rfl⟩
    rw[← Rm]
    have Zk:Hid (Below w6.heap.size w6 eN):=hid (by rw[Rm];exact Uv.out.alloc Uv.out.size _)
    have YR:Hid (Whole eN Ub.heap.size 85 #[int i64 0,int i64 0,int i64 0]):=hid (by rw[Rm];exact Whole.new _ _ _)
    have mz:w6.heap.size≤Ub.heap.size:=Uv.out.size
    have Ly:=Py.out.lt
    have He:=hid (show Whole eN _ _ _ by rw[Rm];exact Py.out.alloc _)
    clear Rm
    refine hK.out _ _ (fun _=>iU.out _ Zk.out) ?_
    clear hK K
    have c13:=He.out.cell
    have f13:=He.out.thaw
    refine aV 14 fun K hK=>?_
    go_simp
    refine hK.out _ _ (fun _=>iU.out _ (aB Zk.out Aw)) ?_
    clear hK K
    have g14:=hid ((YR.out.bN (x:=int i64 (S 0)) (y:=int i64 (S 1)) (z:=int i64 (S 2)) (B:=w60.heap.size) zo))
    have c14:=g14.out.cell
    have f14:=g14.out.thaw
    clear c13 f13
    refine aV 15 fun K hK=>?_
    go_simp
    refine hK.out _ _ (fun h=>absurd rfl h) ?_
    clear hK K c14 f14
    refine aF zk ?_ _
    exact Rest.out w60.heap.size Ub.heap.size _ (aB (aB Zk.out Aw) mz) (He.out.iA.bN zo) g14.out.iA
   ·skip
    go_simp
    obtain⟨eQ,Nc⟩:∃x,x=Ua.alloc (.cells #[int i64 0,int i64 0,int i64 0] 85):=⟨_,rfl⟩
    rw[← Nc]
    have Uw:Hid (Below w6.heap.size w6 eQ):=hid (by rw[Nc];exact Ib.out.alloc Ib.out.size _)
    have PY:Hid (Whole eQ Ua.heap.size 85 #[int i64 0,int i64 0,int i64 0]):=hid (by rw[Nc];exact Whole.new _ _ _)
    have mB:w6.heap.size≤Ua.heap.size:=Ib.out.size
    have Lz:=Cj.out.lt
    have Pz:=hid (show Whole eQ _ _ _ by rw[Nc];exact Cj.out.alloc _)
    clear Nc
    refine hK.out _ _ (fun _=>iU.out _ Uw.out) ?_
    clear hK K
    refine aV 11 fun K hK=>?_
    go_simp
    refine(HL.out _ (lU.out.trans (Uw.out.mono lU.out.size))).mono ?_
    rintro e De ⟨rfl,KV⟩
    have Zl:Hid (Below w6.heap.size w6 De):=hid (Uw.out.trans (KV.mono Uw.out.size))
    have Hf:=hid (Pz.out.below KV Pz.out.lt)
    have YS:=hid (PY.out.below KV PY.out.lt)
    clear KV
    refine hK.out _ _ (fun _=>iU.out _ Zl.out) ?_
    clear hK K
    have c13:=Hf.out.cell
    have f13:=Hf.out.thaw
    refine aV 14 fun K hK=>?_
    go_simp
    refine hK.out _ _ (fun _=>iU.out _ (aB Zl.out Aw)) ?_
    clear hK K
    have g14:=hid ((YS.out.bN (x:=int i64 (S 0)) (y:=int i64 (S 1)) (z:=int i64 (S 2)) (B:=w60.heap.size) zo))
    have c14:=g14.out.cell
    have f14:=g14.out.thaw
    clear c13 f13
    refine aV 15 fun K hK=>?_
    go_simp
    refine hK.out _ _ (fun h=>absurd rfl h) ?_
    clear hK K c14 f14
    refine aF zk ?_ _
    exact Rest.out w60.heap.size Ua.heap.size _ (aB (aB Zl.out Aw) mB) (Hf.out.iA.bN zo) g14.out.iA
  ·skip
   go_simp
   obtain⟨eR,Ro⟩:∃x,x=OV.alloc (.cells #[int i64 0,int i64 0,int i64 0] 85):=⟨_,rfl⟩
   rw[← Ro]
   have Ux:Hid (Below w6.heap.size w6 eR):=hid (by rw[Ro];exact Ia.out.alloc Ia.out.size _)
   have PZ:Hid (Whole eR OV.heap.size 85 #[int i64 0,int i64 0,int i64 0]):=hid (by rw[Ro];exact Whole.new _ _ _)
   have mC:w6.heap.size≤OV.heap.size:=Ia.out.size
   have LF:=Ci.out.lt
   have PD:=hid (show Whole eR _ _ _ by rw[Ro];exact Ci.out.alloc _)
   clear Ro
   refine hK.out _ _ (fun _=>iU.out _ Ux.out) ?_
   clear hK K
   refine aV 7 fun K hK=>?_
   go_simp
   refine(HS.out _ (lU.out.trans (Ux.out.mono lU.out.size))).mono ?_
   rintro e Ds ⟨rfl,KX⟩
   have Uy:Hid (Below w6.heap.size w6 Ds):=hid (Ux.out.trans (KX.mono Ux.out.size))
   have PE:=hid (PD.out.below KX PD.out.lt)
   have P5:=hid (PZ.out.below KX PZ.out.lt)
   clear KX
   refine hK.out _ _ (fun _=>iU.out _ Uy.out) ?_
   clear hK K
   refine aV 11 fun K hK=>?_
   go_simp
   refine(HL.out _ (lU.out.trans (Uy.out.mono lU.out.size))).mono ?_
   rintro e DD ⟨rfl,KY⟩
   have Zm:Hid (Below w6.heap.size w6 DD):=hid (Uy.out.trans (KY.mono Uy.out.size))
   have Hq:=hid (PE.out.below KY PE.out.lt)
   have YT:=hid (P5.out.below KY P5.out.lt)
   clear KY
   refine hK.out _ _ (fun _=>iU.out _ Zm.out) ?_
   clear hK K
   have c13:=Hq.out.cell
   have f13:=Hq.out.thaw
   refine aV 14 fun K hK=>?_
   go_simp
   refine hK.out _ _ (fun _=>iU.out _ (aB Zm.out Aw)) ?_
   clear hK K
   have g14:=hid ((YT.out.bN (x:=int i64 (S 0)) (y:=int i64 (S 1)) (z:=int i64 (S 2)) (B:=w60.heap.size) zo))
   have c14:=g14.out.cell
   have f14:=g14.out.thaw
   clear c13 f13
   refine aV 15 fun K hK=>?_
   go_simp
   refine hK.out _ _ (fun h=>absurd rfl h) ?_
   clear hK K c14 f14
   refine aF zk ?_ _
   exact Rest.out w60.heap.size OV.heap.size _ (aB (aB Zm.out Aw) mC) (Hq.out.iA.bN zo) g14.out.iA
 ·skip
  go_simp
  obtain⟨Kn,Vx⟩:∃x,x=w60.alloc (.cells #[int i64 0,int i64 0,int i64 0] 85):=⟨_,rfl⟩
  rw[← Vx]
  have Ic:Hid (Below w6.heap.size w6 Kn):=hid (by rw[Vx];exact HB.out.alloc HB.out.size _)
  have Cm:Hid (Whole Kn w60.heap.size 85 #[int i64 0,int i64 0,int i64 0]):=hid (by rw[Vx];exact Whole.new _ _ _)
  have Q9:w6.heap.size≤w60.heap.size:=HB.out.size
  clear Vx
  refine hK.out _ _ (fun _=>iU.out _ Ic.out) ?_
  clear hK K
  refine aQ (i:=7) (i':=12) zk rfl rfl (fun K hK=>?_) (fun K hK=>?_)
  ·skip
   go_simp
   refine(HS.out _ (lU.out.trans (Ic.out.mono lU.out.size))).mono ?_
   rintro e OW ⟨rfl,QZ⟩
   have Ie:Hid (Below w6.heap.size w6 OW):=hid (Ic.out.trans (QZ.mono Ic.out.size))
   have Cn:=hid (Cm.out.below QZ Cm.out.lt)
   clear QZ
   refine hK.out _ _ (fun _=>iU.out _ Ie.out) ?_
   clear hK K
   refine aQ (i:=11) (i':=12) zk rfl rfl (fun K hK=>?_) (fun K hK=>?_)
   ·skip
    go_simp
    refine(HL.out _ (lU.out.trans (Ie.out.mono lU.out.size))).mono ?_
    rintro e OX ⟨rfl,Q0⟩
    have Uz:Hid (Below w6.heap.size w6 OX):=hid (Ie.out.trans (Q0.mono Ie.out.size))
    have P6:=hid (Cn.out.below Q0 Cn.out.lt)
    clear Q0
    refine hK.out _ _ (fun _=>iU.out _ Uz.out) ?_
    clear hK K
    refine aV 12 fun K hK=>?_
    go_simp
    obtain⟨fa,Rp⟩:∃x,x=OX.alloc (.cells #[int i64 0,int i64 0,int i64 0] 85):=⟨_,rfl⟩
    rw[← Rp]
    have Zn:Hid (Below w6.heap.size w6 fa):=hid (by rw[Rp];exact Uz.out.alloc Uz.out.size _)
    have Hy:Hid (Whole fa OX.heap.size 85 #[int i64 0,int i64 0,int i64 0]):=hid (by rw[Rp];exact Whole.new _ _ _)
    have Yz:w6.heap.size≤OX.heap.size:=Uz.out.size
    have LI:=P6.out.lt
    have YU:=hid (show Whole fa _ _ _ by rw[Rp];exact P6.out.alloc _)
    clear Rp
    refine hK.out _ _ (fun _=>iU.out _ Zn.out) ?_
    clear hK K
    have c13:=Hy.out.cell
    have f13:=Hy.out.thaw
    refine aV 14 fun K hK=>?_
    go_simp
    refine hK.out _ _ (fun _=>iU.out _ (aB Zn.out Yz)) ?_
    clear hK K
    have g14:=hid ((YU.out.bN (x:=int i64 (S 0)) (y:=int i64 (S 1)) (z:=int i64 (S 2)) (B:=OX.heap.size) zo))
    have c14:=g14.out.cell
    have f14:=g14.out.thaw
    clear c13 f13
    refine aV 15 fun K hK=>?_
    go_simp
    refine hK.out _ _ (fun h=>absurd rfl h) ?_
    clear hK K c14 f14
    refine aF zk ?_ _
    exact Rest.out OX.heap.size w60.heap.size _ (aB (aB Zn.out Yz) Q9) (Hy.out.iA.bN zo) g14.out.iA
   ·skip
    go_simp
    obtain⟨fb,Rq⟩:∃x,x=OW.alloc (.cells #[int i64 0,int i64 0,int i64 0] 85):=⟨_,rfl⟩
    rw[← Rq]
    have UA:Hid (Below w6.heap.size w6 fb):=hid (by rw[Rq];exact Ie.out.alloc Ie.out.size _)
    have PG:Hid (Whole fb OW.heap.size 85 #[int i64 0,int i64 0,int i64 0]):=hid (by rw[Rq];exact Whole.new _ _ _)
    have YA:w6.heap.size≤OW.heap.size:=Ie.out.size
    have LL:=Cn.out.lt
    have P7:=hid (show Whole fb _ _ _ by rw[Rq];exact Cn.out.alloc _)
    clear Rq
    refine hK.out _ _ (fun _=>iU.out _ UA.out) ?_
    clear hK K
    refine aV 11 fun K hK=>?_
    go_simp
    refine(HL.out _ (lU.out.trans (UA.out.mono lU.out.size))).mono ?_
    rintro e DG ⟨rfl,KZ⟩
    have Zo:Hid (Below w6.heap.size w6 DG):=hid (UA.out.trans (KZ.mono UA.out.size))
    have Hz:=hid (PG.out.below KZ PG.out.lt)
    have YV:=hid (P7.out.below KZ P7.out.lt)
    clear KZ
    refine hK.out _ _ (fun _=>iU.out _ Zo.out) ?_
    clear hK K
    have c13:=Hz.out.cell
    have f13:=Hz.out.thaw
    refine aV 14 fun K hK=>?_
    go_simp
    refine hK.out _ _ (fun _=>iU.out _ (aB Zo.out YA)) ?_
    clear hK K
    have g14:=hid ((YV.out.bN (x:=int i64 (S 0)) (y:=int i64 (S 1)) (z:=int i64 (S 2)) (B:=OW.heap.size) zo))
    have c14:=g14.out.cell
    have f14:=g14.out.thaw
    clear c13 f13
    refine aV 15 fun K hK=>?_
    go_simp
    refine hK.out _ _ (fun h=>absurd rfl h) ?_
    clear hK K c14 f14
    refine aF zk ?_ _
    exact Rest.out OW.heap.size w60.heap.size _ (aB (aB Zo.out YA) Q9) (Hz.out.iA.bN zo) g14.out.iA
  ·skip
   go_simp
   obtain⟨fe,hw32⟩:∃x,x=Kn.alloc (.cells #[int i64 0,int i64 0,int i64 0] 85):=⟨_,rfl⟩
   rw[← hw32]
   have UC:Hid (Below w6.heap.size w6 fe):=hid (by rw[hw32];exact Ic.out.alloc Ic.out.size _)
   have PI:Hid (Whole fe Kn.heap.size 85 #[int i64 0,int i64 0,int i64 0]):=hid (by rw[hw32];exact Whole.new _ _ _)
   have YC:w6.heap.size≤Kn.heap.size:=Ic.out.size
   have hne32:=Cm.out.lt
   have P8:=hid (show Whole fe _ _ _ by rw[hw32];exact Cm.out.alloc _)
   clear hw32
   refine hK.out _ _ (fun _=>iU.out _ UC.out) ?_
   clear hK K
   refine aV 7 fun K hK=>?_
   go_simp
   refine(HS.out _ (lU.out.trans (UC.out.mono lU.out.size))).mono ?_
   rintro e DH ⟨rfl,La⟩
   have UD:Hid (Below w6.heap.size w6 DH):=hid (UC.out.trans (La.mono UC.out.size))
   have PK:=hid (PI.out.below La PI.out.lt)
   have P9:=hid (P8.out.below La P8.out.lt)
   clear La
   refine hK.out _ _ (fun _=>iU.out _ UD.out) ?_
   clear hK K
   refine aV 11 fun K hK=>?_
   go_simp
   refine(HL.out _ (lU.out.trans (UD.out.mono lU.out.size))).mono ?_
   rintro e DM ⟨rfl,Lb⟩
   have Zp:Hid (Below w6.heap.size w6 DM):=hid (UD.out.trans (Lb.mono UD.out.size))
   have H6:=hid (PK.out.below Lb PK.out.lt)
   have YX:=hid (P9.out.below Lb P9.out.lt)
   clear Lb
   refine hK.out _ _ (fun _=>iU.out _ Zp.out) ?_
   clear hK K
   have c13:=H6.out.cell
   have f13:=H6.out.thaw
   refine aV 14 fun K hK=>?_
   go_simp
   refine hK.out _ _ (fun _=>iU.out _ (aB Zp.out YC)) ?_
   clear hK K
   have g14:=hid ((YX.out.bN (x:=int i64 (S 0)) (y:=int i64 (S 1)) (z:=int i64 (S 2)) (B:=Kn.heap.size) zo))
   have c14:=g14.out.cell
   have f14:=g14.out.thaw
   clear c13 f13
   refine aV 15 fun K hK=>?_
   go_simp
   refine hK.out _ _ (fun h=>absurd rfl h) ?_
   clear hK K c14 f14
   refine aF zk ?_ _
   exact Rest.out Kn.heap.size w60.heap.size _ (aB (aB Zp.out YC) Q9) (H6.out.iA.bN zo) g14.out.iA
end
end Go.Proofs.YthaelabgfnnebaaGreat
