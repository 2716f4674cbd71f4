/- P23 TH0 -/
import Derived.Test.YtmjjocnfidnelaaGreatD5
import Derived.Conc.LoneCalls
set_option maxRecDepth 100000
set_option maxHeartbeats 16000000
set_option linter.unusedVariables false
set_option linter.unusedSectionVars false
open Go.IntKind(i64)
open Go.Lib(hid)
open Go.Proofs.Tryz
open Go.Value(int)
namespace Go.Proofs.YtmjjocnfidnelaaGreat
section
open Go.RowKit Go.Sort
theorem Uj:LK:=by
 intro b l1 l2 l3 w ok hcap hp h A1 A2 A3 p1 p2 p3 i1 i2 i3
 have po:=MU ok hp
 have h0:∀x∈l3,0≤x:=fun x hx=>(po.2.1 x hx).1
 have hO:=xZ b l1 l2 l3 w h ok hcap hp A1 A2 A3 p1 p2 p3 i1 i2 i3
 have hO2:∀W,Below W.heap.size W W:=fun W=>Below.refl _ _
 have hO3:∀w',Below w.heap.size w w'→CallsIn FF 0 prog 27 #[b.val,.slice A1 l1.length p1,.slice A2 l2.length p2,.slice A3 l3.length p3] w' fun e w2=>∃A n p,e=.returned (.tuple #[b.et A n p,(iC l1 l2 l3).val,int i64 0])∧Below w'.heap.size w' w2:=fun w' hb=>
  xZ b l1 l2 l3 w' ((h.below hb).more hb.size) ok hcap hp A1 A2 A3 p1 p2 p3 (dN i1 hb) (dN i2 hb) (dN i3 hb)
 have hS:∀w',Below w.heap.size w w'→CallsIn FF 0 prog 28 #[b.val,(iC l1 l2 l3).val,int i64 b.days] w' fun e w2=>e=.returned (mE (stk b (iC l1 l2 l3) b.days b.nm))∧Below w'.heap.size w' w2:=fun w' hb=>
  gF b (iC l1 l2 l3) b.days w' ((h.below hb).more hb.size) ok.moves ok.dn.1.2 po.1
 have hL:∀w',Below w.heap.size w w'→CallsIn FF 0 prog 29 #[b.val,(iC l1 l2 l3).val] w' fun e w2=>e=.returned (mE (Er b (iC l1 l2 l3) (b.days.toNat+1)))∧Below w'.heap.size w' w2:=fun w' hb=>
  tR b (iC l1 l2 l3) w' ((h.below hb).more hb.size) ok.moves ok.days ok.dn.1.2 po.1
 have eS:∀q,stk b (iC l1 l2 l3) b.days b.nm q=jM b l1 l2 l3 q:=fun q=>Il b l1 l2 l3 h0 b.days q
 have eL:∀q,Er b (iC l1 l2 l3) (b.days.toNat+1) q=pR b l1 l2 l3 q:=fun q=>GN b l1 l2 l3 h0 q _
 unfold wM
 simp only[← eS,← eL]
 clear eS eL hO hO2 h0
 obtain⟨S,hSd⟩:∃S,S=stk b (iC l1 l2 l3) b.days b.nm:=⟨_,rfl⟩
 obtain⟨L,Zs⟩:∃L,L=Er b (iC l1 l2 l3) (b.days.toNat+1):=⟨_,rfl⟩
 rw[← hSd] at hS⊢
 rw[← Zs] at hL⊢
 obtain⟨n1,hn1⟩:∃n1,n1=l1.length:=⟨_,rfl⟩
 obtain⟨n2,hn2⟩:∃n2,n2=l2.length:=⟨_,rfl⟩
 obtain⟨n3,QA⟩:∃n3,n3=l3.length:=⟨_,rfl⟩
 rw[← hn1,← hn2,← QA] at hO3⊢
 obtain⟨ht,hht⟩:∃ht,ht=iC l1 l2 l3:=⟨_,rfl⟩
 rw[← hht] at hO3 hS hL
 have uU:=ok.dn.1
 clear hn1 hn2 QA hht i1 i2 i3 po hp ok h hcap hSd Zs
 obtain⟨days,most,gA,ng,gc,g,mA,nm,mc,m,cA,nc,cc,c⟩:=b
 obtain⟨hf,hmm,lies⟩:=ht
 simp only at uU
 have qS:∀w',Below w.heap.size w w'→CallsIn FF 0 prog 27 #[.agg #[int i64 days,int i64 most,.slice gA ng gc,.slice mA nm mc,.slice cA nc cc],.slice A1 n1 p1,.slice A2 n2 p2,.slice A3 n3 p3] w' fun e w2=>∃A n p,e=.returned (.tuple #[.agg #[int i64 days,int i64 most,.slice gA ng gc,.slice mA nm mc,.slice cA nc cc,.slice A n p],.agg #[int i64 (hf 0),int i64 (hf 1),int i64 (hf 2),int i64 (hmm 0),int i64 (hmm 1),int i64 (hmm 2),int i64 (hmm 3),int i64 (hmm 4),int i64 (hmm 5),int i64 lies],int i64 0])∧Below w'.heap.size w' w2:=hO3
 simp only[Bk.val,Bk.cells,Ht.val,Ht.cells,mE] at hS hL⊢
 have HS:=hid hS
 have HL:=hid hL
 have HO:=hid qS
 clear hS hL hO3 qS
 have VB:Hid (Below w.heap.size w (w.alloc (.cells #[int i64 days,int i64 most,.slice gA ng gc,.slice mA nm mc,.slice cA nc cc] 26))):=hid (bw)
 gi_enter func7,ntmps7
 gi_wp2_with (gi_at_call 27;refine(HO.out _ VB.out).mono ?_;rintro e w5 ⟨A5,n5,p5,rfl,hb5⟩;have Dw:=hid hb5;clear hb5;have hs5:=Dw.out.size;have Fv:=hid ((Whole.new w5 73 #[int i64 days,int i64 most,.slice gA ng gc,.slice mA nm mc,.slice cA nc cc,.slice A5 n5 p5]).alloc (.cells #[int i64 (hf 0),int i64 (hf 1),int i64 (hf 2),int i64 (hmm 0),int i64 (hmm 1),int i64 (hmm 2),int i64 (hmm 3),int i64 (hmm 4),int i64 (hmm 5),int i64 lies] 78));have VL:=hid (Whole.new (w5.alloc (.cells #[int i64 days,int i64 most,.slice gA ng gc,.slice mA nm mc,.slice cA nc cc,.slice A5 n5 p5] 73)) 78 #[int i64 (hf 0),int i64 (hf 1),int i64 (hf 2),int i64 (hmm 0),int i64 (hmm 1),int i64 (hmm 2),int i64 (hmm 3),int i64 (hmm 4),int i64 (hmm 5),int i64 lies]))
 obtain⟨w6,QC⟩:∃w6,w6=(w5.alloc (.cells #[int i64 days,int i64 most,.slice gA ng gc,.slice mA nm mc,.slice cA nc cc,.slice A5 n5 p5] 73)).alloc (.cells #[int i64 (hf 0),int i64 (hf 1),int i64 (hf 2),int i64 (hmm 0),int i64 (hmm 1),int i64 (hmm 2),int i64 (hmm 3),int i64 (hmm 4),int i64 (hmm 5),int i64 lies] 78):=⟨_,rfl⟩
 have Jl:Hid (Whole w6 w5.heap.size 73 #[int i64 days,int i64 most,.slice gA ng gc,.slice mA nm mc,.slice cA nc cc,.slice A5 n5 p5]):=hid (by rw[QC];exact Fv.out)
 have wQ:Hid (Whole w6 (w5.heap.size+1) 78 #[int i64 (hf 0),int i64 (hf 1),int i64 (hf 2),int i64 (hmm 0),int i64 (hmm 1),int i64 (hmm 2),int i64 (hmm 3),int i64 (hmm 4),int i64 (hmm 5),int i64 lies]):=hid (by have:=VL.out;rw[World.size_alloc] at this;rw[QC];exact this)
 have mG:Hid (Below w.heap.size w w6):=hid (by
  rw[QC]
  exact((VB.out.trans (Dw.out.mono VB.out.size)).alloc (by have:=VB.out.size;omega) _).alloc (by have:=VB.out.size;simp;omega) _)
 have hs6:w6.heap.size=w5.heap.size+2:=by rw[QC];simp
 rw[← QC]
 clear QC Fv VL
 gi_wp2
 rename_i Qr Kr hKr
 have rest:∀ (BC BE:Nat) (wz:World),Below w6.heap.size w6 wz→Whole wz BC 75 #[int i64 (S 0),int i64 (S 1),int i64 (S 2)]→Whole wz BE 75 #[int i64 (L 0),int i64 (L 1),int i64 (L 2)]→Kr {tmps:=#[Value.agg #[int i64 days,int i64 most,.slice gA ng gc,.slice mA nm mc,.slice cA nc cc],.slice A1 n1 p1,.slice A2 n2 p2,.slice A3 n3 p3,.pointer (some ⟨w.heap.size,0,none⟩),undef,undef,undef,.slice none 0 0,.slice none 0 0,int i64 0,Value.pointer (some ⟨w5.heap.size,0,none⟩),.pointer (some ⟨w5.heap.size+1,0,none⟩),.pointer (some ⟨BC,0,none⟩),.pointer (some ⟨BE,0,none⟩),undef,Value.tuple #[Value.agg #[int i64 days,int i64 most,.slice gA ng gc,.slice mA nm mc,.slice cA nc cc,.slice A5 n5 p5],Value.agg #[int i64 (hf 0),int i64 (hf 1),int i64 (hf 2),int i64 (hmm 0),int i64 (hmm 1),int i64 (hmm 2),int i64 (hmm 3),int i64 (hmm 4),int i64 (hmm 5),int i64 lies],int i64 0],Value.agg #[int i64 days,int i64 most,.slice gA ng gc,.slice mA nm mc,.slice cA nc cc],.slice A1 n1 p1,.slice A2 n2 p2,.slice A3 n3 p3,Value.tuple #[Value.agg #[int i64 days,int i64 most,.slice gA ng gc,.slice mA nm mc,.slice cA nc cc,.slice A5 n5 p5],Value.agg #[int i64 (hf 0),int i64 (hf 1),int i64 (hf 2),int i64 (hmm 0),int i64 (hmm 1),int i64 (hmm 2),int i64 (hmm 3),int i64 (hmm 4),int i64 (hmm 5),int i64 lies],int i64 0],Value.agg #[int i64 days,int i64 most,.slice gA ng gc,.slice mA nm mc,.slice cA nc cc,.slice A5 n5 p5],Value.agg #[int i64 (hf 0),int i64 (hf 1),int i64 (hf 2),int i64 (hmm 0),int i64 (hmm 1),int i64 (hmm 2),int i64 (hmm 3),int i64 (hmm 4),int i64 (hmm 5),int i64 lies],int i64 0,int i64 0,.bool false,undef,Value.pointer (some ⟨w5.heap.size,0,none⟩),Value.agg #[int i64 days,int i64 most,.slice gA ng gc,.slice mA nm mc,.slice cA nc cc],Value.agg #[int i64 (hf 0),int i64 (hf 1),int i64 (hf 2),int i64 (hmm 0),int i64 (hmm 1),int i64 (hmm 2),int i64 (hmm 3),int i64 (hmm 4),int i64 (hmm 5),int i64 lies],Value.pointer (some ⟨w5.heap.size,0,none⟩),Value.pointer (some ⟨w5.heap.size,0,none⟩),Value.pointer (some ⟨w5.heap.size,0,none⟩),int i64 days,.agg #[int i64 (S 0),int i64 (S 1),int i64 (S 2)],Value.pointer (some ⟨w5.heap.size,0,none⟩),Value.agg #[int i64 days,int i64 most,.slice gA ng gc,.slice mA nm mc,.slice cA nc cc],Value.agg #[int i64 (hf 0),int i64 (hf 1),int i64 (hf 2),int i64 (hmm 0),int i64 (hmm 1),int i64 (hmm 2),int i64 (hmm 3),int i64 (hmm 4),int i64 (hmm 5),int i64 lies],.agg #[int i64 (L 0),int i64 (L 1),int i64 (L 2)],undef,undef,undef,undef,undef,undef,undef,undef,undef,undef,undef],defers:=[] } wz:=by
  intro BC BE wz hbz h13 h14
  refine hKr _ _ ?_
  have ya:=hid (Jl.out.below hbz Jl.out.lt)
  have uK:Hid (Below w.heap.size w wz):=hid (mG.out.trans (hbz.mono mG.out.size))
  have y:∀i,wz.cell? ⟨w5.heap.size,i,none⟩=(#[int i64 days,int i64 most,.slice gA ng gc,.slice mA nm mc,.slice cA nc cc,.slice A5 n5 p5]:Array Value)[i]?:=ya.out.cell
  have Ex:=hid h13
  have EE:=hid h14
  clear hKr hbz h13 h14
  have QA:(ng:Int)≤3:=zo
  have hn0:(0:Int)≤(ng:Int):=zo
  gi_wp2
  refine fD 8 (fun _=>True) zk ?_
  have hS:True:=trivial
  have hB1:Below w.heap.size w wz.drew:=dH uK.out
  have pr:=hid (show Whole wz.drew _ _ _ from Ex.out)
  have ml:=hid (show Whole wz.drew _ _ _ from EE.out)
  obtain⟨wd,hwd⟩:∃wd,wd=wz.drew:=⟨_,rfl⟩
  rw[← hwd] at pr ml hB1⊢
  refine mo (i:=0) (some 45) hS ?_
  simp only[Act.put,List.setIfInBounds_toArray,List.set]
  refine mo (i:=1) (some 46) hS ?_
  simp only[Act.put,List.setIfInBounds_toArray,List.set]
  refine mo (i:=3) (some 48) hS ?_
  simp only[Act.put,List.setIfInBounds_toArray,List.set]
  refine mo (i:=4) (some 49) hS ?_
  simp only[Act.put,List.setIfInBounds_toArray,List.set]
  clear hwd
  have ints:∀ (wq:World) (B:Nat) (f:Nat→Int),Whole wq B 75 #[int i64 (f 0),int i64 (f 1),int i64 (f 2)]→Ints wq wq.heap.size (some ⟨B,0,none⟩) ng f:=fun wq B f hW hn=>by
   refine⟨_,rfl,hW.lt,fun i j hi hj=>?_⟩
   obtain rfl:j=0:=zo
   have e:((⟨B,0,none⟩:Addr).add (i * 1+0))=⟨B,i,none⟩:=by unfold Addr.add;split <;> simp_all
   rw[e,hW.cell]
   rcases(show i=0∨i=1∨i=2 by omega) with rfl|rfl|rfl <;> rfl
  refine aN 2 fun K hK=>?_
  go_simp
  refine(LY S _ ng 3 _ (ints _ _ _ pr.out) zo zo).mono ?_
  rintro e w1 ⟨E1,f1,rfl,hI1,hb1⟩
  have HI1:=hid hI1
  have Rg:Hid (Below w.heap.size w w1):=hid (hB1.trans (hb1.mono hB1.size))
  have FO:=hid (ml.out.below hb1 ml.out.lt)
  clear hI1 hb1 hB1
  refine hK.out _ _ (fun _=>hS) ?_
  clear hK K
  refine aN 5 fun K hK=>?_
  go_simp
  refine(LY L _ ng 3 _ (ints _ _ _ FO.out) zo zo).mono ?_
  rintro e w2 ⟨E2,f2,rfl,hI2,hb2⟩
  have HI2:=hid hI2
  have Ds:=hid (dN HI1.out hb2)
  have HBb:Hid (Below w.heap.size w w2):=hid (Rg.out.trans (hb2.mono Rg.out.size))
  clear hI2 hb2
  refine hK.out _ _ (fun _=>hS) ?_
  clear hK K
  refine aN 6 fun K hK=>?_
  go_simp
  refine hK.out _ _ (fun _=>hS) ?_
  clear hK K
  refine aN 7 fun K hK=>?_
  go_simp
  refine hK.out _ _ (fun _=>hS) ?_
  clear hK K
  refine aN 8 fun K hK=>?_
  go_simp
  refine hK.out _ _ (fun h=>absurd rfl h) ?_
  clear hK K
  refine aC zk ?_ _
  gi_wp2
  refine bodyPost_ret (v:=.tuple #[.slice E1 ng f1,.slice E2 ng f2,int i64 0]) (by simp[results,results7,go_sem]) rfl ⟨E1,f1,E2,f2,rfl,Ds.out,HI2.out,HBb.out⟩
 have Rest:=hid rest
 clear rest hKr
 obtain⟨w60,h60⟩:∃w60,w60=w6.drew:=⟨_,rfl⟩
 have sW:∀w',Below w6.heap.size w6 w'→(w'.cell? ⟨w5.heap.size,0,none⟩=some (int i64 days)∧w'.cell? ⟨w5.heap.size,1,none⟩=some (int i64 most)∧w'.cell? ⟨w5.heap.size,2,none⟩=some (.slice gA ng gc)∧w'.cell? ⟨w5.heap.size,3,none⟩=some (.slice mA nm mc)∧w'.cell? ⟨w5.heap.size,4,none⟩=some (.slice cA nc cc)∧w'.cell? ⟨w5.heap.size+1,0,none⟩=some (int i64 (hf 0))∧w'.cell? ⟨w5.heap.size+1,1,none⟩=some (int i64 (hf 1))∧w'.cell? ⟨w5.heap.size+1,2,none⟩=some (int i64 (hf 2))∧w'.cell? ⟨w5.heap.size+1,3,none⟩=some (int i64 (hmm 0))∧w'.cell? ⟨w5.heap.size+1,4,none⟩=some (int i64 (hmm 1))∧w'.cell? ⟨w5.heap.size+1,5,none⟩=some (int i64 (hmm 2))∧w'.cell? ⟨w5.heap.size+1,6,none⟩=some (int i64 (hmm 3))∧w'.cell? ⟨w5.heap.size+1,7,none⟩=some (int i64 (hmm 4))∧w'.cell? ⟨w5.heap.size+1,8,none⟩=some (int i64 (hmm 5))∧w'.cell? ⟨w5.heap.size+1,9,none⟩=some (int i64 lies)):=fun w' hb=>
  ⟨(Jl.out.below hb Jl.out.lt).cell 0,(Jl.out.below hb Jl.out.lt).cell 1,(Jl.out.below hb Jl.out.lt).cell 2,(Jl.out.below hb Jl.out.lt).cell 3,(Jl.out.below hb Jl.out.lt).cell 4,(wQ.out.below hb wQ.out.lt).cell 0,(wQ.out.below hb wQ.out.lt).cell 1,(wQ.out.below hb wQ.out.lt).cell 2,(wQ.out.below hb wQ.out.lt).cell 3,(wQ.out.below hb wQ.out.lt).cell 4,(wQ.out.below hb wQ.out.lt).cell 5,(wQ.out.below hb wQ.out.lt).cell 6,(wQ.out.below hb wQ.out.lt).cell 7,(wQ.out.below hb wQ.out.lt).cell 8,(wQ.out.below hb wQ.out.lt).cell 9⟩
 have fE:=hid sW
 clear sW
 refine fD 15 (fun w'=>w'.cell? ⟨w5.heap.size,0,none⟩=some (int i64 days)∧w'.cell? ⟨w5.heap.size,1,none⟩=some (int i64 most)∧w'.cell? ⟨w5.heap.size,2,none⟩=some (.slice gA ng gc)∧w'.cell? ⟨w5.heap.size,3,none⟩=some (.slice mA nm mc)∧w'.cell? ⟨w5.heap.size,4,none⟩=some (.slice cA nc cc)∧w'.cell? ⟨w5.heap.size+1,0,none⟩=some (int i64 (hf 0))∧w'.cell? ⟨w5.heap.size+1,1,none⟩=some (int i64 (hf 1))∧w'.cell? ⟨w5.heap.size+1,2,none⟩=some (int i64 (hf 2))∧w'.cell? ⟨w5.heap.size+1,3,none⟩=some (int i64 (hmm 0))∧w'.cell? ⟨w5.heap.size+1,4,none⟩=some (int i64 (hmm 1))∧w'.cell? ⟨w5.heap.size+1,5,none⟩=some (int i64 (hmm 2))∧w'.cell? ⟨w5.heap.size+1,6,none⟩=some (int i64 (hmm 3))∧w'.cell? ⟨w5.heap.size+1,7,none⟩=some (int i64 (hmm 4))∧w'.cell? ⟨w5.heap.size+1,8,none⟩=some (int i64 (hmm 5))∧w'.cell? ⟨w5.heap.size+1,9,none⟩=some (int i64 lies)) zk ?_
 rw[← h60]
 have HB:Hid (Below w6.heap.size w6 w60):=hid (by rw[h60];exact dH (Below.refl _ _))
 clear h60
 have hS:=fE.out w60 HB.out
 refine mo (i:=0) (some 28) hS ?_
 simp only[Act.put,List.setIfInBounds_toArray,List.set]
 refine mo (i:=1) (some 29) hS ?_
 simp only[Act.put,List.setIfInBounds_toArray,List.set]
 refine mo (i:=2) (some 30) hS ?_
 simp only[Act.put,List.setIfInBounds_toArray,List.set]
 refine mo (i:=3) (some 31) hS ?_
 simp only[Act.put,List.setIfInBounds_toArray,List.set]
 refine mo (i:=4) (some 32) hS ?_
 simp only[Act.put,List.setIfInBounds_toArray,List.set]
 refine mo (i:=5) (some 33) hS ?_
 simp only[Act.put,List.setIfInBounds_toArray,List.set]
 refine mo (i:=6) (some 34) hS ?_
 simp only[Act.put,List.setIfInBounds_toArray,List.set]
 refine mo (i:=8) (some 36) hS ?_
 simp only[Act.put,List.setIfInBounds_toArray,List.set]
 refine mo (i:=9) (some 37) hS ?_
 simp only[Act.put,List.setIfInBounds_toArray,List.set]
 refine mo (i:=10) (some 38) hS ?_
 simp only[Act.put,List.setIfInBounds_toArray,List.set]
 clear hS
 refine oC (i:=7) (i':=12) (i2:=13) zk rfl rfl rfl (fun K hK=>?_) (fun K hK=>?_) (fun K hK=>?_)
 ·skip
  go_simp
  refine(HS.out _ (mG.out.trans (HB.out.mono mG.out.size))).mono ?_
  rintro e Qq ⟨rfl,rq⟩
  have VI:Hid (Below w6.heap.size w6 Qq):=hid (HB.out.trans (rq.mono HB.out.size))
  clear rq
  refine hK.out _ _ (fun _=>fE.out _ VI.out) ?_
  clear hK K
  refine oC (i:=11) (i':=12) (i2:=13) zk rfl rfl rfl (fun K hK=>?_) (fun K hK=>?_) (fun K hK=>?_)
  ·skip
   go_simp
   refine(HL.out _ (mG.out.trans (VI.out.mono mG.out.size))).mono ?_
   rintro e VO ⟨rfl,rv⟩
   have cE:Hid (Below w6.heap.size w6 VO):=hid (VI.out.trans (rv.mono VI.out.size))
   clear rv
   refine hK.out _ _ (fun _=>fE.out _ cE.out) ?_
   clear hK K
   refine aV (i:=12) (i':=13) zk rfl rfl (fun K hK=>?_) (fun K hK=>?_)
   ·skip
    go_simp
    obtain⟨m9,hw3⟩:∃x,x=VO.alloc (.cells #[int i64 0,int i64 0,int i64 0] 75):=⟨_,rfl⟩
    rw[← hw3]
    have xo:Hid (Below w6.heap.size w6 m9):=hid (by rw[hw3];exact cE.out.alloc cE.out.size _)
    have ZC:Hid (Whole m9 VO.heap.size 75 #[int i64 0,int i64 0,int i64 0]):=hid (by rw[hw3];exact Whole.new _ _ _)
    have sz:w6.heap.size≤VO.heap.size:=cE.out.size
    clear hw3
    refine hK.out _ _ (fun _=>fE.out _ xo.out) ?_
    clear hK K
    refine aN 13 fun K hK=>?_
    go_simp
    obtain⟨PR,hw4⟩:∃x,x=m9.alloc (.cells #[int i64 0,int i64 0,int i64 0] 75):=⟨_,rfl⟩
    rw[← hw4]
    have E6:Hid (Below w6.heap.size w6 PR):=hid (by rw[hw4];exact xo.out.alloc xo.out.size _)
    have ns:Hid (Whole PR m9.heap.size 75 #[int i64 0,int i64 0,int i64 0]):=hid (by rw[hw4];exact Whole.new _ _ _)
    have hge4:w6.heap.size≤m9.heap.size:=xo.out.size
    have aaJ:=ZC.out.lt
    have QW:=hid (show Whole PR _ _ _ by rw[hw4];exact ZC.out.alloc _)
    clear hw4
    refine hK.out _ _ (fun _=>fE.out _ E6.out) ?_
    clear hK K
    have c13:=QW.out.cell
    have f13:=QW.out.thaw
    refine aN 14 fun K hK=>?_
    go_simp
    refine hK.out _ _ (fun _=>fE.out _ (aA E6.out sz)) ?_
    clear hK K
    have g14:=hid ((ns.out.bQ (x:=int i64 (S 0)) (y:=int i64 (S 1)) (z:=int i64 (S 2)) (B:=VO.heap.size) zo))
    have c14:=g14.out.cell
    have f14:=g14.out.thaw
    clear c13 f13
    refine aN 15 fun K hK=>?_
    go_simp
    refine hK.out _ _ (fun h=>absurd rfl h) ?_
    clear hK K c14 f14
    refine aC zk ?_ _
    exact Rest.out VO.heap.size m9.heap.size _ (aA (aA E6.out sz) hge4) (QW.out.iH.bQ zo) g14.out.iH
   ·skip
    go_simp
    obtain⟨lE,Fa⟩:∃x,x=VO.alloc (.cells #[int i64 0,int i64 0,int i64 0] 75):=⟨_,rfl⟩
    rw[← Fa]
    have xp:Hid (Below w6.heap.size w6 lE):=hid (by rw[Fa];exact cE.out.alloc cE.out.size _)
    have ZF:Hid (Whole lE VO.heap.size 75 #[int i64 0,int i64 0,int i64 0]):=hid (by rw[Fa];exact Whole.new _ _ _)
    have Kd:w6.heap.size≤VO.heap.size:=cE.out.size
    clear Fa
    refine hK.out _ _ (fun _=>fE.out _ xp.out) ?_
    clear hK K
    refine aN 12 fun K hK=>?_
    go_simp
    obtain⟨PT,QC⟩:∃x,x=lE.alloc (.cells #[int i64 0,int i64 0,int i64 0] 75):=⟨_,rfl⟩
    rw[← QC]
    have E7:Hid (Below w6.heap.size w6 PT):=hid (by rw[QC];exact xp.out.alloc xp.out.size _)
    have QX:Hid (Whole PT lE.heap.size 75 #[int i64 0,int i64 0,int i64 0]):=hid (by rw[QC];exact Whole.new _ _ _)
    have sB:w6.heap.size≤lE.heap.size:=xp.out.size
    have aaK:=ZF.out.lt
    have nw:=hid (show Whole PT _ _ _ by rw[QC];exact ZF.out.alloc _)
    clear QC
    refine hK.out _ _ (fun _=>fE.out _ E7.out) ?_
    clear hK K
    have c13:=QX.out.cell
    have f13:=QX.out.thaw
    refine aN 14 fun K hK=>?_
    go_simp
    refine hK.out _ _ (fun _=>fE.out _ (aA E7.out sB)) ?_
    clear hK K
    have g14:=hid ((nw.out.bQ (x:=int i64 (S 0)) (y:=int i64 (S 1)) (z:=int i64 (S 2)) (B:=lE.heap.size) zo))
    have c14:=g14.out.cell
    have f14:=g14.out.thaw
    clear c13 f13
    refine aN 15 fun K hK=>?_
    go_simp
    refine hK.out _ _ (fun h=>absurd rfl h) ?_
    clear hK K c14 f14
    refine aC zk ?_ _
    exact Rest.out lE.heap.size VO.heap.size _ (aA (aA E7.out sB) Kd) (QX.out.iH.bQ zo) g14.out.iH
  ·skip
   go_simp
   obtain⟨na,hw7⟩:∃x,x=Qq.alloc (.cells #[int i64 0,int i64 0,int i64 0] 75):=⟨_,rfl⟩
   rw[← hw7]
   have cY:Hid (Below w6.heap.size w6 na):=hid (by rw[hw7];exact VI.out.alloc VI.out.size _)
   have LG:Hid (Whole na Qq.heap.size 75 #[int i64 0,int i64 0,int i64 0]):=hid (by rw[hw7];exact Whole.new _ _ _)
   have Xl:w6.heap.size≤Qq.heap.size:=VI.out.size
   clear hw7
   refine hK.out _ _ (fun _=>fE.out _ cY.out) ?_
   clear hK K
   refine aV (i:=11) (i':=13) zk rfl rfl (fun K hK=>?_) (fun K hK=>?_)
   ·skip
    go_simp
    refine(HL.out _ (mG.out.trans (cY.out.mono mG.out.size))).mono ?_
    rintro e xi ⟨rfl,fl⟩
    have xr:Hid (Below w6.heap.size w6 xi):=hid (cY.out.trans (fl.mono cY.out.size))
    have ZE:=hid (LG.out.below fl LG.out.lt)
    clear fl
    refine hK.out _ _ (fun _=>fE.out _ xr.out) ?_
    clear hK K
    refine aN 13 fun K hK=>?_
    go_simp
    obtain⟨P0,tt⟩:∃x,x=xi.alloc (.cells #[int i64 0,int i64 0,int i64 0] 75):=⟨_,rfl⟩
    rw[← tt]
    have Ff:Hid (Below w6.heap.size w6 P0):=hid (by rw[tt];exact xr.out.alloc xr.out.size _)
    have nz:Hid (Whole P0 xi.heap.size 75 #[int i64 0,int i64 0,int i64 0]):=hid (by rw[tt];exact Whole.new _ _ _)
    have Kf:w6.heap.size≤xi.heap.size:=xr.out.size
    have aaL:=ZE.out.lt
    have QY:=hid (show Whole P0 _ _ _ by rw[tt];exact ZE.out.alloc _)
    clear tt
    refine hK.out _ _ (fun _=>fE.out _ Ff.out) ?_
    clear hK K
    have c13:=QY.out.cell
    have f13:=QY.out.thaw
    refine aN 14 fun K hK=>?_
    go_simp
    refine hK.out _ _ (fun _=>fE.out _ (aA Ff.out Xl)) ?_
    clear hK K
    have g14:=hid ((nz.out.bQ (x:=int i64 (S 0)) (y:=int i64 (S 1)) (z:=int i64 (S 2)) (B:=Qq.heap.size) zo))
    have c14:=g14.out.cell
    have f14:=g14.out.thaw
    clear c13 f13
    refine aN 15 fun K hK=>?_
    go_simp
    refine hK.out _ _ (fun h=>absurd rfl h) ?_
    clear hK K c14 f14
    refine aC zk ?_ _
    exact Rest.out Qq.heap.size xi.heap.size _ (aA (aA Ff.out Xl) Kf) (QY.out.iH.bQ zo) g14.out.iH
   ·skip
    go_simp
    obtain⟨lj,Te⟩:∃x,x=na.alloc (.cells #[int i64 0,int i64 0,int i64 0] 75):=⟨_,rfl⟩
    rw[← Te]
    have VZ:Hid (Below w6.heap.size w6 lj):=hid (by rw[Te];exact cY.out.alloc cY.out.size _)
    have QZ:Hid (Whole lj na.heap.size 75 #[int i64 0,int i64 0,int i64 0]):=hid (by rw[Te];exact Whole.new _ _ _)
    have sk:w6.heap.size≤na.heap.size:=cY.out.size
    have aad:=LG.out.lt
    have QK:=hid (show Whole lj _ _ _ by rw[Te];exact LG.out.alloc _)
    clear Te
    refine hK.out _ _ (fun _=>fE.out _ VZ.out) ?_
    clear hK K
    refine aN 11 fun K hK=>?_
    go_simp
    refine(HL.out _ (mG.out.trans (VZ.out.mono mG.out.size))).mono ?_
    rintro e Pl ⟨rfl,Mk⟩
    have cx:Hid (Below w6.heap.size w6 Pl):=hid (VZ.out.trans (Mk.mono VZ.out.size))
    have I4:=hid (QK.out.below Mk QK.out.lt)
    have bo:=hid (QZ.out.below Mk QZ.out.lt)
    clear Mk
    refine hK.out _ _ (fun _=>fE.out _ cx.out) ?_
    clear hK K
    have c13:=I4.out.cell
    have f13:=I4.out.thaw
    refine aN 14 fun K hK=>?_
    go_simp
    refine hK.out _ _ (fun _=>fE.out _ (aA cx.out Xl)) ?_
    clear hK K
    have g14:=hid ((bo.out.bQ (x:=int i64 (S 0)) (y:=int i64 (S 1)) (z:=int i64 (S 2)) (B:=Qq.heap.size) zo))
    have c14:=g14.out.cell
    have f14:=g14.out.thaw
    clear c13 f13
    refine aN 15 fun K hK=>?_
    go_simp
    refine hK.out _ _ (fun h=>absurd rfl h) ?_
    clear hK K c14 f14
    refine aC zk ?_ _
    exact Rest.out Qq.heap.size na.heap.size _ (aA (aA cx.out Xl) sk) (I4.out.iH.bQ zo) g14.out.iH
  ·skip
   go_simp
   obtain⟨LB,Xq⟩:∃x,x=Qq.alloc (.cells #[int i64 0,int i64 0,int i64 0] 75):=⟨_,rfl⟩
   rw[← Xq]
   have Jf:Hid (Below w6.heap.size w6 LB):=hid (by rw[Xq];exact VI.out.alloc VI.out.size _)
   have Dt:Hid (Whole LB Qq.heap.size 75 #[int i64 0,int i64 0,int i64 0]):=hid (by rw[Xq];exact Whole.new _ _ _)
   have ao:w6.heap.size≤Qq.heap.size:=VI.out.size
   clear Xq
   refine hK.out _ _ (fun _=>fE.out _ Jf.out) ?_
   clear hK K
   refine aV (i:=11) (i':=12) zk rfl rfl (fun K hK=>?_) (fun K hK=>?_)
   ·skip
    go_simp
    refine(HL.out _ (mG.out.trans (Jf.out.mono mG.out.size))).mono ?_
    rintro e Qs ⟨rfl,SB⟩
    have V5:Hid (Below w6.heap.size w6 Qs):=hid (Jf.out.trans (SB.mono Jf.out.size))
    have Q0:=hid (Dt.out.below SB Dt.out.lt)
    clear SB
    refine hK.out _ _ (fun _=>fE.out _ V5.out) ?_
    clear hK K
    refine aN 12 fun K hK=>?_
    go_simp
    obtain⟨lk,Tf⟩:∃x,x=Qs.alloc (.cells #[int i64 0,int i64 0,int i64 0] 75):=⟨_,rfl⟩
    rw[← Tf]
    have cz:Hid (Below w6.heap.size w6 lk):=hid (by rw[Tf];exact V5.out.alloc V5.out.size _)
    have I5:Hid (Whole lk Qs.heap.size 75 #[int i64 0,int i64 0,int i64 0]):=hid (by rw[Tf];exact Whole.new _ _ _)
    have aq:w6.heap.size≤Qs.heap.size:=V5.out.size
    have aae:=Q0.out.lt
    have bp:=hid (show Whole lk _ _ _ by rw[Tf];exact Q0.out.alloc _)
    clear Tf
    refine hK.out _ _ (fun _=>fE.out _ cz.out) ?_
    clear hK K
    have c13:=I5.out.cell
    have f13:=I5.out.thaw
    refine aN 14 fun K hK=>?_
    go_simp
    refine hK.out _ _ (fun _=>fE.out _ (aA cz.out aq)) ?_
    clear hK K
    have g14:=hid ((bp.out.bQ (x:=int i64 (S 0)) (y:=int i64 (S 1)) (z:=int i64 (S 2)) (B:=Qs.heap.size) zo))
    have c14:=g14.out.cell
    have f14:=g14.out.thaw
    clear c13 f13
    refine aN 15 fun K hK=>?_
    go_simp
    refine hK.out _ _ (fun h=>absurd rfl h) ?_
    clear hK K c14 f14
    refine aC zk ?_ _
    exact Rest.out Qs.heap.size Qq.heap.size _ (aA (aA cz.out aq) ao) (I5.out.iH.bQ zo) g14.out.iH
   ·skip
    go_simp
    obtain⟨ll,Tg⟩:∃x,x=LB.alloc (.cells #[int i64 0,int i64 0,int i64 0] 75):=⟨_,rfl⟩
    rw[← Tg]
    have Wd:Hid (Below w6.heap.size w6 ll):=hid (by rw[Tg];exact Jf.out.alloc Jf.out.size _)
    have QL:Hid (Whole ll LB.heap.size 75 #[int i64 0,int i64 0,int i64 0]):=hid (by rw[Tg];exact Whole.new _ _ _)
    have aw:w6.heap.size≤LB.heap.size:=Jf.out.size
    have aaf:=Dt.out.lt
    have Q5:=hid (show Whole ll _ _ _ by rw[Tg];exact Dt.out.alloc _)
    clear Tg
    refine hK.out _ _ (fun _=>fE.out _ Wd.out) ?_
    clear hK K
    refine aN 11 fun K hK=>?_
    go_simp
    refine(HL.out _ (mG.out.trans (Wd.out.mono mG.out.size))).mono ?_
    rintro e Ps ⟨rfl,Ml⟩
    have cD:Hid (Below w6.heap.size w6 Ps):=hid (Wd.out.trans (Ml.mono Wd.out.size))
    have I6:=hid (QL.out.below Ml QL.out.lt)
    have br:=hid (Q5.out.below Ml Q5.out.lt)
    clear Ml
    refine hK.out _ _ (fun _=>fE.out _ cD.out) ?_
    clear hK K
    have c13:=I6.out.cell
    have f13:=I6.out.thaw
    refine aN 14 fun K hK=>?_
    go_simp
    refine hK.out _ _ (fun _=>fE.out _ (aA cD.out aw)) ?_
    clear hK K
    have g14:=hid ((br.out.bQ (x:=int i64 (S 0)) (y:=int i64 (S 1)) (z:=int i64 (S 2)) (B:=LB.heap.size) zo))
    have c14:=g14.out.cell
    have f14:=g14.out.thaw
    clear c13 f13
    refine aN 15 fun K hK=>?_
    go_simp
    refine hK.out _ _ (fun h=>absurd rfl h) ?_
    clear hK K c14 f14
    refine aC zk ?_ _
    exact Rest.out LB.heap.size Qq.heap.size _ (aA (aA cD.out aw) ao) (I6.out.iH.bQ zo) g14.out.iH
 ·skip
  go_simp
  obtain⟨Qt,Xr⟩:∃x,x=w60.alloc (.cells #[int i64 0,int i64 0,int i64 0] 75):=⟨_,rfl⟩
  rw[← Xr]
  have Jg:Hid (Below w6.heap.size w6 Qt):=hid (by rw[Xr];exact HB.out.alloc HB.out.size _)
  have Dq:Hid (Whole Qt w60.heap.size 75 #[int i64 0,int i64 0,int i64 0]):=hid (by rw[Xr];exact Whole.new _ _ _)
  have Ck:w6.heap.size≤w60.heap.size:=HB.out.size
  clear Xr
  refine hK.out _ _ (fun _=>fE.out _ Jg.out) ?_
  clear hK K
  refine aV (i:=7) (i':=13) zk rfl rfl (fun K hK=>?_) (fun K hK=>?_)
  ·skip
   go_simp
   refine(HS.out _ (mG.out.trans (Jg.out.mono mG.out.size))).mono ?_
   rintro e VA ⟨rfl,SC⟩
   have Jh:Hid (Below w6.heap.size w6 VA):=hid (Jg.out.trans (SC.mono Jg.out.size))
   have Dr:=hid (Dq.out.below SC Dq.out.lt)
   clear SC
   refine hK.out _ _ (fun _=>fE.out _ Jh.out) ?_
   clear hK K
   refine aV (i:=11) (i':=13) zk rfl rfl (fun K hK=>?_) (fun K hK=>?_)
   ·skip
    go_simp
    refine(HL.out _ (mG.out.trans (Jh.out.mono mG.out.size))).mono ?_
    rintro e VD ⟨rfl,SE⟩
    have Wh:Hid (Below w6.heap.size w6 VD):=hid (Jh.out.trans (SE.mono Jh.out.size))
    have QM:=hid (Dr.out.below SE Dr.out.lt)
    clear SE
    refine hK.out _ _ (fun _=>fE.out _ Wh.out) ?_
    clear hK K
    refine aN 13 fun K hK=>?_
    go_simp
    obtain⟨ln,Ti⟩:∃x,x=VD.alloc (.cells #[int i64 0,int i64 0,int i64 0] 75):=⟨_,rfl⟩
    rw[← Ti]
    have cJ:Hid (Below w6.heap.size w6 ln):=hid (by rw[Ti];exact Wh.out.alloc Wh.out.size _)
    have bt:Hid (Whole ln VD.heap.size 75 #[int i64 0,int i64 0,int i64 0]):=hid (by rw[Ti];exact Whole.new _ _ _)
    have sn:w6.heap.size≤VD.heap.size:=Wh.out.size
    have aag:=QM.out.lt
    have I7:=hid (show Whole ln _ _ _ by rw[Ti];exact QM.out.alloc _)
    clear Ti
    refine hK.out _ _ (fun _=>fE.out _ cJ.out) ?_
    clear hK K
    have c13:=I7.out.cell
    have f13:=I7.out.thaw
    refine aN 14 fun K hK=>?_
    go_simp
    refine hK.out _ _ (fun _=>fE.out _ (aA cJ.out Ck)) ?_
    clear hK K
    have g14:=hid ((bt.out.bQ (x:=int i64 (S 0)) (y:=int i64 (S 1)) (z:=int i64 (S 2)) (B:=w60.heap.size) zo))
    have c14:=g14.out.cell
    have f14:=g14.out.thaw
    clear c13 f13
    refine aN 15 fun K hK=>?_
    go_simp
    refine hK.out _ _ (fun h=>absurd rfl h) ?_
    clear hK K c14 f14
    refine aC zk ?_ _
    exact Rest.out w60.heap.size VD.heap.size _ (aA (aA cJ.out Ck) sn) (I7.out.iH.bQ zo) g14.out.iH
   ·skip
    go_simp
    obtain⟨lr,OD⟩:∃x,x=VA.alloc (.cells #[int i64 0,int i64 0,int i64 0] 75):=⟨_,rfl⟩
    rw[← OD]
    have Wi:Hid (Below w6.heap.size w6 lr):=hid (by rw[OD];exact Jh.out.alloc Jh.out.size _)
    have Q6:Hid (Whole lr VA.heap.size 75 #[int i64 0,int i64 0,int i64 0]):=hid (by rw[OD];exact Whole.new _ _ _)
    have sq:w6.heap.size≤VA.heap.size:=Jh.out.size
    have aah:=Dr.out.lt
    have QN:=hid (show Whole lr _ _ _ by rw[OD];exact Dr.out.alloc _)
    clear OD
    refine hK.out _ _ (fun _=>fE.out _ Wi.out) ?_
    clear hK K
    refine aN 11 fun K hK=>?_
    go_simp
    refine(HL.out _ (mG.out.trans (Wi.out.mono mG.out.size))).mono ?_
    rintro e Pu ⟨rfl,Mq⟩
    have cN:Hid (Below w6.heap.size w6 Pu):=hid (Wi.out.trans (Mq.mono Wi.out.size))
    have I8:=hid (QN.out.below Mq QN.out.lt)
    have bu:=hid (Q6.out.below Mq Q6.out.lt)
    clear Mq
    refine hK.out _ _ (fun _=>fE.out _ cN.out) ?_
    clear hK K
    have c13:=I8.out.cell
    have f13:=I8.out.thaw
    refine aN 14 fun K hK=>?_
    go_simp
    refine hK.out _ _ (fun _=>fE.out _ (aA cN.out Ck)) ?_
    clear hK K
    have g14:=hid ((bu.out.bQ (x:=int i64 (S 0)) (y:=int i64 (S 1)) (z:=int i64 (S 2)) (B:=w60.heap.size) zo))
    have c14:=g14.out.cell
    have f14:=g14.out.thaw
    clear c13 f13
    refine aN 15 fun K hK=>?_
    go_simp
    refine hK.out _ _ (fun h=>absurd rfl h) ?_
    clear hK K c14 f14
    refine aC zk ?_ _
    exact Rest.out w60.heap.size VA.heap.size _ (aA (aA cN.out Ck) sq) (I8.out.iH.bQ zo) g14.out.iH
  ·skip
   go_simp
   obtain⟨lx,Tj⟩:∃x,x=Qt.alloc (.cells #[int i64 0,int i64 0,int i64 0] 75):=⟨_,rfl⟩
   rw[← Tj]
   have Wj:Hid (Below w6.heap.size w6 lx):=hid (by rw[Tj];exact Jg.out.alloc Jg.out.size _)
   have Q7:Hid (Whole lx Qt.heap.size 75 #[int i64 0,int i64 0,int i64 0]):=hid (by rw[Tj];exact Whole.new _ _ _)
   have sr:w6.heap.size≤Qt.heap.size:=Jg.out.size
   have aai:=Dq.out.lt
   have QO:=hid (show Whole lx _ _ _ by rw[Tj];exact Dq.out.alloc _)
   clear Tj
   refine hK.out _ _ (fun _=>fE.out _ Wj.out) ?_
   clear hK K
   refine aN 7 fun K hK=>?_
   go_simp
   refine(HS.out _ (mG.out.trans (Wj.out.mono mG.out.size))).mono ?_
   rintro e PC ⟨rfl,Ms⟩
   have Wm:Hid (Below w6.heap.size w6 PC):=hid (Wj.out.trans (Ms.mono Wj.out.size))
   have QS:=hid (QO.out.below Ms QO.out.lt)
   have Q8:=hid (Q7.out.below Ms Q7.out.lt)
   clear Ms
   refine hK.out _ _ (fun _=>fE.out _ Wm.out) ?_
   clear hK K
   refine aN 11 fun K hK=>?_
   go_simp
   refine(HL.out _ (mG.out.trans (Wm.out.mono mG.out.size))).mono ?_
   rintro e PF ⟨rfl,Mt⟩
   have cQ:Hid (Below w6.heap.size w6 PF):=hid (Wm.out.trans (Mt.mono Wm.out.size))
   have I9:=hid (QS.out.below Mt QS.out.lt)
   have b6:=hid (Q8.out.below Mt Q8.out.lt)
   clear Mt
   refine hK.out _ _ (fun _=>fE.out _ cQ.out) ?_
   clear hK K
   have c13:=I9.out.cell
   have f13:=I9.out.thaw
   refine aN 14 fun K hK=>?_
   go_simp
   refine hK.out _ _ (fun _=>fE.out _ (aA cQ.out Ck)) ?_
   clear hK K
   have g14:=hid ((b6.out.bQ (x:=int i64 (S 0)) (y:=int i64 (S 1)) (z:=int i64 (S 2)) (B:=w60.heap.size) zo))
   have c14:=g14.out.cell
   have f14:=g14.out.thaw
   clear c13 f13
   refine aN 15 fun K hK=>?_
   go_simp
   refine hK.out _ _ (fun h=>absurd rfl h) ?_
   clear hK K c14 f14
   refine aC zk ?_ _
   exact Rest.out w60.heap.size Qt.heap.size _ (aA (aA cQ.out Ck) sr) (I9.out.iH.bQ zo) g14.out.iH
 ·skip
  go_simp
  obtain⟨LC,Xt⟩:∃x,x=w60.alloc (.cells #[int i64 0,int i64 0,int i64 0] 75):=⟨_,rfl⟩
  rw[← Xt]
  have Ji:Hid (Below w6.heap.size w6 LC):=hid (by rw[Xt];exact HB.out.alloc HB.out.size _)
  have Du:Hid (Whole LC w60.heap.size 75 #[int i64 0,int i64 0,int i64 0]):=hid (by rw[Xt];exact Whole.new _ _ _)
  have SY:w6.heap.size≤w60.heap.size:=HB.out.size
  clear Xt
  refine hK.out _ _ (fun _=>fE.out _ Ji.out) ?_
  clear hK K
  refine aV (i:=7) (i':=12) zk rfl rfl (fun K hK=>?_) (fun K hK=>?_)
  ·skip
   go_simp
   refine(HS.out _ (mG.out.trans (Ji.out.mono mG.out.size))).mono ?_
   rintro e Qu ⟨rfl,SH⟩
   have Jj:Hid (Below w6.heap.size w6 Qu):=hid (Ji.out.trans (SH.mono Ji.out.size))
   have Dv:=hid (Du.out.below SH Du.out.lt)
   clear SH
   refine hK.out _ _ (fun _=>fE.out _ Jj.out) ?_
   clear hK K
   refine aV (i:=11) (i':=12) zk rfl rfl (fun K hK=>?_) (fun K hK=>?_)
   ·skip
    go_simp
    refine(HL.out _ (mG.out.trans (Jj.out.mono mG.out.size))).mono ?_
    rintro e Qv ⟨rfl,SI⟩
    have Wo:Hid (Below w6.heap.size w6 Qv):=hid (Jj.out.trans (SI.mono Jj.out.size))
    have Q9:=hid (Dv.out.below SI Dv.out.lt)
    clear SI
    refine hK.out _ _ (fun _=>fE.out _ Wo.out) ?_
    clear hK K
    refine aN 12 fun K hK=>?_
    go_simp
    obtain⟨ly,Tk⟩:∃x,x=Qv.alloc (.cells #[int i64 0,int i64 0,int i64 0] 75):=⟨_,rfl⟩
    rw[← Tk]
    have cU:Hid (Below w6.heap.size w6 ly):=hid (by rw[Tk];exact Wo.out.alloc Wo.out.size _)
    have Ja:Hid (Whole ly Qv.heap.size 75 #[int i64 0,int i64 0,int i64 0]):=hid (by rw[Tk];exact Whole.new _ _ _)
    have ax:w6.heap.size≤Qv.heap.size:=Wo.out.size
    have aaj:=Q9.out.lt
    have b7:=hid (show Whole ly _ _ _ by rw[Tk];exact Q9.out.alloc _)
    clear Tk
    refine hK.out _ _ (fun _=>fE.out _ cU.out) ?_
    clear hK K
    have c13:=Ja.out.cell
    have f13:=Ja.out.thaw
    refine aN 14 fun K hK=>?_
    go_simp
    refine hK.out _ _ (fun _=>fE.out _ (aA cU.out ax)) ?_
    clear hK K
    have g14:=hid ((b7.out.bQ (x:=int i64 (S 0)) (y:=int i64 (S 1)) (z:=int i64 (S 2)) (B:=Qv.heap.size) zo))
    have c14:=g14.out.cell
    have f14:=g14.out.thaw
    clear c13 f13
    refine aN 15 fun K hK=>?_
    go_simp
    refine hK.out _ _ (fun h=>absurd rfl h) ?_
    clear hK K c14 f14
    refine aC zk ?_ _
    exact Rest.out Qv.heap.size w60.heap.size _ (aA (aA cU.out ax) SY) (Ja.out.iH.bQ zo) g14.out.iH
   ·skip
    go_simp
    obtain⟨lz,Tn⟩:∃x,x=Qu.alloc (.cells #[int i64 0,int i64 0,int i64 0] 75):=⟨_,rfl⟩
    rw[← Tn]
    have Wp:Hid (Below w6.heap.size w6 lz):=hid (by rw[Tn];exact Jj.out.alloc Jj.out.size _)
    have QT:Hid (Whole lz Qu.heap.size 75 #[int i64 0,int i64 0,int i64 0]):=hid (by rw[Tn];exact Whole.new _ _ _)
    have az:w6.heap.size≤Qu.heap.size:=Jj.out.size
    have aak:=Dv.out.lt
    have Ra:=hid (show Whole lz _ _ _ by rw[Tn];exact Dv.out.alloc _)
    clear Tn
    refine hK.out _ _ (fun _=>fE.out _ Wp.out) ?_
    clear hK K
    refine aN 11 fun K hK=>?_
    go_simp
    refine(HL.out _ (mG.out.trans (Wp.out.mono mG.out.size))).mono ?_
    rintro e PH ⟨rfl,Mw⟩
    have cV:Hid (Below w6.heap.size w6 PH):=hid (Wp.out.trans (Mw.mono Wp.out.size))
    have Jb:=hid (QT.out.below Mw QT.out.lt)
    have b8:=hid (Ra.out.below Mw Ra.out.lt)
    clear Mw
    refine hK.out _ _ (fun _=>fE.out _ cV.out) ?_
    clear hK K
    have c13:=Jb.out.cell
    have f13:=Jb.out.thaw
    refine aN 14 fun K hK=>?_
    go_simp
    refine hK.out _ _ (fun _=>fE.out _ (aA cV.out az)) ?_
    clear hK K
    have g14:=hid ((b8.out.bQ (x:=int i64 (S 0)) (y:=int i64 (S 1)) (z:=int i64 (S 2)) (B:=Qu.heap.size) zo))
    have c14:=g14.out.cell
    have f14:=g14.out.thaw
    clear c13 f13
    refine aN 15 fun K hK=>?_
    go_simp
    refine hK.out _ _ (fun h=>absurd rfl h) ?_
    clear hK K c14 f14
    refine aC zk ?_ _
    exact Rest.out Qu.heap.size w60.heap.size _ (aA (aA cV.out az) SY) (Jb.out.iH.bQ zo) g14.out.iH
  ·skip
   go_simp
   obtain⟨lB,hw32⟩:∃x,x=LC.alloc (.cells #[int i64 0,int i64 0,int i64 0] 75):=⟨_,rfl⟩
   rw[← hw32]
   have Wq:Hid (Below w6.heap.size w6 lB):=hid (by rw[hw32];exact Ji.out.alloc Ji.out.size _)
   have QU:Hid (Whole lB LC.heap.size 75 #[int i64 0,int i64 0,int i64 0]):=hid (by rw[hw32];exact Whole.new _ _ _)
   have aE:w6.heap.size≤LC.heap.size:=Ji.out.size
   have hne32:=Du.out.lt
   have Rb:=hid (show Whole lB _ _ _ by rw[hw32];exact Du.out.alloc _)
   clear hw32
   refine hK.out _ _ (fun _=>fE.out _ Wq.out) ?_
   clear hK K
   refine aN 7 fun K hK=>?_
   go_simp
   refine(HS.out _ (mG.out.trans (Wq.out.mono mG.out.size))).mono ?_
   rintro e PM ⟨rfl,Mx⟩
   have Ws:Hid (Below w6.heap.size w6 PM):=hid (Wq.out.trans (Mx.mono Wq.out.size))
   have QV:=hid (QU.out.below Mx QU.out.lt)
   have Rf:=hid (Rb.out.below Mx Rb.out.lt)
   clear Mx
   refine hK.out _ _ (fun _=>fE.out _ Ws.out) ?_
   clear hK K
   refine aN 11 fun K hK=>?_
   go_simp
   refine(HL.out _ (mG.out.trans (Ws.out.mono mG.out.size))).mono ?_
   rintro e PQ ⟨rfl,MB⟩
   have cX:Hid (Below w6.heap.size w6 PQ):=hid (Ws.out.trans (MB.mono Ws.out.size))
   have Jc:=hid (QV.out.below MB QV.out.lt)
   have b9:=hid (Rf.out.below MB Rf.out.lt)
   clear MB
   refine hK.out _ _ (fun _=>fE.out _ cX.out) ?_
   clear hK K
   have c13:=Jc.out.cell
   have f13:=Jc.out.thaw
   refine aN 14 fun K hK=>?_
   go_simp
   refine hK.out _ _ (fun _=>fE.out _ (aA cX.out aE)) ?_
   clear hK K
   have g14:=hid ((b9.out.bQ (x:=int i64 (S 0)) (y:=int i64 (S 1)) (z:=int i64 (S 2)) (B:=LC.heap.size) zo))
   have c14:=g14.out.cell
   have f14:=g14.out.thaw
   clear c13 f13
   refine aN 15 fun K hK=>?_
   go_simp
   refine hK.out _ _ (fun h=>absurd rfl h) ?_
   clear hK K c14 f14
   refine aC zk ?_ _
   exact Rest.out LC.heap.size w60.heap.size _ (aA (aA cX.out aE) SY) (Jc.out.iH.bQ zo) g14.out.iH
end
section
open Go Go.Conc Go.RowKit Go.Maps Go.Sort Go.Shelf
section
variable{P:Program}{ops:Array Oper}{Q:Exit→Act→World→Prop}{a:Act}{w:World}{id:Nat}{o:Oper}{rest:List Nat}{c cap s r:Nat}{buf:Array Value}{z:Value}{closed:Bool}{t:TypeId}{x:Operand}
theorem yx(hop:o.op=.recv t x true)(ρ:Operand→Value)(w:World):o.about P w ρ=none:=by unfold Oper.about;rw[hop]
theorem yA(hop:o.op=.recv t x true)(ro:Option Nat)(ρ:Operand→Value):o.semAt ro ρ=execOp ρ o:=Oper.semAt_eq _ _ _ (by rw[hop];intro c h;cases h)
theorem BG(ho:ops[0]? =some o)(hop:o.op=.recv t x true)(hw:Region.wanted o (yielded ops a.tmps)=true)(hl:List.range ops.size=0 :: rest)(hex:(execOp a.eval o).run P w=.ok (.comm #[rcase c z] true (.recv true)) w)(hc:w.heap[c]? =some (.chan cap buf closed s r false))(hsome:0<buf.size)
 (h:wpOpsIn FF 0 P ops Q rest (a.put o.dst (.tuple #[buf.getD 0 undef,.bool true])) (w.setChan c cap (buf.extract 1 buf.size) closed s (r+1) false)):(Code.region id ops false).wpIn FF 0 P Q a w:=fun b k cs hro hb hr=>by
 obtain⟨e,a',w',hq,harr⟩:=wp_opsIn rest _ _ h b k cs hro hb hr
 refine⟨e,a',w',hq,.of_steps (.head (fenced_calm (n:=0) hb (bD _) rfl) stepR_region ?_) harr⟩
 rw[hl]
 have hfo:Machine.fenced P FF (lone (b.atR a (.inRegion ops (0 :: rest) :: k)) cs w):=fenced_oper (n:=0) hb (bD _) ho (fun f hf=>by rw[yx hop] at hf;cases hf)
 refine .one hfo ?_
 have hg:=stepGR_op (P:=P) (b:=b) (k:=k) (cs:=cs) (w:=w) (rest:=rest) ho hw
 rw[yA hop] at hg
 have hcm:∃es,stepG P true (G (b.atR a (.inRegion ops (0 :: rest) :: k)) cs) w=.comm (G (b.atR a (.inRegion ops (0 :: rest) :: k)) cs) #[rcase c z] true (.recv true) w es:=by
  have hg2:=hg
  simp only[stepG.apply,Sem.runT_eq,hex] at hg2
  exact⟨_,hg2⟩
 obtain⟨es,hcm⟩:=hcm
 have:=step_lone_recv_buf true hcm hc hsome
 rw[Frame.finish_atR,ho] at this
 exact this
theorem Aq(ho:ops[0]? =some o)(hop:o.op=.recv t x true)(hw:Region.wanted o (yielded ops a.tmps)=true)(hl:List.range ops.size=0 :: rest)(hex:(execOp a.eval o).run P w=.ok (.comm #[rcase c z] true (.recv true)) w)(hc:w.heap[c]? =some (.chan cap #[] true s r false))
 (h:wpOpsIn FF 0 P ops Q rest (a.put o.dst (.tuple #[z,.bool false])) w):(Code.region id ops false).wpIn FF 0 P Q a w:=fun b k cs hro hb hr=>by
 obtain⟨e,a',w',hq,harr⟩:=wp_opsIn rest _ _ h b k cs hro hb hr
 refine⟨e,a',w',hq,.of_steps (.head (fenced_calm (n:=0) hb (bD _) rfl) stepR_region ?_) harr⟩
 rw[hl]
 have hfo:Machine.fenced P FF (lone (b.atR a (.inRegion ops (0 :: rest) :: k)) cs w):=fenced_oper (n:=0) hb (bD _) ho (fun f hf=>by rw[yx hop] at hf;cases hf)
 refine .one hfo ?_
 have hg:=stepGR_op (P:=P) (b:=b) (k:=k) (cs:=cs) (w:=w) (rest:=rest) ho hw
 rw[yA hop] at hg
 have hcm:∃es,stepG P true (G (b.atR a (.inRegion ops (0 :: rest) :: k)) cs) w=.comm (G (b.atR a (.inRegion ops (0 :: rest) :: k)) cs) #[rcase c z] true (.recv true) w es:=by
  have hg2:=hg
  simp only[stepG.apply,Sem.runT_eq,hex] at hg2
  exact⟨_,hg2⟩
 obtain⟨es,hcm⟩:=hcm
 have:=step_lone_recv_shut true hcm hc
 rw[Frame.finish_atR,ho] at this
 exact this
end
theorem ir(base:Nat)(v:Value)(ss:List Int)(W:World)(h0:0<ss.length)(hlt:ss.length<2 ^ 40)(h:W.ownsRow base 3 1 v ss.length (ss.map encZ)):CallsIn FF 0 prog 108 #[v] W fun e w'=>e=.returned (.tuple #[])∧w'.ownsRow base 3 1 v ss.length ((ss.mergeSort (fun x y=>decide (x≤y))).map encZ)∧W.grownBy w' v.ownBlock:=by
 rcases h.2 with⟨rfl,hz⟩|⟨gb,cap,cur,rfl,hbase,hgb,r1,r2,r3,r4⟩
 ·omega
 ·have hH:Holds encZ W gb 0 ss.toArray:=holds_of_block_i hgb (by simpa using r4)
  have hgl:gb<W.heap.size:=(Array.getElem?_eq_some_iff.1 hgb).1
  have cS:=(Ie 0).1 gb 0 cap ss W hH hgl zo
  refine CallsIn.mono cS ?_
  rintro e w' ⟨rfl,nn,os,rfl⟩
  exact⟨rfl,ownsRow_sorted_i zs hbase hgb r1 r2 r3,grownBy_sorted_i _⟩
end
end Go.Proofs.YtmjjocnfidnelaaGreat
