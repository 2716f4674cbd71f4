/- P23 -/
import Derived.Test.YthaelabgfnnebaaGreatE6
set_option maxRecDepth 100000
set_option maxHeartbeats 16000000
set_option linter.unusedVariables false
set_option linter.unusedSectionVars false
open Go.IntKind(i64)
open Go.Lib(hid)
open Go.Proofs.Tryz
open Go.Value(int)
namespace Go.Proofs.YthaelabgfnnebaaGreat
section
open Go.RowKit Go.Sort
theorem dc:UR:=by
 intro b l1 l2 l3 w ok hcap hp h A1 A2 A3 p1 p2 p3 i1 i2 i3
 have po:=LQ ok hp
 have h0:∀x∈l3,0≤x:=fun x hx=>(po.2.1 x hx).1
 have hO:=wM b l1 l2 l3 w h ok hcap hp A1 A2 A3 p1 p2 p3 i1 i2 i3
 have hO2:∀W,Below W.heap.size W W:=fun W=>Below.refl _ _
 have hO3:∀w',Below w.heap.size w w'→CallsIn FF 0 prog 52 #[b.val,.slice A1 l1.length p1,.slice A2 l2.length p2,.slice A3 l3.length p3] w' fun e w2=>∃A n p,e=.returned (.tuple #[b.ZW A n p,(iy l1 l2 l3).val,int i64 0])∧Below w'.heap.size w' w2:=fun w' hb=>
  wM b l1 l2 l3 w' ((h.below hb).more hb.size) ok hcap hp A1 A2 A3 p1 p2 p3 (bK i1 hb) (bK i2 hb) (bK i3 hb)
 have hS:∀w',Below w.heap.size w w'→CallsIn FF 0 prog 42 #[b.val,(iy l1 l2 l3).val,int i64 b.days] w' fun e w2=>e=.returned (lV (stk b (iy l1 l2 l3) b.days b.nm))∧Below w'.heap.size w' w2:=fun w' hb=>
  gu b (iy l1 l2 l3) b.days w' ((h.below hb).more hb.size) ok.moves ok.bn.1.2 po.1
 have hL:∀w',Below w.heap.size w w'→CallsIn FF 0 prog 53 #[b.val,(iy l1 l2 l3).val] w' fun e w2=>e=.returned (lV (Dw b (iy l1 l2 l3) (b.days.toNat+1)))∧Below w'.heap.size w' w2:=fun w' hb=>
  oX b (iy l1 l2 l3) w' ((h.below hb).more hb.size) ok.moves ok.days ok.bn.1.2 po.1
 have eS:∀q,stk b (iy l1 l2 l3) b.days b.nm q=Dq b l1 l2 l3 q:=fun q=>Gx b l1 l2 l3 h0 b.days q
 have eL:∀q,Dw b (iy l1 l2 l3) (b.days.toNat+1) q=LG b l1 l2 l3 q:=fun q=>F4 b l1 l2 l3 h0 q _
 unfold Ev
 simp only[← eS,← eL]
 clear eS eL hO hO2 h0
 obtain⟨S,hSd⟩:∃S,S=stk b (iy l1 l2 l3) b.days b.nm:=⟨_,rfl⟩
 obtain⟨L,Mb⟩:∃L,L=Dw b (iy l1 l2 l3) (b.days.toNat+1):=⟨_,rfl⟩
 rw[← hSd] at hS⊢
 rw[← Mb] at hL⊢
 obtain⟨n1,hn1⟩:∃n1,n1=l1.length:=⟨_,rfl⟩
 obtain⟨n2,hn2⟩:∃n2,n2=l2.length:=⟨_,rfl⟩
 obtain⟨n3,Pp⟩:∃n3,n3=l3.length:=⟨_,rfl⟩
 rw[← hn1,← hn2,← Pp] at hO3⊢
 obtain⟨ht,hht⟩:∃ht,ht=iy l1 l2 l3:=⟨_,rfl⟩
 rw[← hht] at hO3 hS hL
 have Ay:=ok.bn.1
 clear hn1 hn2 Pp hht i1 i2 i3 po hp ok h hcap hSd Mb
 obtain⟨days,most,gA,ng,gc,g,mA,nm,mc,m,cA,nc,cc,c⟩:=b
 obtain⟨hf,hmm,lies⟩:=ht
 simp only at Ay
 have mf:∀w',Below w.heap.size w w'→CallsIn FF 0 prog 52 #[.agg #[int i64 days,int i64 most,.slice gA ng gc,.slice mA nm mc,.slice cA nc cc],.slice A1 n1 p1,.slice A2 n2 p2,.slice A3 n3 p3] w' fun e w2=>∃A n p,e=.returned (.tuple #[.agg #[int i64 days,int i64 most,.slice gA ng gc,.slice mA nm mc,.slice cA nc cc,.slice A n p],.agg #[int i64 (hf 0),int i64 (hf 1),int i64 (hf 2),int i64 (hmm 0),int i64 (hmm 1),int i64 (hmm 2),int i64 (hmm 3),int i64 (hmm 4),int i64 (hmm 5),int i64 lies],int i64 0])∧Below w'.heap.size w' w2:=hO3
 simp only[Bk.val,Bk.cells,Ht.val,Ht.cells,lV] at hS hL⊢
 have HS:=hid hS
 have HL:=hid hL
 have HO:=hid mf
 clear hS hL hO3 mf
 have VB:Hid (Below w.heap.size w (w.alloc (.cells #[int i64 days,int i64 most,.slice gA ng gc,.slice mA nm mc,.slice cA nc cc] 26))):=hid (bw)
 gi_enter func25,ntmps25
 gi_wp2_with (gi_at_call 52;refine(HO.out _ VB.out).mono ?_;rintro e w5 ⟨A5,n5,p5,rfl,hb5⟩;have Er:=hid hb5;clear hb5;have hs5:=Er.out.size;have EA:=hid ((Whole.new w5 76 #[int i64 days,int i64 most,.slice gA ng gc,.slice mA nm mc,.slice cA nc cc,.slice A5 n5 p5]).alloc (.cells #[int i64 (hf 0),int i64 (hf 1),int i64 (hf 2),int i64 (hmm 0),int i64 (hmm 1),int i64 (hmm 2),int i64 (hmm 3),int i64 (hmm 4),int i64 (hmm 5),int i64 lies] 88));have Uv:=hid (Whole.new (w5.alloc (.cells #[int i64 days,int i64 most,.slice gA ng gc,.slice mA nm mc,.slice cA nc cc,.slice A5 n5 p5] 76)) 88 #[int i64 (hf 0),int i64 (hf 1),int i64 (hf 2),int i64 (hmm 0),int i64 (hmm 1),int i64 (hmm 2),int i64 (hmm 3),int i64 (hmm 4),int i64 (hmm 5),int i64 lies]))
 obtain⟨w6,Pv⟩:∃w6,w6=(w5.alloc (.cells #[int i64 days,int i64 most,.slice gA ng gc,.slice mA nm mc,.slice cA nc cc,.slice A5 n5 p5] 76)).alloc (.cells #[int i64 (hf 0),int i64 (hf 1),int i64 (hf 2),int i64 (hmm 0),int i64 (hmm 1),int i64 (hmm 2),int i64 (hmm 3),int i64 (hmm 4),int i64 (hmm 5),int i64 lies] 88):=⟨_,rfl⟩
 have Ir:Hid (Whole w6 w5.heap.size 76 #[int i64 days,int i64 most,.slice gA ng gc,.slice mA nm mc,.slice cA nc cc,.slice A5 n5 p5]):=hid (by rw[Pv];exact EA.out)
 have vI:Hid (Whole w6 (w5.heap.size+1) 88 #[int i64 (hf 0),int i64 (hf 1),int i64 (hf 2),int i64 (hmm 0),int i64 (hmm 1),int i64 (hmm 2),int i64 (hmm 3),int i64 (hmm 4),int i64 (hmm 5),int i64 lies]):=hid (by have:=Uv.out;rw[World.size_alloc] at this;rw[Pv];exact this)
 have lX:Hid (Below w.heap.size w w6):=hid (by
  rw[Pv]
  exact((VB.out.trans (Er.out.mono VB.out.size)).alloc (by have:=VB.out.size;omega) _).alloc (by have:=VB.out.size;simp;omega) _)
 have hs6:w6.heap.size=w5.heap.size+2:=by rw[Pv];simp
 rw[← Pv]
 clear Pv EA Uv
 gi_wp2
 rename_i Qr Kr hKr
 have rest:∀ (tt tx:Nat) (wz:World),Below w6.heap.size w6 wz→Whole wz tt 85 #[int i64 (S 0),int i64 (S 1),int i64 (S 2)]→Whole wz tx 85 #[int i64 (L 0),int i64 (L 1),int i64 (L 2)]→Kr {tmps:=#[Value.agg #[int i64 days,int i64 most,.slice gA ng gc,.slice mA nm mc,.slice cA nc cc],.slice A1 n1 p1,.slice A2 n2 p2,.slice A3 n3 p3,.pointer (some ⟨w.heap.size,0,none⟩),undef,undef,undef,.slice none 0 0,.slice none 0 0,int i64 0,Value.pointer (some ⟨w5.heap.size,0,none⟩),.pointer (some ⟨w5.heap.size+1,0,none⟩),.pointer (some ⟨tt,0,none⟩),.pointer (some ⟨tx,0,none⟩),undef,Value.tuple #[Value.agg #[int i64 days,int i64 most,.slice gA ng gc,.slice mA nm mc,.slice cA nc cc,.slice A5 n5 p5],Value.agg #[int i64 (hf 0),int i64 (hf 1),int i64 (hf 2),int i64 (hmm 0),int i64 (hmm 1),int i64 (hmm 2),int i64 (hmm 3),int i64 (hmm 4),int i64 (hmm 5),int i64 lies],int i64 0],Value.agg #[int i64 days,int i64 most,.slice gA ng gc,.slice mA nm mc,.slice cA nc cc],.slice A1 n1 p1,.slice A2 n2 p2,.slice A3 n3 p3,Value.tuple #[Value.agg #[int i64 days,int i64 most,.slice gA ng gc,.slice mA nm mc,.slice cA nc cc,.slice A5 n5 p5],Value.agg #[int i64 (hf 0),int i64 (hf 1),int i64 (hf 2),int i64 (hmm 0),int i64 (hmm 1),int i64 (hmm 2),int i64 (hmm 3),int i64 (hmm 4),int i64 (hmm 5),int i64 lies],int i64 0],Value.agg #[int i64 days,int i64 most,.slice gA ng gc,.slice mA nm mc,.slice cA nc cc,.slice A5 n5 p5],Value.agg #[int i64 (hf 0),int i64 (hf 1),int i64 (hf 2),int i64 (hmm 0),int i64 (hmm 1),int i64 (hmm 2),int i64 (hmm 3),int i64 (hmm 4),int i64 (hmm 5),int i64 lies],int i64 0,int i64 0,.bool false,undef,Value.pointer (some ⟨w5.heap.size,0,none⟩),Value.agg #[int i64 days,int i64 most,.slice gA ng gc,.slice mA nm mc,.slice cA nc cc],Value.agg #[int i64 (hf 0),int i64 (hf 1),int i64 (hf 2),int i64 (hmm 0),int i64 (hmm 1),int i64 (hmm 2),int i64 (hmm 3),int i64 (hmm 4),int i64 (hmm 5),int i64 lies],Value.pointer (some ⟨w5.heap.size,0,none⟩),Value.pointer (some ⟨w5.heap.size,0,none⟩),Value.pointer (some ⟨w5.heap.size,0,none⟩),int i64 days,.agg #[int i64 (S 0),int i64 (S 1),int i64 (S 2)],Value.pointer (some ⟨w5.heap.size,0,none⟩),Value.agg #[int i64 days,int i64 most,.slice gA ng gc,.slice mA nm mc,.slice cA nc cc],Value.agg #[int i64 (hf 0),int i64 (hf 1),int i64 (hf 2),int i64 (hmm 0),int i64 (hmm 1),int i64 (hmm 2),int i64 (hmm 3),int i64 (hmm 4),int i64 (hmm 5),int i64 lies],.agg #[int i64 (L 0),int i64 (L 1),int i64 (L 2)],undef,undef,undef,undef,undef,undef,undef,undef,undef,undef,undef],defers:=[] } wz:=by
  intro tt tx wz hbz h13 h14
  refine hKr _ _ ?_
  have si:=hid (Ir.out.below hbz Ir.out.lt)
  have tH:Hid (Below w.heap.size w wz):=hid (lX.out.trans (hbz.mono lX.out.size))
  have y:∀i,wz.cell? ⟨w5.heap.size,i,none⟩=(#[int i64 days,int i64 most,.slice gA ng gc,.slice mA nm mc,.slice cA nc cc,.slice A5 n5 p5]:Array Value)[i]?:=si.out.cell
  have vn:=hid h13
  have vq:=hid h14
  clear hKr hbz h13 h14
  have Pp:(ng:Int)≤3:=zo
  have hn0:(0:Int)≤(ng:Int):=zo
  gi_wp2
  refine iK 8 (fun _=>True) zk ?_
  have hS:True:=trivial
  have hB1:Below w.heap.size w wz.drew:=fZ tH.out
  have kz:=hid (show Whole wz.drew _ _ _ from vn.out)
  have gi:=hid (show Whole wz.drew _ _ _ from vq.out)
  obtain⟨wd,hwd⟩:∃wd,wd=wz.drew:=⟨_,rfl⟩
  rw[← hwd] at kz gi hB1⊢
  refine yX (i:=0) (some 45) hS ?_
  simp only[Act.put,List.setIfInBounds_toArray,List.set]
  refine yX (i:=1) (some 46) hS ?_
  simp only[Act.put,List.setIfInBounds_toArray,List.set]
  refine yX (i:=3) (some 48) hS ?_
  simp only[Act.put,List.setIfInBounds_toArray,List.set]
  refine yX (i:=4) (some 49) hS ?_
  simp only[Act.put,List.setIfInBounds_toArray,List.set]
  clear hwd
  have ints:∀ (wq:World) (B:Nat) (f:Nat→Int),Whole wq B 85 #[int i64 (f 0),int i64 (f 1),int i64 (f 2)]→Ints wq wq.heap.size (some ⟨B,0,none⟩) ng f:=fun wq B f hW hn=>by
   refine⟨_,rfl,hW.lt,fun i j hi hj=>?_⟩
   obtain rfl:j=0:=zo
   have e:((⟨B,0,none⟩:Addr).add (i * 1+0))=⟨B,i,none⟩:=by unfold Addr.add;split <;> simp_all
   rw[e,hW.cell]
   rcases(show i=0∨i=1∨i=2 by omega) with rfl|rfl|rfl <;> rfl
  refine aY 2 fun K hK=>?_
  go_simp
  refine(KR S _ ng 3 _ (ints _ _ _ kz.out) zo zo).mono ?_
  rintro e w1 ⟨E1,f1,rfl,hI1,hb1⟩
  have HI1:=hid hI1
  have GM:Hid (Below w.heap.size w w1):=hid (hB1.trans (hb1.mono hB1.size))
  have xd:=hid (gi.out.below hb1 gi.out.lt)
  clear hI1 hb1 hB1
  refine hK.out _ _ (fun _=>hS) ?_
  clear hK K
  refine aY 5 fun K hK=>?_
  go_simp
  refine(KR L _ ng 3 _ (ints _ _ _ xd.out) zo zo).mono ?_
  rintro e w2 ⟨E2,f2,rfl,hI2,hb2⟩
  have HI2:=hid hI2
  have uv:=hid (bK HI1.out hb2)
  have PM:Hid (Below w.heap.size w w2):=hid (GM.out.trans (hb2.mono GM.out.size))
  clear hI2 hb2
  refine hK.out _ _ (fun _=>hS) ?_
  clear hK K
  refine aY 6 fun K hK=>?_
  go_simp
  refine hK.out _ _ (fun _=>hS) ?_
  clear hK K
  refine aY 7 fun K hK=>?_
  go_simp
  refine hK.out _ _ (fun _=>hS) ?_
  clear hK K
  refine aY 8 fun K hK=>?_
  go_simp
  refine hK.out _ _ (fun h=>absurd rfl h) ?_
  clear hK K
  refine aG zk ?_ _
  gi_wp2
  refine bodyPost_ret (v:=.tuple #[.slice E1 ng f1,.slice E2 ng f2,int i64 0]) (by simp[results,results25,go_sem]) rfl ⟨E1,f1,E2,f2,rfl,uv.out,HI2.out,PM.out⟩
 have Rest:=hid rest
 clear rest hKr
 obtain⟨w60,h60⟩:∃w60,w60=w6.drew:=⟨_,rfl⟩
 have Lf:∀w',Below w6.heap.size w6 w'→(w'.cell? ⟨w5.heap.size,0,none⟩=some (int i64 days)∧w'.cell? ⟨w5.heap.size,1,none⟩=some (int i64 most)∧w'.cell? ⟨w5.heap.size,2,none⟩=some (.slice gA ng gc)∧w'.cell? ⟨w5.heap.size,3,none⟩=some (.slice mA nm mc)∧w'.cell? ⟨w5.heap.size,4,none⟩=some (.slice cA nc cc)∧w'.cell? ⟨w5.heap.size+1,0,none⟩=some (int i64 (hf 0))∧w'.cell? ⟨w5.heap.size+1,1,none⟩=some (int i64 (hf 1))∧w'.cell? ⟨w5.heap.size+1,2,none⟩=some (int i64 (hf 2))∧w'.cell? ⟨w5.heap.size+1,3,none⟩=some (int i64 (hmm 0))∧w'.cell? ⟨w5.heap.size+1,4,none⟩=some (int i64 (hmm 1))∧w'.cell? ⟨w5.heap.size+1,5,none⟩=some (int i64 (hmm 2))∧w'.cell? ⟨w5.heap.size+1,6,none⟩=some (int i64 (hmm 3))∧w'.cell? ⟨w5.heap.size+1,7,none⟩=some (int i64 (hmm 4))∧w'.cell? ⟨w5.heap.size+1,8,none⟩=some (int i64 (hmm 5))∧w'.cell? ⟨w5.heap.size+1,9,none⟩=some (int i64 lies)):=fun w' hb=>
  ⟨(Ir.out.below hb Ir.out.lt).cell 0,(Ir.out.below hb Ir.out.lt).cell 1,(Ir.out.below hb Ir.out.lt).cell 2,(Ir.out.below hb Ir.out.lt).cell 3,(Ir.out.below hb Ir.out.lt).cell 4,(vI.out.below hb vI.out.lt).cell 0,(vI.out.below hb vI.out.lt).cell 1,(vI.out.below hb vI.out.lt).cell 2,(vI.out.below hb vI.out.lt).cell 3,(vI.out.below hb vI.out.lt).cell 4,(vI.out.below hb vI.out.lt).cell 5,(vI.out.below hb vI.out.lt).cell 6,(vI.out.below hb vI.out.lt).cell 7,(vI.out.below hb vI.out.lt).cell 8,(vI.out.below hb vI.out.lt).cell 9⟩
 have iV:=hid Lf
 clear Lf
 refine iK 15 (fun w'=>w'.cell? ⟨w5.heap.size,0,none⟩=some (int i64 days)∧w'.cell? ⟨w5.heap.size,1,none⟩=some (int i64 most)∧w'.cell? ⟨w5.heap.size,2,none⟩=some (.slice gA ng gc)∧w'.cell? ⟨w5.heap.size,3,none⟩=some (.slice mA nm mc)∧w'.cell? ⟨w5.heap.size,4,none⟩=some (.slice cA nc cc)∧w'.cell? ⟨w5.heap.size+1,0,none⟩=some (int i64 (hf 0))∧w'.cell? ⟨w5.heap.size+1,1,none⟩=some (int i64 (hf 1))∧w'.cell? ⟨w5.heap.size+1,2,none⟩=some (int i64 (hf 2))∧w'.cell? ⟨w5.heap.size+1,3,none⟩=some (int i64 (hmm 0))∧w'.cell? ⟨w5.heap.size+1,4,none⟩=some (int i64 (hmm 1))∧w'.cell? ⟨w5.heap.size+1,5,none⟩=some (int i64 (hmm 2))∧w'.cell? ⟨w5.heap.size+1,6,none⟩=some (int i64 (hmm 3))∧w'.cell? ⟨w5.heap.size+1,7,none⟩=some (int i64 (hmm 4))∧w'.cell? ⟨w5.heap.size+1,8,none⟩=some (int i64 (hmm 5))∧w'.cell? ⟨w5.heap.size+1,9,none⟩=some (int i64 lies)) zk ?_
 rw[← h60]
 have HB:Hid (Below w6.heap.size w6 w60):=hid (by rw[h60];exact fZ (Below.refl _ _))
 clear h60
 have hS:=iV.out w60 HB.out
 refine yX (i:=0) (some 28) hS ?_
 simp only[Act.put,List.setIfInBounds_toArray,List.set]
 refine yX (i:=1) (some 29) hS ?_
 simp only[Act.put,List.setIfInBounds_toArray,List.set]
 refine yX (i:=2) (some 30) hS ?_
 simp only[Act.put,List.setIfInBounds_toArray,List.set]
 refine yX (i:=3) (some 31) hS ?_
 simp only[Act.put,List.setIfInBounds_toArray,List.set]
 refine yX (i:=4) (some 32) hS ?_
 simp only[Act.put,List.setIfInBounds_toArray,List.set]
 refine yX (i:=5) (some 33) hS ?_
 simp only[Act.put,List.setIfInBounds_toArray,List.set]
 refine yX (i:=6) (some 34) hS ?_
 simp only[Act.put,List.setIfInBounds_toArray,List.set]
 refine yX (i:=8) (some 36) hS ?_
 simp only[Act.put,List.setIfInBounds_toArray,List.set]
 refine yX (i:=9) (some 37) hS ?_
 simp only[Act.put,List.setIfInBounds_toArray,List.set]
 refine yX (i:=10) (some 38) hS ?_
 simp only[Act.put,List.setIfInBounds_toArray,List.set]
 clear hS
 refine nV (i:=7) (i':=12) (i2:=13) zk rfl rfl rfl (fun K hK=>?_) (fun K hK=>?_) (fun K hK=>?_)
 ·skip
  go_simp
  refine(HS.out _ (lX.out.trans (HB.out.mono lX.out.size))).mono ?_
  rintro e Pf ⟨rfl,mz⟩
  have Us:Hid (Below w6.heap.size w6 Pf):=hid (HB.out.trans (mz.mono HB.out.size))
  clear mz
  refine hK.out _ _ (fun _=>iV.out _ Us.out) ?_
  clear hK K
  refine nV (i:=11) (i':=12) (i2:=13) zk rfl rfl rfl (fun K hK=>?_) (fun K hK=>?_) (fun K hK=>?_)
  ·skip
   go_simp
   refine(HL.out _ (lX.out.trans (Us.out.mono lX.out.size))).mono ?_
   rintro e Ux ⟨rfl,mB⟩
   have Zv:Hid (Below w6.heap.size w6 Ux):=hid (Us.out.trans (mB.mono Us.out.size))
   clear mB
   refine hK.out _ _ (fun _=>iV.out _ Zv.out) ?_
   clear hK K
   refine aR (i:=12) (i':=13) zk rfl rfl (fun K hK=>?_) (fun K hK=>?_)
   ·skip
    go_simp
    obtain⟨gS,hw3⟩:∃x,x=Ux.alloc (.cells #[int i64 0,int i64 0,int i64 0] 85):=⟨_,rfl⟩
    rw[← hw3]
    have rv:Hid (Below w6.heap.size w6 gS):=hid (by rw[hw3];exact Zv.out.alloc Zv.out.size _)
    have Ye:Hid (Whole gS Ux.heap.size 85 #[int i64 0,int i64 0,int i64 0]):=hid (by rw[hw3];exact Whole.new _ _ _)
    have nj:w6.heap.size≤Ux.heap.size:=Zv.out.size
    clear hw3
    refine hK.out _ _ (fun _=>iV.out _ rv.out) ?_
    clear hK K
    refine aY 13 fun K hK=>?_
    go_simp
    obtain⟨Fl,hw4⟩:∃x,x=gS.alloc (.cells #[int i64 0,int i64 0,int i64 0] 85):=⟨_,rfl⟩
    rw[← hw4]
    have vr:Hid (Below w6.heap.size w6 Fl):=hid (by rw[hw4];exact rv.out.alloc rv.out.size _)
    have ir:Hid (Whole Fl gS.heap.size 85 #[int i64 0,int i64 0,int i64 0]):=hid (by rw[hw4];exact Whole.new _ _ _)
    have hge4:w6.heap.size≤gS.heap.size:=rv.out.size
    have aaf:=Ye.out.lt
    have PZ:=hid (show Whole Fl _ _ _ by rw[hw4];exact Ye.out.alloc _)
    clear hw4
    refine hK.out _ _ (fun _=>iV.out _ vr.out) ?_
    clear hK K
    have c13:=PZ.out.cell
    have f13:=PZ.out.thaw
    refine aY 14 fun K hK=>?_
    go_simp
    refine hK.out _ _ (fun _=>iV.out _ (aB vr.out nj)) ?_
    clear hK K
    have g14:=hid ((ir.out.bP (x:=int i64 (S 0)) (y:=int i64 (S 1)) (z:=int i64 (S 2)) (B:=Ux.heap.size) zo))
    have c14:=g14.out.cell
    have f14:=g14.out.thaw
    clear c13 f13
    refine aY 15 fun K hK=>?_
    go_simp
    refine hK.out _ _ (fun h=>absurd rfl h) ?_
    clear hK K c14 f14
    refine aG zk ?_ _
    exact Rest.out Ux.heap.size gS.heap.size _ (aB (aB vr.out nj) hge4) (PZ.out.iE.bP zo) g14.out.iE
   ·skip
    go_simp
    obtain⟨fz,Em⟩:∃x,x=Ux.alloc (.cells #[int i64 0,int i64 0,int i64 0] 85):=⟨_,rfl⟩
    rw[← Em]
    have ry:Hid (Below w6.heap.size w6 fz):=hid (by rw[Em];exact Zv.out.alloc Zv.out.size _)
    have Yg:Hid (Whole fz Ux.heap.size 85 #[int i64 0,int i64 0,int i64 0]):=hid (by rw[Em];exact Whole.new _ _ _)
    have AG:w6.heap.size≤Ux.heap.size:=Zv.out.size
    clear Em
    refine hK.out _ _ (fun _=>iV.out _ ry.out) ?_
    clear hK K
    refine aY 12 fun K hK=>?_
    go_simp
    obtain⟨Fo,Pv⟩:∃x,x=fz.alloc (.cells #[int i64 0,int i64 0,int i64 0] 85):=⟨_,rfl⟩
    rw[← Pv]
    have vt:Hid (Below w6.heap.size w6 Fo):=hid (by rw[Pv];exact ry.out.alloc ry.out.size _)
    have P5:Hid (Whole Fo fz.heap.size 85 #[int i64 0,int i64 0,int i64 0]):=hid (by rw[Pv];exact Whole.new _ _ _)
    have ns:w6.heap.size≤fz.heap.size:=ry.out.size
    have aag:=Yg.out.lt
    have iu:=hid (show Whole Fo _ _ _ by rw[Pv];exact Yg.out.alloc _)
    clear Pv
    refine hK.out _ _ (fun _=>iV.out _ vt.out) ?_
    clear hK K
    have c13:=P5.out.cell
    have f13:=P5.out.thaw
    refine aY 14 fun K hK=>?_
    go_simp
    refine hK.out _ _ (fun _=>iV.out _ (aB vt.out ns)) ?_
    clear hK K
    have g14:=hid ((iu.out.bP (x:=int i64 (S 0)) (y:=int i64 (S 1)) (z:=int i64 (S 2)) (B:=fz.heap.size) zo))
    have c14:=g14.out.cell
    have f14:=g14.out.thaw
    clear c13 f13
    refine aY 15 fun K hK=>?_
    go_simp
    refine hK.out _ _ (fun h=>absurd rfl h) ?_
    clear hK K c14 f14
    refine aG zk ?_ _
    exact Rest.out fz.heap.size Ux.heap.size _ (aB (aB vt.out ns) AG) (P5.out.iE.bP zo) g14.out.iE
  ·skip
   go_simp
   obtain⟨ia,hw7⟩:∃x,x=Pf.alloc (.cells #[int i64 0,int i64 0,int i64 0] 85):=⟨_,rfl⟩
   rw[← hw7]
   have ZC:Hid (Below w6.heap.size w6 ia):=hid (by rw[hw7];exact Us.out.alloc Us.out.size _)
   have KH:Hid (Whole ia Pf.heap.size 85 #[int i64 0,int i64 0,int i64 0]):=hid (by rw[hw7];exact Whole.new _ _ _)
   have VD:w6.heap.size≤Pf.heap.size:=Us.out.size
   clear hw7
   refine hK.out _ _ (fun _=>iV.out _ ZC.out) ?_
   clear hK K
   refine aR (i:=11) (i':=13) zk rfl rfl (fun K hK=>?_) (fun K hK=>?_)
   ·skip
    go_simp
    refine(HL.out _ (lX.out.trans (ZC.out.mono lX.out.size))).mono ?_
    rintro e rh ⟨rfl,a8⟩
    have rB:Hid (Below w6.heap.size w6 rh):=hid (ZC.out.trans (a8.mono ZC.out.size))
    have Yf:=hid (KH.out.below a8 KH.out.lt)
    clear a8
    refine hK.out _ _ (fun _=>iV.out _ rB.out) ?_
    clear hK K
    refine aY 13 fun K hK=>?_
    go_simp
    obtain⟨Fs,ov⟩:∃x,x=rh.alloc (.cells #[int i64 0,int i64 0,int i64 0] 85):=⟨_,rfl⟩
    rw[← ov]
    have we:Hid (Below w6.heap.size w6 Fs):=hid (by rw[ov];exact rB.out.alloc rB.out.size _)
    have iv:Hid (Whole Fs rh.heap.size 85 #[int i64 0,int i64 0,int i64 0]):=hid (by rw[ov];exact Whole.new _ _ _)
    have AH:w6.heap.size≤rh.heap.size:=rB.out.size
    have aah:=Yf.out.lt
    have P6:=hid (show Whole Fs _ _ _ by rw[ov];exact Yf.out.alloc _)
    clear ov
    refine hK.out _ _ (fun _=>iV.out _ we.out) ?_
    clear hK K
    have c13:=P6.out.cell
    have f13:=P6.out.thaw
    refine aY 14 fun K hK=>?_
    go_simp
    refine hK.out _ _ (fun _=>iV.out _ (aB we.out VD)) ?_
    clear hK K
    have g14:=hid ((iv.out.bP (x:=int i64 (S 0)) (y:=int i64 (S 1)) (z:=int i64 (S 2)) (B:=Pf.heap.size) zo))
    have c14:=g14.out.cell
    have f14:=g14.out.thaw
    clear c13 f13
    refine aY 15 fun K hK=>?_
    go_simp
    refine hK.out _ _ (fun h=>absurd rfl h) ?_
    clear hK K c14 f14
    refine aG zk ?_ _
    exact Rest.out Pf.heap.size rh.heap.size _ (aB (aB we.out VD) AH) (P6.out.iE.bP zo) g14.out.iE
   ·skip
    go_simp
    obtain⟨fj,RF⟩:∃x,x=ia.alloc (.cells #[int i64 0,int i64 0,int i64 0] 85):=⟨_,rfl⟩
    rw[← RF]
    have UD:Hid (Below w6.heap.size w6 fj):=hid (by rw[RF];exact ZC.out.alloc ZC.out.size _)
    have P7:Hid (Whole fj ia.heap.size 85 #[int i64 0,int i64 0,int i64 0]):=hid (by rw[RF];exact Whole.new _ _ _)
    have m9:w6.heap.size≤ia.heap.size:=ZC.out.size
    have M':=KH.out.lt
    have PI:=hid (show Whole fj _ _ _ by rw[RF];exact KH.out.alloc _)
    clear RF
    refine hK.out _ _ (fun _=>iV.out _ UD.out) ?_
    clear hK K
    refine aY 11 fun K hK=>?_
    go_simp
    refine(HL.out _ (lX.out.trans (UD.out.mono lX.out.size))).mono ?_
    rintro e EE ⟨rfl,Lj⟩
    have Zq:Hid (Below w6.heap.size w6 EE):=hid (UD.out.trans (Lj.mono UD.out.size))
    have H6:=hid (PI.out.below Lj PI.out.lt)
    have Zb:=hid (P7.out.below Lj P7.out.lt)
    clear Lj
    refine hK.out _ _ (fun _=>iV.out _ Zq.out) ?_
    clear hK K
    have c13:=H6.out.cell
    have f13:=H6.out.thaw
    refine aY 14 fun K hK=>?_
    go_simp
    refine hK.out _ _ (fun _=>iV.out _ (aB Zq.out VD)) ?_
    clear hK K
    have g14:=hid ((Zb.out.bP (x:=int i64 (S 0)) (y:=int i64 (S 1)) (z:=int i64 (S 2)) (B:=Pf.heap.size) zo))
    have c14:=g14.out.cell
    have f14:=g14.out.thaw
    clear c13 f13
    refine aY 15 fun K hK=>?_
    go_simp
    refine hK.out _ _ (fun h=>absurd rfl h) ?_
    clear hK K c14 f14
    refine aG zk ?_ _
    exact Rest.out Pf.heap.size ia.heap.size _ (aB (aB Zq.out VD) m9) (H6.out.iE.bP zo) g14.out.iE
  ·skip
   go_simp
   obtain⟨KE,VH⟩:∃x,x=Pf.alloc (.cells #[int i64 0,int i64 0,int i64 0] 85):=⟨_,rfl⟩
   rw[← VH]
   have Ik:Hid (Below w6.heap.size w6 KE):=hid (by rw[VH];exact Us.out.alloc Us.out.size _)
   have Cn:Hid (Whole KE Pf.heap.size 85 #[int i64 0,int i64 0,int i64 0]):=hid (by rw[VH];exact Whole.new _ _ _)
   have YI:w6.heap.size≤Pf.heap.size:=Us.out.size
   clear VH
   refine hK.out _ _ (fun _=>iV.out _ Ik.out) ?_
   clear hK K
   refine aR (i:=11) (i':=12) zk rfl rfl (fun K hK=>?_) (fun K hK=>?_)
   ·skip
    go_simp
    refine(HL.out _ (lX.out.trans (Ik.out.mono lX.out.size))).mono ?_
    rintro e Pg ⟨rfl,Rk⟩
    have UE:Hid (Below w6.heap.size w6 Pg):=hid (Ik.out.trans (Rk.mono Ik.out.size))
    have P8:=hid (Cn.out.below Rk Cn.out.lt)
    clear Rk
    refine hK.out _ _ (fun _=>iV.out _ UE.out) ?_
    clear hK K
    refine aY 12 fun K hK=>?_
    go_simp
    obtain⟨fl,RG⟩:∃x,x=Pg.alloc (.cells #[int i64 0,int i64 0,int i64 0] 85):=⟨_,rfl⟩
    rw[← RG]
    have Zt:Hid (Below w6.heap.size w6 fl):=hid (by rw[RG];exact UE.out.alloc UE.out.size _)
    have H7:Hid (Whole fl Pg.heap.size 85 #[int i64 0,int i64 0,int i64 0]):=hid (by rw[RG];exact Whole.new _ _ _)
    have YJ:w6.heap.size≤Pg.heap.size:=UE.out.size
    have Nd:=P8.out.lt
    have Zc:=hid (show Whole fl _ _ _ by rw[RG];exact P8.out.alloc _)
    clear RG
    refine hK.out _ _ (fun _=>iV.out _ Zt.out) ?_
    clear hK K
    have c13:=H7.out.cell
    have f13:=H7.out.thaw
    refine aY 14 fun K hK=>?_
    go_simp
    refine hK.out _ _ (fun _=>iV.out _ (aB Zt.out YJ)) ?_
    clear hK K
    have g14:=hid ((Zc.out.bP (x:=int i64 (S 0)) (y:=int i64 (S 1)) (z:=int i64 (S 2)) (B:=Pg.heap.size) zo))
    have c14:=g14.out.cell
    have f14:=g14.out.thaw
    clear c13 f13
    refine aY 15 fun K hK=>?_
    go_simp
    refine hK.out _ _ (fun h=>absurd rfl h) ?_
    clear hK K c14 f14
    refine aG zk ?_ _
    exact Rest.out Pg.heap.size Pf.heap.size _ (aB (aB Zt.out YJ) YI) (H7.out.iE.bP zo) g14.out.iE
   ·skip
    go_simp
    obtain⟨fo,RH⟩:∃x,x=KE.alloc (.cells #[int i64 0,int i64 0,int i64 0] 85):=⟨_,rfl⟩
    rw[← RH]
    have UF:Hid (Below w6.heap.size w6 fo):=hid (by rw[RH];exact Ik.out.alloc Ik.out.size _)
    have PK:Hid (Whole fo KE.heap.size 85 #[int i64 0,int i64 0,int i64 0]):=hid (by rw[RH];exact Whole.new _ _ _)
    have YK:w6.heap.size≤KE.heap.size:=Ik.out.size
    have Nm:=Cn.out.lt
    have P9:=hid (show Whole fo _ _ _ by rw[RH];exact Cn.out.alloc _)
    clear RH
    refine hK.out _ _ (fun _=>iV.out _ UF.out) ?_
    clear hK K
    refine aY 11 fun K hK=>?_
    go_simp
    refine(HL.out _ (lX.out.trans (UF.out.mono lX.out.size))).mono ?_
    rintro e EV ⟨rfl,Ll⟩
    have Zu:Hid (Below w6.heap.size w6 EV):=hid (UF.out.trans (Ll.mono UF.out.size))
    have H8:=hid (PK.out.below Ll PK.out.lt)
    have Zd:=hid (P9.out.below Ll P9.out.lt)
    clear Ll
    refine hK.out _ _ (fun _=>iV.out _ Zu.out) ?_
    clear hK K
    have c13:=H8.out.cell
    have f13:=H8.out.thaw
    refine aY 14 fun K hK=>?_
    go_simp
    refine hK.out _ _ (fun _=>iV.out _ (aB Zu.out YK)) ?_
    clear hK K
    have g14:=hid ((Zd.out.bP (x:=int i64 (S 0)) (y:=int i64 (S 1)) (z:=int i64 (S 2)) (B:=KE.heap.size) zo))
    have c14:=g14.out.cell
    have f14:=g14.out.thaw
    clear c13 f13
    refine aY 15 fun K hK=>?_
    go_simp
    refine hK.out _ _ (fun h=>absurd rfl h) ?_
    clear hK K c14 f14
    refine aG zk ?_ _
    exact Rest.out KE.heap.size Pf.heap.size _ (aB (aB Zu.out YK) YI) (H8.out.iE.bP zo) g14.out.iE
 ·skip
  go_simp
  obtain⟨Ph,VI⟩:∃x,x=w60.alloc (.cells #[int i64 0,int i64 0,int i64 0] 85):=⟨_,rfl⟩
  rw[← VI]
  have Il:Hid (Below w6.heap.size w6 Ph):=hid (by rw[VI];exact HB.out.alloc HB.out.size _)
  have Ck:Hid (Whole Ph w60.heap.size 85 #[int i64 0,int i64 0,int i64 0]):=hid (by rw[VI];exact Whole.new _ _ _)
  have Aw:w6.heap.size≤w60.heap.size:=HB.out.size
  clear VI
  refine hK.out _ _ (fun _=>iV.out _ Il.out) ?_
  clear hK K
  refine aR (i:=7) (i':=13) zk rfl rfl (fun K hK=>?_) (fun K hK=>?_)
  ·skip
   go_simp
   refine(HS.out _ (lX.out.trans (Il.out.mono lX.out.size))).mono ?_
   rintro e Ul ⟨rfl,Rm⟩
   have Im:Hid (Below w6.heap.size w6 Ul):=hid (Il.out.trans (Rm.mono Il.out.size))
   have Cm:=hid (Ck.out.below Rm Ck.out.lt)
   clear Rm
   refine hK.out _ _ (fun _=>iV.out _ Im.out) ?_
   clear hK K
   refine aR (i:=11) (i':=13) zk rfl rfl (fun K hK=>?_) (fun K hK=>?_)
   ·skip
    go_simp
    refine(HL.out _ (lX.out.trans (Im.out.mono lX.out.size))).mono ?_
    rintro e Um ⟨rfl,Ro⟩
    have UG:Hid (Below w6.heap.size w6 Um):=hid (Im.out.trans (Ro.mono Im.out.size))
    have PL:=hid (Cm.out.below Ro Cm.out.lt)
    clear Ro
    refine hK.out _ _ (fun _=>iV.out _ UG.out) ?_
    clear hK K
    refine aY 13 fun K hK=>?_
    go_simp
    obtain⟨fp,RI⟩:∃x,x=Um.alloc (.cells #[int i64 0,int i64 0,int i64 0] 85):=⟨_,rfl⟩
    rw[← RI]
    have Zw:Hid (Below w6.heap.size w6 fp):=hid (by rw[RI];exact UG.out.alloc UG.out.size _)
    have Ze:Hid (Whole fp Um.heap.size 85 #[int i64 0,int i64 0,int i64 0]):=hid (by rw[RI];exact Whole.new _ _ _)
    have na:w6.heap.size≤Um.heap.size:=UG.out.size
    have No:=PL.out.lt
    have H9:=hid (show Whole fp _ _ _ by rw[RI];exact PL.out.alloc _)
    clear RI
    refine hK.out _ _ (fun _=>iV.out _ Zw.out) ?_
    clear hK K
    have c13:=H9.out.cell
    have f13:=H9.out.thaw
    refine aY 14 fun K hK=>?_
    go_simp
    refine hK.out _ _ (fun _=>iV.out _ (aB Zw.out Aw)) ?_
    clear hK K
    have g14:=hid ((Ze.out.bP (x:=int i64 (S 0)) (y:=int i64 (S 1)) (z:=int i64 (S 2)) (B:=w60.heap.size) zo))
    have c14:=g14.out.cell
    have f14:=g14.out.thaw
    clear c13 f13
    refine aY 15 fun K hK=>?_
    go_simp
    refine hK.out _ _ (fun h=>absurd rfl h) ?_
    clear hK K c14 f14
    refine aG zk ?_ _
    exact Rest.out w60.heap.size Um.heap.size _ (aB (aB Zw.out Aw) na) (H9.out.iE.bP zo) g14.out.iE
   ·skip
    go_simp
    obtain⟨ft,Np⟩:∃x,x=Ul.alloc (.cells #[int i64 0,int i64 0,int i64 0] 85):=⟨_,rfl⟩
    rw[← Np]
    have UH:Hid (Below w6.heap.size w6 ft):=hid (by rw[Np];exact Im.out.alloc Im.out.size _)
    have Qa:Hid (Whole ft Ul.heap.size 85 #[int i64 0,int i64 0,int i64 0]):=hid (by rw[Np];exact Whole.new _ _ _)
    have nb:w6.heap.size≤Ul.heap.size:=Im.out.size
    have Nx:=Cm.out.lt
    have PN:=hid (show Whole ft _ _ _ by rw[Np];exact Cm.out.alloc _)
    clear Np
    refine hK.out _ _ (fun _=>iV.out _ UH.out) ?_
    clear hK K
    refine aY 11 fun K hK=>?_
    go_simp
    refine(HL.out _ (lX.out.trans (UH.out.mono lX.out.size))).mono ?_
    rintro e E0 ⟨rfl,Lm⟩
    have Zx:Hid (Below w6.heap.size w6 E0):=hid (UH.out.trans (Lm.mono UH.out.size))
    have Ia:=hid (PN.out.below Lm PN.out.lt)
    have Zf:=hid (Qa.out.below Lm Qa.out.lt)
    clear Lm
    refine hK.out _ _ (fun _=>iV.out _ Zx.out) ?_
    clear hK K
    have c13:=Ia.out.cell
    have f13:=Ia.out.thaw
    refine aY 14 fun K hK=>?_
    go_simp
    refine hK.out _ _ (fun _=>iV.out _ (aB Zx.out Aw)) ?_
    clear hK K
    have g14:=hid ((Zf.out.bP (x:=int i64 (S 0)) (y:=int i64 (S 1)) (z:=int i64 (S 2)) (B:=w60.heap.size) zo))
    have c14:=g14.out.cell
    have f14:=g14.out.thaw
    clear c13 f13
    refine aY 15 fun K hK=>?_
    go_simp
    refine hK.out _ _ (fun h=>absurd rfl h) ?_
    clear hK K c14 f14
    refine aG zk ?_ _
    exact Rest.out w60.heap.size Ul.heap.size _ (aB (aB Zx.out Aw) nb) (Ia.out.iE.bP zo) g14.out.iE
  ·skip
   go_simp
   obtain⟨fv,RJ⟩:∃x,x=Ph.alloc (.cells #[int i64 0,int i64 0,int i64 0] 85):=⟨_,rfl⟩
   rw[← RJ]
   have UJ:Hid (Below w6.heap.size w6 fv):=hid (by rw[RJ];exact Il.out.alloc Il.out.size _)
   have Qb:Hid (Whole fv Ph.heap.size 85 #[int i64 0,int i64 0,int i64 0]):=hid (by rw[RJ];exact Whole.new _ _ _)
   have nh:w6.heap.size≤Ph.heap.size:=Il.out.size
   have NF:=Ck.out.lt
   have PO:=hid (show Whole fv _ _ _ by rw[RJ];exact Ck.out.alloc _)
   clear RJ
   refine hK.out _ _ (fun _=>iV.out _ UJ.out) ?_
   clear hK K
   refine aY 7 fun K hK=>?_
   go_simp
   refine(HS.out _ (lX.out.trans (UJ.out.mono lX.out.size))).mono ?_
   rintro e E3 ⟨rfl,Lp⟩
   have UK:Hid (Below w6.heap.size w6 E3):=hid (UJ.out.trans (Lp.mono UJ.out.size))
   have PU:=hid (PO.out.below Lp PO.out.lt)
   have Qc:=hid (Qb.out.below Lp Qb.out.lt)
   clear Lp
   refine hK.out _ _ (fun _=>iV.out _ UK.out) ?_
   clear hK K
   refine aY 11 fun K hK=>?_
   go_simp
   refine(HL.out _ (lX.out.trans (UK.out.mono lX.out.size))).mono ?_
   rintro e E6 ⟨rfl,Lr⟩
   have Zy:Hid (Below w6.heap.size w6 E6):=hid (UK.out.trans (Lr.mono UK.out.size))
   have Ib:=hid (PU.out.below Lr PU.out.lt)
   have Zg:=hid (Qc.out.below Lr Qc.out.lt)
   clear Lr
   refine hK.out _ _ (fun _=>iV.out _ Zy.out) ?_
   clear hK K
   have c13:=Ib.out.cell
   have f13:=Ib.out.thaw
   refine aY 14 fun K hK=>?_
   go_simp
   refine hK.out _ _ (fun _=>iV.out _ (aB Zy.out Aw)) ?_
   clear hK K
   have g14:=hid ((Zg.out.bP (x:=int i64 (S 0)) (y:=int i64 (S 1)) (z:=int i64 (S 2)) (B:=w60.heap.size) zo))
   have c14:=g14.out.cell
   have f14:=g14.out.thaw
   clear c13 f13
   refine aY 15 fun K hK=>?_
   go_simp
   refine hK.out _ _ (fun h=>absurd rfl h) ?_
   clear hK K c14 f14
   refine aG zk ?_ _
   exact Rest.out w60.heap.size Ph.heap.size _ (aB (aB Zy.out Aw) nh) (Ib.out.iE.bP zo) g14.out.iE
 ·skip
  go_simp
  obtain⟨KF,VJ⟩:∃x,x=w60.alloc (.cells #[int i64 0,int i64 0,int i64 0] 85):=⟨_,rfl⟩
  rw[← VJ]
  have Io:Hid (Below w6.heap.size w6 KF):=hid (by rw[VJ];exact HB.out.alloc HB.out.size _)
  have Co:Hid (Whole KF w60.heap.size 85 #[int i64 0,int i64 0,int i64 0]):=hid (by rw[VJ];exact Whole.new _ _ _)
  have Rx:w6.heap.size≤w60.heap.size:=HB.out.size
  clear VJ
  refine hK.out _ _ (fun _=>iV.out _ Io.out) ?_
  clear hK K
  refine aR (i:=7) (i':=12) zk rfl rfl (fun K hK=>?_) (fun K hK=>?_)
  ·skip
   go_simp
   refine(HS.out _ (lX.out.trans (Io.out.mono lX.out.size))).mono ?_
   rintro e Pj ⟨rfl,Rp⟩
   have Ip:Hid (Below w6.heap.size w6 Pj):=hid (Io.out.trans (Rp.mono Io.out.size))
   have Cq:=hid (Co.out.below Rp Co.out.lt)
   clear Rp
   refine hK.out _ _ (fun _=>iV.out _ Ip.out) ?_
   clear hK K
   refine aR (i:=11) (i':=12) zk rfl rfl (fun K hK=>?_) (fun K hK=>?_)
   ·skip
    go_simp
    refine(HL.out _ (lX.out.trans (Ip.out.mono lX.out.size))).mono ?_
    rintro e Pk ⟨rfl,Rq⟩
    have UL:Hid (Below w6.heap.size w6 Pk):=hid (Ip.out.trans (Rq.mono Ip.out.size))
    have Qd:=hid (Cq.out.below Rq Cq.out.lt)
    clear Rq
    refine hK.out _ _ (fun _=>iV.out _ UL.out) ?_
    clear hK K
    refine aY 12 fun K hK=>?_
    go_simp
    obtain⟨fw,RN⟩:∃x,x=Pk.alloc (.cells #[int i64 0,int i64 0,int i64 0] 85):=⟨_,rfl⟩
    rw[← RN]
    have Zz:Hid (Below w6.heap.size w6 fw):=hid (by rw[RN];exact UL.out.alloc UL.out.size _)
    have Ic:Hid (Whole fw Pk.heap.size 85 #[int i64 0,int i64 0,int i64 0]):=hid (by rw[RN];exact Whole.new _ _ _)
    have YL:w6.heap.size≤Pk.heap.size:=UL.out.size
    have NL:=Qd.out.lt
    have Zh:=hid (show Whole fw _ _ _ by rw[RN];exact Qd.out.alloc _)
    clear RN
    refine hK.out _ _ (fun _=>iV.out _ Zz.out) ?_
    clear hK K
    have c13:=Ic.out.cell
    have f13:=Ic.out.thaw
    refine aY 14 fun K hK=>?_
    go_simp
    refine hK.out _ _ (fun _=>iV.out _ (aB Zz.out YL)) ?_
    clear hK K
    have g14:=hid ((Zh.out.bP (x:=int i64 (S 0)) (y:=int i64 (S 1)) (z:=int i64 (S 2)) (B:=Pk.heap.size) zo))
    have c14:=g14.out.cell
    have f14:=g14.out.thaw
    clear c13 f13
    refine aY 15 fun K hK=>?_
    go_simp
    refine hK.out _ _ (fun h=>absurd rfl h) ?_
    clear hK K c14 f14
    refine aG zk ?_ _
    exact Rest.out Pk.heap.size w60.heap.size _ (aB (aB Zz.out YL) Rx) (Ic.out.iE.bP zo) g14.out.iE
   ·skip
    go_simp
    obtain⟨fx,RO⟩:∃x,x=Pj.alloc (.cells #[int i64 0,int i64 0,int i64 0] 85):=⟨_,rfl⟩
    rw[← RO]
    have UM:Hid (Below w6.heap.size w6 fx):=hid (by rw[RO];exact Ip.out.alloc Ip.out.size _)
    have PW:Hid (Whole fx Pj.heap.size 85 #[int i64 0,int i64 0,int i64 0]):=hid (by rw[RO];exact Whole.new _ _ _)
    have YM:w6.heap.size≤Pj.heap.size:=Ip.out.size
    have NN:=Cq.out.lt
    have Qe:=hid (show Whole fx _ _ _ by rw[RO];exact Cq.out.alloc _)
    clear RO
    refine hK.out _ _ (fun _=>iV.out _ UM.out) ?_
    clear hK K
    refine aY 11 fun K hK=>?_
    go_simp
    refine(HL.out _ (lX.out.trans (UM.out.mono lX.out.size))).mono ?_
    rintro e E7 ⟨rfl,Ls⟩
    have ZA:Hid (Below w6.heap.size w6 E7):=hid (UM.out.trans (Ls.mono UM.out.size))
    have Ie:=hid (PW.out.below Ls PW.out.lt)
    have Zi:=hid (Qe.out.below Ls Qe.out.lt)
    clear Ls
    refine hK.out _ _ (fun _=>iV.out _ ZA.out) ?_
    clear hK K
    have c13:=Ie.out.cell
    have f13:=Ie.out.thaw
    refine aY 14 fun K hK=>?_
    go_simp
    refine hK.out _ _ (fun _=>iV.out _ (aB ZA.out YM)) ?_
    clear hK K
    have g14:=hid ((Zi.out.bP (x:=int i64 (S 0)) (y:=int i64 (S 1)) (z:=int i64 (S 2)) (B:=Pj.heap.size) zo))
    have c14:=g14.out.cell
    have f14:=g14.out.thaw
    clear c13 f13
    refine aY 15 fun K hK=>?_
    go_simp
    refine hK.out _ _ (fun h=>absurd rfl h) ?_
    clear hK K c14 f14
    refine aG zk ?_ _
    exact Rest.out Pj.heap.size w60.heap.size _ (aB (aB ZA.out YM) Rx) (Ie.out.iE.bP zo) g14.out.iE
  ·skip
   go_simp
   obtain⟨fy,hw32⟩:∃x,x=KF.alloc (.cells #[int i64 0,int i64 0,int i64 0] 85):=⟨_,rfl⟩
   rw[← hw32]
   have UN:Hid (Below w6.heap.size w6 fy):=hid (by rw[hw32];exact Io.out.alloc Io.out.size _)
   have PX:Hid (Whole fy KF.heap.size 85 #[int i64 0,int i64 0,int i64 0]):=hid (by rw[hw32];exact Whole.new _ _ _)
   have YN:w6.heap.size≤KF.heap.size:=Io.out.size
   have hne32:=Co.out.lt
   have Qf:=hid (show Whole fy _ _ _ by rw[hw32];exact Co.out.alloc _)
   clear hw32
   refine hK.out _ _ (fun _=>iV.out _ UN.out) ?_
   clear hK K
   refine aY 7 fun K hK=>?_
   go_simp
   refine(HS.out _ (lX.out.trans (UN.out.mono lX.out.size))).mono ?_
   rintro e Ff ⟨rfl,Lu⟩
   have UO:Hid (Below w6.heap.size w6 Ff):=hid (UN.out.trans (Lu.mono UN.out.size))
   have PY:=hid (PX.out.below Lu PX.out.lt)
   have Qg:=hid (Qf.out.below Lu Qf.out.lt)
   clear Lu
   refine hK.out _ _ (fun _=>iV.out _ UO.out) ?_
   clear hK K
   refine aY 11 fun K hK=>?_
   go_simp
   refine(HL.out _ (lX.out.trans (UO.out.mono lX.out.size))).mono ?_
   rintro e Fi ⟨rfl,Lx⟩
   have ZB:Hid (Below w6.heap.size w6 Fi):=hid (UO.out.trans (Lx.mono UO.out.size))
   have Ig:=hid (PY.out.below Lx PY.out.lt)
   have Zj:=hid (Qg.out.below Lx Qg.out.lt)
   clear Lx
   refine hK.out _ _ (fun _=>iV.out _ ZB.out) ?_
   clear hK K
   have c13:=Ig.out.cell
   have f13:=Ig.out.thaw
   refine aY 14 fun K hK=>?_
   go_simp
   refine hK.out _ _ (fun _=>iV.out _ (aB ZB.out YN)) ?_
   clear hK K
   have g14:=hid ((Zj.out.bP (x:=int i64 (S 0)) (y:=int i64 (S 1)) (z:=int i64 (S 2)) (B:=KF.heap.size) zo))
   have c14:=g14.out.cell
   have f14:=g14.out.thaw
   clear c13 f13
   refine aY 15 fun K hK=>?_
   go_simp
   refine hK.out _ _ (fun h=>absurd rfl h) ?_
   clear hK K c14 f14
   refine aG zk ?_ _
   exact Rest.out KF.heap.size w60.heap.size _ (aB (aB ZB.out YN) Rx) (Ig.out.iE.bP zo) g14.out.iE
end
end Go.Proofs.YthaelabgfnnebaaGreat
