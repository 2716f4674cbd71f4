/- P23 TH0 TH1 WKc EXi AL CD HJ CL -/
import Derived.Test.YtpmafoalhnaokaaGreatC4
import Derived.Conc.LoneCalls
set_option maxRecDepth 100000
set_option maxHeartbeats 16000000
set_option linter.unusedVariables false
set_option linter.unusedSectionVars false
open Go.IntKind(i64)
open Go.Lib(hid)
open Go.Proofs.Tryz
open Go.Value(int)
namespace Go.Proofs.YtpmafoalhnaokaaGreat
section
open Go.RowKit Go.Sort
theorem mS:Xy:=by
 intro b l1 l2 l3 w ok hcap hp h A1 A2 A3 p1 p2 p3 i1 i2 i3
 have po:=NH ok hp
 have h0:∀x∈l3,0≤x:=fun x hx=>(po.2.1 x hx).1
 have hO:=yw b l1 l2 l3 w h ok hcap hp A1 A2 A3 p1 p2 p3 i1 i2 i3
 have hO2:∀W,Below W.heap.size W W:=fun W=>zB
 have hO3:∀w',Below w.heap.size w w'→CallsIn FF 0 prog 46 #[b.val,.slice A1 l1.length p1,.slice A2 l2.length p2,.slice A3 l3.length p3] w' fun e w2=>∃A n p,e=.returned (.tuple #[b.iz A n p,(iK l1 l2 l3).val,int i64 0])∧Below w'.heap.size w' w2:=fun w' hb=>
  yw b l1 l2 l3 w' ((h.below hb).more hb.size) ok hcap hp A1 A2 A3 p1 p2 p3 (bG i1 hb) (bG i2 hb) (bG i3 hb)
 have hS:∀w',Below w.heap.size w w'→CallsIn FF 0 prog 47 #[b.val,(iK l1 l2 l3).val,int i64 b.dY] w' fun e w2=>e=.returned (mD (stk b (iK l1 l2 l3) b.dY b.nm))∧Below w'.heap.size w' w2:=fun w' hb=>
  gJ b (iK l1 l2 l3) b.dY w' ((h.below hb).more hb.size) ok.moves ok.bX.1.2 po.1
 have hL:∀w',Below w.heap.size w w'→CallsIn FF 0 prog 48 #[b.val,(iK l1 l2 l3).val] w' fun e w2=>e=.returned (mD (EN b (iK l1 l2 l3) (b.dY.toNat+1)))∧Below w'.heap.size w' w2:=fun w' hb=>
  AI b (iK l1 l2 l3) w' ((h.below hb).more hb.size) ok.moves ok.dY ok.bX.1.2 po.1
 have eS:∀q,stk b (iK l1 l2 l3) b.dY b.nm q=EH b l1 l2 l3 q:=fun q=>I9 b l1 l2 l3 h0 b.dY q
 have eL:∀q,EN b (iK l1 l2 l3) (b.dY.toNat+1) q=Nv b l1 l2 l3 q:=fun q=>Iq b l1 l2 l3 h0 q _
 unfold F4
 simp only[← eS,← eL]
 clear eS eL hO hO2 h0
 obtain⟨S,hSd⟩:∃S,S=stk b (iK l1 l2 l3) b.dY b.nm:=zE
 obtain⟨L,hLd⟩:∃L,L=EN b (iK l1 l2 l3) (b.dY.toNat+1):=zE
 rw[← hSd] at hS⊢
 rw[← hLd] at hL⊢
 obtain⟨n1,hn1⟩:∃n1,n1=l1.length:=zE
 obtain⟨n2,hn2⟩:∃n2,n2=l2.length:=zE
 obtain⟨n3,Rw⟩:∃n3,n3=l3.length:=zE
 rw[← hn1,← hn2,← Rw] at hO3⊢
 obtain⟨ht,hht⟩:∃ht,ht=iK l1 l2 l3:=zE
 rw[← hht] at hO3 hS hL
 have wm:=ok.bX.1
 clear hn1 hn2 Rw hht i1 i2 i3 po hp ok h hcap hSd hLd
 obtain⟨dY,mO,gA,ng,gc,g,mA,nm,mc,m,cA,nc,cc,c⟩:=b
 obtain⟨hf,hmm,lies⟩:=ht
 simp only at wm
 have vf:∀w',Below w.heap.size w w'→CallsIn FF 0 prog 46 #[.agg #[int i64 dY,int i64 mO,.slice gA ng gc,.slice mA nm mc,.slice cA nc cc],.slice A1 n1 p1,.slice A2 n2 p2,.slice A3 n3 p3] w' fun e w2=>∃A n p,e=.returned (.tuple #[.agg #[int i64 dY,int i64 mO,.slice gA ng gc,.slice mA nm mc,.slice cA nc cc,.slice A n p],.agg #[int i64 (hf 0),int i64 (hf 1),int i64 (hf 2),int i64 (hmm 0),int i64 (hmm 1),int i64 (hmm 2),int i64 (hmm 3),int i64 (hmm 4),int i64 (hmm 5),int i64 lies],int i64 0])∧Below w'.heap.size w' w2:=hO3
 simp only[Bk.val,Bk.cells,Ht.val,Ht.cells,mD] at hS hL⊢
 have HS:=hid hS
 have HL:=hid hL
 have HO:=hid vf
 clear hS hL hO3 vf
 have VB:Hid (Below w.heap.size w (w.alloc (.cells #[int i64 dY,int i64 mO,.slice gA ng gc,.slice mA nm mc,.slice cA nc cc] 26))):=hid (bw)
 gi_enter func18,ntmps18
 gi_wp2_with (gi_at_call 46;refine(HO.out _ VB.out).mono ?_;rintro e w5 ⟨A5,n5,p5,rfl,hb5⟩;have FX:=hid hb5;clear hb5;have hs5:=FX.out.size;have Ga:=hid ((Whole.new w5 75 #[int i64 dY,int i64 mO,.slice gA ng gc,.slice mA nm mc,.slice cA nc cc,.slice A5 n5 p5]).alloc (.cells #[int i64 (hf 0),int i64 (hf 1),int i64 (hf 2),int i64 (hmm 0),int i64 (hmm 1),int i64 (hmm 2),int i64 (hmm 3),int i64 (hmm 4),int i64 (hmm 5),int i64 lies] 91));have Xa:=hid (Whole.new (w5.alloc (.cells #[int i64 dY,int i64 mO,.slice gA ng gc,.slice mA nm mc,.slice cA nc cc,.slice A5 n5 p5] 75)) 91 #[int i64 (hf 0),int i64 (hf 1),int i64 (hf 2),int i64 (hmm 0),int i64 (hmm 1),int i64 (hmm 2),int i64 (hmm 3),int i64 (hmm 4),int i64 (hmm 5),int i64 lies]))
 obtain⟨w6,AJ⟩:∃w6,w6=(w5.alloc (.cells #[int i64 dY,int i64 mO,.slice gA ng gc,.slice mA nm mc,.slice cA nc cc,.slice A5 n5 p5] 75)).alloc (.cells #[int i64 (hf 0),int i64 (hf 1),int i64 (hf 2),int i64 (hmm 0),int i64 (hmm 1),int i64 (hmm 2),int i64 (hmm 3),int i64 (hmm 4),int i64 (hmm 5),int i64 lies] 91):=zE
 have JV:Hid (Whole w6 w5.heap.size 75 #[int i64 dY,int i64 mO,.slice gA ng gc,.slice mA nm mc,.slice cA nc cc,.slice A5 n5 p5]):=hid (by rw[AJ];exact Ga.out)
 have xg:Hid (Whole w6 (w5.heap.size+1) 91 #[int i64 (hf 0),int i64 (hf 1),int i64 (hf 2),int i64 (hmm 0),int i64 (hmm 1),int i64 (hmm 2),int i64 (hmm 3),int i64 (hmm 4),int i64 (hmm 5),int i64 lies]):=hid (by have:=Xa.out;rw[World.size_alloc] at this;rw[AJ];exact this)
 have lJ:Hid (Below w.heap.size w w6):=hid (by
  rw[AJ]
  exact((VB.out.trans (FX.out.mono VB.out.size)).alloc (by have:=VB.out.size;omega) _).alloc (by have:=VB.out.size;simp;omega) _)
 have hs6:w6.heap.size=w5.heap.size+2:=by rw[AJ];simp
 rw[← AJ]
 clear AJ Ga Xa
 gi_wp2
 rename_i Qr Kr hKr
 have rest:∀ (IF IH:Nat) (wz:World),Below w6.heap.size w6 wz→Whole wz IF 88 #[int i64 (S 0),int i64 (S 1),int i64 (S 2)]→Whole wz IH 88 #[int i64 (L 0),int i64 (L 1),int i64 (L 2)]→Kr {tmps:=#[Value.agg #[int i64 dY,int i64 mO,.slice gA ng gc,.slice mA nm mc,.slice cA nc cc],.slice A1 n1 p1,.slice A2 n2 p2,.slice A3 n3 p3,.pointer (some ⟨w.heap.size,0,none⟩),undef,undef,undef,.slice none 0 0,.slice none 0 0,int i64 0,Value.pointer (some ⟨w5.heap.size,0,none⟩),.pointer (some ⟨w5.heap.size+1,0,none⟩),.pointer (some ⟨IF,0,none⟩),.pointer (some ⟨IH,0,none⟩),undef,Value.tuple #[Value.agg #[int i64 dY,int i64 mO,.slice gA ng gc,.slice mA nm mc,.slice cA nc cc,.slice A5 n5 p5],Value.agg #[int i64 (hf 0),int i64 (hf 1),int i64 (hf 2),int i64 (hmm 0),int i64 (hmm 1),int i64 (hmm 2),int i64 (hmm 3),int i64 (hmm 4),int i64 (hmm 5),int i64 lies],int i64 0],Value.agg #[int i64 dY,int i64 mO,.slice gA ng gc,.slice mA nm mc,.slice cA nc cc],.slice A1 n1 p1,.slice A2 n2 p2,.slice A3 n3 p3,Value.tuple #[Value.agg #[int i64 dY,int i64 mO,.slice gA ng gc,.slice mA nm mc,.slice cA nc cc,.slice A5 n5 p5],Value.agg #[int i64 (hf 0),int i64 (hf 1),int i64 (hf 2),int i64 (hmm 0),int i64 (hmm 1),int i64 (hmm 2),int i64 (hmm 3),int i64 (hmm 4),int i64 (hmm 5),int i64 lies],int i64 0],Value.agg #[int i64 dY,int i64 mO,.slice gA ng gc,.slice mA nm mc,.slice cA nc cc,.slice A5 n5 p5],Value.agg #[int i64 (hf 0),int i64 (hf 1),int i64 (hf 2),int i64 (hmm 0),int i64 (hmm 1),int i64 (hmm 2),int i64 (hmm 3),int i64 (hmm 4),int i64 (hmm 5),int i64 lies],int i64 0,int i64 0,.bool false,undef,Value.pointer (some ⟨w5.heap.size,0,none⟩),Value.agg #[int i64 dY,int i64 mO,.slice gA ng gc,.slice mA nm mc,.slice cA nc cc],Value.agg #[int i64 (hf 0),int i64 (hf 1),int i64 (hf 2),int i64 (hmm 0),int i64 (hmm 1),int i64 (hmm 2),int i64 (hmm 3),int i64 (hmm 4),int i64 (hmm 5),int i64 lies],Value.pointer (some ⟨w5.heap.size,0,none⟩),Value.pointer (some ⟨w5.heap.size,0,none⟩),Value.pointer (some ⟨w5.heap.size,0,none⟩),int i64 dY,.agg #[int i64 (S 0),int i64 (S 1),int i64 (S 2)],Value.pointer (some ⟨w5.heap.size,0,none⟩),Value.agg #[int i64 dY,int i64 mO,.slice gA ng gc,.slice mA nm mc,.slice cA nc cc],Value.agg #[int i64 (hf 0),int i64 (hf 1),int i64 (hf 2),int i64 (hmm 0),int i64 (hmm 1),int i64 (hmm 2),int i64 (hmm 3),int i64 (hmm 4),int i64 (hmm 5),int i64 lies],.agg #[int i64 (L 0),int i64 (L 1),int i64 (L 2)],undef,undef,undef,undef,undef,undef,undef,undef,undef,undef,undef],defers:=[] } wz:=by
  intro IF IH wz hbz h13 h14
  refine hKr _ _ ?_
  have Fs:=hid (JV.out.below hbz JV.out.lt)
  have uV:Hid (Below w.heap.size w wz):=hid (lJ.out.trans (hbz.mono lJ.out.size))
  have y:∀i,wz.cell? ⟨w5.heap.size,i,none⟩=(#[int i64 dY,int i64 mO,.slice gA ng gc,.slice mA nm mc,.slice cA nc cc,.slice A5 n5 p5]:Array Value)[i]?:=Fs.out.cell
  have MA:=hid h13
  have MD:=hid h14
  clear hKr hbz h13 h14
  have Rw:(ng:Int)≤3:=zo
  have hn0:(0:Int)≤(ng:Int):=zo
  gi_wp2
  refine iW 8 (fun _=>True) zk ?_
  have hS:True:=trivial
  have hB1:Below w.heap.size w wz.drew:=dD uV.out
  have tG:=hid (show Whole wz.drew _ _ _ from MA.out)
  have qf:=hid (show Whole wz.drew _ _ _ from MD.out)
  obtain⟨wd,hwd⟩:∃wd,wd=wz.drew:=zE
  rw[← hwd] at tG qf hB1⊢
  refine BS (i:=0) (some 45) hS ?_
  simp only[Act.put,List.setIfInBounds_toArray,List.set]
  refine BS (i:=1) (some 46) hS ?_
  simp only[Act.put,List.setIfInBounds_toArray,List.set]
  refine BS (i:=3) (some 48) hS ?_
  simp only[Act.put,List.setIfInBounds_toArray,List.set]
  refine BS (i:=4) (some 49) hS ?_
  simp only[Act.put,List.setIfInBounds_toArray,List.set]
  clear hwd
  have ints:∀ (wq:World) (B:Nat) (f:Nat→Int),Whole wq B 88 #[int i64 (f 0),int i64 (f 1),int i64 (f 2)]→Ints wq wq.heap.size (some ⟨B,0,none⟩) ng f:=fun wq B f hW hn=>by
   refine⟨_,rfl,hW.lt,fun i j hi hj=>?_⟩
   obtain rfl:j=0:=zo
   have e:((⟨B,0,none⟩:Addr).add (i * 1+0))=⟨B,i,none⟩:=by unfold Addr.add;split <;> simp_all
   rw[e,hW.cell]
   rcases(show i=0∨i=1∨i=2 by omega) with rfl|rfl|rfl <;> rfl
  refine aZ 2 fun K hK=>?_
  go_simp
  refine(MP S _ ng 3 _ (ints _ _ _ tG.out) zo zo).mono ?_
  rintro e w1 ⟨E1,f1,rfl,hI1,hb1⟩
  have HI1:=hid hI1
  have HBa:Hid (Below w.heap.size w w1):=hid (hB1.trans (hb1.mono hB1.size))
  have NX:=hid (qf.out.below hb1 qf.out.lt)
  clear hI1 hb1 hB1
  refine hK.out _ _ (fun _=>hS) ?_
  clear hK K
  refine aZ 5 fun K hK=>?_
  go_simp
  refine(MP L _ ng 3 _ (ints _ _ _ NX.out) zo zo).mono ?_
  rintro e w2 ⟨E2,f2,rfl,hI2,hb2⟩
  have HI2:=hid hI2
  have Lz:=hid (bG HI1.out hb2)
  have HBb:Hid (Below w.heap.size w w2):=hid (HBa.out.trans (hb2.mono HBa.out.size))
  clear hI2 hb2
  refine hK.out _ _ (fun _=>hS) ?_
  clear hK K
  refine aZ 6 fun K hK=>?_
  go_simp
  refine hK.out _ _ (fun _=>hS) ?_
  clear hK K
  refine aZ 7 fun K hK=>?_
  go_simp
  refine hK.out _ _ (fun _=>hS) ?_
  clear hK K
  refine aZ 8 fun K hK=>?_
  go_simp
  refine hK.out _ _ (fun h=>absurd rfl h) ?_
  clear hK K
  refine aG zk ?_ _
  gi_wp2
  refine bodyPost_ret (v:=.tuple #[.slice E1 ng f1,.slice E2 ng f2,int i64 0]) (by simp[results,results18,go_sem]) rfl ⟨E1,f1,E2,f2,rfl,Lz.out,HI2.out,HBb.out⟩
 have Rest:=hid rest
 clear rest hKr
 obtain⟨w60,h60⟩:∃w60,w60=w6.drew:=zE
 have Na:∀w',Below w6.heap.size w6 w'→(w'.cell? ⟨w5.heap.size,0,none⟩=some (int i64 dY)∧w'.cell? ⟨w5.heap.size,1,none⟩=some (int i64 mO)∧w'.cell? ⟨w5.heap.size,2,none⟩=some (.slice gA ng gc)∧w'.cell? ⟨w5.heap.size,3,none⟩=some (.slice mA nm mc)∧w'.cell? ⟨w5.heap.size,4,none⟩=some (.slice cA nc cc)∧w'.cell? ⟨w5.heap.size+1,0,none⟩=some (int i64 (hf 0))∧w'.cell? ⟨w5.heap.size+1,1,none⟩=some (int i64 (hf 1))∧w'.cell? ⟨w5.heap.size+1,2,none⟩=some (int i64 (hf 2))∧w'.cell? ⟨w5.heap.size+1,3,none⟩=some (int i64 (hmm 0))∧w'.cell? ⟨w5.heap.size+1,4,none⟩=some (int i64 (hmm 1))∧w'.cell? ⟨w5.heap.size+1,5,none⟩=some (int i64 (hmm 2))∧w'.cell? ⟨w5.heap.size+1,6,none⟩=some (int i64 (hmm 3))∧w'.cell? ⟨w5.heap.size+1,7,none⟩=some (int i64 (hmm 4))∧w'.cell? ⟨w5.heap.size+1,8,none⟩=some (int i64 (hmm 5))∧w'.cell? ⟨w5.heap.size+1,9,none⟩=some (int i64 lies)):=fun w' hb=>
  ⟨(JV.out.below hb JV.out.lt).cell 0,(JV.out.below hb JV.out.lt).cell 1,(JV.out.below hb JV.out.lt).cell 2,(JV.out.below hb JV.out.lt).cell 3,(JV.out.below hb JV.out.lt).cell 4,(xg.out.below hb xg.out.lt).cell 0,(xg.out.below hb xg.out.lt).cell 1,(xg.out.below hb xg.out.lt).cell 2,(xg.out.below hb xg.out.lt).cell 3,(xg.out.below hb xg.out.lt).cell 4,(xg.out.below hb xg.out.lt).cell 5,(xg.out.below hb xg.out.lt).cell 6,(xg.out.below hb xg.out.lt).cell 7,(xg.out.below hb xg.out.lt).cell 8,(xg.out.below hb xg.out.lt).cell 9⟩
 have fT:=hid Na
 clear Na
 refine iW 15 (fun w'=>w'.cell? ⟨w5.heap.size,0,none⟩=some (int i64 dY)∧w'.cell? ⟨w5.heap.size,1,none⟩=some (int i64 mO)∧w'.cell? ⟨w5.heap.size,2,none⟩=some (.slice gA ng gc)∧w'.cell? ⟨w5.heap.size,3,none⟩=some (.slice mA nm mc)∧w'.cell? ⟨w5.heap.size,4,none⟩=some (.slice cA nc cc)∧w'.cell? ⟨w5.heap.size+1,0,none⟩=some (int i64 (hf 0))∧w'.cell? ⟨w5.heap.size+1,1,none⟩=some (int i64 (hf 1))∧w'.cell? ⟨w5.heap.size+1,2,none⟩=some (int i64 (hf 2))∧w'.cell? ⟨w5.heap.size+1,3,none⟩=some (int i64 (hmm 0))∧w'.cell? ⟨w5.heap.size+1,4,none⟩=some (int i64 (hmm 1))∧w'.cell? ⟨w5.heap.size+1,5,none⟩=some (int i64 (hmm 2))∧w'.cell? ⟨w5.heap.size+1,6,none⟩=some (int i64 (hmm 3))∧w'.cell? ⟨w5.heap.size+1,7,none⟩=some (int i64 (hmm 4))∧w'.cell? ⟨w5.heap.size+1,8,none⟩=some (int i64 (hmm 5))∧w'.cell? ⟨w5.heap.size+1,9,none⟩=some (int i64 lies)) zk ?_
 rw[← h60]
 have HB:Hid (Below w6.heap.size w6 w60):=hid (by rw[h60];exact dD zB)
 clear h60
 have hS:=fT.out w60 HB.out
 refine BS (i:=0) (some 28) hS ?_
 simp only[Act.put,List.setIfInBounds_toArray,List.set]
 refine BS (i:=1) (some 29) hS ?_
 simp only[Act.put,List.setIfInBounds_toArray,List.set]
 refine BS (i:=2) (some 30) hS ?_
 simp only[Act.put,List.setIfInBounds_toArray,List.set]
 refine BS (i:=3) (some 31) hS ?_
 simp only[Act.put,List.setIfInBounds_toArray,List.set]
 refine BS (i:=4) (some 32) hS ?_
 simp only[Act.put,List.setIfInBounds_toArray,List.set]
 refine BS (i:=5) (some 33) hS ?_
 simp only[Act.put,List.setIfInBounds_toArray,List.set]
 refine BS (i:=6) (some 34) hS ?_
 simp only[Act.put,List.setIfInBounds_toArray,List.set]
 refine BS (i:=8) (some 36) hS ?_
 simp only[Act.put,List.setIfInBounds_toArray,List.set]
 refine BS (i:=9) (some 37) hS ?_
 simp only[Act.put,List.setIfInBounds_toArray,List.set]
 refine BS (i:=10) (some 38) hS ?_
 simp only[Act.put,List.setIfInBounds_toArray,List.set]
 clear hS
 refine oJ (i:=7) (i':=12) (i2:=13) zk rfl rfl rfl (fun K hK=>?_) (fun K hK=>?_) (fun K hK=>?_)
 ·skip
  go_simp
  refine(HS.out _ (lJ.out.trans (HB.out.mono lJ.out.size))).mono ?_
  rintro e Rj ⟨rfl,we⟩
  have WX:Hid (Below w6.heap.size w6 Rj):=hid (HB.out.trans (we.mono HB.out.size))
  clear we
  refine hK.out _ _ (fun _=>fT.out _ WX.out) ?_
  clear hK K
  refine oJ (i:=11) (i':=12) (i2:=13) zk rfl rfl rfl (fun K hK=>?_) (fun K hK=>?_) (fun K hK=>?_)
  ·skip
   go_simp
   refine(HL.out _ (lJ.out.trans (WX.out.mono lJ.out.size))).mono ?_
   rintro e Xc ⟨rfl,wi⟩
   have ga:Hid (Below w6.heap.size w6 Xc):=hid (WX.out.trans (wi.mono WX.out.size))
   clear wi
   refine hK.out _ _ (fun _=>fT.out _ ga.out) ?_
   clear hK K
   refine aS (i:=12) (i':=13) zk rfl rfl (fun K hK=>?_) (fun K hK=>?_)
   ·skip
    go_simp
    obtain⟨rv,hw3⟩:∃x,x=Xc.alloc (.cells #[int i64 0,int i64 0,int i64 0] 88):=zE
    rw[← hw3]
    have EE:Hid (Below w6.heap.size w6 rv):=hid (by rw[hw3];exact ga.out.alloc ga.out.size _)
    have b8:Hid (Whole rv Xc.heap.size 88 #[int i64 0,int i64 0,int i64 0]):=hid (by rw[hw3];exact Whole.new _ _ _)
    have xv:w6.heap.size≤Xc.heap.size:=ga.out.size
    clear hw3
    refine hK.out _ _ (fun _=>fT.out _ EE.out) ?_
    clear hK K
    refine aZ 13 fun K hK=>?_
    go_simp
    obtain⟨wy4,hw4⟩:∃x,x=rv.alloc (.cells #[int i64 0,int i64 0,int i64 0] 88):=zE
    rw[← hw4]
    have MM:Hid (Below w6.heap.size w6 wy4):=hid (by rw[hw4];exact EE.out.alloc EE.out.size _)
    have si:Hid (Whole wy4 rv.heap.size 88 #[int i64 0,int i64 0,int i64 0]):=hid (by rw[hw4];exact Whole.new _ _ _)
    have hge4:w6.heap.size≤rv.heap.size:=EE.out.size
    have aaK:=b8.out.lt
    have RX:=hid (show Whole wy4 _ _ _ by rw[hw4];exact b8.out.alloc _)
    clear hw4
    refine hK.out _ _ (fun _=>fT.out _ MM.out) ?_
    clear hK K
    have c13:=RX.out.cell
    have f13:=RX.out.thaw
    refine aZ 14 fun K hK=>?_
    go_simp
    refine hK.out _ _ (fun _=>fT.out _ (aC MM.out xv)) ?_
    clear hK K
    have g14:=hid ((si.out.bQ (x:=int i64 (S 0)) (y:=int i64 (S 1)) (z:=int i64 (S 2)) (B:=Xc.heap.size) zo))
    have c14:=g14.out.cell
    have f14:=g14.out.thaw
    clear c13 f13
    refine aZ 15 fun K hK=>?_
    go_simp
    refine hK.out _ _ (fun h=>absurd rfl h) ?_
    clear hK K c14 f14
    refine aG zk ?_ _
    exact Rest.out Xc.heap.size rv.heap.size _ (aC (aC MM.out xv) hge4) (RX.out.iP.bQ zo) g14.out.iP
   ·skip
    go_simp
    obtain⟨py,FR⟩:∃x,x=Xc.alloc (.cells #[int i64 0,int i64 0,int i64 0] 88):=zE
    rw[← FR]
    have EV:Hid (Below w6.heap.size w6 py):=hid (by rw[FR];exact ga.out.alloc ga.out.size _)
    have ca:Hid (Whole py Xc.heap.size 88 #[int i64 0,int i64 0,int i64 0]):=hid (by rw[FR];exact Whole.new _ _ _)
    have SM:w6.heap.size≤Xc.heap.size:=ga.out.size
    clear FR
    refine hK.out _ _ (fun _=>fT.out _ EV.out) ?_
    clear hK K
    refine aZ 12 fun K hK=>?_
    go_simp
    obtain⟨wy6,AJ⟩:∃x,x=py.alloc (.cells #[int i64 0,int i64 0,int i64 0] 88):=zE
    rw[← AJ]
    have MT:Hid (Below w6.heap.size w6 wy6):=hid (by rw[AJ];exact EV.out.alloc EV.out.size _)
    have RY:Hid (Whole wy6 py.heap.size 88 #[int i64 0,int i64 0,int i64 0]):=hid (by rw[AJ];exact Whole.new _ _ _)
    have xx:w6.heap.size≤py.heap.size:=EV.out.size
    have aaL:=ca.out.lt
    have sk:=hid (show Whole wy6 _ _ _ by rw[AJ];exact ca.out.alloc _)
    clear AJ
    refine hK.out _ _ (fun _=>fT.out _ MT.out) ?_
    clear hK K
    have c13:=RY.out.cell
    have f13:=RY.out.thaw
    refine aZ 14 fun K hK=>?_
    go_simp
    refine hK.out _ _ (fun _=>fT.out _ (aC MT.out xx)) ?_
    clear hK K
    have g14:=hid ((sk.out.bQ (x:=int i64 (S 0)) (y:=int i64 (S 1)) (z:=int i64 (S 2)) (B:=py.heap.size) zo))
    have c14:=g14.out.cell
    have f14:=g14.out.thaw
    clear c13 f13
    refine aZ 15 fun K hK=>?_
    go_simp
    refine hK.out _ _ (fun h=>absurd rfl h) ?_
    clear hK K c14 f14
    refine aG zk ?_ _
    exact Rest.out py.heap.size Xc.heap.size _ (aC (aC MT.out xx) SM) (RY.out.iP.bQ zo) g14.out.iP
  ·skip
   go_simp
   obtain⟨ry,hw7⟩:∃x,x=Rj.alloc (.cells #[int i64 0,int i64 0,int i64 0] 88):=zE
   rw[← hw7]
   have gp:Hid (Below w6.heap.size w6 ry):=hid (by rw[hw7];exact WX.out.alloc WX.out.size _)
   have MC:Hid (Whole ry Rj.heap.size 88 #[int i64 0,int i64 0,int i64 0]):=hid (by rw[hw7];exact Whole.new _ _ _)
   have Yk:w6.heap.size≤Rj.heap.size:=WX.out.size
   clear hw7
   refine hK.out _ _ (fun _=>fT.out _ gp.out) ?_
   clear hK K
   refine aS (i:=11) (i':=13) zk rfl rfl (fun K hK=>?_) (fun K hK=>?_)
   ·skip
    go_simp
    refine(HL.out _ (lJ.out.trans (gp.out.mono lJ.out.size))).mono ?_
    rintro e DS ⟨rfl,kp⟩
    have E0:Hid (Below w6.heap.size w6 DS):=hid (gp.out.trans (kp.mono gp.out.size))
    have b9:=hid (MC.out.below kp MC.out.lt)
    clear kp
    refine hK.out _ _ (fun _=>fT.out _ E0.out) ?_
    clear hK K
    refine aZ 13 fun K hK=>?_
    go_simp
    obtain⟨wy9,KR⟩:∃x,x=DS.alloc (.cells #[int i64 0,int i64 0,int i64 0] 88):=zE
    rw[← KR]
    have MY:Hid (Below w6.heap.size w6 wy9):=hid (by rw[KR];exact E0.out.alloc E0.out.size _)
    have sn:Hid (Whole wy9 DS.heap.size 88 #[int i64 0,int i64 0,int i64 0]):=hid (by rw[KR];exact Whole.new _ _ _)
    have SO:w6.heap.size≤DS.heap.size:=E0.out.size
    have aaM:=b9.out.lt
    have RZ:=hid (show Whole wy9 _ _ _ by rw[KR];exact b9.out.alloc _)
    clear KR
    refine hK.out _ _ (fun _=>fT.out _ MY.out) ?_
    clear hK K
    have c13:=RZ.out.cell
    have f13:=RZ.out.thaw
    refine aZ 14 fun K hK=>?_
    go_simp
    refine hK.out _ _ (fun _=>fT.out _ (aC MY.out Yk)) ?_
    clear hK K
    have g14:=hid ((sn.out.bQ (x:=int i64 (S 0)) (y:=int i64 (S 1)) (z:=int i64 (S 2)) (B:=Rj.heap.size) zo))
    have c14:=g14.out.cell
    have f14:=g14.out.thaw
    clear c13 f13
    refine aZ 15 fun K hK=>?_
    go_simp
    refine hK.out _ _ (fun h=>absurd rfl h) ?_
    clear hK K c14 f14
    refine aG zk ?_ _
    exact Rest.out Rj.heap.size DS.heap.size _ (aC (aC MY.out Yk) SO) (RZ.out.iP.bQ zo) g14.out.iP
   ·skip
    go_simp
    obtain⟨pd,Um⟩:∃x,x=ry.alloc (.cells #[int i64 0,int i64 0,int i64 0] 88):=zE
    rw[← Um]
    have Xl:Hid (Below w6.heap.size w6 pd):=hid (by rw[Um];exact gp.out.alloc gp.out.size _)
    have R7:Hid (Whole pd ry.heap.size 88 #[int i64 0,int i64 0,int i64 0]):=hid (by rw[Um];exact Whole.new _ _ _)
    have xn:w6.heap.size≤ry.heap.size:=gp.out.size
    have aaf:=MC.out.lt
    have RI:=hid (show Whole pd _ _ _ by rw[Um];exact MC.out.alloc _)
    clear Um
    refine hK.out _ _ (fun _=>fT.out _ Xl.out) ?_
    clear hK K
    refine aZ 11 fun K hK=>?_
    go_simp
    refine(HL.out _ (lJ.out.trans (Xl.out.mono lJ.out.size))).mono ?_
    rintro e Y' ⟨rfl,Ng⟩
    have fW:Hid (Below w6.heap.size w6 Y'):=hid (Xl.out.trans (Ng.mono Xl.out.size))
    have JA:=hid (RI.out.below Ng RI.out.lt)
    have fg:=hid (R7.out.below Ng R7.out.lt)
    clear Ng
    refine hK.out _ _ (fun _=>fT.out _ fW.out) ?_
    clear hK K
    have c13:=JA.out.cell
    have f13:=JA.out.thaw
    refine aZ 14 fun K hK=>?_
    go_simp
    refine hK.out _ _ (fun _=>fT.out _ (aC fW.out Yk)) ?_
    clear hK K
    have g14:=hid ((fg.out.bQ (x:=int i64 (S 0)) (y:=int i64 (S 1)) (z:=int i64 (S 2)) (B:=Rj.heap.size) zo))
    have c14:=g14.out.cell
    have f14:=g14.out.thaw
    clear c13 f13
    refine aZ 15 fun K hK=>?_
    go_simp
    refine hK.out _ _ (fun h=>absurd rfl h) ?_
    clear hK K c14 f14
    refine aG zk ?_ _
    exact Rest.out Rj.heap.size ry.heap.size _ (aC (aC fW.out Yk) xn) (JA.out.iP.bQ zo) g14.out.iP
  ·skip
   go_simp
   obtain⟨Mw,wC⟩:∃x,x=Rj.alloc (.cells #[int i64 0,int i64 0,int i64 0] 88):=zE
   rw[← wC]
   have JL:Hid (Below w6.heap.size w6 Mw):=hid (by rw[wC];exact WX.out.alloc WX.out.size _)
   have DY:Hid (Whole Mw Rj.heap.size 88 #[int i64 0,int i64 0,int i64 0]):=hid (by rw[wC];exact Whole.new _ _ _)
   have dv:w6.heap.size≤Rj.heap.size:=WX.out.size
   clear wC
   refine hK.out _ _ (fun _=>fT.out _ JL.out) ?_
   clear hK K
   refine aS (i:=11) (i':=12) zk rfl rfl (fun K hK=>?_) (fun K hK=>?_)
   ·skip
    go_simp
    refine(HL.out _ (lJ.out.trans (JL.out.mono lJ.out.size))).mono ?_
    rintro e Rk ⟨rfl,TW⟩
    have Xm:Hid (Below w6.heap.size w6 Rk):=hid (JL.out.trans (TW.mono JL.out.size))
    have R8:=hid (DY.out.below TW DY.out.lt)
    clear TW
    refine hK.out _ _ (fun _=>fT.out _ Xm.out) ?_
    clear hK K
    refine aZ 12 fun K hK=>?_
    go_simp
    obtain⟨pf,Un⟩:∃x,x=Rk.alloc (.cells #[int i64 0,int i64 0,int i64 0] 88):=zE
    rw[← Un]
    have fX:Hid (Below w6.heap.size w6 pf):=hid (by rw[Un];exact Xm.out.alloc Xm.out.size _)
    have JB:Hid (Whole pf Rk.heap.size 88 #[int i64 0,int i64 0,int i64 0]):=hid (by rw[Un];exact Whole.new _ _ _)
    have dC:w6.heap.size≤Rk.heap.size:=Xm.out.size
    have aag:=R8.out.lt
    have fh:=hid (show Whole pf _ _ _ by rw[Un];exact R8.out.alloc _)
    clear Un
    refine hK.out _ _ (fun _=>fT.out _ fX.out) ?_
    clear hK K
    have c13:=JB.out.cell
    have f13:=JB.out.thaw
    refine aZ 14 fun K hK=>?_
    go_simp
    refine hK.out _ _ (fun _=>fT.out _ (aC fX.out dC)) ?_
    clear hK K
    have g14:=hid ((fh.out.bQ (x:=int i64 (S 0)) (y:=int i64 (S 1)) (z:=int i64 (S 2)) (B:=Rk.heap.size) zo))
    have c14:=g14.out.cell
    have f14:=g14.out.thaw
    clear c13 f13
    refine aZ 15 fun K hK=>?_
    go_simp
    refine hK.out _ _ (fun h=>absurd rfl h) ?_
    clear hK K c14 f14
    refine aG zk ?_ _
    exact Rest.out Rk.heap.size Rj.heap.size _ (aC (aC fX.out dC) dv) (JB.out.iP.bQ zo) g14.out.iP
   ·skip
    go_simp
    obtain⟨pg,Uo⟩:∃x,x=Mw.alloc (.cells #[int i64 0,int i64 0,int i64 0] 88):=zE
    rw[← Uo]
    have Xn:Hid (Below w6.heap.size w6 pg):=hid (by rw[Uo];exact JL.out.alloc JL.out.size _)
    have RJ:Hid (Whole pg Mw.heap.size 88 #[int i64 0,int i64 0,int i64 0]):=hid (by rw[Uo];exact Whole.new _ _ _)
    have dE:w6.heap.size≤Mw.heap.size:=JL.out.size
    have aah:=DY.out.lt
    have Sb:=hid (show Whole pg _ _ _ by rw[Uo];exact DY.out.alloc _)
    clear Uo
    refine hK.out _ _ (fun _=>fT.out _ Xn.out) ?_
    clear hK K
    refine aZ 11 fun K hK=>?_
    go_simp
    refine(HL.out _ (lJ.out.trans (Xn.out.mono lJ.out.size))).mono ?_
    rintro e Zs ⟨rfl,Nh⟩
    have fY:Hid (Below w6.heap.size w6 Zs):=hid (Xn.out.trans (Nh.mono Xn.out.size))
    have JC:=hid (RJ.out.below Nh RJ.out.lt)
    have fi:=hid (Sb.out.below Nh Sb.out.lt)
    clear Nh
    refine hK.out _ _ (fun _=>fT.out _ fY.out) ?_
    clear hK K
    have c13:=JC.out.cell
    have f13:=JC.out.thaw
    refine aZ 14 fun K hK=>?_
    go_simp
    refine hK.out _ _ (fun _=>fT.out _ (aC fY.out dE)) ?_
    clear hK K
    have g14:=hid ((fi.out.bQ (x:=int i64 (S 0)) (y:=int i64 (S 1)) (z:=int i64 (S 2)) (B:=Mw.heap.size) zo))
    have c14:=g14.out.cell
    have f14:=g14.out.thaw
    clear c13 f13
    refine aZ 15 fun K hK=>?_
    go_simp
    refine hK.out _ _ (fun h=>absurd rfl h) ?_
    clear hK K c14 f14
    refine aG zk ?_ _
    exact Rest.out Mw.heap.size Rj.heap.size _ (aC (aC fY.out dE) dv) (JC.out.iP.bQ zo) g14.out.iP
 ·skip
  go_simp
  obtain⟨Rm,Yp⟩:∃x,x=w60.alloc (.cells #[int i64 0,int i64 0,int i64 0] 88):=zE
  rw[← Yp]
  have JM:Hid (Below w6.heap.size w6 Rm):=hid (by rw[Yp];exact HB.out.alloc HB.out.size _)
  have DW:Hid (Whole Rm w60.heap.size 88 #[int i64 0,int i64 0,int i64 0]):=hid (by rw[Yp];exact Whole.new _ _ _)
  have CO:w6.heap.size≤w60.heap.size:=HB.out.size
  clear Yp
  refine hK.out _ _ (fun _=>fT.out _ JM.out) ?_
  clear hK K
  refine aS (i:=7) (i':=13) zk rfl rfl (fun K hK=>?_) (fun K hK=>?_)
  ·skip
   go_simp
   refine(HS.out _ (lJ.out.trans (JM.out.mono lJ.out.size))).mono ?_
   rintro e WL ⟨rfl,TY⟩
   have JO:Hid (Below w6.heap.size w6 WL):=hid (JM.out.trans (TY.mono JM.out.size))
   have DX:=hid (DW.out.below TY DW.out.lt)
   clear TY
   refine hK.out _ _ (fun _=>fT.out _ JO.out) ?_
   clear hK K
   refine aS (i:=11) (i':=13) zk rfl rfl (fun K hK=>?_) (fun K hK=>?_)
   ·skip
    go_simp
    refine(HL.out _ (lJ.out.trans (JO.out.mono lJ.out.size))).mono ?_
    rintro e WM ⟨rfl,Ua⟩
    have Xo:Hid (Below w6.heap.size w6 WM):=hid (JO.out.trans (Ua.mono JO.out.size))
    have RN:=hid (DX.out.below Ua DX.out.lt)
    clear Ua
    refine hK.out _ _ (fun _=>fT.out _ Xo.out) ?_
    clear hK K
    refine aZ 13 fun K hK=>?_
    go_simp
    obtain⟨pj,Uq⟩:∃x,x=WM.alloc (.cells #[int i64 0,int i64 0,int i64 0] 88):=zE
    rw[← Uq]
    have gh:Hid (Below w6.heap.size w6 pj):=hid (by rw[Uq];exact Xo.out.alloc Xo.out.size _)
    have fj:Hid (Whole pj WM.heap.size 88 #[int i64 0,int i64 0,int i64 0]):=hid (by rw[Uq];exact Whole.new _ _ _)
    have xo:w6.heap.size≤WM.heap.size:=Xo.out.size
    have aai:=RN.out.lt
    have JD:=hid (show Whole pj _ _ _ by rw[Uq];exact RN.out.alloc _)
    clear Uq
    refine hK.out _ _ (fun _=>fT.out _ gh.out) ?_
    clear hK K
    have c13:=JD.out.cell
    have f13:=JD.out.thaw
    refine aZ 14 fun K hK=>?_
    go_simp
    refine hK.out _ _ (fun _=>fT.out _ (aC gh.out CO)) ?_
    clear hK K
    have g14:=hid ((fj.out.bQ (x:=int i64 (S 0)) (y:=int i64 (S 1)) (z:=int i64 (S 2)) (B:=w60.heap.size) zo))
    have c14:=g14.out.cell
    have f14:=g14.out.thaw
    clear c13 f13
    refine aZ 15 fun K hK=>?_
    go_simp
    refine hK.out _ _ (fun h=>absurd rfl h) ?_
    clear hK K c14 f14
    refine aG zk ?_ _
    exact Rest.out w60.heap.size WM.heap.size _ (aC (aC gh.out CO) xo) (JD.out.iP.bQ zo) g14.out.iP
   ·skip
    go_simp
    obtain⟨pn,Px⟩:∃x,x=WL.alloc (.cells #[int i64 0,int i64 0,int i64 0] 88):=zE
    rw[← Px]
    have Xp:Hid (Below w6.heap.size w6 pn):=hid (by rw[Px];exact JO.out.alloc JO.out.size _)
    have Sc:Hid (Whole pn WL.heap.size 88 #[int i64 0,int i64 0,int i64 0]):=hid (by rw[Px];exact Whole.new _ _ _)
    have xp:w6.heap.size≤WL.heap.size:=JO.out.size
    have aaj:=DX.out.lt
    have RO:=hid (show Whole pn _ _ _ by rw[Px];exact DX.out.alloc _)
    clear Px
    refine hK.out _ _ (fun _=>fT.out _ Xp.out) ?_
    clear hK K
    refine aZ 11 fun K hK=>?_
    go_simp
    refine(HL.out _ (lJ.out.trans (Xp.out.mono lJ.out.size))).mono ?_
    rintro e ZD ⟨rfl,Ni⟩
    have gi:Hid (Below w6.heap.size w6 ZD):=hid (Xp.out.trans (Ni.mono Xp.out.size))
    have JE:=hid (RO.out.below Ni RO.out.lt)
    have fl:=hid (Sc.out.below Ni Sc.out.lt)
    clear Ni
    refine hK.out _ _ (fun _=>fT.out _ gi.out) ?_
    clear hK K
    have c13:=JE.out.cell
    have f13:=JE.out.thaw
    refine aZ 14 fun K hK=>?_
    go_simp
    refine hK.out _ _ (fun _=>fT.out _ (aC gi.out CO)) ?_
    clear hK K
    have g14:=hid ((fl.out.bQ (x:=int i64 (S 0)) (y:=int i64 (S 1)) (z:=int i64 (S 2)) (B:=w60.heap.size) zo))
    have c14:=g14.out.cell
    have f14:=g14.out.thaw
    clear c13 f13
    refine aZ 15 fun K hK=>?_
    go_simp
    refine hK.out _ _ (fun h=>absurd rfl h) ?_
    clear hK K c14 f14
    refine aG zk ?_ _
    exact Rest.out w60.heap.size WL.heap.size _ (aC (aC gi.out CO) xp) (JE.out.iP.bQ zo) g14.out.iP
  ·skip
   go_simp
   obtain⟨pr,Ur⟩:∃x,x=Rm.alloc (.cells #[int i64 0,int i64 0,int i64 0] 88):=zE
   rw[← Ur]
   have Xq:Hid (Below w6.heap.size w6 pr):=hid (by rw[Ur];exact JM.out.alloc JM.out.size _)
   have Sd:Hid (Whole pr Rm.heap.size 88 #[int i64 0,int i64 0,int i64 0]):=hid (by rw[Ur];exact Whole.new _ _ _)
   have xr:w6.heap.size≤Rm.heap.size:=JM.out.size
   have aak:=DW.out.lt
   have RP:=hid (show Whole pr _ _ _ by rw[Ur];exact DW.out.alloc _)
   clear Ur
   refine hK.out _ _ (fun _=>fT.out _ Xq.out) ?_
   clear hK K
   refine aZ 7 fun K hK=>?_
   go_simp
   refine(HS.out _ (lJ.out.trans (Xq.out.mono lJ.out.size))).mono ?_
   rintro e ZS ⟨rfl,Nj⟩
   have Xr:Hid (Below w6.heap.size w6 ZS):=hid (Xq.out.trans (Nj.mono Xq.out.size))
   have RQ:=hid (RP.out.below Nj RP.out.lt)
   have Sg:=hid (Sd.out.below Nj Sd.out.lt)
   clear Nj
   refine hK.out _ _ (fun _=>fT.out _ Xr.out) ?_
   clear hK K
   refine aZ 11 fun K hK=>?_
   go_simp
   refine(HL.out _ (lJ.out.trans (Xr.out.mono lJ.out.size))).mono ?_
   rintro e Z' ⟨rfl,Nk⟩
   have gj:Hid (Below w6.heap.size w6 Z'):=hid (Xr.out.trans (Nk.mono Xr.out.size))
   have JF:=hid (RQ.out.below Nk RQ.out.lt)
   have fo:=hid (Sg.out.below Nk Sg.out.lt)
   clear Nk
   refine hK.out _ _ (fun _=>fT.out _ gj.out) ?_
   clear hK K
   have c13:=JF.out.cell
   have f13:=JF.out.thaw
   refine aZ 14 fun K hK=>?_
   go_simp
   refine hK.out _ _ (fun _=>fT.out _ (aC gj.out CO)) ?_
   clear hK K
   have g14:=hid ((fo.out.bQ (x:=int i64 (S 0)) (y:=int i64 (S 1)) (z:=int i64 (S 2)) (B:=w60.heap.size) zo))
   have c14:=g14.out.cell
   have f14:=g14.out.thaw
   clear c13 f13
   refine aZ 15 fun K hK=>?_
   go_simp
   refine hK.out _ _ (fun h=>absurd rfl h) ?_
   clear hK K c14 f14
   refine aG zk ?_ _
   exact Rest.out w60.heap.size Rm.heap.size _ (aC (aC gj.out CO) xr) (JF.out.iP.bQ zo) g14.out.iP
 ·skip
  go_simp
  obtain⟨Mx,Yq⟩:∃x,x=w60.alloc (.cells #[int i64 0,int i64 0,int i64 0] 88):=zE
  rw[← Yq]
  have JQ:Hid (Below w6.heap.size w6 Mx):=hid (by rw[Yq];exact HB.out.alloc HB.out.size _)
  have DZ:Hid (Whole Mx w60.heap.size 88 #[int i64 0,int i64 0,int i64 0]):=hid (by rw[Yq];exact Whole.new _ _ _)
  have Uh:w6.heap.size≤w60.heap.size:=HB.out.size
  clear Yq
  refine hK.out _ _ (fun _=>fT.out _ JQ.out) ?_
  clear hK K
  refine aS (i:=7) (i':=12) zk rfl rfl (fun K hK=>?_) (fun K hK=>?_)
  ·skip
   go_simp
   refine(HS.out _ (lJ.out.trans (JQ.out.mono lJ.out.size))).mono ?_
   rintro e Ro ⟨rfl,Ub⟩
   have JR:Hid (Below w6.heap.size w6 Ro):=hid (JQ.out.trans (Ub.mono JQ.out.size))
   have D5:=hid (DZ.out.below Ub DZ.out.lt)
   clear Ub
   refine hK.out _ _ (fun _=>fT.out _ JR.out) ?_
   clear hK K
   refine aS (i:=11) (i':=12) zk rfl rfl (fun K hK=>?_) (fun K hK=>?_)
   ·skip
    go_simp
    refine(HL.out _ (lJ.out.trans (JR.out.mono lJ.out.size))).mono ?_
    rintro e Rp ⟨rfl,Uc⟩
    have Xt:Hid (Below w6.heap.size w6 Rp):=hid (JR.out.trans (Uc.mono JR.out.size))
    have Si:=hid (D5.out.below Uc D5.out.lt)
    clear Uc
    refine hK.out _ _ (fun _=>fT.out _ Xt.out) ?_
    clear hK K
    refine aZ 12 fun K hK=>?_
    go_simp
    obtain⟨pv,Us⟩:∃x,x=Rp.alloc (.cells #[int i64 0,int i64 0,int i64 0] 88):=zE
    rw[← Us]
    have gl:Hid (Below w6.heap.size w6 pv):=hid (by rw[Us];exact Xt.out.alloc Xt.out.size _)
    have JG:Hid (Whole pv Rp.heap.size 88 #[int i64 0,int i64 0,int i64 0]):=hid (by rw[Us];exact Whole.new _ _ _)
    have eh:w6.heap.size≤Rp.heap.size:=Xt.out.size
    have aal:=Si.out.lt
    have fp:=hid (show Whole pv _ _ _ by rw[Us];exact Si.out.alloc _)
    clear Us
    refine hK.out _ _ (fun _=>fT.out _ gl.out) ?_
    clear hK K
    have c13:=JG.out.cell
    have f13:=JG.out.thaw
    refine aZ 14 fun K hK=>?_
    go_simp
    refine hK.out _ _ (fun _=>fT.out _ (aC gl.out eh)) ?_
    clear hK K
    have g14:=hid ((fp.out.bQ (x:=int i64 (S 0)) (y:=int i64 (S 1)) (z:=int i64 (S 2)) (B:=Rp.heap.size) zo))
    have c14:=g14.out.cell
    have f14:=g14.out.thaw
    clear c13 f13
    refine aZ 15 fun K hK=>?_
    go_simp
    refine hK.out _ _ (fun h=>absurd rfl h) ?_
    clear hK K c14 f14
    refine aG zk ?_ _
    exact Rest.out Rp.heap.size w60.heap.size _ (aC (aC gl.out eh) Uh) (JG.out.iP.bQ zo) g14.out.iP
   ·skip
    go_simp
    obtain⟨pw,Ut⟩:∃x,x=Ro.alloc (.cells #[int i64 0,int i64 0,int i64 0] 88):=zE
    rw[← Ut]
    have Xu:Hid (Below w6.heap.size w6 pw):=hid (by rw[Ut];exact JR.out.alloc JR.out.size _)
    have RS:Hid (Whole pw Ro.heap.size 88 #[int i64 0,int i64 0,int i64 0]):=hid (by rw[Ut];exact Whole.new _ _ _)
    have ej:w6.heap.size≤Ro.heap.size:=JR.out.size
    have aam:=D5.out.lt
    have Sj:=hid (show Whole pw _ _ _ by rw[Ut];exact D5.out.alloc _)
    clear Ut
    refine hK.out _ _ (fun _=>fT.out _ Xu.out) ?_
    clear hK K
    refine aZ 11 fun K hK=>?_
    go_simp
    refine(HL.out _ (lJ.out.trans (Xu.out.mono lJ.out.size))).mono ?_
    rintro e aac ⟨rfl,Nl⟩
    have gm:Hid (Below w6.heap.size w6 aac):=hid (Xu.out.trans (Nl.mono Xu.out.size))
    have JH:=hid (RS.out.below Nl RS.out.lt)
    have ft:=hid (Sj.out.below Nl Sj.out.lt)
    clear Nl
    refine hK.out _ _ (fun _=>fT.out _ gm.out) ?_
    clear hK K
    have c13:=JH.out.cell
    have f13:=JH.out.thaw
    refine aZ 14 fun K hK=>?_
    go_simp
    refine hK.out _ _ (fun _=>fT.out _ (aC gm.out ej)) ?_
    clear hK K
    have g14:=hid ((ft.out.bQ (x:=int i64 (S 0)) (y:=int i64 (S 1)) (z:=int i64 (S 2)) (B:=Ro.heap.size) zo))
    have c14:=g14.out.cell
    have f14:=g14.out.thaw
    clear c13 f13
    refine aZ 15 fun K hK=>?_
    go_simp
    refine hK.out _ _ (fun h=>absurd rfl h) ?_
    clear hK K c14 f14
    refine aG zk ?_ _
    exact Rest.out Ro.heap.size w60.heap.size _ (aC (aC gm.out ej) Uh) (JH.out.iP.bQ zo) g14.out.iP
  ·skip
   go_simp
   obtain⟨px,hw32⟩:∃x,x=Mx.alloc (.cells #[int i64 0,int i64 0,int i64 0] 88):=zE
   rw[← hw32]
   have Xv:Hid (Below w6.heap.size w6 px):=hid (by rw[hw32];exact JQ.out.alloc JQ.out.size _)
   have RU:Hid (Whole px Mx.heap.size 88 #[int i64 0,int i64 0,int i64 0]):=hid (by rw[hw32];exact Whole.new _ _ _)
   have en:w6.heap.size≤Mx.heap.size:=JQ.out.size
   have hne32:=DZ.out.lt
   have Sl:=hid (show Whole px _ _ _ by rw[hw32];exact DZ.out.alloc _)
   clear hw32
   refine hK.out _ _ (fun _=>fT.out _ Xv.out) ?_
   clear hK K
   refine aZ 7 fun K hK=>?_
   go_simp
   refine(HS.out _ (lJ.out.trans (Xv.out.mono lJ.out.size))).mono ?_
   rintro e aad ⟨rfl,Nn⟩
   have Xw:Hid (Below w6.heap.size w6 aad):=hid (Xv.out.trans (Nn.mono Xv.out.size))
   have RV:=hid (RU.out.below Nn RU.out.lt)
   have Sm:=hid (Sl.out.below Nn Sl.out.lt)
   clear Nn
   refine hK.out _ _ (fun _=>fT.out _ Xw.out) ?_
   clear hK K
   refine aZ 11 fun K hK=>?_
   go_simp
   refine(HL.out _ (lJ.out.trans (Xw.out.mono lJ.out.size))).mono ?_
   rintro e aae ⟨rfl,Np⟩
   have gn:Hid (Below w6.heap.size w6 aae):=hid (Xw.out.trans (Np.mono Xw.out.size))
   have JI:=hid (RV.out.below Np RV.out.lt)
   have fv:=hid (Sm.out.below Np Sm.out.lt)
   clear Np
   refine hK.out _ _ (fun _=>fT.out _ gn.out) ?_
   clear hK K
   have c13:=JI.out.cell
   have f13:=JI.out.thaw
   refine aZ 14 fun K hK=>?_
   go_simp
   refine hK.out _ _ (fun _=>fT.out _ (aC gn.out en)) ?_
   clear hK K
   have g14:=hid ((fv.out.bQ (x:=int i64 (S 0)) (y:=int i64 (S 1)) (z:=int i64 (S 2)) (B:=Mx.heap.size) zo))
   have c14:=g14.out.cell
   have f14:=g14.out.thaw
   clear c13 f13
   refine aZ 15 fun K hK=>?_
   go_simp
   refine hK.out _ _ (fun h=>absurd rfl h) ?_
   clear hK K c14 f14
   refine aG zk ?_ _
   exact Rest.out Mx.heap.size w60.heap.size _ (aC (aC gn.out en) Uh) (JI.out.iP.bQ zo) g14.out.iP
end
section
open Go Go.Conc Go.RowKit Go.Maps Go.Sort Go.Shelf
section
variable{P:Program}{ops:Array Oper}{Q:Exit→Act→World→Prop}{a:Act}{w:World}{id:Nat}{o:Oper}{rest:List Nat}{c cap s r:Nat}{buf:Array Value}{z:Value}{closed:Bool}{t:TypeId}{x:Operand}
theorem yF(hop:o.op=.recv t x true)(ρ:Operand→Value)(w:World):o.about P w ρ=none:=by unfold Oper.about;rw[hop]
theorem yG(hop:o.op=.recv t x true)(ro:Option Nat)(ρ:Operand→Value):o.semAt ro ρ=execOp ρ o:=Oper.semAt_eq _ _ _ (by rw[hop];intro c h;cases h)
theorem Ca(ho:ops[0]? =some o)(hop:o.op=.recv t x true)(hw:Region.wanted o (yielded ops a.tmps)=true)(hl:List.range ops.size=0 :: rest)(hex:(execOp a.eval o).run P w=.ok (.comm #[rcase c z] true (.recv true)) w)(hc:w.heap[c]? =some (.chan cap buf closed s r false))(hsome:0<buf.size)
 (h:wpOpsIn FF 0 P ops Q rest (a.put o.dst (.tuple #[buf.getD 0 undef,.bool true])) (w.setChan c cap (buf.extract 1 buf.size) closed s (r+1) false)):(Code.region id ops false).wpIn FF 0 P Q a w:=fun b k cs hro hb hr=>by
 obtain⟨e,a',w',hq,harr⟩:=wp_opsIn rest _ _ h b k cs hro hb hr
 refine⟨e,a',w',hq,.of_steps (.head (fenced_calm (n:=0) hb (bM _) rfl) stepR_region ?_) harr⟩
 rw[hl]
 have hfo:Machine.fenced P FF (lone (b.atR a (.inRegion ops (0 :: rest) :: k)) cs w):=fenced_oper (n:=0) hb (bM _) ho (fun f hf=>by rw[yF hop] at hf;cases hf)
 refine .one hfo ?_
 have hg:=stepGR_op (P:=P) (b:=b) (k:=k) (cs:=cs) (w:=w) (rest:=rest) ho hw
 rw[yG hop] at hg
 have hcm:∃es,stepG P true (G (b.atR a (.inRegion ops (0 :: rest) :: k)) cs) w=.comm (G (b.atR a (.inRegion ops (0 :: rest) :: k)) cs) #[rcase c z] true (.recv true) w es:=by
  have hg2:=hg
  simp only[stepG.apply,Sem.runT_eq,hex] at hg2
  exact⟨_,hg2⟩
 obtain⟨es,hcm⟩:=hcm
 have:=step_lone_recv_buf true hcm hc hsome
 rw[Frame.finish_atR,ho] at this
 exact this
theorem Aw(ho:ops[0]? =some o)(hop:o.op=.recv t x true)(hw:Region.wanted o (yielded ops a.tmps)=true)(hl:List.range ops.size=0 :: rest)(hex:(execOp a.eval o).run P w=.ok (.comm #[rcase c z] true (.recv true)) w)(hc:w.heap[c]? =some (.chan cap #[] true s r false))
 (h:wpOpsIn FF 0 P ops Q rest (a.put o.dst (.tuple #[z,.bool false])) w):(Code.region id ops false).wpIn FF 0 P Q a w:=fun b k cs hro hb hr=>by
 obtain⟨e,a',w',hq,harr⟩:=wp_opsIn rest _ _ h b k cs hro hb hr
 refine⟨e,a',w',hq,.of_steps (.head (fenced_calm (n:=0) hb (bM _) rfl) stepR_region ?_) harr⟩
 rw[hl]
 have hfo:Machine.fenced P FF (lone (b.atR a (.inRegion ops (0 :: rest) :: k)) cs w):=fenced_oper (n:=0) hb (bM _) ho (fun f hf=>by rw[yF hop] at hf;cases hf)
 refine .one hfo ?_
 have hg:=stepGR_op (P:=P) (b:=b) (k:=k) (cs:=cs) (w:=w) (rest:=rest) ho hw
 rw[yG hop] at hg
 have hcm:∃es,stepG P true (G (b.atR a (.inRegion ops (0 :: rest) :: k)) cs) w=.comm (G (b.atR a (.inRegion ops (0 :: rest) :: k)) cs) #[rcase c z] true (.recv true) w es:=by
  have hg2:=hg
  simp only[stepG.apply,Sem.runT_eq,hex] at hg2
  exact⟨_,hg2⟩
 obtain⟨es,hcm⟩:=hcm
 have:=step_lone_recv_shut true hcm hc
 rw[Frame.finish_atR,ho] at this
 exact this
end
theorem na(base:Nat)(v:Value)(ss:List Int)(W:World)(h0:0<ss.length)(hlt:ss.length<2 ^ 40)(h:W.ownsRow base 3 1 v ss.length (ss.map encZ)):CallsIn FF 0 prog 122 #[v] W fun e w'=>e=.returned (.tuple #[])∧w'.ownsRow base 3 1 v ss.length ((ss.mergeSort (fun x y=>decide (x≤y))).map encZ)∧W.grownBy w' v.ownBlock:=by
 rcases h.2 with⟨rfl,hz⟩|⟨gb,cap,cur,rfl,hbase,hgb,r1,r2,r3,r4⟩
 ·omega
 ·have hH:Holds encZ W gb 0 ss.toArray:=holds_of_block_i hgb (by simpa using r4)
  have hgl:gb<W.heap.size:=(Array.getElem?_eq_some_iff.1 hgb).1
  have cS:=(IZ 0).1 gb 0 cap ss W hH hgl zo
  refine CallsIn.mono cS ?_
  rintro e w' ⟨rfl,nn,os,rfl⟩
  exact⟨rfl,ownsRow_sorted_i zs hbase hgb r1 r2 r3,grownBy_sorted_i _⟩
end
section
open Go Go.Conc Go.ConcN Go.bZ Go.Conc.Lib Go.aP Go.RowKit Go.Maps
attribute [local go_sem] Oper.semAt_some
variable[Inhabited aT]
theorem NI{ρ:Operand→Value}{o:Oper}{x:Operand}{c:Nat}(hop:o.op=.recv 170 x true)(hx:ρ x=.chan (some c))(w:World):(execOp ρ o).run prog w=.ok (.comm #[rcase c (int i64 0)] true (.recv true)) w:=by
 have hz:=nD w
 unfold execOp
 rw[hop]
 simp[Sem.run_bind,run_underlying underlying170,hz,hx,Result.andThen,rcase]
def r13:Array Oper:=#[{dst:=some 22,op:=.recv 170 (.tmp 21) true,type:=0,pos:=BW,after:=#[],guard:=none },{dst:=some 23,op:=.extract (.tmp 22) 1,type:=4,pos:=BW,after:=#[{on:=0,ground:=.data }],guard:=none }]
section
variable{Q:Exit→Act→World→Prop}{a:Act}{w:World}{c cap s r:Nat}{buf:Array Value}{closed:Bool}
theorem cX{v:Value}{b:Bool}(hs:23<a.tmps.size)(h:Q .normal ((a.put (some 22) (.tuple #[v,.bool b])).put (some 23) (.bool b)) w):wpOpsIn FF 0 prog r13 Q [1] (a.put (some 22) (.tuple #[v,.bool b])) w:=by
 have h22:22<a.tmps.size:=zo
 simp only[wpOpsIn,r13]
 simp[Region.wanted,Oper.wpIn,Oper.about,Oper.semAt,execOp,h22,Instr.extract,go_sem,Oper.uponIn]
 exact h
theorem yE(hs:a.tmps.size=32)(hx:a.eval (.tmp 21)=.chan (some c))(hc:w.heap[c]? =some (.chan cap buf closed s r false))(hsome:0<buf.size)
 (h:Q .normal ((a.put (some 22) (.tuple #[buf.getD 0 undef,.bool true])).put (some 23) (.bool true)) (w.setChan c cap (buf.extract 1 buf.size) closed s (r+1) false)):(Code.region 13 r13 false).wpIn FF 0 prog Q a w:=
 Ca (o:=r13[0]) rfl rfl rfl (rest:=[1]) rfl (NI rfl hx w) hc hsome (cX zo h)
theorem IK(hs:a.tmps.size=32)(hx:a.eval (.tmp 21)=.chan (some c))(hc:w.heap[c]? =some (.chan cap #[] true s r false))
 (h:Q .normal ((a.put (some 22) (.tuple #[int i64 0,.bool false])).put (some 23) (.bool false)) w):(Code.region 13 r13 false).wpIn FF 0 prog Q a w:=
 Aw (o:=r13[0]) rfl rfl rfl (rest:=[1]) rfl (NI rfl hx w) hc (cX zo h)
end
theorem Vz{ss:List Int}(h:ss.Perm [2,3]):(ss.mergeSort fun x y=>decide (x≤y))=[2,3]:=by
 have h1:(ss.mergeSort fun x y=>decide (x≤y)).Perm [2,3]:=(List.mergeSort_perm _ _).trans h
 have h2:(ss.mergeSort fun x y=>decide (x≤y)).Pairwise fun x y=>decide (x≤y)=true:=List.pairwise_mergeSort (fun a b c=>by simp only[decide_eq_true_eq];omega) (fun a b=>by simp only[Bool.or_eq_true,decide_eq_true_eq];omega) ss
 have h3:([2,3]:List Int).Pairwise fun x y=>decide (x≤y)=true:=zD
 exact h1.eq_of_pairwise (fun a b _ _ h1 h2=>by simp only[decide_eq_true_eq] at h1 h2;omega) h2 h3
theorem Vh{l:List Value}(h:l.Perm [int i64 2,int i64 3]):∃a b:Int,l=[int i64 a,int i64 b]∧[a,b].mergeSort (fun x y=>decide (x≤y))=[2,3]:=by
 have hl:=h.length_eq
 match l,hl with
 | [x,y],_=>
   have hn:[x,y].Nodup:=h.nodup_iff.2 zs
   have hx:x∈[int i64 2,int i64 3]:=h.mem_iff.1 zs
   have hy:y∈[int i64 2,int i64 3]:=h.mem_iff.1 zs
   simp at hx hy hn
   rcases hx with rfl|rfl <;> rcases hy with rfl|rfl
   ·exact absurd rfl hn
   ·exact⟨2,3,rfl,Vz (.refl _)⟩
   ·exact⟨3,2,rfl,Vz (.swap _ _ _)⟩
   ·exact absurd rfl hn
theorem vK(w:World)(c cap:Nat)(buf:Array Value)(cl:Bool)(s r:Nat)(tm:Bool)(i:Nat)(h:i≠c):(w.setChan c cap buf cl s r tm).heap[i]? =w.heap[i]?:=by
 show(Array.setIfInBounds w.heap _ _)[i]? =_
 rw[Array.getElem?_setIfInBounds_ne (fun e=>h e.symm)]
theorem mX(w:World)(c cap:Nat)(buf:Array Value)(cl:Bool)(s r:Nat)(tm:Bool):(w.setChan c cap buf cl s r tm).heap.size=w.heap.size:=by simp[World.setChan]
theorem qC{w:World}{n c:Nat}(cap:Nat)(buf:Array Value)(cl:Bool)(s r:Nat)(tm:Bool)(hn:n≤c):Below n w (w.setChan c cap buf cl s r tm):=
 ⟨rfl,rfl,rfl,by rw[mX];exact zL,fun b hb=>vK _ _ _ _ _ _ _ _ _ zo⟩
def wZ(w:World)(x:Value)(w':World):Prop:=(∃τ,Below w.heap.size (on w τ) w')∧w'.ownsRow w.heap.size 3 1 x 2 [int i64 2,int i64 3]
theorem Mi(cb:Nat)(bit:Nat→Bool)(w:World)(hbit:(List.range 4).filter bit=[2,3])(x7 x14 x15 x16 x17 x18:Value)(v:World)(hb:Behind 4 cb w.heap.size bit w v)(σ:Tape):
 mh.wpIn FF 0 prog (bodyPost prog Tryz.f99 (EU (wZ w))) (Act.put ⟨QZ 4 (fD cb) w.heap.size 4 x7 x14 x15 x16 x17 x18,[]⟩ (some 19) (.tuple #[])) (on v σ):=by
 obtain⟨hsz,hold,kY,⟨buf,s,q,hch,hperm⟩,Hy,hos,hout⟩:=hb
 rw[hbit] at hperm
 obtain⟨Qp,hQp⟩:∃Qp,Qp=bodyPost prog Tryz.f99 (EU (wZ w)):=zE
 rw[← hQp]
 simp only[mh,Wt,Tryz.f99,QZ,Act.put,List.setIfInBounds_toArray,List.set_cons_succ,List.set_cons_zero,fD,pt]
 have cN2:(on v σ).cell? ⟨w.heap.size+2,0,none⟩=some (.chan (some (w.heap.size+1))):=by
  unfold World.cell?
  simp[on,Hy]
 have hcl:=fun ats ty=>run_close_open (P:=prog) (w:=on v σ) ats ty hch
 obtain⟨W1,hW1⟩:∃W1,W1=(on v σ).setChan (w.heap.size+1) 4 buf true s q false:=zE
 have Sf:∀ats ty,(Builtin.close_ ats ty #[.chan (some (w.heap.size+1))]).run prog (on v σ)=.ok (.tuple #[]) W1:=fun ats ty=>by rw[hW1];exact hcl ats ty
 have c1:W1.heap[w.heap.size+1]? =some (.chan 4 buf true s q false):=by rw[hW1];exact heap_setChan _ _ _ _ _ _ _ _ (by show w.heap.size+1<v.heap.size;omega)
 have oth:∀i,i≠w.heap.size+1→W1.heap[i]? =v.heap[i]?:=fun i hi=>by
  rw[hW1]
  show(Array.setIfInBounds v.heap _ _)[i]? =_
  rw[Array.getElem?_setIfInBounds_ne (fun e=>hi e.symm)]
 have hs1:W1.heap.size=v.heap.size:=by rw[hW1];simp[World.setChan,on]
 have B1:Below w.heap.size (on w σ) W1:=⟨by rw[hW1];exact hos,by rw[hW1];rfl,by rw[hW1];exact hout,by rw[hs1];show w.heap.size≤_;omega,fun b hb=>(oth b zo).trans (hold b hb)⟩
 have cM2:W1.cell? ⟨w.heap.size+2,0,none⟩=some (.chan (some (w.heap.size+1))):=by
  unfold World.cell?
  simp[oth (w.heap.size+2) zo,Hy]
 clear hcl hW1
 obtain⟨x0,y0,hbuf,hsrt⟩:=Vh hperm
 have xa:buf=#[int i64 x0,int i64 y0]:=by rw[← Array.toList_inj];exact hbuf
 subst xa
 obtain⟨i0,hi,hz0,hz1,hz2⟩:=info_parts info3
 have hi0:=hid hi
 clear hi hbuf hperm
 gi_wp2
 refine wpIn_loop_rounds 3 ?_
 rw[roundsIn_succ]
 refine wpIn_seq ?_
 refine yE rfl rfl c1 zs ?_
 obtain⟨W2,hW2⟩:∃W2,W2=W1.setChan (w.heap.size+1) 4 #[int i64 y0] true s (q+1) false:=zE
 have c2:W2.heap[w.heap.size+1]? =some (.chan 4 #[int i64 y0] true s (q+1) false):=by rw[hW2];exact heap_setChan _ _ _ _ _ _ _ _ zo
 have hs2:W2.heap.size=W1.heap.size:=by rw[hW2];exact mX _ _ _ _ _ _ _ _
 have B2:Hid (Below w.heap.size (on w σ) W2):=hid (B1.trans (by rw[hW2];exact qC _ _ _ _ _ _ zo))
 show Exit.then _ _ .normal _ (W1.setChan (w.heap.size+1) 4 #[int i64 y0] true s (q+1) false)
 rw[← hW2]
 simp only[Act.put,List.setIfInBounds_toArray,List.set_cons_succ,List.set_cons_zero,Exit.then]
 have Jw:=hid hs1
 have HS2:=hid hs2
 have cm:=hid hsz
 clear hW2 c1 cM2 cN2 Sf hch hs1 hs2 hsz
 gi_wp2_with (gi_at_builtin;refine aD rfl rfl rfl fun K5 iH=>?_;refine wp_append_lies _ _ _ _ rfl W1.heap.size 3 i0 _ 1 8 underlying51 hi0.out hz0 hz1 hz2 rfl zo (.slice none 0 0) 0 [] rfl ⟨rfl,.inl ⟨rfl,rfl⟩⟩ ⟨W2.heap.size,0,none⟩ 1 1 [_] rfl rfl (World.news_of_block (heap_alloc_new W2 _)) (by simp[Value.oneCell']) zo zU zo (by have:=HS2.out;simp;omega) (W2.heap.size+1) zs ?_;intro jN gQ w10 hown5 aN kX mP;refine iH _ _ ?_;clear iH K5)
 have b10:Below W2.heap.size W2 w10:=((Below.refl _ W2).alloc zL _).trans (below_grown aN zs (fun g hg=>by cases hg))
 have c10:w10.heap[w.heap.size+1]? =some (.chan 4 #[int i64 y0] true s (q+1) false):=(b10.block _ (by have:=Jw.out;have:=HS2.out;have:=cm.out;omega)).trans c2
 have Sy:=hid hown5
 have aaA:=(bL hown5 (g:=jN) rfl).1
 have B10:Hid (Below w.heap.size (on w σ) w10):=hid (B2.out.trans (b10.mono (by have:=Jw.out;have:=HS2.out;have:=cm.out;omega)))
 have tE:Hid (W2.heap.size≤w10.heap.size):=hid b10.size
 clear hown5 aN kX mP b10 c2
 rw[roundsIn_succ]
 refine wpIn_seq ?_
 refine yE rfl rfl c10 zs ?_
 obtain⟨W3,hW3⟩:∃W3,W3=w10.setChan (w.heap.size+1) 4 #[] true s (q+1+1) false:=zE
 have S3:Hid (W3.heap.size=w10.heap.size):=hid (by rw[hW3];exact mX _ _ _ _ _ _ _ _)
 have c3:W3.heap[w.heap.size+1]? =some (.chan 4 #[] true s (q+1+1) false):=by rw[hW3];exact heap_setChan _ _ _ _ _ _ _ _ (by have:=tE.out;have:=Jw.out;have:=HS2.out;have:=cm.out;omega)
 have B3:Hid (Below w.heap.size (on w σ) W3):=hid (B10.out.trans (by rw[hW3];exact qC _ _ _ _ _ _ zo))
 have pN:=hid (iw Sy.out (w':=W3) (fun g hg hl=>by rw[hW3];exact vK _ _ _ _ _ _ _ _ _ (by have h1:=(bL Sy.out hg).1;have:=Jw.out;have:=cm.out;omega)))
 show Exit.then _ _ .normal _ (w10.setChan (w.heap.size+1) 4 #[] true s (q+1+1) false)
 rw[← hW3]
 simp only[Act.put,List.setIfInBounds_toArray,List.set_cons_succ,List.set_cons_zero,Exit.then]
 clear hW3 c10 Sy B10
 gi_wp2_with (gi_at_builtin;refine aD rfl rfl rfl fun K5 iH=>?_;refine wp_append_lies _ _ _ _ rfl W1.heap.size 3 i0 _ 1 8 underlying51 hi0.out hz0 hz1 hz2 rfl zo (.slice (some ⟨jN,0,none⟩) 1 gQ) 1 _ rfl (bD pN.out _) ⟨W3.heap.size,0,none⟩ 1 1 [_] rfl rfl (World.news_of_block (heap_alloc_new W3 _)) (by simp[Value.oneCell']) zo zU zo (by have:=S3.out;have:=tE.out;have:=HS2.out;simp;omega) (W3.heap.size+1) zs ?_;intro uu cap4 w20 hown6 uH TT xN;refine iH _ _ ?_;clear iH K5)
 have b20:Below W1.heap.size W3 w20:=((Below.refl _ W3).alloc (by have:=S3.out;have:=tE.out;have:=HS2.out;omega) _).trans (below_grown uH (by have:=S3.out;have:=tE.out;have:=HS2.out;simp;omega) (fun g hg=>by cases hg;omega))
 have c20:w20.heap[w.heap.size+1]? =some (.chan 4 #[] true s (q+1+1) false):=(b20.block _ (by have:=Jw.out;have:=cm.out;omega)).trans c3
 have ta:=hid hown6
 have B20:Hid (Below w.heap.size (on w σ) w20):=hid (B3.out.trans (b20.mono (by have:=Jw.out;have:=cm.out;omega)))
 have S20:Hid (W1.heap.size≤w20.heap.size):=hid (by have:=b20.size;have:=S3.out;have:=tE.out;have:=HS2.out;omega)
 clear hown6 uH TT xN b20 c3
 rw[roundsIn_succ]
 refine wpIn_seq ?_
 refine IK rfl rfl c20 ?_
 simp only[Act.put,List.setIfInBounds_toArray,List.set_cons_succ,List.set_cons_zero,Exit.then]
 have th:=hid (na W1.heap.size (.slice (some ⟨uu,0,none⟩) 2 cap4) [x0,y0] w20 zs zs ta.out)
 clear c20 pN ta
 gi_wp2_with (gi_at_call 122;refine th.out.mono ?_;rintro e w22 ⟨rfl,hown,hgrow⟩)
 rw[hQp]
 rw[hsrt] at hown
 have b22:Below W1.heap.size w20 w22:=below_grown hgrow S20.out (fun g hg=>by have h1:=(bL hown hg).1;omega)
 exact⟨rfl,_,results_tmp rfl _ _ _,_,rfl,⟨σ,B20.out.trans (b22.mono (by have:=Jw.out;have:=cm.out;omega))⟩,dh hown (by have:=Jw.out;have:=cm.out;omega)⟩
theorem enter_at{fn:Func}{c:Code}{f:FuncId}{args:Array Value}(hf:Tryz.prog.funcs[f]? =some fn)(hb:fn.body=some c):Frame.enter prog f args .normal=(base f).at {tmps:=args ++ Array.replicate (fn.ntmps - args.size) undef,defers:=[] } [.code c]:=by
 simp[Frame.enter,Frame.at,hf,hb,base]
theorem Wu(cb:Nat):Frame.enter prog 99 #[int i64 4,fD cb] .normal=kR 4 cb:=by
 rw[enter_at func99 (c:=uR) rfl]
 simp only[ntmps99,List.size_toArray,List.length_cons,List.length_nil,Nat.reduceAdd,Nat.reduceSub,Array.replicate_succ,Array.replicate_zero,List.push_toArray,List.append_toArray,List.nil_append,List.cons_append]
 rfl
theorem bh(ac:Act)(cs:List Frame)(v:World)(σ:Tape):((⟨Aj ac,cs,v⟩:dP.Pt).on σ).m=lone ((base 99).atR (ac.put ((qj[0]?).bind (·.dst)) (.tuple #[])) (.inRegion qj [] :: [mh].map Item.code)) cs (on v σ):=rfl
theorem oE:(qj[0]?).bind (·.dst)=some 19:=rfl
theorem Q0(cb:Nat)(bit:Nat→Bool)(w:World)(hpre:MG 4 cb bit w)(hbit:(List.range 4).filter bit=[2,3]):iY 99 #[int i64 4,fD cb] w (wZ w):=by
 refine⟨zs,fun cs=>⟨4,cb,cs,w,bit,?_,hpre,fun ac hac v hb σ=>?_⟩⟩
 ·rw[Wu]
  exact .refl _
 ·obtain⟨x7,x14,x15,x16,x17,x18,rfl⟩:=hac
  rw[bh,oE]
  have h:=Mi cb bit w hbit x7 x14 x15 x16 x17 x18 v hb σ
  refine Df (ops:=qj) (fn:=Tryz.f99) (R:=wZ w) (l:=[mh]) (rest:=[]) ?_ (base 99) cs rfl rfl (by show FF.fn 99;simp) func99
  exact wpIn_mono h (fun e a w h=>by cases e <;> exact h)
end
section
open Go.RowKit
open Go.Sort (grow)
attribute [local go_sem] Oper.semAt_some
theorem OT(b:Bk)(A:Option Addr)(p s Bc:Nat)(w:World)(hc:pQ b A w)(ok:b.Ok)(hl:∀s∈ak b,dZ s)(hs:s<1024)(h4:(aM s 10).length≤4)(hin:∀x∈aM s 10,0≤x∧x<b.nc)(q:∀j,w.cell? ⟨Bc,j,none⟩=(aA b A (ak b).length p)[j]?):
 CallsIn SF 0 prog 100 #[int i64 s,.pointer (some ⟨Bc,0,none⟩)] w fun e w'=>(∃A' cc',e=.returned (.bool (aB (jw b s A' cc') (ak b)).isEmpty))∧Below w.heap.size w w':=by
 obtain⟨n,hn⟩:∃n,n=(ak b).length:=zE
 have HA:=hid fun(w':World) (hb:Below w.heap.size w w')=>Xz b s A n p w' (hc.at_.up hb) hs hin
 have Kb:Hid (∀ (A':Option Addr) (cc':Nat) (w':World),Below w.heap.size w w'→Rows w' w'.heap.size 4 A' (aM s 10).length (fun i j=>(TB b s i).cell j)→(jw b s A' cc').At w' w'.heap.size):=hid fun A' cc' w' hb hr=>
  ⟨(hc.at_.up hb).g,(hc.at_.up hb).m,hr,hc.at_.ng,hc.at_.nm,(Nat.le_trans h4 zU:(aM s 10).length≤maxLen),hc.at_.name⟩
 have HR:=hid fun(w':World) (hb:Below w.heap.size w w')=>(hc.row.below hb).more hb.size
 have HH:=hid fun A' cc' (w':World)=>nS (p:=SF.fn) (jw b s A' cc') A n p w'
 have HS:=hid fun A' cc' Bc' (w':World) hA hR hb=>LW (jw b s A' cc') (i6 b s A' cc' ok h4 hin) (ak b) hl (lS b ok) A p Bc' w' hA hR hb
 have HY:=hid fun A' cc' lb (w':World) h=>SX (p:=SF.fn) 79 lb (aB (jw b s A' cc') (ak b)) w' h
 obtain⟨R,hR⟩:∃R:Option Addr→Nat→List Ht,R=fun A' cc'=>aB (jw b s A' cc') (ak b):=⟨_,rfl⟩
 have pS:Hid (∀A' cc',aB (jw b s A' cc') (ak b)=R A' cc'):=hid fun A' cc'=>by rw[hR]
 have goal:∀ (e:Ending) (w':World),((∃A' cc',e=.returned (.bool (R A' cc').isEmpty))∧Below w.heap.size w w')→(∃A' cc',e=.returned (.bool (aB (jw b s A' cc') (ak b)).isEmpty))∧Below w.heap.size w w':=fun e w' ⟨⟨A',cc',h⟩,hb⟩=>⟨⟨A',cc',by rw[pS.out];exact h⟩,hb⟩
 refine CallsIn.mono ?_ goal
 rw[← hn] at q
 clear goal hR hl hs ok hc
 have Hn:=hid hn
 clear hn
 obtain⟨w0,hw0⟩:∃w0,w0=w:=zE
 have q0:w.cell? ⟨Bc,0,none⟩=some (int i64 b.dY):=q 0
 have q1:w.cell? ⟨Bc,1,none⟩=some (int i64 b.mO):=q 1
 have q2:w.cell? ⟨Bc,2,none⟩=some (.slice b.gA b.ng b.gc):=q 2
 have q3:w.cell? ⟨Bc,3,none⟩=some (.slice b.mA b.nm b.mc):=q 3
 have q4:w.cell? ⟨Bc,4,none⟩=some (.slice b.cA b.nc b.cc):=q 4
 have q5:w.cell? ⟨Bc,5,none⟩=some (.slice A n p):=q 5
 clear q
 simp only[aA] at HA HH
 gi_enter func100,ntmps100
 gi_wp2_with (first
  | (gi_at_call 101;refine(HA.out w zB).mono ?_;rintro e w3 ⟨A',cc',rfl,hr3,hb3⟩)
  | (gi_at_call 39;refine(HH.out A' cc' w3).mono ?_;rintro e w4 ⟨rfl,hw4,hb4,-⟩)
  | (gi_at_call 77;refine(HY.out A' cc' _ w4 (HS.out A' cc' _ w4 ((Kb.out A' cc' w3 hb3 hr3).up hb4) (HR.out w4 (Below.next hb3 hb4)) (by rw[← Hn.out];exact hw4))).mono ?_;rintro e w5 ⟨rfl,hb5⟩;rw[pS.out]))
 go_ret
 refine⟨⟨A',cc',?_⟩,Below.next (Below.next hb3 hb4) hb5⟩
 simp
def tgC:Array Value:=#[.string ⟨#[116,101,97]⟩,int i64 5,int i64 4,int i64 3,int i64 3,.string ⟨#[114,105,99,101]⟩,int i64 2,int i64 10,int i64 5,int i64 6]
def tmC:Array Value:=#[int i64 0,int i64 0,int i64 2,int i64 4,int i64 4,int i64 1,int i64 0,int i64 3,int i64 2,int i64 3,int i64 2,int i64 1,int i64 4,int i64 0,int i64 1,int i64 0,int i64 1,int i64 5,int i64 10,int i64 10]
def tcC:Array Value:=#[int i64 0,int i64 10,int i64 4,int i64 5,int i64 1,int i64 10,int i64 5,int i64 5]
def WY(w:World)(G M C:Nat):Prop:=Whole w G 83 tgC∧Whole w M 39 tmC∧Whole w C 45 tcC
theorem WY.of{w w':World}{G M C:Nat}(h:WY w G M C)(hk:∀b,b<w.heap.size→w'.heap[b]? =w.heap[b]?):WY w' G M C:=⟨h.1.of (hk _ h.1.lt),h.2.1.of (hk _ h.2.1.lt),h.2.2.of (hk _ h.2.2.lt)⟩
theorem KC(w:World):CallsIn FF 0 prog 17 #[] w fun e w'=>∃G M C,e=.returned (Tb 1 G M C).val∧(Tb 1 G M C).At w' w'.heap.size∧Below w.heap.size w w'∧WY w' G M C:=by
 have HT:=hid DO
 gi_enter func17,ntmps17
 gi_wp2_with (first
  | (gi_at_call 28;refine(HT.out 3 3 _).mono ?_;rintro e w1 ⟨rfl,hb1⟩)
  | (gi_at_call 28;refine(HT.out 5 6 _).mono ?_;rintro e w2 ⟨rfl,hb2⟩)
  | (gi_at_call 28;refine(HT.out 4 4 _).mono ?_;rintro e w3 ⟨rfl,hb3⟩)
  | (gi_at_call 28;refine(HT.out 2 3 _).mono ?_;rintro e w4 ⟨rfl,hb4⟩)
  | (gi_at_call 28;refine(HT.out 0 1 _).mono ?_;rintro e w5 ⟨rfl,hb5⟩)
  | (gi_at_call 28;refine(HT.out 10 10 _).mono ?_;rintro e w6 ⟨rfl,hb6⟩)
  | (gi_at_call 28;refine(HT.out 4 5 _).mono ?_;rintro e w7 ⟨rfl,vo⟩)
  | (gi_at_call 28;refine(HT.out 5 5 _).mono ?_;rintro e w8 ⟨rfl,CF⟩;have k1:=hb1.size;have k2:=hb2.size;have k3:=hb3.size;have k4:=hb4.size;have k5:=hb5.size;have k6:=hb6.size;have k7:=vo.size;have k8:=CF.size;simp only[World.size_alloc] at k1 k2 k3 k4 k5 k6 k7 k8;have Y1:=(Whole.new w 26 #[int i64 0,int i64 0,.slice none 0 0,.slice none 0 0,.slice none 0 0]).below hb1 zs;have Y2:=Y1.below hb2 Y1.lt;have Y3:=(Y2.alloc (.cells #[.string ⟨#[116,101,97]⟩,int i64 5,int i64 4,int i64 3,int i64 3,.string ⟨#[114,105,99,101]⟩,int i64 2,int i64 10,int i64 5,int i64 6] 83)).below hb3 (Y2.alloc _).lt;have Y4:=Y3.below hb4 Y3.lt;have Y5:=Y4.below hb5 Y4.lt;have Y6:=Y5.below hb6 Y5.lt;have Y7:=(Y6.alloc (.cells #[int i64 0,int i64 0,int i64 2,int i64 4,int i64 4,int i64 1,int i64 0,int i64 3,int i64 2,int i64 3,int i64 2,int i64 1,int i64 4,int i64 0,int i64 1,int i64 0,int i64 1,int i64 5,int i64 10,int i64 10] 39)).below vo (Y6.alloc _).lt;have Y8:=Y7.below CF Y7.lt;have Y9:=Y8.alloc (.cells #[int i64 0,int i64 10,int i64 4,int i64 5,int i64 1,int i64 10,int i64 5,int i64 5] 45);have yth:=Y9.thaw;have y0:(w8.alloc (.cells #[int i64 0,int i64 10,int i64 4,int i64 5,int i64 1,int i64 10,int i64 5,int i64 5] 45)).cell? ⟨w.heap.size,0,none⟩=some (int i64 0):=Y9.cell 0;have y1:(w8.alloc (.cells #[int i64 0,int i64 10,int i64 4,int i64 5,int i64 1,int i64 10,int i64 5,int i64 5] 45)).cell? ⟨w.heap.size,1,none⟩=some (int i64 0):=Y9.cell 1;have y2:(w8.alloc (.cells #[int i64 0,int i64 10,int i64 4,int i64 5,int i64 1,int i64 10,int i64 5,int i64 5] 45)).cell? ⟨w.heap.size,2,none⟩=some (.slice none 0 0):=Y9.cell 2;have y3:(w8.alloc (.cells #[int i64 0,int i64 10,int i64 4,int i64 5,int i64 1,int i64 10,int i64 5,int i64 5] 45)).cell? ⟨w.heap.size,3,none⟩=some (.slice none 0 0):=Y9.cell 3;have y4:(w8.alloc (.cells #[int i64 0,int i64 10,int i64 4,int i64 5,int i64 1,int i64 10,int i64 5,int i64 5] 45)).cell? ⟨w.heap.size,4,none⟩=some (.slice none 0 0):=Y9.cell 4))
 have g3:=(Whole.new w2 83 #[.string ⟨#[116,101,97]⟩,int i64 5,int i64 4,int i64 3,int i64 3,.string ⟨#[114,105,99,101]⟩,int i64 2,int i64 10,int i64 5,int i64 6]).below hb3 zs
 have g4:=g3.below hb4 g3.lt
 have g5:=g4.below hb5 g4.lt
 have g6:=g5.below hb6 g5.lt
 have g7:=(g6.alloc (.cells #[int i64 0,int i64 0,int i64 2,int i64 4,int i64 4,int i64 1,int i64 0,int i64 3,int i64 2,int i64 3,int i64 2,int i64 1,int i64 4,int i64 0,int i64 1,int i64 0,int i64 1,int i64 5,int i64 10,int i64 10] 39)).below vo (g6.alloc _).lt
 have g8:=(g7.below CF g7.lt).alloc (.cells #[int i64 0,int i64 10,int i64 4,int i64 5,int i64 1,int i64 10,int i64 5,int i64 5] 45)
 have m7:=(Whole.new w6 39 #[int i64 0,int i64 0,int i64 2,int i64 4,int i64 4,int i64 1,int i64 0,int i64 3,int i64 2,int i64 3,int i64 2,int i64 1,int i64 4,int i64 0,int i64 1,int i64 0,int i64 1,int i64 5,int i64 10,int i64 10]).below vo zs
 have m8:=(m7.below CF m7.lt).alloc (.cells #[int i64 0,int i64 10,int i64 4,int i64 5,int i64 1,int i64 10,int i64 5,int i64 5] 45)
 have c8:=Whole.new w8 45 #[int i64 0,int i64 10,int i64 4,int i64 5,int i64 1,int i64 10,int i64 5,int i64 5]
 have U:=(((((Y8.alloc (.cells #[int i64 0,int i64 10,int i64 4,int i64 5,int i64 1,int i64 10,int i64 5,int i64 5] 45)).set 0 (int i64 10)).set 1 (int i64 1)).set 2 (.slice (some ⟨w2.heap.size,0,none⟩) 2 2)).set 3 (.slice (some ⟨w6.heap.size,0,none⟩) 4 4)).set 4 (.slice (some ⟨w8.heap.size,0,none⟩) 2 2)
 have u0:=U.cell 0
 have u1:=U.cell 1
 have u2:=U.cell 2
 have u3:=U.cell 3
 have u4:=U.cell 4
 have HB:Below w.heap.size w (w8.alloc (.cells #[int i64 0,int i64 10,int i64 4,int i64 5,int i64 1,int i64 10,int i64 5,int i64 5] 45)):=Below.al (Below.next (Below.next (Below.al (Below.next (Below.next (Below.next (Below.next (Below.al (Below.next (Below.next (Below.al (Below.refl _ w) _) hb1) hb2) _) hb3) hb4) hb5) hb6) _) vo) CF) _
 refine bodyPost_ret (v:=.agg #[int i64 10,int i64 1,.slice (some ⟨w2.heap.size,0,none⟩) 2 2,.slice (some ⟨w6.heap.size,0,none⟩) 4 4,.slice (some ⟨w8.heap.size,0,none⟩) 2 2]) (by simp[results,results17,go_sem,u0,u1,u2,u3,u4]) rfl ⟨w2.heap.size,w6.heap.size,w8.heap.size,rfl,⟨?_,?_,?_,(by decide:2≤maxLen),(by decide:4≤maxLen),(by decide:2≤maxLen),fun i _=>?_⟩,?_,?_,?_,?_⟩
 ·exact bT ((((((g8).other (p:=⟨w.heap.size,0,none⟩) zn (int i64 10)).other (p:=⟨w.heap.size,1,none⟩) zn (int i64 1)).other (p:=⟨w.heap.size,2,none⟩) zn (.slice (some ⟨w2.heap.size,0,none⟩) 2 2)).other (p:=⟨w.heap.size,3,none⟩) zn (.slice (some ⟨w6.heap.size,0,none⟩) 4 4)).other (p:=⟨w.heap.size,4,none⟩) zn (.slice (some ⟨w8.heap.size,0,none⟩) 2 2)) fun i j hi hj=>(by have hi:i<2:=hi;have hj:j<5:=hj;rcases(show i=0∨i=1 by omega) with rfl|rfl <;> rcases(show j=0∨j=1∨j=2∨j=3∨j=4 by omega) with rfl|rfl|rfl|rfl|rfl <;> rfl)
 ·exact bT ((((((m8).other (p:=⟨w.heap.size,0,none⟩) zn (int i64 10)).other (p:=⟨w.heap.size,1,none⟩) zn (int i64 1)).other (p:=⟨w.heap.size,2,none⟩) zn (.slice (some ⟨w2.heap.size,0,none⟩) 2 2)).other (p:=⟨w.heap.size,3,none⟩) zn (.slice (some ⟨w6.heap.size,0,none⟩) 4 4)).other (p:=⟨w.heap.size,4,none⟩) zn (.slice (some ⟨w8.heap.size,0,none⟩) 2 2)) fun i j hi hj=>(by have hi:i<4:=hi;have hj:j<5:=hj;rcases(show i=0∨i=1∨i=2∨i=3 by omega) with rfl|rfl|rfl|rfl <;> rcases(show j=0∨j=1∨j=2∨j=3∨j=4 by omega) with rfl|rfl|rfl|rfl|rfl <;> rfl)
 ·exact bT ((((((c8).other (p:=⟨w.heap.size,0,none⟩) zn (int i64 10)).other (p:=⟨w.heap.size,1,none⟩) zn (int i64 1)).other (p:=⟨w.heap.size,2,none⟩) zn (.slice (some ⟨w2.heap.size,0,none⟩) 2 2)).other (p:=⟨w.heap.size,3,none⟩) zn (.slice (some ⟨w6.heap.size,0,none⟩) 4 4)).other (p:=⟨w.heap.size,4,none⟩) zn (.slice (some ⟨w8.heap.size,0,none⟩) 2 2)) fun i j hi hj=>(by have hi:i<2:=hi;have hj:j<4:=hj;rcases(show i=0∨i=1 by omega) with rfl|rfl <;> rcases(show j=0∨j=1∨j=2∨j=3 by omega) with rfl|rfl|rfl|rfl <;> rfl)
 ·show((tg i).name).size≤maxLen
  rcases i with _|i
  ·exact(by decide:3≤maxLen)
  ·exact(by decide:4≤maxLen)
 ·exact((((HB.setCell (p:=⟨w.heap.size,0,none⟩) zs _).setCell zs _).setCell zs _).setCell zs _).setCell zs _
 ·exact((((((g8).other (p:=⟨w.heap.size,0,none⟩) zn (int i64 10)).other (p:=⟨w.heap.size,1,none⟩) zn (int i64 1)).other (p:=⟨w.heap.size,2,none⟩) zn (.slice (some ⟨w2.heap.size,0,none⟩) 2 2)).other (p:=⟨w.heap.size,3,none⟩) zn (.slice (some ⟨w6.heap.size,0,none⟩) 4 4)).other (p:=⟨w.heap.size,4,none⟩) zn (.slice (some ⟨w8.heap.size,0,none⟩) 2 2))
 ·exact((((((m8).other (p:=⟨w.heap.size,0,none⟩) zn (int i64 10)).other (p:=⟨w.heap.size,1,none⟩) zn (int i64 1)).other (p:=⟨w.heap.size,2,none⟩) zn (.slice (some ⟨w2.heap.size,0,none⟩) 2 2)).other (p:=⟨w.heap.size,3,none⟩) zn (.slice (some ⟨w6.heap.size,0,none⟩) 4 4)).other (p:=⟨w.heap.size,4,none⟩) zn (.slice (some ⟨w8.heap.size,0,none⟩) 2 2))
 ·exact((((((c8).other (p:=⟨w.heap.size,0,none⟩) zn (int i64 10)).other (p:=⟨w.heap.size,1,none⟩) zn (int i64 1)).other (p:=⟨w.heap.size,2,none⟩) zn (.slice (some ⟨w2.heap.size,0,none⟩) 2 2)).other (p:=⟨w.heap.size,3,none⟩) zn (.slice (some ⟨w6.heap.size,0,none⟩) 4 4)).other (p:=⟨w.heap.size,4,none⟩) zn (.slice (some ⟨w8.heap.size,0,none⟩) 2 2))
end
section
open Go.RowKit
theorem YP(b:Bk)(w:World)(h:b.At w w.heap.size)(ok:b.Ok)(hcap:b.ng≤b.gc):CallsIn FF 0 prog 37 #[b.val] w fun e w'=>∃A p,e=.returned (.tuple #[.agg (aA b A (ak b).length p),int i64 0])∧pQ b A w'∧Below w.heap.size w w'∧∀ad,A=some ad→0<(ak b).length→w.heap.size≤ad.block∧ad=⟨ad.block,0,none⟩∧∃c e,w'.heap[ad.block]? =some (.cells c e (0,0))∧∀x∈c.toList,∃n,x=int i64 n:=by
 refine(Vb b w h ok hcap).mono ?_
 rintro e w' ⟨A,p,rfl,hrow,hb,hib⟩
 have hl:(bP b (2 ^ b.nm)).length=(ak b).length:=by rw[sO,List.length_map]
 refine⟨A,p,by rw[hl,Tx],⟨h.up hb,?_⟩,hb,fun ad hA hn=>by
  subst hA
  rcases hrow.2 with⟨h0,_⟩|⟨g',cap,cur,h0,h1,_⟩
  ·injection h0 with h0 _ _;cases h0
  ·injection h0 with h0 _ _;cases h0;exact⟨h1,rfl,hib g' rfl⟩⟩
 have:=eG hrow
 rw[hl] at this
 unfold Ints at this
 intro hn
 obtain⟨ad,e,hb,hc⟩:=this hn
 refine⟨ad,e,hb,fun i j hi hj=>(hc i j hi hj).trans ?_⟩
 rw[sO]
 congr 2
 simp[List.getD_eq_getElem?_getD,List.getElem?_map,List.getElem?_eq_getElem hi]
end
section
open Go Go.Conc Go.ConcN Go.bZ Go.Conc.Lib Go.aP Go.RowKit
variable[Inhabited aT]
theorem Gl(D:Nat→Prop)(w:World)(σ:Tape)(p:Addr):(on (wJ D w) σ).cell? p=w.cell? p:=by
 unfold World.cell?
 show(match (wJ D w).heap[p.block]? with|some (.cells c _ _)=>if p.spot.isSome then none else c[p.off]? |_=>none)=_
 by_cases h:D p.block
 ·cases ho:w.heap[p.block]? with
  | none=>rw[show(wJ D w).heap[p.block]? =none by simp[wJ,Array.getElem?_mapIdx,ho]]
  | some o=>
    rw[show(wJ D w).heap[p.block]? =some (jz o) by simp[wJ,Array.getElem?_mapIdx,ho,h]]
    cases o <;> rfl
 ·rw[Yc h]
  cases w.heap[p.block]? with
  | none=>rfl
  | some o=>cases o <;> rfl
theorem tJ{D:Nat→Prop}{w:World}{σ:Tape}{B size n:Nat}{A:Option Addr}{f:Nat→Nat→Value}(h:Rows w B size A n f):Rows (on (wJ D w) σ) B size A n f:=fun hn=>by
 obtain⟨ad,e,hb,hc⟩:=h hn
 exact⟨ad,e,hb,fun i j hi hj=>(Gl D w σ _).trans (hc i j hi hj)⟩
theorem XL{D:Nat→Prop}{w:World}{σ:Tape}{b:Bk}{A:Option Addr}(h:pQ b A w):pQ b A (on (wJ D w) σ):=by
 have e:(on (wJ D w) σ).heap.size=w.heap.size:=TK D w
 exact⟨by rw[e];exact⟨tJ h.at_.g,tJ h.at_.m,tJ h.at_.c,h.at_.ng,h.at_.nm,h.at_.nc,h.at_.name⟩,by rw[e];exact tJ h.row⟩
def flat:Value→Bool
 | .int _ _=>true
 | .string _=>true
 | _=>false
theorem Ew{ρ:bZ.Ren}{v:Value}(h:flat v=true):VR ρ v v:=by
 cases v <;> first|exact .int _ _|exact .string _|cases h
theorem Al{ρ:bZ.Ren}{c:Array Value}(h:∀v∈c.toList,VR ρ v v):dW ρ c c:=⟨rfl,fun i h1 _=>h _ zs⟩
theorem xO{c:Array Value}(h:c.toList.all flat=true):∀v∈c.toList,flat v=true:=fun v hv=>List.all_eq_true.1 h v hv
def OX(Bc G M C gA:Nat)(b:Nat):Prop:=b=Bc∨b=G∨b=M∨b=C∨b=gA
theorem Ko{Bc G M C gA p:Nat}{w:World}(hb:Whole w Bc 75 (aA (Tb 0 G M C) (some ⟨gA,0,none⟩) 4 p))(hT:WY w G M C)(hA:∃c e,w.heap[gA]? =some (.cells c e (0,0))∧∀x∈c.toList,∃n,x=int i64 n):Closed (OX Bc G M C gA) w:=fun b hd=>by
 have ar:∀g,OX Bc G M C gA g→bZ.AR (Ia (OX Bc G M C gA)) ⟨g,0,none⟩ ⟨g,0,none⟩:=fun g hg=>⟨Ns hg,rfl,rfl⟩
 rcases hd with rfl|rfl|rfl|rfl|rfl
 ·refine⟨_,_,_,hb,Nat.zero_le _,Al fun v hv=>?_⟩
  simp only[Tb,aA,List.mem_cons,List.not_mem_nil,or_false] at hv
  rcases hv with rfl|rfl|rfl|rfl|rfl|rfl
  ·exact .int _ _
  ·exact .int _ _
  ·exact .sl _ _ (ar G (.inr (.inl rfl)))
  ·exact .sl _ _ (ar M (.inr (.inr (.inl rfl))))
  ·exact .sl _ _ (ar C (.inr (.inr (.inr (.inl rfl)))))
  ·exact .sl _ _ (ar gA (.inr (.inr (.inr (.inr rfl)))))
 ·exact⟨_,_,_,hT.1,Nat.zero_le _,Al fun v hv=>Ew (xO zD v hv)⟩
 ·exact⟨_,_,_,hT.2.1,Nat.zero_le _,Al fun v hv=>Ew (xO zD v hv)⟩
 ·exact⟨_,_,_,hT.2.2,Nat.zero_le _,Al fun v hv=>Ew (xO zD v hv)⟩
 ·obtain⟨c,e,h1,h2⟩:=hA
  exact⟨_,_,_,h1,Nat.zero_le _,Al fun v hv=>by obtain⟨n,rfl⟩:=h2 v hv;exact .int _ _⟩
def XD(i:Nat):Bool:=decide (2≤i)
theorem OH:(List.range 4).filter XD=[2,3]:=zD
theorem Qh{Bc G M C gA p:Nat}{w:World}(hb:Whole w Bc 75 (aA (Tb 0 G M C) (some ⟨gA,0,none⟩) 4 p))(hT:WY w G M C)(hA:∃c e,w.heap[gA]? =some (.cells c e (0,0))∧∀x∈c.toList,∃n,x=int i64 n)(hc:pQ (Tb 0 G M C) (some ⟨gA,0,none⟩) w):MG 4 Bc XD w:=by
 refine⟨zD,OX Bc G M C gA,Ko hb hT hA,.inl rfl,0,fun i hi σ=>?_⟩
 have hl4:(ak (Tb 0 G M C)).length=4:=by rw[wT];rfl
 have q:∀j,(on (wJ (OX Bc G M C gA) w) σ).cell? ⟨Bc,j,none⟩=(aA (Tb 0 G M C) (some ⟨gA,0,none⟩) (ak (Tb 0 G M C)).length p)[j]?:=fun j=>by
  rw[Gl,hl4]
  exact hb.cell j
 have hs:i=0∨i=1∨i=2∨i=3:=zo
 have hset:(aM i 10).length≤4∧∀x∈aM i 10,0≤x∧x<((Tb 0 G M C).nc:Int):=by
  show _∧∀x∈aM i 10,0≤x∧x<(2:Int)
  rcases hs with rfl|rfl|rfl|rfl <;> decide
 have:=OT (Tb 0 G M C) (some ⟨gA,0,none⟩) p i Bc (on (wJ (OX Bc G M C gA) w) σ) (XL hc) (ko 0 zD G M C) (fC 0 G M C) zo hset.1 hset.2 q
 refine CallsIn.mono this ?_
 rintro e w' ⟨⟨A',cc',rfl⟩,-⟩
 rcases hs with rfl|rfl|rfl|rfl
 ·rw[QV];rfl
 ·rw[QW];rfl
 ·rw[QX];rfl
 ·rw[QY];rfl
end
section
open Go.RowKit
open Go.Sort (grow)
attribute [local go_sem] Oper.semAt_some
theorem UJ(g c g1 c1 g2 c2:Nat)(w:World)(h0:w.cell? ⟨g,0,none⟩=some (.slice (some ⟨g1,0,none⟩) 1 c1))(h1:w.cell? ⟨g,1,none⟩=some (.slice (some ⟨g2,0,none⟩) 2 c2))(h10:w.cell? ⟨g1,0,none⟩=some (int i64 1))(h20:w.cell? ⟨g2,0,none⟩=some (int i64 0)):
 CallsIn FF 0 prog 124 #[.func (.func 125) #[] #[],.slice (some ⟨g,0,none⟩) 2 c] w fun e w'=>e=.returned (.tuple #[.slice (some ⟨g1,0,none⟩) 1 c1,.bool true])∧Below w.heap.size w w':=by
 have HC:=hid (OY g2 c2 g1 c1 w h20 h10)
 gi_enter func124,ntmps124
 gi_wp2
 refine wpIn_loop_rounds 3 ?_
 rw[roundsIn_succ]
 gi_wp2
 repeat (refine⟨fun f h=>(by cases h),?_⟩;gi_wp2)
 rw[roundsIn_succ]
 gi_wp2_with (gi_at_call 125;refine HC.out.mono ?_;rintro e w3 ⟨rfl,hb3⟩)
 rw[roundsIn_succ]
 gi_wp2
 go_ret2
 exact⟨rfl,hb3⟩
theorem KZ(g c:Nat)(w:World)(hc0:w.cell? ⟨g,0,none⟩=some (int i64 2))(hc1:w.cell? ⟨g,1,none⟩=some (int i64 3))(hg:g<w.heap.size):CallsIn FF 0 prog 95 #[.slice (some ⟨g,0,none⟩) 2 c] w fun e w'=>∃v,e=.returned (.tuple #[v,.bool true])∧w'.ownsRow w.heap.size 3 1 v 1 [int i64 1]∧Below w.heap.size w w':=by
 have e2:aM 2 10=[1]:=zD
 have e3:aM 3 10=[0,1]:=zD
 have HS2:=hid fun w=>by have:=mQ 2 w zD;rw[e2] at this;exact this
 have Mu:=hid fun w=>by have:=mQ 3 w zD;rw[e3] at this;exact this
 have HL:=hid UJ
 obtain⟨i0,hi,hz0,hz1,hz2⟩:=info_parts Tryz.infoL
 have hi0:=hid hi
 clear hi e2 e3
 gi_enter func95,ntmps95
 gi_wp2
 refine wpIn_loop_rounds 3 ?_
 rw[roundsIn_succ]
 gi_wp2_with (first
  | (gi_at_call 102;refine(HS2.out w).mono ?_;rintro e w3 ⟨v,rfl,hown,hb3⟩;have pN:=hid hown;obtain⟨g1,c1,rfl,aav,aaw⟩:=hown.form zD;clear hown)
  | (gi_at_builtin;refine aD rfl rfl rfl fun K5 iH=>?_;refine wp_append_lies _ _ _ _ rfl w3.heap.size 51 i0 _ 1 24 underlying71 hi0.out hz0 hz1 hz2 rfl zo (.slice none 0 0) 0 [] rfl ⟨rfl,.inl ⟨rfl,rfl⟩⟩ ⟨w3.heap.size,0,none⟩ 1 1 [_] rfl rfl (World.news_of_block (heap_alloc_new w3 _)) (by simp[Value.oneCell']) zo zU zo zs (w3.heap.size+1) zs ?_;intro jN gQ w10 hown5 aN kX mP;refine iH _ _ ?_;clear iH K5))
 have Sq:Hid (Below w.heap.size w w10):=hid ((Below.al hb3 _).trans (below_grown aN (by simp;have:=hb3.size;omega) (fun g hg=>by cases hg)))
 have Sy:=hid (oZ (bD pN.out (.cells #[.slice (some ⟨g1,0,none⟩) [(1:Int)].length c1] 51)) aN (fun g hg=>by simp[Value.ownBlock]))
 have J1:=hid hown5
 have aaN:=Sq.out.size
 have aan:w3.heap.size+1≤w10.heap.size:=by
  have:=(below_grown (B:=w3.heap.size) aN zs (fun g hg=>by cases hg)).size
  simpa using this
 have hc1':w10.cell? ⟨g,1,none⟩=some (int i64 3):=(Sq.out.cell hg).trans hc1
 have aaz:w3.heap.size≤jN:=(bL hown5 (g:=jN) rfl).1
 have hgg:g1<jN:=by have:=(bL hown5 (g:=jN) rfl).1;omega
 rw[roundsIn_succ]
 gi_wp2_with (first
  | (gi_at_call 102;refine(Mu.out w10).mono ?_;rintro e w13 ⟨v,rfl,hown,Bq⟩;have LL:=hid hown;obtain⟨g2,c2,rfl,aax,aay⟩:=hown.form zD;clear hown)
  | (gi_at_builtin;refine aD rfl rfl rfl fun K5 iH=>?_;refine wp_append_lies _ _ _ _ rfl w3.heap.size 51 i0 _ 1 24 underlying71 hi0.out hz0 hz1 hz2 rfl zo (.slice (some ⟨jN,0,none⟩) 1 gQ) 1 _ rfl (bD (own_below J1.out Bq) _) ⟨w13.heap.size,0,none⟩ 1 1 [_] rfl rfl (World.news_of_block (heap_alloc_new w13 _)) (by simp[Value.oneCell']) zo zU zo (by have:=Bq.size;simp;omega) (w13.heap.size+1) zs ?_;intro uu cap4 w20 hown6 uH TT xN;refine iH _ _ ?_;clear iH K5))
 have km:Below w3.heap.size w10 w20:=((Bq.mono zo).alloc (by have:=Bq.size;omega) _).trans (below_grown uH (by have:=Bq.size;simp;omega) (fun q hq=>by cases hq;omega))
 have L1:=oZ (bD (own_below Sy.out Bq) (.cells #[.slice (some ⟨g2,0,none⟩) [(0:Int),1].length c2] 51)) uH (fun q hq e=>by cases hq;cases e;omega)
 have L2:=oZ (bD LL.out (.cells #[.slice (some ⟨g2,0,none⟩) [(0:Int),1].length c2] 51)) uH (fun q hq e=>by cases hq;cases e;omega)
 have k1:=L1.cells (g:=g1) rfl 0 (int i64 1) zs
 have k2:=L2.cells (g:=g2) rfl 0 (int i64 0) zs
 have k3:=hown6.cells (g:=uu) rfl 0 (.slice (some ⟨g1,0,none⟩) 1 c1) zs
 have k4:=hown6.cells (g:=uu) rfl 1 (.slice (some ⟨g2,0,none⟩) 2 c2) zs
 simp only[Addr.add] at k1 k2 k3 k4
 rw[roundsIn_succ]
 gi_wp2_with (gi_at_call 124;refine(HL.out uu cap4 g1 c1 g2 c2 w20 (by simpa using k3) (by simpa using k4) (by simpa using k1) (by simpa using k2)).mono ?_;rintro e w22 ⟨rfl,vr⟩)
 go_ret2
 refine⟨_,rfl,own_below L1 vr,Below.next (Sq.out.trans (km.mono ?_)) vr⟩
 have:=hb3.size
 omega
end
section
open Go Go.Conc Go.ConcN Go.bZ Go.Conc.Lib Go.aP Go.RowKit
attribute [local go_sem] Oper.semAt_some
variable[Inhabited aT]
def Past(w w':World):Prop:=∃τ,Below w.heap.size (on w τ) w'
theorem Past.below{w w' w2:World}(h:Past w w')(k:Below w'.heap.size w' w2):Past w w2:=by
 obtain⟨τ,h⟩:=h
 exact⟨τ,h.trans (k.mono h.size)⟩
theorem Past.of{w w1 w':World}(h:Below w.heap.size w w1)(k:Past w1 w'):Past w w':=by
 obtain⟨τ,k⟩:=k
 have hs:=h.size
 exact⟨τ,⟨k.os.trans h.os,k.tape,k.output.trans h.output,Nat.le_trans h.size k.size,fun b hb=>(k.block b (Nat.lt_of_lt_of_le hb hs)).trans (h.block b hb)⟩⟩
def RD(w:World)(x:Value)(w':World):Prop:=∃v,x=.tuple #[v,.bool true]∧w'.ownsRow w.heap.size 3 1 v 1 [int i64 1]∧Past w w'
theorem OU(G M C gA p:Nat)(w:World)(hT:WY w G M C)(hA:∃c e,w.heap[gA]? =some (.cells c e (0,0))∧∀x∈c.toList,∃n,x=int i64 n)(hc:pQ (Tb 0 G M C) (some ⟨gA,0,none⟩) w):iY 71 #[.agg (aA (Tb 0 G M C) (some ⟨gA,0,none⟩) 4 p)] w (RD w):=by
 obtain⟨w1,hw1⟩:∃w1,w1=w.alloc (.cells (aA (Tb 0 G M C) (some ⟨gA,0,none⟩) 4 p) 75):=zE
 have B1:Below w.heap.size w w1:=by rw[hw1];exact bw
 have X1:Whole w1 w.heap.size 75 (aA (Tb 0 G M C) (some ⟨gA,0,none⟩) 4 p):=by rw[hw1];exact Whole.new _ _ _
 have hpre:MG 4 w.heap.size XD w1:=by
  refine Qh X1 (hT.of fun b hb=>B1.block b hb) ?_ (hc.below B1)
  obtain⟨c,e,h1,h2⟩:=hA
  exact⟨c,e,(B1.block _ (Array.getElem?_eq_some_iff.1 h1).1).trans h1,h2⟩
 have HV:=hid (Q0 w.heap.size XD w1 hpre OH)
 have HB1:=hid B1
 clear hpre hT hA hc B1
 simp only[Tb,aA] at hw1 X1⊢
 have x4:w1.cell? ⟨w.heap.size,4,none⟩=some (.slice (some ⟨C,0,none⟩) 2 2):=X1.cell 4
 have hs1:w1.heap.size=w.heap.size+1:=by rw[hw1];simp
 have Jw:=hid hs1
 have HW1:=hid hw1
 clear X1 hw1 hs1
 refine kK func71 rfl zs ?_
 simp only[ntmps71,List.size_toArray,List.length_cons,List.length_nil,Nat.reduceAdd,Nat.reduceSub,Array.replicate_succ,Array.replicate_zero,List.push_toArray,List.append_toArray,List.nil_append,List.cons_append]
 repeat refine aj.seq ?_
 refine aj.item ?_
 gi_wp2
 repeat refine aj.seq ?_
 rw[← HW1.out]
 refine aj.eX 7 zD ?_
 simp only[List.take_succ_cons,List.take_zero]
 gi_wp2
 refine fU rfl rfl rfl (enters_of func99 zk rfl) (Rc:=wZ w1) (args:=#[int i64 4,fD w.heap.size]) (by simp only[List.map_toArray,List.map_cons,List.map_nil];rfl) HV.out ?_
 rintro v w2 ⟨⟨τ,hb2⟩,hown⟩
 have hb2':=hb2.size
 have yo:w1.heap.size≤w2.heap.size:=hb2'
 obtain⟨g,cap,rfl,hg1,hg2⟩:=hown.form zD
 have k0:w2.cell? ⟨g,0,none⟩=some (int i64 2):=by simpa [Addr.add] using hown.cells (g:=g) rfl 0 (int i64 2) rfl
 have k1:w2.cell? ⟨g,1,none⟩=some (int i64 3):=by simpa [Addr.add] using hown.cells (g:=g) rfl 1 (int i64 3) rfl
 have HL:=hid (KZ g cap w2 k0 k1 hg2)
 have HP:Hid (Past w1 w2):=hid ⟨τ,hb2⟩
 have HS2:=hid yo
 clear hb2 hb2' hown k0 k1 hg1 hg2 yo x4
 simp only[List.drop_succ_cons,List.drop_zero,Act.put,List.setIfInBounds_toArray,List.set_cons_succ,List.set_cons_zero]
 gi_wp2_with (gi_at_call 95;refine HL.out.mono ?_;rintro e w3 ⟨v3,rfl,hv3,hb3⟩)
 simp only[tZ]
 gi_wp2
 refine⟨rfl,_,results_tmp2 rfl _ _ _,_,rfl,v3,rfl,dh hv3 (by have:=Jw.out;have:=HS2.out;omega),Past.of HB1.out (HP.out.below hb3)⟩
end
end Go.Proofs.YtpmafoalhnaokaaGreat
