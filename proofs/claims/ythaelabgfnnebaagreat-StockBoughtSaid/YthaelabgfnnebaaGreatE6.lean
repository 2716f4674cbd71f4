/- P22 P21 -/
import Derived.Test.YthaelabgfnnebaaGreatE5
set_option maxRecDepth 100000
set_option maxHeartbeats 16000000
set_option linter.unusedVariables false
set_option linter.unusedSectionVars false
open Go.IntKind(i64)
open Go.Lib(hid)
open Go.Proofs.Tryz
open Go.Value(int)
namespace Go.Proofs.YthaelabgfnnebaaGreat
section
open Go.RowKit Go.Sort
theorem wM(b:Bk)(l1 l2 l3:List Int)(w:World)(h:b.At w w.heap.size)(ok:b.Ok)(hcap:b.ng≤b.gc)(hp:vG b l1 l2 l3)(A1 A2 A3:Option Addr)(p1 p2 p3:Nat)
 (i1:Ints w w.heap.size A1 l1.length (fun i=>l1.getD i 0))(i2:Ints w w.heap.size A2 l2.length (fun i=>l2.getD i 0))(i3:Ints w w.heap.size A3 l3.length (fun i=>l3.getD i 0)):
 CallsIn FF 0 prog 52 #[b.val,.slice A1 l1.length p1,.slice A2 l2.length p2,.slice A3 l3.length p3] w fun e w'=>∃A n p,e=.returned (.tuple #[b.ZW A n p,(iy l1 l2 l3).val,int i64 0])∧Below w.heap.size w w':=by
 have po:=LQ ok hp
 have hC:∀w',Below w.heap.size w w'→CallsIn FF 0 prog 88 #[b.val,.slice A1 l1.length p1,.slice A2 l2.length p2,.slice A3 l3.length p3] w' fun e w2=>e=.returned (int i64 0)∧Below w'.heap.size w' w2:=fun w' hb=>
  EN b l1 l2 l3 w' ((h.below hb).more hb.size) ok hp A1 A2 A3 p1 p2 p3 (bK i1 hb) (bK i2 hb) (bK i3 hb)
 have hH:∀w',Below w.heap.size w w'→CallsIn FF 0 prog 89 #[.slice A1 l1.length p1,.slice A2 l2.length p2,.slice A3 l3.length p3] w' fun e w2=>e=.returned (iy l1 l2 l3).val∧Below w'.heap.size w' w2:=fun w' hb=>
  FD l1 l2 l3 w' A1 A2 A3 p1 p2 p3 (by rw[hp.n1];exact ok.bn.1.2) (by rw[hp.n2];exact ok.moves.1) po.2.2 po.2.1 (bK i1 hb) (bK i2 hb) (bK i3 hb)
 have hO:∀w',Below w.heap.size w w'→CallsIn FF 0 prog 33 #[b.val] w' fun e w2=>∃A n p,e=.returned (.tuple #[b.ZW A n p,int i64 0])∧Below w'.heap.size w' w2:=fun w' hb=>
  (SB b w' ((h.below hb).more hb.size) ok hcap).mono fun e w2 ⟨A,p,he,_,hb2⟩=>⟨A,_,p,he,hb2⟩
 obtain⟨days,most,gA,ng,gc,g,mA,nm,mc,m,cA,nc,cc,c⟩:=b
 obtain⟨n1,hn1⟩:∃n1,n1=l1.length:=⟨_,rfl⟩
 obtain⟨n2,hn2⟩:∃n2,n2=l2.length:=⟨_,rfl⟩
 obtain⟨n3,Pp⟩:∃n3,n3=l3.length:=⟨_,rfl⟩
 rw[← hn1,← hn2,← Pp] at hC hH⊢
 obtain⟨ht,hht⟩:∃ht,ht=iy l1 l2 l3:=⟨_,rfl⟩
 rw[← hht] at hH⊢
 clear hn1 hn2 Pp hht i1 i2 i3 po hp ok h hcap
 obtain⟨hf,hmm,lies⟩:=ht
 have mf:∀w',Below w.heap.size w w'→CallsIn FF 0 prog 33 #[.agg #[int i64 days,int i64 most,.slice gA ng gc,.slice mA nm mc,.slice cA nc cc]] w' fun e w2=>∃A n p,e=.returned (.tuple #[.agg #[int i64 days,int i64 most,.slice gA ng gc,.slice mA nm mc,.slice cA nc cc,.slice A n p],int i64 0])∧Below w'.heap.size w' w2:=hO
 simp only[Bk.val,Bk.cells,Ht.val,Ht.cells] at hC hH⊢
 have HC:=hid hC
 have HH:=hid hH
 have HO:=hid mf
 clear hC hH hO mf
 obtain⟨w3,hw3⟩:∃w3,w3=((w.alloc (.cells #[int i64 days,int i64 most,.slice gA ng gc,.slice mA nm mc,.slice cA nc cc] 26)).alloc (.cells #[int i64 0,int i64 0,.slice none 0 0,.slice none 0 0,.slice none 0 0,.slice none 0 0] 76)).alloc (.cells #[int i64 0,int i64 0,int i64 0,int i64 0,int i64 0,int i64 0,int i64 0,int i64 0,int i64 0,int i64 0] 88):=⟨_,rfl⟩
 have W0:Whole w3 w.heap.size 26 #[int i64 days,int i64 most,.slice gA ng gc,.slice mA nm mc,.slice cA nc cc]:=by rw[hw3];exact((Whole.new w _ _).alloc _).alloc _
 have W1:Whole w3 (w.heap.size+1) 76 #[int i64 0,int i64 0,.slice none 0 0,.slice none 0 0,.slice none 0 0,.slice none 0 0]:=by
  have:=(Whole.new (w.alloc (.cells #[int i64 days,int i64 most,.slice gA ng gc,.slice mA nm mc,.slice cA nc cc] 26)) 76 #[int i64 0,int i64 0,.slice none 0 0,.slice none 0 0,.slice none 0 0,.slice none 0 0]).alloc (.cells #[int i64 0,int i64 0,int i64 0,int i64 0,int i64 0,int i64 0,int i64 0,int i64 0,int i64 0,int i64 0] 88)
  rw[World.size_alloc] at this;rw[hw3];exact this
 have W2:Whole w3 (w.heap.size+1+1) 88 #[int i64 0,int i64 0,int i64 0,int i64 0,int i64 0,int i64 0,int i64 0,int i64 0,int i64 0,int i64 0]:=by
  have:=Whole.new ((w.alloc (.cells #[int i64 days,int i64 most,.slice gA ng gc,.slice mA nm mc,.slice cA nc cc] 26)).alloc (.cells #[int i64 0,int i64 0,.slice none 0 0,.slice none 0 0,.slice none 0 0,.slice none 0 0] 76)) 88 #[int i64 0,int i64 0,int i64 0,int i64 0,int i64 0,int i64 0,int i64 0,int i64 0,int i64 0,int i64 0]
  rw[World.size_alloc,World.size_alloc] at this;rw[hw3];exact this
 have WB:Below w.heap.size w w3:=by rw[hw3];exact bw
 have fY:=hid hw3
 have V1:=hid W1
 have V2:=hid W2
 have VB:=hid WB
 clear hw3 W0 W1 W2 WB
 gi_enter func52,ntmps52
 gi_wp2_with (first
  | (gi_at_call 33;rw[← fY.out];refine(HO.out _ VB.out).mono ?_;rintro e w5 ⟨A5,n5,p5,rfl,hb5⟩;have Er:=hid hb5;clear hb5;have Hc:=hid (Whole.new w5 76 #[int i64 days,int i64 most,.slice gA ng gc,.slice mA nm mc,.slice cA nc cc,.slice A5 n5 p5]);have hs5:=Er.out.size)
  | (gi_at_call 88;refine(HC.out _ (VB.out.trans ((Er.out.mono VB.out.size).trans (((Below.refl _ _).alloc (Nat.le_refl _) _).mono (Nat.le_trans VB.out.size Er.out.size))))).mono ?_;rintro e w7 ⟨rfl,Rj⟩;have Gr:=hid Rj;clear Rj))
 have hs3:w.heap.size+1+1<w3.heap.size:=V2.out.lt
 have UC:Hid (Below w3.heap.size w3 w7):=hid (Er.out.trans ((((Below.refl _ w5).alloc (Nat.le_refl _) _).mono hs5).trans (Gr.out.mono zm)))
 have C7:=hid (Hc.out.below Gr.out zs)
 have kc:=fun i=>C7.out.cell i
 have k0:=cell_regrown (C7.out.cell 0)
 have k1:=cell_regrown (C7.out.cell 1)
 have k2:=cell_regrown (C7.out.cell 2)
 have k3:=cell_regrown (C7.out.cell 3)
 have k4:=cell_regrown (C7.out.cell 4)
 have k5:=cell_regrown (C7.out.cell 5)
 clear kc
 have cH:∀d os,CallsIn FF 0 prog 89 #[.slice A1 n1 p1,.slice A2 n2 p2,.slice A3 n3 p3] (grow (redrawn w7 d) os) fun e w''=>e=.returned (.agg #[int i64 (hf 0),int i64 (hf 1),int i64 (hf 2),int i64 (hmm 0),int i64 (hmm 1),int i64 (hmm 2),int i64 (hmm 3),int i64 (hmm 4),int i64 (hmm 5),int i64 lies])∧∃p:Regrown,w''=grow (redrawn w7 p.d) p.os:=fun d os=>CallsIn.regrown_of (HH.out _ ((VB.out.trans (UC.out.mono VB.out.size)).trans ((below_regrown w7 d os).mono (Nat.le_trans VB.out.size UC.out.size))))
 refine aJ 5 rfl zk zk ?_
 simp only[List.take_succ_cons,List.take_zero,List.drop_succ_cons,List.drop_zero]
 repeat (quiet_step_in (exact cH _ _))
 refine wpQuietIn_nil ?_
 rintro w' ⟨⟨dq,osq⟩,rfl⟩
 have bg:=below_regrown w7 dq osq
 clear k0 k1 k2 k3 k4 k5 cH
 generalize grow (redrawn w7 dq) osq=w9 at bg⊢
 have Zk:Hid (Below w3.heap.size w3 w9):=hid (UC.out.trans (bg.mono UC.out.size))
 have X1:=hid (V1.out.below Zk.out V1.out.lt)
 have X2:=hid (V2.out.below Zk.out V2.out.lt)
 have X9:Hid (Below w.heap.size w w9):=hid (VB.out.trans (Zk.out.mono VB.out.size))
 have x1:=X1.out.cell
 have f1:=X1.out.thaw
 have x2:=X2.out.cell
 have f2:=X2.out.thaw
 have t1:=X1.out.lt
 have t2:=X2.out.lt
 clear bg hs3 hs5
 gi_wp2
 have hne:w.heap.size+1+1≠w.heap.size+1:=zo
 have hne':w.heap.size+1≠w.heap.size+1+1:=zo
 have h1:w.heap.size≤w.heap.size+1:=zo
 have h2:w.heap.size≤w.heap.size+1+1:=zo
 have U1:=((((((((((((((((X1.out.set 0 (int i64 days)).set 1 (int i64 most)).set 2 (.slice gA ng gc)).set 3 (.slice mA nm mc)).set 4 (.slice cA nc cc)).set 5 (.slice A5 n5 p5)).other (p:=⟨w.heap.size+1+1,0,none⟩) hne' (int i64 (hf 0))).other (p:=⟨w.heap.size+1+1,1,none⟩) hne' (int i64 (hf 1))).other (p:=⟨w.heap.size+1+1,2,none⟩) hne' (int i64 (hf 2))).other (p:=⟨w.heap.size+1+1,3,none⟩) hne' (int i64 (hmm 0))).other (p:=⟨w.heap.size+1+1,4,none⟩) hne' (int i64 (hmm 1))).other (p:=⟨w.heap.size+1+1,5,none⟩) hne' (int i64 (hmm 2))).other (p:=⟨w.heap.size+1+1,6,none⟩) hne' (int i64 (hmm 3))).other (p:=⟨w.heap.size+1+1,7,none⟩) hne' (int i64 (hmm 4))).other (p:=⟨w.heap.size+1+1,8,none⟩) hne' (int i64 (hmm 5))).other (p:=⟨w.heap.size+1+1,9,none⟩) hne' (int i64 lies))
 have U2:=((((((((((((((((X2.out.other (p:=⟨w.heap.size+1,0,none⟩) hne (int i64 days)).other (p:=⟨w.heap.size+1,1,none⟩) hne (int i64 most)).other (p:=⟨w.heap.size+1,2,none⟩) hne (.slice gA ng gc)).other (p:=⟨w.heap.size+1,3,none⟩) hne (.slice mA nm mc)).other (p:=⟨w.heap.size+1,4,none⟩) hne (.slice cA nc cc)).other (p:=⟨w.heap.size+1,5,none⟩) hne (.slice A5 n5 p5)).set 0 (int i64 (hf 0))).set 1 (int i64 (hf 1))).set 2 (int i64 (hf 2))).set 3 (int i64 (hmm 0))).set 4 (int i64 (hmm 1))).set 5 (int i64 (hmm 2))).set 6 (int i64 (hmm 3))).set 7 (int i64 (hmm 4))).set 8 (int i64 (hmm 5))).set 9 (int i64 lies))
 have UB:=((((((((((((((((X9.out.setCell (p:=⟨w.heap.size+1,0,none⟩) h1 (int i64 days)).setCell (p:=⟨w.heap.size+1,1,none⟩) h1 (int i64 most)).setCell (p:=⟨w.heap.size+1,2,none⟩) h1 (.slice gA ng gc)).setCell (p:=⟨w.heap.size+1,3,none⟩) h1 (.slice mA nm mc)).setCell (p:=⟨w.heap.size+1,4,none⟩) h1 (.slice cA nc cc)).setCell (p:=⟨w.heap.size+1,5,none⟩) h1 (.slice A5 n5 p5)).setCell (p:=⟨w.heap.size+1+1,0,none⟩) h2 (int i64 (hf 0))).setCell (p:=⟨w.heap.size+1+1,1,none⟩) h2 (int i64 (hf 1))).setCell (p:=⟨w.heap.size+1+1,2,none⟩) h2 (int i64 (hf 2))).setCell (p:=⟨w.heap.size+1+1,3,none⟩) h2 (int i64 (hmm 0))).setCell (p:=⟨w.heap.size+1+1,4,none⟩) h2 (int i64 (hmm 1))).setCell (p:=⟨w.heap.size+1+1,5,none⟩) h2 (int i64 (hmm 2))).setCell (p:=⟨w.heap.size+1+1,6,none⟩) h2 (int i64 (hmm 3))).setCell (p:=⟨w.heap.size+1+1,7,none⟩) h2 (int i64 (hmm 4))).setCell (p:=⟨w.heap.size+1+1,8,none⟩) h2 (int i64 (hmm 5))).setCell (p:=⟨w.heap.size+1+1,9,none⟩) h2 (int i64 lies))
 have q0:=U1.cell 0
 have q1:=U1.cell 1
 have q2:=U1.cell 2
 have q3:=U1.cell 3
 have q4:=U1.cell 4
 have q5:=U1.cell 5
 have r0:=U2.cell 0
 have r1:=U2.cell 1
 have r2:=U2.cell 2
 have r3:=U2.cell 3
 have r4:=U2.cell 4
 have r5:=U2.cell 5
 have r6:=U2.cell 6
 have r7:=U2.cell 7
 have r8:=U2.cell 8
 have r9:=U2.cell 9
 clear x1 f1 x2 f2 t1 t2 U1 U2
 refine bodyPost_ret (v:=.tuple #[.agg #[int i64 days,int i64 most,.slice gA ng gc,.slice mA nm mc,.slice cA nc cc,.slice A5 n5 p5],.agg #[int i64 (hf 0),int i64 (hf 1),int i64 (hf 2),int i64 (hmm 0),int i64 (hmm 1),int i64 (hmm 2),int i64 (hmm 3),int i64 (hmm 4),int i64 (hmm 5),int i64 lies],int i64 0]) (by simp[results,results52,go_sem,q0,q1,q2,q3,q4,q5,r0,r1,r2,r3,r4,r5,r6,r7,r8,r9]) rfl ⟨A5,n5,p5,rfl,UB⟩
end
section
open Go.RowKit
theorem KR(xs:Nat→Int)(A:Option Addr)(n p:Nat)(w:World)(hI:Ints w w.heap.size A n xs)(hn:0<n)(Pp:n≤3):
 CallsIn FF 0 prog 54 #[.slice A n p] w fun e w'=>∃A' p',e=.returned (.slice A' n p')∧Ints w' w'.heap.size A' n xs∧Below w.heap.size w w':=by
 obtain⟨ad,rfl,-⟩:=hI hn
 have HI:=hid hI
 clear hI
 obtain⟨i0,hi,hz0,hz1,hz2⟩:=info_parts info3
 have hi0:=hid hi
 clear hi
 have he:∀w,(binOp BinOp.eql 30 (.slice (some ad) n p) (.slice none 0 0)).run prog w=.ok (.bool false) w:=fun w=>zk
 gi_enter func54,ntmps54
 have hown:(w.alloc (.cells #[] 3)).ownsRow w.heap.size 3 1 (.slice (some ⟨w.heap.size,0,none⟩) 0 0) 0 []:=⟨rfl,.inr ⟨_,_,_,rfl,Nat.le_refl _,heap_alloc_new w _,Nat.le_refl _,Nat.zero_le _,rfl,rfl⟩⟩
 have wA:=hid hown
 clear hown
 have hnews:∀j u,((List.range n).map fun i=>int i64 (xs i))[j]? =some u→(w.alloc (.cells #[] 3)).cell? (ad.add j)=some u:=fun j u hu=>by
  have hj:j<n:=by
   have:=(List.getElem?_eq_some_iff.1 hu).1
   simpa using this
  have e:=Ints.at_ (HI.out.alloc (Nat.le_refl _) (.cells #[] 3)) hj
  rw[e]
  simp[hj] at hu⊢
  exact hu
 have Hn:=hid hnews
 clear hnews
 gi_wp2_with (gi_at_builtin;refine aF rfl rfl rfl fun K5 jf=>?_;refine wp_append_lies _ _ _ _ rfl w.heap.size 3 i0 _ 1 8 underlying30 hi0.out hz0 hz1 hz2 rfl zo (.slice (some ⟨w.heap.size,0,none⟩) 0 0) 0 _ rfl wA.out ad n p ((List.range n).map fun i=>int i64 (xs i)) rfl zs Hn.out (by simp[Value.oneCell']) hn zU zo zs (w.heap.size+1) zs ?_;intro qM oH w5 hown5 aQ ni oI;refine jf _ _ ?_;clear jf K5)
 go_ret
 refine⟨_,_,rfl,?_,((Below.refl _ _).alloc (Nat.le_refl _) _).trans (below_grown aQ zs (fun g hg=>by cases hg;exact Nat.le_refl _))⟩
 intro _
 obtain⟨g,cap,hv,_,hlt⟩:=hown5.form zo
 have hA:(some ⟨qM,0,none⟩:Option Addr)=some ⟨g,0,none⟩:=by injection hv
 cases hA
 refine⟨_,rfl,oI,fun i j hi hj=>?_⟩
 obtain rfl:j=0:=zo
 have:=hown5.cells (g:=qM) rfl i (int i64 (xs i)) (by simp[hi])
 simpa [Addr.add] using this
end
end Go.Proofs.YthaelabgfnnebaaGreat
