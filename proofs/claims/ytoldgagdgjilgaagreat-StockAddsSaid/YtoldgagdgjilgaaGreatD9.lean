/- HQ HB -/
import Derived.Test.YtoldgagdgjilgaaGreatD8
import Derived.Test.YtoldgagdgjilgaaGreatB2
set_option maxRecDepth 100000
set_option maxHeartbeats 16000000
set_option linter.unusedVariables false
set_option linter.unusedSectionVars false
open Go.IntKind(i64)
open Go.Lib(hid)
open Go.Proofs.Tryz
open Go.Value(int)
namespace Go.Proofs.YtoldgagdgjilgaaGreat
section
open Go.RowKit
open Go.Sort (grow)
attribute [local go_sem] Oper.semAt_some
theorem aO{w:World}{t:TypeId}{cs:Array Value}{n:Nat}(h:w.heap.size=n):Whole (w.alloc (.cells cs t)) n t cs:=by subst h;exact Whole.new _ _ _
theorem uf(b:Bk)(k:Nat)(w:World)(h:b.At w w.heap.size)(ok:b.Ok)(hcap:b.ng≤b.gc)(hl:∀s∈ak b,dR s)(hlen:(aD b (ak b)).length<2 ^ 40)(hk:k<b.nm)(hkd:(b.m k).kind=0):CallsIn FF 0 prog 15 #[b.val,int i64 k] w fun e w'=>e=.returned (.tuple #[int i64 (Lx (aD b (ak b)).length ((aD b (ak b)).filter fun h=>h.GU k).length),int i64 (Qn (aD b (ak b)).length)])∧Below w.heap.size w w':=by
 have hx:=iX b ok (ak b) hl
 have HO:=hid fun w h=>mZ b w h ok hcap
 have HH:=hid fun A p w hc=>sW b ok hl A p w hc
 have HN:=hid fun w h=>by have:=sj b k w h hk;rw[decide_eq_true hkd] at this;exact this
 have Q6:k<6:=by have:=ok.moves.1;omega
 have HK:=hid fun lb B w h hB=>da 60 lb 47 #[.pointer (some ⟨B,0,none⟩)] (fun h=>h.GU k) (aD b (ak b)) w hlen h (QD k Q6 _ hx B w hB)
 have HA:=hid h
 have HC:=hid fun A w (h:og b A w)=>h.at_
 obtain⟨n,hn⟩:∃n,n=(ak b).length:=⟨_,rfl⟩
 obtain⟨xs,hxs⟩:∃xs,xs=aD b (ak b):=⟨_,rfl⟩
 rw[← hn] at HO HH
 rw[← hxs] at HH HK⊢
 obtain⟨R1,fw⟩:∃R,R=Lx xs.length (xs.filter fun h=>h.GU k).length:=⟨_,rfl⟩
 rw[← fw] at HK⊢
 clear hn hxs h hcap hl hlen ok fw hkd hx
 obtain⟨days,most,gA,ng,gc,g,mA,nm,mc,m,cA,nc,cc,c⟩:=b
 simp only[Bk.val,Bk.cells,aA] at HO HH HN⊢
 have K1:Hid (Whole ((w.alloc (.cells #[int i64 days,int i64 most,.slice gA ng gc,.slice mA nm mc,.slice cA nc cc] 26)).alloc (.cells #[int i64 k] 3)) (w.heap.size+1) 3 #[int i64 k]):=hid (aO zs)
 gi_enter func15,ntmps15
 gi_wp2_with (first
  | (gi_at_call 37;refine(HO.out _ (HA.out.up (bw))).mono ?_;rintro e w2 ⟨A,p,rfl,hc2,hb2,-⟩;have K2:=(K1.out.below hb2 zs).alloc (.cells #[int i64 days,int i64 most,.slice gA ng gc,.slice mA nm mc,.slice cA nc cc,.slice A n p] 61);have k2:(w2.alloc (.cells #[int i64 days,int i64 most,.slice gA ng gc,.slice mA nm mc,.slice cA nc cc,.slice A n p] 61)).cell? ⟨w.heap.size+1,0,none⟩=some (int i64 k):=K2.cell 0)
  | (gi_at_call 45;refine(HN.out _ ((HC.out A _ (hc2.below (bw))))).mono ?_;rintro e w3 ⟨rfl,hb3⟩;have X3:Whole w3 w2.heap.size 61 #[int i64 days,int i64 most,.slice gA ng gc,.slice mA nm mc,.slice cA nc cc,.slice A n p]:=(Whole.new w2 _ _).below hb3 zs;have x0:w3.cell? ⟨w2.heap.size,0,none⟩=some (int i64 days):=X3.cell 0;have x1:w3.cell? ⟨w2.heap.size,1,none⟩=some (int i64 most):=X3.cell 1;have x2:w3.cell? ⟨w2.heap.size,2,none⟩=some (.slice gA ng gc):=X3.cell 2;have x3:w3.cell? ⟨w2.heap.size,3,none⟩=some (.slice mA nm mc):=X3.cell 3;have x4:w3.cell? ⟨w2.heap.size,4,none⟩=some (.slice cA nc cc):=X3.cell 4;have x5:w3.cell? ⟨w2.heap.size,5,none⟩=some (.slice A n p):=X3.cell 5;have K3:=K2.below hb3 K2.lt)
  | (gi_at_call 26;refine(HH.out A p _ ((hc2.below (bw)).below hb3)).mono ?_;rintro e w4 ⟨lb,rfl,hs4,hb4⟩)
  | (gi_at_call 46;refine(HK.out lb _ _ hs4 (K3.below hb4 K3.lt)).mono ?_;rintro e w5 ⟨rfl,hb5⟩))
 go_ret2
 exact⟨rfl,Below.next (Below.next (Below.next (Below.al (Below.next (bw) hb2) _) hb3) hb4) hb5⟩
theorem Gp(b:Bk)(k:Nat)(w:World)(h:b.At w w.heap.size)(ok:b.Ok)(hcap:b.ng≤b.gc)(hl:∀s∈ak b,dR s)(hk:(k:Int)≤b.days):CallsIn FF 0 prog 16 #[b.val,int i64 k] w fun e w'=>e=.returned (.tuple #[.agg #[int i64 (bg (fun h=>iA b (stk b h k b.nm) b.ng) (aD b (ak b))).1,int i64 (bg (fun h=>iA b (stk b h k b.nm) b.ng) (aD b (ak b))).2.1],int i64 (if (bg (fun h=>iA b (stk b h k b.nm) b.ng) (aD b (ak b))).2.2 then 0 else 9)])∧Below w.heap.size w w':=by
 have hx:=iX b ok (ak b) hl
 have HO:=hid fun w h=>mZ b w h ok hcap
 have HH:=hid fun A p w hc=>sW b ok hl A p w hc
 have HN:=hid fun(w:World)=>show CallsIn FF 0 prog 39 #[b.val,int i64 k] w fun e w'=>e=.returned (.bool true)∧Below w.heap.size w w' from by
  have:=vY b k w
  have e:fJ (k:Int) 0 b.days=true:=by unfold fJ;simp;omega
  rwa[e] at this
 have HK:=hid fun lb A n p Bc B w h hA hc hB=>Dq 60 lb 49 #[.pointer (some ⟨Bc,0,none⟩),.pointer (some ⟨B,0,none⟩)] (fun h=>iA b (stk b h k b.nm) b.ng) (aD b (ak b)) w h (TL b ok A n p k _ hx Bc B w hA hc hB)
 have HA:=hid h
 have HC:=hid fun A w (h:og b A w)=>h.at_
 obtain⟨n,hn⟩:∃n,n=(ak b).length:=⟨_,rfl⟩
 obtain⟨xs,hxs⟩:∃xs,xs=aD b (ak b):=⟨_,rfl⟩
 rw[← hn] at HO HH
 rw[← hxs] at HH HK⊢
 obtain⟨⟨R1,R2,R3⟩,hR⟩:∃R,R=bg (fun h=>iA b (stk b h k b.nm) b.ng) xs:=⟨_,rfl⟩
 rw[← hR] at HK⊢
 obtain⟨R4,QK⟩:∃R4:Int,R4=if (R1,R2,R3).2.2=true then 0 else 9:=⟨_,rfl⟩
 rw[← QK] at HK⊢
 clear hn hxs h hcap hl ok hR QK hk hx
 obtain⟨days,most,gA,ng,gc,g,mA,nm,mc,m,cA,nc,cc,c⟩:=b
 simp only[Bk.val,Bk.cells,aA] at HO HH HN HK⊢
 have K1:Hid (Whole (((w.alloc (.cells #[int i64 days,int i64 most,.slice gA ng gc,.slice mA nm mc,.slice cA nc cc] 26)).alloc (.cells #[int i64 k] 3)).alloc (.cells #[int i64 0,int i64 0] 30)) (w.heap.size+1) 3 #[int i64 k]):=hid ((aO zs).alloc _)
 have Z1:Hid (Whole (((w.alloc (.cells #[int i64 days,int i64 most,.slice gA ng gc,.slice mA nm mc,.slice cA nc cc] 26)).alloc (.cells #[int i64 k] 3)).alloc (.cells #[int i64 0,int i64 0] 30)) (w.heap.size+1+1) 30 #[int i64 0,int i64 0]):=hid (aO zs)
 gi_enter func16,ntmps16
 gi_wp2_with (first
  | (gi_at_call 37;refine(HO.out _ (HA.out.up (bw))).mono ?_;rintro e w2 ⟨A,p,rfl,hc2,hb2,-⟩;have K2:=(K1.out.below hb2 zs).alloc (.cells #[int i64 days,int i64 most,.slice gA ng gc,.slice mA nm mc,.slice cA nc cc,.slice A n p] 61);have k2:(w2.alloc (.cells #[int i64 days,int i64 most,.slice gA ng gc,.slice mA nm mc,.slice cA nc cc,.slice A n p] 61)).cell? ⟨w.heap.size+1,0,none⟩=some (int i64 k):=K2.cell 0;have Z2:=(Z1.out.below hb2 zs).alloc (.cells #[int i64 days,int i64 most,.slice gA ng gc,.slice mA nm mc,.slice cA nc cc,.slice A n p] 61))
  | (gi_at_call 39;refine(HN.out _).mono ?_;rintro e w3 ⟨rfl,hb3⟩;have X3:Whole w3 w2.heap.size 61 #[int i64 days,int i64 most,.slice gA ng gc,.slice mA nm mc,.slice cA nc cc,.slice A n p]:=(Whole.new w2 _ _).below hb3 zs;have x0:w3.cell? ⟨w2.heap.size,0,none⟩=some (int i64 days):=X3.cell 0;have x1:w3.cell? ⟨w2.heap.size,1,none⟩=some (int i64 most):=X3.cell 1;have x2:w3.cell? ⟨w2.heap.size,2,none⟩=some (.slice gA ng gc):=X3.cell 2;have x3:w3.cell? ⟨w2.heap.size,3,none⟩=some (.slice mA nm mc):=X3.cell 3;have x4:w3.cell? ⟨w2.heap.size,4,none⟩=some (.slice cA nc cc):=X3.cell 4;have x5:w3.cell? ⟨w2.heap.size,5,none⟩=some (.slice A n p):=X3.cell 5;have K3:=K2.below hb3 K2.lt)
  | (gi_at_call 26;refine(HH.out A p _ ((hc2.below (bw)).below hb3)).mono ?_;rintro e w4 ⟨lb,rfl,hs4,hb4⟩)
  | (gi_at_call 25;refine(HK.out lb A n p _ _ _ hs4 (((HC.out A _ (hc2.below (bw))).up hb3).up hb4) (X3.below hb4 X3.lt) (K3.below hb4 K3.lt)).mono ?_;rintro e w5 ⟨rfl,hb5⟩;have E5:=hb4.trans (hb5.mono hb4.size);have Z5:=(Z2.below hb3 Z2.lt).below E5 (Z2.below hb3 Z2.lt).lt;have z0:w5.cell? ⟨w.heap.size+1+1,0,none⟩=some (int i64 0):=Z5.cell 0;have z1:w5.cell? ⟨w.heap.size+1+1,1,none⟩=some (int i64 0):=Z5.cell 1;have zf:=Z5.thaw))
 have U:=(Z5.set 0 (int i64 R1)).set 1 (int i64 R2)
 have u0:=U.cell 0
 have u1:=U.cell 1
 refine bodyPost_ret (v:=.tuple #[.agg #[int i64 R1,int i64 R2],int i64 R4]) (by simp[results,results16,go_sem,u0,u1]) rfl ⟨rfl,?_⟩
 exact((Below.next (Below.next (Below.al (Below.next (bw) hb2) _) hb3) E5).setCell zm _).setCell zm _
theorem Gn(b:Bk)(gd:Nat)(w:World)(h:b.At w w.heap.size)(ok:b.Ok)(hcap:b.ng≤b.gc)(hl:∀s∈ak b,dR s)(hgd:gd<b.ng):CallsIn FF 0 prog 17 #[b.val,int i64 gd,int i64 2] w fun e w'=>e=.returned (.tuple #[.agg #[int i64 (bg (fun h=>IntKind.i64.wrap ((stk b h b.days b.nm gd).tdiv 2)) (aD b (ak b))).1,int i64 (bg (fun h=>IntKind.i64.wrap ((stk b h b.days b.nm gd).tdiv 2)) (aD b (ak b))).2.1],int i64 (if (bg (fun h=>IntKind.i64.wrap ((stk b h b.days b.nm gd).tdiv 2)) (aD b (ak b))).2.2 then 0 else 9)])∧Below w.heap.size w w':=by
 have hx:=iX b ok (ak b) hl
 have HO:=hid fun w h=>qb b gd w h ok hcap hgd
 have HH:=hid fun A p w hc=>sW b ok hl A p w hc
 have hg3:gd<3:=by have:=ok.dG.1.2;omega
 have HN:=hid fun(w:World)=>show CallsIn FF 0 prog 51 #[int i64 2,int i64 1,int i64 99] w fun e w'=>e=.returned (.bool true)∧w=w' from by
  have:=bZ 2 1 99 w
  have e:fJ 2 1 99=true:=zD
  rwa[e] at this
 have HK:=hid fun lb A n p Bc Bg B w h hA hc hg hB=>Dq 60 lb 52 #[.pointer (some ⟨Bc,0,none⟩),.pointer (some ⟨Bg,0,none⟩),.pointer (some ⟨B,0,none⟩)] (fun h=>IntKind.i64.wrap ((stk b h b.days b.nm gd).tdiv 2)) (aD b (ak b)) w h (Rx b ok A n p gd hg3 _ hx Bc Bg B w hA hc hB hg)
 have HA:=hid h
 have HC:=hid fun A w (h:og b A w)=>h.at_
 obtain⟨n,hn⟩:∃n,n=(ak b).length:=⟨_,rfl⟩
 obtain⟨xs,hxs⟩:∃xs,xs=aD b (ak b):=⟨_,rfl⟩
 rw[← hn] at HO HH
 rw[← hxs] at HH HK⊢
 obtain⟨⟨R1,R2,R3⟩,hR⟩:∃R,R=bg (fun h=>IntKind.i64.wrap ((stk b h b.days b.nm gd).tdiv 2)) xs:=⟨_,rfl⟩
 rw[← hR] at HK⊢
 obtain⟨R4,QK⟩:∃R4:Int,R4=if (R1,R2,R3).2.2=true then 0 else 9:=⟨_,rfl⟩
 rw[← QK] at HK⊢
 clear hn hxs h hcap hl ok hR QK hgd hx
 obtain⟨days,most,gA,ng,gc,g,mA,nm,mc,m,cA,nc,cc,c⟩:=b
 simp only[Bk.val,Bk.cells,aA] at HO HH HK⊢
 obtain⟨w1,hw1⟩:∃w1,w1=(((w.alloc (.cells #[int i64 days,int i64 most,.slice gA ng gc,.slice mA nm mc,.slice cA nc cc] 26)).alloc (.cells #[int i64 gd] 3)).alloc (.cells #[int i64 2] 3)).alloc (.cells #[int i64 0,int i64 0] 30):=⟨_,rfl⟩
 have B1:Hid (Below w.heap.size w w1):=hid (by rw[hw1];exact bw)
 have G1:Hid (Whole w1 (w.heap.size+1) 3 #[int i64 gd]):=hid (by rw[hw1];exact((aO zs).alloc _).alloc _)
 have K1:Hid (Whole w1 (w.heap.size+1+1) 3 #[int i64 2]):=hid (by rw[hw1];exact(aO zs).alloc _)
 have Z1:Hid (Whole w1 (w.heap.size+1+1+1) 30 #[int i64 0,int i64 0]):=hid (by rw[hw1];exact aO zs)
 have mQ:=hid hw1
 clear hw1
 gi_enter func17,ntmps17
 gi_wp2_with (first
  | (gi_at_call 23;rw[← mQ.out];refine(HO.out _ (HA.out.up B1.out)).mono ?_;rintro e w2 ⟨A,p,rfl,hc2,hb2⟩;have K2:=(K1.out.below hb2 K1.out.lt).alloc (.cells #[int i64 days,int i64 most,.slice gA ng gc,.slice mA nm mc,.slice cA nc cc,.slice A n p] 61);have k2:(w2.alloc (.cells #[int i64 days,int i64 most,.slice gA ng gc,.slice mA nm mc,.slice cA nc cc,.slice A n p] 61)).cell? ⟨w.heap.size+1+1,0,none⟩=some (int i64 2):=K2.cell 0;have Z2:=(Z1.out.below hb2 Z1.out.lt).alloc (.cells #[int i64 days,int i64 most,.slice gA ng gc,.slice mA nm mc,.slice cA nc cc,.slice A n p] 61);have G2:=(G1.out.below hb2 G1.out.lt).alloc (.cells #[int i64 days,int i64 most,.slice gA ng gc,.slice mA nm mc,.slice cA nc cc,.slice A n p] 61))
  | (gi_at_call 51;refine(HN.out _).mono ?_;rintro e w3 ⟨rfl,rfl⟩)
  | (gi_at_call 26;refine(HH.out A p _ (hc2.below (bw))).mono ?_;rintro e w4 ⟨lb,rfl,hs4,hb4⟩)
  | (gi_at_call 25;refine(HK.out lb A n p _ _ _ _ hs4 ((HC.out A _ (hc2.below (bw))).up hb4) ((Whole.new w2 _ _).below hb4 zs) (G2.below hb4 G2.lt) (K2.below hb4 K2.lt)).mono ?_;rintro e w5 ⟨rfl,hb5⟩;have E5:=hb4.trans (hb5.mono hb4.size);have Z5:=Z2.below E5 Z2.lt;have z0:w5.cell? ⟨w.heap.size+1+1+1,0,none⟩=some (int i64 0):=Z5.cell 0;have z1:w5.cell? ⟨w.heap.size+1+1+1,1,none⟩=some (int i64 0):=Z5.cell 1;have zf:=Z5.thaw))
 have U:=(Z5.set 0 (int i64 R1)).set 1 (int i64 R2)
 have u0:=U.cell 0
 have u1:=U.cell 1
 refine bodyPost_ret (v:=.tuple #[.agg #[int i64 R1,int i64 R2],int i64 R4]) (by simp[results,results17,go_sem,u0,u1]) rfl ⟨rfl,?_⟩
 exact((Below.next (Below.al (Below.next B1.out hb2) _) E5).setCell zm _).setCell zm _
theorem wW(b:Bk)(gd:Nat)(a z:Int)(w:World)(h:b.At w w.heap.size)(ok:b.Ok)(hcap:b.ng≤b.gc)(hl:∀s∈ak b,dR s)(hgd:gd<b.ng)(hf:mJ a z 1 b.days=true):CallsIn FF 0 prog 6 #[b.val,int i64 gd,int i64 a,int i64 z] w fun e w'=>e=.returned (.tuple #[.agg #[int i64 (bg (fun h=>aQ b h gd a z b.nm) (aD b (ak b))).1,int i64 (bg (fun h=>aQ b h gd a z b.nm) (aD b (ak b))).2.1],int i64 (if (bg (fun h=>aQ b h gd a z b.nm) (aD b (ak b))).2.2 then 0 else 9)])∧Below w.heap.size w w':=by
 have hx:=iX b ok (ak b) hl
 have HO:=hid fun w h=>qb b gd w h ok hcap hgd
 have HH:=hid fun A p w hc=>sW b ok hl A p w hc
 have HN:=hid fun(w:World)=>show CallsIn FF 0 prog 24 #[.agg #[int i64 a,int i64 z],int i64 1,int i64 b.days] w fun e w'=>e=.returned (.bool true)∧Below w.heap.size w w' from by
  have:=wu a z 1 b.days w
  rwa[hf] at this
 have HK:=hid fun lb A n p Bc Bg B w h hA hc hg hB=>Dq 60 lb 27 #[.pointer (some ⟨Bc,0,none⟩),.pointer (some ⟨Bg,0,none⟩),.pointer (some ⟨B,0,none⟩)] (fun h=>aQ b h gd a z b.nm) (aD b (ak b)) w h (VF b ok A n p gd a z _ hx Bc Bg B w hA hc hg hB)
 have HA:=hid h
 have HC:=hid fun A w (h:og b A w)=>h.at_
 obtain⟨n,hn⟩:∃n,n=(ak b).length:=⟨_,rfl⟩
 obtain⟨xs,hxs⟩:∃xs,xs=aD b (ak b):=⟨_,rfl⟩
 rw[← hn] at HO HH
 rw[← hxs] at HH HK⊢
 obtain⟨⟨R1,R2,R3⟩,hR⟩:∃R,R=bg (fun h=>aQ b h gd a z b.nm) xs:=⟨_,rfl⟩
 rw[← hR] at HK⊢
 obtain⟨R4,QK⟩:∃R4:Int,R4=if (R1,R2,R3).2.2=true then 0 else 9:=⟨_,rfl⟩
 rw[← QK] at HK⊢
 clear hn hxs h hcap hl ok hR QK hgd hx hf
 obtain⟨days,most,gA,ng,gc,g,mA,nm,mc,m,cA,nc,cc,c⟩:=b
 simp only[Bk.val,Bk.cells,aA] at HO HH HK HN⊢
 obtain⟨w1,hw1⟩:∃w1,w1=((w.alloc (.cells #[int i64 days,int i64 most,.slice gA ng gc,.slice mA nm mc,.slice cA nc cc] 26)).alloc (.cells #[int i64 gd] 3)).alloc (.cells #[int i64 0,int i64 0] 30):=⟨_,rfl⟩
 have B1:Hid (Below w.heap.size w w1):=hid (by rw[hw1];exact bw)
 have G1:Hid (Whole w1 (w.heap.size+1) 3 #[int i64 gd]):=hid (by rw[hw1];exact(aO zs).alloc _)
 have Z1:Hid (Whole w1 (w.heap.size+1+1) 30 #[int i64 0,int i64 0]):=hid (by rw[hw1];exact aO zs)
 have hs1:w1.heap.size=w.heap.size+3:=by rw[hw1];simp
 have mQ:=hid hw1
 clear hw1
 gi_enter func6,ntmps6
 gi_wp2_with (first
  | (gi_at_call 23;rw[← mQ.out];refine(HO.out _ (HA.out.up B1.out)).mono ?_;rintro e w2 ⟨A,p,rfl,hc2,hb2⟩;have X2:=(Whole.new w2 61 #[int i64 days,int i64 most,.slice gA ng gc,.slice mA nm mc,.slice cA nc cc,.slice A n p]).alloc (.cells #[int i64 a,int i64 z] 30);have Z2:=((Z1.out.below hb2 Z1.out.lt).alloc (.cells #[int i64 days,int i64 most,.slice gA ng gc,.slice mA nm mc,.slice cA nc cc,.slice A n p] 61)).alloc (.cells #[int i64 a,int i64 z] 30);have G2:=((G1.out.below hb2 G1.out.lt).alloc (.cells #[int i64 days,int i64 most,.slice gA ng gc,.slice mA nm mc,.slice cA nc cc,.slice A n p] 61)).alloc (.cells #[int i64 a,int i64 z] 30);have S2:Whole ((w2.alloc (.cells #[int i64 days,int i64 most,.slice gA ng gc,.slice mA nm mc,.slice cA nc cc,.slice A n p] 61)).alloc (.cells #[int i64 a,int i64 z] 30)) (w2.heap.size+1) 30 #[int i64 a,int i64 z]:=aO zs;have hs2:=hb2.size)
  | (gi_at_call 24;refine(HN.out _).mono ?_;rintro e w3 ⟨rfl,hb3⟩;have X3:=X2.below hb3 X2.lt;have x0:w3.cell? ⟨w2.heap.size,0,none⟩=some (int i64 days):=X3.cell 0;have x1:w3.cell? ⟨w2.heap.size,1,none⟩=some (int i64 most):=X3.cell 1;have x2:w3.cell? ⟨w2.heap.size,2,none⟩=some (.slice gA ng gc):=X3.cell 2;have x3:w3.cell? ⟨w2.heap.size,3,none⟩=some (.slice mA nm mc):=X3.cell 3;have x4:w3.cell? ⟨w2.heap.size,4,none⟩=some (.slice cA nc cc):=X3.cell 4;have x5:w3.cell? ⟨w2.heap.size,5,none⟩=some (.slice A n p):=X3.cell 5)
  | (gi_at_call 26;refine(HH.out A p _ ((hc2.below (bw)).below hb3)).mono ?_;rintro e w4 ⟨lb,rfl,hs4,hb4⟩)
  | (gi_at_call 25;have QM:=hb3.trans (hb4.mono hb3.size);refine(HK.out lb A n p _ _ _ _ hs4 (((HC.out A _ (hc2.below (bw))).up hb3).up hb4) (X2.below QM X2.lt) (G2.below QM G2.lt) (S2.below QM S2.lt)).mono ?_;rintro e w5 ⟨rfl,hb5⟩;have E5:=QM.trans (hb5.mono QM.size);have Z5:=Z2.below E5 Z2.lt;have z0:w5.cell? ⟨w.heap.size+1+1,0,none⟩=some (int i64 0):=Z5.cell 0;have z1:w5.cell? ⟨w.heap.size+1+1,1,none⟩=some (int i64 0):=Z5.cell 1;have zf:=Z5.thaw))
 have U:=(Z5.set 0 (int i64 R1)).set 1 (int i64 R2)
 have u0:=U.cell 0
 have u1:=U.cell 1
 refine bodyPost_ret (v:=.tuple #[.agg #[int i64 R1,int i64 R2],int i64 R4]) (by simp[results,results6,go_sem,u0,u1]) rfl ⟨rfl,?_⟩
 exact((Below.next (Below.al (Below.al (Below.next B1.out hb2) _) _) E5).setCell zm _).setCell zm _
theorem Ny(q:Good)(m:Int)(w:World)(hp:1≤q.pack):CallsIn FF 0 prog 76 #[Ai q,int i64 m] w fun e w'=>e=.returned (int i64 (max 0 (wrap64 ((wrap64 (wrap64 (m+q.pack) - 1)).tdiv q.pack))))∧Below w.heap.size w w':=by
 obtain⟨nm,co,pk,lo,hi⟩:=q
 simp only[Ai] at hp⊢
 have h0:¬ pk=0:=zo
 gi_enter func76,ntmps76
 gi_wp2
 go_ret
 exact⟨rfl,bw⟩
def tZ(b:Bk)(gd:Nat):Int × Int × Bool:=bg (fun h=>stk b h b.days b.nm gd) (aD b (ak b))
def RZ(q:Good)(m:Int):Int:=max 0 (wrap64 ((wrap64 (wrap64 (m+q.pack) - 1)).tdiv q.pack))
def UE(b:Bk)(rt:Nat→Int)(d:Int)(k:Nat):Int:=RZ (b.g k) (IntKind.i64.wrap (IntKind.i64.wrap (rt k * d) - (tZ b k).1))
def vH(b:Bk)(rt:Nat→Int)(d:Int)(k:Nat):List Int:=(List.range k).map (UE b rt d)
theorem Mh(b:Bk)(rt:Nat→Int)(d:Int)(k:Nat):vH b rt d (k+1)=vH b rt d k ++ [UE b rt d k]:=by unfold vH;rw[List.range_succ,List.map_append];rfl
theorem Qs(b:Bk)(rt:Nat→Int)(d:Int)(k:Nat):(vH b rt d k).length=k:=by simp[vH]
def vJ(b:Bk)(rt:Nat→Int)(d:Int):Nat→Int
 | 0=>0
 | Nat.succ k=>wrap64 (vJ b rt d k+wrap64 (wrap64 (UE b rt d k * (b.g k).pack) * (b.g k).cost))
theorem jj(b:Bk)(A:Option Addr)(p:Nat)(rA:Option Addr)(nr rc:Nat)(rt:Nat→Int)(d:Int)(w:World)(hc:og b A w)(ok:b.Ok)(hl:∀s∈ak b,dR s)(hr:Ints w w.heap.size rA nr rt)(hnr:nr=b.ng)(hne:∀k,k<b.ng→(tZ b k).2.2=true)(hpk:∀k,k<b.ng→1≤(b.g k).pack):
 CallsIn FF 0 prog 54 #[.agg (aA b A (ak b).length p),.slice rA nr rc,int i64 d] w fun e w'=>∃v,e=.returned (.tuple #[v,int i64 (vJ b rt d b.ng),int i64 0])∧w'.ownsRow w.heap.size 3 1 v b.ng ((vH b rt d b.ng).map (int i64))∧Below w.heap.size w w':=by
 have hx:=iX b ok (ak b) hl
 have HH:=hid fun A p w hc=>sW b ok hl A p w hc
 have hg3:b.ng≤3:=ok.dG.1.2
 have HK:=hid fun lb A n p Bc B w k (hk:k<b.ng) h hA hc hB=>by
  have:=Dq 60 lb 75 #[.pointer (some ⟨Bc,0,none⟩),.pointer (some ⟨B,0,none⟩)] (fun h=>stk b h b.days b.nm k) (aD b (ak b)) w h (ZB b ok A n p k zo _ hx Bc B w hA hc hB)
  change CallsIn _ _ _ _ _ _ fun e w'=>e=.returned (.tuple #[.agg #[int i64 (tZ b k).1,int i64 (tZ b k).2.1],int i64 (if (tZ b k).2.2 then 0 else 9)])∧_ at this
  rw[hne k hk] at this
  exact this
 have HP:=hid fun k m (w:World) (hk:k<b.ng)=>show CallsIn FF 0 prog 76 #[Ai (b.g k),int i64 m] w fun e w'=>e=.returned (int i64 (RZ (b.g k) m))∧Below w.heap.size w w' from Ny (b.g k) m w (hpk k hk)
 have HC:=hid hc
 have YS:=hid fun A w (h:og b A w)=>h.at_
 have E3:=hid fun A (w w':World) (h:og b A w) (hb:Below w.heap.size w w')=>h.below hb
 have HR:=hid hr
 obtain⟨n,hn⟩:∃n,n=(ak b).length:=⟨_,rfl⟩
 obtain⟨xs,hxs⟩:∃xs,xs=aD b (ak b):=⟨_,rfl⟩
 rw[← hn] at HH⊢
 rw[← hxs] at HH HK
 obtain⟨SG,xb⟩:∃SG,SG=tZ b:=⟨_,rfl⟩
 obtain⟨BM,ft⟩:∃BM,BM=UE b rt d:=⟨_,rfl⟩
 obtain⟨BL,hBL⟩:∃BL,BL=vH b rt d:=⟨_,rfl⟩
 obtain⟨CN,ZT⟩:∃CN,CN=vJ b rt d:=⟨_,rfl⟩
 have EV:Hid (∀k,BM k=RZ (b.g k) (IntKind.i64.wrap (IntKind.i64.wrap (rt k * d) - (SG k).1))):=hid fun k=>by rw[ft,xb];rfl
 have sR:Hid (BL 0=[]):=hid (by rw[hBL];rfl)
 have sY:Hid (∀k,BL (k+1)=BL k ++ [BM k]):=hid fun k=>by rw[hBL,ft];exact Mh b rt d k
 have sX:Hid (∀k,(BL k).length=k):=hid fun k=>by rw[hBL];exact Qs b rt d k
 have th:Hid (CN 0=0):=hid (by rw[ZT];rfl)
 have gv:Hid (∀k,CN (k+1)=wrap64 (CN k+wrap64 (wrap64 (BM k * (b.g k).pack) * (b.g k).cost))):=hid fun k=>by rw[ZT,ft];rfl
 rw[← xb] at HK
 rw[← hBL,← ZT]
 obtain⟨i0,hi,hz0,hz1,hz2⟩:=info_parts info3
 have hi0:=hid hi
 clear hi hn hxs hc hl ok hpk hx hr hne xb ft hBL ZT
 subst hnr
 obtain⟨days,most,gA,ng,gc,g,mA,nm,mc,m,cA,nc,cc,c⟩:=b
 simp only[aA,Ai] at HH HK HP EV gv hg3 HR⊢
 obtain⟨w1,hw1⟩:∃w1,w1=w.alloc (.cells #[int i64 days,int i64 most,.slice gA ng gc,.slice mA nm mc,.slice cA nc cc,.slice A n p] 61):=⟨_,rfl⟩
 have B1:Hid (Below w.heap.size w w1):=hid (by rw[hw1];exact bw)
 have X1:Hid (Whole w1 w.heap.size 61 #[int i64 days,int i64 most,.slice gA ng gc,.slice mA nm mc,.slice cA nc cc,.slice A n p]):=hid (by rw[hw1];exact Whole.new _ _ _)
 have hs1:w1.heap.size=w.heap.size+1:=by rw[hw1];simp
 have mQ:=hid hw1
 clear hw1
 gi_enter func54,ntmps54
 gi_wp2
 rw[← mQ.out]
 clear mQ
 gi_loopw [6,7,19] (fun l u i wr=>∃k:Nat,k≤ng∧i=int i64 k∧u=int i64 (CN k)∧Hid (wr.ownsRow (w.heap.size+1) 3 1 l k ((BL k).map (int i64))∧Below (w.heap.size+1) w1 wr)) (fun _ _ i _=>ng - (intOf i).toNat)
 case atStart=>exact⟨0,Nat.zero_le _,rfl,by rw[th.out],hid ⟨by rw[sR.out];exact nR _ (w.heap.size+1) 3,Below.refl _ _⟩⟩
 case round=>
  obtain⟨k,hk,rfl,rfl,hT⟩:=hrel
  obtain⟨A9,n9,p9,rfl⟩:=gI hT.out.1
  obtain⟨wo,rfl⟩:∃wo:World,wo=wr:=⟨_,rfl⟩
  have hso:w.heap.size+1≤wo.heap.size:=by have:=hT.out.2.size;omega
  have BO:Hid (Below w.heap.size w wo):=hid (B1.out.trans (hT.out.2.mono zo))
  by_cases hlt:k<ng
  ·obtain⟨ad,hA',hbl,-⟩:=(YS.out A w HC.out).g (show 0<ng by omega)
   simp only at hA'
   subst hA'
   obtain⟨gk,CU⟩:∃gk,gk=g k:=⟨_,rfl⟩
   have hr:∀j,j<5→wo.cell? ((ad.add (k * 5)).add j)=some (gk.cell j):=fun j hj=>by rw[CU];exact(((YS.out (A) w HC.out).g.below BO.out)).row hlt |>.2 j hj
   have ri:=EV.out k
   have kx:=gv.out k
   have rp:=fun m w=>HP.out k m w hlt
   have wA:=fun lb n p Bc B w'=>HK.out lb A n p Bc B w' k hlt
   have wv:=sY.out k
   rw[← CU] at ri kx rp
   obtain⟨Lb,co,pk,lo,hi⟩:=gk
   have c0:wo.cell? (ad.add (k * 5))=some (.string Lb):=hr 0 zD
   have c1:wo.cell? ⟨(ad.add (k * 5)).block,(ad.add (k * 5)).off+1,none⟩=some (int i64 co):=hr 1 zD
   have c2:wo.cell? ⟨(ad.add (k * 5)).block,(ad.add (k * 5)).off+2,none⟩=some (int i64 pk):=hr 2 zD
   have c3:wo.cell? ⟨(ad.add (k * 5)).block,(ad.add (k * 5)).off+3,none⟩=some (int i64 lo):=hr 3 zD
   have c4:wo.cell? ⟨(ad.add (k * 5)).block,(ad.add (k * 5)).off+4,none⟩=some (int i64 hi):=hr 4 zD
   obtain⟨R1,fw⟩:∃R1,R1=(SG k).1:=⟨_,rfl⟩
   obtain⟨R2,hR2⟩:∃R2,R2=(SG k).2.1:=⟨_,rfl⟩
   obtain⟨M,hM⟩:∃M,M=BM k:=⟨_,rfl⟩
   obtain⟨rk,ao⟩:∃rk,rk=rt k:=⟨_,rfl⟩
   rw[← fw,← hR2] at wA
   rw[← fw,← hM,← ao] at ri
   rw[← hM] at kx wv
   simp only at kx rp
   have Nx:=hid kx
   have Nd:=hid wv
   have P0:=hid fun w=>by have:=rp (IntKind.i64.wrap (IntKind.i64.wrap (rk * d) - R1)) w;rw[← ri] at this;exact this
   have PC:=hid wA
   obtain⟨ra,hra,hrb,-⟩:=HR.out (show 0<ng by omega)
   subst hra
   have rr:wo.cell? (ra.add k)=some (int i64 rk):=by
    rw[ao]
    exact(BO.out.cell (by rw[aJ];exact hrb)).trans (HR.out.at_ hlt)
   clear hr CU kx wv rp wA fw hR2 hM ri ao
   obtain⟨w2,hw2⟩:∃w2,w2=(wo.alloc (.cells #[int i64 k] 3)).alloc (.cells #[.string Lb,int i64 co,int i64 pk,int i64 lo,int i64 hi] 77):=⟨_,rfl⟩
   have B2:Hid (Below wo.heap.size wo w2):=hid (by rw[hw2];exact bw)
   have K2:Hid (Whole w2 wo.heap.size 3 #[int i64 k]):=hid (by rw[hw2];exact(Whole.new _ _ _).alloc _)
   have G2:Hid (Whole w2 (wo.heap.size+1) 77 #[.string Lb,int i64 co,int i64 pk,int i64 lo,int i64 hi]):=hid (by rw[hw2];exact aO zs)
   have X2:=hid ((X1.out.below hT.out.2 zo).below B2.out zo)
   have x0:w2.cell? ⟨w.heap.size,0,none⟩=some (int i64 days):=X2.out.cell 0
   have x1:w2.cell? ⟨w.heap.size,1,none⟩=some (int i64 most):=X2.out.cell 1
   have x2:w2.cell? ⟨w.heap.size,2,none⟩=some (.slice (some ad) ng gc):=X2.out.cell 2
   have x3:w2.cell? ⟨w.heap.size,3,none⟩=some (.slice mA nm mc):=X2.out.cell 3
   have x4:w2.cell? ⟨w.heap.size,4,none⟩=some (.slice cA nc cc):=X2.out.cell 4
   have x5:w2.cell? ⟨w.heap.size,5,none⟩=some (.slice A n p):=X2.out.cell 5
   have MM:Hid (Below w.heap.size w w2):=hid (Below.next BO.out B2.out)
   have C2:=hid (E3.out A w w2 HC.out MM.out)
   rw[hw2] at x0 x1 x2 x3 x4 x5
   have D5:=hid hw2
   clear hw2
   gi_wp2_with (first
    | (gi_at_call 26;rw[← D5.out];refine(HH.out A p _ C2.out).mono ?_;rintro e w4 ⟨lb,rfl,hs4,hb4⟩;have WN:=hb4.size)
    | (gi_at_call 25;refine(PC.out lb n p _ _ _ hs4 (YS.out A _ (E3.out A w2 w4 C2.out hb4)) (X2.out.below hb4 X2.out.lt) (K2.out.below hb4 K2.out.lt)).mono ?_;rintro e w5 ⟨rfl,hb5⟩))
   have ZW:=hb4.trans (hb5.mono hb4.size)
   obtain⟨w7,hw7⟩:∃w7,w7=w5.alloc (.cells #[int i64 R1,int i64 R2] 30):=⟨_,rfl⟩
   have B7:Hid (Below w2.heap.size w2 w7):=hid (by rw[hw7];exact ZW.alloc ZW.size _)
   have S7:Hid (Whole w7 w5.heap.size 30 #[int i64 R1,int i64 R2]):=hid (by rw[hw7];exact Whole.new _ _ _)
   have K7:=hid (K2.out.below B7.out K2.out.lt)
   have G7:=hid (G2.out.below B7.out G2.out.lt)
   have D3:Hid (Below wo.heap.size wo w7):=hid (Below.next B2.out B7.out)
   have hwo:w.heap.size≤wo.heap.size:=zo
   have Mb:w7.cell? (ra.add k)=some (int i64 rk):=(D3.out.cell (by rw[aJ];omega)).trans rr
   rw[← hw7]
   clear hw7
   have qk:∀d os,(grow (redrawn w7 d) os).cell? ⟨wo.heap.size,0,none⟩=some (int i64 k):=cell_regrown (K7.out.cell 0)
   have qg0:∀d os,(grow (redrawn w7 d) os).cell? ⟨wo.heap.size+1,0,none⟩=some (.string Lb):=cell_regrown (G7.out.cell 0)
   have qg1:∀d os,(grow (redrawn w7 d) os).cell? ⟨wo.heap.size+1,1,none⟩=some (int i64 co):=cell_regrown (G7.out.cell 1)
   have qg2:∀d os,(grow (redrawn w7 d) os).cell? ⟨wo.heap.size+1,2,none⟩=some (int i64 pk):=cell_regrown (G7.out.cell 2)
   have qg3:∀d os,(grow (redrawn w7 d) os).cell? ⟨wo.heap.size+1,3,none⟩=some (int i64 lo):=cell_regrown (G7.out.cell 3)
   have qg4:∀d os,(grow (redrawn w7 d) os).cell? ⟨wo.heap.size+1,4,none⟩=some (int i64 hi):=cell_regrown (G7.out.cell 4)
   have qs:∀d os,(grow (redrawn w7 d) os).cell? ⟨w5.heap.size,0,none⟩=some (int i64 R1):=cell_regrown (S7.out.cell 0)
   have qr:∀d os,(grow (redrawn w7 d) os).cell? (ra.add k)=some (int i64 rk):=cell_regrown Mb
   have cP:∀dd os,CallsIn FF 0 prog 76 #[.agg #[.string Lb,int i64 co,int i64 pk,int i64 lo,int i64 hi],int i64 (IntKind.i64.wrap (IntKind.i64.wrap (rk * d) - R1))] (grow (redrawn w7 dd) os) fun e w''=>e=.returned (int i64 M)∧∃p:Regrown,w''=grow (redrawn w7 p.d) p.os:=fun dd os=>CallsIn.regrown_of (P0.out _)
   refine wpIn_region_quiet_below rfl zk zk ?_
   repeat (quiet_step_in (exact cP _ _))
   refine wpQuietIn_nil ?_
   rintro w' ⟨⟨dq,osq⟩,rfl⟩
   have bf:=below_regrown w7 dq osq
   clear qk qg0 qg1 qg2 qg3 qg4 qs qr cP
   generalize grow (redrawn w7 dq) osq=w9 at bf⊢
   have sq:Hid (Below wo.heap.size wo w9):=hid (Below.next D3.out bf)
   have G9:=hid (G7.out.below bf G7.out.lt)
   have Ho:=hid (own_below hT.out.1 sq.out)
   have HT1:=hid hT.out.1
   have XN:=sq.out.size
   have hk3:k≤3:=zo
   have hBn:=sX.out k
   clear bf Mb ZW hb4 hb5 hs4 rr c0 c1 c2 c3 c4
   gi_wp2_with (gi_at_builtin;refine aG rfl rfl rfl fun K5 jZ=>?_;refine wp_append_lies _ _ _ _ rfl (w.heap.size+1) 3 i0 _ 1 8 underlying38 hi0.out hz0 hz1 hz2 rfl zo (.slice A9 n9 p9) k _ rfl (bC Ho.out _) ⟨w9.heap.size,0,none⟩ 1 1 [_] rfl rfl (World.news_of_block (heap_alloc_new w9 _)) (by simp[Value.oneCell']) zo zU zo zm (w9.heap.size+1) zs ?_;intro rJ qI w10 hown5 aZ om qN;have GG:=(G9.out.alloc (.cells #[int i64 M] 3)).grown aZ (fun e=>by have:=dL HT1.out e.symm;omega);have y0:w10.cell? ⟨wo.heap.size+1,0,none⟩=some (.string Lb):=GG.cell 0;have y1:w10.cell? ⟨wo.heap.size+1,1,none⟩=some (int i64 co):=GG.cell 1;have y2:w10.cell? ⟨wo.heap.size+1,2,none⟩=some (int i64 pk):=GG.cell 2;have y3:w10.cell? ⟨wo.heap.size+1,3,none⟩=some (int i64 lo):=GG.cell 3;have y4:w10.cell? ⟨wo.heap.size+1,4,none⟩=some (int i64 hi):=GG.cell 4;refine jZ _ _ ?_;clear jZ K5)
   exact⟨⟨k+1,hlt,by push_cast;rfl,by rw[Nx.out],hid ⟨by rw[Nd.out,List.map_append];exact hown5,(((hT.out.2.trans (sq.out.mono zo)).alloc zo _).trans (below_grown aZ zm (fun g hg=>(dL HT1.out hg).1)))⟩⟩,by simp[intOf];omega⟩
  ·obtain rfl:k=ng:=zo
   gi_wp2
   go_ret3
   exact⟨_,rfl,dU hT.out.1 (Nat.le_succ _),BO.out⟩
theorem NU(b:Bk)(rA:Option Addr)(nr rc:Nat)(rt:Nat→Int)(d:Int)(w:World)(h:b.At w w.heap.size)(ok:b.Ok)(hcap:b.ng≤b.gc)(hl:∀s∈ak b,dR s)(hr:Ints w w.heap.size rA nr rt)(hnr:nr=b.ng)(hne:∀k,k<b.ng→(tZ b k).2.2=true)(hpk:∀k,k<b.ng→1≤(b.g k).pack)(hrt:∀i,i<nr→0≤rt i∧rt i≤99)(hd:0≤d∧d≤99):
 CallsIn FF 0 prog 18 #[b.val,.slice rA nr rc,int i64 d] w fun e w'=>∃v,e=.returned (.tuple #[v,int i64 (vJ b rt d b.ng),int i64 0])∧w'.ownsRow w.heap.size 3 1 v b.ng ((vH b rt d b.ng).map (int i64))∧Below w.heap.size w w':=by
 have HO:=hid fun w h=>mZ b w h ok hcap
 have HB:=hid fun A p w hc hr=>jj b A p rA nr rc rt d w hc ok hl hr hnr hne hpk
 have HE:=hid fun(w:World) (hI:Ints w w.heap.size rA nr rt)=>show CallsIn FF 0 prog 53 #[.slice rA nr rc,int i64 b.ng,int i64 99] w fun e w'=>e=.returned (int i64 0)∧Below w.heap.size w w' from by
  have:=II rt rA nr rc 99 w hI (by unfold maxLen;have:=ok.dG.1.2;omega) hrt
  rwa[hnr] at this⊢
 have HN:=hid fun(w:World)=>show CallsIn FF 0 prog 51 #[int i64 d,int i64 0,int i64 99] w fun e w'=>e=.returned (.bool true)∧w=w' from by
  have:=bZ d 0 99 w
  have e:fJ d 0 99=true:=by unfold fJ;simp;omega
  rwa[e] at this
 have HR:=hid fun(w':World) (hb:Below w.heap.size w w')=>show Ints w' w'.heap.size rA nr rt from(Rows.below hr hb).more hb.size
 have HA:=hid h
 obtain⟨n,hn⟩:∃n,n=(ak b).length:=⟨_,rfl⟩
 rw[← hn] at HO HB
 obtain⟨BL,hBL⟩:∃BL,BL=vH b rt d b.ng:=⟨_,rfl⟩
 obtain⟨CN,ZT⟩:∃CN,CN=vJ b rt d b.ng:=⟨_,rfl⟩
 rw[← hBL,← ZT] at HB⊢
 clear hn h hcap hl ok hBL ZT hr hne hpk hrt hd hnr
 obtain⟨days,most,gA,ng,gc,g,mA,nm,mc,m,cA,nc,cc,c⟩:=b
 simp only[Bk.val,Bk.cells,aA] at HO HB HE⊢
 gi_enter func18,ntmps18
 gi_wp2_with (first
  | (gi_at_call 37;refine(HO.out _ (HA.out.up (bw))).mono ?_;rintro e w2 ⟨A,p,rfl,hc2,hb2,-⟩;have I5:Hid (Below w.heap.size w (w2.alloc (.cells #[int i64 days,int i64 most,.slice gA ng gc,.slice mA nm mc,.slice cA nc cc,.slice A n p] 61))):=hid (Below.al (Below.next (show Below w.heap.size w (w.alloc (.cells #[int i64 days,int i64 most,.slice gA ng gc,.slice mA nm mc,.slice cA nc cc] 26)) from bw) hb2) _))
  | (gi_at_call 53;refine(HE.out _ (HR.out _ I5.out)).mono ?_;rintro e w3 ⟨rfl,hb3⟩;have X3:Whole w3 w2.heap.size 61 #[int i64 days,int i64 most,.slice gA ng gc,.slice mA nm mc,.slice cA nc cc,.slice A n p]:=(Whole.new w2 _ _).below hb3 zs;have x0:w3.cell? ⟨w2.heap.size,0,none⟩=some (int i64 days):=X3.cell 0;have x1:w3.cell? ⟨w2.heap.size,1,none⟩=some (int i64 most):=X3.cell 1;have x2:w3.cell? ⟨w2.heap.size,2,none⟩=some (.slice gA ng gc):=X3.cell 2;have x3:w3.cell? ⟨w2.heap.size,3,none⟩=some (.slice mA nm mc):=X3.cell 3;have x4:w3.cell? ⟨w2.heap.size,4,none⟩=some (.slice cA nc cc):=X3.cell 4;have x5:w3.cell? ⟨w2.heap.size,5,none⟩=some (.slice A n p):=X3.cell 5)
  | (gi_at_call 51;refine(HN.out _).mono ?_;rintro e w4 ⟨rfl,rfl⟩)
  | (gi_at_call 54;refine(HB.out A p _ ((hc2.below (bw)).below hb3) (HR.out _ (Below.next I5.out hb3))).mono ?_;rintro e w5 ⟨v,rfl,hv,hb5⟩))
 go_ret3
 exact⟨v,rfl,dU hv (by have:=I5.out.size;have:=hb3.size;omega),Below.next (Below.next I5.out hb3) hb5⟩
end
end Go.Proofs.YtoldgagdgjilgaaGreat
