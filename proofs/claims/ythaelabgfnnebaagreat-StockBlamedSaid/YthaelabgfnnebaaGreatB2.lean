/- HQ HB AE0 -/
import Derived.Test.YthaelabgfnnebaaGreatB1
set_option maxRecDepth 100000
set_option maxHeartbeats 16000000
set_option linter.unusedVariables false
set_option linter.unusedSectionVars false
open Go.IntKind(i64)
open Go.Lib(hid)
open Go.Proofs.Tryz
open Go.Value(int)
namespace Go.Proofs.YthaelabgfnnebaaGreat
section
open Go.RowKit
open Go.Sort (grow)
attribute [local go_sem] Oper.semAt_some
theorem aP{w:World}{t:TypeId}{cs:Array Value}{n:Nat}(h:w.heap.size=n):Whole (w.alloc (.cells cs t)) n t cs:=by subst h;exact Whole.new _ _ _
theorem uN(b:Bk)(k:Nat)(w:World)(h:b.At w w.heap.size)(ok:b.Ok)(hcap:b.ng≤b.gc)(hl:∀s∈ak b,dN s)(hlen:(aG b (ak b)).length<2 ^ 40)(hk:k<b.nm)(hkd:(b.m k).kind=0):CallsIn FF 0 prog 27 #[b.val,int i64 k] w fun e w'=>e=.returned (.tuple #[int i64 (MO (aG b (ak b)).length ((aG b (ak b)).filter fun h=>h.BP k).length),int i64 (Rt (aG b (ak b)).length)])∧Below w.heap.size w w':=by
 have hx:=kH b ok (ak b) hl
 have HO:=hid fun w h=>mF b w h ok hcap
 have HH:=hid fun A p w hc=>uh b ok hl A p w hc
 have HN:=hid fun w h=>by have:=sW b k w h hk;rw[decide_eq_true hkd] at this;exact this
 have Sn:k<6:=by have:=ok.moves.1;omega
 have HK:=hid fun lb B w h hB=>gp 76 lb 60 #[.pointer (some ⟨B,0,none⟩)] (fun h=>h.BP k) (aG b (ak b)) w hlen h (RN k Sn _ hx B w hB)
 have HA:=hid h
 have HC:=hid fun A w (h:om b A w)=>h.at_
 obtain⟨n,hn⟩:∃n,n=(ak b).length:=⟨_,rfl⟩
 obtain⟨xs,hxs⟩:∃xs,xs=aG b (ak b):=⟨_,rfl⟩
 rw[← hn] at HO HH
 rw[← hxs] at HH HK⊢
 obtain⟨R1,k9⟩:∃R,R=MO xs.length (xs.filter fun h=>h.BP k).length:=⟨_,rfl⟩
 rw[← k9] at HK⊢
 clear hn hxs h hcap hl hlen ok k9 hkd hx
 obtain⟨days,most,gA,ng,gc,g,mA,nm,mc,m,cA,nc,cc,c⟩:=b
 simp only[Bk.val,Bk.cells,aA] at HO HH HN⊢
 have K1:Hid (Whole ((w.alloc (.cells #[int i64 days,int i64 most,.slice gA ng gc,.slice mA nm mc,.slice cA nc cc] 26)).alloc (.cells #[int i64 k] 3)) (w.heap.size+1) 3 #[int i64 k]):=hid (aP zs)
 gi_enter func27,ntmps27
 gi_wp2_with (first
  | (gi_at_call 33;refine(HO.out _ (HA.out.up (bw))).mono ?_;rintro e w2 ⟨A,p,rfl,hc2,hb2,-⟩;have K2:=(K1.out.below hb2 zs).alloc (.cells #[int i64 days,int i64 most,.slice gA ng gc,.slice mA nm mc,.slice cA nc cc,.slice A n p] 76);have k2:(w2.alloc (.cells #[int i64 days,int i64 most,.slice gA ng gc,.slice mA nm mc,.slice cA nc cc,.slice A n p] 76)).cell? ⟨w.heap.size+1,0,none⟩=some (int i64 k):=K2.cell 0)
  | (gi_at_call 58;refine(HN.out _ ((HC.out A _ (hc2.below (bw))))).mono ?_;rintro e w3 ⟨rfl,hb3⟩;have X3:Whole w3 w2.heap.size 76 #[int i64 days,int i64 most,.slice gA ng gc,.slice mA nm mc,.slice cA nc cc,.slice A n p]:=(Whole.new w2 _ _).below hb3 zs;have x0:w3.cell? ⟨w2.heap.size,0,none⟩=some (int i64 days):=X3.cell 0;have x1:w3.cell? ⟨w2.heap.size,1,none⟩=some (int i64 most):=X3.cell 1;have x2:w3.cell? ⟨w2.heap.size,2,none⟩=some (.slice gA ng gc):=X3.cell 2;have x3:w3.cell? ⟨w2.heap.size,3,none⟩=some (.slice mA nm mc):=X3.cell 3;have x4:w3.cell? ⟨w2.heap.size,4,none⟩=some (.slice cA nc cc):=X3.cell 4;have x5:w3.cell? ⟨w2.heap.size,5,none⟩=some (.slice A n p):=X3.cell 5;have K3:=K2.below hb3 K2.lt)
  | (gi_at_call 40;refine(HH.out A p _ ((hc2.below (bw)).below hb3)).mono ?_;rintro e w4 ⟨lb,rfl,hs4,hb4⟩)
  | (gi_at_call 59;refine(HK.out lb _ _ hs4 (K3.below hb4 K3.lt)).mono ?_;rintro e w5 ⟨rfl,hb5⟩))
 go_ret2
 exact⟨rfl,Below.next (Below.next (Below.next (Below.al (Below.next (bw) hb2) _) hb3) hb4) hb5⟩
theorem Ig(b:Bk)(k:Nat)(w:World)(h:b.At w w.heap.size)(ok:b.Ok)(hcap:b.ng≤b.gc)(hl:∀s∈ak b,dN s)(hk:(k:Int)≤b.days):CallsIn FF 0 prog 29 #[b.val,int i64 k] w fun e w'=>e=.returned (.tuple #[.agg #[int i64 (bY (fun h=>iI b (stk b h k b.nm) b.ng) (aG b (ak b))).1,int i64 (bY (fun h=>iI b (stk b h k b.nm) b.ng) (aG b (ak b))).2.1],int i64 (if (bY (fun h=>iI b (stk b h k b.nm) b.ng) (aG b (ak b))).2.2 then 0 else 9)])∧Below w.heap.size w w':=by
 have hx:=kH b ok (ak b) hl
 have HO:=hid fun w h=>mF b w h ok hcap
 have HH:=hid fun A p w hc=>uh b ok hl A p w hc
 have HN:=hid fun(w:World)=>show CallsIn FF 0 prog 38 #[b.val,int i64 k] w fun e w'=>e=.returned (.bool true)∧Below w.heap.size w w' from by
  have:=wV b k w
  have e:fU (k:Int) 0 b.days=true:=by unfold fU;simp;omega
  rwa[e] at this
 have HK:=hid fun lb A n p Bc B w h hA hc hB=>Er 76 lb 65 #[.pointer (some ⟨Bc,0,none⟩),.pointer (some ⟨B,0,none⟩)] (fun h=>iI b (stk b h k b.nm) b.ng) (aG b (ak b)) w h (Va b ok A n p k _ hx Bc B w hA hc hB)
 have HA:=hid h
 have HC:=hid fun A w (h:om b A w)=>h.at_
 obtain⟨n,hn⟩:∃n,n=(ak b).length:=⟨_,rfl⟩
 obtain⟨xs,hxs⟩:∃xs,xs=aG b (ak b):=⟨_,rfl⟩
 rw[← hn] at HO HH
 rw[← hxs] at HH HK⊢
 obtain⟨⟨R1,R2,R3⟩,hR⟩:∃R,R=bY (fun h=>iI b (stk b h k b.nm) b.ng) xs:=⟨_,rfl⟩
 rw[← hR] at HK⊢
 obtain⟨R4,RX⟩:∃R4:Int,R4=if (R1,R2,R3).2.2=true then 0 else 9:=⟨_,rfl⟩
 rw[← RX] at HK⊢
 clear hn hxs h hcap hl ok hR RX hk hx
 obtain⟨days,most,gA,ng,gc,g,mA,nm,mc,m,cA,nc,cc,c⟩:=b
 simp only[Bk.val,Bk.cells,aA] at HO HH HN HK⊢
 have K1:Hid (Whole (((w.alloc (.cells #[int i64 days,int i64 most,.slice gA ng gc,.slice mA nm mc,.slice cA nc cc] 26)).alloc (.cells #[int i64 k] 3)).alloc (.cells #[int i64 0,int i64 0] 38)) (w.heap.size+1) 3 #[int i64 k]):=hid ((aP zs).alloc _)
 have Z1:Hid (Whole (((w.alloc (.cells #[int i64 days,int i64 most,.slice gA ng gc,.slice mA nm mc,.slice cA nc cc] 26)).alloc (.cells #[int i64 k] 3)).alloc (.cells #[int i64 0,int i64 0] 38)) (w.heap.size+1+1) 38 #[int i64 0,int i64 0]):=hid (aP zs)
 gi_enter func29,ntmps29
 gi_wp2_with (first
  | (gi_at_call 33;refine(HO.out _ (HA.out.up (bw))).mono ?_;rintro e w2 ⟨A,p,rfl,hc2,hb2,-⟩;have K2:=(K1.out.below hb2 zs).alloc (.cells #[int i64 days,int i64 most,.slice gA ng gc,.slice mA nm mc,.slice cA nc cc,.slice A n p] 76);have k2:(w2.alloc (.cells #[int i64 days,int i64 most,.slice gA ng gc,.slice mA nm mc,.slice cA nc cc,.slice A n p] 76)).cell? ⟨w.heap.size+1,0,none⟩=some (int i64 k):=K2.cell 0;have Z2:=(Z1.out.below hb2 zs).alloc (.cells #[int i64 days,int i64 most,.slice gA ng gc,.slice mA nm mc,.slice cA nc cc,.slice A n p] 76))
  | (gi_at_call 38;refine(HN.out _).mono ?_;rintro e w3 ⟨rfl,hb3⟩;have X3:Whole w3 w2.heap.size 76 #[int i64 days,int i64 most,.slice gA ng gc,.slice mA nm mc,.slice cA nc cc,.slice A n p]:=(Whole.new w2 _ _).below hb3 zs;have x0:w3.cell? ⟨w2.heap.size,0,none⟩=some (int i64 days):=X3.cell 0;have x1:w3.cell? ⟨w2.heap.size,1,none⟩=some (int i64 most):=X3.cell 1;have x2:w3.cell? ⟨w2.heap.size,2,none⟩=some (.slice gA ng gc):=X3.cell 2;have x3:w3.cell? ⟨w2.heap.size,3,none⟩=some (.slice mA nm mc):=X3.cell 3;have x4:w3.cell? ⟨w2.heap.size,4,none⟩=some (.slice cA nc cc):=X3.cell 4;have x5:w3.cell? ⟨w2.heap.size,5,none⟩=some (.slice A n p):=X3.cell 5;have K3:=K2.below hb3 K2.lt)
  | (gi_at_call 40;refine(HH.out A p _ ((hc2.below (bw)).below hb3)).mono ?_;rintro e w4 ⟨lb,rfl,hs4,hb4⟩)
  | (gi_at_call 43;refine(HK.out lb A n p _ _ _ hs4 (((HC.out A _ (hc2.below (bw))).up hb3).up hb4) (X3.below hb4 X3.lt) (K3.below hb4 K3.lt)).mono ?_;rintro e w5 ⟨rfl,hb5⟩;have Gb:=hb4.trans (hb5.mono hb4.size);have Z5:=(Z2.below hb3 Z2.lt).below Gb (Z2.below hb3 Z2.lt).lt;have z0:w5.cell? ⟨w.heap.size+1+1,0,none⟩=some (int i64 0):=Z5.cell 0;have z1:w5.cell? ⟨w.heap.size+1+1,1,none⟩=some (int i64 0):=Z5.cell 1;have zf:=Z5.thaw))
 have U:=(Z5.set 0 (int i64 R1)).set 1 (int i64 R2)
 have u0:=U.cell 0
 have u1:=U.cell 1
 refine bodyPost_ret (v:=.tuple #[.agg #[int i64 R1,int i64 R2],int i64 R4]) (by simp[results,results29,go_sem,u0,u1]) rfl ⟨rfl,?_⟩
 exact((Below.next (Below.next (Below.al (Below.next (bw) hb2) _) hb3) Gb).setCell zm _).setCell zm _
theorem Ie(b:Bk)(gd:Nat)(w:World)(h:b.At w w.heap.size)(ok:b.Ok)(hcap:b.ng≤b.gc)(hl:∀s∈ak b,dN s)(hgd:gd<b.ng):CallsIn FF 0 prog 12 #[b.val,int i64 gd,int i64 2] w fun e w'=>e=.returned (.tuple #[.agg #[int i64 (bY (fun h=>IntKind.i64.wrap ((stk b h b.days b.nm gd).tdiv 2)) (aG b (ak b))).1,int i64 (bY (fun h=>IntKind.i64.wrap ((stk b h b.days b.nm gd).tdiv 2)) (aG b (ak b))).2.1],int i64 (if (bY (fun h=>IntKind.i64.wrap ((stk b h b.days b.nm gd).tdiv 2)) (aG b (ak b))).2.2 then 0 else 9)])∧Below w.heap.size w w':=by
 have hx:=kH b ok (ak b) hl
 have HO:=hid fun w h=>qI b gd w h ok hcap hgd
 have HH:=hid fun A p w hc=>uh b ok hl A p w hc
 have hg3:gd<3:=by have:=ok.bM.1.2;omega
 have HN:=hid fun(w:World)=>show CallsIn FF 0 prog 35 #[int i64 2,int i64 1,int i64 99] w fun e w'=>e=.returned (.bool true)∧w=w' from by
  have:=dh 2 1 99 w
  have e:fU 2 1 99=true:=zD
  rwa[e] at this
 have HK:=hid fun lb A n p Bc Bg B w h hA hc hg hB=>Er 76 lb 44 #[.pointer (some ⟨Bc,0,none⟩),.pointer (some ⟨Bg,0,none⟩),.pointer (some ⟨B,0,none⟩)] (fun h=>IntKind.i64.wrap ((stk b h b.days b.nm gd).tdiv 2)) (aG b (ak b)) w h (Td b ok A n p gd hg3 _ hx Bc Bg B w hA hc hB hg)
 have HA:=hid h
 have HC:=hid fun A w (h:om b A w)=>h.at_
 obtain⟨n,hn⟩:∃n,n=(ak b).length:=⟨_,rfl⟩
 obtain⟨xs,hxs⟩:∃xs,xs=aG b (ak b):=⟨_,rfl⟩
 rw[← hn] at HO HH
 rw[← hxs] at HH HK⊢
 obtain⟨⟨R1,R2,R3⟩,hR⟩:∃R,R=bY (fun h=>IntKind.i64.wrap ((stk b h b.days b.nm gd).tdiv 2)) xs:=⟨_,rfl⟩
 rw[← hR] at HK⊢
 obtain⟨R4,RX⟩:∃R4:Int,R4=if (R1,R2,R3).2.2=true then 0 else 9:=⟨_,rfl⟩
 rw[← RX] at HK⊢
 clear hn hxs h hcap hl ok hR RX hgd hx
 obtain⟨days,most,gA,ng,gc,g,mA,nm,mc,m,cA,nc,cc,c⟩:=b
 simp only[Bk.val,Bk.cells,aA] at HO HH HK⊢
 obtain⟨w1,hw1⟩:∃w1,w1=(((w.alloc (.cells #[int i64 days,int i64 most,.slice gA ng gc,.slice mA nm mc,.slice cA nc cc] 26)).alloc (.cells #[int i64 gd] 3)).alloc (.cells #[int i64 2] 3)).alloc (.cells #[int i64 0,int i64 0] 38):=⟨_,rfl⟩
 have B1:Hid (Below w.heap.size w w1):=hid (by rw[hw1];exact bw)
 have G1:Hid (Whole w1 (w.heap.size+1) 3 #[int i64 gd]):=hid (by rw[hw1];exact((aP zs).alloc _).alloc _)
 have K1:Hid (Whole w1 (w.heap.size+1+1) 3 #[int i64 2]):=hid (by rw[hw1];exact(aP zs).alloc _)
 have Z1:Hid (Whole w1 (w.heap.size+1+1+1) 38 #[int i64 0,int i64 0]):=hid (by rw[hw1];exact aP zs)
 have mX:=hid hw1
 clear hw1
 gi_enter func12,ntmps12
 gi_wp2_with (first
  | (gi_at_call 37;rw[← mX.out];refine(HO.out _ (HA.out.up B1.out)).mono ?_;rintro e w2 ⟨A,p,rfl,hc2,hb2⟩;have K2:=(K1.out.below hb2 K1.out.lt).alloc (.cells #[int i64 days,int i64 most,.slice gA ng gc,.slice mA nm mc,.slice cA nc cc,.slice A n p] 76);have k2:(w2.alloc (.cells #[int i64 days,int i64 most,.slice gA ng gc,.slice mA nm mc,.slice cA nc cc,.slice A n p] 76)).cell? ⟨w.heap.size+1+1,0,none⟩=some (int i64 2):=K2.cell 0;have Z2:=(Z1.out.below hb2 Z1.out.lt).alloc (.cells #[int i64 days,int i64 most,.slice gA ng gc,.slice mA nm mc,.slice cA nc cc,.slice A n p] 76);have G2:=(G1.out.below hb2 G1.out.lt).alloc (.cells #[int i64 days,int i64 most,.slice gA ng gc,.slice mA nm mc,.slice cA nc cc,.slice A n p] 76))
  | (gi_at_call 35;refine(HN.out _).mono ?_;rintro e w3 ⟨rfl,rfl⟩)
  | (gi_at_call 40;refine(HH.out A p _ (hc2.below (bw))).mono ?_;rintro e w4 ⟨lb,rfl,hs4,hb4⟩)
  | (gi_at_call 43;refine(HK.out lb A n p _ _ _ _ hs4 ((HC.out A _ (hc2.below (bw))).up hb4) ((Whole.new w2 _ _).below hb4 zs) (G2.below hb4 G2.lt) (K2.below hb4 K2.lt)).mono ?_;rintro e w5 ⟨rfl,hb5⟩;have Gb:=hb4.trans (hb5.mono hb4.size);have Z5:=Z2.below Gb Z2.lt;have z0:w5.cell? ⟨w.heap.size+1+1+1,0,none⟩=some (int i64 0):=Z5.cell 0;have z1:w5.cell? ⟨w.heap.size+1+1+1,1,none⟩=some (int i64 0):=Z5.cell 1;have zf:=Z5.thaw))
 have U:=(Z5.set 0 (int i64 R1)).set 1 (int i64 R2)
 have u0:=U.cell 0
 have u1:=U.cell 1
 refine bodyPost_ret (v:=.tuple #[.agg #[int i64 R1,int i64 R2],int i64 R4]) (by simp[results,results12,go_sem,u0,u1]) rfl ⟨rfl,?_⟩
 exact((Below.next (Below.al (Below.next B1.out hb2) _) Gb).setCell zm _).setCell zm _
theorem KH(b:Bk)(gd:Nat)(a z:Int)(w:World)(h:b.At w w.heap.size)(ok:b.Ok)(hcap:b.ng≤b.gc)(hl:∀s∈ak b,dN s)(hgd:gd<b.ng)(hf:uy a z 1 b.days=true):CallsIn FF 0 prog 28 #[b.val,int i64 gd,int i64 a,int i64 z] w fun e w'=>e=.returned (.tuple #[.agg #[int i64 (bY (fun h=>kI b h gd a z b.nm) (aG b (ak b))).1,int i64 (bY (fun h=>kI b h gd a z b.nm) (aG b (ak b))).2.1],int i64 (if (bY (fun h=>kI b h gd a z b.nm) (aG b (ak b))).2.2 then 0 else 9)])∧Below w.heap.size w w':=by
 have hx:=kH b ok (ak b) hl
 have HO:=hid fun w h=>qI b gd w h ok hcap hgd
 have HH:=hid fun A p w hc=>uh b ok hl A p w hc
 have HN:=hid fun(w:World)=>show CallsIn FF 0 prog 62 #[.agg #[int i64 a,int i64 z],int i64 1,int i64 b.days] w fun e w'=>e=.returned (.bool true)∧Below w.heap.size w w' from by
  have:=xq a z 1 b.days w
  rwa[hf] at this
 have HK:=hid fun lb A n p Bc Bg B w h hA hc hg hB=>Er 76 lb 63 #[.pointer (some ⟨Bc,0,none⟩),.pointer (some ⟨Bg,0,none⟩),.pointer (some ⟨B,0,none⟩)] (fun h=>kI b h gd a z b.nm) (aG b (ak b)) w h (Xg b ok A n p gd a z _ hx Bc Bg B w hA hc hg hB)
 have HA:=hid h
 have HC:=hid fun A w (h:om b A w)=>h.at_
 obtain⟨n,hn⟩:∃n,n=(ak b).length:=⟨_,rfl⟩
 obtain⟨xs,hxs⟩:∃xs,xs=aG b (ak b):=⟨_,rfl⟩
 rw[← hn] at HO HH
 rw[← hxs] at HH HK⊢
 obtain⟨⟨R1,R2,R3⟩,hR⟩:∃R,R=bY (fun h=>kI b h gd a z b.nm) xs:=⟨_,rfl⟩
 rw[← hR] at HK⊢
 obtain⟨R4,RX⟩:∃R4:Int,R4=if (R1,R2,R3).2.2=true then 0 else 9:=⟨_,rfl⟩
 rw[← RX] at HK⊢
 clear hn hxs h hcap hl ok hR RX hgd hx hf
 obtain⟨days,most,gA,ng,gc,g,mA,nm,mc,m,cA,nc,cc,c⟩:=b
 simp only[Bk.val,Bk.cells,aA] at HO HH HK HN⊢
 obtain⟨w1,hw1⟩:∃w1,w1=((w.alloc (.cells #[int i64 days,int i64 most,.slice gA ng gc,.slice mA nm mc,.slice cA nc cc] 26)).alloc (.cells #[int i64 gd] 3)).alloc (.cells #[int i64 0,int i64 0] 38):=⟨_,rfl⟩
 have B1:Hid (Below w.heap.size w w1):=hid (by rw[hw1];exact bw)
 have G1:Hid (Whole w1 (w.heap.size+1) 3 #[int i64 gd]):=hid (by rw[hw1];exact(aP zs).alloc _)
 have Z1:Hid (Whole w1 (w.heap.size+1+1) 38 #[int i64 0,int i64 0]):=hid (by rw[hw1];exact aP zs)
 have hs1:w1.heap.size=w.heap.size+3:=by rw[hw1];simp
 have mX:=hid hw1
 clear hw1
 gi_enter func28,ntmps28
 gi_wp2_with (first
  | (gi_at_call 37;rw[← mX.out];refine(HO.out _ (HA.out.up B1.out)).mono ?_;rintro e w2 ⟨A,p,rfl,hc2,hb2⟩;have X2:=(Whole.new w2 76 #[int i64 days,int i64 most,.slice gA ng gc,.slice mA nm mc,.slice cA nc cc,.slice A n p]).alloc (.cells #[int i64 a,int i64 z] 38);have Z2:=((Z1.out.below hb2 Z1.out.lt).alloc (.cells #[int i64 days,int i64 most,.slice gA ng gc,.slice mA nm mc,.slice cA nc cc,.slice A n p] 76)).alloc (.cells #[int i64 a,int i64 z] 38);have G2:=((G1.out.below hb2 G1.out.lt).alloc (.cells #[int i64 days,int i64 most,.slice gA ng gc,.slice mA nm mc,.slice cA nc cc,.slice A n p] 76)).alloc (.cells #[int i64 a,int i64 z] 38);have S2:Whole ((w2.alloc (.cells #[int i64 days,int i64 most,.slice gA ng gc,.slice mA nm mc,.slice cA nc cc,.slice A n p] 76)).alloc (.cells #[int i64 a,int i64 z] 38)) (w2.heap.size+1) 38 #[int i64 a,int i64 z]:=aP zs;have hs2:=hb2.size)
  | (gi_at_call 62;refine(HN.out _).mono ?_;rintro e w3 ⟨rfl,hb3⟩;have X3:=X2.below hb3 X2.lt;have x0:w3.cell? ⟨w2.heap.size,0,none⟩=some (int i64 days):=X3.cell 0;have x1:w3.cell? ⟨w2.heap.size,1,none⟩=some (int i64 most):=X3.cell 1;have x2:w3.cell? ⟨w2.heap.size,2,none⟩=some (.slice gA ng gc):=X3.cell 2;have x3:w3.cell? ⟨w2.heap.size,3,none⟩=some (.slice mA nm mc):=X3.cell 3;have x4:w3.cell? ⟨w2.heap.size,4,none⟩=some (.slice cA nc cc):=X3.cell 4;have x5:w3.cell? ⟨w2.heap.size,5,none⟩=some (.slice A n p):=X3.cell 5)
  | (gi_at_call 40;refine(HH.out A p _ ((hc2.below (bw)).below hb3)).mono ?_;rintro e w4 ⟨lb,rfl,hs4,hb4⟩)
  | (gi_at_call 43;have RY:=hb3.trans (hb4.mono hb3.size);refine(HK.out lb A n p _ _ _ _ hs4 (((HC.out A _ (hc2.below (bw))).up hb3).up hb4) (X2.below RY X2.lt) (G2.below RY G2.lt) (S2.below RY S2.lt)).mono ?_;rintro e w5 ⟨rfl,hb5⟩;have Gb:=RY.trans (hb5.mono RY.size);have Z5:=Z2.below Gb Z2.lt;have z0:w5.cell? ⟨w.heap.size+1+1,0,none⟩=some (int i64 0):=Z5.cell 0;have z1:w5.cell? ⟨w.heap.size+1+1,1,none⟩=some (int i64 0):=Z5.cell 1;have zf:=Z5.thaw))
 have U:=(Z5.set 0 (int i64 R1)).set 1 (int i64 R2)
 have u0:=U.cell 0
 have u1:=U.cell 1
 refine bodyPost_ret (v:=.tuple #[.agg #[int i64 R1,int i64 R2],int i64 R4]) (by simp[results,results28,go_sem,u0,u1]) rfl ⟨rfl,?_⟩
 exact((Below.next (Below.al (Below.al (Below.next B1.out hb2) _) _) Gb).setCell zm _).setCell zm _
theorem OO(q:Good)(m:Int)(w:World)(hp:1≤q.pack):CallsIn FF 0 prog 72 #[BH q,int i64 m] w fun e w'=>e=.returned (int i64 (max 0 (wrap64 ((wrap64 (wrap64 (m+q.pack) - 1)).tdiv q.pack))))∧Below w.heap.size w w':=by
 obtain⟨nm,co,pk,lo,hi⟩:=q
 simp only[BH] at hp⊢
 have h0:¬ pk=0:=zo
 gi_enter func72,ntmps72
 gi_wp2
 go_ret
 exact⟨rfl,bw⟩
def uL(b:Bk)(gd:Nat):Int × Int × Bool:=bY (fun h=>stk b h b.days b.nm gd) (aG b (ak b))
def TH(q:Good)(m:Int):Int:=max 0 (wrap64 ((wrap64 (wrap64 (m+q.pack) - 1)).tdiv q.pack))
def VW(b:Bk)(rt:Nat→Int)(d:Int)(k:Nat):Int:=TH (b.g k) (IntKind.i64.wrap (IntKind.i64.wrap (rt k * d) - (uL b k).1))
def wF(b:Bk)(rt:Nat→Int)(d:Int)(k:Nat):List Int:=(List.range k).map (VW b rt d)
theorem Ns(b:Bk)(rt:Nat→Int)(d:Int)(k:Nat):wF b rt d (k+1)=wF b rt d k ++ [VW b rt d k]:=by unfold wF;rw[List.range_succ,List.map_append];rfl
theorem Rw(b:Bk)(rt:Nat→Int)(d:Int)(k:Nat):(wF b rt d k).length=k:=by simp[wF]
def wI(b:Bk)(rt:Nat→Int)(d:Int):Nat→Int
 | 0=>0
 | Nat.succ k=>wrap64 (wI b rt d k+wrap64 (wrap64 (VW b rt d k * (b.g k).pack) * (b.g k).cost))
theorem oa(b:Bk)(A:Option Addr)(p:Nat)(rA:Option Addr)(nr rc:Nat)(rt:Nat→Int)(d:Int)(w:World)(hc:om b A w)(ok:b.Ok)(hl:∀s∈ak b,dN s)(hr:Ints w w.heap.size rA nr rt)(hnr:nr=b.ng)(hne:∀k,k<b.ng→(uL b k).2.2=true)(hpk:∀k,k<b.ng→1≤(b.g k).pack):
 CallsIn FF 0 prog 36 #[.agg (aA b A (ak b).length p),.slice rA nr rc,int i64 d] w fun e w'=>∃v,e=.returned (.tuple #[v,int i64 (wI b rt d b.ng),int i64 0])∧w'.ownsRow w.heap.size 3 1 v b.ng ((wF b rt d b.ng).map (int i64))∧Below w.heap.size w w':=by
 have hx:=kH b ok (ak b) hl
 have HH:=hid fun A p w hc=>uh b ok hl A p w hc
 have hg3:b.ng≤3:=ok.bM.1.2
 have HK:=hid fun lb A n p Bc B w k (hk:k<b.ng) h hA hc hB=>by
  have:=Er 76 lb 71 #[.pointer (some ⟨Bc,0,none⟩),.pointer (some ⟨B,0,none⟩)] (fun h=>stk b h b.days b.nm k) (aG b (ak b)) w h (cx b ok A n p k zo _ hx Bc B w hA hc hB)
  change CallsIn _ _ _ _ _ _ fun e w'=>e=.returned (.tuple #[.agg #[int i64 (uL b k).1,int i64 (uL b k).2.1],int i64 (if (uL b k).2.2 then 0 else 9)])∧_ at this
  rw[hne k hk] at this
  exact this
 have HP:=hid fun k m (w:World) (hk:k<b.ng)=>show CallsIn FF 0 prog 72 #[BH (b.g k),int i64 m] w fun e w'=>e=.returned (int i64 (TH (b.g k) m))∧Below w.heap.size w w' from OO (b.g k) m w (hpk k hk)
 have HC:=hid hc
 have ai:=hid fun A w (h:om b A w)=>h.at_
 have MT:=hid fun A (w w':World) (h:om b A w) (hb:Below w.heap.size w w')=>h.below hb
 have HR:=hid hr
 obtain⟨n,hn⟩:∃n,n=(ak b).length:=⟨_,rfl⟩
 obtain⟨xs,hxs⟩:∃xs,xs=aG b (ak b):=⟨_,rfl⟩
 rw[← hn] at HH⊢
 rw[← hxs] at HH HK
 obtain⟨SG,D3⟩:∃SG,SG=uL b:=⟨_,rfl⟩
 obtain⟨BM,kz⟩:∃BM,BM=VW b rt d:=⟨_,rfl⟩
 obtain⟨BL,hBL⟩:∃BL,BL=wF b rt d:=⟨_,rfl⟩
 obtain⟨CN,IE⟩:∃CN,CN=wI b rt d:=⟨_,rfl⟩
 have Mz:Hid (∀k,BM k=TH (b.g k) (IntKind.i64.wrap (IntKind.i64.wrap (rt k * d) - (SG k).1))):=hid fun k=>by rw[kz,D3];rfl
 have ya:Hid (BL 0=[]):=hid (by rw[hBL];rfl)
 have ye:Hid (∀k,BL (k+1)=BL k ++ [BM k]):=hid fun k=>by rw[hBL,kz];exact Ns b rt d k
 have yb:Hid (∀k,(BL k).length=k):=hid fun k=>by rw[hBL];exact Rw b rt d k
 have yq:Hid (CN 0=0):=hid (by rw[IE];rfl)
 have mj:Hid (∀k,CN (k+1)=wrap64 (CN k+wrap64 (wrap64 (BM k * (b.g k).pack) * (b.g k).cost))):=hid fun k=>by rw[IE,kz];rfl
 rw[← D3] at HK
 rw[← hBL,← IE]
 obtain⟨i0,hi,hz0,hz1,hz2⟩:=info_parts info3
 have hi0:=hid hi
 clear hi hn hxs hc hl ok hpk hx hr hne D3 kz hBL IE
 subst hnr
 obtain⟨days,most,gA,ng,gc,g,mA,nm,mc,m,cA,nc,cc,c⟩:=b
 simp only[aA,BH] at HH HK HP Mz mj hg3 HR⊢
 obtain⟨w1,hw1⟩:∃w1,w1=w.alloc (.cells #[int i64 days,int i64 most,.slice gA ng gc,.slice mA nm mc,.slice cA nc cc,.slice A n p] 76):=⟨_,rfl⟩
 have B1:Hid (Below w.heap.size w w1):=hid (by rw[hw1];exact bw)
 have X1:Hid (Whole w1 w.heap.size 76 #[int i64 days,int i64 most,.slice gA ng gc,.slice mA nm mc,.slice cA nc cc,.slice A n p]):=hid (by rw[hw1];exact Whole.new _ _ _)
 have hs1:w1.heap.size=w.heap.size+1:=by rw[hw1];simp
 have mX:=hid hw1
 clear hw1
 gi_enter func36,ntmps36
 gi_wp2
 rw[← mX.out]
 clear mX
 gi_loopw [6,7,19] (fun l u i wr=>∃k:Nat,k≤ng∧i=int i64 k∧u=int i64 (CN k)∧Hid (wr.ownsRow (w.heap.size+1) 3 1 l k ((BL k).map (int i64))∧Below (w.heap.size+1) w1 wr)) (fun _ _ i _=>ng - (intOf i).toNat)
 case atStart=>exact⟨0,Nat.zero_le _,rfl,by rw[yq.out],hid ⟨by rw[ya.out];exact jl _ (w.heap.size+1) 3,Below.refl _ _⟩⟩
 case round=>
  obtain⟨k,hk,rfl,rfl,hT⟩:=hrel
  obtain⟨A9,n9,p9,rfl⟩:=eX hT.out.1
  obtain⟨wo,rfl⟩:∃wo:World,wo=wr:=⟨_,rfl⟩
  have hso:w.heap.size+1≤wo.heap.size:=by have:=hT.out.2.size;omega
  have BO:Hid (Below w.heap.size w wo):=hid (B1.out.trans (hT.out.2.mono zo))
  by_cases hlt:k<ng
  ·obtain⟨ad,hA',hbl,-⟩:=(ai.out A w HC.out).g (show 0<ng by omega)
   simp only at hA'
   subst hA'
   obtain⟨gk,D5⟩:∃gk,gk=g k:=⟨_,rfl⟩
   have hr:∀j,j<5→wo.cell? ((ad.add (k * 5)).add j)=some (gk.cell j):=fun j hj=>by rw[D5];exact(((ai.out (A) w HC.out).g.below BO.out)).row hlt |>.2 j hj
   have wv:=Mz.out k
   have oS:=mj.out k
   have xc:=fun m w=>HP.out k m w hlt
   have DO:=fun lb n p Bc B w'=>HK.out lb A n p Bc B w' k hlt
   have DM:=ye.out k
   rw[← D5] at wv oS xc
   obtain⟨Ms,co,pk,lo,hi⟩:=gk
   have c0:wo.cell? (ad.add (k * 5))=some (.string Ms):=hr 0 zD
   have c1:wo.cell? ⟨(ad.add (k * 5)).block,(ad.add (k * 5)).off+1,none⟩=some (int i64 co):=hr 1 zD
   have c2:wo.cell? ⟨(ad.add (k * 5)).block,(ad.add (k * 5)).off+2,none⟩=some (int i64 pk):=hr 2 zD
   have c3:wo.cell? ⟨(ad.add (k * 5)).block,(ad.add (k * 5)).off+3,none⟩=some (int i64 lo):=hr 3 zD
   have c4:wo.cell? ⟨(ad.add (k * 5)).block,(ad.add (k * 5)).off+4,none⟩=some (int i64 hi):=hr 4 zD
   obtain⟨R1,k9⟩:∃R1,R1=(SG k).1:=⟨_,rfl⟩
   obtain⟨R2,hR2⟩:∃R2,R2=(SG k).2.1:=⟨_,rfl⟩
   obtain⟨M,hM⟩:∃M,M=BM k:=⟨_,rfl⟩
   obtain⟨rk,ez⟩:∃rk,rk=rt k:=⟨_,rfl⟩
   rw[← k9,← hR2] at DO
   rw[← k9,← hM,← ez] at wv
   rw[← hM] at oS DM
   simp only at oS xc
   have Xs:=hid oS
   have Wf:=hid DM
   have HPk:=hid fun w=>by have:=xc (IntKind.i64.wrap (IntKind.i64.wrap (rk * d) - R1)) w;rw[← wv] at this;exact this
   have HKk:=hid DO
   obtain⟨ra,hra,hrb,-⟩:=HR.out (show 0<ng by omega)
   subst hra
   have rr:wo.cell? (ra.add k)=some (int i64 rk):=by
    rw[ez]
    exact(BO.out.cell (by rw[aH];exact hrb)).trans (HR.out.at_ hlt)
   clear hr D5 oS DM xc DO k9 hR2 hM wv ez
   obtain⟨w2,hw2⟩:∃w2,w2=(wo.alloc (.cells #[int i64 k] 3)).alloc (.cells #[.string Ms,int i64 co,int i64 pk,int i64 lo,int i64 hi] 40):=⟨_,rfl⟩
   have B2:Hid (Below wo.heap.size wo w2):=hid (by rw[hw2];exact bw)
   have K2:Hid (Whole w2 wo.heap.size 3 #[int i64 k]):=hid (by rw[hw2];exact(Whole.new _ _ _).alloc _)
   have G2:Hid (Whole w2 (wo.heap.size+1) 40 #[.string Ms,int i64 co,int i64 pk,int i64 lo,int i64 hi]):=hid (by rw[hw2];exact aP zs)
   have X2:=hid ((X1.out.below hT.out.2 zo).below B2.out zo)
   have x0:w2.cell? ⟨w.heap.size,0,none⟩=some (int i64 days):=X2.out.cell 0
   have x1:w2.cell? ⟨w.heap.size,1,none⟩=some (int i64 most):=X2.out.cell 1
   have x2:w2.cell? ⟨w.heap.size,2,none⟩=some (.slice (some ad) ng gc):=X2.out.cell 2
   have x3:w2.cell? ⟨w.heap.size,3,none⟩=some (.slice mA nm mc):=X2.out.cell 3
   have x4:w2.cell? ⟨w.heap.size,4,none⟩=some (.slice cA nc cc):=X2.out.cell 4
   have x5:w2.cell? ⟨w.heap.size,5,none⟩=some (.slice A n p):=X2.out.cell 5
   have VS:Hid (Below w.heap.size w w2):=hid (Below.next BO.out B2.out)
   have C2:=hid (MT.out A w w2 HC.out VS.out)
   rw[hw2] at x0 x1 x2 x3 x4 x5
   have ER:=hid hw2
   clear hw2
   gi_wp2_with (first
    | (gi_at_call 40;rw[← ER.out];refine(HH.out A p _ C2.out).mono ?_;rintro e w4 ⟨lb,rfl,hs4,hb4⟩;have aaA:=hb4.size)
    | (gi_at_call 43;refine(HKk.out lb n p _ _ _ hs4 (ai.out A _ (MT.out A w2 w4 C2.out hb4)) (X2.out.below hb4 X2.out.lt) (K2.out.below hb4 K2.out.lt)).mono ?_;rintro e w5 ⟨rfl,hb5⟩))
   have du:=hb4.trans (hb5.mono hb4.size)
   obtain⟨w7,hw7⟩:∃w7,w7=w5.alloc (.cells #[int i64 R1,int i64 R2] 38):=⟨_,rfl⟩
   have B7:Hid (Below w2.heap.size w2 w7):=hid (by rw[hw7];exact du.alloc du.size _)
   have S7:Hid (Whole w7 w5.heap.size 38 #[int i64 R1,int i64 R2]):=hid (by rw[hw7];exact Whole.new _ _ _)
   have K7:=hid (K2.out.below B7.out K2.out.lt)
   have G7:=hid (G2.out.below B7.out G2.out.lt)
   have Mb:Hid (Below wo.heap.size wo w7):=hid (Below.next B2.out B7.out)
   have hwo:w.heap.size≤wo.heap.size:=zo
   have T':w7.cell? (ra.add k)=some (int i64 rk):=(Mb.out.cell (by rw[aH];omega)).trans rr
   rw[← hw7]
   clear hw7
   have qk:∀d os,(grow (redrawn w7 d) os).cell? ⟨wo.heap.size,0,none⟩=some (int i64 k):=cell_regrown (K7.out.cell 0)
   have qg0:∀d os,(grow (redrawn w7 d) os).cell? ⟨wo.heap.size+1,0,none⟩=some (.string Ms):=cell_regrown (G7.out.cell 0)
   have qg1:∀d os,(grow (redrawn w7 d) os).cell? ⟨wo.heap.size+1,1,none⟩=some (int i64 co):=cell_regrown (G7.out.cell 1)
   have qg2:∀d os,(grow (redrawn w7 d) os).cell? ⟨wo.heap.size+1,2,none⟩=some (int i64 pk):=cell_regrown (G7.out.cell 2)
   have qg3:∀d os,(grow (redrawn w7 d) os).cell? ⟨wo.heap.size+1,3,none⟩=some (int i64 lo):=cell_regrown (G7.out.cell 3)
   have qg4:∀d os,(grow (redrawn w7 d) os).cell? ⟨wo.heap.size+1,4,none⟩=some (int i64 hi):=cell_regrown (G7.out.cell 4)
   have qs:∀d os,(grow (redrawn w7 d) os).cell? ⟨w5.heap.size,0,none⟩=some (int i64 R1):=cell_regrown (S7.out.cell 0)
   have qr:∀d os,(grow (redrawn w7 d) os).cell? (ra.add k)=some (int i64 rk):=cell_regrown T'
   have cP:∀dd os,CallsIn FF 0 prog 72 #[.agg #[.string Ms,int i64 co,int i64 pk,int i64 lo,int i64 hi],int i64 (IntKind.i64.wrap (IntKind.i64.wrap (rk * d) - R1))] (grow (redrawn w7 dd) os) fun e w''=>e=.returned (int i64 M)∧∃p:Regrown,w''=grow (redrawn w7 p.d) p.os:=fun dd os=>CallsIn.regrown_of (HPk.out _)
   refine wpIn_region_quiet_below rfl zk zk ?_
   repeat (quiet_step_in (exact cP _ _))
   refine wpQuietIn_nil ?_
   rintro w' ⟨⟨dq,osq⟩,rfl⟩
   have bD:=below_regrown w7 dq osq
   clear qk qg0 qg1 qg2 qg3 qg4 qs qr cP
   generalize grow (redrawn w7 dq) osq=w9 at bD⊢
   have xv:Hid (Below wo.heap.size wo w9):=hid (Below.next Mb.out bD)
   have G9:=hid (G7.out.below bD G7.out.lt)
   have Ho:=hid (own_below hT.out.1 xv.out)
   have HT1:=hid hT.out.1
   have hs9:=xv.out.size
   have hk3:k≤3:=zo
   have hBn:=yb.out k
   clear bD T' du hb4 hb5 hs4 rr c0 c1 c2 c3 c4
   gi_wp2_with (gi_at_builtin;refine aF rfl rfl rfl fun K5 iX=>?_;refine wp_append_lies _ _ _ _ rfl (w.heap.size+1) 3 i0 _ 1 8 underlying30 hi0.out hz0 hz1 hz2 rfl zo (.slice A9 n9 p9) k _ rfl (aQ Ho.out _) ⟨w9.heap.size,0,none⟩ 1 1 [_] rfl rfl (World.news_of_block (heap_alloc_new w9 _)) (by simp[Value.oneCell']) zo zU zo zm (w9.heap.size+1) zs ?_;intro pz nD w10 hown5 aM lG nI;have GG:=(G9.out.alloc (.cells #[int i64 M] 3)).grown aM (fun e=>by have:=bR HT1.out e.symm;omega);have y0:w10.cell? ⟨wo.heap.size+1,0,none⟩=some (.string Ms):=GG.cell 0;have y1:w10.cell? ⟨wo.heap.size+1,1,none⟩=some (int i64 co):=GG.cell 1;have y2:w10.cell? ⟨wo.heap.size+1,2,none⟩=some (int i64 pk):=GG.cell 2;have y3:w10.cell? ⟨wo.heap.size+1,3,none⟩=some (int i64 lo):=GG.cell 3;have y4:w10.cell? ⟨wo.heap.size+1,4,none⟩=some (int i64 hi):=GG.cell 4;refine iX _ _ ?_;clear iX K5)
   exact⟨⟨k+1,hlt,by push_cast;rfl,by rw[Xs.out],hid ⟨by rw[Wf.out,List.map_append];exact hown5,(((hT.out.2.trans (xv.out.mono zo)).alloc zo _).trans (below_grown aM zm (fun g hg=>(bR HT1.out hg).1)))⟩⟩,by simp[intOf];omega⟩
  ·obtain rfl:k=ng:=zo
   gi_wp2
   go_ret3
   exact⟨_,rfl,dP hT.out.1 (Nat.le_succ _),BO.out⟩
theorem Pm(b:Bk)(rA:Option Addr)(nr rc:Nat)(rt:Nat→Int)(d:Int)(w:World)(h:b.At w w.heap.size)(ok:b.Ok)(hcap:b.ng≤b.gc)(hl:∀s∈ak b,dN s)(hr:Ints w w.heap.size rA nr rt)(hnr:nr=b.ng)(hne:∀k,k<b.ng→(uL b k).2.2=true)(hpk:∀k,k<b.ng→1≤(b.g k).pack)(hrt:∀i,i<nr→0≤rt i∧rt i≤99)(hd:0≤d∧d≤99):
 CallsIn FF 0 prog 9 #[b.val,.slice rA nr rc,int i64 d] w fun e w'=>∃v,e=.returned (.tuple #[v,int i64 (wI b rt d b.ng),int i64 0])∧w'.ownsRow w.heap.size 3 1 v b.ng ((wF b rt d b.ng).map (int i64))∧Below w.heap.size w w':=by
 have HO:=hid fun w h=>mF b w h ok hcap
 have HB:=hid fun A p w hc hr=>oa b A p rA nr rc rt d w hc ok hl hr hnr hne hpk
 have HE:=hid fun(w:World) (hI:Ints w w.heap.size rA nr rt)=>show CallsIn FF 0 prog 34 #[.slice rA nr rc,int i64 b.ng,int i64 99] w fun e w'=>e=.returned (int i64 0)∧Below w.heap.size w w' from by
  have:=JA rt rA nr rc 99 w hI (by unfold maxLen;have:=ok.bM.1.2;omega) hrt
  rwa[hnr] at this⊢
 have HN:=hid fun(w:World)=>show CallsIn FF 0 prog 35 #[int i64 d,int i64 0,int i64 99] w fun e w'=>e=.returned (.bool true)∧w=w' from by
  have:=dh d 0 99 w
  have e:fU d 0 99=true:=by unfold fU;simp;omega
  rwa[e] at this
 have HR:=hid fun(w':World) (hb:Below w.heap.size w w')=>show Ints w' w'.heap.size rA nr rt from(Rows.below hr hb).more hb.size
 have HA:=hid h
 obtain⟨n,hn⟩:∃n,n=(ak b).length:=⟨_,rfl⟩
 rw[← hn] at HO HB
 obtain⟨BL,hBL⟩:∃BL,BL=wF b rt d b.ng:=⟨_,rfl⟩
 obtain⟨CN,IE⟩:∃CN,CN=wI b rt d b.ng:=⟨_,rfl⟩
 rw[← hBL,← IE] at HB⊢
 clear hn h hcap hl ok hBL IE hr hne hpk hrt hd hnr
 obtain⟨days,most,gA,ng,gc,g,mA,nm,mc,m,cA,nc,cc,c⟩:=b
 simp only[Bk.val,Bk.cells,aA] at HO HB HE⊢
 gi_enter func9,ntmps9
 gi_wp2_with (first
  | (gi_at_call 33;refine(HO.out _ (HA.out.up (bw))).mono ?_;rintro e w2 ⟨A,p,rfl,hc2,hb2,-⟩;have DY:Hid (Below w.heap.size w (w2.alloc (.cells #[int i64 days,int i64 most,.slice gA ng gc,.slice mA nm mc,.slice cA nc cc,.slice A n p] 76))):=hid (Below.al (Below.next (show Below w.heap.size w (w.alloc (.cells #[int i64 days,int i64 most,.slice gA ng gc,.slice mA nm mc,.slice cA nc cc] 26)) from bw) hb2) _))
  | (gi_at_call 34;refine(HE.out _ (HR.out _ DY.out)).mono ?_;rintro e w3 ⟨rfl,hb3⟩;have X3:Whole w3 w2.heap.size 76 #[int i64 days,int i64 most,.slice gA ng gc,.slice mA nm mc,.slice cA nc cc,.slice A n p]:=(Whole.new w2 _ _).below hb3 zs;have x0:w3.cell? ⟨w2.heap.size,0,none⟩=some (int i64 days):=X3.cell 0;have x1:w3.cell? ⟨w2.heap.size,1,none⟩=some (int i64 most):=X3.cell 1;have x2:w3.cell? ⟨w2.heap.size,2,none⟩=some (.slice gA ng gc):=X3.cell 2;have x3:w3.cell? ⟨w2.heap.size,3,none⟩=some (.slice mA nm mc):=X3.cell 3;have x4:w3.cell? ⟨w2.heap.size,4,none⟩=some (.slice cA nc cc):=X3.cell 4;have x5:w3.cell? ⟨w2.heap.size,5,none⟩=some (.slice A n p):=X3.cell 5)
  | (gi_at_call 35;refine(HN.out _).mono ?_;rintro e w4 ⟨rfl,rfl⟩)
  | (gi_at_call 36;refine(HB.out A p _ ((hc2.below (bw)).below hb3) (HR.out _ (Below.next DY.out hb3))).mono ?_;rintro e w5 ⟨v,rfl,hv,hb5⟩))
 go_ret3
 exact⟨v,rfl,dP hv (by have:=DY.out.size;have:=hb3.size;omega),Below.next (Below.next DY.out hb3) hb5⟩
end
section
open Go.RowKit
theorem lH(b:Bk)(ok:b.Ok):∀s∈ak b,dN s:=fun s hs=>by
 have:=List.mem_range.1 (List.mem_filter.1 hs).1
 exact Nat.lt_of_lt_of_le this (Nat.le_trans (Nat.pow_le_pow_right zD ok.moves.1) zD)
end
end Go.Proofs.YthaelabgfnnebaaGreat
