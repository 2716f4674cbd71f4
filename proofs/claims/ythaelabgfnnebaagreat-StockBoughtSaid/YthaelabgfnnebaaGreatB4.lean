/- HQ HZ -/
import Derived.Test.YthaelabgfnnebaaGreatB3
set_option maxRecDepth 100000
set_option maxHeartbeats 16000000
set_option linter.unusedVariables false
set_option linter.unusedSectionVars false
open Go.IntKind(i64)
open Go.Lib(hid)
open Go.Proofs.Tryz
open Go.Value(int)
namespace Go.Proofs.YthaelabgfnnebaaGreat
section
open Go.RowKit
open Go.Sort (grow)
attribute [local go_sem] Oper.semAt_some
theorem aM{w:World}{t:TypeId}{cs:Array Value}{n:Nat}(h:w.heap.size=n):Whole (w.alloc (.cells cs t)) n t cs:=by subst h;exact Whole.new _ _ _
theorem uo(b:Bk)(k:Nat)(w:World)(h:b.At w w.heap.size)(ok:b.Ok)(hcap:b.ng≤b.gc)(hl:∀s∈ak b,cO s)(hlen:(aD b (ak b)).length<2 ^ 40)(hk:k<b.nm)(hkd:(b.m k).kind=0):CallsIn FF 0 prog 27 #[b.val,int i64 k] w fun e w'=>e=.returned (.tuple #[int i64 (Mc (aD b (ak b)).length ((aD b (ak b)).filter fun h=>h.FQ k).length),int i64 (QI (aD b (ak b)).length)])∧Below w.heap.size w w':=by
 have hx:=gK b ok (ak b) hl
 have HO:=hid fun w h=>mE b w h ok hcap
 have HH:=hid fun A p w hc=>oM b ok hl A p w hc
 have HN:=hid fun w h=>by have:=sK b k w h hk;rw[decide_eq_true hkd] at this;exact this
 have RA:k<6:=by have:=ok.moves.1;omega
 have HK:=hid fun lb B w h hB=>et 76 lb 60 #[.pointer (some ⟨B,0,none⟩)] (fun h=>h.FQ k) (aD b (ak b)) w hlen h (Q0 k RA _ hx B w hB)
 have HA:=hid h
 have HC:=hid fun A w (h:mZ b A w)=>h.at_
 obtain⟨n,hn⟩:∃n,n=(ak b).length:=⟨_,rfl⟩
 obtain⟨xs,hxs⟩:∃xs,xs=aD b (ak b):=⟨_,rfl⟩
 rw[← hn] at HO HH
 rw[← hxs] at HH HK⊢
 obtain⟨R1,gv⟩:∃R,R=Mc xs.length (xs.filter fun h=>h.FQ k).length:=⟨_,rfl⟩
 rw[← gv] at HK⊢
 clear hn hxs h hcap hl hlen ok gv hkd hx
 obtain⟨days,most,gA,ng,gc,g,mA,nm,mc,m,cA,nc,cc,c⟩:=b
 simp only[Bk.val,Bk.cells,aA] at HO HH HN⊢
 have K1:Hid (Whole ((w.alloc (.cells #[int i64 days,int i64 most,.slice gA ng gc,.slice mA nm mc,.slice cA nc cc] 26)).alloc (.cells #[int i64 k] 3)) (w.heap.size+1) 3 #[int i64 k]):=hid (aM zs)
 gi_enter func27,ntmps27
 gi_wp2_with (first
  | (gi_at_call 33;refine(HO.out _ (HA.out.up (bw))).mono ?_;rintro e w2 ⟨A,p,rfl,hc2,hb2,-⟩;have K2:=(K1.out.below hb2 zs).alloc (.cells #[int i64 days,int i64 most,.slice gA ng gc,.slice mA nm mc,.slice cA nc cc,.slice A n p] 76);have k2:(w2.alloc (.cells #[int i64 days,int i64 most,.slice gA ng gc,.slice mA nm mc,.slice cA nc cc,.slice A n p] 76)).cell? ⟨w.heap.size+1,0,none⟩=some (int i64 k):=K2.cell 0)
  | (gi_at_call 58;refine(HN.out _ ((HC.out A _ (hc2.below (bw))))).mono ?_;rintro e w3 ⟨rfl,hb3⟩;have X3:Whole w3 w2.heap.size 76 #[int i64 days,int i64 most,.slice gA ng gc,.slice mA nm mc,.slice cA nc cc,.slice A n p]:=(Whole.new w2 _ _).below hb3 zs;have x0:w3.cell? ⟨w2.heap.size,0,none⟩=some (int i64 days):=X3.cell 0;have x1:w3.cell? ⟨w2.heap.size,1,none⟩=some (int i64 most):=X3.cell 1;have x2:w3.cell? ⟨w2.heap.size,2,none⟩=some (.slice gA ng gc):=X3.cell 2;have x3:w3.cell? ⟨w2.heap.size,3,none⟩=some (.slice mA nm mc):=X3.cell 3;have x4:w3.cell? ⟨w2.heap.size,4,none⟩=some (.slice cA nc cc):=X3.cell 4;have x5:w3.cell? ⟨w2.heap.size,5,none⟩=some (.slice A n p):=X3.cell 5;have K3:=K2.below hb3 K2.lt)
  | (gi_at_call 40;refine(HH.out A p _ ((hc2.below (bw)).below hb3)).mono ?_;rintro e w4 ⟨lb,rfl,hs4,hb4⟩)
  | (gi_at_call 59;refine(HK.out lb _ _ hs4 (K3.below hb4 K3.lt)).mono ?_;rintro e w5 ⟨rfl,hb5⟩))
 go_ret2
 exact⟨rfl,Below.next (Below.next (Below.next (Below.al (Below.next (bw) hb2) _) hb3) hb4) hb5⟩
theorem GI(b:Bk)(k:Nat)(w:World)(h:b.At w w.heap.size)(ok:b.Ok)(hcap:b.ng≤b.gc)(hl:∀s∈ak b,cO s)(hk:(k:Int)≤b.days):CallsIn FF 0 prog 29 #[b.val,int i64 k] w fun e w'=>e=.returned (.tuple #[.agg #[int i64 (bR (fun h=>iG b (stk b h k b.nm) b.ng) (aD b (ak b))).1,int i64 (bR (fun h=>iG b (stk b h k b.nm) b.ng) (aD b (ak b))).2.1],int i64 (if (bR (fun h=>iG b (stk b h k b.nm) b.ng) (aD b (ak b))).2.2 then 0 else 9)])∧Below w.heap.size w w':=by
 have hx:=gK b ok (ak b) hl
 have HO:=hid fun w h=>mE b w h ok hcap
 have HH:=hid fun A p w hc=>oM b ok hl A p w hc
 have HN:=hid fun(w:World)=>show CallsIn FF 0 prog 38 #[b.val,int i64 k] w fun e w'=>e=.returned (.bool true)∧Below w.heap.size w w' from by
  have:=qZ b k w
  have e:fO (k:Int) 0 b.days=true:=by unfold fO;simp;omega
  rwa[e] at this
 have HK:=hid fun lb A n p Bc B w h hA hc hB=>wZ 76 lb 65 #[.pointer (some ⟨Bc,0,none⟩),.pointer (some ⟨B,0,none⟩)] (fun h=>iG b (stk b h k b.nm) b.ng) (aD b (ak b)) w h (Uk b ok A n p k _ hx Bc B w hA hc hB)
 have HA:=hid h
 have HC:=hid fun A w (h:mZ b A w)=>h.at_
 obtain⟨n,hn⟩:∃n,n=(ak b).length:=⟨_,rfl⟩
 obtain⟨xs,hxs⟩:∃xs,xs=aD b (ak b):=⟨_,rfl⟩
 rw[← hn] at HO HH
 rw[← hxs] at HH HK⊢
 obtain⟨⟨R1,R2,R3⟩,hR⟩:∃R,R=bR (fun h=>iG b (stk b h k b.nm) b.ng) xs:=⟨_,rfl⟩
 rw[← hR] at HK⊢
 obtain⟨R4,Rb⟩:∃R4:Int,R4=if (R1,R2,R3).2.2=true then 0 else 9:=⟨_,rfl⟩
 rw[← Rb] at HK⊢
 clear hn hxs h hcap hl ok hR Rb hk hx
 obtain⟨days,most,gA,ng,gc,g,mA,nm,mc,m,cA,nc,cc,c⟩:=b
 simp only[Bk.val,Bk.cells,aA] at HO HH HN HK⊢
 have K1:Hid (Whole (((w.alloc (.cells #[int i64 days,int i64 most,.slice gA ng gc,.slice mA nm mc,.slice cA nc cc] 26)).alloc (.cells #[int i64 k] 3)).alloc (.cells #[int i64 0,int i64 0] 38)) (w.heap.size+1) 3 #[int i64 k]):=hid ((aM zs).alloc _)
 have Z1:Hid (Whole (((w.alloc (.cells #[int i64 days,int i64 most,.slice gA ng gc,.slice mA nm mc,.slice cA nc cc] 26)).alloc (.cells #[int i64 k] 3)).alloc (.cells #[int i64 0,int i64 0] 38)) (w.heap.size+1+1) 38 #[int i64 0,int i64 0]):=hid (aM zs)
 gi_enter func29,ntmps29
 gi_wp2_with (first
  | (gi_at_call 33;refine(HO.out _ (HA.out.up (bw))).mono ?_;rintro e w2 ⟨A,p,rfl,hc2,hb2,-⟩;have K2:=(K1.out.below hb2 zs).alloc (.cells #[int i64 days,int i64 most,.slice gA ng gc,.slice mA nm mc,.slice cA nc cc,.slice A n p] 76);have k2:(w2.alloc (.cells #[int i64 days,int i64 most,.slice gA ng gc,.slice mA nm mc,.slice cA nc cc,.slice A n p] 76)).cell? ⟨w.heap.size+1,0,none⟩=some (int i64 k):=K2.cell 0;have Z2:=(Z1.out.below hb2 zs).alloc (.cells #[int i64 days,int i64 most,.slice gA ng gc,.slice mA nm mc,.slice cA nc cc,.slice A n p] 76))
  | (gi_at_call 38;refine(HN.out _).mono ?_;rintro e w3 ⟨rfl,hb3⟩;have X3:Whole w3 w2.heap.size 76 #[int i64 days,int i64 most,.slice gA ng gc,.slice mA nm mc,.slice cA nc cc,.slice A n p]:=(Whole.new w2 _ _).below hb3 zs;have x0:w3.cell? ⟨w2.heap.size,0,none⟩=some (int i64 days):=X3.cell 0;have x1:w3.cell? ⟨w2.heap.size,1,none⟩=some (int i64 most):=X3.cell 1;have x2:w3.cell? ⟨w2.heap.size,2,none⟩=some (.slice gA ng gc):=X3.cell 2;have x3:w3.cell? ⟨w2.heap.size,3,none⟩=some (.slice mA nm mc):=X3.cell 3;have x4:w3.cell? ⟨w2.heap.size,4,none⟩=some (.slice cA nc cc):=X3.cell 4;have x5:w3.cell? ⟨w2.heap.size,5,none⟩=some (.slice A n p):=X3.cell 5;have K3:=K2.below hb3 K2.lt)
  | (gi_at_call 40;refine(HH.out A p _ ((hc2.below (bw)).below hb3)).mono ?_;rintro e w4 ⟨lb,rfl,hs4,hb4⟩)
  | (gi_at_call 43;refine(HK.out lb A n p _ _ _ hs4 (((HC.out A _ (hc2.below (bw))).up hb3).up hb4) (X3.below hb4 X3.lt) (K3.below hb4 K3.lt)).mono ?_;rintro e w5 ⟨rfl,hb5⟩;have Fv:=hb4.trans (hb5.mono hb4.size);have Z5:=(Z2.below hb3 Z2.lt).below Fv (Z2.below hb3 Z2.lt).lt;have z0:w5.cell? ⟨w.heap.size+1+1,0,none⟩=some (int i64 0):=Z5.cell 0;have z1:w5.cell? ⟨w.heap.size+1+1,1,none⟩=some (int i64 0):=Z5.cell 1;have zf:=Z5.thaw))
 have U:=(Z5.set 0 (int i64 R1)).set 1 (int i64 R2)
 have u0:=U.cell 0
 have u1:=U.cell 1
 refine bodyPost_ret (v:=.tuple #[.agg #[int i64 R1,int i64 R2],int i64 R4]) (by simp[results,results29,go_sem,u0,u1]) rfl ⟨rfl,?_⟩
 exact((Below.next (Below.next (Below.al (Below.next (bw) hb2) _) hb3) Fv).setCell zm _).setCell zm _
theorem GD(b:Bk)(gd:Nat)(w:World)(h:b.At w w.heap.size)(ok:b.Ok)(hcap:b.ng≤b.gc)(hl:∀s∈ak b,cO s)(hgd:gd<b.ng):CallsIn FF 0 prog 12 #[b.val,int i64 gd,int i64 2] w fun e w'=>e=.returned (.tuple #[.agg #[int i64 (bR (fun h=>IntKind.i64.wrap ((stk b h b.days b.nm gd).tdiv 2)) (aD b (ak b))).1,int i64 (bR (fun h=>IntKind.i64.wrap ((stk b h b.days b.nm gd).tdiv 2)) (aD b (ak b))).2.1],int i64 (if (bR (fun h=>IntKind.i64.wrap ((stk b h b.days b.nm gd).tdiv 2)) (aD b (ak b))).2.2 then 0 else 9)])∧Below w.heap.size w w':=by
 have hx:=gK b ok (ak b) hl
 have HO:=hid fun w h=>mD b gd w h ok hcap hgd
 have HH:=hid fun A p w hc=>oM b ok hl A p w hc
 have hg3:gd<3:=by have:=ok.bn.1.2;omega
 have HN:=hid fun(w:World)=>show CallsIn FF 0 prog 35 #[int i64 2,int i64 1,int i64 99] w fun e w'=>e=.returned (.bool true)∧w=w' from by
  have:=bZ 2 1 99 w
  have e:fO 2 1 99=true:=zD
  rwa[e] at this
 have HK:=hid fun lb A n p Bc Bg B w h hA hc hg hB=>wZ 76 lb 44 #[.pointer (some ⟨Bc,0,none⟩),.pointer (some ⟨Bg,0,none⟩),.pointer (some ⟨B,0,none⟩)] (fun h=>IntKind.i64.wrap ((stk b h b.days b.nm gd).tdiv 2)) (aD b (ak b)) w h (R6 b ok A n p gd hg3 _ hx Bc Bg B w hA hc hB hg)
 have HA:=hid h
 have HC:=hid fun A w (h:mZ b A w)=>h.at_
 obtain⟨n,hn⟩:∃n,n=(ak b).length:=⟨_,rfl⟩
 obtain⟨xs,hxs⟩:∃xs,xs=aD b (ak b):=⟨_,rfl⟩
 rw[← hn] at HO HH
 rw[← hxs] at HH HK⊢
 obtain⟨⟨R1,R2,R3⟩,hR⟩:∃R,R=bR (fun h=>IntKind.i64.wrap ((stk b h b.days b.nm gd).tdiv 2)) xs:=⟨_,rfl⟩
 rw[← hR] at HK⊢
 obtain⟨R4,Rb⟩:∃R4:Int,R4=if (R1,R2,R3).2.2=true then 0 else 9:=⟨_,rfl⟩
 rw[← Rb] at HK⊢
 clear hn hxs h hcap hl ok hR Rb hgd hx
 obtain⟨days,most,gA,ng,gc,g,mA,nm,mc,m,cA,nc,cc,c⟩:=b
 simp only[Bk.val,Bk.cells,aA] at HO HH HK⊢
 obtain⟨w1,hw1⟩:∃w1,w1=(((w.alloc (.cells #[int i64 days,int i64 most,.slice gA ng gc,.slice mA nm mc,.slice cA nc cc] 26)).alloc (.cells #[int i64 gd] 3)).alloc (.cells #[int i64 2] 3)).alloc (.cells #[int i64 0,int i64 0] 38):=⟨_,rfl⟩
 have B1:Hid (Below w.heap.size w w1):=hid (by rw[hw1];exact bw)
 have G1:Hid (Whole w1 (w.heap.size+1) 3 #[int i64 gd]):=hid (by rw[hw1];exact((aM zs).alloc _).alloc _)
 have K1:Hid (Whole w1 (w.heap.size+1+1) 3 #[int i64 2]):=hid (by rw[hw1];exact(aM zs).alloc _)
 have Z1:Hid (Whole w1 (w.heap.size+1+1+1) 38 #[int i64 0,int i64 0]):=hid (by rw[hw1];exact aM zs)
 have lT:=hid hw1
 clear hw1
 gi_enter func12,ntmps12
 gi_wp2_with (first
  | (gi_at_call 37;rw[← lT.out];refine(HO.out _ (HA.out.up B1.out)).mono ?_;rintro e w2 ⟨A,p,rfl,hc2,hb2⟩;have K2:=(K1.out.below hb2 K1.out.lt).alloc (.cells #[int i64 days,int i64 most,.slice gA ng gc,.slice mA nm mc,.slice cA nc cc,.slice A n p] 76);have k2:(w2.alloc (.cells #[int i64 days,int i64 most,.slice gA ng gc,.slice mA nm mc,.slice cA nc cc,.slice A n p] 76)).cell? ⟨w.heap.size+1+1,0,none⟩=some (int i64 2):=K2.cell 0;have Z2:=(Z1.out.below hb2 Z1.out.lt).alloc (.cells #[int i64 days,int i64 most,.slice gA ng gc,.slice mA nm mc,.slice cA nc cc,.slice A n p] 76);have G2:=(G1.out.below hb2 G1.out.lt).alloc (.cells #[int i64 days,int i64 most,.slice gA ng gc,.slice mA nm mc,.slice cA nc cc,.slice A n p] 76))
  | (gi_at_call 35;refine(HN.out _).mono ?_;rintro e w3 ⟨rfl,rfl⟩)
  | (gi_at_call 40;refine(HH.out A p _ (hc2.below (bw))).mono ?_;rintro e w4 ⟨lb,rfl,hs4,hb4⟩)
  | (gi_at_call 43;refine(HK.out lb A n p _ _ _ _ hs4 ((HC.out A _ (hc2.below (bw))).up hb4) ((Whole.new w2 _ _).below hb4 zs) (G2.below hb4 G2.lt) (K2.below hb4 K2.lt)).mono ?_;rintro e w5 ⟨rfl,hb5⟩;have Fv:=hb4.trans (hb5.mono hb4.size);have Z5:=Z2.below Fv Z2.lt;have z0:w5.cell? ⟨w.heap.size+1+1+1,0,none⟩=some (int i64 0):=Z5.cell 0;have z1:w5.cell? ⟨w.heap.size+1+1+1,1,none⟩=some (int i64 0):=Z5.cell 1;have zf:=Z5.thaw))
 have U:=(Z5.set 0 (int i64 R1)).set 1 (int i64 R2)
 have u0:=U.cell 0
 have u1:=U.cell 1
 refine bodyPost_ret (v:=.tuple #[.agg #[int i64 R1,int i64 R2],int i64 R4]) (by simp[results,results12,go_sem,u0,u1]) rfl ⟨rfl,?_⟩
 exact((Below.next (Below.al (Below.next B1.out hb2) _) Fv).setCell zm _).setCell zm _
theorem Kk(b:Bk)(gd:Nat)(a z:Int)(w:World)(h:b.At w w.heap.size)(ok:b.Ok)(hcap:b.ng≤b.gc)(hl:∀s∈ak b,cO s)(hgd:gd<b.ng)(hf:tQ a z 1 b.days=true):CallsIn FF 0 prog 28 #[b.val,int i64 gd,int i64 a,int i64 z] w fun e w'=>e=.returned (.tuple #[.agg #[int i64 (bR (fun h=>kD b h gd a z b.nm) (aD b (ak b))).1,int i64 (bR (fun h=>kD b h gd a z b.nm) (aD b (ak b))).2.1],int i64 (if (bR (fun h=>kD b h gd a z b.nm) (aD b (ak b))).2.2 then 0 else 9)])∧Below w.heap.size w w':=by
 have hx:=gK b ok (ak b) hl
 have HO:=hid fun w h=>mD b gd w h ok hcap hgd
 have HH:=hid fun A p w hc=>oM b ok hl A p w hc
 have HN:=hid fun(w:World)=>show CallsIn FF 0 prog 62 #[.agg #[int i64 a,int i64 z],int i64 1,int i64 b.days] w fun e w'=>e=.returned (.bool true)∧Below w.heap.size w w' from by
  have:=wG a z 1 b.days w
  rwa[hf] at this
 have HK:=hid fun lb A n p Bc Bg B w h hA hc hg hB=>wZ 76 lb 63 #[.pointer (some ⟨Bc,0,none⟩),.pointer (some ⟨Bg,0,none⟩),.pointer (some ⟨B,0,none⟩)] (fun h=>kD b h gd a z b.nm) (aD b (ak b)) w h (VZ b ok A n p gd a z _ hx Bc Bg B w hA hc hg hB)
 have HA:=hid h
 have HC:=hid fun A w (h:mZ b A w)=>h.at_
 obtain⟨n,hn⟩:∃n,n=(ak b).length:=⟨_,rfl⟩
 obtain⟨xs,hxs⟩:∃xs,xs=aD b (ak b):=⟨_,rfl⟩
 rw[← hn] at HO HH
 rw[← hxs] at HH HK⊢
 obtain⟨⟨R1,R2,R3⟩,hR⟩:∃R,R=bR (fun h=>kD b h gd a z b.nm) xs:=⟨_,rfl⟩
 rw[← hR] at HK⊢
 obtain⟨R4,Rb⟩:∃R4:Int,R4=if (R1,R2,R3).2.2=true then 0 else 9:=⟨_,rfl⟩
 rw[← Rb] at HK⊢
 clear hn hxs h hcap hl ok hR Rb hgd hx hf
 obtain⟨days,most,gA,ng,gc,g,mA,nm,mc,m,cA,nc,cc,c⟩:=b
 simp only[Bk.val,Bk.cells,aA] at HO HH HK HN⊢
 obtain⟨w1,hw1⟩:∃w1,w1=((w.alloc (.cells #[int i64 days,int i64 most,.slice gA ng gc,.slice mA nm mc,.slice cA nc cc] 26)).alloc (.cells #[int i64 gd] 3)).alloc (.cells #[int i64 0,int i64 0] 38):=⟨_,rfl⟩
 have B1:Hid (Below w.heap.size w w1):=hid (by rw[hw1];exact bw)
 have G1:Hid (Whole w1 (w.heap.size+1) 3 #[int i64 gd]):=hid (by rw[hw1];exact(aM zs).alloc _)
 have Z1:Hid (Whole w1 (w.heap.size+1+1) 38 #[int i64 0,int i64 0]):=hid (by rw[hw1];exact aM zs)
 have hs1:w1.heap.size=w.heap.size+3:=by rw[hw1];simp
 have lT:=hid hw1
 clear hw1
 gi_enter func28,ntmps28
 gi_wp2_with (first
  | (gi_at_call 37;rw[← lT.out];refine(HO.out _ (HA.out.up B1.out)).mono ?_;rintro e w2 ⟨A,p,rfl,hc2,hb2⟩;have X2:=(Whole.new w2 76 #[int i64 days,int i64 most,.slice gA ng gc,.slice mA nm mc,.slice cA nc cc,.slice A n p]).alloc (.cells #[int i64 a,int i64 z] 38);have Z2:=((Z1.out.below hb2 Z1.out.lt).alloc (.cells #[int i64 days,int i64 most,.slice gA ng gc,.slice mA nm mc,.slice cA nc cc,.slice A n p] 76)).alloc (.cells #[int i64 a,int i64 z] 38);have G2:=((G1.out.below hb2 G1.out.lt).alloc (.cells #[int i64 days,int i64 most,.slice gA ng gc,.slice mA nm mc,.slice cA nc cc,.slice A n p] 76)).alloc (.cells #[int i64 a,int i64 z] 38);have S2:Whole ((w2.alloc (.cells #[int i64 days,int i64 most,.slice gA ng gc,.slice mA nm mc,.slice cA nc cc,.slice A n p] 76)).alloc (.cells #[int i64 a,int i64 z] 38)) (w2.heap.size+1) 38 #[int i64 a,int i64 z]:=aM zs;have hs2:=hb2.size)
  | (gi_at_call 62;refine(HN.out _).mono ?_;rintro e w3 ⟨rfl,hb3⟩;have X3:=X2.below hb3 X2.lt;have x0:w3.cell? ⟨w2.heap.size,0,none⟩=some (int i64 days):=X3.cell 0;have x1:w3.cell? ⟨w2.heap.size,1,none⟩=some (int i64 most):=X3.cell 1;have x2:w3.cell? ⟨w2.heap.size,2,none⟩=some (.slice gA ng gc):=X3.cell 2;have x3:w3.cell? ⟨w2.heap.size,3,none⟩=some (.slice mA nm mc):=X3.cell 3;have x4:w3.cell? ⟨w2.heap.size,4,none⟩=some (.slice cA nc cc):=X3.cell 4;have x5:w3.cell? ⟨w2.heap.size,5,none⟩=some (.slice A n p):=X3.cell 5)
  | (gi_at_call 40;refine(HH.out A p _ ((hc2.below (bw)).below hb3)).mono ?_;rintro e w4 ⟨lb,rfl,hs4,hb4⟩)
  | (gi_at_call 43;have Ri:=hb3.trans (hb4.mono hb3.size);refine(HK.out lb A n p _ _ _ _ hs4 (((HC.out A _ (hc2.below (bw))).up hb3).up hb4) (X2.below Ri X2.lt) (G2.below Ri G2.lt) (S2.below Ri S2.lt)).mono ?_;rintro e w5 ⟨rfl,hb5⟩;have Fv:=Ri.trans (hb5.mono Ri.size);have Z5:=Z2.below Fv Z2.lt;have z0:w5.cell? ⟨w.heap.size+1+1,0,none⟩=some (int i64 0):=Z5.cell 0;have z1:w5.cell? ⟨w.heap.size+1+1,1,none⟩=some (int i64 0):=Z5.cell 1;have zf:=Z5.thaw))
 have U:=(Z5.set 0 (int i64 R1)).set 1 (int i64 R2)
 have u0:=U.cell 0
 have u1:=U.cell 1
 refine bodyPost_ret (v:=.tuple #[.agg #[int i64 R1,int i64 R2],int i64 R4]) (by simp[results,results28,go_sem,u0,u1]) rfl ⟨rfl,?_⟩
 exact((Below.next (Below.al (Below.al (Below.next B1.out hb2) _) _) Fv).setCell zm _).setCell zm _
end
section
open Go.RowKit Go.Maps
open Go.Sort (grow)
attribute [local go_sem] Oper.semAt_some
theorem xw(b:Bk)(gd k:Nat)(w:World)(h:b.At w w.heap.size)(ok:b.Ok)(hcap:b.ng≤b.gc)(hl:∀s∈ak b,cO s)(hlen:(aD b (ak b)).length<2 ^ 40)(hgd:gd<b.ng)(hk:(k:Int)≤b.days)
 (hsz:0<Maps.size (mapD (fun h=>stk b h k b.nm gd) (aD b (ak b))))(hwf:∀h∈aD b (ak b),(Lit.int .i64 (stk b h k b.nm gd)).wf=true):CallsIn FF 0 prog 10 #[b.val,int i64 gd,int i64 k] w fun e w'=>∃ (vv:Value) (ss:List Int),e=.returned (.tuple #[vv,int i64 0])∧ss.Perm (intKeys (mapD (fun h=>stk b h k b.nm gd) (aD b (ak b))))∧w'.ownsRow w.heap.size 3 1 vv ss.length ((ss.mergeSort (fun x y=>decide (x≤y))).map encZ)∧Below w.heap.size w w':=by
 have hx:=gK b ok (ak b) hl
 have HO:=hid fun w h=>mD b gd w h ok hcap hgd
 have HH:=hid fun A p w hc=>oM b ok hl A p w hc
 have hg3:gd<3:=by have:=ok.bn.1.2;omega
 have HN:=hid fun(w:World)=>show CallsIn FF 0 prog 38 #[b.val,int i64 k] w fun e w'=>e=.returned (.bool true)∧Below w.heap.size w w' from by
  have:=qZ b k w
  have e:fO (k:Int) 0 b.days=true:=by unfold fO;simp;omega
  rwa[e] at this
 have HK:=hid fun lb A n p Bc Bd Bg w h hA hc hd hg=>Bj 76 lb 41 #[.pointer (some ⟨Bc,0,none⟩),.pointer (some ⟨Bd,0,none⟩),.pointer (some ⟨Bg,0,none⟩)] (fun h=>stk b h k b.nm gd) (aD b (ak b)) w hlen hsz hwf h (VU b ok A n p k gd hg3 _ hx Bc Bd Bg w hA hc hd hg)
 have HA:=hid h
 have HC:=hid fun A w (h:mZ b A w)=>h.at_
 obtain⟨n,hn⟩:∃n,n=(ak b).length:=⟨_,rfl⟩
 obtain⟨KS,lP⟩:∃KS,KS=intKeys (mapD (fun h=>stk b h k b.nm gd) (aD b (ak b))):=⟨_,rfl⟩
 rw[← lP] at HK⊢
 obtain⟨xs,hxs⟩:∃xs,xs=aD b (ak b):=⟨_,rfl⟩
 rw[← hn] at HO HH
 rw[← hxs] at HH HK
 clear hn hxs h hcap hl ok hgd hx hk hsz hwf hlen lP
 obtain⟨days,most,gA,ng,gc,g,mA,nm,mc,m,cA,nc,cc,c⟩:=b
 simp only[Bk.val,Bk.cells,aA] at HO HH HK HN⊢
 obtain⟨w1,hw1⟩:∃w1,w1=((w.alloc (.cells #[int i64 days,int i64 most,.slice gA ng gc,.slice mA nm mc,.slice cA nc cc] 26)).alloc (.cells #[int i64 gd] 3)).alloc (.cells #[int i64 k] 3):=⟨_,rfl⟩
 have B1:Hid (Below w.heap.size w w1):=hid (by rw[hw1];exact bw)
 have G1:Hid (Whole w1 (w.heap.size+1) 3 #[int i64 gd]):=hid (by rw[hw1];exact(aM zs).alloc _)
 have K1:Hid (Whole w1 (w.heap.size+1+1) 3 #[int i64 k]):=hid (by rw[hw1];exact aM zs)
 have lT:=hid hw1
 clear hw1
 gi_enter func10,ntmps10
 gi_wp2_with (first
  | (gi_at_call 37;rw[← lT.out];refine(HO.out _ (HA.out.up B1.out)).mono ?_;rintro e w2 ⟨A,p,rfl,hc2,hb2⟩;have K2:=(K1.out.below hb2 K1.out.lt).alloc (.cells #[int i64 days,int i64 most,.slice gA ng gc,.slice mA nm mc,.slice cA nc cc,.slice A n p] 76);have k2:(w2.alloc (.cells #[int i64 days,int i64 most,.slice gA ng gc,.slice mA nm mc,.slice cA nc cc,.slice A n p] 76)).cell? ⟨w.heap.size+1+1,0,none⟩=some (int i64 k):=K2.cell 0;have G2:=(G1.out.below hb2 G1.out.lt).alloc (.cells #[int i64 days,int i64 most,.slice gA ng gc,.slice mA nm mc,.slice cA nc cc,.slice A n p] 76))
  | (gi_at_call 38;refine(HN.out _).mono ?_;rintro e w3 ⟨rfl,hb3⟩;have X3:Whole w3 w2.heap.size 76 #[int i64 days,int i64 most,.slice gA ng gc,.slice mA nm mc,.slice cA nc cc,.slice A n p]:=(Whole.new w2 _ _).below hb3 zs;have x0:w3.cell? ⟨w2.heap.size,0,none⟩=some (int i64 days):=X3.cell 0;have x1:w3.cell? ⟨w2.heap.size,1,none⟩=some (int i64 most):=X3.cell 1;have x2:w3.cell? ⟨w2.heap.size,2,none⟩=some (.slice gA ng gc):=X3.cell 2;have x3:w3.cell? ⟨w2.heap.size,3,none⟩=some (.slice mA nm mc):=X3.cell 3;have x4:w3.cell? ⟨w2.heap.size,4,none⟩=some (.slice cA nc cc):=X3.cell 4;have x5:w3.cell? ⟨w2.heap.size,5,none⟩=some (.slice A n p):=X3.cell 5;have K3:=K2.below hb3 K2.lt;have G3:=G2.below hb3 G2.lt)
  | (gi_at_call 40;refine(HH.out A p _ ((hc2.below (bw)).below hb3)).mono ?_;rintro e w4 ⟨lb,rfl,hs4,hb4⟩)
  | (gi_at_call 39;refine(HK.out lb A n p _ _ _ _ hs4 (((HC.out A _ (hc2.below (bw))).up hb3).up hb4) (X3.below hb4 X3.lt) (K3.below hb4 K3.lt) (G3.below hb4 G3.lt)).mono ?_;rintro e w5 ⟨vv,ss,rfl,hss,hv,hb5⟩))
 go_ret2
 have Av:=Below.next (Below.next (Below.al (Below.next B1.out hb2) (.cells #[int i64 days,int i64 most,.slice gA ng gc,.slice mA nm mc,.slice cA nc cc,.slice A n p] 76)) hb3) hb4
 exact⟨vv,ss,rfl,hss,dX hv Av.size,Below.next Av hb5⟩
theorem yQ(b:Bk)(k:Nat)(w:World)(h:b.At w w.heap.size)(ok:b.Ok)(hcap:b.ng≤b.gc)(hl:∀s∈ak b,cO s)(hlen:(aD b (ak b)).length<2 ^ 40)(hk:k<b.nm)
 (hsz:0<Maps.size (mapD (fun h=>h.real k) (aD b (ak b))))(hwf:∀h∈aD b (ak b),(Lit.int .i64 (h.real k)).wf=true):CallsIn FF 0 prog 26 #[b.val,int i64 k] w fun e w'=>∃ (vv:Value) (ss:List Int),e=.returned (.tuple #[vv,int i64 0])∧ss.Perm (intKeys (mapD (fun h=>h.real k) (aD b (ak b))))∧w'.ownsRow w.heap.size 3 1 vv ss.length ((ss.mergeSort (fun x y=>decide (x≤y))).map encZ)∧Below w.heap.size w w':=by
 have hx:=gK b ok (ak b) hl
 have HO:=hid fun w h=>JO b k w h ok hcap hk
 have HH:=hid fun A p w hc=>oM b ok hl A p w hc
 have RA:k<6:=by have:=ok.moves.1;omega
 have HK:=hid fun lb B w h hB=>Bj 76 lb 56 #[.pointer (some ⟨B,0,none⟩)] (fun h=>h.real k) (aD b (ak b)) w hlen hsz hwf h (JJ k RA _ hx B w hB)
 have HA:=hid h
 obtain⟨n,hn⟩:∃n,n=(ak b).length:=⟨_,rfl⟩
 obtain⟨KS,lP⟩:∃KS,KS=intKeys (mapD (fun h=>h.real k) (aD b (ak b))):=⟨_,rfl⟩
 rw[← lP] at HK⊢
 obtain⟨xs,hxs⟩:∃xs,xs=aD b (ak b):=⟨_,rfl⟩
 rw[← hn] at HO HH
 rw[← hxs] at HH HK
 clear hn hxs h hcap hl ok hx hk hsz hwf hlen lP
 obtain⟨days,most,gA,ng,gc,g,mA,nm,mc,m,cA,nc,cc,c⟩:=b
 simp only[Bk.val,Bk.cells,aA] at HO HH⊢
 obtain⟨w1,hw1⟩:∃w1,w1=(w.alloc (.cells #[int i64 days,int i64 most,.slice gA ng gc,.slice mA nm mc,.slice cA nc cc] 26)).alloc (.cells #[int i64 k] 3):=⟨_,rfl⟩
 have B1:Hid (Below w.heap.size w w1):=hid (by rw[hw1];exact bw)
 have K1:Hid (Whole w1 (w.heap.size+1) 3 #[int i64 k]):=hid (by rw[hw1];exact aM zs)
 have lT:=hid hw1
 clear hw1
 gi_enter func26,ntmps26
 gi_wp2_with (first
  | (gi_at_call 55;rw[← lT.out];refine(HO.out _ (HA.out.up B1.out)).mono ?_;rintro e w2 ⟨A,p,rfl,hc2,hb2⟩;have K2:=(K1.out.below hb2 K1.out.lt).alloc (.cells #[int i64 days,int i64 most,.slice gA ng gc,.slice mA nm mc,.slice cA nc cc,.slice A n p] 76))
  | (gi_at_call 40;refine(HH.out A p _ (hc2.below (bw))).mono ?_;rintro e w4 ⟨lb,rfl,hs4,hb4⟩)
  | (gi_at_call 39;refine(HK.out lb _ _ hs4 (K2.below hb4 K2.lt)).mono ?_;rintro e w5 ⟨vv,ss,rfl,hss,hv,hb5⟩))
 go_ret2
 have Av:=Below.next (Below.al (Below.next B1.out hb2) (.cells #[int i64 days,int i64 most,.slice gA ng gc,.slice mA nm mc,.slice cA nc cc,.slice A n p] 76)) hb4
 exact⟨vv,ss,rfl,hss,dX hv Av.size,Below.next Av hb5⟩
end
end Go.Proofs.YthaelabgfnnebaaGreat
