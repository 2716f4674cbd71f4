/- Qr HN HZ HV2 EN Reg3 -/
import Derived.Test.YthaelabgfnnebaaGreatD7
import Derived.Maps.OwnIn
import Derived.Maps.OwnSet
import Derived.Maps.Own
set_option maxRecDepth 100000
set_option maxHeartbeats 16000000
set_option linter.unusedVariables false
set_option linter.unusedSectionVars false
open Go.IntKind(i64)
open Go.Lib(hid)
open Go.Proofs.Tryz
open Go.Value(int)
namespace Go.Proofs.YthaelabgfnnebaaGreat
section
open Go Go.Sort Go.RowKit
section
variable{F:Fence}{n:Nat}{P:Program}{ops:Array Oper}{Q:Exit→Act→World→Prop}{md:Region.Mode}{S:World→Prop}{T:Act→World→Prop}{N:Nat}
theorem qU{a:Act}{w:World}{l:List Oper}(N:Nat)(hro:F.round=none)(hB:Ir l.toArray N=true)
 (h:wpQuietIn F n P l.toArray (fun w'=>∃p:Regrown,w'=grow (redrawn w p.d) p.os) (fun a'=>∀w',(∃p:Regrown,w'=grow (redrawn w p.d) p.os)→wpListIn F n P l.toArray Q (l.drop N) a' w') (l.take N) a):wpAnyIn F n P .any l.toArray Q l.toArray.size (Array.replicate l.toArray.size false) a {w with drawn:=w.drawn+1 }:=by
 simp only[Ir,Bool.and_eq_true,decide_eq_true_eq] at hB
 obtain⟨⟨⟨⟨h1,h2⟩,h3⟩,h4⟩,h5⟩:=hB
 have hlen:N<l.length:=by simpa using h4
 have htl:(l.take N).length=N:=zm
 have inv:HeadInv .any l.toArray N (Array.replicate l.toArray.size false):=⟨zs,fun j oj hj hl=>by rw[getD_replicate_false] at *;simp_all,fun t ht ht'=>getD_in (by simpa using ht') (getD_replicate_false _ _)⟩
 have:=qV (F:=F) (n:=n) (P:=P) (md:=.any) (ops:=l.toArray) (N:=N) (S:=fun w'=>∃p:Regrown,w'=grow (redrawn w p.d) p.os) (T:=wpListIn F n P l.toArray Q (l.drop N)) h1 h2 h3 h4 (l.take N) 0 (Array.replicate l.toArray.size false) a
  (fun j hj=>by rw[htl] at hj;simp[hj]) zo inv (by rw[htl];exact h5) h
 rw[htl] at this
 have h6:=mU (Q:=Q) hro (N:=N) (fun listed a w hB h=>by
  have hd:(l.drop N).length=l.toArray.size - N:=zs
  have:=ji (F:=F) (n:=n) (P:=P) (md:=.any) (ops:=l.toArray) (Q:=Q) (l.drop N) N listed a w (fun j hj=>zs) (by rw[hd];exact hB) h
  rw[hd] at this
  exact this) N _ a {w with drawn:=w.drawn+1 } ⟨⟨w.drawn+1,#[]⟩,by rw[grow_empty];rfl⟩ this
 rw[show l.toArray.size - N+N=l.toArray.size by omega] at h6
 exact h6
def vK(ops:Array Oper):Bool:=ops.all fun o=>match o.op with
 | .defer _=>false
 | _=>true
theorem Ke{ops:Array Oper}(h:vK ops=true){i:Nat}{o:Oper}(ho:ops[i]? =some o):∀c,o.op≠.defer c:=fun c hc=>by
 have:=Array.all_eq_true.1 h i (Array.getElem?_eq_some_iff.1 ho).1
 rw[(Array.getElem?_eq_some_iff.1 ho).2,hc] at this
 cases this
theorem Ko{o:Oper}{a:Act}{w:World}{K K':Act→World→Prop}{l:Nat}(hro:F.round=none)(hd:∀c,o.op≠.defer c)(hK:∀a w,K a w→K' a w)(h:o.wpIn F n P a w K Q):o.wpIn (F.inRound l) n P a w K' Q:=by
 have h':=Oper.wpIn_mono hK h
 obtain⟨h1,h2⟩:=h'
 rw[hro,Oper.semAt_eq _ _ _ hd] at h2
 refine⟨h1,?_⟩
 rw[Oper.semAt_eq _ _ _ hd]
 exact h2
theorem lD{l:Nat}(hro:F.round=none)(hd:vK ops=true):∀ (fuel:Nat) (listed:Array Bool) (a:Act) (w:World),wpAnyIn F n P md ops Q fuel listed a w→wpAnyIn (F.inRound l) n P md ops Q fuel listed a w
 | 0,_,_,_,h=>h
 | fuel+1,_,a,w,h=>⟨h.1,fun i hi=>by
   have h1:=h.2 i hi
   unfold wpOpIn at h1⊢
   split
   ·rename_i ho
    rw[ho] at h1
    exact lD hro hd fuel _ _ _ h1
   ·rename_i o ho
    rw[ho] at h1
    simp only at h1
    split
    ·rename_i hw
     rw[if_pos hw] at h1
     exact Ko hro (Ke hd ho) (fun a w h=>lD hro hd fuel _ a w h) h1
    ·rename_i hw
     rw[if_neg hw] at h1
     exact⟨h1.1,lD hro hd fuel _ _ _ h1.2⟩⟩
theorem lu{id l₀:Nat}{a:Act}{w:World}{l:List Oper}(N:Nat)(hro:F.round=none)(hm:P.follows .mixedOrders=true)(hB:Ir l.toArray N=true)(hd:vK l.toArray=true)
 (h:wpQuietIn F n P l.toArray (fun w'=>∃p:Regrown,w'=grow (redrawn w p.d) p.os) (fun a'=>∀w',(∃p:Regrown,w'=grow (redrawn w p.d) p.os)→wpListIn F n P l.toArray Q (l.drop N) a' w') (l.take N) a):(Code.region id l.toArray true).wpIn (F.inRound l₀) n P Q a w:=
 wpIn_region_any hm (lD hro hd _ _ _ _ (qU N hro hB h))
end
end
section
open Go.RowKit Go.Maps
open Go.Sort (grow)
attribute [local go_sem] Oper.semAt_some
def mapD(v:Ht→Int)(pre:List Ht):DataW Unit:=pre.foldl (fun D h=>D.put (.int .i64 (v h)) (.lit (.bool true))) (.map [])
theorem Oy(v:Ht→Int)(pre:List Ht)(h:Ht):mapD v (pre ++ [h])=(mapD v pre).put (.int .i64 (v h)) (.lit (.bool true)):=by unfold mapD;rw[List.foldl_append];rfl
theorem bS{H:Type}{P:Program}{k:TypeId}{R:Value→Option (DataW H × List MemPlace)}{w w':World}{b n:Nat}{D:DataW H}(h:w.ownsMap P k R b n D)(e:w'.heap[b]? =w.heap[b]?):w'.ownsMap P k R b n D:=by
 obtain⟨es,clock,hb,rest⟩:=h
 exact⟨es,clock,e.trans hb,rest⟩
theorem dI{F:Fence}{n:Nat}{P:Program}{fn:Func}{tmps:Array Value}{R:Ending→World→Prop}{lo:Nat}:∀ {ds:List Deferred} {hi:Nat} {W:World},Marks lo hi ds W→
 (∀B,Keeps (fun b=>lo≤b∧b<hi) W B→∃v,(results fn tmps).run P B=.ok v B∧R (.returned v) B)→LeavesInM F n P fn tmps R ds .returning W
 | [],_,W,_,hR=>hR W (Keeps.refl _ _)
 | _ :: ds,hi,W,h,hR=>by
   obtain⟨r,rfl,h1,h2,h3,h4⟩:=h
   have hk:Keeps (fun b=>lo≤b∧b<hi) W (W.putObj r (.deferred none)):=⟨rfl,rfl,rfl,by simp[World.putObj],fun b _ hc=>World.putObj_heap_other (fun e=>hc (e ▸ ⟨h1,h2⟩))⟩
   refine⟨zs,.inl ⟨_,_,rfl,run_takeDeferred h3,?_⟩⟩
   exact dI (h4.of fun x _ hx2=>World.putObj_heap_other zo) (fun B hB=>hR B (hk.trans (hB.more fun b _ hb=>⟨hb.1,zo⟩)))
theorem Ci(gf:Nat)(lb:Array Value)(g:Nat)(lg:Array Value)(v:Ht→Int)(xs:List Ht)(w:World)(hlen:xs.length<2 ^ 40)(hsz:0<Maps.size (mapD v xs))(hwf:∀h∈xs,(Lit.int .i64 (v h)).wf=true)(h:ny FF gf lb xs w)(hg:sI FF g lg xs (fun h=>int i64 (v h)) w):
 CallsIn FF 0 prog 39 #[.func (.func gf) #[] lb,.func (.func g) #[] lg] w fun e w'=>∃ (vv:Value) (ss:List Int),e=.returned (.tuple #[vv,int i64 0])∧ss.Perm (intKeys (mapD v xs))∧w'.ownsRow w.heap.size 3 1 vv ss.length ((ss.mergeSort (fun x y=>decide (x≤y))).map encZ)∧Below w.heap.size w w':=by
 obtain⟨hfn,Md,hit⟩:=h
 have HIT:=hid hit
 have Qg:=hid Md
 obtain⟨hgf,hge,hgc⟩:=hg
 rw[qz] at hgf
 have HG:=hid hgc
 have HWF:=hid hwf
 clear hit Md hgc hwf
 have hmm:=@run_makeMap prog
 refine callsIn_of_wp_marks func39 rfl zs ?_ rfl
 simp only[ntmps39,List.size_toArray,List.length_cons,List.length_nil,Nat.reduceAdd,Nat.reduceSub,Array.replicate_succ,Array.replicate_zero,List.push_toArray,List.append_toArray,List.nil_append,List.cons_append]
 gi_wp2
 obtain⟨wa,SI⟩:∃wa,wa=w.alloc (.cells #[.func (.func g) #[] lg] 93):=⟨_,rfl⟩
 obtain⟨wb,hwb⟩:∃wb,wb=wa.alloc (.map #[] 0):=⟨_,rfl⟩
 obtain⟨w1,hw1⟩:∃w1,w1=wb.alloc (.cells #[.map (some (w.heap.size+1))] 115):=⟨_,rfl⟩
 have sa:wa.heap.size=w.heap.size+1:=by rw[SI];simp
 have sb:wb.heap.size=w.heap.size+1+1:=by rw[hwb];simp[sa]
 have hs1:w1.heap.size=w.heap.size+3:=by rw[hw1];simp[sb]
 have B1:Hid (Below w.heap.size w w1):=hid (by rw[hw1,hwb,SI];exact bw)
 have F1:Hid (Whole w1 w.heap.size 93 #[.func (.func g) #[] lg]):=hid (by rw[hw1,hwb,SI];exact((Whole.new _ _ _).alloc _).alloc _)
 have M1:Hid (Whole w1 (w.heap.size+1+1) 115 #[.map (some (w.heap.size+1))]):=hid (by rw[← sb,hw1];exact Whole.new _ _ _)
 have O1:Hid (w1.ownsMap prog 3 (plainElem prog 4) (w.heap.size+1) 0 (mapD v [])):=hid (by
  have:=(World.ownsMap_made (H:=Unit) wa prog 3 (plainElem prog 4)).alloc (.cells #[.map (some (w.heap.size+1))] 115)
  rw[sa] at this;rw[hw1,hwb];exact this)
 try rw[← SI,← hwb,← hw1]
 clear hw1 SI hwb sa sb
 clear hmm
 obtain⟨CC,RV⟩:∃CC:Nat→Prop,CC=fun x=>x=w.heap.size+1:=⟨_,rfl⟩
 have mY:∀x,CC x↔x=w.heap.size+1:=fun x=>by rw[RV]
 clear RV
 refine iJ (C:=CC) rfl rfl (gf:=gf) (lb:=lb) rfl hfn Qg.out (encs:=fun h:Ht=>#[h.val]) (xs:=xs)
  (fun x hx=>by have:=(mY x).1 hx;omega) ?hseq (fun _=>rfl) (fun pre W'=>Hid (Whole W' w.heap.size 93 #[.func (.func g) #[] lg]∧Whole W' (w.heap.size+1+1) 115 #[.map (some (w.heap.size+1))]∧W'.ownsMap prog 3 (plainElem prog 4) (w.heap.size+1) pre.length (mapD v pre))) (fun c pre W'=>False)
  (fun pre A B h hb=>hid ⟨h.out.1.below hb zo,h.out.2.1.below hb zo,bS h.out.2.2 (hb.block _ zo)⟩) (fun c pre A B h hb=>h.elim) (hid ⟨F1.out,M1.out,O1.out⟩) ?gB ?hdone ?hstop
 case hseq=>exact fun W2 hb2 hs2=>HIT.out _ W2 (B1.out.trans (hb2.mono B1.out.size)) fun x hx=>by rw[mY] at hx;omega
 case gB=>
  intro l' pre h A hl' hpre hj hk hsz hrec
  have hsn:=Oy v pre h
  have hwf:=HWF.out h (fH hpre)
  obtain⟨D',hD'⟩:∃D',D'=mapD v (pre ++ [h]):=⟨_,rfl⟩
  obtain⟨D,hD⟩:∃D,D=mapD v pre:=⟨_,rfl⟩
  obtain⟨vh,ZH⟩:∃vh,vh=v h:=⟨_,rfl⟩
  rw[← hD',← hD,← ZH] at hsn
  rw[← hD']
  rw[← hD] at hj
  rw[← ZH] at hwf
  have VX:=fun W hW=>HG.out W h (fH hpre) hW
  rw[← ZH] at VX
  have hpl:(pre ++ [h]).length=pre.length+1:=zs
  have Ha:=iC hpre
  rw[hpl]
  clear ZH hD' hD hpl
  obtain⟨hf,hmm,uz⟩:=h
  simp only[Ht.val,Ht.cells]
  simp only[Ht.val,Ht.cells] at VX
  gi_wp2
  refine⟨bw,fun W2 hS=>?_⟩
  have ow:Below (w.heap.size+3) A W2:=((Below.refl _ A).alloc zo _).trans (hS.below zo)
  have X2:Whole W2 A.heap.size 88 (⟨hf,hmm,uz⟩:Ht).cells:=(Whole.new A _ _).of (hS.block _ zo)
  have F2:=hid (hj.out.1.below ow zo)
  have M2:=hid (hj.out.2.1.below ow zo)
  have O2:=hid (bS hj.out.2.2 (ow.block _ zo))
  have hlt2:=O2.out.lt
  have q0:∀d os,(grow (redrawn W2 d) os).cell? ⟨w.heap.size,0,none⟩=some (.func (.func g) #[] lg):=cell_regrown (F2.out.cell 0)
  have q6:∀d os,(grow (redrawn W2 d) os).cell? ⟨w.heap.size+1+1,0,none⟩=some (.map (some (w.heap.size+1))):=cell_regrown (M2.out.cell 0)
  have x0:∀d os,(grow (redrawn W2 d) os).cell? ⟨A.heap.size,0,none⟩=some (int i64 (hf 0)):=cell_regrown (X2.cell 0)
  have x1:∀d os,(grow (redrawn W2 d) os).cell? ⟨A.heap.size,1,none⟩=some (int i64 (hf 1)):=cell_regrown (X2.cell 1)
  have x2:∀d os,(grow (redrawn W2 d) os).cell? ⟨A.heap.size,2,none⟩=some (int i64 (hf 2)):=cell_regrown (X2.cell 2)
  have x3:∀d os,(grow (redrawn W2 d) os).cell? ⟨A.heap.size,3,none⟩=some (int i64 (hmm 0)):=cell_regrown (X2.cell 3)
  have x4:∀d os,(grow (redrawn W2 d) os).cell? ⟨A.heap.size,4,none⟩=some (int i64 (hmm 1)):=cell_regrown (X2.cell 4)
  have x5:∀d os,(grow (redrawn W2 d) os).cell? ⟨A.heap.size,5,none⟩=some (int i64 (hmm 2)):=cell_regrown (X2.cell 5)
  have x6:∀d os,(grow (redrawn W2 d) os).cell? ⟨A.heap.size,6,none⟩=some (int i64 (hmm 3)):=cell_regrown (X2.cell 6)
  have x7:∀d os,(grow (redrawn W2 d) os).cell? ⟨A.heap.size,7,none⟩=some (int i64 (hmm 4)):=cell_regrown (X2.cell 7)
  have x8:∀d os,(grow (redrawn W2 d) os).cell? ⟨A.heap.size,8,none⟩=some (int i64 (hmm 5)):=cell_regrown (X2.cell 8)
  have x9:∀d os,(grow (redrawn W2 d) os).cell? ⟨A.heap.size,9,none⟩=some (int i64 uz):=cell_regrown (X2.cell 9)
  have hBW:Below w.heap.size w W2:=(B1.out.trans (hk.below (n:=w.heap.size) (fun b hb hc=>by have:=(mY b).1 hc;omega) zo)).trans (ow.mono zo)
  have cG:∀d os,CallsIn FF 0 prog g (#[.agg #[int i64 (hf 0),int i64 (hf 1),int i64 (hf 2),int i64 (hmm 0),int i64 (hmm 1),int i64 (hmm 2),int i64 (hmm 3),int i64 (hmm 4),int i64 (hmm 5),int i64 uz]] ++ lg) (grow (redrawn W2 d) os) fun e w''=>e=.returned (int i64 vh)∧∃p:Regrown,w''=grow (redrawn W2 p.d) p.os:=fun d os=>CallsIn.regrown_of (VX _ (hBW.trans ((below_regrown W2 d os).mono (Nat.le_trans (Nat.le_refl _) hBW.size))))
  have Za:=hid hsn
  have HWf:=hid hwf
  have px:=fun d os=>(below_regrown W2 d os)
  have tZ:=hid px
  clear X2 ow VX hsn hwf hBW px
  gi_wp2
  refine lu 4 rfl zk zk zk ?_
  repeat (quiet_step_in (exact cG _ _))
  refine wpQuietIn_nil ?_
  rintro w' ⟨⟨dq,osq⟩,rfl⟩
  have bD:=tZ.out dq osq
  clear q0 q6 x0 x1 x2 x3 x4 x5 x6 x7 x8 x9 cG
  have O9:=bS O2.out (bD.block _ hlt2)
  have F9:=F2.out.below bD F2.out.lt
  have M9:=M2.out.below bD M2.out.lt
  simp only at O9 F9 M9 bD⊢
  generalize grow (redrawn W2 dq) osq=w9 at bD O9 F9 M9⊢
  refine wpListIn_mapUpdate_own _ rfl _ _ _ 115 rfl 3 4 (int_keyed underlying3) underlying115 (plainElem prog 4) (w.heap.size+1) pre.length D rfl O9 zU _ _ (.int .i64 vh) rfl rfl (keyOf_int_mk underlying3 HWf.out) (.lit (.bool true)) [] (plainElem_bool underlying4 true) ?_
  intro w10 et vG
  have hs9:=bD.size
  have hbg:=below_grown (B:=w.heap.size+1) vG zo (fun g hg=>by cases hg;omega)
  have hkk:Keeps CC W2 w10:=(Keeps.bJ bD).trans ⟨hbg.os,hbg.tape,hbg.output,hbg.size,fun b hb hc=>vG.block b hb (by intro e;cases e;exact hc ((mY _).2 rfl))⟩
  gi_wp2
  exact⟨hkk,hid ⟨F9.grown vG zs,M9.grown vG zs,by rw[Za.out];exact et⟩⟩
 case hdone=>
  intro W' hj hk hm
  have c6:W'.cell? ⟨w.heap.size+1+1,0,none⟩=some (.map (some (w.heap.size+1))):=hj.out.2.1.cell 0
  have hms:Marks w1.heap.size (w1.heap.size+1) [{target:=.collected w1.heap.size,args:=#[] }] W':=⟨_,rfl,Nat.le_refl _,Nat.lt_succ_self _,hm,trivial⟩
  have Vs:=hid hms
  have Lg:Hid (Below w.heap.size w W'):=hid (B1.out.trans (hk.below (n:=w.heap.size) (fun b hb hc=>by have:=(mY b).1 hc;omega) zo))
  have hsl:=hj.out.2.2.size_le
  obtain⟨N,hN⟩:∃N,N=Maps.size (mapD v xs):=⟨_,rfl⟩
  have HL:∀ty,(Builtin.len_ #[115] ty #[.map (some (w.heap.size+1))]).run prog W'=.ok (int i64 N) W':=fun ty=>by rw[hN];exact hj.out.2.2.len underlying115 ty
  have HO:=hid hj.out.2.2
  rw[← hN] at hsz hsl
  have hn0:¬ N=0:=zo
  have HN:=hid hN
  have hm1:w1.heap.size<W'.heap.size:=(Array.getElem?_eq_some_iff.1 hm).1
  have hlo:=HO.out.lt
  have HK:=hid (WX (some (w.heap.size+1)) W')
  have HS:=hid (Pf (w.heap.size+1) xs.length (mapD v xs) (plainElem prog 4) W'.heap.size (W'.alloc (.cells #[.map (some (w.heap.size+1))] 115)) (Whole.new _ _ _) (HO.out.alloc _) (by rw[← HN.out];unfold maxLen;omega) (by rw[← HN.out];omega))
  clear hj hms hm hk hN
  simp only[Exit.inBlock,Exit.then]
  go_at_K
  gi_wp2_with (first
   | (gi_at_call 75;refine HK.out.mono ?_;rintro e w3 ⟨rfl,rfl⟩)
   | (gi_at_call 74;refine HS.out.mono ?_;rintro e w4 ⟨vv,ss,rfl,hss,hrow,-,hb4⟩))
  have hs4:=hb4.size
  simp only[World.size_alloc] at hs4
  have hms:=Vs.out
  rw[hs1] at hms hm1
  have G4:Marks (w.heap.size+3) (w.heap.size+3+1) [{target:=.collected (w.heap.size+3),args:=#[] }] w4:=hms.of fun r h1 h2=>(hb4.block r zm).trans (Below.heap_alloc _ _ _ zo)
  have Dh:Below w.heap.size w w4:=Below.next (Below.al Lg.out _) hb4
  refine dI G4 (fun B hB=>⟨_,results_tmp2 rfl _ _ _,vv,ss,rfl,hss,dP (jS hrow fun g hg hl=>hB.block g hl (fun hc=>by have:=(bR hrow hg).1;simp at this;omega)) (by have:=Lg.out.size;simp;omega),Dh.trans (hB.below (n:=w.heap.size) (fun b hb hc=>zo) Dh.size)⟩)
 case hstop=>
  rintro c pre W' hpre hx hk hm
  exact hx.elim
theorem KG(b:Bk)(gd k:Nat)(w:World)(h:b.At w w.heap.size)(ok:b.Ok)(hcap:b.ng≤b.gc)(hl:∀s∈ak b,dN s)(hlen:(aG b (ak b)).length<2 ^ 40)(hgd:gd<b.ng)(hk:(k:Int)≤b.days)
 (hsz:0<Maps.size (mapD (fun h=>stk b h k b.nm gd) (aG b (ak b))))(hwf:∀h∈aG b (ak b),(Lit.int .i64 (stk b h k b.nm gd)).wf=true):CallsIn FF 0 prog 10 #[b.val,int i64 gd,int i64 k] w fun e w'=>∃ (vv:Value) (ss:List Int),e=.returned (.tuple #[vv,int i64 0])∧ss.Perm (intKeys (mapD (fun h=>stk b h k b.nm gd) (aG b (ak b))))∧w'.ownsRow w.heap.size 3 1 vv ss.length ((ss.mergeSort (fun x y=>decide (x≤y))).map encZ)∧Below w.heap.size w w':=by
 have hx:=kH b ok (ak b) hl
 have HO:=hid fun w h=>qI b gd w h ok hcap hgd
 have HH:=hid fun A p w hc=>uh b ok hl A p w hc
 have hg3:gd<3:=by have:=ok.bM.1.2;omega
 have HN:=hid fun(w:World)=>show CallsIn FF 0 prog 38 #[b.val,int i64 k] w fun e w'=>e=.returned (.bool true)∧Below w.heap.size w w' from by
  have:=wV b k w
  have e:fU (k:Int) 0 b.days=true:=by unfold fU;simp;omega
  rwa[e] at this
 have HK:=hid fun lb A n p Bc Bd Bg w h hA hc hd hg=>Ci 76 lb 41 #[.pointer (some ⟨Bc,0,none⟩),.pointer (some ⟨Bd,0,none⟩),.pointer (some ⟨Bg,0,none⟩)] (fun h=>stk b h k b.nm gd) (aG b (ak b)) w hlen hsz hwf h (Xc b ok A n p k gd hg3 _ hx Bc Bd Bg w hA hc hd hg)
 have HA:=hid h
 have HC:=hid fun A w (h:om b A w)=>h.at_
 obtain⟨n,hn⟩:∃n,n=(ak b).length:=⟨_,rfl⟩
 obtain⟨KS,oX⟩:∃KS,KS=intKeys (mapD (fun h=>stk b h k b.nm gd) (aG b (ak b))):=⟨_,rfl⟩
 rw[← oX] at HK⊢
 obtain⟨xs,hxs⟩:∃xs,xs=aG b (ak b):=⟨_,rfl⟩
 rw[← hn] at HO HH
 rw[← hxs] at HH HK
 clear hn hxs h hcap hl ok hgd hx hk hsz hwf hlen oX
 obtain⟨days,most,gA,ng,gc,g,mA,nm,mc,m,cA,nc,cc,c⟩:=b
 simp only[Bk.val,Bk.cells,aA] at HO HH HK HN⊢
 obtain⟨w1,hw1⟩:∃w1,w1=((w.alloc (.cells #[int i64 days,int i64 most,.slice gA ng gc,.slice mA nm mc,.slice cA nc cc] 26)).alloc (.cells #[int i64 gd] 3)).alloc (.cells #[int i64 k] 3):=⟨_,rfl⟩
 have B1:Hid (Below w.heap.size w w1):=hid (by rw[hw1];exact bw)
 have G1:Hid (Whole w1 (w.heap.size+1) 3 #[int i64 gd]):=hid (by rw[hw1];exact(aP zs).alloc _)
 have K1:Hid (Whole w1 (w.heap.size+1+1) 3 #[int i64 k]):=hid (by rw[hw1];exact aP zs)
 have mX:=hid hw1
 clear hw1
 gi_enter func10,ntmps10
 gi_wp2_with (first
  | (gi_at_call 37;rw[← mX.out];refine(HO.out _ (HA.out.up B1.out)).mono ?_;rintro e w2 ⟨A,p,rfl,hc2,hb2⟩;have K2:=(K1.out.below hb2 K1.out.lt).alloc (.cells #[int i64 days,int i64 most,.slice gA ng gc,.slice mA nm mc,.slice cA nc cc,.slice A n p] 76);have k2:(w2.alloc (.cells #[int i64 days,int i64 most,.slice gA ng gc,.slice mA nm mc,.slice cA nc cc,.slice A n p] 76)).cell? ⟨w.heap.size+1+1,0,none⟩=some (int i64 k):=K2.cell 0;have G2:=(G1.out.below hb2 G1.out.lt).alloc (.cells #[int i64 days,int i64 most,.slice gA ng gc,.slice mA nm mc,.slice cA nc cc,.slice A n p] 76))
  | (gi_at_call 38;refine(HN.out _).mono ?_;rintro e w3 ⟨rfl,hb3⟩;have X3:Whole w3 w2.heap.size 76 #[int i64 days,int i64 most,.slice gA ng gc,.slice mA nm mc,.slice cA nc cc,.slice A n p]:=(Whole.new w2 _ _).below hb3 zs;have x0:w3.cell? ⟨w2.heap.size,0,none⟩=some (int i64 days):=X3.cell 0;have x1:w3.cell? ⟨w2.heap.size,1,none⟩=some (int i64 most):=X3.cell 1;have x2:w3.cell? ⟨w2.heap.size,2,none⟩=some (.slice gA ng gc):=X3.cell 2;have x3:w3.cell? ⟨w2.heap.size,3,none⟩=some (.slice mA nm mc):=X3.cell 3;have x4:w3.cell? ⟨w2.heap.size,4,none⟩=some (.slice cA nc cc):=X3.cell 4;have x5:w3.cell? ⟨w2.heap.size,5,none⟩=some (.slice A n p):=X3.cell 5;have K3:=K2.below hb3 K2.lt;have G3:=G2.below hb3 G2.lt)
  | (gi_at_call 40;refine(HH.out A p _ ((hc2.below (bw)).below hb3)).mono ?_;rintro e w4 ⟨lb,rfl,hs4,hb4⟩)
  | (gi_at_call 39;refine(HK.out lb A n p _ _ _ _ hs4 (((HC.out A _ (hc2.below (bw))).up hb3).up hb4) (X3.below hb4 X3.lt) (K3.below hb4 K3.lt) (G3.below hb4 G3.lt)).mono ?_;rintro e w5 ⟨vv,ss,rfl,hss,hv,hb5⟩))
 go_ret2
 have DY:=Below.next (Below.next (Below.al (Below.next B1.out hb2) (.cells #[int i64 days,int i64 most,.slice gA ng gc,.slice mA nm mc,.slice cA nc cc,.slice A n p] 76)) hb3) hb4
 exact⟨vv,ss,rfl,hss,dP hv DY.size,Below.next DY hb5⟩
theorem Ar(b:Bk)(k:Nat)(w:World)(h:b.At w w.heap.size)(ok:b.Ok)(hcap:b.ng≤b.gc)(hl:∀s∈ak b,dN s)(hlen:(aG b (ak b)).length<2 ^ 40)(hk:k<b.nm)
 (hsz:0<Maps.size (mapD (fun h=>h.real k) (aG b (ak b))))(hwf:∀h∈aG b (ak b),(Lit.int .i64 (h.real k)).wf=true):CallsIn FF 0 prog 26 #[b.val,int i64 k] w fun e w'=>∃ (vv:Value) (ss:List Int),e=.returned (.tuple #[vv,int i64 0])∧ss.Perm (intKeys (mapD (fun h=>h.real k) (aG b (ak b))))∧w'.ownsRow w.heap.size 3 1 vv ss.length ((ss.mergeSort (fun x y=>decide (x≤y))).map encZ)∧Below w.heap.size w w':=by
 have hx:=kH b ok (ak b) hl
 have HO:=hid fun w h=>Kn b k w h ok hcap hk
 have HH:=hid fun A p w hc=>uh b ok hl A p w hc
 have Sn:k<6:=by have:=ok.moves.1;omega
 have HK:=hid fun lb B w h hB=>Ci 76 lb 56 #[.pointer (some ⟨B,0,none⟩)] (fun h=>h.real k) (aG b (ak b)) w hlen hsz hwf h (Ki k Sn _ hx B w hB)
 have HA:=hid h
 obtain⟨n,hn⟩:∃n,n=(ak b).length:=⟨_,rfl⟩
 obtain⟨KS,oX⟩:∃KS,KS=intKeys (mapD (fun h=>h.real k) (aG b (ak b))):=⟨_,rfl⟩
 rw[← oX] at HK⊢
 obtain⟨xs,hxs⟩:∃xs,xs=aG b (ak b):=⟨_,rfl⟩
 rw[← hn] at HO HH
 rw[← hxs] at HH HK
 clear hn hxs h hcap hl ok hx hk hsz hwf hlen oX
 obtain⟨days,most,gA,ng,gc,g,mA,nm,mc,m,cA,nc,cc,c⟩:=b
 simp only[Bk.val,Bk.cells,aA] at HO HH⊢
 obtain⟨w1,hw1⟩:∃w1,w1=(w.alloc (.cells #[int i64 days,int i64 most,.slice gA ng gc,.slice mA nm mc,.slice cA nc cc] 26)).alloc (.cells #[int i64 k] 3):=⟨_,rfl⟩
 have B1:Hid (Below w.heap.size w w1):=hid (by rw[hw1];exact bw)
 have K1:Hid (Whole w1 (w.heap.size+1) 3 #[int i64 k]):=hid (by rw[hw1];exact aP zs)
 have mX:=hid hw1
 clear hw1
 gi_enter func26,ntmps26
 gi_wp2_with (first
  | (gi_at_call 55;rw[← mX.out];refine(HO.out _ (HA.out.up B1.out)).mono ?_;rintro e w2 ⟨A,p,rfl,hc2,hb2⟩;have K2:=(K1.out.below hb2 K1.out.lt).alloc (.cells #[int i64 days,int i64 most,.slice gA ng gc,.slice mA nm mc,.slice cA nc cc,.slice A n p] 76))
  | (gi_at_call 40;refine(HH.out A p _ (hc2.below (bw))).mono ?_;rintro e w4 ⟨lb,rfl,hs4,hb4⟩)
  | (gi_at_call 39;refine(HK.out lb _ _ hs4 (K2.below hb4 K2.lt)).mono ?_;rintro e w5 ⟨vv,ss,rfl,hss,hv,hb5⟩))
 go_ret2
 have DY:=Below.next (Below.al (Below.next B1.out hb2) (.cells #[int i64 days,int i64 most,.slice gA ng gc,.slice mA nm mc,.slice cA nc cc,.slice A n p] 76)) hb4
 exact⟨vv,ss,rfl,hss,dP hv DY.size,Below.next DY hb5⟩
end
section
open Go.RowKit Go.Maps
theorem UA(G M C:Nat):intKeys (mapD (fun h=>stk (Tb 1 G M C) h 10 4 0) (aG (Tb 1 G M C) (ak (Tb 1 G M C))))=[4,5]:=zk
theorem YE(G M C:Nat):intKeys (mapD (fun h=>h.real 3) (aG (Tb 1 G M C) (ak (Tb 1 G M C))))=[0]:=zk
theorem UC(G M C:Nat):0<Maps.size (mapD (fun h=>stk (Tb 1 G M C) h 10 4 0) (aG (Tb 1 G M C) (ak (Tb 1 G M C)))):=of_decide_eq_true zk
theorem YF(G M C:Nat):0<Maps.size (mapD (fun h=>h.real 3) (aG (Tb 1 G M C) (ak (Tb 1 G M C)))):=of_decide_eq_true zk
theorem UD(G M C:Nat):((aG (Tb 1 G M C) (ak (Tb 1 G M C))).all fun h=>(Lit.int .i64 (stk (Tb 1 G M C) h 10 4 0)).wf)=true:=zk
theorem YG(G M C:Nat):((aG (Tb 1 G M C) (ak (Tb 1 G M C))).all fun h=>(Lit.int .i64 (h.real 3)).wf)=true:=zk
theorem fR{ss:List Int}(h:ss.Perm [4,5]):(ss.mergeSort fun x y=>decide (x≤y))=[4,5]:=by
 have h1:(ss.mergeSort fun x y=>decide (x≤y)).Perm [4,5]:=(List.mergeSort_perm _ _).trans h
 have h2:(ss.mergeSort fun x y=>decide (x≤y)).Pairwise fun x y=>decide (x≤y)=true:=List.pairwise_mergeSort (fun a b c=>by simp only[decide_eq_true_eq];omega) (fun a b=>by simp only[Bool.or_eq_true,decide_eq_true_eq];omega) ss
 have h3:([4,5]:List Int).Pairwise fun x y=>decide (x≤y)=true:=zD
 exact h1.eq_of_pairwise (fun a b _ _ h1 h2=>by simp only[decide_eq_true_eq] at h1 h2;omega) h2 h3
theorem tn{ss:List Int}(h:ss.Perm [0]):(ss.mergeSort fun x y=>decide (x≤y))=[0]:=List.perm_singleton.1 ((List.mergeSort_perm _ _).trans h)
end
section
open Go Go.RowKit Go.Maps Go.MapKept Go.ChangeMaps
theorem kT(es:Array MapEntry)(hn:(es.toList.map (·.born)).Nodup){j:Nat}{e0:MapEntry}(hj:es[j]? =some e0):es.findIdx? (fun e=>(e.born:Int) == (e0.born:Int))=some j:=by
 have hl:j<es.size:=(Array.getElem?_eq_some_iff.1 hj).1
 have he:es[j]=e0:=(Array.getElem?_eq_some_iff.1 hj).2
 rw[Array.findIdx?_eq_some_iff_getElem]
 refine⟨hl,by rw[he];simp,fun i hi=>?_⟩
 have hne:es[i].born≠e0.born:=fun e=>by
  have hi':i<es.size:=Nat.lt_trans hi hl
  have h1:=List.pairwise_iff_getElem.1 hn i j (by simpa using hi') (by simpa using hl) hi
  apply h1
  simp[e,he]
 simp only[Bool.not_eq_true,beq_eq_false_iff_ne,ne_eq]
 intro e
 exact hne (by exact_mod_cast e)
theorem GD(es:Array MapEntry)(x:MapEntry)(f:MapEntry→MapEntry):(es.push x).modify es.size f=es.push (f x):=by
 apply Array.ext_getElem?
 intro i
 rw[Array.getElem?_modify]
 rcases Nat.lt_trichotomy i es.size with h|h|h
 ·rw[if_neg zo,Array.getElem?_push,Array.getElem?_push,if_neg zo,if_neg zo]
 ·subst h
  simp
 ·rw[if_neg zo,Array.getElem?_push,Array.getElem?_push,if_neg zo,if_neg zo]
theorem Ak(es:Array MapEntry)(j:Nat)(f g:MapEntry→MapEntry):(es.modify j f).modify j g=es.modify j fun e=>g (f e):=by
 apply Array.ext_getElem?
 intro i
 rw[Array.getElem?_modify,Array.getElem?_modify,Array.getElem?_modify]
 split <;> simp[Function.comp_def]
section
variable{H:Type}{P:Program}{k t e:TypeId}{R:Value→Option (DataW H × List MemPlace)}{w:World}{b n:Nat}{D:DataW H}
theorem Cz{W1:World}{es':Array MapEntry}{c' j:Nat}{st:Int}(hb1:W1.heap[b]? =some (.map es' c'))(hf:es'.findIdx? (fun e=>(e.born:Int) == st)=some j)(val:Value):(Instr.entryStore t (.map (some b)) (int i64 st) val).run P W1=.ok () (setBlock W1 b (.map (es'.modify j fun e=>{e with val:=val }) c')):=by
 simp[Instr.entryStore,MapKept.run_getObj_map hb1,hf,MapKept.run_setObj_map _ hb1,Result.andThen,go_sem,setBlock]
theorem kM(w:World)(b:Nat)(o o':Obj):setBlock (setBlock w b o) b o'=setBlock w b o':=by simp[setBlock]
theorem Ed{W:World}{es':Array MapEntry}{c' j:Nat}{e1:MapEntry}(hb:W.heap[b]? =some (.map es' c'))(K:Keyed P k)(ht:P.underlying t=some (.map k e)){key:Value}{kl:Lit}(hkey:keyOf P k key=some kl)
 (hkeys:∀x∈es'.toList,∃l,keyOf P k x.key=some l)(hnd:(es'.toList.map (·.key)).Nodup)(hj:es'[j]? =some e1)(hk:e1.key=key):(Instr.lookup t (.map (some b)) key false).run P W=.ok e1.val W:=by
 have hjl:j<es'.size:=(Array.getElem?_eq_some_iff.1 hj).1
 have lf:es'[j]=e1:=(Array.getElem?_eq_some_iff.1 hj).2
 rcases K.find W hkey es'.toList hkeys with⟨_,h2⟩|⟨i,e2,h1,h2,h3⟩
 ·exact absurd hk (h2 e1 (by rw[← lf];exact Array.getElem_mem_toList hjl))
 ·have h2':es'[i]? =some e2:=by simpa using h2
  have hil:i<es'.size:=(Array.getElem?_eq_some_iff.1 h2').1
  have hie:es'[i]=e2:=(Array.getElem?_eq_some_iff.1 h2').2
  have hij:i=j:=by
   rcases Nat.lt_trichotomy i j with h|h|h
   ·exact((List.pairwise_iff_getElem.1 hnd i j (by simpa using hil) (by simpa using hjl) h) (by simp[hie,lf,h3,hk])).elim
   ·exact h
   ·exact((List.pairwise_iff_getElem.1 hnd j i (by simpa using hjl) (by simpa using hil) h) (by simp[hie,lf,h3,hk])).elim
  subst hij
  obtain rfl:e2=e1:=by rw[← hie,← lf]
  simp[Instr.lookup,run_underlying ht,MapKept.run_getObj_map hb,K.check W _ hkey,h1,Result.andThen]
theorem Ox(h:w.ownsMap P k R b n D)(K:Keyed P k)(ht:P.underlying t=some (.map k e)){z:Value}(hz:∀w,(zeroValue e).run P w=.ok z w){key:Value}{kl:Lit}(hkey:keyOf P k key=some kl):
 ∃ (v st:Value) (w1:World),(Instr.mapEntry t (.map (some b)) key).run P w=.ok (.tuple #[v,st]) w1∧(Instr.lookup t (.map (some b)) key false).run P w=.ok v w∧(Instr.lookup t (.map (some b)) key false).run P w1=.ok v w1:=by
 obtain⟨es,clock,hb,F,hs,rfl⟩:=h
 rcases K.find w hkey es.toList F.keys with⟨h1,h2⟩|⟨j,e0,h1,h2,h3⟩
 ·have hb1:(setBlock w b (.map (es.push ⟨key,z,clock⟩) (clock+1))).heap[b]? =some (.map (es.push ⟨key,z,clock⟩) (clock+1)):=heap_setBlock_same hb _
  refine⟨z,goInt clock,setBlock w b (.map (es.push ⟨key,z,clock⟩) (clock+1)),?_,?_,?_⟩
  ·simp[Instr.mapEntry,run_underlying ht,MapKept.run_getObj_map hb,K.check w false hkey,h1,hz,MapKept.run_setObj_map _ hb,Result.andThen,setBlock]
  ·simp[Instr.lookup,run_underlying ht,MapKept.run_getObj_map hb,K.check w _ hkey,h1,hz,Result.andThen]
  ·exact Ed (j:=es.size) (e1:=⟨key,z,clock⟩) hb1 K ht hkey (fun x hx=>by
    simp only[Array.toList_push,List.mem_append,List.mem_singleton] at hx
    rcases hx with hx|rfl
    ·exact F.keys x hx
    ·exact⟨kl,hkey⟩) (stamped_push F.stamped h2).2.2 zs rfl
 ·have hj:es[j]? =some e0:=by simpa using h2
  have hsame:es.modify j (fun e=>{e with key })=es:=by
   apply Array.ext_getElem?
   intro i
   rw[Array.getElem?_modify]
   split
   ·rename_i hi
    subst hi
    rw[hj]
    simp[← h3]
   ·rfl
  have hb1:(setBlock w b (.map es clock)).heap[b]? =some (.map es clock):=heap_setBlock_same hb _
  refine⟨e0.val,goInt e0.born,setBlock w b (.map es clock),?_,Ed hb K ht hkey F.keys F.stamped.2.2 hj h3,Ed hb1 K ht hkey F.keys F.stamped.2.2 hj h3⟩
  have:(Instr.mapEntry t (.map (some b)) key).run P w=.ok (.tuple #[e0.val,goInt e0.born]) (setBlock w b (.map (es.modify j (fun e=>{e with key })) clock)):=by
   simp[Instr.mapEntry,run_underlying ht,MapKept.run_getObj_map hb,K.check w false hkey,h1,hj,h3,K.stays w hkey,MapKept.run_setObj_map _ hb,Result.andThen,setBlock]
  rw[hsame] at this
  exact this
theorem JC(h:w.ownsMap P k R b n D)(K:Keyed P k)(ht:P.underlying t=some (.map k e)){z:Value}(hz:∀w,(zeroValue e).run P w=.ok z w){key:Value}{kl:Lit}(hkey:keyOf P k key=some kl):
 ∃ (v:Value) (st:Int) (w1:World),(Instr.mapEntry t (.map (some b)) key).run P w=.ok (.tuple #[v,int i64 st]) w1∧w.grownBy w1 (some b)∧
   ∀val:Value,∃w',(Instr.mapUpdate t (.map (some b)) key val).run P w=.ok () w'∧(Instr.entryStore t (.map (some b)) (int i64 st) val).run P w1=.ok () w':=by
 obtain⟨es,clock,hb,F,hs,rfl⟩:=h
 rcases K.find w hkey es.toList F.keys with⟨h1,h2⟩|⟨j,e0,h1,h2,h3⟩
 ·refine⟨z,clock,setBlock w b (.map (es.push ⟨key,z,clock⟩) (clock+1)),?_,?_,fun val=>⟨setBlock w b (.map (es.push ⟨key,val,clock⟩) (clock+1)),?_,?_⟩⟩
  ·simp[Instr.mapEntry,run_underlying ht,MapKept.run_getObj_map hb,K.check w false hkey,h1,hz,MapKept.run_setObj_map _ hb,Result.andThen,setBlock,goInt]
  ·exact⟨rfl,rfl,rfl,by simp[setBlock],fun i _ hi=>heap_setBlock_other hb _ (fun e=>hi (by rw[e]))⟩
  ·simp[Instr.mapUpdate,run_underlying ht,MapKept.run_getObj_map hb,K.check w false hkey,h1,MapKept.run_setObj_map _ hb,Result.andThen,setBlock]
  ·have hb1:(setBlock w b (.map (es.push ⟨key,z,clock⟩) (clock+1))).heap[b]? =some (.map (es.push ⟨key,z,clock⟩) (clock+1)):=heap_setBlock_same hb _
   have hf:=kT (es.push ⟨key,z,clock⟩) (stamped_push F.stamped h2).2.1 (j:=es.size) (e0:=⟨key,z,clock⟩) zs
   have:=Cz (P:=P) (t:=t) hb1 hf val
   rw[GD,kM] at this
   exact this
 ·have hj:es[j]? =some e0:=by simpa using h2
  have hf:=kT es F.stamped.2.1 hj
  have hb1:(setBlock w b (.map (es.modify j fun e=>{e with key }) clock)).heap[b]? =some (.map (es.modify j fun e=>{e with key }) clock):=heap_setBlock_same hb _
  have hkeyf:∀e',es[j]? =some e'→({e' with key:=key }:MapEntry).key=e'.key:=fun e' he'=>by rw[hj] at he';cases he';exact h3.symm
  refine⟨e0.val,e0.born,setBlock w b (.map (es.modify j fun e=>{e with key }) clock),?_,?_,fun val=>⟨setBlock w b (.map (es.modify j fun e=>{e with key,val }) clock),?_,?_⟩⟩
  ·simp[Instr.mapEntry,run_underlying ht,MapKept.run_getObj_map hb,K.check w false hkey,h1,hj,h3,K.stays w hkey,MapKept.run_setObj_map _ hb,Result.andThen,setBlock,goInt]
  ·exact⟨rfl,rfl,rfl,by simp[setBlock],fun i _ hi=>heap_setBlock_other hb _ (fun e=>hi (by rw[e]))⟩
  ·simp[Instr.mapUpdate,run_underlying ht,MapKept.run_getObj_map hb,K.check w false hkey,h1,hj,h3,K.stays w hkey,MapKept.run_setObj_map _ hb,Result.andThen,setBlock]
  ·have hf':=kT (es.modify j fun e=>{e with key }) (stamped_modify F.stamped j (fun e=>{e with key }) (fun _ _=>rfl) (fun e1 _ he1=>hkeyf e1 he1)).2.1 (j:=j) (e0:={e0 with key }) (by rw[Array.getElem?_modify];simp[hj])
   have:=Cz (P:=P) (t:=t) hb1 hf' val
   rw[Ak,kM] at this
   exact this
end
end
section
open Go
section
variable{F:Fence}{n:Nat}{P:Program}{ops:Array Oper}{Q:Exit→Act→World→Prop}{md:Region.Mode}{S:World→Prop}{L:Nat}
theorem aU{i i':Nat}{o o':Oper}{fuel:Nat}{listed:Array Bool}{a:Act}{w:World}(hr:Region.ready md ops listed=[i,i'])(ho:ops[i]? =some o)(ho':ops[i']? =some o')
 (h:∀K':Act→World→Prop,Shut (∀a w,(i≠L→S w)→bg F n P md ops Q S L fuel (listed.setIfInBounds i true) a w→K' a w)→if Region.wanted o (yielded ops a.tmps)=true then Oper.wpIn F n P o a w K' Q else(∀f,o.about P w a.eval=some f→F.fn f)∧K' (a.put o.dst undef) w)
 (h':∀K':Act→World→Prop,Shut (∀a w,(i'≠L→S w)→bg F n P md ops Q S L fuel (listed.setIfInBounds i' true) a w→K' a w)→if Region.wanted o' (yielded ops a.tmps)=true then Oper.wpIn F n P o' a w K' Q else(∀f,o'.about P w a.eval=some f→F.fn f)∧K' (a.put o'.dst undef) w):
 bg F n P md ops Q S L (fuel+1) listed a w:=by
 refine⟨(fun h0=>by rw[hr] at h0;cases h0),fun j hj=>?_⟩
 rw[hr] at hj
 simp only[List.mem_cons,List.not_mem_nil,or_false] at hj
 rcases hj with rfl|rfl
 ·exact wpOpIn_step ho fun K' hK=>h K' fun a w hS hW=>hK a w ⟨hS,hW⟩
 ·exact wpOpIn_step ho' fun K' hK=>h' K' fun a w hS hW=>hK a w ⟨hS,hW⟩
theorem oh{i i' i2:Nat}{o o' o2:Oper}{fuel:Nat}{listed:Array Bool}{a:Act}{w:World}(hr:Region.ready md ops listed=[i,i',i2])(ho:ops[i]? =some o)(ho':ops[i']? =some o')(ho2:ops[i2]? =some o2)
 (h:∀K':Act→World→Prop,Shut (∀a w,(i≠L→S w)→bg F n P md ops Q S L fuel (listed.setIfInBounds i true) a w→K' a w)→if Region.wanted o (yielded ops a.tmps)=true then Oper.wpIn F n P o a w K' Q else(∀f,o.about P w a.eval=some f→F.fn f)∧K' (a.put o.dst undef) w)
 (h':∀K':Act→World→Prop,Shut (∀a w,(i'≠L→S w)→bg F n P md ops Q S L fuel (listed.setIfInBounds i' true) a w→K' a w)→if Region.wanted o' (yielded ops a.tmps)=true then Oper.wpIn F n P o' a w K' Q else(∀f,o'.about P w a.eval=some f→F.fn f)∧K' (a.put o'.dst undef) w)
 (h2:∀K':Act→World→Prop,Shut (∀a w,(i2≠L→S w)→bg F n P md ops Q S L fuel (listed.setIfInBounds i2 true) a w→K' a w)→if Region.wanted o2 (yielded ops a.tmps)=true then Oper.wpIn F n P o2 a w K' Q else(∀f,o2.about P w a.eval=some f→F.fn f)∧K' (a.put o2.dst undef) w):
 bg F n P md ops Q S L (fuel+1) listed a w:=by
 refine⟨(fun h0=>by rw[hr] at h0;cases h0),fun j hj=>?_⟩
 rw[hr] at hj
 simp only[List.mem_cons,List.not_mem_nil,or_false] at hj
 rcases hj with rfl|rfl|rfl
 ·exact wpOpIn_step ho fun K' hK=>h K' fun a w hS hW=>hK a w ⟨hS,hW⟩
 ·exact wpOpIn_step ho' fun K' hK=>h' K' fun a w hS hW=>hK a w ⟨hS,hW⟩
 ·exact wpOpIn_step ho2 fun K' hK=>h2 K' fun a w hS hW=>hK a w ⟨hS,hW⟩
end
end
end Go.Proofs.YthaelabgfnnebaaGreat
