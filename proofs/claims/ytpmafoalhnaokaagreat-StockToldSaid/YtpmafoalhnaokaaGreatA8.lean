/- Qr HN HZ AF0 AD6 NT1 NT3 TL1 -/
import Derived.Test.YtpmafoalhnaokaaGreatA7
import Derived.Maps.OwnIn
import Derived.Maps.OwnSet
set_option maxRecDepth 100000
set_option maxHeartbeats 16000000
set_option linter.unusedVariables false
set_option linter.unusedSectionVars false
open Go.IntKind(i64)
open Go.Lib(hid)
open Go.Proofs.Tryz
open Go.Value(int)
namespace Go.Proofs.YtpmafoalhnaokaaGreat
section
open Go Go.Sort Go.RowKit
section
variable{F:Fence}{n:Nat}{P:Program}{ops:Array Oper}{Q:Exit→Act→World→Prop}{md:Region.Mode}{S:World→Prop}{T:Act→World→Prop}{N:Nat}
theorem rR{a:Act}{w:World}{l:List Oper}(N:Nat)(hro:F.round=none)(hB:Jm l.toArray N=true)
 (h:wpQuietIn F n P l.toArray (fun w'=>∃p:Regrown,w'=grow (redrawn w p.d) p.os) (fun a'=>∀w',(∃p:Regrown,w'=grow (redrawn w p.d) p.os)→wpListIn F n P l.toArray Q (l.drop N) a' w') (l.take N) a):wpAnyIn F n P .any l.toArray Q l.toArray.size (Array.replicate l.toArray.size false) a {w with drawn:=w.drawn+1 }:=by
 simp only[Jm,Bool.and_eq_true,decide_eq_true_eq] at hB
 obtain⟨⟨⟨⟨h1,h2⟩,h3⟩,h4⟩,h5⟩:=hB
 have hlen:N<l.length:=by simpa using h4
 have htl:(l.take N).length=N:=zm
 have inv:HeadInv .any l.toArray N (Array.replicate l.toArray.size false):=⟨zs,fun j oj hj hl=>by rw[getD_replicate_false] at *;simp_all,fun t ht ht'=>getD_in (by simpa using ht') (getD_replicate_false _ _)⟩
 have:=rT (F:=F) (n:=n) (P:=P) (md:=.any) (ops:=l.toArray) (N:=N) (S:=fun w'=>∃p:Regrown,w'=grow (redrawn w p.d) p.os) (T:=wpListIn F n P l.toArray Q (l.drop N)) h1 h2 h3 h4 (l.take N) 0 (Array.replicate l.toArray.size false) a
  (fun j hj=>by rw[htl] at hj;simp[hj]) zo inv (by rw[htl];exact h5) h
 rw[htl] at this
 have h6:=nC (Q:=Q) hro (N:=N) (fun listed a w hB h=>by
  have hd:(l.drop N).length=l.toArray.size - N:=zs
  have:=jv (F:=F) (n:=n) (P:=P) (md:=.any) (ops:=l.toArray) (Q:=Q) (l.drop N) N listed a w (fun j hj=>zs) (by rw[hd];exact hB) h
  rw[hd] at this
  exact this) N _ a {w with drawn:=w.drawn+1 } ⟨⟨w.drawn+1,#[]⟩,by rw[grow_empty];rfl⟩ this
 rw[show l.toArray.size - N+N=l.toArray.size by omega] at h6
 exact h6
def wP(ops:Array Oper):Bool:=ops.all fun o=>match o.op with
 | .defer _=>false
 | _=>true
theorem Lr{ops:Array Oper}(h:wP ops=true){i:Nat}{o:Oper}(ho:ops[i]? =some o):∀c,o.op≠.defer c:=fun c hc=>by
 have:=Array.all_eq_true.1 h i (Array.getElem?_eq_some_iff.1 ho).1
 rw[(Array.getElem?_eq_some_iff.1 ho).2,hc] at this
 cases this
theorem LD{o:Oper}{a:Act}{w:World}{K K':Act→World→Prop}{l:Nat}(hro:F.round=none)(hd:∀c,o.op≠.defer c)(hK:∀a w,K a w→K' a w)(h:o.wpIn F n P a w K Q):o.wpIn (F.inRound l) n P a w K' Q:=by
 have h':=Oper.wpIn_mono hK h
 obtain⟨h1,h2⟩:=h'
 rw[hro,Oper.semAt_eq _ _ _ hd] at h2
 refine⟨h1,?_⟩
 rw[Oper.semAt_eq _ _ _ hd]
 exact h2
theorem lM{l:Nat}(hro:F.round=none)(hd:wP ops=true):∀ (fuel:Nat) (listed:Array Bool) (a:Act) (w:World),wpAnyIn F n P md ops Q fuel listed a w→wpAnyIn (F.inRound l) n P md ops Q fuel listed a w
 | 0,_,_,_,h=>h
 | fuel+1,_,a,w,h=>⟨h.1,fun i hi=>by
   have h1:=h.2 i hi
   unfold wpOpIn at h1⊢
   split
   ·rename_i ho
    rw[ho] at h1
    exact lM hro hd fuel _ _ _ h1
   ·rename_i o ho
    rw[ho] at h1
    simp only at h1
    split
    ·rename_i hw
     rw[if_pos hw] at h1
     exact LD hro (Lr hd ho) (fun a w h=>lM hro hd fuel _ a w h) h1
    ·rename_i hw
     rw[if_neg hw] at h1
     exact⟨h1.1,lM hro hd fuel _ _ _ h1.2⟩⟩
theorem lI{id l₀:Nat}{a:Act}{w:World}{l:List Oper}(N:Nat)(hro:F.round=none)(hm:P.follows .mixedOrders=true)(hB:Jm l.toArray N=true)(hd:wP l.toArray=true)
 (h:wpQuietIn F n P l.toArray (fun w'=>∃p:Regrown,w'=grow (redrawn w p.d) p.os) (fun a'=>∀w',(∃p:Regrown,w'=grow (redrawn w p.d) p.os)→wpListIn F n P l.toArray Q (l.drop N) a' w') (l.take N) a):(Code.region id l.toArray true).wpIn (F.inRound l₀) n P Q a w:=
 wpIn_region_any hm (lM hro hd _ _ _ _ (rR N hro hB h))
end
end
section
open Go.RowKit Go.Maps
open Go.Sort (grow)
attribute [local go_sem] Oper.semAt_some
def mapD(v:Ht→Int)(pre:List Ht):DataW Unit:=pre.foldl (fun D h=>D.put (.int .i64 (v h)) (.lit (.bool true))) (.map [])
theorem CY(v:Ht→Int)(pre:List Ht)(h:Ht):mapD v (pre ++ [h])=(mapD v pre).put (.int .i64 (v h)) (.lit (.bool true)):=by unfold mapD;rw[List.foldl_append];rfl
theorem bR{H:Type}{P:Program}{k:TypeId}{R:Value→Option (DataW H × List MemPlace)}{w w':World}{b n:Nat}{D:DataW H}(h:w.ownsMap P k R b n D)(e:w'.heap[b]? =w.heap[b]?):w'.ownsMap P k R b n D:=by
 obtain⟨es,clock,hb,rest⟩:=h
 exact⟨es,clock,e.trans hb,rest⟩
theorem dG{F:Fence}{n:Nat}{P:Program}{fn:Func}{tmps:Array Value}{R:Ending→World→Prop}{lo:Nat}:∀ {ds:List Deferred} {hi:Nat} {W:World},Marks lo hi ds W→
 (∀B,Keeps (fun b=>lo≤b∧b<hi) W B→∃v,(results fn tmps).run P B=.ok v B∧R (.returned v) B)→LeavesInM F n P fn tmps R ds .returning W
 | [],_,W,_,hR=>hR W (Keeps.refl _ _)
 | _ :: ds,hi,W,h,hR=>by
   obtain⟨r,rfl,h1,h2,h3,h4⟩:=h
   have hk:Keeps (fun b=>lo≤b∧b<hi) W (W.putObj r (.deferred none)):=⟨rfl,rfl,rfl,by simp[World.putObj],fun b _ hc=>World.putObj_heap_other (fun e=>hc (e ▸ ⟨h1,h2⟩))⟩
   refine⟨zs,.inl ⟨_,_,rfl,run_takeDeferred h3,?_⟩⟩
   exact dG (h4.of fun x _ hx2=>World.putObj_heap_other zo) (fun B hB=>hR B (hk.trans (hB.more fun b _ hb=>⟨hb.1,zo⟩)))
theorem Dc(gf:Nat)(lb:Array Value)(g:Nat)(lg:Array Value)(v:Ht→Int)(xs:List Ht)(w:World)(hlen:xs.length<2 ^ 40)(hsz:0<Maps.size (mapD v xs))(hwf:∀h∈xs,(Lit.int .i64 (v h)).wf=true)(h:pW FF gf lb xs w)(hg:ug FF g lg xs (fun h=>int i64 (v h)) w):
 CallsIn FF 0 prog 52 #[.func (.func gf) #[] lb,.func (.func g) #[] lg] w fun e w'=>∃ (vv:Value) (ss:List Int),e=.returned (.tuple #[vv,int i64 0])∧ss.Perm (intKeys (mapD v xs))∧w'.ownsRow w.heap.size 3 1 vv ss.length ((ss.mergeSort (fun x y=>decide (x≤y))).map encZ)∧Below w.heap.size w w':=by
 obtain⟨hfn,Nq,hit⟩:=h
 have HIT:=hid hit
 have Rq:=hid Nq
 obtain⟨hgf,hge,hgc⟩:=hg
 rw[qU] at hgf
 have HG:=hid hgc
 have HWF:=hid hwf
 clear hit Nq hgc hwf
 have hmm:=@run_makeMap prog
 refine callsIn_of_wp_marks func52 rfl zs ?_ rfl
 simp only[ntmps52,List.size_toArray,List.length_cons,List.length_nil,Nat.reduceAdd,Nat.reduceSub,Array.replicate_succ,Array.replicate_zero,List.push_toArray,List.append_toArray,List.nil_append,List.cons_append]
 gi_wp2
 obtain⟨wa,Uu⟩:∃wa,wa=w.alloc (.cells #[.func (.func g) #[] lg] 105):=zE
 obtain⟨wb,hwb⟩:∃wb,wb=wa.alloc (.map #[] 0):=zE
 obtain⟨w1,hw1⟩:∃w1,w1=wb.alloc (.cells #[.map (some (w.heap.size+1))] 131):=zE
 have sa:wa.heap.size=w.heap.size+1:=by rw[Uu];simp
 have sb:wb.heap.size=w.heap.size+1+1:=by rw[hwb];simp[sa]
 have hs1:w1.heap.size=w.heap.size+3:=by rw[hw1];simp[sb]
 have B1:Hid (Below w.heap.size w w1):=hid (by rw[hw1,hwb,Uu];exact bw)
 have F1:Hid (Whole w1 w.heap.size 105 #[.func (.func g) #[] lg]):=hid (by rw[hw1,hwb,Uu];exact((Whole.new _ _ _).alloc _).alloc _)
 have M1:Hid (Whole w1 (w.heap.size+1+1) 131 #[.map (some (w.heap.size+1))]):=hid (by rw[← sb,hw1];exact Whole.new _ _ _)
 have O1:Hid (w1.ownsMap prog 3 (plainElem prog 4) (w.heap.size+1) 0 (mapD v [])):=hid (by
  have:=(World.ownsMap_made (H:=Unit) wa prog 3 (plainElem prog 4)).alloc (.cells #[.map (some (w.heap.size+1))] 131)
  rw[sa] at this;rw[hw1,hwb];exact this)
 try rw[← Uu,← hwb,← hw1]
 clear hw1 Uu hwb sa sb
 clear hmm
 obtain⟨CC,TM⟩:∃CC:Nat→Prop,CC=fun x=>x=w.heap.size+1:=⟨_,rfl⟩
 have nI:∀x,CC x↔x=w.heap.size+1:=fun x=>by rw[TM]
 clear TM
 refine iR (C:=CC) rfl rfl (gf:=gf) (lb:=lb) rfl hfn Rq.out (encs:=fun h:Ht=>#[h.val]) (xs:=xs)
  (fun x hx=>by have:=(nI x).1 hx;omega) ?hseq (fun _=>rfl) (fun pre W'=>Hid (Whole W' w.heap.size 105 #[.func (.func g) #[] lg]∧Whole W' (w.heap.size+1+1) 131 #[.map (some (w.heap.size+1))]∧W'.ownsMap prog 3 (plainElem prog 4) (w.heap.size+1) pre.length (mapD v pre))) (fun c pre W'=>False)
  (fun pre A B h hb=>hid ⟨h.out.1.below hb zo,h.out.2.1.below hb zo,bR h.out.2.2 (hb.block _ zo)⟩) (fun c pre A B h hb=>h.elim) (hid ⟨F1.out,M1.out,O1.out⟩) ?gI ?hdone ?hstop
 case hseq=>exact fun W2 hb2 hs2=>HIT.out _ W2 (B1.out.trans (hb2.mono B1.out.size)) fun x hx=>by rw[nI] at hx;omega
 case gI=>
  intro l' pre h A hl' hpre hj hk hsz hrec
  have hsn:=CY v pre h
  have hwf:=HWF.out h (fI hpre)
  obtain⟨D',hD'⟩:∃D',D'=mapD v (pre ++ [h]):=zE
  obtain⟨D,hD⟩:∃D,D=mapD v pre:=zE
  obtain⟨vh,et⟩:∃vh,vh=v h:=zE
  rw[← hD',← hD,← et] at hsn
  rw[← hD']
  rw[← hD] at hj
  rw[← et] at hwf
  have XI:=fun W hW=>HG.out W h (fI hpre) hW
  rw[← et] at XI
  have hpl:(pre ++ [h]).length=pre.length+1:=zs
  have Tu:=iM hpre
  rw[hpl]
  clear et hD' hD hpl
  obtain⟨hf,hmm,vw⟩:=h
  simp only[Ht.val,Ht.cells]
  simp only[Ht.val,Ht.cells] at XI
  gi_wp2
  refine⟨bw,fun W2 hS=>?_⟩
  have oP:Below (w.heap.size+3) A W2:=((Below.refl _ A).alloc zo _).trans (hS.below zo)
  have X2:Whole W2 A.heap.size 91 (⟨hf,hmm,vw⟩:Ht).cells:=(Whole.new A _ _).of (hS.block _ zo)
  have F2:=hid (hj.out.1.below oP zo)
  have M2:=hid (hj.out.2.1.below oP zo)
  have O2:=hid (bR hj.out.2.2 (oP.block _ zo))
  have hlt2:=O2.out.lt
  have q0:∀d os,(grow (redrawn W2 d) os).cell? ⟨w.heap.size,0,none⟩=some (.func (.func g) #[] lg):=cell_regrown (F2.out.cell 0)
  have q6:∀d os,(grow (redrawn W2 d) os).cell? ⟨w.heap.size+1+1,0,none⟩=some (.map (some (w.heap.size+1))):=cell_regrown (M2.out.cell 0)
  have x0:∀d os,(grow (redrawn W2 d) os).cell? ⟨A.heap.size,0,none⟩=some (int i64 (hf 0)):=cell_regrown (X2.cell 0)
  have x1:∀d os,(grow (redrawn W2 d) os).cell? ⟨A.heap.size,1,none⟩=some (int i64 (hf 1)):=cell_regrown (X2.cell 1)
  have x2:∀d os,(grow (redrawn W2 d) os).cell? ⟨A.heap.size,2,none⟩=some (int i64 (hf 2)):=cell_regrown (X2.cell 2)
  have x3:∀d os,(grow (redrawn W2 d) os).cell? ⟨A.heap.size,3,none⟩=some (int i64 (hmm 0)):=cell_regrown (X2.cell 3)
  have x4:∀d os,(grow (redrawn W2 d) os).cell? ⟨A.heap.size,4,none⟩=some (int i64 (hmm 1)):=cell_regrown (X2.cell 4)
  have x5:∀d os,(grow (redrawn W2 d) os).cell? ⟨A.heap.size,5,none⟩=some (int i64 (hmm 2)):=cell_regrown (X2.cell 5)
  have x6:∀d os,(grow (redrawn W2 d) os).cell? ⟨A.heap.size,6,none⟩=some (int i64 (hmm 3)):=cell_regrown (X2.cell 6)
  have x7:∀d os,(grow (redrawn W2 d) os).cell? ⟨A.heap.size,7,none⟩=some (int i64 (hmm 4)):=cell_regrown (X2.cell 7)
  have x8:∀d os,(grow (redrawn W2 d) os).cell? ⟨A.heap.size,8,none⟩=some (int i64 (hmm 5)):=cell_regrown (X2.cell 8)
  have x9:∀d os,(grow (redrawn W2 d) os).cell? ⟨A.heap.size,9,none⟩=some (int i64 vw):=cell_regrown (X2.cell 9)
  have hBW:Below w.heap.size w W2:=(B1.out.trans (hk.below (n:=w.heap.size) (fun b hb hc=>by have:=(nI b).1 hc;omega) zo)).trans (oP.mono zo)
  have cG:∀d os,CallsIn FF 0 prog g (#[.agg #[int i64 (hf 0),int i64 (hf 1),int i64 (hf 2),int i64 (hmm 0),int i64 (hmm 1),int i64 (hmm 2),int i64 (hmm 3),int i64 (hmm 4),int i64 (hmm 5),int i64 vw]] ++ lg) (grow (redrawn W2 d) os) fun e w''=>e=.returned (int i64 vh)∧∃p:Regrown,w''=grow (redrawn W2 p.d) p.os:=fun d os=>CallsIn.regrown_of (XI _ (hBW.trans ((below_regrown W2 d os).mono (Nat.le_trans zL hBW.size))))
  have cg:=hid hsn
  have HWf:=hid hwf
  have vt:=fun d os=>(below_regrown W2 d os)
  have uV:=hid vt
  clear X2 oP XI hsn hwf hBW vt
  gi_wp2
  refine lI 4 rfl zk zk zk ?_
  repeat (quiet_step_in (exact cG _ _))
  refine wpQuietIn_nil ?_
  rintro w' ⟨⟨dq,osq⟩,rfl⟩
  have bg:=uV.out dq osq
  clear q0 q6 x0 x1 x2 x3 x4 x5 x6 x7 x8 x9 cG
  have O9:=bR O2.out (bg.block _ hlt2)
  have F9:=F2.out.below bg F2.out.lt
  have M9:=M2.out.below bg M2.out.lt
  simp only at O9 F9 M9 bg⊢
  generalize grow (redrawn W2 dq) osq=w9 at bg O9 F9 M9⊢
  refine wpListIn_mapUpdate_own _ rfl _ _ _ 131 rfl 3 4 (int_keyed underlying3) underlying131 (plainElem prog 4) (w.heap.size+1) pre.length D rfl O9 zU _ _ (.int .i64 vh) rfl rfl (keyOf_int_mk underlying3 HWf.out) (.lit (.bool true)) [] (plainElem_bool underlying4 true) ?_
  intro w10 lf wK
  have Ty:=bg.size
  have hbg:=below_grown (B:=w.heap.size+1) wK zo (fun g hg=>by cases hg;omega)
  have hkk:Keeps CC W2 w10:=(Keeps.bI bg).trans ⟨hbg.os,hbg.tape,hbg.output,hbg.size,fun b hb hc=>wK.block b hb (by intro e;cases e;exact hc ((nI _).2 rfl))⟩
  gi_wp2
  exact⟨hkk,hid ⟨F9.grown wK zs,M9.grown wK zs,by rw[cg.out];exact lf⟩⟩
 case hdone=>
  intro W' hj hk hm
  have c6:W'.cell? ⟨w.heap.size+1+1,0,none⟩=some (.map (some (w.heap.size+1))):=hj.out.2.1.cell 0
  have hms:Marks w1.heap.size (w1.heap.size+1) [{target:=.collected w1.heap.size,args:=#[] }] W':=⟨_,rfl,zL,Nat.lt_succ_self _,hm,zT⟩
  have Xj:=hid hms
  have ME:Hid (Below w.heap.size w W'):=hid (B1.out.trans (hk.below (n:=w.heap.size) (fun b hb hc=>by have:=(nI b).1 hc;omega) zo))
  have hsl:=hj.out.2.2.size_le
  obtain⟨N,hN⟩:∃N,N=Maps.size (mapD v xs):=zE
  have HL:∀ty,(Builtin.len_ #[131] ty #[.map (some (w.heap.size+1))]).run prog W'=.ok (int i64 N) W':=fun ty=>by rw[hN];exact hj.out.2.2.len underlying131 ty
  have HO:=hid hj.out.2.2
  rw[← hN] at hsz hsl
  have hn0:¬ N=0:=zo
  have HN:=hid hN
  have hm1:w1.heap.size<W'.heap.size:=(Array.getElem?_eq_some_iff.1 hm).1
  have hlo:=HO.out.lt
  have HK:=hid (Yx (some (w.heap.size+1)) W')
  have HS:=hid (Qv (w.heap.size+1) xs.length (mapD v xs) (plainElem prog 4) W'.heap.size (W'.alloc (.cells #[.map (some (w.heap.size+1))] 131)) (Whole.new _ _ _) (HO.out.alloc _) (by rw[← HN.out];unfold maxLen;omega) (by rw[← HN.out];omega))
  clear hj hms hm hk hN
  simp only[Exit.inBlock,Exit.then]
  go_at_K
  gi_wp2_with (first
   | (gi_at_call 91;refine HK.out.mono ?_;rintro e w3 ⟨rfl,rfl⟩)
   | (gi_at_call 90;refine HS.out.mono ?_;rintro e w4 ⟨vv,ss,rfl,hss,hrow,-,hb4⟩))
  have hs4:=hb4.size
  simp only[World.size_alloc] at hs4
  have hms:=Xj.out
  rw[hs1] at hms hm1
  have Tr:Marks (w.heap.size+3) (w.heap.size+3+1) [{target:=.collected (w.heap.size+3),args:=#[] }] w4:=hms.of fun r h1 h2=>(hb4.block r zm).trans (Below.heap_alloc _ _ _ zo)
  have D6:Below w.heap.size w w4:=Below.next (Below.al ME.out _) hb4
  refine dG Tr (fun B hB=>⟨_,results_tmp2 rfl _ _ _,vv,ss,rfl,hss,dh (iw hrow fun g hg hl=>hB.block g hl (fun hc=>by have:=(bL hrow hg).1;simp at this;omega)) (by have:=ME.out.size;simp;omega),D6.trans (hB.below (n:=w.heap.size) (fun b hb hc=>zo) D6.size)⟩)
 case hstop=>
  rintro c pre W' hpre hx hk hm
  exact hx.elim
theorem yU(b:Bk)(gd k:Nat)(w:World)(h:b.At w w.heap.size)(ok:b.Ok)(hcap:b.ng≤b.gc)(hl:∀s∈ak b,dZ s)(hlen:(aB b (ak b)).length<2 ^ 40)(hgd:gd<b.ng)(hk:(k:Int)≤b.dY)
 (hsz:0<Maps.size (mapD (fun h=>stk b h k b.nm gd) (aB b (ak b))))(hwf:∀h∈aB b (ak b),(Lit.int .i64 (stk b h k b.nm gd)).wf=true):CallsIn FF 0 prog 19 #[b.val,int i64 gd,int i64 k] w fun e w'=>∃ (vv:Value) (ss:List Int),e=.returned (.tuple #[vv,int i64 0])∧ss.Perm (intKeys (mapD (fun h=>stk b h k b.nm gd) (aB b (ak b))))∧w'.ownsRow w.heap.size 3 1 vv ss.length ((ss.mergeSort (fun x y=>decide (x≤y))).map encZ)∧Below w.heap.size w w':=by
 have hx:=jy b ok (ak b) hl
 have HO:=hid fun w h=>q8 b gd w h ok hcap hgd
 have HH:=hid fun A p w hc=>rX b ok hl A p w hc
 have hg3:gd<3:=by have:=ok.bX.1.2;omega
 have HN:=hid fun(w:World)=>show CallsIn FF 0 prog 51 #[b.val,int i64 k] w fun e w'=>e=.returned (.bool true)∧Below w.heap.size w w' from by
  have:=xU b k w
  have e:gK (k:Int) 0 b.dY=true:=by unfold gK;simp;omega
  rwa[e] at this
 have HK:=hid fun lb A n p Bc Bd Bg w h hA hc hd hg=>Dc 79 lb 53 #[.pointer (some ⟨Bc,0,none⟩),.pointer (some ⟨Bd,0,none⟩),.pointer (some ⟨Bg,0,none⟩)] (fun h=>stk b h k b.nm gd) (aB b (ak b)) w hlen hsz hwf h (YA b ok A n p k gd hg3 _ hx Bc Bd Bg w hA hc hd hg)
 have HA:=hid h
 have HC:=hid fun A w (h:pQ b A w)=>h.at_
 obtain⟨n,hn⟩:∃n,n=(ak b).length:=zE
 obtain⟨KS,uC⟩:∃KS,KS=intKeys (mapD (fun h=>stk b h k b.nm gd) (aB b (ak b))):=zE
 rw[← uC] at HK⊢
 obtain⟨xs,hxs⟩:∃xs,xs=aB b (ak b):=zE
 rw[← hn] at HO HH
 rw[← hxs] at HH HK
 clear hn hxs h hcap hl ok hgd hx hk hsz hwf hlen uC
 obtain⟨dY,mO,gA,ng,gc,g,mA,nm,mc,m,cA,nc,cc,c⟩:=b
 simp only[Bk.val,Bk.cells,aA] at HO HH HK HN⊢
 obtain⟨w1,hw1⟩:∃w1,w1=((w.alloc (.cells #[int i64 dY,int i64 mO,.slice gA ng gc,.slice mA nm mc,.slice cA nc cc] 26)).alloc (.cells #[int i64 gd] 3)).alloc (.cells #[int i64 k] 3):=zE
 have B1:Hid (Below w.heap.size w w1):=hid (by rw[hw1];exact bw)
 have G1:Hid (Whole w1 (w.heap.size+1) 3 #[int i64 gd]):=hid (by rw[hw1];exact(aL zs).alloc _)
 have K1:Hid (Whole w1 (w.heap.size+1+1) 3 #[int i64 k]):=hid (by rw[hw1];exact aL zs)
 have ku:=hid hw1
 clear hw1
 gi_enter func19,ntmps19
 gi_wp2_with (first
  | (gi_at_call 50;rw[← ku.out];refine(HO.out _ (HA.out.up B1.out)).mono ?_;rintro e w2 ⟨A,p,rfl,hc2,hb2⟩;have K2:=(K1.out.below hb2 K1.out.lt).alloc (.cells #[int i64 dY,int i64 mO,.slice gA ng gc,.slice mA nm mc,.slice cA nc cc,.slice A n p] 75);have k2:(w2.alloc (.cells #[int i64 dY,int i64 mO,.slice gA ng gc,.slice mA nm mc,.slice cA nc cc,.slice A n p] 75)).cell? ⟨w.heap.size+1+1,0,none⟩=some (int i64 k):=K2.cell 0;have G2:=(G1.out.below hb2 G1.out.lt).alloc (.cells #[int i64 dY,int i64 mO,.slice gA ng gc,.slice mA nm mc,.slice cA nc cc,.slice A n p] 75))
  | (gi_at_call 51;refine(HN.out _).mono ?_;rintro e w3 ⟨rfl,hb3⟩;have X3:Whole w3 w2.heap.size 75 #[int i64 dY,int i64 mO,.slice gA ng gc,.slice mA nm mc,.slice cA nc cc,.slice A n p]:=(Whole.new w2 _ _).below hb3 zs;have x0:w3.cell? ⟨w2.heap.size,0,none⟩=some (int i64 dY):=X3.cell 0;have x1:w3.cell? ⟨w2.heap.size,1,none⟩=some (int i64 mO):=X3.cell 1;have x2:w3.cell? ⟨w2.heap.size,2,none⟩=some (.slice gA ng gc):=X3.cell 2;have x3:w3.cell? ⟨w2.heap.size,3,none⟩=some (.slice mA nm mc):=X3.cell 3;have x4:w3.cell? ⟨w2.heap.size,4,none⟩=some (.slice cA nc cc):=X3.cell 4;have x5:w3.cell? ⟨w2.heap.size,5,none⟩=some (.slice A n p):=X3.cell 5;have K3:=K2.below hb3 K2.lt;have G3:=G2.below hb3 G2.lt)
  | (gi_at_call 39;refine(HH.out A p _ ((hc2.below (bw)).below hb3)).mono ?_;rintro e w4 ⟨lb,rfl,hs4,hb4⟩)
  | (gi_at_call 52;refine(HK.out lb A n p _ _ _ _ hs4 (((HC.out A _ (hc2.below (bw))).up hb3).up hb4) (X3.below hb4 X3.lt) (K3.below hb4 K3.lt) (G3.below hb4 G3.lt)).mono ?_;rintro e w5 ⟨vv,ss,rfl,hss,hv,hb5⟩))
 go_ret2
 have KO:=Below.next (Below.next (Below.al (Below.next B1.out hb2) (.cells #[int i64 dY,int i64 mO,.slice gA ng gc,.slice mA nm mc,.slice cA nc cc,.slice A n p] 75)) hb3) hb4
 exact⟨vv,ss,rfl,hss,dh hv KO.size,Below.next KO hb5⟩
theorem BJ(b:Bk)(k:Nat)(w:World)(h:b.At w w.heap.size)(ok:b.Ok)(hcap:b.ng≤b.gc)(hl:∀s∈ak b,dZ s)(hlen:(aB b (ak b)).length<2 ^ 40)(hk:k<b.nm)
 (hsz:0<Maps.size (mapD (fun h=>h.real k) (aB b (ak b))))(hwf:∀h∈aB b (ak b),(Lit.int .i64 (h.real k)).wf=true):CallsIn FF 0 prog 20 #[b.val,int i64 k] w fun e w'=>∃ (vv:Value) (ss:List Int),e=.returned (.tuple #[vv,int i64 0])∧ss.Perm (intKeys (mapD (fun h=>h.real k) (aB b (ak b))))∧w'.ownsRow w.heap.size 3 1 vv ss.length ((ss.mergeSort (fun x y=>decide (x≤y))).map encZ)∧Below w.heap.size w w':=by
 have hx:=jy b ok (ak b) hl
 have HO:=hid fun w h=>yu b k w h ok hcap hk
 have HH:=hid fun A p w hc=>rX b ok hl A p w hc
 have Uj:k<6:=by have:=ok.moves.1;omega
 have HK:=hid fun lb B w h hB=>Dc 79 lb 54 #[.pointer (some ⟨B,0,none⟩)] (fun h=>h.real k) (aB b (ak b)) w hlen hsz hwf h (Lx k Uj _ hx B w hB)
 have HA:=hid h
 obtain⟨n,hn⟩:∃n,n=(ak b).length:=zE
 obtain⟨KS,uC⟩:∃KS,KS=intKeys (mapD (fun h=>h.real k) (aB b (ak b))):=zE
 rw[← uC] at HK⊢
 obtain⟨xs,hxs⟩:∃xs,xs=aB b (ak b):=zE
 rw[← hn] at HO HH
 rw[← hxs] at HH HK
 clear hn hxs h hcap hl ok hx hk hsz hwf hlen uC
 obtain⟨dY,mO,gA,ng,gc,g,mA,nm,mc,m,cA,nc,cc,c⟩:=b
 simp only[Bk.val,Bk.cells,aA] at HO HH⊢
 obtain⟨w1,hw1⟩:∃w1,w1=(w.alloc (.cells #[int i64 dY,int i64 mO,.slice gA ng gc,.slice mA nm mc,.slice cA nc cc] 26)).alloc (.cells #[int i64 k] 3):=zE
 have B1:Hid (Below w.heap.size w w1):=hid (by rw[hw1];exact bw)
 have K1:Hid (Whole w1 (w.heap.size+1) 3 #[int i64 k]):=hid (by rw[hw1];exact aL zs)
 have ku:=hid hw1
 clear hw1
 gi_enter func20,ntmps20
 gi_wp2_with (first
  | (gi_at_call 31;rw[← ku.out];refine(HO.out _ (HA.out.up B1.out)).mono ?_;rintro e w2 ⟨A,p,rfl,hc2,hb2⟩;have K2:=(K1.out.below hb2 K1.out.lt).alloc (.cells #[int i64 dY,int i64 mO,.slice gA ng gc,.slice mA nm mc,.slice cA nc cc,.slice A n p] 75))
  | (gi_at_call 39;refine(HH.out A p _ (hc2.below (bw))).mono ?_;rintro e w4 ⟨lb,rfl,hs4,hb4⟩)
  | (gi_at_call 52;refine(HK.out lb _ _ hs4 (K2.below hb4 K2.lt)).mono ?_;rintro e w5 ⟨vv,ss,rfl,hss,hv,hb5⟩))
 go_ret2
 have KO:=Below.next (Below.al (Below.next B1.out hb2) (.cells #[int i64 dY,int i64 mO,.slice gA ng gc,.slice mA nm mc,.slice cA nc cc,.slice A n p] 75)) hb4
 exact⟨vv,ss,rfl,hss,dh hv KO.size,Below.next KO hb5⟩
end
section
open Go.RowKit Go.Maps
theorem wO{x p:Lit × DataW Unit}:∀l:List (Lit × DataW Unit),p∈DataW.insert x l↔p=x∨p∈l
 | []=>by simp[DataW.insert]
 | y :: r=>by
   unfold DataW.insert
   split
   ·simp
   ·rw[List.mem_cons,wO r,List.mem_cons]
    constructor
    ·rintro(h|h|h)
     ·exact .inr (.inl h)
     ·exact .inl h
     ·exact .inr (.inr h)
    ·rintro(h|h|h)
     ·exact .inr (.inl h)
     ·exact .inl h
     ·exact .inr (.inr h)
theorem CX(v:Ht→Int)(L:List Ht):∃es,mapD v L=.map es∧(∀p∈es,∃h∈L,p.1=Lit.int .i64 (v h))∧∀h∈L,∃p∈es,p.1=Lit.int .i64 (v h):=by
 have key:∀ (n:Nat) (L:List Ht),L.length=n→∃es,mapD v L=.map es∧(∀p∈es,∃h∈L,p.1=Lit.int .i64 (v h))∧∀h∈L,∃p∈es,p.1=Lit.int .i64 (v h):=by
  intro n
  induction n with
  | zero=>
    intro L hL
    obtain rfl:L=[]:=List.length_eq_zero_iff.1 hL
    exact⟨[],rfl,(fun p hp=>by cases hp),fun h hh=>by cases hh⟩
  | succ n ih=>
    intro L hL
    have hne:L≠[]:=fun e=>by rw[e] at hL;cases hL
    obtain⟨pre,h,rfl⟩:∃pre h,L=pre ++ [h]:=⟨L.dropLast,L.getLast hne,(List.dropLast_concat_getLast hne).symm⟩
    obtain⟨es,e,k1,k2⟩:=ih pre (by simpa using hL)
    refine⟨DataW.insert (Lit.int .i64 (v h),.lit (.bool true)) (es.filter fun p=>!p.1.sameKey (Lit.int .i64 (v h))),by rw[CY,e];rfl,fun p hp=>?_,fun x hx=>?_⟩
    ·rcases(wO _).1 hp with rfl|hp
     ·exact⟨h,zs,rfl⟩
     ·obtain⟨y,hy,ey⟩:=k1 p (List.mem_filter.1 hp).1
      exact⟨y,by simp[hy],ey⟩
    ·by_cases hv:v x=v h
     ·exact⟨_,(wO _).2 (.inl rfl),by rw[hv]⟩
     ·have hx':x∈pre:=by
       rcases List.mem_append.1 hx with h1|h1
       ·exact h1
       ·obtain rfl:x=h:=by simpa using h1
        exact absurd rfl hv
      obtain⟨p,hp,ep⟩:=k2 x hx'
      refine⟨p,(wO _).2 (.inr (List.mem_filter.2 ⟨hp,?_⟩)),ep⟩
      rw[ep,sameKey_ne (fun e=>hv (by injection e))]
      rfl
 exact key _ L rfl
theorem Lb(v:Ht→Int)(L:List Ht)(hL:L≠[]):0<Maps.size (mapD v L)∧∀ss:List Int,ss.Perm (intKeys (mapD v L))→∃l0 rest,ss.mergeSort (fun x y=>decide (x≤y))=l0 :: rest∧(∃h∈L,v h=l0)∧∀h∈L,l0≤v h:=by
 obtain⟨es,e,k1,k2⟩:=CX v L
 rw[e]
 obtain⟨x,hx⟩:=List.exists_mem_of_ne_nil L hL
 refine⟨?_,fun ss hp=>?_⟩
 ·obtain⟨p,hp,_⟩:=k2 x hx
  exact List.length_pos_of_mem hp
 ·have hm:∀y,y∈ss.mergeSort (fun x y=>decide (x≤y))↔y∈intKeys (.map es:DataW Unit):=fun y=>by rw[List.mem_mergeSort];exact hp.mem_iff
  have i1:∀y,y∈intKeys (.map es:DataW Unit)→∃h∈L,v h=y:=fun y hy=>by
   obtain⟨p,hp,rfl⟩:=List.mem_map.1 hy
   obtain⟨h,hh,ep⟩:=k1 p hp
   exact⟨h,hh,by rw[ep];rfl⟩
  have i2:∀h∈L,v h∈intKeys (.map es:DataW Unit):=fun h hh=>by
   obtain⟨p,hp,ep⟩:=k2 h hh
   exact List.mem_map.2 ⟨p,hp,by rw[ep];rfl⟩
  have hs:(ss.mergeSort (fun x y=>decide (x≤y))).Pairwise (fun a b=>decide (a≤b)=true):=List.pairwise_mergeSort (fun a b c h1 h2=>by simp only[decide_eq_true_eq] at *;omega) (fun a b=>by simp only[Bool.or_eq_true,decide_eq_true_eq];omega) ss
  cases hS:ss.mergeSort (fun x y=>decide (x≤y)) with
  | nil=>
    have:=(hm (v x)).2 (i2 x hx)
    rw[hS] at this
    cases this
  | cons l0 rest=>
    rw[hS] at hs hm
    refine⟨l0,rest,rfl,i1 l0 ((hm l0).1 List.mem_cons_self),fun h hh=>?_⟩
    rcases List.mem_cons.1 ((hm (v h)).2 (i2 h hh)) with e0|h1
    ·omega
    ·exact of_decide_eq_true ((List.pairwise_cons.1 hs).1 _ h1)
end
section
open Go.RowKit
theorem mI{α β:Type}{f:α→List β}{c:Nat}:∀ (l:List α),(∀x∈l,(f x).length≤c)→(l.flatMap f).length≤l.length * c
 | [],_=>zs
 | x :: l,h=>by
   have h1:=h x List.mem_cons_self
   have h2:=mI l fun y hy=>h y (List.mem_cons_of_mem _ hy)
   rw[List.flatMap_cons,List.length_append,List.length_cons,Nat.add_mul,Nat.one_mul]
   omega
theorem Qw(lo:Int)(k:Nat):(aX lo k).length=k:=by unfold aX;simp
theorem GV(b:Bk)(ok:b.Ok):∀ (n k:Nat) (h:Ht) (s:Nat→Int),k+n≤b.nm→(eu b n k h s).length≤3 ^ n
 | 0,k,h,s,_=>by unfold eu;split <;> simp
 | Nat.succ n,k,h,s,hk=>by
   unfold eu
   split
   ·have hf:=jc (ok.moves.2 k zo).few
    have:=mI (f:=fun x=>eu b n (k+1) (dU h k x) (Bh b s (dU h k x) k)) (c:=3 ^ n) (aX (b.m k).lo ((b.m k).hi - (b.m k).lo+1).toNat) fun x _=>GV b ok n (k+1) _ _ zo
    rw[Qw] at this
    refine Nat.le_trans this ?_
    rw[Nat.pow_succ,Nat.mul_comm]
    exact Nat.mul_le_mul_left _ zo
   ·exact Nat.zero_le _
theorem Wq(b:Bk)(ok:b.Ok)(s:Nat):(gy b s).length≤19683:=by
 unfold gy
 have h1:=mI (f:=fun f=>eu b b.nm 0 ⟨f,fun _=>0,s⟩ f) (c:=3 ^ b.nm) (aR b b.ng) fun f _=>GV b ok b.nm 0 _ _ zo
 have h2:=mG b ok.bX b.ng zL
 have h3:3 ^ b.nm≤3 ^ 6:=Nat.pow_le_pow_right zD ok.moves.1
 have h4:3 ^ b.ng≤3 ^ 3:=Nat.pow_le_pow_right zD ok.bX.1.2
 exact Nat.le_trans h1 (Nat.le_trans (Nat.mul_le_mul (Nat.le_trans h2 h4) h3) zD)
theorem sI(b:Bk)(ok:b.Ok):(aB b (ak b)).length<2 ^ 40:=by
 unfold aB
 have h1:=mI (f:=fun s=>gy b s) (c:=19683) ((ak b).filter fun s=>decide (pop s≤b.mO)) fun s _=>Wq b ok s
 have h2:((ak b).filter fun s=>decide (pop s≤b.mO)).length≤64:=by
  refine Nat.le_trans (List.length_filter_le _ _) ?_
  unfold ak
  refine Nat.le_trans (List.length_filter_le _ _) ?_
  rw[List.length_range]
  exact Nat.le_trans (Nat.pow_le_pow_right zD ok.moves.1) zD
 exact Nat.lt_of_le_of_lt (Nat.le_trans h1 (Nat.mul_le_mul_right _ h2)) zD
end
section
open Go.RowKit Go.Maps
theorem Ij(b:Bk)(ok:b.Ok)(hcap:b.ng≤b.gc)(gd k:Nat)(hgd:gd<b.ng)(hk:(k:Int)≤b.dY)(hne:aB b (ak b)≠[])(w:World)(h:b.At w w.heap.size):
 CallsIn FF 0 prog 19 #[.agg b.cells,int i64 gd,int i64 k] w fun e w'=>∃ (l:List Int) (A:Option Addr) (c:Nat),e=.returned (.tuple #[.slice A l.length c,int i64 0])∧(∀y,y∈l↔∃x∈aB b (ak b),stk b x k b.nm gd=y)∧l.length≤maxLen∧Ints w' w'.heap.size A l.length (fun i=>l.getD i 0)∧Below w.heap.size w w':=by
 have hg3:gd<3:=by have:=ok.bX.1.2;omega
 have hf:=Lb (fun h=>stk b h k b.nm gd) (aB b (ak b)) hne
 refine(yU b gd k w h ok hcap (jg b ok) (sI b ok) hgd hk hf.1 (fun x hx=>by
  have hn:=L6 (b:=b) (jy b ok (ak b) (jg b ok) x hx) k b.nm ok.moves.1 gd hg3
  have:=ok.moves.1
  simp[Lit.wf,IntKind.min,IntKind.max,IntKind.signed,IntKind.bits]
  omega)).mono ?_
 rintro e w' ⟨vv,ss,rfl,hp,hown,hb⟩
 have hlen:ss.length=(ss.mergeSort (fun x y=>decide (x≤y))).length:=by rw[List.length_mergeSort]
 obtain⟨A,c,rfl⟩:=fZ hown
 have hlm:=YR hown
 have hmem:∀y,y∈ss.mergeSort (fun x y=>decide (x≤y))↔∃x∈aB b (ak b),stk b x k b.nm gd=y:=fun y=>by
  rw[List.mem_mergeSort,hp.mem_iff]
  obtain⟨es,ee,k1,k2⟩:=CX (fun h=>stk b h k b.nm gd) (aB b (ak b))
  rw[ee]
  constructor
  ·intro hy
   obtain⟨p,hp,rfl⟩:=List.mem_map.1 hy
   obtain⟨x,hx,ep⟩:=k1 p hp
   exact⟨x,hx,by rw[ep];rfl⟩
  ·rintro⟨x,hx,rfl⟩
   obtain⟨p,hp,ep⟩:=k2 x hx
   exact List.mem_map.2 ⟨p,hp,by rw[ep];rfl⟩
 generalize ss.mergeSort (fun x y=>decide (x≤y))=l at hlen hmem hown
 rw[hlen] at hown hlm⊢
 exact⟨l,A,c,rfl,hmem,hlm,eG hown,hb⟩
theorem Ap{b' b:Bk}(h:b'.g=b.g)(s:Nat→Int):∀k,eF b' s k=eF b s k
 | 0=>rfl
 | Nat.succ k=>by
   unfold eF
   rw[Ap h s k,h]
theorem VD{v v':Ht→Int}{L L':List Ht}(hL:L≠[])(hL':L'≠[])(hs:∀x∈L',x∈L)(hv:∀x,v' x=v x):∃l u l' u',bK v L=(l,u,true)∧bK v' L'=(l',u',true)∧l≤l'∧u'≤u:=by
 obtain⟨l,u,e,h1,_⟩:=Dr v hL
 obtain⟨l',u',e',_,⟨p,hp,ep⟩,⟨q,hq,eq⟩⟩:=Dr v' hL'
 refine⟨l,u,l',u',e,e',?_,?_⟩
 ·rw[← ep,hv];exact(h1 p (hs p hp)).1
 ·rw[← eq,hv];exact(h1 q (hs q hq)).2
theorem Lm(b b':Bk)(ok:b.Ok)(ok':b'.Ok)(hcap:b.ng≤b.gc)(CJ:b'.ng≤b'.gc)(hN:NF b' b)(hm:0<(aB b' (ak b')).length)(gd k:Nat)(hgd:gd<b.ng)(hk:(k:Int)≤b.dY):
 ∃ (n m ul uh vl vh:Int) (PX PY:Int→Prop),1≤m∧m≤n∧ul≤vl∧vh≤uh∧(∀y,PY y→PX y)∧
 (∀w,b.At w w.heap.size→CallsIn FF 0 prog 11 #[.agg b.cells] w fun e w'=>e=.returned (.tuple #[int i64 n,int i64 0])∧Below w.heap.size w w')∧
 (∀w,b'.At w w.heap.size→CallsIn FF 0 prog 11 #[.agg b'.cells] w fun e w'=>e=.returned (.tuple #[int i64 m,int i64 0])∧Below w.heap.size w w')∧
 (∀w,b.At w w.heap.size→CallsIn FF 0 prog 19 #[.agg b.cells,int i64 gd,int i64 k] w fun e w'=>∃ (l:List Int) (A:Option Addr) (c:Nat),e=.returned (.tuple #[.slice A l.length c,int i64 0])∧(∀y,y∈l↔PX y)∧l.length≤maxLen∧Ints w' w'.heap.size A l.length (fun i=>l.getD i 0)∧Below w.heap.size w w')∧
 (∀w,b'.At w w.heap.size→CallsIn FF 0 prog 19 #[.agg b'.cells,int i64 gd,int i64 k] w fun e w'=>∃ (l:List Int) (A:Option Addr) (c:Nat),e=.returned (.tuple #[.slice A l.length c,int i64 0])∧(∀y,y∈l↔PY y)∧l.length≤maxLen∧Ints w' w'.heap.size A l.length (fun i=>l.getD i 0)∧Below w.heap.size w w')∧
 (∀w,b.At w w.heap.size→CallsIn FF 0 prog 23 #[.agg b.cells,int i64 k] w fun e w'=>e=.returned (.tuple #[.agg #[int i64 ul,int i64 uh],int i64 0])∧Below w.heap.size w w')∧
 (∀w,b'.At w w.heap.size→CallsIn FF 0 prog 23 #[.agg b'.cells,int i64 k] w fun e w'=>e=.returned (.tuple #[.agg #[int i64 vl,int i64 vh],int i64 0])∧Below w.heap.size w w'):=by
 have hsub:∀x∈aB b' (ak b'),x∈aB b (ak b):=fun x hx=>hN.sub.subset hx
 have hle:=hN.sub.length_le
 have hne':aB b' (ak b')≠[]:=List.length_pos_iff.1 hm
 have hne:aB b (ak b)≠[]:=List.length_pos_iff.1 zo
 obtain⟨ul,uh,vl,vh,e1,e2,k1,k2⟩:=VD (v:=fun h=>eF b (stk b h k b.nm) b.ng) (v':=fun h=>eF b' (stk b' h k b'.nm) b'.ng) hne hne' hsub (fun x=>by
  show eF b' (stk b' x k b'.nm) b'.ng=eF b (stk b x k b.nm) b.ng
  rw[hN.nm,hN.ng,hN.stk,Ap hN.g])
 refine⟨((aB b (ak b)).length:Nat),((aB b' (ak b')).length:Nat),ul,uh,vl,vh,fun y=>∃x∈aB b (ak b),stk b x k b.nm gd=y,fun y=>∃x∈aB b' (ak b'),stk b' x k b'.nm gd=y,zo,zo,k1,k2,?_,?_,?_,?_,?_,?_,?_⟩
 ·rintro y ⟨x,hx,rfl⟩
  exact⟨x,hsub x hx,by rw[hN.nm,hN.stk]⟩
 ·exact fun w h=>gG b w h ok hcap (jg b ok) (sI b ok)
 ·exact fun w h=>gG b' w h ok' CJ (jg b' ok') (sI b' ok')
 ·exact fun w h=>Ij b ok hcap gd k hgd hk hne w h
 ·exact fun w h=>Ij b' ok' CJ gd k (by rw[hN.ng];exact hgd) (by rw[hN.dY];exact hk) hne' w h
 ·intro w h
  have:=ow b k w h ok hcap (jg b ok) hk
  rw[e1] at this
  exact this
 ·intro w h
  have:=ow b' k w h ok' CJ (jg b' ok') (by rw[hN.dY];exact hk)
  rw[e2] at this
  exact this
end
section
open Go.RowKit
attribute [local go_sem] Oper.semAt_some
theorem Yv(P Q:Int→Prop)(lx ly:List Int)(hlx:∀y,y∈lx↔Q y)(Th:∀y,y∈ly↔P y)(h:∀y,P y→Q y):∀i,i<ly.length→hasB lx.length (fun i=>lx.getD i 0) ((fun i=>ly.getD i 0) i)=true:=fun i hi=>(TS _ _).2 ((hlx _).2 (h _ ((Th _).1 (by simp[List.getD,hi]))))
theorem Lp(b b':Bk)(ok:b.Ok)(ok':b'.Ok)(hcap:b.ng≤b.gc)(CJ:b'.ng≤b'.gc)(hN:NF b' b)(hm:0<(aB b' (ak b')).length)(good day:Int)(hg:0≤good∧good≤255)(hdy:0≤day∧day≤255)(w:World)(h:b.At w w.heap.size)(h':b'.At w w.heap.size):
 CallsIn FF 0 prog 12 #[b.val,b'.val,.int .u8 good,.int .u8 day] w fun e w'=>e=.returned (.bool true)∧Below w.heap.size w w':=by
 have o1:=ok.dY
 have o2:=ok.bX.1
 have b1:0≤good % (b.ng:Int)∧good % (b.ng:Int)<b.ng:=⟨Int.emod_nonneg _ zo,Int.emod_lt_of_pos _ zo⟩
 have b2:0≤day % (b.dY+1)∧day % (b.dY+1)<b.dY+1:=⟨Int.emod_nonneg _ zo,Int.emod_lt_of_pos _ zo⟩
 obtain⟨gd,hgd⟩:∃gd:Nat,(gd:Int)=good % (b.ng:Int):=⟨(good % (b.ng:Int)).toNat,zo⟩
 obtain⟨k,hk⟩:∃k:Nat,(k:Int)=day % (b.dY+1):=⟨(day % (b.dY+1)).toNat,zo⟩
 obtain⟨n,m,ul,uh,vl,vh,PX,PY,h1,h2,h3,h4,hP,c1,c2,c3,c4,c5,c6⟩:=Lm b b' ok ok' hcap CJ hN hm gd k zo zo
 have C1:=hid c1
 have C2:=hid c2
 have C3:=hid c3
 have C4:=hid c4
 have C5:=hid c5
 have C6:=hid c6
 have HP:=hid hP
 have HA:=hid h
 have J0:=hid h'
 clear c1 c2 c3 c4 c5 c6 hP h h' ok ok' hcap CJ hN hm
 obtain⟨dY,mO,gA,ng,gc,g,mA,nm,mc,mm,cA,nc,cc,c⟩:=b
 obtain⟨uY,vG,db,eJ,dc,g1,eA,eK,eC,mm1,cN,eI,cU,cs1⟩:=b'
 simp only[Bk.val,Bk.cells] at C1 C2 C3 C4 C5 C6 o1 o2 b1 b2 hgd hk⊢
 have e1:IntKind.i64.wrap good=good:=IntWalk.i64_in _ zo
 have e2:IntKind.i64.wrap day=day:=IntWalk.i64_in _ zo
 have e3:IntKind.i64.wrap (good.tmod ng)=gd:=by rw[Int.tmod_eq_emod_of_nonneg hg.1,hgd];exact IntWalk.i64_in _ zo
 have e4:IntKind.i64.wrap (dY+1)=dY+1:=IntWalk.i64_in _ zo
 have e5:IntKind.i64.wrap (day.tmod (dY+1))=k:=by rw[Int.tmod_eq_emod_of_nonneg hdy.1,hk];exact IntWalk.i64_in _ zo
 have EIN:gK m 1 n=true:=by unfold gK;simp;omega
 have HIN:=hid (fun(w:World)=>EIN ▸ nU m 1 n w)
 clear EIN
 have z1:((ng:Int) == 0)=false:=zm
 have z2:(dY+1 == 0)=false:=zm
 have z3:¬ ((ng:Int)=0):=zo
 have z4:¬ (dY+1=0):=zo
 have LF:=hid hgd.symm
 have fy:=hid hk.symm
 clear hgd hk b1 b2
 obtain⟨w1,hw1⟩:∃w1,w1=(w.alloc (.cells #[int i64 dY,int i64 mO,.slice gA ng gc,.slice mA nm mc,.slice cA nc cc] 26)).alloc (.cells #[int i64 uY,int i64 vG,.slice db eJ dc,.slice eA eK eC,.slice cN eI cU] 26):=zE
 have BB0:Hid (Below w.heap.size w w1):=hid (by rw[hw1];exact bw)
 have X0:Hid (Whole w1 w.heap.size 26 #[int i64 dY,int i64 mO,.slice gA ng gc,.slice mA nm mc,.slice cA nc cc]):=hid (by rw[hw1];exact(Whole.new _ _ _).alloc _)
 have Y0:Hid (Whole w1 (w.heap.size+1) 26 #[int i64 uY,int i64 vG,.slice db eJ dc,.slice eA eK eC,.slice cN eI cU]):=hid (by rw[hw1];exact aL zs)
 have ku:=hid hw1
 clear hw1
 gi_enter func12,ntmps12
 gi_wp2
 rw[← ku.out]
 have x0:∀o,w1.cell? ⟨w.heap.size,o,none⟩=(#[int i64 dY,int i64 mO,.slice gA ng gc,.slice mA nm mc,.slice cA nc cc]:Array Value)[o]?:=fun o=>X0.out.cell o
 gi_quiet (fail)
 clear x0
 obtain⟨w2,hw2⟩:∃w2,w2=w1.drewN nq:=zE
 have hb2:Below w1.heap.size w1 w2:=by rw[hw2];exact below_drewN zB _
 rw[← hw2]
 clear hw2
 have pH:=hid (BB0.out.trans (hb2.mono BB0.out.size));have X2:=hid (X0.out.below hb2 X0.out.lt);have Y2:=hid (Y0.out.below hb2 Y0.out.lt);have x0:w2.cell? ⟨w.heap.size,0,none⟩=some (int i64 dY):=X2.out.cell 0;have x1:w2.cell? ⟨w.heap.size,1,none⟩=some (int i64 mO):=X2.out.cell 1;have x2:w2.cell? ⟨w.heap.size,2,none⟩=some (.slice gA ng gc):=X2.out.cell 2;have x3:w2.cell? ⟨w.heap.size,3,none⟩=some (.slice mA nm mc):=X2.out.cell 3;have x4:w2.cell? ⟨w.heap.size,4,none⟩=some (.slice cA nc cc):=X2.out.cell 4;have y0:w2.cell? ⟨w.heap.size+1,0,none⟩=some (int i64 uY):=Y2.out.cell 0;have y1:w2.cell? ⟨w.heap.size+1,1,none⟩=some (int i64 vG):=Y2.out.cell 1;have y2:w2.cell? ⟨w.heap.size+1,2,none⟩=some (.slice db eJ dc):=Y2.out.cell 2;have y3:w2.cell? ⟨w.heap.size+1,3,none⟩=some (.slice eA eK eC):=Y2.out.cell 3;have y4:w2.cell? ⟨w.heap.size+1,4,none⟩=some (.slice cN eI cU):=Y2.out.cell 4
 try rw[LF.out]
 try rw[fy.out]
 clear e1 e2 e3 e4 e5 z1 z2 z3 z4 hb2
 gi_wp2_with (first
  | (gi_at_call 11;refine(C1.out _ (HA.out.up pH.out)).mono ?_;rintro e w3 ⟨rfl,hb3⟩;clear C1;clear x0 x1 x2 x3 x4 y0 y1 y2 y3 y4;have RB:=hid (pH.out.trans (hb3.mono pH.out.size));have X3:=hid (X2.out.below hb3 X2.out.lt);have Y3:=hid (Y2.out.below hb3 Y2.out.lt);have x0:w3.cell? ⟨w.heap.size,0,none⟩=some (int i64 dY):=X3.out.cell 0;have x1:w3.cell? ⟨w.heap.size,1,none⟩=some (int i64 mO):=X3.out.cell 1;have x2:w3.cell? ⟨w.heap.size,2,none⟩=some (.slice gA ng gc):=X3.out.cell 2;have x3:w3.cell? ⟨w.heap.size,3,none⟩=some (.slice mA nm mc):=X3.out.cell 3;have x4:w3.cell? ⟨w.heap.size,4,none⟩=some (.slice cA nc cc):=X3.out.cell 4;have y0:w3.cell? ⟨w.heap.size+1,0,none⟩=some (int i64 uY):=Y3.out.cell 0;have y1:w3.cell? ⟨w.heap.size+1,1,none⟩=some (int i64 vG):=Y3.out.cell 1;have y2:w3.cell? ⟨w.heap.size+1,2,none⟩=some (.slice db eJ dc):=Y3.out.cell 2;have y3:w3.cell? ⟨w.heap.size+1,3,none⟩=some (.slice eA eK eC):=Y3.out.cell 3;have y4:w3.cell? ⟨w.heap.size+1,4,none⟩=some (.slice cN eI cU):=Y3.out.cell 4)
  | (gi_at_call 11;refine(C2.out _ (J0.out.up RB.out)).mono ?_;rintro e w4 ⟨rfl,hb4⟩;clear C2;clear x0 x1 x2 x3 x4 y0 y1 y2 y3 y4;have rS:=hid (RB.out.trans (hb4.mono RB.out.size));have X4:=hid (X3.out.below hb4 X3.out.lt);have Y4:=hid (Y3.out.below hb4 Y3.out.lt);have x0:w4.cell? ⟨w.heap.size,0,none⟩=some (int i64 dY):=X4.out.cell 0;have x1:w4.cell? ⟨w.heap.size,1,none⟩=some (int i64 mO):=X4.out.cell 1;have x2:w4.cell? ⟨w.heap.size,2,none⟩=some (.slice gA ng gc):=X4.out.cell 2;have x3:w4.cell? ⟨w.heap.size,3,none⟩=some (.slice mA nm mc):=X4.out.cell 3;have x4:w4.cell? ⟨w.heap.size,4,none⟩=some (.slice cA nc cc):=X4.out.cell 4;have y0:w4.cell? ⟨w.heap.size+1,0,none⟩=some (int i64 uY):=Y4.out.cell 0;have y1:w4.cell? ⟨w.heap.size+1,1,none⟩=some (int i64 vG):=Y4.out.cell 1;have y2:w4.cell? ⟨w.heap.size+1,2,none⟩=some (.slice db eJ dc):=Y4.out.cell 2;have y3:w4.cell? ⟨w.heap.size+1,3,none⟩=some (.slice eA eK eC):=Y4.out.cell 3;have y4:w4.cell? ⟨w.heap.size+1,4,none⟩=some (.slice cN eI cU):=Y4.out.cell 4)
  | (gi_at_call 19;refine(C3.out _ (HA.out.up rS.out)).mono ?_;rintro e w5 ⟨lx,Ax,cx,rfl,hlx,hmx,hix,hb5⟩;clear C3;clear x0 x1 x2 x3 x4 y0 y1 y2 y3 y4;have IN:=hid (rS.out.trans (hb5.mono rS.out.size));have X5:=hid (X4.out.below hb5 X4.out.lt);have Y5:=hid (Y4.out.below hb5 Y4.out.lt);have x0:w5.cell? ⟨w.heap.size,0,none⟩=some (int i64 dY):=X5.out.cell 0;have x1:w5.cell? ⟨w.heap.size,1,none⟩=some (int i64 mO):=X5.out.cell 1;have x2:w5.cell? ⟨w.heap.size,2,none⟩=some (.slice gA ng gc):=X5.out.cell 2;have x3:w5.cell? ⟨w.heap.size,3,none⟩=some (.slice mA nm mc):=X5.out.cell 3;have x4:w5.cell? ⟨w.heap.size,4,none⟩=some (.slice cA nc cc):=X5.out.cell 4;have y0:w5.cell? ⟨w.heap.size+1,0,none⟩=some (int i64 uY):=Y5.out.cell 0;have y1:w5.cell? ⟨w.heap.size+1,1,none⟩=some (int i64 vG):=Y5.out.cell 1;have y2:w5.cell? ⟨w.heap.size+1,2,none⟩=some (.slice db eJ dc):=Y5.out.cell 2;have y3:w5.cell? ⟨w.heap.size+1,3,none⟩=some (.slice eA eK eC):=Y5.out.cell 3;have y4:w5.cell? ⟨w.heap.size+1,4,none⟩=some (.slice cN eI cU):=Y5.out.cell 4)
  | (gi_at_call 19;refine(C4.out _ (J0.out.up IN.out)).mono ?_;rintro e w6 ⟨ly,Ay,cy,rfl,Th,hmy,hiy,hb6⟩;clear C4;clear x0 x1 x2 x3 x4 y0 y1 y2 y3 y4;have IP:=hid (IN.out.trans (hb6.mono IN.out.size));have X6:=hid (X5.out.below hb6 X5.out.lt);have Y6:=hid (Y5.out.below hb6 Y5.out.lt);have x0:w6.cell? ⟨w.heap.size,0,none⟩=some (int i64 dY):=X6.out.cell 0;have x1:w6.cell? ⟨w.heap.size,1,none⟩=some (int i64 mO):=X6.out.cell 1;have x2:w6.cell? ⟨w.heap.size,2,none⟩=some (.slice gA ng gc):=X6.out.cell 2;have x3:w6.cell? ⟨w.heap.size,3,none⟩=some (.slice mA nm mc):=X6.out.cell 3;have x4:w6.cell? ⟨w.heap.size,4,none⟩=some (.slice cA nc cc):=X6.out.cell 4;have y0:w6.cell? ⟨w.heap.size+1,0,none⟩=some (int i64 uY):=Y6.out.cell 0;have y1:w6.cell? ⟨w.heap.size+1,1,none⟩=some (int i64 vG):=Y6.out.cell 1;have y2:w6.cell? ⟨w.heap.size+1,2,none⟩=some (.slice db eJ dc):=Y6.out.cell 2;have y3:w6.cell? ⟨w.heap.size+1,3,none⟩=some (.slice eA eK eC):=Y6.out.cell 3;have y4:w6.cell? ⟨w.heap.size+1,4,none⟩=some (.slice cN eI cU):=Y6.out.cell 4;have IX6:=hid (bG hix hb6);have IY6:=hid hiy)
  | (gi_at_call 23;refine(C5.out _ (HA.out.up IP.out)).mono ?_;rintro e w7 ⟨rfl,vo⟩;clear C5;have TV:Below w6.heap.size w6 (w7.alloc (.cells #[int i64 ul,int i64 uh] 28)):=vo.alloc vo.size _;clear x0 x1 x2 x3 x4 y0 y1 y2 y3 y4;have IS:=hid (IP.out.trans (TV.mono IP.out.size));have X7:=hid (X6.out.below TV X6.out.lt);have Y7:=hid (Y6.out.below TV Y6.out.lt);have x0:(w7.alloc (.cells #[int i64 ul,int i64 uh] 28)).cell? ⟨w.heap.size,0,none⟩=some (int i64 dY):=X7.out.cell 0;have x1:(w7.alloc (.cells #[int i64 ul,int i64 uh] 28)).cell? ⟨w.heap.size,1,none⟩=some (int i64 mO):=X7.out.cell 1;have x2:(w7.alloc (.cells #[int i64 ul,int i64 uh] 28)).cell? ⟨w.heap.size,2,none⟩=some (.slice gA ng gc):=X7.out.cell 2;have x3:(w7.alloc (.cells #[int i64 ul,int i64 uh] 28)).cell? ⟨w.heap.size,3,none⟩=some (.slice mA nm mc):=X7.out.cell 3;have x4:(w7.alloc (.cells #[int i64 ul,int i64 uh] 28)).cell? ⟨w.heap.size,4,none⟩=some (.slice cA nc cc):=X7.out.cell 4;have y0:(w7.alloc (.cells #[int i64 ul,int i64 uh] 28)).cell? ⟨w.heap.size+1,0,none⟩=some (int i64 uY):=Y7.out.cell 0;have y1:(w7.alloc (.cells #[int i64 ul,int i64 uh] 28)).cell? ⟨w.heap.size+1,1,none⟩=some (int i64 vG):=Y7.out.cell 1;have y2:(w7.alloc (.cells #[int i64 ul,int i64 uh] 28)).cell? ⟨w.heap.size+1,2,none⟩=some (.slice db eJ dc):=Y7.out.cell 2;have y3:(w7.alloc (.cells #[int i64 ul,int i64 uh] 28)).cell? ⟨w.heap.size+1,3,none⟩=some (.slice eA eK eC):=Y7.out.cell 3;have y4:(w7.alloc (.cells #[int i64 ul,int i64 uh] 28)).cell? ⟨w.heap.size+1,4,none⟩=some (.slice cN eI cU):=Y7.out.cell 4;have U7:=hid (Whole.new w7 28 #[int i64 ul,int i64 uh]))
  | (gi_at_call 23;refine(C6.out _ (J0.out.up IS.out)).mono ?_;rintro e w8 ⟨rfl,CF⟩;clear C6;clear x0 x1 x2 x3 x4 y0 y1 y2 y3 y4;have Yi:Below (w7.alloc (.cells #[int i64 ul,int i64 uh] 28)).heap.size (w7.alloc (.cells #[int i64 ul,int i64 uh] 28)) (w8.alloc (.cells #[int i64 vl,int i64 vh] 28)):=CF.alloc CF.size _;have pL:=hid (IS.out.trans (Yi.mono IS.out.size));have IX9:=hid (bG (bG IX6.out TV) Yi);have IY9:=hid (bG (bG IY6.out TV) Yi);have U9:=U7.out.below Yi U7.out.lt;have V9:=Whole.new w8 28 #[int i64 vl,int i64 vh];have p0:=U9.cell 0;have p1:=U9.cell 1;have p2:=V9.cell 0;have p3:=V9.cell 1;have q1:decide (vl≥ul)=true:=decide_eq_true h3;have q2:decide (vh≤uh)=true:=decide_eq_true h4;clear U9 V9)
  | (gi_at_call 40;refine(HIN.out _).mono ?_;rintro e w' ⟨rfl,rfl⟩;have hins:=Yv PY PX lx ly hlx Th HP.out)
  | (gi_at_call 41;refine(KT Ay Ax ly.length cy lx.length cx _ _ _ _ IY9.out IX9.out hmy hmx hins).mono ?_;rintro e w' ⟨rfl,rfl⟩))
 all_goals (go_ret;exact⟨rfl,pL.out⟩)
end
section
open Go.RowKit
def WO:Bk:=⟨0,0,none,0,0,fun _=>⟨.empty,0,0,0,0⟩,none,0,0,fun _=>⟨0,0,0,0,0⟩,none,0,0,fun _=>⟨0,0,0,0⟩⟩
theorem uN(w:World):CallsIn FF 0 prog 9 #[.agg #[int i64 0,int i64 0,.slice none 0 0,.slice none 0 0,.slice none 0 0],.agg #[int i64 0,int i64 0,.slice none 0 0,.slice none 0 0,.slice none 0 0]] w fun e w'=>e=.returned (.bool true)∧Below w.heap.size w w':=
 have h:WO.At w w.heap.size:=⟨fun h=>absurd h (Nat.lt_irrefl 0),fun h=>absurd h (Nat.lt_irrefl 0),fun h=>absurd h (Nat.lt_irrefl 0),Nat.zero_le _,Nat.zero_le _,Nat.zero_le _,fun _ h=>absurd h (Nat.not_lt_zero _)⟩
 Vs WO none 0 none 0 none 0 w h h
theorem Qk(b:Bk)(i:Nat)(cl ch:Int)(G:Option Addr)(gc:Nat)(A:Option Addr)(k:Nat)(C:Option Addr)(cc:Nat)(A':Option Addr)(k':Nat)(w:World)(h:(b.told i cl ch G gc A k C cc).At w w.heap.size)(h':(b.told i cl ch b.gA b.gc A' k' b.cA b.cc).At w w.heap.size):
 CallsIn FF 0 prog 9 #[.agg #[int i64 b.dY,int i64 b.mO,.slice G b.ng gc,.slice A b.nm k,.slice C b.nc cc],.agg #[int i64 b.dY,int i64 b.mO,.slice b.gA b.ng b.gc,.slice A' b.nm k',.slice b.cA b.nc b.cc]] w fun e w'=>e=.returned (.bool true)∧Below w.heap.size w w':=
 Vs (b.told i cl ch G gc A k C cc) b.gA b.gc A' k' b.cA b.cc w h h'
theorem Pw(b:Bk)(ok:b.Ok)(hcap:b.ng≤b.gc)(i:Nat)(hi:i<b.nm)(cl ch:Int)(h1:(b.m i).lo≤cl)(h2:ch≤(b.m i).hi)(h3:cl≤ch):∃nH:Nat,(b.nX i cl ch=true↔nH=0)∧∀ (A:Option Addr) (k:Nat) (w:World),(b.told i cl ch b.gA b.gc A k b.cA b.cc).At w w.heap.size→
 CallsIn FF 0 prog 11 #[.agg #[int i64 b.dY,int i64 b.mO,.slice b.gA b.ng b.gc,.slice A b.nm k,.slice b.cA b.nc b.cc]] w fun e w'=>e=.returned (.tuple #[int i64 nH,int i64 0])∧Below w.heap.size w w':=by
 refine⟨(aB (b.told i cl ch none 0 none 0 none 0) (ak (b.told i cl ch none 0 none 0 none 0))).length,by unfold Bk.nX;rw[List.isEmpty_iff,← List.length_eq_zero_iff],fun A k w h=>?_⟩
 have ok':=Fv b i cl ch b.gA b.gc A k b.cA b.cc ok hi h1 h2 h3
 have:=gG _ w h ok' hcap (jg _ ok') (sI _ ok')
 rw[Fw b b.gA b.gc A k b.cA b.cc i cl ch none 0 none 0 none 0] at this
 exact this
theorem Bv(b:Bk)(ok:b.Ok)(hcap:b.ng≤b.gc)(i:Nat)(hi:i<b.nm)(cl ch:Int)(h1:(b.m i).lo≤cl)(h2:ch≤(b.m i).hi)(h3:cl≤ch)(ht:b.nX i cl ch=false)(good day:Int)(hg:0≤good∧good≤255)(hdy:0≤day∧day≤255)
 (G:Option Addr)(gc:Nat)(A:Option Addr)(k:Nat)(C:Option Addr)(cc:Nat)(hgc:b.ng≤gc)(w:World)(h:b.At w w.heap.size)(h':(b.told i cl ch G gc A k C cc).At w w.heap.size):
 CallsIn FF 0 prog 12 #[.agg b.cells,.agg #[int i64 b.dY,int i64 b.mO,.slice G b.ng gc,.slice A b.nm k,.slice C b.nc cc],.int .u8 good,.int .u8 day] w fun e w'=>e=.returned (.bool true)∧Below w.heap.size w w':=by
 refine Lp b (b.told i cl ch G gc A k C cc) ok (Fv b i cl ch G gc A k C cc ok hi h1 h2 h3) hcap hgc (Wy b i cl ch G gc A k C cc h1 h2 h3) ?_ good day hg hdy w h h'
 rw[Fw b G gc A k C cc i cl ch none 0 none 0 none 0]
 unfold Bk.nX at ht
 cases hL:aB (b.told i cl ch none 0 none 0 none 0) (ak (b.told i cl ch none 0 none 0 none 0)) with
 | nil=>rw[hL] at ht;cases ht
 | cons x l=>simp
end
end Go.Proofs.YtpmafoalhnaokaaGreat
