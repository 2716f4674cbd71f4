/- HN HX HO -/
import Derived.Test.YthaelabgfnnebaaGreatB1
import Derived.Maps.OwnIn
import Derived.Maps.OwnSet
set_option maxRecDepth 100000
set_option maxHeartbeats 16000000
set_option linter.unusedVariables false
set_option linter.unusedSectionVars false
open Go.IntKind(i64)
open Go.Lib(hid)
open Go.Proofs.Tryz
open Go.Value(int)
namespace Go.Proofs.YthaelabgfnnebaaGreat
section
open Go.RowKit Go.Maps
open Go.Sort (grow)
attribute [local go_sem] Oper.semAt_some
def mapD(v:Ht→Int)(pre:List Ht):DataW Unit:=pre.foldl (fun D h=>D.put (.int .i64 (v h)) (.lit (.bool true))) (.map [])
theorem AQ(v:Ht→Int)(pre:List Ht)(h:Ht):mapD v (pre ++ [h])=(mapD v pre).put (.int .i64 (v h)) (.lit (.bool true)):=by unfold mapD;rw[List.foldl_append];rfl
theorem bH{H:Type}{P:Program}{k:TypeId}{R:Value→Option (DataW H × List MemPlace)}{w w':World}{b n:Nat}{D:DataW H}(h:w.ownsMap P k R b n D)(e:w'.heap[b]? =w.heap[b]?):w'.ownsMap P k R b n D:=by
 obtain⟨es,clock,hb,rest⟩:=h
 exact⟨es,clock,e.trans hb,rest⟩
theorem bN{F:Fence}{n:Nat}{P:Program}{fn:Func}{tmps:Array Value}{R:Ending→World→Prop}{lo:Nat}:∀ {ds:List Deferred} {hi:Nat} {W:World},Marks lo hi ds W→
 (∀B,Keeps (fun b=>lo≤b∧b<hi) W B→∃v,(results fn tmps).run P B=.ok v B∧R (.returned v) B)→LeavesInM F n P fn tmps R ds .returning W
 | [],_,W,_,hR=>hR W (Keeps.refl _ _)
 | _ :: ds,hi,W,h,hR=>by
   obtain⟨r,rfl,h1,h2,h3,h4⟩:=h
   have hk:Keeps (fun b=>lo≤b∧b<hi) W (W.putObj r (.deferred none)):=⟨rfl,rfl,rfl,by simp[World.putObj],fun b _ hc=>World.putObj_heap_other (fun e=>hc (e ▸ ⟨h1,h2⟩))⟩
   refine⟨zs,.inl ⟨_,_,rfl,run_takeDeferred h3,?_⟩⟩
   exact bN (h4.of fun x _ hx2=>World.putObj_heap_other zo) (fun B hB=>hR B (hk.trans (hB.more fun b _ hb=>⟨hb.1,zo⟩)))
theorem Bj(gf:Nat)(lb:Array Value)(g:Nat)(lg:Array Value)(v:Ht→Int)(xs:List Ht)(w:World)(hlen:xs.length<2 ^ 40)(hsz:0<Maps.size (mapD v xs))(hwf:∀h∈xs,(Lit.int .i64 (v h)).wf=true)(h:oF FF gf lb xs w)(hg:rX FF g lg xs (fun h=>int i64 (v h)) w):
 CallsIn FF 0 prog 39 #[.func (.func gf) #[] lb,.func (.func g) #[] lg] w fun e w'=>∃ (vv:Value) (ss:List Int),e=.returned (.tuple #[vv,int i64 0])∧ss.Perm (intKeys (mapD v xs))∧w'.ownsRow w.heap.size 3 1 vv ss.length ((ss.mergeSort (fun x y=>decide (x≤y))).map encZ)∧Below w.heap.size w w':=by
 obtain⟨hfn,FB,hit⟩:=h
 have HIT:=hid hit
 have KI:=hid FB
 obtain⟨hgf,hge,hgc⟩:=hg
 rw[qm] at hgf
 have HG:=hid hgc
 have S5:=hid hwf
 clear hit FB hgc hwf
 have hmm:=@run_makeMap prog
 refine callsIn_of_wp_marks func39 rfl zs ?_ rfl
 simp only[ntmps39,List.size_toArray,List.length_cons,List.length_nil,Nat.reduceAdd,Nat.reduceSub,Array.replicate_succ,Array.replicate_zero,List.push_toArray,List.append_toArray,List.nil_append,List.cons_append]
 gi_wp2
 obtain⟨wa,FH⟩:∃wa,wa=w.alloc (.cells #[.func (.func g) #[] lg] 93):=⟨_,rfl⟩
 obtain⟨wb,hwb⟩:∃wb,wb=wa.alloc (.map #[] 0):=⟨_,rfl⟩
 obtain⟨w1,hw1⟩:∃w1,w1=wb.alloc (.cells #[.map (some (w.heap.size+1))] 115):=⟨_,rfl⟩
 have sa:wa.heap.size=w.heap.size+1:=by rw[FH];simp
 have sb:wb.heap.size=w.heap.size+1+1:=by rw[hwb];simp[sa]
 have hs1:w1.heap.size=w.heap.size+3:=by rw[hw1];simp[sb]
 have B1:Hid (Below w.heap.size w w1):=hid (by rw[hw1,hwb,FH];exact bw)
 have F1:Hid (Whole w1 w.heap.size 93 #[.func (.func g) #[] lg]):=hid (by rw[hw1,hwb,FH];exact((Whole.new _ _ _).alloc _).alloc _)
 have M1:Hid (Whole w1 (w.heap.size+1+1) 115 #[.map (some (w.heap.size+1))]):=hid (by rw[← sb,hw1];exact Whole.new _ _ _)
 have O1:Hid (w1.ownsMap prog 3 (plainElem prog 4) (w.heap.size+1) 0 (mapD v [])):=hid (by
  have:=(World.ownsMap_made (H:=Unit) wa prog 3 (plainElem prog 4)).alloc (.cells #[.map (some (w.heap.size+1))] 115)
  rw[sa] at this;rw[hw1,hwb];exact this)
 try rw[← FH,← hwb,← hw1]
 clear hw1 FH hwb sa sb
 clear hmm
 obtain⟨CC,Ld⟩:∃CC:Nat→Prop,CC=fun x=>x=w.heap.size+1:=⟨_,rfl⟩
 have kY:∀x,CC x↔x=w.heap.size+1:=fun x=>by rw[Ld]
 clear Ld
 refine gB (C:=CC) rfl rfl (gf:=gf) (lb:=lb) rfl hfn KI.out (encs:=fun h:Ht=>#[h.val]) (xs:=xs)
  (fun x hx=>by have:=(kY x).1 hx;omega) ?hseq (fun _=>rfl) (fun pre W'=>Hid (Whole W' w.heap.size 93 #[.func (.func g) #[] lg]∧Whole W' (w.heap.size+1+1) 115 #[.map (some (w.heap.size+1))]∧W'.ownsMap prog 3 (plainElem prog 4) (w.heap.size+1) pre.length (mapD v pre))) (fun c pre W'=>False)
  (fun pre A B h hb=>hid ⟨h.out.1.below hb zo,h.out.2.1.below hb zo,bH h.out.2.2 (hb.block _ zo)⟩) (fun c pre A B h hb=>h.elim) (hid ⟨F1.out,M1.out,O1.out⟩) ?fD ?hdone ?hstop
 case hseq=>exact fun W2 hb2 hs2=>HIT.out _ W2 (B1.out.trans (hb2.mono B1.out.size)) fun x hx=>by rw[kY] at hx;omega
 case fD=>
  intro l' pre h A hl' hpre hj hk hsz hrec
  have hsn:=AQ v pre h
  have hwf:=S5.out h (eu hpre)
  obtain⟨D',hD'⟩:∃D',D'=mapD v (pre ++ [h]):=⟨_,rfl⟩
  obtain⟨D,hD⟩:∃D,D=mapD v pre:=⟨_,rfl⟩
  obtain⟨vh,YP⟩:∃vh,vh=v h:=⟨_,rfl⟩
  rw[← hD',← hD,← YP] at hsn
  rw[← hD']
  rw[← hD] at hj
  rw[← YP] at hwf
  have Ve:=fun W hW=>HG.out W h (eu hpre) hW
  rw[← YP] at Ve
  have hpl:(pre ++ [h]).length=pre.length+1:=zs
  have Bm:=iB hpre
  rw[hpl]
  clear YP hD' hD hpl
  obtain⟨hf,hmm,tT⟩:=h
  simp only[Ht.val,Ht.cells]
  simp only[Ht.val,Ht.cells] at Ve
  gi_wp2
  refine⟨bw,fun W2 hS=>?_⟩
  have nZ:Below (w.heap.size+3) A W2:=((Below.refl _ A).alloc zo _).trans (hS.below zo)
  have X2:Whole W2 A.heap.size 88 (⟨hf,hmm,tT⟩:Ht).cells:=(Whole.new A _ _).of (hS.block _ zo)
  have F2:=hid (hj.out.1.below nZ zo)
  have M2:=hid (hj.out.2.1.below nZ zo)
  have O2:=hid (bH hj.out.2.2 (nZ.block _ zo))
  have hlt2:=O2.out.lt
  have q0:∀d os,(grow (redrawn W2 d) os).cell? ⟨w.heap.size,0,none⟩=some (.func (.func g) #[] lg):=cell_regrown (F2.out.cell 0)
  have q6:∀d os,(grow (redrawn W2 d) os).cell? ⟨w.heap.size+1+1,0,none⟩=some (.map (some (w.heap.size+1))):=cell_regrown (M2.out.cell 0)
  have x0:∀d os,(grow (redrawn W2 d) os).cell? ⟨A.heap.size,0,none⟩=some (int i64 (hf 0)):=cell_regrown (X2.cell 0)
  have x1:∀d os,(grow (redrawn W2 d) os).cell? ⟨A.heap.size,1,none⟩=some (int i64 (hf 1)):=cell_regrown (X2.cell 1)
  have x2:∀d os,(grow (redrawn W2 d) os).cell? ⟨A.heap.size,2,none⟩=some (int i64 (hf 2)):=cell_regrown (X2.cell 2)
  have x3:∀d os,(grow (redrawn W2 d) os).cell? ⟨A.heap.size,3,none⟩=some (int i64 (hmm 0)):=cell_regrown (X2.cell 3)
  have x4:∀d os,(grow (redrawn W2 d) os).cell? ⟨A.heap.size,4,none⟩=some (int i64 (hmm 1)):=cell_regrown (X2.cell 4)
  have x5:∀d os,(grow (redrawn W2 d) os).cell? ⟨A.heap.size,5,none⟩=some (int i64 (hmm 2)):=cell_regrown (X2.cell 5)
  have x6:∀d os,(grow (redrawn W2 d) os).cell? ⟨A.heap.size,6,none⟩=some (int i64 (hmm 3)):=cell_regrown (X2.cell 6)
  have x7:∀d os,(grow (redrawn W2 d) os).cell? ⟨A.heap.size,7,none⟩=some (int i64 (hmm 4)):=cell_regrown (X2.cell 7)
  have x8:∀d os,(grow (redrawn W2 d) os).cell? ⟨A.heap.size,8,none⟩=some (int i64 (hmm 5)):=cell_regrown (X2.cell 8)
  have x9:∀d os,(grow (redrawn W2 d) os).cell? ⟨A.heap.size,9,none⟩=some (int i64 tT):=cell_regrown (X2.cell 9)
  have hBW:Below w.heap.size w W2:=(B1.out.trans (hk.below (n:=w.heap.size) (fun b hb hc=>by have:=(kY b).1 hc;omega) zo)).trans (nZ.mono zo)
  have cG:∀d os,CallsIn FF 0 prog g (#[.agg #[int i64 (hf 0),int i64 (hf 1),int i64 (hf 2),int i64 (hmm 0),int i64 (hmm 1),int i64 (hmm 2),int i64 (hmm 3),int i64 (hmm 4),int i64 (hmm 5),int i64 tT]] ++ lg) (grow (redrawn W2 d) os) fun e w''=>e=.returned (int i64 vh)∧∃p:Regrown,w''=grow (redrawn W2 p.d) p.os:=fun d os=>CallsIn.regrown_of (Ve _ (hBW.trans ((below_regrown W2 d os).mono (Nat.le_trans (Nat.le_refl _) hBW.size))))
  have Yi:=hid hsn
  have S8:=hid hwf
  have my:=fun d os=>(below_regrown W2 d os)
  have tH:=hid my
  clear X2 nZ Ve hsn hwf hBW my
  gi_wp2
  refine kX 4 rfl zk zk zk ?_
  repeat (quiet_step_in (exact cG _ _))
  refine wpQuietIn_nil ?_
  rintro w' ⟨⟨dq,osq⟩,rfl⟩
  have bg:=tH.out dq osq
  clear q0 q6 x0 x1 x2 x3 x4 x5 x6 x7 x8 x9 cG
  have O9:=bH O2.out (bg.block _ hlt2)
  have F9:=F2.out.below bg F2.out.lt
  have M9:=M2.out.below bg M2.out.lt
  simp only at O9 F9 M9 bg⊢
  generalize grow (redrawn W2 dq) osq=w9 at bg O9 F9 M9⊢
  refine wpListIn_mapUpdate_own _ rfl _ _ _ 115 rfl 3 4 (int_keyed underlying3) underlying115 (plainElem prog 4) (w.heap.size+1) pre.length D rfl O9 zU _ _ (.int .i64 vh) rfl rfl (keyOf_int_mk underlying3 S8.out) (.lit (.bool true)) [] (plainElem_bool underlying4 true) ?_
  intro w10 bt uV
  have hs9:=bg.size
  have hbg:=below_grown (B:=w.heap.size+1) uV zo (fun g hg=>by cases hg;omega)
  have hkk:Keeps CC W2 w10:=(Keeps.bG bg).trans ⟨hbg.os,hbg.tape,hbg.output,hbg.size,fun b hb hc=>uV.block b hb (by intro e;cases e;exact hc ((kY _).2 rfl))⟩
  gi_wp2
  exact⟨hkk,hid ⟨F9.grown uV zs,M9.grown uV zs,by rw[Yi.out];exact bt⟩⟩
 case hdone=>
  intro W' hj hk hm
  have c6:W'.cell? ⟨w.heap.size+1+1,0,none⟩=some (.map (some (w.heap.size+1))):=hj.out.2.1.cell 0
  have hms:Marks w1.heap.size (w1.heap.size+1) [{target:=.collected w1.heap.size,args:=#[] }] W':=⟨_,rfl,Nat.le_refl _,Nat.lt_succ_self _,hm,trivial⟩
  have Ql:=hid hms
  have Es:Hid (Below w.heap.size w W'):=hid (B1.out.trans (hk.below (n:=w.heap.size) (fun b hb hc=>by have:=(kY b).1 hc;omega) zo))
  have hsl:=hj.out.2.2.size_le
  obtain⟨N,hN⟩:∃N,N=Maps.size (mapD v xs):=⟨_,rfl⟩
  have HL:∀ty,(Builtin.len_ #[115] ty #[.map (some (w.heap.size+1))]).run prog W'=.ok (int i64 N) W':=fun ty=>by rw[hN];exact hj.out.2.2.len underlying115 ty
  have HO:=hid hj.out.2.2
  rw[← hN] at hsz hsl
  have hn0:¬ N=0:=zo
  have HN:=hid hN
  have hm1:w1.heap.size<W'.heap.size:=(Array.getElem?_eq_some_iff.1 hm).1
  have hlo:=HO.out.lt
  have HK:=hid (VP (some (w.heap.size+1)) W')
  have HS:=hid (Ol (w.heap.size+1) xs.length (mapD v xs) (plainElem prog 4) W'.heap.size (W'.alloc (.cells #[.map (some (w.heap.size+1))] 115)) (Whole.new _ _ _) (HO.out.alloc _) (by rw[← HN.out];unfold maxLen;omega) (by rw[← HN.out];omega))
  clear hj hms hm hk hN
  simp only[Exit.inBlock,Exit.then]
  go_at_K
  gi_wp2_with (first
   | (gi_at_call 75;refine HK.out.mono ?_;rintro e w3 ⟨rfl,rfl⟩)
   | (gi_at_call 74;refine HS.out.mono ?_;rintro e w4 ⟨vv,ss,rfl,hss,hrow,-,hb4⟩))
  have hs4:=hb4.size
  simp only[World.size_alloc] at hs4
  have hms:=Ql.out
  rw[hs1] at hms hm1
  have Bi:Marks (w.heap.size+3) (w.heap.size+3+1) [{target:=.collected (w.heap.size+3),args:=#[] }] w4:=hms.of fun r h1 h2=>(hb4.block r zm).trans (Below.heap_alloc _ _ _ zo)
  have Cr:Below w.heap.size w w4:=Below.next (Below.al Es.out _) hb4
  refine bN Bi (fun B hB=>⟨_,results_tmp2 rfl _ _ _,vv,ss,rfl,hss,dX (jO hrow fun g hg hl=>hB.block g hl (fun hc=>by have:=(dF hrow hg).1;simp at this;omega)) (by have:=Es.out.size;simp;omega),Cr.trans (hB.below (n:=w.heap.size) (fun b hb hc=>zo) Cr.size)⟩)
 case hstop=>
  rintro c pre W' hpre hx hk hm
  exact hx.elim
end
section
open Go.RowKit
open Go.Sort (grow)
attribute [local go_sem] Oper.semAt_some
theorem Tk{lo:Int}{k:Nat}{n:Int}(h:n∈bf lo k):lo≤n∧n<lo+k:=by
 unfold bf at h
 obtain⟨i,hi,rfl⟩:=List.mem_map.1 h
 have:=List.mem_range.1 hi
 omega
theorem KY(b:Bk)(ok:ji b):∀ (n k:Nat) (h:Ht) (s:Nat→Int) (x:Ht),k+n≤b.nm→oD h→x∈fJ b n k h s→oD x
 | 0,k,h,s,x,_,hh,hx=>by
   simp only[fJ] at hx
   split at hx
   ·obtain rfl:x=h:=by simpa using hx
    exact hh
   ·cases hx
 | Nat.succ n,k,h,s,x,hk,hh,hx=>by
   simp only[fJ] at hx
   split at hx
   ·obtain⟨z,hz,hx⟩:=List.mem_flatMap.1 hx
    refine KY b ok n (k+1) (bS h k z) _ x zo ⟨hh.f,fun i hi=>?_,hh.lies⟩ hx
    have hf:=jH (ok.2 k zo).few
    have:=Tk hz
    have:=hh.m i hi
    unfold bS
    simp only
    split <;> omega
   ·cases hx
theorem gK(b:Bk)(ok:b.Ok)(ls:List Nat)(hl:∀s∈ls,cO s):∀h∈aD b ls,oD h:=fun h hh=>by
 unfold aD at hh
 obtain⟨s,hs,hh⟩:=List.mem_flatMap.1 hh
 unfold gW at hh
 obtain⟨f,hf,hh⟩:=List.mem_flatMap.1 hh
 have hfi:=sH b ok.bn b.ng (Nat.le_refl _) f hf
 refine KY b ok.moves b.nm 0 ⟨f,fun _=>0,s⟩ f h zo ⟨fun i hi=>hfi i hi,fun i _=>zs,?_⟩ hh
 exact hl s (List.mem_filter.1 hs).1
theorem Q0(k:Nat)(hk:k<6)(xs:List Ht)(hx:∀h∈xs,oD h)(B:Nat)(w:World)(hB:Whole w B 3 #[int i64 k]):rX FF 60 #[.pointer (some ⟨B,0,none⟩)] xs (fun h=>.bool (h.FQ k)) w:=by
 refine⟨zs,enters_of func60 zk rfl,fun W h hh hW=>?_⟩
 have HF:=hid fun W=>og h k W (hx h hh).lies hk
 have hB':=hB.below hW hB.lt
 have tW:=hid hB'
 have hlt:=hB'.lt
 show CallsIn FF 0 prog 60 #[h.val,.pointer (some ⟨B,0,none⟩)] W fun e W'=>e=.returned (.bool (h.FQ k))∧Below W.heap.size W W'
 obtain⟨r,hr⟩:∃r,r=h.FQ k:=⟨_,rfl⟩
 rw[← hr] at HF⊢
 clear hh hr hB hx
 obtain⟨f,m,li⟩:=h
 simp only[Ht.val,Ht.cells] at HF⊢
 have c0:W.cell? ⟨B,0,none⟩=some (int i64 k):=tW.out.cell 0
 gi_enter func60,ntmps60
 gi_wp2_with (gi_at_call 61;refine(HF.out _).mono ?_;rintro e w4 ⟨rfl,hb4⟩)
 go_ret
 exact⟨rfl,Below.next (bw) hb4⟩
theorem JJ(k:Nat)(hk:k<6)(xs:List Ht)(hx:∀h∈xs,oD h)(B:Nat)(w:World)(hB:Whole w B 3 #[int i64 k]):rX FF 56 #[.pointer (some ⟨B,0,none⟩)] xs (fun h=>int i64 (h.real k)) w:=by
 refine⟨zs,enters_of func56 zk rfl,fun W h hh hW=>?_⟩
 have HF:=hid fun W=>nK h k W (hx h hh).lies hk
 have hB':=hB.below hW hB.lt
 have tW:=hid hB'
 have hlt:=hB'.lt
 show CallsIn FF 0 prog 56 #[h.val,.pointer (some ⟨B,0,none⟩)] W fun e W'=>e=.returned (int i64 (h.real k))∧Below W.heap.size W W'
 obtain⟨r,hr⟩:∃r,r=h.real k:=⟨_,rfl⟩
 rw[← hr] at HF⊢
 clear hh hr hB hx
 obtain⟨f,m,li⟩:=h
 simp only[Ht.val,Ht.cells] at HF⊢
 have c0:W.cell? ⟨B,0,none⟩=some (int i64 k):=tW.out.cell 0
 gi_enter func56,ntmps56
 gi_wp2_with (gi_at_call 57;refine(HF.out _).mono ?_;rintro e w4 ⟨rfl,hb4⟩)
 go_ret
 exact⟨rfl,Below.next (bw) hb4⟩
theorem VU(b:Bk)(ok:b.Ok)(A:Option Addr)(n p:Nat)(day:Int)(g:Nat)(hg:g<3)(xs:List Ht)(hx:∀h∈xs,oD h)(Bc Bd Bg:Nat)(w:World)(hA:b.At w w.heap.size)(hc:Whole w Bc 76 (aA b A n p))(hd:Whole w Bd 3 #[int i64 day])(hgg:Whole w Bg 3 #[int i64 g]):rX FF 41 #[.pointer (some ⟨Bc,0,none⟩),.pointer (some ⟨Bd,0,none⟩),.pointer (some ⟨Bg,0,none⟩)] xs (fun h=>int i64 (stk b h day b.nm g)) w:=by
 refine⟨zs,enters_of func41 zk rfl,fun W h hh hW=>?_⟩
 have HF:=hid fun W hA=>gu b h day W hA ok.moves ok.bn.1.2 (hx h hh)
 have HA:=hid (hA.up hW)
 have C1:=hid (hc.below hW hc.lt)
 have D1:=hid (hd.below hW hd.lt)
 have G1:=hid (hgg.below hW hgg.lt)
 have h1:=C1.out.lt
 have h2:=D1.out.lt
 have h3:=G1.out.lt
 show CallsIn FF 0 prog 41 #[h.val,.pointer (some ⟨Bc,0,none⟩),.pointer (some ⟨Bd,0,none⟩),.pointer (some ⟨Bg,0,none⟩)] W fun e W'=>e=.returned (int i64 (stk b h day b.nm g))∧Below W.heap.size W W'
 obtain⟨r,hr⟩:∃r,r=stk b h day b.nm:=⟨_,rfl⟩
 rw[← hr] at HF⊢
 clear hh hr hc hd hgg hx hA ok hW
 obtain⟨w1,hw1⟩:∃w1,w1=W.alloc (.cells h.cells 88):=⟨_,rfl⟩
 have B1:Hid (Below W.heap.size W w1):=hid (by rw[hw1];exact bw)
 have H1:Hid (Whole w1 W.heap.size 88 h.cells):=hid (by rw[hw1];exact Whole.new _ _ _)
 have C2:=hid (C1.out.below B1.out h1)
 have D2:=hid (D1.out.below B1.out h2)
 have G2:=hid (G1.out.below B1.out h3)
 have A2:=hid (HA.out.up B1.out)
 obtain⟨f,m,li⟩:=h
 obtain⟨days,most,gA,ng,gc,gs,mA,nm,mc,ms,cA,nc,cc,cs⟩:=b
 simp only[Ht.val,Ht.cells,Bk.val,Bk.cells,lV] at HF H1⊢
 simp only[aA] at C2
 simp only[Ht.cells] at hw1
 have lT:=hid hw1
 clear hw1
 have q0:∀d os,(grow (redrawn w1 d) os).cell? ⟨Bc,0,none⟩=some (int i64 days):=cell_regrown (C2.out.cell 0)
 have q1:∀d os,(grow (redrawn w1 d) os).cell? ⟨Bc,1,none⟩=some (int i64 most):=cell_regrown (C2.out.cell 1)
 have q2:∀d os,(grow (redrawn w1 d) os).cell? ⟨Bc,2,none⟩=some (.slice gA ng gc):=cell_regrown (C2.out.cell 2)
 have q3:∀d os,(grow (redrawn w1 d) os).cell? ⟨Bc,3,none⟩=some (.slice mA nm mc):=cell_regrown (C2.out.cell 3)
 have q4:∀d os,(grow (redrawn w1 d) os).cell? ⟨Bc,4,none⟩=some (.slice cA nc cc):=cell_regrown (C2.out.cell 4)
 have qd:∀d os,(grow (redrawn w1 d) os).cell? ⟨Bd,0,none⟩=some (int i64 day):=cell_regrown (D2.out.cell 0)
 have qg:∀d os,(grow (redrawn w1 d) os).cell? ⟨Bg,0,none⟩=some (int i64 g):=cell_regrown (G2.out.cell 0)
 have x0:∀d os,(grow (redrawn w1 d) os).cell? ⟨W.heap.size,0,none⟩=some (int i64 (f 0)):=cell_regrown (H1.out.cell 0)
 have x1:∀d os,(grow (redrawn w1 d) os).cell? ⟨W.heap.size,1,none⟩=some (int i64 (f 1)):=cell_regrown (H1.out.cell 1)
 have x2:∀d os,(grow (redrawn w1 d) os).cell? ⟨W.heap.size,2,none⟩=some (int i64 (f 2)):=cell_regrown (H1.out.cell 2)
 have x3:∀d os,(grow (redrawn w1 d) os).cell? ⟨W.heap.size,3,none⟩=some (int i64 (m 0)):=cell_regrown (H1.out.cell 3)
 have x4:∀d os,(grow (redrawn w1 d) os).cell? ⟨W.heap.size,4,none⟩=some (int i64 (m 1)):=cell_regrown (H1.out.cell 4)
 have x5:∀d os,(grow (redrawn w1 d) os).cell? ⟨W.heap.size,5,none⟩=some (int i64 (m 2)):=cell_regrown (H1.out.cell 5)
 have x6:∀d os,(grow (redrawn w1 d) os).cell? ⟨W.heap.size,6,none⟩=some (int i64 (m 3)):=cell_regrown (H1.out.cell 6)
 have x7:∀d os,(grow (redrawn w1 d) os).cell? ⟨W.heap.size,7,none⟩=some (int i64 (m 4)):=cell_regrown (H1.out.cell 7)
 have x8:∀d os,(grow (redrawn w1 d) os).cell? ⟨W.heap.size,8,none⟩=some (int i64 (m 5)):=cell_regrown (H1.out.cell 8)
 have x9:∀d os,(grow (redrawn w1 d) os).cell? ⟨W.heap.size,9,none⟩=some (int i64 li):=cell_regrown (H1.out.cell 9)
 have cS:∀d os,CallsIn FF 0 prog 42 #[.agg #[int i64 days,int i64 most,.slice gA ng gc,.slice mA nm mc,.slice cA nc cc],.agg #[int i64 (f 0),int i64 (f 1),int i64 (f 2),int i64 (m 0),int i64 (m 1),int i64 (m 2),int i64 (m 3),int i64 (m 4),int i64 (m 5),int i64 li],int i64 day] (grow (redrawn w1 d) os) fun e w''=>e=.returned (.agg #[int i64 (r 0),int i64 (r 1),int i64 (r 2)])∧∃p:Regrown,w''=grow (redrawn w1 p.d) p.os:=fun d os=>CallsIn.regrown_of (HF.out _ ((A2.out.below (below_regrown w1 d os)).more (below_regrown w1 d os).size))
 have ix:∀ (u v z:Int) (w:World),(Instr.index 85 (.agg #[int i64 u,int i64 v,int i64 z]) (int i64 0)).run prog w=.ok (int i64 u) w∧(Instr.index 85 (.agg #[int i64 u,int i64 v,int i64 z]) (int i64 1)).run prog w=.ok (int i64 v) w∧(Instr.index 85 (.agg #[int i64 u,int i64 v,int i64 z]) (int i64 2)).run prog w=.ok (int i64 z) w:=fun _ _ _ _=>⟨zk,zk,zk⟩
 have BW:=fun u v z w=>(ix u v z w).1
 have BY:=fun u v z w=>(ix u v z w).2.1
 have B0:=fun u v z w=>(ix u v z w).2.2
 clear ix
 gi_enter func41,ntmps41
 gi_wp2
 rw[← lT.out]
 refine wpIn_region_quiet_below rfl zk zk ?_
 rcases(show g=0∨g=1∨g=2 by omega) with rfl|rfl|rfl
 all_goals
  repeat (quiet_step_in (exact cS _ _))
  refine wpQuietIn_nil ?_
  rintro w' ⟨⟨dq,osq⟩,rfl⟩
  have bg:=below_regrown w1 dq osq
  gi_wp2
  go_ret
  exact⟨rfl,Below.next B1.out bg⟩
theorem mD(b:Bk)(i:Nat)(w:World)(h:b.At w w.heap.size)(ok:b.Ok)(hcap:b.ng≤b.gc)(hi:i<b.ng):CallsIn FF 0 prog 37 #[b.val,int i64 i] w fun e w'=>∃A p,e=.returned (.tuple #[.agg (aA b A (ak b).length p),int i64 0])∧mZ b A w'∧Below w.heap.size w w':=by
 have HO:=hid fun w h=>mE b w h ok hcap
 have HH:=hid fun(w:World)=>show CallsIn FF 0 prog 73 #[b.val,int i64 i] w fun e w'=>e=.returned (.bool true)∧Below w.heap.size w w' from by
  have:=sJ b i w (by unfold maxLen;have:=ok.bn.1.2;omega)
  have e:fO (i:Int) 0 ((b.ng:Int) - 1)=true:=by unfold fO;simp;omega
  rwa[e] at this
 have HA:=hid h
 obtain⟨n,hn⟩:∃n,n=(ak b).length:=⟨_,rfl⟩
 obtain⟨CK,Vz⟩:∃CK:Option Addr→World→Prop,CK=fun A w=>mZ b A w:=⟨_,rfl⟩
 have jj:Hid (∀w,b.At w w.heap.size→CallsIn FF 0 prog 33 #[b.val] w fun e w'=>∃A p,e=.returned (.tuple #[.agg (aA b A n p),int i64 0])∧CK A w'∧Below w.heap.size w w'∧∀ad,A=some ad→0<n→w.heap.size≤ad.block):=hid fun w h=>by rw[Vz,hn];exact HO.out w h
 have goal:∀ (e:Ending) (w':World),(∃A p,e=.returned (.tuple #[.agg (aA b A n p),int i64 0])∧CK A w'∧Below w.heap.size w w')→∃A p,e=.returned (.tuple #[.agg (aA b A (ak b).length p),int i64 0])∧mZ b A w'∧Below w.heap.size w w':=fun e w' h=>by rw[Vz,hn] at h;exact h
 refine CallsIn.mono (R:=fun e w'=>∃A p,e=.returned (.tuple #[.agg (aA b A n p),int i64 0])∧CK A w'∧Below w.heap.size w w') ?_ goal
 have ua:Hid (∀A (w2 w4:World) (q:Addr) (u0 u1 u2 u3 u4 u5:Value),CK A w2→Below w.heap.size w (((((((w4.setCell q u0).setCell ⟨q.block,1,none⟩ u1).setCell ⟨q.block,2,none⟩ u2).setCell ⟨q.block,3,none⟩ u3).setCell ⟨q.block,4,none⟩ u4).setCell ⟨q.block,5,none⟩ u5))→Below w2.heap.size w2 w4→(∀ad,A=some ad→0<n→q.block<ad.block)→CK A (((((((w4.setCell q u0).setCell ⟨q.block,1,none⟩ u1).setCell ⟨q.block,2,none⟩ u2).setCell ⟨q.block,3,none⟩ u3).setCell ⟨q.block,4,none⟩ u4).setCell ⟨q.block,5,none⟩ u5))):=hid fun A w2 w4 q u0 u1 u2 u3 u4 u5 hc hb hb4 hf=>by
  rw[Vz] at hc⊢
  rw[hn] at hf
  refine⟨h.up hb,?_⟩
  have hr:=(hc.row.below hb4).more hb4.size
  have hne:∀ad,A=some ad→0<(ak b).length→ad.block≠q.block:=fun ad hA hl=>by have:=hf ad hA hl;omega
  have:=(((((hr.bQ hne u0).bQ (p:=⟨q.block,1,none⟩) hne u1).bQ (p:=⟨q.block,2,none⟩) hne u2).bQ (p:=⟨q.block,3,none⟩) hne u3).bQ (p:=⟨q.block,4,none⟩) hne u4).bQ (p:=⟨q.block,5,none⟩) hne u5
  exact this.more (by simp[World.setCell])
 clear hn Vz h hcap hi ok HO goal
 obtain⟨days,most,gA,ng,gc,g,mA,nm,mc,m,cA,nc,cc,c⟩:=b
 simp only[Bk.val,Bk.cells,aA] at jj HH⊢
 have Y1:Hid (Whole ((w.alloc (.cells #[int i64 days,int i64 most,.slice gA ng gc,.slice mA nm mc,.slice cA nc cc] 26)).alloc (.cells #[int i64 0,int i64 0,.slice none 0 0,.slice none 0 0,.slice none 0 0,.slice none 0 0] 76)) (w.heap.size+1) 76 #[int i64 0,int i64 0,.slice none 0 0,.slice none 0 0,.slice none 0 0,.slice none 0 0]):=hid (by
  have:=Whole.new (w.alloc (.cells #[int i64 days,int i64 most,.slice gA ng gc,.slice mA nm mc,.slice cA nc cc] 26)) 76 #[int i64 0,int i64 0,.slice none 0 0,.slice none 0 0,.slice none 0 0,.slice none 0 0]
  rwa[World.size_alloc] at this)
 gi_enter func37,ntmps37
 gi_wp2_with (first
  | (gi_at_call 33;refine(jj.out _ (HA.out.up (bw))).mono ?_;rintro e w2 ⟨A,p,rfl,hc2,hb2,hf2⟩;have ui:=hid hf2;clear hf2;have HB2:=hid hb2;have ub:=hid hc2;have hl2:w.heap.size+2≤w2.heap.size:=by have:=hb2.size;simpa using this)
  | (gi_at_call 73;refine(HH.out _).mono ?_;rintro e w4 ⟨rfl,hb4⟩;have Cr:=hid hb4;have X4:Whole w4 w2.heap.size 76 #[int i64 days,int i64 most,.slice gA ng gc,.slice mA nm mc,.slice cA nc cc,.slice A n p]:=(Whole.new w2 _ _).below hb4 zs;have x0:w4.cell? ⟨w2.heap.size,0,none⟩=some (int i64 days):=X4.cell 0;have x1:w4.cell? ⟨w2.heap.size,1,none⟩=some (int i64 most):=X4.cell 1;have x2:w4.cell? ⟨w2.heap.size,2,none⟩=some (.slice gA ng gc):=X4.cell 2;have x3:w4.cell? ⟨w2.heap.size,3,none⟩=some (.slice mA nm mc):=X4.cell 3;have x4:w4.cell? ⟨w2.heap.size,4,none⟩=some (.slice cA nc cc):=X4.cell 4;have x5:w4.cell? ⟨w2.heap.size,5,none⟩=some (.slice A n p):=X4.cell 5;have Y4:=((Y1.out.below hb2 zs).alloc (.cells #[int i64 days,int i64 most,.slice gA ng gc,.slice mA nm mc,.slice cA nc cc,.slice A n p] 76)).below hb4 zm;have yf:=Y4.thaw;have y0:w4.cell? ⟨w.heap.size+1,0,none⟩=some (int i64 0):=Y4.cell 0;have y1:w4.cell? ⟨w.heap.size+1,1,none⟩=some (int i64 0):=Y4.cell 1;have y2:w4.cell? ⟨w.heap.size+1,2,none⟩=some (.slice none 0 0):=Y4.cell 2;have y3:w4.cell? ⟨w.heap.size+1,3,none⟩=some (.slice none 0 0):=Y4.cell 3;have y4:w4.cell? ⟨w.heap.size+1,4,none⟩=some (.slice none 0 0):=Y4.cell 4;have y5:w4.cell? ⟨w.heap.size+1,5,none⟩=some (.slice none 0 0):=Y4.cell 5))
 have U:=(((((Y4.set 0 (int i64 days)).set 1 (int i64 most)).set 2 (.slice gA ng gc)).set 3 (.slice mA nm mc)).set 4 (.slice cA nc cc)).set 5 (.slice A n p)
 have u0:=U.cell 0
 have u1:=U.cell 1
 have u2:=U.cell 2
 have u3:=U.cell 3
 have u4:=U.cell 4
 have u5:=U.cell 5
 have UB:=hid ((((((((Below.next (Below.al (Below.next (show Below w.heap.size w ((w.alloc (.cells #[int i64 days,int i64 most,.slice gA ng gc,.slice mA nm mc,.slice cA nc cc] 26)).alloc (.cells #[int i64 0,int i64 0,.slice none 0 0,.slice none 0 0,.slice none 0 0,.slice none 0 0] 76)) from bw) HB2.out) (.cells #[int i64 days,int i64 most,.slice gA ng gc,.slice mA nm mc,.slice cA nc cc,.slice A n p] 76)) Cr.out).setCell (p:=⟨w.heap.size+1,0,none⟩) zs (int i64 days)).setCell (p:=⟨w.heap.size+1,1,none⟩) zs (int i64 most)).setCell (p:=⟨w.heap.size+1,2,none⟩) zs (.slice gA ng gc)).setCell (p:=⟨w.heap.size+1,3,none⟩) zs (.slice mA nm mc)).setCell (p:=⟨w.heap.size+1,4,none⟩) zs (.slice cA nc cc)).setCell (p:=⟨w.heap.size+1,5,none⟩) zs (.slice A n p)))
 refine bodyPost_ret (v:=.tuple #[.agg #[int i64 days,int i64 most,.slice gA ng gc,.slice mA nm mc,.slice cA nc cc,.slice A n p],int i64 0]) (by simp[results,results37,go_sem,u0,u1,u2,u3,u4,u5]) rfl ⟨A,p,rfl,?_,?_⟩
 ·exact ua.out A w2 w4 ⟨w.heap.size+1,0,none⟩ _ _ _ _ _ _ ub.out UB.out (Below.next (Below.al (Below.refl _ w2) _) Cr.out) fun ad hA hn=>by have:=ui.out ad hA hn;simp at this⊢;omega
 ·exact UB.out
theorem JO(b:Bk)(i:Nat)(w:World)(h:b.At w w.heap.size)(ok:b.Ok)(hcap:b.ng≤b.gc)(hi:i<b.nm):CallsIn FF 0 prog 55 #[b.val,int i64 i] w fun e w'=>∃A p,e=.returned (.tuple #[.agg (aA b A (ak b).length p),int i64 0])∧mZ b A w'∧Below w.heap.size w w':=by
 have HO:=hid fun w h=>mE b w h ok hcap
 have HH:=hid fun(w:World)=>show CallsIn FF 0 prog 90 #[b.val,int i64 i] w fun e w'=>e=.returned (.bool true)∧Below w.heap.size w w' from by
  have:=Au b i w (by unfold maxLen;have:=ok.moves.1;omega)
  have e:fO (i:Int) 0 ((b.nm:Int) - 1)=true:=by unfold fO;simp;omega
  rwa[e] at this
 have HA:=hid h
 obtain⟨n,hn⟩:∃n,n=(ak b).length:=⟨_,rfl⟩
 obtain⟨CK,Vz⟩:∃CK:Option Addr→World→Prop,CK=fun A w=>mZ b A w:=⟨_,rfl⟩
 have jj:Hid (∀w,b.At w w.heap.size→CallsIn FF 0 prog 33 #[b.val] w fun e w'=>∃A p,e=.returned (.tuple #[.agg (aA b A n p),int i64 0])∧CK A w'∧Below w.heap.size w w'∧∀ad,A=some ad→0<n→w.heap.size≤ad.block):=hid fun w h=>by rw[Vz,hn];exact HO.out w h
 have goal:∀ (e:Ending) (w':World),(∃A p,e=.returned (.tuple #[.agg (aA b A n p),int i64 0])∧CK A w'∧Below w.heap.size w w')→∃A p,e=.returned (.tuple #[.agg (aA b A (ak b).length p),int i64 0])∧mZ b A w'∧Below w.heap.size w w':=fun e w' h=>by rw[Vz,hn] at h;exact h
 refine CallsIn.mono (R:=fun e w'=>∃A p,e=.returned (.tuple #[.agg (aA b A n p),int i64 0])∧CK A w'∧Below w.heap.size w w') ?_ goal
 have ua:Hid (∀A (w2 w4:World) (q:Addr) (u0 u1 u2 u3 u4 u5:Value),CK A w2→Below w.heap.size w (((((((w4.setCell q u0).setCell ⟨q.block,1,none⟩ u1).setCell ⟨q.block,2,none⟩ u2).setCell ⟨q.block,3,none⟩ u3).setCell ⟨q.block,4,none⟩ u4).setCell ⟨q.block,5,none⟩ u5))→Below w2.heap.size w2 w4→(∀ad,A=some ad→0<n→q.block<ad.block)→CK A (((((((w4.setCell q u0).setCell ⟨q.block,1,none⟩ u1).setCell ⟨q.block,2,none⟩ u2).setCell ⟨q.block,3,none⟩ u3).setCell ⟨q.block,4,none⟩ u4).setCell ⟨q.block,5,none⟩ u5))):=hid fun A w2 w4 q u0 u1 u2 u3 u4 u5 hc hb hb4 hf=>by
  rw[Vz] at hc⊢
  rw[hn] at hf
  refine⟨h.up hb,?_⟩
  have hr:=(hc.row.below hb4).more hb4.size
  have hne:∀ad,A=some ad→0<(ak b).length→ad.block≠q.block:=fun ad hA hl=>by have:=hf ad hA hl;omega
  have:=(((((hr.bQ hne u0).bQ (p:=⟨q.block,1,none⟩) hne u1).bQ (p:=⟨q.block,2,none⟩) hne u2).bQ (p:=⟨q.block,3,none⟩) hne u3).bQ (p:=⟨q.block,4,none⟩) hne u4).bQ (p:=⟨q.block,5,none⟩) hne u5
  exact this.more (by simp[World.setCell])
 clear hn Vz h hcap hi ok HO goal
 obtain⟨days,most,gA,ng,gc,g,mA,nm,mc,m,cA,nc,cc,c⟩:=b
 simp only[Bk.val,Bk.cells,aA] at jj HH⊢
 have Y1:Hid (Whole ((w.alloc (.cells #[int i64 days,int i64 most,.slice gA ng gc,.slice mA nm mc,.slice cA nc cc] 26)).alloc (.cells #[int i64 0,int i64 0,.slice none 0 0,.slice none 0 0,.slice none 0 0,.slice none 0 0] 76)) (w.heap.size+1) 76 #[int i64 0,int i64 0,.slice none 0 0,.slice none 0 0,.slice none 0 0,.slice none 0 0]):=hid (by
  have:=Whole.new (w.alloc (.cells #[int i64 days,int i64 most,.slice gA ng gc,.slice mA nm mc,.slice cA nc cc] 26)) 76 #[int i64 0,int i64 0,.slice none 0 0,.slice none 0 0,.slice none 0 0,.slice none 0 0]
  rwa[World.size_alloc] at this)
 gi_enter func55,ntmps55
 gi_wp2_with (first
  | (gi_at_call 33;refine(jj.out _ (HA.out.up (bw))).mono ?_;rintro e w2 ⟨A,p,rfl,hc2,hb2,hf2⟩;have ui:=hid hf2;clear hf2;have HB2:=hid hb2;have ub:=hid hc2;have hl2:w.heap.size+2≤w2.heap.size:=by have:=hb2.size;simpa using this)
  | (gi_at_call 90;refine(HH.out _).mono ?_;rintro e w4 ⟨rfl,hb4⟩;have Cr:=hid hb4;have X4:Whole w4 w2.heap.size 76 #[int i64 days,int i64 most,.slice gA ng gc,.slice mA nm mc,.slice cA nc cc,.slice A n p]:=(Whole.new w2 _ _).below hb4 zs;have x0:w4.cell? ⟨w2.heap.size,0,none⟩=some (int i64 days):=X4.cell 0;have x1:w4.cell? ⟨w2.heap.size,1,none⟩=some (int i64 most):=X4.cell 1;have x2:w4.cell? ⟨w2.heap.size,2,none⟩=some (.slice gA ng gc):=X4.cell 2;have x3:w4.cell? ⟨w2.heap.size,3,none⟩=some (.slice mA nm mc):=X4.cell 3;have x4:w4.cell? ⟨w2.heap.size,4,none⟩=some (.slice cA nc cc):=X4.cell 4;have x5:w4.cell? ⟨w2.heap.size,5,none⟩=some (.slice A n p):=X4.cell 5;have Y4:=((Y1.out.below hb2 zs).alloc (.cells #[int i64 days,int i64 most,.slice gA ng gc,.slice mA nm mc,.slice cA nc cc,.slice A n p] 76)).below hb4 zm;have yf:=Y4.thaw;have y0:w4.cell? ⟨w.heap.size+1,0,none⟩=some (int i64 0):=Y4.cell 0;have y1:w4.cell? ⟨w.heap.size+1,1,none⟩=some (int i64 0):=Y4.cell 1;have y2:w4.cell? ⟨w.heap.size+1,2,none⟩=some (.slice none 0 0):=Y4.cell 2;have y3:w4.cell? ⟨w.heap.size+1,3,none⟩=some (.slice none 0 0):=Y4.cell 3;have y4:w4.cell? ⟨w.heap.size+1,4,none⟩=some (.slice none 0 0):=Y4.cell 4;have y5:w4.cell? ⟨w.heap.size+1,5,none⟩=some (.slice none 0 0):=Y4.cell 5))
 have U:=(((((Y4.set 0 (int i64 days)).set 1 (int i64 most)).set 2 (.slice gA ng gc)).set 3 (.slice mA nm mc)).set 4 (.slice cA nc cc)).set 5 (.slice A n p)
 have u0:=U.cell 0
 have u1:=U.cell 1
 have u2:=U.cell 2
 have u3:=U.cell 3
 have u4:=U.cell 4
 have u5:=U.cell 5
 have UB:=hid ((((((((Below.next (Below.al (Below.next (show Below w.heap.size w ((w.alloc (.cells #[int i64 days,int i64 most,.slice gA ng gc,.slice mA nm mc,.slice cA nc cc] 26)).alloc (.cells #[int i64 0,int i64 0,.slice none 0 0,.slice none 0 0,.slice none 0 0,.slice none 0 0] 76)) from bw) HB2.out) (.cells #[int i64 days,int i64 most,.slice gA ng gc,.slice mA nm mc,.slice cA nc cc,.slice A n p] 76)) Cr.out).setCell (p:=⟨w.heap.size+1,0,none⟩) zs (int i64 days)).setCell (p:=⟨w.heap.size+1,1,none⟩) zs (int i64 most)).setCell (p:=⟨w.heap.size+1,2,none⟩) zs (.slice gA ng gc)).setCell (p:=⟨w.heap.size+1,3,none⟩) zs (.slice mA nm mc)).setCell (p:=⟨w.heap.size+1,4,none⟩) zs (.slice cA nc cc)).setCell (p:=⟨w.heap.size+1,5,none⟩) zs (.slice A n p)))
 refine bodyPost_ret (v:=.tuple #[.agg #[int i64 days,int i64 most,.slice gA ng gc,.slice mA nm mc,.slice cA nc cc,.slice A n p],int i64 0]) (by simp[results,results55,go_sem,u0,u1,u2,u3,u4,u5]) rfl ⟨A,p,rfl,?_,?_⟩
 ·exact ua.out A w2 w4 ⟨w.heap.size+1,0,none⟩ _ _ _ _ _ _ ub.out UB.out (Below.next (Below.al (Below.refl _ w2) _) Cr.out) fun ad hA hn=>by have:=ui.out ad hA hn;simp at this⊢;omega
 ·exact UB.out
end
end Go.Proofs.YthaelabgfnnebaaGreat
