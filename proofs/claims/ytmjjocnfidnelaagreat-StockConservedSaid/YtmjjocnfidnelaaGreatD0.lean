/- K2 HS HT HX HO HY -/
import Derived.Test.YtmjjocnfidnelaaGreatC9
set_option maxRecDepth 100000
set_option maxHeartbeats 16000000
set_option linter.unusedVariables false
set_option linter.unusedSectionVars false
open Go.IntKind(i64)
open Go.Lib(hid)
open Go.Proofs.Tryz
open Go.Value(int)
namespace Go.Proofs.YtmjjocnfidnelaaGreat
section
open Go.RowKit
open Go.Sort (grow)
attribute [local go_sem] Oper.semAt_some
def bX(v:Ht→Int)(pre:List Ht):Int × Int × Bool:=pre.foldl (fun s h=>if s.2.2 then(min s.1 (v h),max s.2.1 (v h),true) else(v h,v h,true)) (0,0,false)
theorem yH(v:Ht→Int)(pre:List Ht)(h:Ht):bX v (pre ++ [h])=if (bX v pre).2.2 then(min (bX v pre).1 (v h),max (bX v pre).2.1 (v h),true) else(v h,v h,true):=by unfold bX;rw[List.foldl_append];rfl
theorem KU(v:Ht→Int)(xs:List Ht)(h:(bX v xs).2.2=false):bX v xs=(0,0,false):=by
 rcases List.eq_nil_or_concat xs with rfl|⟨l,b,rfl⟩
 ·rfl
 ·rw[List.concat_eq_append,yH] at h
  split at h <;> simp at h
theorem EB(gf:Nat)(lb:Array Value)(g:Nat)(lg:Array Value)(v:Ht→Int)(xs:List Ht)(w:World)(h:qB FF gf lb xs w)(hg:tC FF g lg xs (fun h=>int i64 (v h)) w):CallsIn FF 0 prog 51 #[.func (.func gf) #[] lb,.func (.func g) #[] lg] w fun e w'=>e=.returned (.tuple #[.agg #[int i64 (bX v xs).1,int i64 (bX v xs).2.1],int i64 (if (bX v xs).2.2 then 0 else 9)])∧Below w.heap.size w w':=by
 obtain⟨SS,hSS⟩:∃SS,SS=bX v xs:=⟨_,rfl⟩
 rw[← hSS]
 have Ek:=hid hSS
 clear hSS
 obtain⟨hfn,ME,hit⟩:=h
 have HIT:=hid hit
 have Qw:=hid ME
 obtain⟨hgf,hge,hgc⟩:=hg
 rw[qL] at hgf
 have HG:=hid hgc
 clear hit ME hgc
 refine callsIn_of_wp_marks func51 rfl zs ?_ rfl
 simp only[ntmps51,List.size_toArray,List.length_cons,List.length_nil,Nat.reduceAdd,Nat.reduceSub,Array.replicate_succ,Array.replicate_zero,List.push_toArray,List.append_toArray,List.nil_append,List.cons_append]
 gi_wp2
 obtain⟨wa,Tp⟩:∃wa,wa=w.alloc (.cells #[.func (.func g) #[] lg] 98):=⟨_,rfl⟩
 obtain⟨wb,hwb⟩:∃wb,wb=wa.alloc (.cells #[int i64 0,int i64 0] 39):=⟨_,rfl⟩
 obtain⟨wc,hwc⟩:∃wc,wc=wb.alloc (.cells #[int i64 0,int i64 0] 39):=⟨_,rfl⟩
 obtain⟨w1,hw1⟩:∃w1,w1=wc.alloc (.cells #[.bool false] 4):=⟨_,rfl⟩
 have sa:wa.heap.size=w.heap.size+1:=by rw[Tp];simp
 have sb:wb.heap.size=w.heap.size+1+1:=by rw[hwb];simp[sa]
 have sc:wc.heap.size=w.heap.size+1+1+1:=by rw[hwc];simp[sb]
 have hs1:w1.heap.size=w.heap.size+4:=by rw[hw1];simp[sc]
 have B1:Hid (Below w.heap.size w w1):=hid (by rw[hw1,hwc,hwb,Tp];exact bw)
 have F1:Hid (Whole w1 w.heap.size 98 #[.func (.func g) #[] lg]):=hid (by rw[hw1,hwc,hwb,Tp];exact(((Whole.new _ _ _).alloc _).alloc _).alloc _)
 have R1:Hid (Whole w1 (w.heap.size+1) 39 #[int i64 0,int i64 0]):=hid (by rw[← sa,hw1,hwc,hwb];exact((Whole.new _ _ _).alloc _).alloc _)
 have S1:Hid (Whole w1 (w.heap.size+1+1) 39 #[int i64 0,int i64 0]):=hid (by rw[← sb,hw1,hwc];exact(Whole.new _ _ _).alloc _)
 have T1:Hid (Whole w1 (w.heap.size+1+1+1) 4 #[.bool false]):=hid (by rw[← sc,hw1];exact Whole.new _ _ _)
 rw[← Tp,← hwb,← hwc,← hw1]
 clear hw1 Tp hwb hwc sa sb sc
 obtain⟨CC,Sq⟩:∃CC:Nat→Prop,CC=fun x=>x=w.heap.size+1+1∨x=w.heap.size+1+1+1:=⟨_,rfl⟩
 have nD:∀x,CC x↔x=w.heap.size+1+1∨x=w.heap.size+1+1+1:=fun x=>by rw[Sq]
 clear Sq
 refine iK (C:=CC) rfl rfl (gf:=gf) (lb:=lb) rfl hfn Qw.out (encs:=fun h:Ht=>#[h.val]) (xs:=xs)
  (fun x hx=>by have:=(nD x).1 hx;omega) ?hseq (fun _=>rfl) (fun pre W'=>Hid (Whole W' w.heap.size 98 #[.func (.func g) #[] lg]∧Whole W' (w.heap.size+1) 39 #[int i64 0,int i64 0]∧Whole W' (w.heap.size+1+1) 39 #[int i64 (bX v pre).1,int i64 (bX v pre).2.1]∧Whole W' (w.heap.size+1+1+1) 4 #[.bool (bX v pre).2.2])) (fun c pre W'=>False)
  (fun pre A B h hb=>hid ⟨h.out.1.below hb zo,h.out.2.1.below hb zo,h.out.2.2.1.below hb zo,h.out.2.2.2.below hb zo⟩) (fun c pre A B h hb=>h.elim) (hid ⟨F1.out,R1.out,S1.out,T1.out⟩) ?gD ?hdone ?hstop
 case hseq=>exact fun W2 hb2 hs2=>HIT.out _ W2 (B1.out.trans (hb2.mono B1.out.size)) fun x hx=>by rw[nD] at hx;omega
 case gD=>
  intro l' pre h A hl' hpre hj hk hsz hrec
  have hsn:=yH v pre h
  obtain⟨st',hst'⟩:∃st',st'=bX v (pre ++ [h]):=⟨_,rfl⟩
  obtain⟨vh,a7⟩:∃vh,vh=v h:=⟨_,rfl⟩
  rw[← hst'] at hsn⊢
  rw[← a7] at hsn
  obtain⟨⟨a,c,t⟩,hst⟩:∃st,st=bX v pre:=⟨_,rfl⟩
  rw[← hst] at hj hsn
  simp only at hj hsn
  clear hst' hst
  have WH:=fun W hW=>HG.out W h (fK hpre) hW
  rw[← a7] at WH
  clear a7
  obtain⟨hf,hmm,uT⟩:=h
  simp only[Ht.val,Ht.cells]
  simp only[Ht.val,Ht.cells] at WH
  gi_wp2
  refine⟨bw,fun W2 hS=>?_⟩
  have oI:Below (w.heap.size+4) A W2:=((Below.refl _ A).alloc zo _).trans (hS.below zo)
  have X2:Whole W2 A.heap.size 78 (⟨hf,hmm,uT⟩:Ht).cells:=(Whole.new A _ _).of (hS.block _ zo)
  have F2:=hid (hj.out.1.below oI zo)
  have R2:=hid (hj.out.2.1.below oI zo)
  have S2:=hid (hj.out.2.2.1.below oI zo)
  have T2:=hid (hj.out.2.2.2.below oI zo)
  have q0:W2.cell? ⟨w.heap.size,0,none⟩=some (.func (.func g) #[] lg):=F2.out.cell 0
  have x0:W2.cell? ⟨A.heap.size,0,none⟩=some (int i64 (hf 0)):=X2.cell 0
  have x1:W2.cell? ⟨A.heap.size,1,none⟩=some (int i64 (hf 1)):=X2.cell 1
  have x2:W2.cell? ⟨A.heap.size,2,none⟩=some (int i64 (hf 2)):=X2.cell 2
  have x3:W2.cell? ⟨A.heap.size,3,none⟩=some (int i64 (hmm 0)):=X2.cell 3
  have x4:W2.cell? ⟨A.heap.size,4,none⟩=some (int i64 (hmm 1)):=X2.cell 4
  have x5:W2.cell? ⟨A.heap.size,5,none⟩=some (int i64 (hmm 2)):=X2.cell 5
  have x6:W2.cell? ⟨A.heap.size,6,none⟩=some (int i64 (hmm 3)):=X2.cell 6
  have x7:W2.cell? ⟨A.heap.size,7,none⟩=some (int i64 (hmm 4)):=X2.cell 7
  have x8:W2.cell? ⟨A.heap.size,8,none⟩=some (int i64 (hmm 5)):=X2.cell 8
  have x9:W2.cell? ⟨A.heap.size,9,none⟩=some (int i64 uT):=X2.cell 9
  have mf:=hid (WH W2 ((B1.out.trans (hk.below (n:=w.heap.size) (fun b hb hc=>by have:=(nD b).1 hc;omega) zo)).trans (oI.mono zo)))
  have ZI:=hid hsn
  clear X2 oI WH hsn
  have FIN:=hid (show ∀W5,Keeps CC W2 W5→Whole W5 w.heap.size 98 #[.func (.func g) #[] lg]→Whole W5 (w.heap.size+1) 39 #[int i64 0,int i64 0]→Whole W5 (w.heap.size+1+1) 39 #[int i64 st'.1,int i64 st'.2.1]→Whole W5 (w.heap.size+1+1+1) 4 #[.bool st'.2.2]→
   wI CC (fun W'=>Hid (Whole W' w.heap.size 98 #[.func (.func g) #[] lg]∧Whole W' (w.heap.size+1) 39 #[int i64 0,int i64 0]∧Whole W' (w.heap.size+1+1) 39 #[int i64 st'.1,int i64 st'.2.1]∧Whole W' (w.heap.size+1+1+1) 4 #[.bool st'.2.2])) (fun c W'=>False) W2 .normal {tmps:=#[],defers:=[] } W5 from fun W5 k f r s t=>⟨k,hid ⟨f,r,s,t⟩⟩)
  cases t
  ·gi_wp2_with (refine mf.out.mono ?_;rintro e W4 ⟨rfl,hb4⟩;have S4:=S2.out.below hb4 S2.out.lt;have T4:=T2.out.below hb4 T2.out.lt;have c7:W4.cell? ⟨w.heap.size+1+1+1,0,none⟩=some (.bool false):=T4.cell 0;have c60:W4.cell? ⟨w.heap.size+1+1,0,none⟩=some (int i64 a):=S4.cell 0;have c61:W4.cell? ⟨w.heap.size+1+1,1,none⟩=some (int i64 c):=S4.cell 1;have f7:=T4.thaw;have f6:=S4.thaw)
   simp only[Bool.false_eq_true,if_false] at ZI
   refine FIN.out _ (Keeps.set (Keeps.set (Keeps.set (Keeps.set (Keeps.set (Keeps.bL hb4) ((nD _).2 (.inl rfl)) _) ((nD _).2 (.inl rfl)) _) ((nD _).2 (.inr rfl)) _) ((nD _).2 (.inl rfl)) _) ((nD _).2 (.inl rfl)) _)
    ((((((F2.out.below hb4 F2.out.lt).other zF _).other zF _).other zF _).other zF _).other zF _)
    ((((((R2.out.below hb4 R2.out.lt).other zF _).other zF _).other zF _).other zF _).other zF _) ?_ ?_
   ·rw[ZI.out]
    exact((((S4.set 0 (int i64 vh)).set 1 (int i64 vh)).other zF _).set 0 (int i64 vh)).set 1 (int i64 vh)
   ·rw[ZI.out]
    exact((((T4.other zF _).other zF _).set 0 (.bool true)).other zF _).other zF _
  ·gi_wp2_with (refine mf.out.mono ?_;rintro e W4 ⟨rfl,hb4⟩;have S4:=S2.out.below hb4 S2.out.lt;have T4:=T2.out.below hb4 T2.out.lt;have c7:W4.cell? ⟨w.heap.size+1+1+1,0,none⟩=some (.bool true):=T4.cell 0;have c60:W4.cell? ⟨w.heap.size+1+1,0,none⟩=some (int i64 a):=S4.cell 0;have c61:W4.cell? ⟨w.heap.size+1+1,1,none⟩=some (int i64 c):=S4.cell 1;have f7:=T4.thaw;have f6:=S4.thaw)
   simp only[if_true] at ZI
   refine FIN.out _ (Keeps.set (Keeps.set (Keeps.bL hb4) ((nD _).2 (.inl rfl)) _) ((nD _).2 (.inl rfl)) _) (((F2.out.below hb4 F2.out.lt).other zF _).other zF _) (((R2.out.below hb4 R2.out.lt).other zF _).other zF _) ?_ ?_
   ·rw[ZI.out]
    exact(S4.set 0 (int i64 (min a vh))).set 1 (int i64 (max c vh))
   ·rw[ZI.out]
    exact(T4.other zF _).other zF _
 case hdone=>
  intro W' hj hk hm
  rw[← Ek.out] at hj
  have hms:Marks w1.heap.size (w1.heap.size+1) [{target:=.collected w1.heap.size,args:=#[] }] W':=⟨_,rfl,Nat.le_refl _,Nat.lt_succ_self _,hm,trivial⟩
  have LH:Hid (Below w.heap.size w W'):=hid (B1.out.trans (hk.below (n:=w.heap.size) (fun b hb hc=>by have:=(nD b).1 hc;omega) zo))
  obtain⟨a,c,t⟩:=SS
  simp only at hj⊢
  have c40:W'.cell? ⟨w.heap.size+1,0,none⟩=some (int i64 0):=hj.out.2.1.cell 0
  have c41:W'.cell? ⟨w.heap.size+1,1,none⟩=some (int i64 0):=hj.out.2.1.cell 1
  have f4:=hj.out.2.1.thaw
  have c60:W'.cell? ⟨w.heap.size+1+1,0,none⟩=some (int i64 a):=hj.out.2.2.1.cell 0
  have c61:W'.cell? ⟨w.heap.size+1+1,1,none⟩=some (int i64 c):=hj.out.2.2.1.cell 1
  have c7:W'.cell? ⟨w.heap.size+1+1+1,0,none⟩=some (.bool t):=hj.out.2.2.2.cell 0
  rw[hs1] at hms
  have VW:Hid (∀u z,Marks (w.heap.size+4) (w.heap.size+4+1) [{target:=.collected (w.heap.size+4),args:=#[] }] ((W'.setCell ⟨w.heap.size+1,0,none⟩ u).setCell ⟨w.heap.size+1,1,none⟩ z)):=hid fun u z=>hms.of fun r h1 h2=>(Below.heap_setCell _ _ _ _ zF).trans (Below.heap_setCell _ _ _ _ zF)
  have LV:Hid (∀ (a c bl:Int) (tmps:Array Value) (B:World),tmps[4]?.getD undef=.pointer (some ⟨w.heap.size+1,0,none⟩)→tmps[5]?.getD undef=int i64 bl→Whole B (w.heap.size+1) 39 #[int i64 a,int i64 c]→(results Tryz.f51 tmps).run prog B=.ok (.tuple #[.agg #[int i64 a,int i64 c],int i64 bl]) B):=hid fun a c bl tmps B h4 h5 hB=>by
   have k0:B.cell? ⟨w.heap.size+1,0,none⟩=some (int i64 a):=hB.cell 0
   have k1:B.cell? ⟨w.heap.size+1,1,none⟩=some (int i64 c):=hB.cell 1
   simp[results,Tryz.f51,go_sem,k0,k1,h4,h5]
  have R5:=hid hj.out.2.1
  have cg:=hid hk.size
  have HSF:Hid (t=false→a=0∧c=0):=hid fun ht=>by
   have:=KU v xs (by rw[← Ek.out,ht])
   rw[← Ek.out] at this
   simpa [ht] using this
  clear hms hk hm
  simp only[Exit.inBlock,Exit.then]
  go_at_K
  cases t
  ·gi_wp2
   obtain⟨rfl,rfl⟩:=HSF.out zs
   refine dA (VW.out _ _) (fun B hB=>⟨_,LV.out 0 0 9 _ B rfl rfl (((R5.out.set 0 (int i64 0)).set 1 (int i64 0)).below hB zo),rfl,?_⟩) (by have:=cg.out;simp;omega)
   exact((LH.out.setCell (p:=⟨w.heap.size+1,0,none⟩) zF _).setCell (p:=⟨w.heap.size+1,1,none⟩) zF _).trans (hB.mono zo)
  ·gi_wp2
   refine dA (VW.out _ _) (fun B hB=>⟨_,LV.out a c 0 _ B rfl rfl (((R5.out.set 0 (int i64 a)).set 1 (int i64 c)).below hB zo),rfl,?_⟩) (by have:=cg.out;simp;omega)
   exact((LH.out.setCell (p:=⟨w.heap.size+1,0,none⟩) zF _).setCell (p:=⟨w.heap.size+1,1,none⟩) zF _).trans (hB.mono zo)
 case hstop=>
  rintro c pre W' hpre hx hk hm
  exact hx.elim
theorem Below.next{w w1 w2:World}(h:Below w.heap.size w w1)(k:Below w1.heap.size w1 w2):Below w.heap.size w w2:=h.trans (k.mono h.size)
theorem Below.al{w w1:World}(h:Below w.heap.size w w1)(o:Obj):Below w.heap.size w (w1.alloc o):=h.alloc h.size o
def au(b:Bk):List Nat:=(List.range (2 ^ b.nm)).filter fun s=>OQ b s
theorem rZ(b:Bk):bP b (2 ^ b.nm)=(au b).map fun(n:Nat)=>(n:Int):=rfl
theorem lT(b:Bk)(ok:b.Ok):(au b).length≤64:=by
 unfold au
 refine Nat.le_trans (List.length_filter_le _ _) ?_
 rw[List.length_range]
 exact Nat.le_trans (Nat.pow_le_pow_right zD ok.moves.1) zD
theorem Bk.At.up{b:Bk}{w w':World}(h:b.At w w.heap.size)(hb:Below w.heap.size w w'):b.At w' w'.heap.size:=(h.below hb).more hb.size
structure oV(b:Bk)(A:Option Addr)(w:World):Prop where
 at_:b.At w w.heap.size
 row:Rows w w.heap.size 1 A (au b).length (fun i _=>int i64 (((au b).getD i 0:Nat):Int))
theorem oV.below{b:Bk}{A:Option Addr}{w w':World}(h:oV b A w)(hb:Below w.heap.size w w'):oV b A w':=⟨h.at_.up hb,(h.row.below hb).more hb.size⟩
theorem Rows.bS{w:World}{B size n:Nat}{A:Option Addr}{f:Nat→Nat→Value}(h:Rows w B size A n f){p:Addr}(hp:∀ad,A=some ad→0<n→ad.block≠p.block)(v:Value):Rows (w.setCell p v) B size A n f:=fun hn=>by
 obtain⟨ad,e,hb,hc⟩:=h hn
 refine⟨ad,e,hb,fun i j hi hj=>Eq.trans ?_ (hc i j hi hj)⟩
 have hne:(ad.add (i * size+j)).block≠p.block:=by rw[aD];exact hp ad e hn
 exact World.cell?_of_block (Below.heap_setCell _ _ _ _ hne)
theorem R6(b:Bk)(A:Option Addr)(n p:Nat):b.et A n p=.agg (ay b A n p):=by cases b;rfl
theorem nU(b:Bk)(w:World)(h:b.At w w.heap.size)(ok:b.Ok)(hcap:b.ng≤b.gc):CallsIn FF 0 prog 36 #[b.val] w fun e w'=>∃A p,e=.returned (.tuple #[.agg (ay b A (au b).length p),int i64 0])∧oV b A w'∧Below w.heap.size w w'∧∀ad,A=some ad→0<(au b).length→w.heap.size≤ad.block:=by
 refine(Ue b w h ok hcap).mono ?_
 rintro e w' ⟨A,p,rfl,hrow,hb⟩
 have hl:(bP b (2 ^ b.nm)).length=(au b).length:=by rw[rZ,List.length_map]
 refine⟨A,p,by rw[hl,R6],⟨h.up hb,?_⟩,hb,fun ad hA hn=>by
  subst hA
  rcases hrow.2 with⟨h0,_⟩|⟨g',cap,cur,h0,h1,_⟩
  ·injection h0 with h0 _ _;cases h0
  ·injection h0 with h0 _ _;cases h0;exact h1⟩
 have:=aT hrow
 rw[hl] at this
 unfold Ints at this
 intro hn
 obtain⟨ad,e,hb,hc⟩:=this hn
 refine⟨ad,e,hb,fun i j hi hj=>(hc i j hi hj).trans ?_⟩
 rw[rZ]
 congr 2
 simp[List.getD_eq_getElem?_getD,List.getElem?_map,List.getElem?_eq_getElem hi]
theorem Uu(b:Bk)(ok:b.Ok)(hl:∀s∈au b,fG s)(A:Option Addr)(p Bc:Nat)(w:World)(hc:oV b A w)(hb:Whole w Bc 73 (ay b A (au b).length p)):qB FF 71 #[.pointer (some ⟨Bc,0,none⟩)] (aH b (au b)) w:=by
 refine⟨zs,enters_of func71 zk rfl,fun C W hW hC=>?_⟩
 exact J5 (p:=FF.fn) b ok A p (au b) hl (lT b ok) C w.heap.size Bc W (fun x hx=>(hC x hx).2) (hb.below hW hb.lt) (hc.row.below hW) (hc.at_.below hW) hW.size (fun h=>by have:=(hC _ h).1;have:=hb.lt;omega) (fun x hx h=>by have:=(hC _ h).1;omega)
theorem uN(b:Bk)(ok:b.Ok)(hl:∀s∈au b,fG s)(A:Option Addr)(p:Nat)(w:World)(hc:oV b A w):CallsIn FF 0 prog 38 #[.agg (ay b A (au b).length p)] w fun e w'=>∃lb,e=.returned (.func (.func 71) #[] lb)∧qB FF 71 lb (aH b (au b)) w'∧Below w.heap.size w w':=by
 refine(nQ (p:=FF.fn) b A (au b).length p w).mono ?_
 rintro e w' ⟨rfl,hw,hb,-⟩
 exact⟨_,rfl,Uu b ok hl A p _ w' (hc.below hb) hw,hb⟩
theorem vU(b:Bk)(w:World)(h:b.At w w.heap.size)(ok:b.Ok)(hcap:b.ng≤b.gc)(hl:∀s∈au b,fG s)(hlen:(aH b (au b)).length<2 ^ 40):CallsIn FF 0 prog 13 #[b.val] w fun e w'=>e=.returned (.tuple #[int i64 (aH b (au b)).length,int i64 0])∧Below w.heap.size w w':=by
 have HO:=hid fun w h=>nU b w h ok hcap
 have HH:=hid fun A p w hc=>uN b ok hl A p w hc
 have HK:=hid fun lb w h=>WS 71 lb (aH b (au b)) w hlen h
 have HA:=hid h
 obtain⟨n,hn⟩:∃n,n=(au b).length:=⟨_,rfl⟩
 obtain⟨xs,hxs⟩:∃xs,xs=aH b (au b):=⟨_,rfl⟩
 rw[← hn] at HO HH
 rw[← hxs] at HH HK⊢
 clear hn hxs h hcap hl hlen ok
 obtain⟨days,most,gA,ng,gc,g,mA,nm,mc,m,cA,nc,cc,c⟩:=b
 simp only[Bk.val,Bk.cells,ay] at HO HH⊢
 gi_enter func13,ntmps13
 gi_wp2_with (first
  | (gi_at_call 36;refine(HO.out _ (HA.out.up (bw))).mono ?_;rintro e w2 ⟨A,p,rfl,hc2,hb2,-⟩)
  | (gi_at_call 38;refine(HH.out A p _ (hc2.below (bw))).mono ?_;rintro e w4 ⟨lb,rfl,hs4,hb4⟩)
  | (gi_at_call 37;refine(HK.out lb _ hs4).mono ?_;rintro e w5 ⟨rfl,hb5⟩))
 go_ret2
 exact⟨rfl,Below.next (Below.next (Below.al (Below.next (bw) hb2) _) hb4) hb5⟩
def tg:Nat→Good
 | 0=>⟨⟨#[116,101,97]⟩,5,4,3,3⟩
 | _=>⟨⟨#[114,105,99,101]⟩,2,10,5,6⟩
def tm:Nat→Mv
 | 0=>⟨0,0,2,4,4⟩
 | 1=>⟨1,0,3,2,3⟩
 | 2=>⟨2,1,4,0,1⟩
 | _=>⟨0,1,5,10,10⟩
def tc:Nat→Ct
 | 0=>⟨0,10,4,5⟩
 | _=>⟨1,10,5,5⟩
def Tb(most:Int)(G M C:Nat):Bk:=⟨10,most,some ⟨G,0,none⟩,2,2,tg,some ⟨M,0,none⟩,4,4,tm,some ⟨C,0,none⟩,2,2,tc⟩
theorem aR{w:World}{B size n:Nat}{t:TypeId}{cs:Array Value}{f:Nat→Nat→Value}(h:Whole w B t cs)(hc:∀i j,i<n→j<size→cs[i * size+j]? =some (f i j)):Rows w w.heap.size size (some ⟨B,0,none⟩) n f:=fun _=>
 ⟨_,rfl,h.lt,fun i j hi hj=>by
   have e:((⟨B,0,none⟩:Addr).add (i * size+j))=⟨B,i * size+j,none⟩:=by unfold Addr.add;split <;> simp_all
   rw[e,h.cell]
   exact hc i j hi hj⟩
theorem xd(a b:Int)(w:World):CallsIn FF 0 prog 23 #[int i64 a,int i64 b] w fun e w'=>e=.returned (.agg #[int i64 a,int i64 b])∧Below w.heap.size w w':=by
 gi_enter func23,ntmps23
 gi_wp2
 refine bodyPost_ret (v:=.agg #[int i64 a,int i64 b]) (by simp[results,results23,go_sem]) rfl ⟨rfl,bw⟩
theorem UC{lo:Int}{k:Nat}{n:Int}(h:n∈bM lo k):lo≤n∧n<lo+k:=by
 unfold bM at h
 obtain⟨i,hi,rfl⟩:=List.mem_map.1 h
 have:=List.mem_range.1 hi
 omega
theorem L9(b:Bk)(ok:kE b):∀ (n k:Nat) (h:Ht) (s:Nat→Int) (x:Ht),k+n≤b.nm→oW h→x∈kJ b n k h s→oW x
 | 0,k,h,s,x,_,hh,hx=>by
   simp only[kJ] at hx
   split at hx
   ·obtain rfl:x=h:=by simpa using hx
    exact hh
   ·cases hx
 | Nat.succ n,k,h,s,x,hk,hh,hx=>by
   simp only[kJ] at hx
   split at hx
   ·obtain⟨z,hz,hx⟩:=List.mem_flatMap.1 hx
    refine L9 b ok n (k+1) (eT h k z) _ x zo ⟨hh.f,fun i hi=>?_,hh.lies⟩ hx
    have hf:=lQ (ok.2 k zo).few
    have:=UC hz
    have:=hh.m i hi
    unfold eT
    simp only
    split <;> omega
   ·cases hx
theorem kL(b:Bk)(ok:b.Ok)(ls:List Nat)(hl:∀s∈ls,fG s):∀h∈aH b ls,oW h:=fun h hh=>by
 unfold aH at hh
 obtain⟨s,hs,hh⟩:=List.mem_flatMap.1 hh
 unfold jZ at hh
 obtain⟨f,hf,hh⟩:=List.mem_flatMap.1 hh
 have hfi:=tQ b ok.dn b.ng (Nat.le_refl _) f hf
 refine L9 b ok.moves b.nm 0 ⟨f,fun _=>0,s⟩ f h zo ⟨fun i hi=>hfi i hi,fun i _=>zs,?_⟩ hh
 rcases hl s (List.mem_filter.1 hs).1 with rfl|rfl|rfl|rfl <;> simp
theorem Sc(k:Nat)(hk:k<6)(xs:List Ht)(hx:∀h∈xs,oW h)(B:Nat)(w:World)(hB:Whole w B 3 #[int i64 k]):tC FF 48 #[.pointer (some ⟨B,0,none⟩)] xs (fun h=>.bool (h.IY k)) w:=by
 refine⟨zs,enters_of func48 zk rfl,fun W h hh hW=>?_⟩
 have HF:=hid fun W=>oJ h k W (hx h hh).lies hk
 have hB':=hB.below hW hB.lt
 have Cp:=hid hB'
 have hlt:=hB'.lt
 show CallsIn FF 0 prog 48 #[h.val,.pointer (some ⟨B,0,none⟩)] W fun e W'=>e=.returned (.bool (h.IY k))∧Below W.heap.size W W'
 obtain⟨r,hr⟩:∃r,r=h.IY k:=⟨_,rfl⟩
 rw[← hr] at HF⊢
 clear hh hr hB hx
 obtain⟨f,m,li⟩:=h
 simp only[Ht.val,Ht.cells] at HF⊢
 have c0:W.cell? ⟨B,0,none⟩=some (int i64 k):=Cp.out.cell 0
 gi_enter func48,ntmps48
 gi_wp2_with (gi_at_call 49;refine(HF.out _).mono ?_;rintro e w4 ⟨rfl,hb4⟩)
 go_ret
 exact⟨rfl,Below.next (bw) hb4⟩
theorem KA(k:Nat)(hk:k<6)(xs:List Ht)(hx:∀h∈xs,oW h)(B:Nat)(w:World)(hB:Whole w B 3 #[int i64 k]):tC FF 44 #[.pointer (some ⟨B,0,none⟩)] xs (fun h=>int i64 (h.real k)) w:=by
 refine⟨zs,enters_of func44 zk rfl,fun W h hh hW=>?_⟩
 have HF:=hid fun W=>nX h k W (hx h hh).lies hk
 have hB':=hB.below hW hB.lt
 have Cp:=hid hB'
 have hlt:=hB'.lt
 show CallsIn FF 0 prog 44 #[h.val,.pointer (some ⟨B,0,none⟩)] W fun e W'=>e=.returned (int i64 (h.real k))∧Below W.heap.size W W'
 obtain⟨r,hr⟩:∃r,r=h.real k:=⟨_,rfl⟩
 rw[← hr] at HF⊢
 clear hh hr hB hx
 obtain⟨f,m,li⟩:=h
 simp only[Ht.val,Ht.cells] at HF⊢
 have c0:W.cell? ⟨B,0,none⟩=some (int i64 k):=Cp.out.cell 0
 gi_enter func44,ntmps44
 gi_wp2_with (gi_at_call 45;refine(HF.out _).mono ?_;rintro e w4 ⟨rfl,hb4⟩)
 go_ret
 exact⟨rfl,Below.next (bw) hb4⟩
theorem XF(b:Bk)(ok:b.Ok)(A:Option Addr)(n p:Nat)(day:Int)(g:Nat)(hg:g<3)(xs:List Ht)(hx:∀h∈xs,oW h)(Bc Bd Bg:Nat)(w:World)(hA:b.At w w.heap.size)(hc:Whole w Bc 73 (ay b A n p))(hd:Whole w Bd 3 #[int i64 day])(hgg:Whole w Bg 3 #[int i64 g]):tC FF 42 #[.pointer (some ⟨Bc,0,none⟩),.pointer (some ⟨Bd,0,none⟩),.pointer (some ⟨Bg,0,none⟩)] xs (fun h=>int i64 (stk b h day b.nm g)) w:=by
 refine⟨zs,enters_of func42 zk rfl,fun W h hh hW=>?_⟩
 have HF:=hid fun W hA=>gF b h day W hA ok.moves ok.dn.1.2 (hx h hh)
 have HA:=hid (hA.up hW)
 have C1:=hid (hc.below hW hc.lt)
 have D1:=hid (hd.below hW hd.lt)
 have G1:=hid (hgg.below hW hgg.lt)
 have h1:=C1.out.lt
 have h2:=D1.out.lt
 have h3:=G1.out.lt
 show CallsIn FF 0 prog 42 #[h.val,.pointer (some ⟨Bc,0,none⟩),.pointer (some ⟨Bd,0,none⟩),.pointer (some ⟨Bg,0,none⟩)] W fun e W'=>e=.returned (int i64 (stk b h day b.nm g))∧Below W.heap.size W W'
 obtain⟨r,hr⟩:∃r,r=stk b h day b.nm:=⟨_,rfl⟩
 rw[← hr] at HF⊢
 clear hh hr hc hd hgg hx hA ok hW
 obtain⟨w1,hw1⟩:∃w1,w1=W.alloc (.cells h.cells 78):=⟨_,rfl⟩
 have B1:Hid (Below W.heap.size W w1):=hid (by rw[hw1];exact bw)
 have H1:Hid (Whole w1 W.heap.size 78 h.cells):=hid (by rw[hw1];exact Whole.new _ _ _)
 have C2:=hid (C1.out.below B1.out h1)
 have D2:=hid (D1.out.below B1.out h2)
 have G2:=hid (G1.out.below B1.out h3)
 have A2:=hid (HA.out.up B1.out)
 obtain⟨f,m,li⟩:=h
 obtain⟨days,most,gA,ng,gc,gs,mA,nm,mc,ms,cA,nc,cc,cs⟩:=b
 simp only[Ht.val,Ht.cells,Bk.val,Bk.cells,mE] at HF H1⊢
 simp only[ay] at C2
 simp only[Ht.cells] at hw1
 have nK:=hid hw1
 clear hw1
 have q0:∀d os,(grow (redrawn w1 d) os).cell? ⟨Bc,0,none⟩=some (int i64 days):=cell_regrown (C2.out.cell 0)
 have q1:∀d os,(grow (redrawn w1 d) os).cell? ⟨Bc,1,none⟩=some (int i64 most):=cell_regrown (C2.out.cell 1)
 have q2:∀d os,(grow (redrawn w1 d) os).cell? ⟨Bc,2,none⟩=some (.slice gA ng gc):=cell_regrown (C2.out.cell 2)
 have q3:∀d os,(grow (redrawn w1 d) os).cell? ⟨Bc,3,none⟩=some (.slice mA nm mc):=cell_regrown (C2.out.cell 3)
 have q4:∀d os,(grow (redrawn w1 d) os).cell? ⟨Bc,4,none⟩=some (.slice cA nc cc):=cell_regrown (C2.out.cell 4)
 have qd:∀d os,(grow (redrawn w1 d) os).cell? ⟨Bd,0,none⟩=some (int i64 day):=cell_regrown (D2.out.cell 0)
 have qg:∀d os,(grow (redrawn w1 d) os).cell? ⟨Bg,0,none⟩=some (int i64 g):=cell_regrown (G2.out.cell 0)
 have x0:∀d os,(grow (redrawn w1 d) os).cell? ⟨W.heap.size,0,none⟩=some (int i64 (f 0)):=cell_regrown (H1.out.cell 0)
 have x1:∀d os,(grow (redrawn w1 d) os).cell? ⟨W.heap.size,1,none⟩=some (int i64 (f 1)):=cell_regrown (H1.out.cell 1)
 have x2:∀d os,(grow (redrawn w1 d) os).cell? ⟨W.heap.size,2,none⟩=some (int i64 (f 2)):=cell_regrown (H1.out.cell 2)
 have x3:∀d os,(grow (redrawn w1 d) os).cell? ⟨W.heap.size,3,none⟩=some (int i64 (m 0)):=cell_regrown (H1.out.cell 3)
 have x4:∀d os,(grow (redrawn w1 d) os).cell? ⟨W.heap.size,4,none⟩=some (int i64 (m 1)):=cell_regrown (H1.out.cell 4)
 have x5:∀d os,(grow (redrawn w1 d) os).cell? ⟨W.heap.size,5,none⟩=some (int i64 (m 2)):=cell_regrown (H1.out.cell 5)
 have x6:∀d os,(grow (redrawn w1 d) os).cell? ⟨W.heap.size,6,none⟩=some (int i64 (m 3)):=cell_regrown (H1.out.cell 6)
 have x7:∀d os,(grow (redrawn w1 d) os).cell? ⟨W.heap.size,7,none⟩=some (int i64 (m 4)):=cell_regrown (H1.out.cell 7)
 have x8:∀d os,(grow (redrawn w1 d) os).cell? ⟨W.heap.size,8,none⟩=some (int i64 (m 5)):=cell_regrown (H1.out.cell 8)
 have x9:∀d os,(grow (redrawn w1 d) os).cell? ⟨W.heap.size,9,none⟩=some (int i64 li):=cell_regrown (H1.out.cell 9)
 have cS:∀d os,CallsIn FF 0 prog 28 #[.agg #[int i64 days,int i64 most,.slice gA ng gc,.slice mA nm mc,.slice cA nc cc],.agg #[int i64 (f 0),int i64 (f 1),int i64 (f 2),int i64 (m 0),int i64 (m 1),int i64 (m 2),int i64 (m 3),int i64 (m 4),int i64 (m 5),int i64 li],int i64 day] (grow (redrawn w1 d) os) fun e w''=>e=.returned (.agg #[int i64 (r 0),int i64 (r 1),int i64 (r 2)])∧∃p:Regrown,w''=grow (redrawn w1 p.d) p.os:=fun d os=>CallsIn.regrown_of (HF.out _ ((A2.out.below (below_regrown w1 d os)).more (below_regrown w1 d os).size))
 have ix:∀ (u v z:Int) (w:World),(Instr.index 75 (.agg #[int i64 u,int i64 v,int i64 z]) (int i64 0)).run prog w=.ok (int i64 u) w∧(Instr.index 75 (.agg #[int i64 u,int i64 v,int i64 z]) (int i64 1)).run prog w=.ok (int i64 v) w∧(Instr.index 75 (.agg #[int i64 u,int i64 v,int i64 z]) (int i64 2)).run prog w=.ok (int i64 z) w:=fun _ _ _ _=>⟨zk,zk,zk⟩
 have Mn:=fun u v z w=>(ix u v z w).1
 have Mo:=fun u v z w=>(ix u v z w).2.1
 have Mu:=fun u v z w=>(ix u v z w).2.2
 clear ix
 gi_enter func42,ntmps42
 gi_wp2
 rw[← nK.out]
 refine wpIn_region_quiet_below rfl zk zk ?_
 rcases(show g=0∨g=1∨g=2 by omega) with rfl|rfl|rfl
 all_goals
  repeat (quiet_step_in (exact cS _ _))
  refine wpQuietIn_nil ?_
  rintro w' ⟨⟨dq,osq⟩,rfl⟩
  have bE:=below_regrown w1 dq osq
  gi_wp2
  go_ret
  exact⟨rfl,Below.next B1.out bE⟩
theorem qW(b:Bk)(i:Nat)(w:World)(h:b.At w w.heap.size)(ok:b.Ok)(hcap:b.ng≤b.gc)(hi:i<b.ng):CallsIn FF 0 prog 39 #[b.val,int i64 i] w fun e w'=>∃A p,e=.returned (.tuple #[.agg (ay b A (au b).length p),int i64 0])∧oV b A w'∧Below w.heap.size w w':=by
 have HO:=hid fun w h=>nU b w h ok hcap
 have HH:=hid fun(w:World)=>show CallsIn FF 0 prog 74 #[b.val,int i64 i] w fun e w'=>e=.returned (.bool true)∧Below w.heap.size w w' from by
  have:=tV b i w (by unfold maxLen;have:=ok.dn.1.2;omega)
  have e:gI (i:Int) 0 ((b.ng:Int) - 1)=true:=by unfold gI;simp;omega
  rwa[e] at this
 have HA:=hid h
 obtain⟨n,hn⟩:∃n,n=(au b).length:=⟨_,rfl⟩
 obtain⟨CK,Xj⟩:∃CK:Option Addr→World→Prop,CK=fun A w=>oV b A w:=⟨_,rfl⟩
 have ov:Hid (∀w,b.At w w.heap.size→CallsIn FF 0 prog 36 #[b.val] w fun e w'=>∃A p,e=.returned (.tuple #[.agg (ay b A n p),int i64 0])∧CK A w'∧Below w.heap.size w w'∧∀ad,A=some ad→0<n→w.heap.size≤ad.block):=hid fun w h=>by rw[Xj,hn];exact HO.out w h
 have goal:∀ (e:Ending) (w':World),(∃A p,e=.returned (.tuple #[.agg (ay b A n p),int i64 0])∧CK A w'∧Below w.heap.size w w')→∃A p,e=.returned (.tuple #[.agg (ay b A (au b).length p),int i64 0])∧oV b A w'∧Below w.heap.size w w':=fun e w' h=>by rw[Xj,hn] at h;exact h
 refine CallsIn.mono (R:=fun e w'=>∃A p,e=.returned (.tuple #[.agg (ay b A n p),int i64 0])∧CK A w'∧Below w.heap.size w w') ?_ goal
 have Cs:Hid (∀A (w2 w4:World) (q:Addr) (u0 u1 u2 u3 u4 u5:Value),CK A w2→Below w.heap.size w (((((((w4.setCell q u0).setCell ⟨q.block,1,none⟩ u1).setCell ⟨q.block,2,none⟩ u2).setCell ⟨q.block,3,none⟩ u3).setCell ⟨q.block,4,none⟩ u4).setCell ⟨q.block,5,none⟩ u5))→Below w2.heap.size w2 w4→(∀ad,A=some ad→0<n→q.block<ad.block)→CK A (((((((w4.setCell q u0).setCell ⟨q.block,1,none⟩ u1).setCell ⟨q.block,2,none⟩ u2).setCell ⟨q.block,3,none⟩ u3).setCell ⟨q.block,4,none⟩ u4).setCell ⟨q.block,5,none⟩ u5))):=hid fun A w2 w4 q u0 u1 u2 u3 u4 u5 hc hb hb4 hf=>by
  rw[Xj] at hc⊢
  rw[hn] at hf
  refine⟨h.up hb,?_⟩
  have hr:=(hc.row.below hb4).more hb4.size
  have hne:∀ad,A=some ad→0<(au b).length→ad.block≠q.block:=fun ad hA hl=>by have:=hf ad hA hl;omega
  have:=(((((hr.bS hne u0).bS (p:=⟨q.block,1,none⟩) hne u1).bS (p:=⟨q.block,2,none⟩) hne u2).bS (p:=⟨q.block,3,none⟩) hne u3).bS (p:=⟨q.block,4,none⟩) hne u4).bS (p:=⟨q.block,5,none⟩) hne u5
  exact this.more (by simp[World.setCell])
 clear hn Xj h hcap hi ok HO goal
 obtain⟨days,most,gA,ng,gc,g,mA,nm,mc,m,cA,nc,cc,c⟩:=b
 simp only[Bk.val,Bk.cells,ay] at ov HH⊢
 have Y1:Hid (Whole ((w.alloc (.cells #[int i64 days,int i64 most,.slice gA ng gc,.slice mA nm mc,.slice cA nc cc] 26)).alloc (.cells #[int i64 0,int i64 0,.slice none 0 0,.slice none 0 0,.slice none 0 0,.slice none 0 0] 73)) (w.heap.size+1) 73 #[int i64 0,int i64 0,.slice none 0 0,.slice none 0 0,.slice none 0 0,.slice none 0 0]):=hid (by
  have:=Whole.new (w.alloc (.cells #[int i64 days,int i64 most,.slice gA ng gc,.slice mA nm mc,.slice cA nc cc] 26)) 73 #[int i64 0,int i64 0,.slice none 0 0,.slice none 0 0,.slice none 0 0,.slice none 0 0]
  rwa[World.size_alloc] at this)
 gi_enter func39,ntmps39
 gi_wp2_with (first
  | (gi_at_call 36;refine(ov.out _ (HA.out.up (bw))).mono ?_;rintro e w2 ⟨A,p,rfl,hc2,hb2,hf2⟩;have CR:=hid hf2;clear hf2;have HB2:=hid hb2;have CE:=hid hc2;have hl2:w.heap.size+2≤w2.heap.size:=by have:=hb2.size;simpa using this)
  | (gi_at_call 74;refine(HH.out _).mono ?_;rintro e w4 ⟨rfl,hb4⟩;have Au:=hid hb4;have X4:Whole w4 w2.heap.size 73 #[int i64 days,int i64 most,.slice gA ng gc,.slice mA nm mc,.slice cA nc cc,.slice A n p]:=(Whole.new w2 _ _).below hb4 zs;have x0:w4.cell? ⟨w2.heap.size,0,none⟩=some (int i64 days):=X4.cell 0;have x1:w4.cell? ⟨w2.heap.size,1,none⟩=some (int i64 most):=X4.cell 1;have x2:w4.cell? ⟨w2.heap.size,2,none⟩=some (.slice gA ng gc):=X4.cell 2;have x3:w4.cell? ⟨w2.heap.size,3,none⟩=some (.slice mA nm mc):=X4.cell 3;have x4:w4.cell? ⟨w2.heap.size,4,none⟩=some (.slice cA nc cc):=X4.cell 4;have x5:w4.cell? ⟨w2.heap.size,5,none⟩=some (.slice A n p):=X4.cell 5;have Y4:=((Y1.out.below hb2 zs).alloc (.cells #[int i64 days,int i64 most,.slice gA ng gc,.slice mA nm mc,.slice cA nc cc,.slice A n p] 73)).below hb4 zm;have yf:=Y4.thaw;have y0:w4.cell? ⟨w.heap.size+1,0,none⟩=some (int i64 0):=Y4.cell 0;have y1:w4.cell? ⟨w.heap.size+1,1,none⟩=some (int i64 0):=Y4.cell 1;have y2:w4.cell? ⟨w.heap.size+1,2,none⟩=some (.slice none 0 0):=Y4.cell 2;have y3:w4.cell? ⟨w.heap.size+1,3,none⟩=some (.slice none 0 0):=Y4.cell 3;have y4:w4.cell? ⟨w.heap.size+1,4,none⟩=some (.slice none 0 0):=Y4.cell 4;have y5:w4.cell? ⟨w.heap.size+1,5,none⟩=some (.slice none 0 0):=Y4.cell 5))
 have U:=(((((Y4.set 0 (int i64 days)).set 1 (int i64 most)).set 2 (.slice gA ng gc)).set 3 (.slice mA nm mc)).set 4 (.slice cA nc cc)).set 5 (.slice A n p)
 have u0:=U.cell 0
 have u1:=U.cell 1
 have u2:=U.cell 2
 have u3:=U.cell 3
 have u4:=U.cell 4
 have u5:=U.cell 5
 have UB:=hid ((((((((Below.next (Below.al (Below.next (show Below w.heap.size w ((w.alloc (.cells #[int i64 days,int i64 most,.slice gA ng gc,.slice mA nm mc,.slice cA nc cc] 26)).alloc (.cells #[int i64 0,int i64 0,.slice none 0 0,.slice none 0 0,.slice none 0 0,.slice none 0 0] 73)) from bw) HB2.out) (.cells #[int i64 days,int i64 most,.slice gA ng gc,.slice mA nm mc,.slice cA nc cc,.slice A n p] 73)) Au.out).setCell (p:=⟨w.heap.size+1,0,none⟩) zs (int i64 days)).setCell (p:=⟨w.heap.size+1,1,none⟩) zs (int i64 most)).setCell (p:=⟨w.heap.size+1,2,none⟩) zs (.slice gA ng gc)).setCell (p:=⟨w.heap.size+1,3,none⟩) zs (.slice mA nm mc)).setCell (p:=⟨w.heap.size+1,4,none⟩) zs (.slice cA nc cc)).setCell (p:=⟨w.heap.size+1,5,none⟩) zs (.slice A n p)))
 refine bodyPost_ret (v:=.tuple #[.agg #[int i64 days,int i64 most,.slice gA ng gc,.slice mA nm mc,.slice cA nc cc,.slice A n p],int i64 0]) (by simp[results,results39,go_sem,u0,u1,u2,u3,u4,u5]) rfl ⟨A,p,rfl,?_,?_⟩
 ·exact Cs.out A w2 w4 ⟨w.heap.size+1,0,none⟩ _ _ _ _ _ _ CE.out UB.out (Below.next (Below.al (Below.refl _ w2) _) Au.out) fun ad hA hn=>by have:=CR.out ad hA hn;simp at this⊢;omega
 ·exact UB.out
theorem KG(b:Bk)(i:Nat)(w:World)(h:b.At w w.heap.size)(ok:b.Ok)(hcap:b.ng≤b.gc)(hi:i<b.nm):CallsIn FF 0 prog 43 #[b.val,int i64 i] w fun e w'=>∃A p,e=.returned (.tuple #[.agg (ay b A (au b).length p),int i64 0])∧oV b A w'∧Below w.heap.size w w':=by
 have HO:=hid fun w h=>nU b w h ok hcap
 have HH:=hid fun(w:World)=>show CallsIn FF 0 prog 77 #[b.val,int i64 i] w fun e w'=>e=.returned (.bool true)∧Below w.heap.size w w' from by
  have:=Cj b i w (by unfold maxLen;have:=ok.moves.1;omega)
  have e:gI (i:Int) 0 ((b.nm:Int) - 1)=true:=by unfold gI;simp;omega
  rwa[e] at this
 have HA:=hid h
 obtain⟨n,hn⟩:∃n,n=(au b).length:=⟨_,rfl⟩
 obtain⟨CK,Xj⟩:∃CK:Option Addr→World→Prop,CK=fun A w=>oV b A w:=⟨_,rfl⟩
 have ov:Hid (∀w,b.At w w.heap.size→CallsIn FF 0 prog 36 #[b.val] w fun e w'=>∃A p,e=.returned (.tuple #[.agg (ay b A n p),int i64 0])∧CK A w'∧Below w.heap.size w w'∧∀ad,A=some ad→0<n→w.heap.size≤ad.block):=hid fun w h=>by rw[Xj,hn];exact HO.out w h
 have goal:∀ (e:Ending) (w':World),(∃A p,e=.returned (.tuple #[.agg (ay b A n p),int i64 0])∧CK A w'∧Below w.heap.size w w')→∃A p,e=.returned (.tuple #[.agg (ay b A (au b).length p),int i64 0])∧oV b A w'∧Below w.heap.size w w':=fun e w' h=>by rw[Xj,hn] at h;exact h
 refine CallsIn.mono (R:=fun e w'=>∃A p,e=.returned (.tuple #[.agg (ay b A n p),int i64 0])∧CK A w'∧Below w.heap.size w w') ?_ goal
 have Cs:Hid (∀A (w2 w4:World) (q:Addr) (u0 u1 u2 u3 u4 u5:Value),CK A w2→Below w.heap.size w (((((((w4.setCell q u0).setCell ⟨q.block,1,none⟩ u1).setCell ⟨q.block,2,none⟩ u2).setCell ⟨q.block,3,none⟩ u3).setCell ⟨q.block,4,none⟩ u4).setCell ⟨q.block,5,none⟩ u5))→Below w2.heap.size w2 w4→(∀ad,A=some ad→0<n→q.block<ad.block)→CK A (((((((w4.setCell q u0).setCell ⟨q.block,1,none⟩ u1).setCell ⟨q.block,2,none⟩ u2).setCell ⟨q.block,3,none⟩ u3).setCell ⟨q.block,4,none⟩ u4).setCell ⟨q.block,5,none⟩ u5))):=hid fun A w2 w4 q u0 u1 u2 u3 u4 u5 hc hb hb4 hf=>by
  rw[Xj] at hc⊢
  rw[hn] at hf
  refine⟨h.up hb,?_⟩
  have hr:=(hc.row.below hb4).more hb4.size
  have hne:∀ad,A=some ad→0<(au b).length→ad.block≠q.block:=fun ad hA hl=>by have:=hf ad hA hl;omega
  have:=(((((hr.bS hne u0).bS (p:=⟨q.block,1,none⟩) hne u1).bS (p:=⟨q.block,2,none⟩) hne u2).bS (p:=⟨q.block,3,none⟩) hne u3).bS (p:=⟨q.block,4,none⟩) hne u4).bS (p:=⟨q.block,5,none⟩) hne u5
  exact this.more (by simp[World.setCell])
 clear hn Xj h hcap hi ok HO goal
 obtain⟨days,most,gA,ng,gc,g,mA,nm,mc,m,cA,nc,cc,c⟩:=b
 simp only[Bk.val,Bk.cells,ay] at ov HH⊢
 have Y1:Hid (Whole ((w.alloc (.cells #[int i64 days,int i64 most,.slice gA ng gc,.slice mA nm mc,.slice cA nc cc] 26)).alloc (.cells #[int i64 0,int i64 0,.slice none 0 0,.slice none 0 0,.slice none 0 0,.slice none 0 0] 73)) (w.heap.size+1) 73 #[int i64 0,int i64 0,.slice none 0 0,.slice none 0 0,.slice none 0 0,.slice none 0 0]):=hid (by
  have:=Whole.new (w.alloc (.cells #[int i64 days,int i64 most,.slice gA ng gc,.slice mA nm mc,.slice cA nc cc] 26)) 73 #[int i64 0,int i64 0,.slice none 0 0,.slice none 0 0,.slice none 0 0,.slice none 0 0]
  rwa[World.size_alloc] at this)
 gi_enter func43,ntmps43
 gi_wp2_with (first
  | (gi_at_call 36;refine(ov.out _ (HA.out.up (bw))).mono ?_;rintro e w2 ⟨A,p,rfl,hc2,hb2,hf2⟩;have CR:=hid hf2;clear hf2;have HB2:=hid hb2;have CE:=hid hc2;have hl2:w.heap.size+2≤w2.heap.size:=by have:=hb2.size;simpa using this)
  | (gi_at_call 77;refine(HH.out _).mono ?_;rintro e w4 ⟨rfl,hb4⟩;have Au:=hid hb4;have X4:Whole w4 w2.heap.size 73 #[int i64 days,int i64 most,.slice gA ng gc,.slice mA nm mc,.slice cA nc cc,.slice A n p]:=(Whole.new w2 _ _).below hb4 zs;have x0:w4.cell? ⟨w2.heap.size,0,none⟩=some (int i64 days):=X4.cell 0;have x1:w4.cell? ⟨w2.heap.size,1,none⟩=some (int i64 most):=X4.cell 1;have x2:w4.cell? ⟨w2.heap.size,2,none⟩=some (.slice gA ng gc):=X4.cell 2;have x3:w4.cell? ⟨w2.heap.size,3,none⟩=some (.slice mA nm mc):=X4.cell 3;have x4:w4.cell? ⟨w2.heap.size,4,none⟩=some (.slice cA nc cc):=X4.cell 4;have x5:w4.cell? ⟨w2.heap.size,5,none⟩=some (.slice A n p):=X4.cell 5;have Y4:=((Y1.out.below hb2 zs).alloc (.cells #[int i64 days,int i64 most,.slice gA ng gc,.slice mA nm mc,.slice cA nc cc,.slice A n p] 73)).below hb4 zm;have yf:=Y4.thaw;have y0:w4.cell? ⟨w.heap.size+1,0,none⟩=some (int i64 0):=Y4.cell 0;have y1:w4.cell? ⟨w.heap.size+1,1,none⟩=some (int i64 0):=Y4.cell 1;have y2:w4.cell? ⟨w.heap.size+1,2,none⟩=some (.slice none 0 0):=Y4.cell 2;have y3:w4.cell? ⟨w.heap.size+1,3,none⟩=some (.slice none 0 0):=Y4.cell 3;have y4:w4.cell? ⟨w.heap.size+1,4,none⟩=some (.slice none 0 0):=Y4.cell 4;have y5:w4.cell? ⟨w.heap.size+1,5,none⟩=some (.slice none 0 0):=Y4.cell 5))
 have U:=(((((Y4.set 0 (int i64 days)).set 1 (int i64 most)).set 2 (.slice gA ng gc)).set 3 (.slice mA nm mc)).set 4 (.slice cA nc cc)).set 5 (.slice A n p)
 have u0:=U.cell 0
 have u1:=U.cell 1
 have u2:=U.cell 2
 have u3:=U.cell 3
 have u4:=U.cell 4
 have u5:=U.cell 5
 have UB:=hid ((((((((Below.next (Below.al (Below.next (show Below w.heap.size w ((w.alloc (.cells #[int i64 days,int i64 most,.slice gA ng gc,.slice mA nm mc,.slice cA nc cc] 26)).alloc (.cells #[int i64 0,int i64 0,.slice none 0 0,.slice none 0 0,.slice none 0 0,.slice none 0 0] 73)) from bw) HB2.out) (.cells #[int i64 days,int i64 most,.slice gA ng gc,.slice mA nm mc,.slice cA nc cc,.slice A n p] 73)) Au.out).setCell (p:=⟨w.heap.size+1,0,none⟩) zs (int i64 days)).setCell (p:=⟨w.heap.size+1,1,none⟩) zs (int i64 most)).setCell (p:=⟨w.heap.size+1,2,none⟩) zs (.slice gA ng gc)).setCell (p:=⟨w.heap.size+1,3,none⟩) zs (.slice mA nm mc)).setCell (p:=⟨w.heap.size+1,4,none⟩) zs (.slice cA nc cc)).setCell (p:=⟨w.heap.size+1,5,none⟩) zs (.slice A n p)))
 refine bodyPost_ret (v:=.tuple #[.agg #[int i64 days,int i64 most,.slice gA ng gc,.slice mA nm mc,.slice cA nc cc,.slice A n p],int i64 0]) (by simp[results,results43,go_sem,u0,u1,u2,u3,u4,u5]) rfl ⟨A,p,rfl,?_,?_⟩
 ·exact Cs.out A w2 w4 ⟨w.heap.size+1,0,none⟩ _ _ _ _ _ _ CE.out UB.out (Below.next (Below.al (Below.refl _ w2) _) Au.out) fun ad hA hn=>by have:=CR.out ad hA hn;simp at this⊢;omega
 ·exact UB.out
theorem eo(b:Bk)(ok:b.Ok)(A:Option Addr)(n p:Nat)(g:Nat)(hg:g<3)(xs:List Ht)(hx:∀h∈xs,oW h)(Bc Bg:Nat)(w:World)(hA:b.At w w.heap.size)(hc:Whole w Bc 73 (ay b A n p))(hgg:Whole w Bg 3 #[int i64 g]):tC FF 79 #[.pointer (some ⟨Bc,0,none⟩),.pointer (some ⟨Bg,0,none⟩)] xs (fun h=>int i64 (stk b h b.days b.nm g)) w:=by
 refine⟨zs,enters_of func79 zk rfl,fun W h hh hW=>?_⟩
 have HF:=hid fun W hA=>gF b h b.days W hA ok.moves ok.dn.1.2 (hx h hh)
 have HA:=hid (hA.up hW)
 have C1:=hid (hc.below hW hc.lt)
 have G1:=hid (hgg.below hW hgg.lt)
 have h1:=C1.out.lt
 have h3:=G1.out.lt
 show CallsIn FF 0 prog 79 #[h.val,.pointer (some ⟨Bc,0,none⟩),.pointer (some ⟨Bg,0,none⟩)] W fun e W'=>e=.returned (int i64 (stk b h b.days b.nm g))∧Below W.heap.size W W'
 obtain⟨r,hr⟩:∃r,r=stk b h b.days b.nm:=⟨_,rfl⟩
 rw[← hr] at HF⊢
 clear hh hr hc hgg hx hA ok hW
 obtain⟨w1,hw1⟩:∃w1,w1=W.alloc (.cells h.cells 78):=⟨_,rfl⟩
 have B1:Hid (Below W.heap.size W w1):=hid (by rw[hw1];exact bw)
 have H1:Hid (Whole w1 W.heap.size 78 h.cells):=hid (by rw[hw1];exact Whole.new _ _ _)
 have C2:=hid (C1.out.below B1.out h1)
 have G2:=hid (G1.out.below B1.out h3)
 have A2:=hid (HA.out.up B1.out)
 obtain⟨f,m,li⟩:=h
 obtain⟨days,most,gA,ng,gc,gs,mA,nm,mc,ms,cA,nc,cc,cs⟩:=b
 simp only[Ht.val,Ht.cells,Bk.val,Bk.cells,mE] at HF H1⊢
 simp only[ay] at C2
 simp only[Ht.cells] at hw1
 have nK:=hid hw1
 clear hw1
 have q0:∀d os,(grow (redrawn w1 d) os).cell? ⟨Bc,0,none⟩=some (int i64 days):=cell_regrown (C2.out.cell 0)
 have q1:∀d os,(grow (redrawn w1 d) os).cell? ⟨Bc,1,none⟩=some (int i64 most):=cell_regrown (C2.out.cell 1)
 have q2:∀d os,(grow (redrawn w1 d) os).cell? ⟨Bc,2,none⟩=some (.slice gA ng gc):=cell_regrown (C2.out.cell 2)
 have q3:∀d os,(grow (redrawn w1 d) os).cell? ⟨Bc,3,none⟩=some (.slice mA nm mc):=cell_regrown (C2.out.cell 3)
 have q4:∀d os,(grow (redrawn w1 d) os).cell? ⟨Bc,4,none⟩=some (.slice cA nc cc):=cell_regrown (C2.out.cell 4)
 have qg:∀d os,(grow (redrawn w1 d) os).cell? ⟨Bg,0,none⟩=some (int i64 g):=cell_regrown (G2.out.cell 0)
 have x0:∀d os,(grow (redrawn w1 d) os).cell? ⟨W.heap.size,0,none⟩=some (int i64 (f 0)):=cell_regrown (H1.out.cell 0)
 have x1:∀d os,(grow (redrawn w1 d) os).cell? ⟨W.heap.size,1,none⟩=some (int i64 (f 1)):=cell_regrown (H1.out.cell 1)
 have x2:∀d os,(grow (redrawn w1 d) os).cell? ⟨W.heap.size,2,none⟩=some (int i64 (f 2)):=cell_regrown (H1.out.cell 2)
 have x3:∀d os,(grow (redrawn w1 d) os).cell? ⟨W.heap.size,3,none⟩=some (int i64 (m 0)):=cell_regrown (H1.out.cell 3)
 have x4:∀d os,(grow (redrawn w1 d) os).cell? ⟨W.heap.size,4,none⟩=some (int i64 (m 1)):=cell_regrown (H1.out.cell 4)
 have x5:∀d os,(grow (redrawn w1 d) os).cell? ⟨W.heap.size,5,none⟩=some (int i64 (m 2)):=cell_regrown (H1.out.cell 5)
 have x6:∀d os,(grow (redrawn w1 d) os).cell? ⟨W.heap.size,6,none⟩=some (int i64 (m 3)):=cell_regrown (H1.out.cell 6)
 have x7:∀d os,(grow (redrawn w1 d) os).cell? ⟨W.heap.size,7,none⟩=some (int i64 (m 4)):=cell_regrown (H1.out.cell 7)
 have x8:∀d os,(grow (redrawn w1 d) os).cell? ⟨W.heap.size,8,none⟩=some (int i64 (m 5)):=cell_regrown (H1.out.cell 8)
 have x9:∀d os,(grow (redrawn w1 d) os).cell? ⟨W.heap.size,9,none⟩=some (int i64 li):=cell_regrown (H1.out.cell 9)
 have cS:∀d os,CallsIn FF 0 prog 28 #[.agg #[int i64 days,int i64 most,.slice gA ng gc,.slice mA nm mc,.slice cA nc cc],.agg #[int i64 (f 0),int i64 (f 1),int i64 (f 2),int i64 (m 0),int i64 (m 1),int i64 (m 2),int i64 (m 3),int i64 (m 4),int i64 (m 5),int i64 li],int i64 days] (grow (redrawn w1 d) os) fun e w''=>e=.returned (.agg #[int i64 (r 0),int i64 (r 1),int i64 (r 2)])∧∃p:Regrown,w''=grow (redrawn w1 p.d) p.os:=fun d os=>CallsIn.regrown_of (HF.out _ ((A2.out.below (below_regrown w1 d os)).more (below_regrown w1 d os).size))
 have ix:∀ (u v z:Int) (w:World),(Instr.index 75 (.agg #[int i64 u,int i64 v,int i64 z]) (int i64 0)).run prog w=.ok (int i64 u) w∧(Instr.index 75 (.agg #[int i64 u,int i64 v,int i64 z]) (int i64 1)).run prog w=.ok (int i64 v) w∧(Instr.index 75 (.agg #[int i64 u,int i64 v,int i64 z]) (int i64 2)).run prog w=.ok (int i64 z) w:=fun _ _ _ _=>⟨zk,zk,zk⟩
 have Mn:=fun u v z w=>(ix u v z w).1
 have Mo:=fun u v z w=>(ix u v z w).2.1
 have Mu:=fun u v z w=>(ix u v z w).2.2
 clear ix
 gi_enter func79,ntmps79
 gi_wp2
 rw[← nK.out]
 refine wpIn_region_quiet_below rfl zk zk ?_
 rcases(show g=0∨g=1∨g=2 by omega) with rfl|rfl|rfl
 all_goals
  repeat (quiet_step_in (exact cS _ _))
  refine wpQuietIn_nil ?_
  rintro w' ⟨⟨dq,osq⟩,rfl⟩
  have bE:=below_regrown w1 dq osq
  gi_wp2
  go_ret
  exact⟨rfl,Below.next B1.out bE⟩
theorem TF(b:Bk)(ok:b.Ok)(A:Option Addr)(n p:Nat)(g:Nat)(hg:g<3)(xs:List Ht)(hx:∀h∈xs,oW h)(Bc Bg Bd:Nat)(w:World)(hA:b.At w w.heap.size)(hc:Whole w Bc 73 (ay b A n p))(hd:Whole w Bd 3 #[int i64 2])(hgg:Whole w Bg 3 #[int i64 g]):tC FF 57 #[.pointer (some ⟨Bc,0,none⟩),.pointer (some ⟨Bg,0,none⟩),.pointer (some ⟨Bd,0,none⟩)] xs (fun h=>int i64 ((IntKind.i64.wrap ((stk b h b.days b.nm g).tdiv 2)))) w:=by
 refine⟨zs,enters_of func57 zk rfl,fun W h hh hW=>?_⟩
 have HF:=hid fun W hA=>gF b h b.days W hA ok.moves ok.dn.1.2 (hx h hh)
 have HA:=hid (hA.up hW)
 have C1:=hid (hc.below hW hc.lt)
 have D1:=hid (hd.below hW hd.lt)
 have G1:=hid (hgg.below hW hgg.lt)
 have h1:=C1.out.lt
 have h2:=D1.out.lt
 have h3:=G1.out.lt
 show CallsIn FF 0 prog 57 #[h.val,.pointer (some ⟨Bc,0,none⟩),.pointer (some ⟨Bg,0,none⟩),.pointer (some ⟨Bd,0,none⟩)] W fun e W'=>e=.returned (int i64 ((IntKind.i64.wrap ((stk b h b.days b.nm g).tdiv 2))))∧Below W.heap.size W W'
 obtain⟨r,hr⟩:∃r,r=stk b h b.days b.nm:=⟨_,rfl⟩
 rw[← hr] at HF⊢
 clear hh hr hc hd hgg hx hA ok hW
 obtain⟨w1,hw1⟩:∃w1,w1=W.alloc (.cells h.cells 78):=⟨_,rfl⟩
 have B1:Hid (Below W.heap.size W w1):=hid (by rw[hw1];exact bw)
 have H1:Hid (Whole w1 W.heap.size 78 h.cells):=hid (by rw[hw1];exact Whole.new _ _ _)
 have C2:=hid (C1.out.below B1.out h1)
 have D2:=hid (D1.out.below B1.out h2)
 have G2:=hid (G1.out.below B1.out h3)
 have A2:=hid (HA.out.up B1.out)
 obtain⟨f,m,li⟩:=h
 obtain⟨days,most,gA,ng,gc,gs,mA,nm,mc,ms,cA,nc,cc,cs⟩:=b
 simp only[Ht.val,Ht.cells,Bk.val,Bk.cells,mE] at HF H1⊢
 simp only[ay] at C2
 simp only[Ht.cells] at hw1
 have nK:=hid hw1
 clear hw1
 have q0:∀d os,(grow (redrawn w1 d) os).cell? ⟨Bc,0,none⟩=some (int i64 days):=cell_regrown (C2.out.cell 0)
 have q1:∀d os,(grow (redrawn w1 d) os).cell? ⟨Bc,1,none⟩=some (int i64 most):=cell_regrown (C2.out.cell 1)
 have q2:∀d os,(grow (redrawn w1 d) os).cell? ⟨Bc,2,none⟩=some (.slice gA ng gc):=cell_regrown (C2.out.cell 2)
 have q3:∀d os,(grow (redrawn w1 d) os).cell? ⟨Bc,3,none⟩=some (.slice mA nm mc):=cell_regrown (C2.out.cell 3)
 have q4:∀d os,(grow (redrawn w1 d) os).cell? ⟨Bc,4,none⟩=some (.slice cA nc cc):=cell_regrown (C2.out.cell 4)
 have qd:∀d os,(grow (redrawn w1 d) os).cell? ⟨Bd,0,none⟩=some (int i64 2):=cell_regrown (D2.out.cell 0)
 have qg:∀d os,(grow (redrawn w1 d) os).cell? ⟨Bg,0,none⟩=some (int i64 g):=cell_regrown (G2.out.cell 0)
 have x0:∀d os,(grow (redrawn w1 d) os).cell? ⟨W.heap.size,0,none⟩=some (int i64 (f 0)):=cell_regrown (H1.out.cell 0)
 have x1:∀d os,(grow (redrawn w1 d) os).cell? ⟨W.heap.size,1,none⟩=some (int i64 (f 1)):=cell_regrown (H1.out.cell 1)
 have x2:∀d os,(grow (redrawn w1 d) os).cell? ⟨W.heap.size,2,none⟩=some (int i64 (f 2)):=cell_regrown (H1.out.cell 2)
 have x3:∀d os,(grow (redrawn w1 d) os).cell? ⟨W.heap.size,3,none⟩=some (int i64 (m 0)):=cell_regrown (H1.out.cell 3)
 have x4:∀d os,(grow (redrawn w1 d) os).cell? ⟨W.heap.size,4,none⟩=some (int i64 (m 1)):=cell_regrown (H1.out.cell 4)
 have x5:∀d os,(grow (redrawn w1 d) os).cell? ⟨W.heap.size,5,none⟩=some (int i64 (m 2)):=cell_regrown (H1.out.cell 5)
 have x6:∀d os,(grow (redrawn w1 d) os).cell? ⟨W.heap.size,6,none⟩=some (int i64 (m 3)):=cell_regrown (H1.out.cell 6)
 have x7:∀d os,(grow (redrawn w1 d) os).cell? ⟨W.heap.size,7,none⟩=some (int i64 (m 4)):=cell_regrown (H1.out.cell 7)
 have x8:∀d os,(grow (redrawn w1 d) os).cell? ⟨W.heap.size,8,none⟩=some (int i64 (m 5)):=cell_regrown (H1.out.cell 8)
 have x9:∀d os,(grow (redrawn w1 d) os).cell? ⟨W.heap.size,9,none⟩=some (int i64 li):=cell_regrown (H1.out.cell 9)
 have cS:∀d os,CallsIn FF 0 prog 28 #[.agg #[int i64 days,int i64 most,.slice gA ng gc,.slice mA nm mc,.slice cA nc cc],.agg #[int i64 (f 0),int i64 (f 1),int i64 (f 2),int i64 (m 0),int i64 (m 1),int i64 (m 2),int i64 (m 3),int i64 (m 4),int i64 (m 5),int i64 li],int i64 days] (grow (redrawn w1 d) os) fun e w''=>e=.returned (.agg #[int i64 (r 0),int i64 (r 1),int i64 (r 2)])∧∃p:Regrown,w''=grow (redrawn w1 p.d) p.os:=fun d os=>CallsIn.regrown_of (HF.out _ ((A2.out.below (below_regrown w1 d os)).more (below_regrown w1 d os).size))
 have ix:∀ (u v z:Int) (w:World),(Instr.index 75 (.agg #[int i64 u,int i64 v,int i64 z]) (int i64 0)).run prog w=.ok (int i64 u) w∧(Instr.index 75 (.agg #[int i64 u,int i64 v,int i64 z]) (int i64 1)).run prog w=.ok (int i64 v) w∧(Instr.index 75 (.agg #[int i64 u,int i64 v,int i64 z]) (int i64 2)).run prog w=.ok (int i64 z) w:=fun _ _ _ _=>⟨zk,zk,zk⟩
 have Mn:=fun u v z w=>(ix u v z w).1
 have Mo:=fun u v z w=>(ix u v z w).2.1
 have Mu:=fun u v z w=>(ix u v z w).2.2
 clear ix
 gi_enter func57,ntmps57
 gi_wp2
 rw[← nK.out]
 refine wpIn_region_quiet_below rfl zk zk ?_
 rcases(show g=0∨g=1∨g=2 by omega) with rfl|rfl|rfl
 all_goals
  repeat (quiet_step_in (exact cS _ _))
  refine wpQuietIn_nil ?_
  rintro w' ⟨⟨dq,osq⟩,rfl⟩
  have bE:=below_regrown w1 dq osq
  gi_wp2
  go_ret
  exact⟨rfl,Below.next B1.out bE⟩
end
end Go.Proofs.YtmjjocnfidnelaaGreat
