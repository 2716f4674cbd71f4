/- K2 HS HX HW -/
import Derived.Test.YthaelabgfnnebaaGreatA9
set_option maxRecDepth 100000
set_option maxHeartbeats 16000000
set_option linter.unusedVariables false
set_option linter.unusedSectionVars false
open Go.IntKind(i64)
open Go.Lib(hid)
open Go.Proofs.Tryz
open Go.Value(int)
namespace Go.Proofs.YthaelabgfnnebaaGreat
section
open Go.RowKit
open Go.Sort (grow)
attribute [local go_sem] Oper.semAt_some
def bY(v:Ht→Int)(pre:List Ht):Int × Int × Bool:=pre.foldl (fun s h=>if s.2.2 then(min s.1 (v h),max s.2.1 (v h),true) else(v h,v h,true)) (0,0,false)
theorem xS(v:Ht→Int)(pre:List Ht)(h:Ht):bY v (pre ++ [h])=if (bY v pre).2.2 then(min (bY v pre).1 (v h),max (bY v pre).2.1 (v h),true) else(v h,v h,true):=by unfold bY;rw[List.foldl_append];rfl
theorem KC(v:Ht→Int)(xs:List Ht)(h:(bY v xs).2.2=false):bY v xs=(0,0,false):=by
 rcases List.eq_nil_or_concat xs with rfl|⟨l,b,rfl⟩
 ·rfl
 ·rw[List.concat_eq_append,xS] at h
  split at h <;> simp at h
theorem Er(gf:Nat)(lb:Array Value)(g:Nat)(lg:Array Value)(v:Ht→Int)(xs:List Ht)(w:World)(h:ny FF gf lb xs w)(hg:sI FF g lg xs (fun h=>int i64 (v h)) w):CallsIn FF 0 prog 43 #[.func (.func gf) #[] lb,.func (.func g) #[] lg] w fun e w'=>e=.returned (.tuple #[.agg #[int i64 (bY v xs).1,int i64 (bY v xs).2.1],int i64 (if (bY v xs).2.2 then 0 else 9)])∧Below w.heap.size w w':=by
 obtain⟨SS,hSS⟩:∃SS,SS=bY v xs:=⟨_,rfl⟩
 rw[← hSS]
 have AT:=hid hSS
 clear hSS
 obtain⟨hfn,Md,hit⟩:=h
 have HIT:=hid hit
 have Qg:=hid Md
 obtain⟨hgf,hge,hgc⟩:=hg
 rw[qz] at hgf
 have HG:=hid hgc
 clear hit Md hgc
 refine callsIn_of_wp_marks func43 rfl zs ?_ rfl
 simp only[ntmps43,List.size_toArray,List.length_cons,List.length_nil,Nat.reduceAdd,Nat.reduceSub,Array.replicate_succ,Array.replicate_zero,List.push_toArray,List.append_toArray,List.nil_append,List.cons_append]
 gi_wp2
 obtain⟨wa,SI⟩:∃wa,wa=w.alloc (.cells #[.func (.func g) #[] lg] 93):=⟨_,rfl⟩
 obtain⟨wb,hwb⟩:∃wb,wb=wa.alloc (.cells #[int i64 0,int i64 0] 38):=⟨_,rfl⟩
 obtain⟨wc,hwc⟩:∃wc,wc=wb.alloc (.cells #[int i64 0,int i64 0] 38):=⟨_,rfl⟩
 obtain⟨w1,hw1⟩:∃w1,w1=wc.alloc (.cells #[.bool false] 4):=⟨_,rfl⟩
 have sa:wa.heap.size=w.heap.size+1:=by rw[SI];simp
 have sb:wb.heap.size=w.heap.size+1+1:=by rw[hwb];simp[sa]
 have sc:wc.heap.size=w.heap.size+1+1+1:=by rw[hwc];simp[sb]
 have hs1:w1.heap.size=w.heap.size+4:=by rw[hw1];simp[sc]
 have B1:Hid (Below w.heap.size w w1):=hid (by rw[hw1,hwc,hwb,SI];exact bw)
 have F1:Hid (Whole w1 w.heap.size 93 #[.func (.func g) #[] lg]):=hid (by rw[hw1,hwc,hwb,SI];exact(((Whole.new _ _ _).alloc _).alloc _).alloc _)
 have R1:Hid (Whole w1 (w.heap.size+1) 38 #[int i64 0,int i64 0]):=hid (by rw[← sa,hw1,hwc,hwb];exact((Whole.new _ _ _).alloc _).alloc _)
 have S1:Hid (Whole w1 (w.heap.size+1+1) 38 #[int i64 0,int i64 0]):=hid (by rw[← sb,hw1,hwc];exact(Whole.new _ _ _).alloc _)
 have T1:Hid (Whole w1 (w.heap.size+1+1+1) 4 #[.bool false]):=hid (by rw[← sc,hw1];exact Whole.new _ _ _)
 rw[← SI,← hwb,← hwc,← hw1]
 clear hw1 SI hwb hwc sa sb sc
 obtain⟨CC,RV⟩:∃CC:Nat→Prop,CC=fun x=>x=w.heap.size+1+1∨x=w.heap.size+1+1+1:=⟨_,rfl⟩
 have mY:∀x,CC x↔x=w.heap.size+1+1∨x=w.heap.size+1+1+1:=fun x=>by rw[RV]
 clear RV
 refine iJ (C:=CC) rfl rfl (gf:=gf) (lb:=lb) rfl hfn Qg.out (encs:=fun h:Ht=>#[h.val]) (xs:=xs)
  (fun x hx=>by have:=(mY x).1 hx;omega) ?hseq (fun _=>rfl) (fun pre W'=>Hid (Whole W' w.heap.size 93 #[.func (.func g) #[] lg]∧Whole W' (w.heap.size+1) 38 #[int i64 0,int i64 0]∧Whole W' (w.heap.size+1+1) 38 #[int i64 (bY v pre).1,int i64 (bY v pre).2.1]∧Whole W' (w.heap.size+1+1+1) 4 #[.bool (bY v pre).2.2])) (fun c pre W'=>False)
  (fun pre A B h hb=>hid ⟨h.out.1.below hb zo,h.out.2.1.below hb zo,h.out.2.2.1.below hb zo,h.out.2.2.2.below hb zo⟩) (fun c pre A B h hb=>h.elim) (hid ⟨F1.out,R1.out,S1.out,T1.out⟩) ?gB ?hdone ?hstop
 case hseq=>exact fun W2 hb2 hs2=>HIT.out _ W2 (B1.out.trans (hb2.mono B1.out.size)) fun x hx=>by rw[mY] at hx;omega
 case gB=>
  intro l' pre h A hl' hpre hj hk hsz hrec
  have hsn:=xS v pre h
  obtain⟨st',hst'⟩:∃st',st'=bY v (pre ++ [h]):=⟨_,rfl⟩
  obtain⟨vh,ZH⟩:∃vh,vh=v h:=⟨_,rfl⟩
  rw[← hst'] at hsn⊢
  rw[← ZH] at hsn
  obtain⟨⟨a,c,t⟩,hst⟩:∃st,st=bY v pre:=⟨_,rfl⟩
  rw[← hst] at hj hsn
  simp only at hj hsn
  clear hst' hst
  have VX:=fun W hW=>HG.out W h (fH hpre) hW
  rw[← ZH] at VX
  clear ZH
  obtain⟨hf,hmm,uz⟩:=h
  simp only[Ht.val,Ht.cells]
  simp only[Ht.val,Ht.cells] at VX
  gi_wp2
  refine⟨bw,fun W2 hS=>?_⟩
  have ow:Below (w.heap.size+4) A W2:=((Below.refl _ A).alloc zo _).trans (hS.below zo)
  have X2:Whole W2 A.heap.size 88 (⟨hf,hmm,uz⟩:Ht).cells:=(Whole.new A _ _).of (hS.block _ zo)
  have F2:=hid (hj.out.1.below ow zo)
  have R2:=hid (hj.out.2.1.below ow zo)
  have S2:=hid (hj.out.2.2.1.below ow zo)
  have T2:=hid (hj.out.2.2.2.below ow zo)
  have q0:W2.cell? ⟨w.heap.size,0,none⟩=some (.func (.func g) #[] lg):=F2.out.cell 0
  have x0:W2.cell? ⟨A.heap.size,0,none⟩=some (int i64 (hf 0)):=X2.cell 0
  have x1:W2.cell? ⟨A.heap.size,1,none⟩=some (int i64 (hf 1)):=X2.cell 1
  have x2:W2.cell? ⟨A.heap.size,2,none⟩=some (int i64 (hf 2)):=X2.cell 2
  have x3:W2.cell? ⟨A.heap.size,3,none⟩=some (int i64 (hmm 0)):=X2.cell 3
  have x4:W2.cell? ⟨A.heap.size,4,none⟩=some (int i64 (hmm 1)):=X2.cell 4
  have x5:W2.cell? ⟨A.heap.size,5,none⟩=some (int i64 (hmm 2)):=X2.cell 5
  have x6:W2.cell? ⟨A.heap.size,6,none⟩=some (int i64 (hmm 3)):=X2.cell 6
  have x7:W2.cell? ⟨A.heap.size,7,none⟩=some (int i64 (hmm 4)):=X2.cell 7
  have x8:W2.cell? ⟨A.heap.size,8,none⟩=some (int i64 (hmm 5)):=X2.cell 8
  have x9:W2.cell? ⟨A.heap.size,9,none⟩=some (int i64 uz):=X2.cell 9
  have kh:=hid (VX W2 ((B1.out.trans (hk.below (n:=w.heap.size) (fun b hb hc=>by have:=(mY b).1 hc;omega) zo)).trans (ow.mono zo)))
  have Za:=hid hsn
  clear X2 ow VX hsn
  have FIN:=hid (show ∀W5,Keeps CC W2 W5→Whole W5 w.heap.size 93 #[.func (.func g) #[] lg]→Whole W5 (w.heap.size+1) 38 #[int i64 0,int i64 0]→Whole W5 (w.heap.size+1+1) 38 #[int i64 st'.1,int i64 st'.2.1]→Whole W5 (w.heap.size+1+1+1) 4 #[.bool st'.2.2]→
   vN CC (fun W'=>Hid (Whole W' w.heap.size 93 #[.func (.func g) #[] lg]∧Whole W' (w.heap.size+1) 38 #[int i64 0,int i64 0]∧Whole W' (w.heap.size+1+1) 38 #[int i64 st'.1,int i64 st'.2.1]∧Whole W' (w.heap.size+1+1+1) 4 #[.bool st'.2.2])) (fun c W'=>False) W2 .normal {tmps:=#[],defers:=[] } W5 from fun W5 k f r s t=>⟨k,hid ⟨f,r,s,t⟩⟩)
  cases t
  ·gi_wp2_with (refine kh.out.mono ?_;rintro e W4 ⟨rfl,hb4⟩;have S4:=S2.out.below hb4 S2.out.lt;have T4:=T2.out.below hb4 T2.out.lt;have c7:W4.cell? ⟨w.heap.size+1+1+1,0,none⟩=some (.bool false):=T4.cell 0;have c60:W4.cell? ⟨w.heap.size+1+1,0,none⟩=some (int i64 a):=S4.cell 0;have c61:W4.cell? ⟨w.heap.size+1+1,1,none⟩=some (int i64 c):=S4.cell 1;have f7:=T4.thaw;have f6:=S4.thaw)
   simp only[Bool.false_eq_true,if_false] at Za
   refine FIN.out _ (Keeps.set (Keeps.set (Keeps.set (Keeps.set (Keeps.set (Keeps.bJ hb4) ((mY _).2 (.inl rfl)) _) ((mY _).2 (.inl rfl)) _) ((mY _).2 (.inr rfl)) _) ((mY _).2 (.inl rfl)) _) ((mY _).2 (.inl rfl)) _)
    ((((((F2.out.below hb4 F2.out.lt).other zF _).other zF _).other zF _).other zF _).other zF _)
    ((((((R2.out.below hb4 R2.out.lt).other zF _).other zF _).other zF _).other zF _).other zF _) ?_ ?_
   ·rw[Za.out]
    exact((((S4.set 0 (int i64 vh)).set 1 (int i64 vh)).other zF _).set 0 (int i64 vh)).set 1 (int i64 vh)
   ·rw[Za.out]
    exact((((T4.other zF _).other zF _).set 0 (.bool true)).other zF _).other zF _
  ·gi_wp2_with (refine kh.out.mono ?_;rintro e W4 ⟨rfl,hb4⟩;have S4:=S2.out.below hb4 S2.out.lt;have T4:=T2.out.below hb4 T2.out.lt;have c7:W4.cell? ⟨w.heap.size+1+1+1,0,none⟩=some (.bool true):=T4.cell 0;have c60:W4.cell? ⟨w.heap.size+1+1,0,none⟩=some (int i64 a):=S4.cell 0;have c61:W4.cell? ⟨w.heap.size+1+1,1,none⟩=some (int i64 c):=S4.cell 1;have f7:=T4.thaw;have f6:=S4.thaw)
   simp only[if_true] at Za
   refine FIN.out _ (Keeps.set (Keeps.set (Keeps.bJ hb4) ((mY _).2 (.inl rfl)) _) ((mY _).2 (.inl rfl)) _) (((F2.out.below hb4 F2.out.lt).other zF _).other zF _) (((R2.out.below hb4 R2.out.lt).other zF _).other zF _) ?_ ?_
   ·rw[Za.out]
    exact(S4.set 0 (int i64 (min a vh))).set 1 (int i64 (max c vh))
   ·rw[Za.out]
    exact(T4.other zF _).other zF _
 case hdone=>
  intro W' hj hk hm
  rw[← AT.out] at hj
  have hms:Marks w1.heap.size (w1.heap.size+1) [{target:=.collected w1.heap.size,args:=#[] }] W':=⟨_,rfl,Nat.le_refl _,Nat.lt_succ_self _,hm,trivial⟩
  have Lg:Hid (Below w.heap.size w W'):=hid (B1.out.trans (hk.below (n:=w.heap.size) (fun b hb hc=>by have:=(mY b).1 hc;omega) zo))
  obtain⟨a,c,t⟩:=SS
  simp only at hj⊢
  have c40:W'.cell? ⟨w.heap.size+1,0,none⟩=some (int i64 0):=hj.out.2.1.cell 0
  have c41:W'.cell? ⟨w.heap.size+1,1,none⟩=some (int i64 0):=hj.out.2.1.cell 1
  have f4:=hj.out.2.1.thaw
  have c60:W'.cell? ⟨w.heap.size+1+1,0,none⟩=some (int i64 a):=hj.out.2.2.1.cell 0
  have c61:W'.cell? ⟨w.heap.size+1+1,1,none⟩=some (int i64 c):=hj.out.2.2.1.cell 1
  have c7:W'.cell? ⟨w.heap.size+1+1+1,0,none⟩=some (.bool t):=hj.out.2.2.2.cell 0
  rw[hs1] at hms
  have Vs:Hid (∀u z,Marks (w.heap.size+4) (w.heap.size+4+1) [{target:=.collected (w.heap.size+4),args:=#[] }] ((W'.setCell ⟨w.heap.size+1,0,none⟩ u).setCell ⟨w.heap.size+1,1,none⟩ z)):=hid fun u z=>hms.of fun r h1 h2=>(Below.heap_setCell _ _ _ _ zF).trans (Below.heap_setCell _ _ _ _ zF)
  have LV:Hid (∀ (a c bl:Int) (tmps:Array Value) (B:World),tmps[4]?.getD undef=.pointer (some ⟨w.heap.size+1,0,none⟩)→tmps[5]?.getD undef=int i64 bl→Whole B (w.heap.size+1) 38 #[int i64 a,int i64 c]→(results Tryz.f43 tmps).run prog B=.ok (.tuple #[.agg #[int i64 a,int i64 c],int i64 bl]) B):=hid fun a c bl tmps B h4 h5 hB=>by
   have k0:B.cell? ⟨w.heap.size+1,0,none⟩=some (int i64 a):=hB.cell 0
   have k1:B.cell? ⟨w.heap.size+1,1,none⟩=some (int i64 c):=hB.cell 1
   simp[results,Tryz.f43,go_sem,k0,k1,h4,h5]
  have R5:=hid hj.out.2.1
  have ao:=hid hk.size
  have HSF:Hid (t=false→a=0∧c=0):=hid fun ht=>by
   have:=KC v xs (by rw[← AT.out,ht])
   rw[← AT.out] at this
   simpa [ht] using this
  clear hms hk hm
  simp only[Exit.inBlock,Exit.then]
  go_at_K
  cases t
  ·gi_wp2
   obtain⟨rfl,rfl⟩:=HSF.out zs
   refine dw (Vs.out _ _) (fun B hB=>⟨_,LV.out 0 0 9 _ B rfl rfl (((R5.out.set 0 (int i64 0)).set 1 (int i64 0)).below hB zo),rfl,?_⟩) (by have:=ao.out;simp;omega)
   exact((Lg.out.setCell (p:=⟨w.heap.size+1,0,none⟩) zF _).setCell (p:=⟨w.heap.size+1,1,none⟩) zF _).trans (hB.mono zo)
  ·gi_wp2
   refine dw (Vs.out _ _) (fun B hB=>⟨_,LV.out a c 0 _ B rfl rfl (((R5.out.set 0 (int i64 a)).set 1 (int i64 c)).below hB zo),rfl,?_⟩) (by have:=ao.out;simp;omega)
   exact((Lg.out.setCell (p:=⟨w.heap.size+1,0,none⟩) zF _).setCell (p:=⟨w.heap.size+1,1,none⟩) zF _).trans (hB.mono zo)
 case hstop=>
  rintro c pre W' hpre hx hk hm
  exact hx.elim
theorem Below.next{w w1 w2:World}(h:Below w.heap.size w w1)(k:Below w1.heap.size w1 w2):Below w.heap.size w w2:=h.trans (k.mono h.size)
theorem Below.al{w w1:World}(h:Below w.heap.size w w1)(o:Obj):Below w.heap.size w (w1.alloc o):=h.alloc h.size o
def ak(b:Bk):List Nat:=(List.range (2 ^ b.nm)).filter fun s=>Ou b s
theorem rG(b:Bk):bP b (2 ^ b.nm)=(ak b).map fun(n:Nat)=>(n:Int):=rfl
theorem gF(b:Bk)(ok:b.Ok):(ak b).length≤64:=by
 unfold ak
 refine Nat.le_trans (List.length_filter_le _ _) ?_
 rw[List.length_range]
 exact Nat.le_trans (Nat.pow_le_pow_right zD ok.moves.1) zD
theorem Bk.At.up{b:Bk}{w w':World}(h:b.At w w.heap.size)(hb:Below w.heap.size w w'):b.At w' w'.heap.size:=(h.below hb).more hb.size
structure om(b:Bk)(A:Option Addr)(w:World):Prop where
 at_:b.At w w.heap.size
 row:Rows w w.heap.size 1 A (ak b).length (fun i _=>int i64 (((ak b).getD i 0:Nat):Int))
theorem om.below{b:Bk}{A:Option Addr}{w w':World}(h:om b A w)(hb:Below w.heap.size w w'):om b A w':=⟨h.at_.up hb,(h.row.below hb).more hb.size⟩
theorem Rows.bT{w:World}{B size n:Nat}{A:Option Addr}{f:Nat→Nat→Value}(h:Rows w B size A n f){p:Addr}(hp:∀ad,A=some ad→0<n→ad.block≠p.block)(v:Value):Rows (w.setCell p v) B size A n f:=fun hn=>by
 obtain⟨ad,e,hb,hc⟩:=h hn
 refine⟨ad,e,hb,fun i j hi hj=>Eq.trans ?_ (hc i j hi hj)⟩
 have hne:(ad.add (i * size+j)).block≠p.block:=by rw[aH];exact hp ad e hn
 exact World.cell?_of_block (Below.heap_setCell _ _ _ _ hne)
theorem RG(b:Bk)(A:Option Addr)(n p:Nat):b.cD A n p=.agg (aA b A n p):=by cases b;rfl
theorem mF(b:Bk)(w:World)(h:b.At w w.heap.size)(ok:b.Ok)(hcap:b.ng≤b.gc):CallsIn FF 0 prog 33 #[b.val] w fun e w'=>∃A p,e=.returned (.tuple #[.agg (aA b A (ak b).length p),int i64 0])∧om b A w'∧Below w.heap.size w w'∧∀ad,A=some ad→0<(ak b).length→w.heap.size≤ad.block:=by
 refine(TD b w h ok hcap).mono ?_
 rintro e w' ⟨A,p,rfl,hrow,hb⟩
 have hl:(bP b (2 ^ b.nm)).length=(ak b).length:=by rw[rG,List.length_map]
 refine⟨A,p,by rw[hl,RG],⟨h.up hb,?_⟩,hb,fun ad hA hn=>by
  subst hA
  rcases hrow.2 with⟨h0,_⟩|⟨g',cap,cur,h0,h1,_⟩
  ·injection h0 with h0 _ _;cases h0
  ·injection h0 with h0 _ _;cases h0;exact h1⟩
 have:=dA hrow
 rw[hl] at this
 unfold Ints at this
 intro hn
 obtain⟨ad,e,hb,hc⟩:=this hn
 refine⟨ad,e,hb,fun i j hi hj=>(hc i j hi hj).trans ?_⟩
 rw[rG]
 congr 2
 simp[List.getD_eq_getElem?_getD,List.getElem?_map,List.getElem?_eq_getElem hi]
theorem TT(b:Bk)(ok:b.Ok)(hl:∀s∈ak b,dN s)(A:Option Addr)(p Bc:Nat)(w:World)(hc:om b A w)(hb:Whole w Bc 76 (aA b A (ak b).length p)):ny FF 76 #[.pointer (some ⟨Bc,0,none⟩)] (aG b (ak b)) w:=by
 refine⟨zs,enters_of func76 zk rfl,fun C W hW hC=>?_⟩
 exact JL (p:=FF.fn) b ok A p (ak b) hl (gF b ok) C w.heap.size Bc W (fun x hx=>(hC x hx).2) (hb.below hW hb.lt) (hc.row.below hW) (hc.at_.below hW) hW.size (fun h=>by have:=(hC _ h).1;have:=hb.lt;omega) (fun x hx h=>by have:=(hC _ h).1;omega)
theorem uh(b:Bk)(ok:b.Ok)(hl:∀s∈ak b,dN s)(A:Option Addr)(p:Nat)(w:World)(hc:om b A w):CallsIn FF 0 prog 40 #[.agg (aA b A (ak b).length p)] w fun e w'=>∃lb,e=.returned (.func (.func 76) #[] lb)∧ny FF 76 lb (aG b (ak b)) w'∧Below w.heap.size w w':=by
 refine(nH (p:=FF.fn) b A (ak b).length p w).mono ?_
 rintro e w' ⟨rfl,hw,hb,-⟩
 exact⟨_,rfl,TT b ok hl A p _ w' (hc.below hb) hw,hb⟩
theorem gu(b:Bk)(w:World)(h:b.At w w.heap.size)(ok:b.Ok)(hcap:b.ng≤b.gc)(hl:∀s∈ak b,dN s)(hlen:(aG b (ak b)).length<2 ^ 40):CallsIn FF 0 prog 14 #[b.val] w fun e w'=>e=.returned (.tuple #[int i64 (aG b (ak b)).length,int i64 0])∧Below w.heap.size w w':=by
 have HO:=hid fun w h=>mF b w h ok hcap
 have HH:=hid fun A p w hc=>uh b ok hl A p w hc
 have HK:=hid fun lb w h=>Wj 76 lb (aG b (ak b)) w hlen h
 have HA:=hid h
 obtain⟨n,hn⟩:∃n,n=(ak b).length:=⟨_,rfl⟩
 obtain⟨xs,hxs⟩:∃xs,xs=aG b (ak b):=⟨_,rfl⟩
 rw[← hn] at HO HH
 rw[← hxs] at HH HK⊢
 clear hn hxs h hcap hl hlen ok
 obtain⟨days,most,gA,ng,gc,g,mA,nm,mc,m,cA,nc,cc,c⟩:=b
 simp only[Bk.val,Bk.cells,aA] at HO HH⊢
 gi_enter func14,ntmps14
 gi_wp2_with (first
  | (gi_at_call 33;refine(HO.out _ (HA.out.up (bw))).mono ?_;rintro e w2 ⟨A,p,rfl,hc2,hb2,-⟩)
  | (gi_at_call 40;refine(HH.out A p _ (hc2.below (bw))).mono ?_;rintro e w4 ⟨lb,rfl,hs4,hb4⟩)
  | (gi_at_call 46;refine(HK.out lb _ hs4).mono ?_;rintro e w5 ⟨rfl,hb5⟩))
 go_ret2
 exact⟨rfl,Below.next (Below.next (Below.al (Below.next (bw) hb2) _) hb4) hb5⟩
theorem Ud{lo:Int}{k:Nat}{n:Int}(h:n∈bC lo k):lo≤n∧n<lo+k:=by
 unfold bC at h
 obtain⟨i,hi,rfl⟩:=List.mem_map.1 h
 have:=List.mem_range.1 hi
 omega
theorem LC(b:Bk)(ok:kr b):∀ (n k:Nat) (h:Ht) (s:Nat→Int) (x:Ht),k+n≤b.nm→oM h→x∈dO b n k h s→oM x
 | 0,k,h,s,x,_,hh,hx=>by
   simp only[dO] at hx
   split at hx
   ·obtain rfl:x=h:=by simpa using hx
    exact hh
   ·cases hx
 | Nat.succ n,k,h,s,x,hk,hh,hx=>by
   simp only[dO] at hx
   split at hx
   ·obtain⟨z,hz,hx⟩:=List.mem_flatMap.1 hx
    refine LC b ok n (k+1) (bH h k z) _ x zo ⟨hh.f,fun i hi=>?_,hh.lies⟩ hx
    have hf:=jK (ok.2 k zo).few
    have:=Ud hz
    have:=hh.m i hi
    unfold bH
    simp only
    split <;> omega
   ·cases hx
theorem kH(b:Bk)(ok:b.Ok)(ls:List Nat)(hl:∀s∈ls,dN s):∀h∈aG b ls,oM h:=fun h hh=>by
 unfold aG at hh
 obtain⟨s,hs,hh⟩:=List.mem_flatMap.1 hh
 unfold dD at hh
 obtain⟨f,hf,hh⟩:=List.mem_flatMap.1 hh
 have hfi:=sS b ok.bM b.ng (Nat.le_refl _) f hf
 refine LC b ok.moves b.nm 0 ⟨f,fun _=>0,s⟩ f h zo ⟨fun i hi=>hfi i hi,fun i _=>zs,?_⟩ hh
 exact hl s (List.mem_filter.1 hs).1
theorem RN(k:Nat)(hk:k<6)(xs:List Ht)(hx:∀h∈xs,oM h)(B:Nat)(w:World)(hB:Whole w B 3 #[int i64 k]):sI FF 60 #[.pointer (some ⟨B,0,none⟩)] xs (fun h=>.bool (h.BP k)) w:=by
 refine⟨zs,enters_of func60 zk rfl,fun W h hh hW=>?_⟩
 have HF:=hid fun W=>oz h k W (hx h hh).lies hk
 have hB':=hB.below hW hB.lt
 have yi:=hid hB'
 have hlt:=hB'.lt
 show CallsIn FF 0 prog 60 #[h.val,.pointer (some ⟨B,0,none⟩)] W fun e W'=>e=.returned (.bool (h.BP k))∧Below W.heap.size W W'
 obtain⟨r,hr⟩:∃r,r=h.BP k:=⟨_,rfl⟩
 rw[← hr] at HF⊢
 clear hh hr hB hx
 obtain⟨f,m,li⟩:=h
 simp only[Ht.val,Ht.cells] at HF⊢
 have c0:W.cell? ⟨B,0,none⟩=some (int i64 k):=yi.out.cell 0
 gi_enter func60,ntmps60
 gi_wp2_with (gi_at_call 61;refine(HF.out _).mono ?_;rintro e w4 ⟨rfl,hb4⟩)
 go_ret
 exact⟨rfl,Below.next (bw) hb4⟩
theorem Ki(k:Nat)(hk:k<6)(xs:List Ht)(hx:∀h∈xs,oM h)(B:Nat)(w:World)(hB:Whole w B 3 #[int i64 k]):sI FF 56 #[.pointer (some ⟨B,0,none⟩)] xs (fun h=>int i64 (h.real k)) w:=by
 refine⟨zs,enters_of func56 zk rfl,fun W h hh hW=>?_⟩
 have HF:=hid fun W=>nP h k W (hx h hh).lies hk
 have hB':=hB.below hW hB.lt
 have yi:=hid hB'
 have hlt:=hB'.lt
 show CallsIn FF 0 prog 56 #[h.val,.pointer (some ⟨B,0,none⟩)] W fun e W'=>e=.returned (int i64 (h.real k))∧Below W.heap.size W W'
 obtain⟨r,hr⟩:∃r,r=h.real k:=⟨_,rfl⟩
 rw[← hr] at HF⊢
 clear hh hr hB hx
 obtain⟨f,m,li⟩:=h
 simp only[Ht.val,Ht.cells] at HF⊢
 have c0:W.cell? ⟨B,0,none⟩=some (int i64 k):=yi.out.cell 0
 gi_enter func56,ntmps56
 gi_wp2_with (gi_at_call 57;refine(HF.out _).mono ?_;rintro e w4 ⟨rfl,hb4⟩)
 go_ret
 exact⟨rfl,Below.next (bw) hb4⟩
theorem Xc(b:Bk)(ok:b.Ok)(A:Option Addr)(n p:Nat)(day:Int)(g:Nat)(hg:g<3)(xs:List Ht)(hx:∀h∈xs,oM h)(Bc Bd Bg:Nat)(w:World)(hA:b.At w w.heap.size)(hc:Whole w Bc 76 (aA b A n p))(hd:Whole w Bd 3 #[int i64 day])(hgg:Whole w Bg 3 #[int i64 g]):sI FF 41 #[.pointer (some ⟨Bc,0,none⟩),.pointer (some ⟨Bd,0,none⟩),.pointer (some ⟨Bg,0,none⟩)] xs (fun h=>int i64 (stk b h day b.nm g)) w:=by
 refine⟨zs,enters_of func41 zk rfl,fun W h hh hW=>?_⟩
 have HF:=hid fun W hA=>gD b h day W hA ok.moves ok.bM.1.2 (hx h hh)
 have HA:=hid (hA.up hW)
 have C1:=hid (hc.below hW hc.lt)
 have D1:=hid (hd.below hW hd.lt)
 have G1:=hid (hgg.below hW hgg.lt)
 have h1:=C1.out.lt
 have h2:=D1.out.lt
 have h3:=G1.out.lt
 show CallsIn FF 0 prog 41 #[h.val,.pointer (some ⟨Bc,0,none⟩),.pointer (some ⟨Bd,0,none⟩),.pointer (some ⟨Bg,0,none⟩)] W fun e W'=>e=.returned (int i64 (stk b h day b.nm g))∧Below W.heap.size W W'
 obtain⟨r,hr⟩:∃r,r=stk b h day b.nm:=⟨_,rfl⟩
 rw[← hr] at HF⊢
 clear hh hr hc hd hgg hx hA ok hW
 obtain⟨w1,hw1⟩:∃w1,w1=W.alloc (.cells h.cells 88):=⟨_,rfl⟩
 have B1:Hid (Below W.heap.size W w1):=hid (by rw[hw1];exact bw)
 have H1:Hid (Whole w1 W.heap.size 88 h.cells):=hid (by rw[hw1];exact Whole.new _ _ _)
 have C2:=hid (C1.out.below B1.out h1)
 have D2:=hid (D1.out.below B1.out h2)
 have G2:=hid (G1.out.below B1.out h3)
 have A2:=hid (HA.out.up B1.out)
 obtain⟨f,m,li⟩:=h
 obtain⟨days,most,gA,ng,gc,gs,mA,nm,mc,ms,cA,nc,cc,cs⟩:=b
 simp only[Ht.val,Ht.cells,Bk.val,Bk.cells,lY] at HF H1⊢
 simp only[aA] at C2
 simp only[Ht.cells] at hw1
 have mX:=hid hw1
 clear hw1
 have q0:∀d os,(grow (redrawn w1 d) os).cell? ⟨Bc,0,none⟩=some (int i64 days):=cell_regrown (C2.out.cell 0)
 have q1:∀d os,(grow (redrawn w1 d) os).cell? ⟨Bc,1,none⟩=some (int i64 most):=cell_regrown (C2.out.cell 1)
 have q2:∀d os,(grow (redrawn w1 d) os).cell? ⟨Bc,2,none⟩=some (.slice gA ng gc):=cell_regrown (C2.out.cell 2)
 have q3:∀d os,(grow (redrawn w1 d) os).cell? ⟨Bc,3,none⟩=some (.slice mA nm mc):=cell_regrown (C2.out.cell 3)
 have q4:∀d os,(grow (redrawn w1 d) os).cell? ⟨Bc,4,none⟩=some (.slice cA nc cc):=cell_regrown (C2.out.cell 4)
 have qd:∀d os,(grow (redrawn w1 d) os).cell? ⟨Bd,0,none⟩=some (int i64 day):=cell_regrown (D2.out.cell 0)
 have qg:∀d os,(grow (redrawn w1 d) os).cell? ⟨Bg,0,none⟩=some (int i64 g):=cell_regrown (G2.out.cell 0)
 have x0:∀d os,(grow (redrawn w1 d) os).cell? ⟨W.heap.size,0,none⟩=some (int i64 (f 0)):=cell_regrown (H1.out.cell 0)
 have x1:∀d os,(grow (redrawn w1 d) os).cell? ⟨W.heap.size,1,none⟩=some (int i64 (f 1)):=cell_regrown (H1.out.cell 1)
 have x2:∀d os,(grow (redrawn w1 d) os).cell? ⟨W.heap.size,2,none⟩=some (int i64 (f 2)):=cell_regrown (H1.out.cell 2)
 have x3:∀d os,(grow (redrawn w1 d) os).cell? ⟨W.heap.size,3,none⟩=some (int i64 (m 0)):=cell_regrown (H1.out.cell 3)
 have x4:∀d os,(grow (redrawn w1 d) os).cell? ⟨W.heap.size,4,none⟩=some (int i64 (m 1)):=cell_regrown (H1.out.cell 4)
 have x5:∀d os,(grow (redrawn w1 d) os).cell? ⟨W.heap.size,5,none⟩=some (int i64 (m 2)):=cell_regrown (H1.out.cell 5)
 have x6:∀d os,(grow (redrawn w1 d) os).cell? ⟨W.heap.size,6,none⟩=some (int i64 (m 3)):=cell_regrown (H1.out.cell 6)
 have x7:∀d os,(grow (redrawn w1 d) os).cell? ⟨W.heap.size,7,none⟩=some (int i64 (m 4)):=cell_regrown (H1.out.cell 7)
 have x8:∀d os,(grow (redrawn w1 d) os).cell? ⟨W.heap.size,8,none⟩=some (int i64 (m 5)):=cell_regrown (H1.out.cell 8)
 have x9:∀d os,(grow (redrawn w1 d) os).cell? ⟨W.heap.size,9,none⟩=some (int i64 li):=cell_regrown (H1.out.cell 9)
 have cS:∀d os,CallsIn FF 0 prog 42 #[.agg #[int i64 days,int i64 most,.slice gA ng gc,.slice mA nm mc,.slice cA nc cc],.agg #[int i64 (f 0),int i64 (f 1),int i64 (f 2),int i64 (m 0),int i64 (m 1),int i64 (m 2),int i64 (m 3),int i64 (m 4),int i64 (m 5),int i64 li],int i64 day] (grow (redrawn w1 d) os) fun e w''=>e=.returned (.agg #[int i64 (r 0),int i64 (r 1),int i64 (r 2)])∧∃p:Regrown,w''=grow (redrawn w1 p.d) p.os:=fun d os=>CallsIn.regrown_of (HF.out _ ((A2.out.below (below_regrown w1 d os)).more (below_regrown w1 d os).size))
 have ix:∀ (u v z:Int) (w:World),(Instr.index 85 (.agg #[int i64 u,int i64 v,int i64 z]) (int i64 0)).run prog w=.ok (int i64 u) w∧(Instr.index 85 (.agg #[int i64 u,int i64 v,int i64 z]) (int i64 1)).run prog w=.ok (int i64 v) w∧(Instr.index 85 (.agg #[int i64 u,int i64 v,int i64 z]) (int i64 2)).run prog w=.ok (int i64 z) w:=fun _ _ _ _=>⟨zk,zk,zk⟩
 have HD:=fun u v z w=>(ix u v z w).1
 have H5:=fun u v z w=>(ix u v z w).2.1
 have H':=fun u v z w=>(ix u v z w).2.2
 clear ix
 gi_enter func41,ntmps41
 gi_wp2
 rw[← mX.out]
 refine wpIn_region_quiet_below rfl zk zk ?_
 rcases(show g=0∨g=1∨g=2 by omega) with rfl|rfl|rfl
 all_goals
  repeat (quiet_step_in (exact cS _ _))
  refine wpQuietIn_nil ?_
  rintro w' ⟨⟨dq,osq⟩,rfl⟩
  have bD:=below_regrown w1 dq osq
  gi_wp2
  go_ret
  exact⟨rfl,Below.next B1.out bD⟩
def iI(b:Bk)(s:Nat→Int):Nat→Int
 | 0=>0
 | Nat.succ k=>IntKind.i64.wrap (iI b s k+IntKind.i64.wrap ((b.g k).cost * s k))
theorem YS(b:Bk)(s:Nat→Int)(w:World)(hA:b.At w w.heap.size)(hg:b.ng≤3):CallsIn FF 0 prog 66 #[b.val,lY s] w fun e w'=>e=.returned (int i64 (iI b s b.ng))∧Below w.heap.size w w':=by
 obtain⟨L,hL⟩:∃L,L=iI b s:=⟨_,rfl⟩
 have aq:Hid (L 0=0):=hid (by rw[hL];rfl)
 have QW:Hid (∀k,L (k+1)=IntKind.i64.wrap (L k+IntKind.i64.wrap ((b.g k).cost * s k))):=hid fun k=>by rw[hL];rfl
 rw[← hL]
 clear hL
 have HA:=hid hA
 clear hA
 obtain⟨days,most,gA,ng,gc,g,mA,nm,mc,m,cA,nc,cc,c⟩:=b
 simp only[Bk.val,Bk.cells,lY] at QW hg⊢
 obtain⟨w1,hw1⟩:∃w1,w1=(w.alloc (.cells #[int i64 days,int i64 most,.slice gA ng gc,.slice mA nm mc,.slice cA nc cc] 74)).alloc (.cells #[int i64 (s 0),int i64 (s 1),int i64 (s 2)] 85):=⟨_,rfl⟩
 have B1:Hid (Below w.heap.size w w1):=hid (by rw[hw1];exact bw)
 have S1:Hid (Whole w1 (w.heap.size+1) 85 #[int i64 (s 0),int i64 (s 1),int i64 (s 2)]):=hid (by
  have:=Whole.new (w.alloc (.cells #[int i64 days,int i64 most,.slice gA ng gc,.slice mA nm mc,.slice cA nc cc] 74)) 85 #[int i64 (s 0),int i64 (s 1),int i64 (s 2)]
  rw[World.size_alloc] at this;rw[hw1];exact this)
 have A1:=hid (HA.out.up B1.out)
 have hs1:w1.heap.size=w.heap.size+2:=by rw[hw1];simp
 have mX:=hid hw1
 clear hw1
 gi_enter func66,ntmps66
 gi_wp2
 rw[← mX.out]
 clear mX
 gi_loopw [5,12] (fun u i wr=>∃k:Nat,k≤ng∧i=int i64 k∧u=int i64 (L k)∧Hid (Below w1.heap.size w1 wr)) (fun _ i _=>ng - (intOf i).toNat)
 case atStart=>exact⟨0,Nat.zero_le _,rfl,by rw[aq.out],hid (Below.refl _ _)⟩
 case round=>
  obtain⟨k,hk,rfl,rfl,hT⟩:=hrel
  obtain⟨wo,rfl⟩:∃wo:World,wo=wr:=⟨_,rfl⟩
  have hsz:=hT.out.size
  by_cases hlt:k<ng
  ·obtain⟨ad,hA',hbl,-⟩:=A1.out.g (show 0<ng by omega)
   simp only at hA'
   subst hA'
   obtain⟨gk,D5⟩:∃gk,gk=g k:=⟨_,rfl⟩
   have hr:∀j,j<5→wo.cell? ((ad.add (k * 5)).add j)=some (gk.cell j):=fun j hj=>by rw[D5];exact((A1.out.g.below hT.out)).row hlt |>.2 j hj
   have hLk:=QW.out k
   rw[← D5] at hLk
   obtain⟨Ms,co,pk,lo,hi⟩:=gk
   have c0:wo.cell? (ad.add (k * 5))=some (.string Ms):=hr 0 zD
   have c1:wo.cell? ⟨(ad.add (k * 5)).block,(ad.add (k * 5)).off+1,none⟩=some (int i64 co):=hr 1 zD
   have c2:wo.cell? ⟨(ad.add (k * 5)).block,(ad.add (k * 5)).off+2,none⟩=some (int i64 pk):=hr 2 zD
   have c3:wo.cell? ⟨(ad.add (k * 5)).block,(ad.add (k * 5)).off+3,none⟩=some (int i64 lo):=hr 3 zD
   have c4:wo.cell? ⟨(ad.add (k * 5)).block,(ad.add (k * 5)).off+4,none⟩=some (int i64 hi):=hr 4 zD
   clear hr
   simp only at hLk
   have Vg:=hid hLk
   clear D5 hLk
   obtain⟨w2,hw2⟩:∃w2,w2=wo.alloc (.cells #[.string Ms,int i64 co,int i64 pk,int i64 lo,int i64 hi] 40):=⟨_,rfl⟩
   have B2:Hid (Below wo.heap.size wo w2):=hid (by rw[hw2];exact bw)
   have G2:Hid (Whole w2 wo.heap.size 40 #[.string Ms,int i64 co,int i64 pk,int i64 lo,int i64 hi]):=hid (by rw[hw2];exact Whole.new _ _ _)
   have S2:=hid ((S1.out.below hT.out S1.out.lt).below B2.out zo)
   have ER:=hid hw2
   clear hw2
   gi_wp2
   rw[← ER.out]
   have qc:∀d os,(grow (redrawn w2 d) os).cell? ⟨wo.heap.size,1,none⟩=some (int i64 co):=cell_regrown (G2.out.cell 1)
   have q0:∀d os,(grow (redrawn w2 d) os).cell? ⟨w.heap.size+1,0,none⟩=some (int i64 (s 0)):=cell_regrown (S2.out.cell 0)
   have q1:∀d os,(grow (redrawn w2 d) os).cell? ⟨w.heap.size+1,1,none⟩=some (int i64 (s 1)):=cell_regrown (S2.out.cell 1)
   have q2:∀d os,(grow (redrawn w2 d) os).cell? ⟨w.heap.size+1,2,none⟩=some (int i64 (s 2)):=cell_regrown (S2.out.cell 2)
   refine wpIn_region_quiet_below rfl zk zk ?_
   rcases(show k=0∨k=1∨k=2 by omega) with rfl|rfl|rfl
   all_goals
    repeat (quiet_step_in (fail))
    refine wpQuietIn_nil ?_
    rintro w' ⟨⟨dq,osq⟩,rfl⟩
    have bD:=below_regrown w2 dq osq
    gi_wp2
    exact⟨⟨_+1,hlt,rfl,by rw[Vg.out],hid (Below.next (Below.next hT.out B2.out) bD)⟩,by simp[intOf];omega⟩
  ·obtain rfl:k=ng:=zo
   gi_wp2
   go_ret
   exact⟨rfl,Below.next B1.out hT.out⟩
theorem Va(b:Bk)(ok:b.Ok)(A:Option Addr)(n p:Nat)(day:Int)(xs:List Ht)(hx:∀h∈xs,oM h)(Bc Bd:Nat)(w:World)(hA:b.At w w.heap.size)(hc:Whole w Bc 76 (aA b A n p))(hd:Whole w Bd 3 #[int i64 day]):sI FF 65 #[.pointer (some ⟨Bc,0,none⟩),.pointer (some ⟨Bd,0,none⟩)] xs (fun h=>int i64 (iI b (stk b h day b.nm) b.ng)) w:=by
 refine⟨zs,enters_of func65 zk rfl,fun W h hh hW=>?_⟩
 have HF:=hid fun W hA=>gD b h day W hA ok.moves ok.bM.1.2 (hx h hh)
 have HG:=hid fun s W hA=>YS b s W hA ok.bM.1.2
 have HA:=hid (hA.up hW)
 have C1:=hid (hc.below hW hc.lt)
 have D1:=hid (hd.below hW hd.lt)
 have h1:=C1.out.lt
 have h2:=D1.out.lt
 show CallsIn FF 0 prog 65 #[h.val,.pointer (some ⟨Bc,0,none⟩),.pointer (some ⟨Bd,0,none⟩)] W fun e W'=>e=.returned (int i64 (iI b (stk b h day b.nm) b.ng))∧Below W.heap.size W W'
 obtain⟨r,hr⟩:∃r,r=stk b h day b.nm:=⟨_,rfl⟩
 rw[← hr] at HF⊢
 have An:=hid fun W hA=>HG.out r W hA
 obtain⟨u,hu⟩:∃u,u=iI b r b.ng:=⟨_,rfl⟩
 rw[← hu] at An⊢
 clear hh hr hu hc hd hx hA ok hW HG
 obtain⟨w1,hw1⟩:∃w1,w1=W.alloc (.cells h.cells 88):=⟨_,rfl⟩
 have B1:Hid (Below W.heap.size W w1):=hid (by rw[hw1];exact bw)
 have H1:Hid (Whole w1 W.heap.size 88 h.cells):=hid (by rw[hw1];exact Whole.new _ _ _)
 have C2:=hid (C1.out.below B1.out h1)
 have D2:=hid (D1.out.below B1.out h2)
 have A2:=hid (HA.out.up B1.out)
 obtain⟨f,m,li⟩:=h
 obtain⟨days,most,gA,ng,gc,gs,mA,nm,mc,ms,cA,nc,cc,cs⟩:=b
 simp only[Ht.val,Ht.cells,Bk.val,Bk.cells,lY] at HF An H1⊢
 simp only[aA] at C2
 simp only[Ht.cells] at hw1
 have mX:=hid hw1
 clear hw1
 have q0:∀d os,(grow (redrawn w1 d) os).cell? ⟨Bc,0,none⟩=some (int i64 days):=cell_regrown (C2.out.cell 0)
 have q1:∀d os,(grow (redrawn w1 d) os).cell? ⟨Bc,1,none⟩=some (int i64 most):=cell_regrown (C2.out.cell 1)
 have q2:∀d os,(grow (redrawn w1 d) os).cell? ⟨Bc,2,none⟩=some (.slice gA ng gc):=cell_regrown (C2.out.cell 2)
 have q3:∀d os,(grow (redrawn w1 d) os).cell? ⟨Bc,3,none⟩=some (.slice mA nm mc):=cell_regrown (C2.out.cell 3)
 have q4:∀d os,(grow (redrawn w1 d) os).cell? ⟨Bc,4,none⟩=some (.slice cA nc cc):=cell_regrown (C2.out.cell 4)
 have qd:∀d os,(grow (redrawn w1 d) os).cell? ⟨Bd,0,none⟩=some (int i64 day):=cell_regrown (D2.out.cell 0)
 have x0:∀d os,(grow (redrawn w1 d) os).cell? ⟨W.heap.size,0,none⟩=some (int i64 (f 0)):=cell_regrown (H1.out.cell 0)
 have x1:∀d os,(grow (redrawn w1 d) os).cell? ⟨W.heap.size,1,none⟩=some (int i64 (f 1)):=cell_regrown (H1.out.cell 1)
 have x2:∀d os,(grow (redrawn w1 d) os).cell? ⟨W.heap.size,2,none⟩=some (int i64 (f 2)):=cell_regrown (H1.out.cell 2)
 have x3:∀d os,(grow (redrawn w1 d) os).cell? ⟨W.heap.size,3,none⟩=some (int i64 (m 0)):=cell_regrown (H1.out.cell 3)
 have x4:∀d os,(grow (redrawn w1 d) os).cell? ⟨W.heap.size,4,none⟩=some (int i64 (m 1)):=cell_regrown (H1.out.cell 4)
 have x5:∀d os,(grow (redrawn w1 d) os).cell? ⟨W.heap.size,5,none⟩=some (int i64 (m 2)):=cell_regrown (H1.out.cell 5)
 have x6:∀d os,(grow (redrawn w1 d) os).cell? ⟨W.heap.size,6,none⟩=some (int i64 (m 3)):=cell_regrown (H1.out.cell 6)
 have x7:∀d os,(grow (redrawn w1 d) os).cell? ⟨W.heap.size,7,none⟩=some (int i64 (m 4)):=cell_regrown (H1.out.cell 7)
 have x8:∀d os,(grow (redrawn w1 d) os).cell? ⟨W.heap.size,8,none⟩=some (int i64 (m 5)):=cell_regrown (H1.out.cell 8)
 have x9:∀d os,(grow (redrawn w1 d) os).cell? ⟨W.heap.size,9,none⟩=some (int i64 li):=cell_regrown (H1.out.cell 9)
 have cS:∀d os,CallsIn FF 0 prog 42 #[.agg #[int i64 days,int i64 most,.slice gA ng gc,.slice mA nm mc,.slice cA nc cc],.agg #[int i64 (f 0),int i64 (f 1),int i64 (f 2),int i64 (m 0),int i64 (m 1),int i64 (m 2),int i64 (m 3),int i64 (m 4),int i64 (m 5),int i64 li],int i64 day] (grow (redrawn w1 d) os) fun e w''=>e=.returned (.agg #[int i64 (r 0),int i64 (r 1),int i64 (r 2)])∧∃p:Regrown,w''=grow (redrawn w1 p.d) p.os:=fun d os=>CallsIn.regrown_of (HF.out _ ((A2.out.below (below_regrown w1 d os)).more (below_regrown w1 d os).size))
 have cW:∀d os,CallsIn FF 0 prog 66 #[.agg #[int i64 days,int i64 most,.slice gA ng gc,.slice mA nm mc,.slice cA nc cc],.agg #[int i64 (r 0),int i64 (r 1),int i64 (r 2)]] (grow (redrawn w1 d) os) fun e w''=>e=.returned (int i64 u)∧∃p:Regrown,w''=grow (redrawn w1 p.d) p.os:=fun d os=>CallsIn.regrown_of (An.out _ ((A2.out.below (below_regrown w1 d os)).more (below_regrown w1 d os).size))
 gi_enter func65,ntmps65
 gi_wp2
 rw[← mX.out]
 refine wpIn_region_quiet_below rfl zk zk ?_
 repeat (quiet_step_in (first|exact cS _ _|exact cW _ _))
 refine wpQuietIn_nil ?_
 rintro w' ⟨⟨dq,osq⟩,rfl⟩
 have bD:=below_regrown w1 dq osq
 gi_wp2
 go_ret
 exact⟨rfl,Below.next B1.out bD⟩
end
end Go.Proofs.YthaelabgfnnebaaGreat
