/- YH Sq YC1 K1 -/
import Derived.Test.YthaelabgfnnebaaGreatA8
set_option maxRecDepth 100000
set_option maxHeartbeats 16000000
set_option linter.unusedVariables false
set_option linter.unusedSectionVars false
open Go.IntKind(i64)
open Go.Lib(hid)
open Go.Proofs.Tryz
open Go.Value(int)
namespace Go.Proofs.YthaelabgfnnebaaGreat
section
open Go.RowKit
open Go.Sort (grow)
attribute [local go_sem] Oper.semAt_some
def aA(b:Bk)(lA:Option Addr)(n lc:Nat):Array Value:=#[int i64 b.days,int i64 b.most,.slice b.gA b.ng b.gc,.slice b.mA b.nm b.mc,.slice b.cA b.nc b.cc,.slice lA n lc]
theorem nH{p:FuncId→Prop}[Aa p](b:Bk)(lA:Option Addr)(n lc:Nat)(w:World):CallsIn (FW p) 0 prog 40 #[.agg (aA b lA n lc)] w fun e w'=>e=.returned (.func (.func 76) #[] #[.pointer (some ⟨w.heap.size,0,none⟩)])∧
 Whole w' w.heap.size 76 (aA b lA n lc)∧Below w.heap.size w w'∧w'.heap.size=w.heap.size+1:=by
 obtain⟨days,most,gA,ng,gc,g,mA,nm,mc,m,cA,nc,cc,c⟩:=b
 simp only[aA]
 gi_enter func40,ntmps40
 gi_wp2
 go_ret
 exact⟨rfl,Whole.new _ _ _,bw,zs⟩
theorem JL{p:FuncId→Prop}[Aa p](b:Bk)(ok:b.Ok)(lA:Option Addr)(lc:Nat)(ls:List Nat)(hl:∀s∈ls,dN s)(hn:ls.length≤64)(C:Nat→Prop)(N0 Bc:Nat)(W:World)(hC:∀x,C x→x<W.heap.size)
 (hb:Whole W Bc 76 (aA b lA ls.length lc))(hR:Rows W N0 1 lA ls.length (fun i _=>int i64 ((ls.getD i 0:Nat):Int)))(hA:b.At W N0)(hN:N0≤W.heap.size)(cb:¬ C Bc)(cn:∀x,x<N0→¬ C x):
 Iter (FW p) prog 76 #[.pointer (some ⟨Bc,0,none⟩)] (fun h:Ht=>#[h.val]) (aG b ls) C W:=by
 intro l J Jx hJ hJx hY h0
 show CallsIn (FW p) 0 prog 76 #[.func (.yield l) #[] #[],.pointer (some ⟨Bc,0,none⟩)] W _
 have cL:∀s w,s∈ls→CallsIn (FW p) 0 prog 77 #[b.val,int i64 s] w fun e w'=>e=.returned (.bool (decide (pop s≤b.most)))∧Below w.heap.size w w':=fun s w hs=>CallsIn.wide (RD b s (hl s hs) w)
 have cT:=fun s w=>UN (p:=p) b s w
 obtain⟨G,hG⟩:∃G:Nat→List Ht,G=fun s=>if pop s≤b.most then dD b s else[]:=⟨_,rfl⟩
 have hxs:aG b ls=ls.flatMap G:=by
  rw[hG];unfold aG
  clear hR hb hY hJ hJx h0 hl hn cL
  induction ls with
  | nil=>rfl
  | cons s ls ih=>
    simp only[List.filter_cons,List.flatMap_cons]
    split
    ·rename_i h;rw[List.flatMap_cons,ih,if_pos (of_decide_eq_true h)]
    ·rename_i h;rw[ih,if_neg (fun k=>h (decide_eq_true k))];rfl
 have cI:∀s (C':Nat→Prop) (Bb Bl:Nat) (W':World),s∈ls→(∀x,C' x→x<W'.heap.size)→Whole W' Bb 74 b.cells→Whole W' Bl 3 #[int i64 s]→b.At W' N0→N0≤W'.heap.size→¬ C' Bb→¬ C' Bl→(∀x,x<N0→¬ C' x)→
  Iter (FW p) prog 101 #[.pointer (some ⟨Bb,0,none⟩),.pointer (some ⟨Bl,0,none⟩)] (fun h:Ht=>#[h.val]) (dD b s) C' W':=fun s C' Bb Bl W' hs=>UF (p:=p) b ok s (hl s hs) C' N0 Bb Bl W'
 rw[hxs] at hY⊢
 have GT:∀s,pop s≤b.most→G s=dD b s:=fun s h=>by rw[hG];exact if_pos h
 have GF:∀s,¬ pop s≤b.most→G s=[]:=fun s h=>by rw[hG];exact if_neg h
 have enc:∀h:Ht,#[h.val]=#[h.val]:=fun _=>rfl
 obtain⟨days,most,gA,ng,gc,g,mA,nm,mc,m,cA,nc,cc,c⟩:=b
 simp only[Bk.val,Bk.cells] at cL cT
 simp only[aA] at hb
 have HC:=hid hC
 have HJ:=hid hJ
 have NX:=hid hJx
 have HY:=hid hY
 have HL:=hid cL
 have HT:=hid cT
 have HI:=hid cI
 have HA:=hid hA
 have Qf:=hid cn
 have Hb:=hid hb
 have HR:=hid hR
 have H0:=hid h0
 have CB:=hid cb
 have HN:=hid hN
 have Z3:=hid GT
 have ZS:=hid GF
 clear hC hJ hJx hY cL cT cI hA cn hb hR h0 cb hN GT GF hxs hG hl enc
 refine callsIn_of_wp_marks func76 rfl zs ?_ rfl
 simp only[ntmps76,List.size_toArray,List.length_cons,List.length_nil,Nat.reduceAdd,Nat.reduceSub,Array.replicate_succ,Array.replicate_zero,List.push_toArray,List.append_toArray,List.nil_append,List.cons_append]
 obtain⟨w2,hw2⟩:∃w2,w2=W.alloc (.cells #[.func (.yield l) #[] #[]] 107):=⟨_,rfl⟩
 have B2:Hid (Below W.heap.size W w2):=hid (by rw[hw2];exact bw)
 have Y2:Hid (Whole w2 W.heap.size 107 #[.func (.yield l) #[] #[]]):=hid (by rw[hw2];exact Whole.new _ _ _)
 have c2:w2.cell? ⟨Bc,5,none⟩=some (.slice lA ls.length lc):=(Hb.out.keeps (Keeps.bJ B2.out) CB.out).cell 5
 have hs2:w2.heap.size=W.heap.size+1:=by rw[hw2];simp
 rw[hw2] at c2
 have ER:=hid hw2
 clear hw2
 gi_wp2
 rw[← ER.out]
 have K2:Hid (Keeps C W w2):=hid (Keeps.bJ B2.out)
 have J2:Hid (J [] w2):=hid (HJ.out _ _ _ H0.out B2.out)
 clear c2 ER H0
 refine wpIn_loop (fun a' w'=>∃u4 u5 u10 u11 u12 u13 u14 u15 u16 u17 u18 u19 u20 u21 u22 u23 u24 u25 u26 u27 u9:Value,∃ (i:Nat) (ds:List Deferred),i≤ls.length∧u9=int i64 i∧a'={tmps:=#[.func (.yield l) #[] #[],.pointer (some ⟨Bc,0,none⟩),.pointer (some ⟨W.heap.size,0,none⟩),undef,u4,u5,.pointer (some ⟨Bc,5,none⟩),.slice lA ls.length lc,int i64 ls.length,u9,u10,u11,u12,u13,u14,u15,u16,u17,u18,u19,u20,u21,u22,u23,u24,u25,u26,u27],defers:=ds }∧Hid (Keeps C w2 w'∧J ((ls.take i).flatMap G) w'∧Marks w2.heap.size w'.heap.size ds w')) (fun a' _=>ls.length - (intOf (a'.tmps.getD 9 undef)).toNat) ?_ ?_
 ·exact⟨_,_,_,_,_,_,_,_,_,_,_,_,_,_,_,_,_,_,_,_,_,0,[],Nat.zero_le _,rfl,rfl,hid ⟨Keeps.refl _ _,by simpa using J2.out,trivial⟩⟩
 ·rintro a wr ⟨u4,u5,u10,u11,u12,u13,u14,u15,u16,u17,u18,u19,u20,u21,u22,u23,u24,u25,u26,u27,_,i,ds,hi,rfl,rfl,hT⟩
  have hsr:W.heap.size+1≤wr.heap.size:=by have:=hT.out.1.size;omega
  have hC2:Hid (∀x,C x→x<w2.heap.size):=hid fun x hx=>by have:=HC.out x hx;omega
  by_cases hlt:i<ls.length
  ·obtain⟨ad,rfl,hab,hrow⟩:=HR.out (show 0<ls.length by omega)
   obtain⟨s,hs⟩:∃s,s=ls.getD i 0:=⟨_,rfl⟩
   have KW:Hid (Keeps C W wr):=hid (K2.out.trans hT.out.1)
   have d0:wr.cell? (ad.add i)=some (int i64 s):=by
    rw[hs]
    refine(KW.out.cell (by rw[aH];have:=HN.out;omega) (by rw[aH];exact Qf.out _ hab)).trans ?_
    simpa using hrow i 0 hlt zD
   have hmem:s∈ls:=by rw[hs,List.getD_eq_getElem?_getD,List.getElem?_eq_getElem hlt];exact List.getElem_mem hlt
   have htk:ls.take (i+1)=ls.take i ++ [s]:=by rw[List.take_add_one,hs,List.getD_eq_getElem?_getD,List.getElem?_eq_getElem hlt];rfl
   have hpx:(ls.take i).flatMap G ++ G s<+:ls.flatMap G:=by
    have h:=List.take_append_drop (i+1) ls
    refine⟨(ls.drop (i+1)).flatMap G,?_⟩
    conv=>rhs;rw[← h,htk]
    simp
   have CW:=hid (Hb.out.keeps KW.out CB.out)
   have c0:wr.cell? ⟨Bc,0,none⟩=some (int i64 days):=CW.out.cell 0
   have c1:wr.cell? ⟨Bc,1,none⟩=some (int i64 most):=CW.out.cell 1
   have c2:wr.cell? ⟨Bc,2,none⟩=some (.slice gA ng gc):=CW.out.cell 2
   have c3:wr.cell? ⟨Bc,3,none⟩=some (.slice mA nm mc):=CW.out.cell 3
   have c4:wr.cell? ⟨Bc,4,none⟩=some (.slice cA nc cc):=CW.out.cell 4
   have HM:=hid hmem
   have uk:=hid htk
   have YZ:=hid hpx
   clear hs hmem htk hpx hrow
   by_cases hp:pop s≤most
   ·have hq:=HL.out s wr HM.out
    rw[decide_eq_true hp] at hq
    have hg:=Z3.out s hp
    have HQ:=hid hq
    have HG:=hid hg
    clear hq hg hp
    gi_wp2_with (first
     | (gi_at_call 77;refine HQ.out.mono ?_;rintro e w5 ⟨rfl,hb5⟩
        have C5:=CW.out.below hb5 CW.out.lt
        have e0:w5.cell? ⟨Bc,0,none⟩=some (int i64 days):=C5.cell 0
        have e1:w5.cell? ⟨Bc,1,none⟩=some (int i64 most):=C5.cell 1
        have e2:w5.cell? ⟨Bc,2,none⟩=some (.slice gA ng gc):=C5.cell 2
        have e3:w5.cell? ⟨Bc,3,none⟩=some (.slice mA nm mc):=C5.cell 3
        have e4:w5.cell? ⟨Bc,4,none⟩=some (.slice cA nc cc):=C5.cell 4)
     | (gi_at_call 78;refine(HT.out s w5).mono ?_;rintro e w6 ⟨rfl,hbk,hin,hb6,hs6⟩))
    have K6:Hid (Keeps C w2 w6):=hid ((hT.out.1.and hb5 hT.out.1.size).and hb6 (Nat.le_trans hT.out.1.size hb5.size))
    have l8:=hid ((hb5.trans (hb6.mono hb5.size)).mono hT.out.1.size:Below w2.heap.size wr w6)
    have Pu:Hid (Keeps C W w6):=hid (K2.out.trans K6.out)
    have J6:=hid (HJ.out _ _ _ hT.out.2.1 (l8.out.mono zo))
    have M6:Hid (Marks w2.heap.size w5.heap.size ds w6):=hid (((hT.out.2.2.of fun r _ hr=>hb5.block r hr).more hb5.size).of fun r _ hr=>hb6.block r hr)
    have hs5:=hb5.size
    have oT:w2.heap.size≤w6.heap.size:=K6.out.size
    have aaD:w5.heap.size≤w6.heap.size:=zo
    obtain⟨done,hdn⟩:∃done,done=(ls.take i).flatMap G:=⟨_,rfl⟩
    rw[HG.out,← hdn] at YZ
    rw[← hdn] at J6
    have XS:=hid hdn
    have EE:=hb5
    have EV:=hb6
    clear hb5 hb6 C5 e0 e1 e2 e3 e4 c0 c1 c2 c3 c4 d0 hdn
    refine iJ (C:=C) rfl rfl (gf:=101) (lb:=#[.pointer (some ⟨w5.heap.size,0,none⟩),.pointer (some ⟨w5.heap.size+1,0,none⟩)]) rfl zs (enters_of func101 zk rfl) (encs:=fun h:Ht=>#[h.val]) (xs:=dD (⟨days,most,gA,ng,gc,g,mA,nm,mc,m,cA,nc,cc,c⟩:Bk) s)
     (fun x hx=>by have:=HC.out x hx;omega) ?hseq (fun _=>rfl) (fun pre W'=>J (done ++ pre) W') (fun c pre W'=>c=.ret∧Jx (done ++ pre) W')
     (fun pre A B h hb=>HJ.out _ _ _ h (hb.mono zo)) (fun c pre A B h hb=>⟨h.1,NX.out _ _ _ h.2 (hb.mono zo)⟩) (by simpa using J6.out) ?gB ?hdone ?hstop
    case hseq=>
     intro W1 hb1 hs1
     have S8:∀x,w5.heap.size≤x→¬ (C x∨x=w6.heap.size∨x=w6.heap.size+1)∨w6.heap.size≤x:=fun x hx=>by
      rcases Nat.lt_or_ge x w6.heap.size with h|h
      ·exact .inl (by rintro(h1|h1|h1) <;> first|(have:=HC.out x h1;omega)|omega)
      ·exact .inr h
     refine HI.out s _ _ _ W1 HM.out (fun x hx=>?_) (hbk.below hb1 hbk.lt) (hin.below hb1 hin.lt) ((HA.out.keeps Pu.out HN.out Qf.out).below (hb1.mono (by have:=HN.out;omega))) (by have:=HN.out;omega) ?_ ?_ (fun x hx=>?_)
     ·rcases hx with h|h|h
      ·have:=HC.out x h;omega
      ·omega
      ·omega
     ·exact(S8 _ (Nat.le_refl _)).resolve_right zo
     ·exact(S8 _ (Nat.le_succ _)).resolve_right zo
     ·rintro(h|h|h)
      ·exact Qf.out x hx h
      ·have:=HN.out;omega
      ·have:=HN.out;omega
    case gB=>
     intro l' pre h A hl' hpre hj hk hsz hrec
     obtain⟨hf,hmm,uz⟩:=h
     simp only[Ht.val,Ht.cells]
     have hk2:Hid (Keeps C W A):=hid (Pu.out.trans hk)
     gi_wp2
     refine⟨bw,fun W2 hS=>?_⟩
     have hl2:w6.heap.size+2≤A.heap.size:=hsz
     have X2:Whole W2 A.heap.size 88 #[int i64 (hf 0),int i64 (hf 1),int i64 (hf 2),int i64 (hmm 0),int i64 (hmm 1),int i64 (hmm 2),int i64 (hmm 3),int i64 (hmm 4),int i64 (hmm 5),int i64 uz]:=(Whole.new A _ _).of (hS.block _ zo)
     have ow:Below (w6.heap.size+1) A W2:=((Below.refl _ A).alloc zo _).trans (hS.below zo)
     have Ps:Keeps C W W2:=hk2.out.and ow zo
     have YW:=((Y2.out.keeps hT.out.1 (fun hx=>by have:=HC.out _ hx;omega)).below EE zo).below EV zo
     have y2:W2.cell? ⟨W.heap.size,0,none⟩=some (.func (.yield l) #[] #[]):=((YW.keeps hk (fun hx=>by have:=HC.out _ hx;omega)).below ow zo).cell 0
     obtain⟨fn,tmps,as1,bd,hy,la⟩:=HY.out (done ++ pre) ⟨hf,hmm,uz⟩ W2 (by rw[List.append_assoc];exact List.IsPrefix.trans ((List.prefix_append_right_inj _).2 hpre) YZ.out) (HJ.out _ _ _ hj (ow.mono zo)) Ps
     simp only[Ht.val,Ht.cells] at hy
     rw[List.append_assoc] at la
     have x0:W2.cell? ⟨A.heap.size,0,none⟩=some (int i64 (hf 0)):=X2.cell 0
     have x1:W2.cell? ⟨A.heap.size,1,none⟩=some (int i64 (hf 1)):=X2.cell 1
     have x2:W2.cell? ⟨A.heap.size,2,none⟩=some (int i64 (hf 2)):=X2.cell 2
     have x3:W2.cell? ⟨A.heap.size,3,none⟩=some (int i64 (hmm 0)):=X2.cell 3
     have x4:W2.cell? ⟨A.heap.size,4,none⟩=some (int i64 (hmm 1)):=X2.cell 4
     have x5:W2.cell? ⟨A.heap.size,5,none⟩=some (int i64 (hmm 2)):=X2.cell 5
     have x6:W2.cell? ⟨A.heap.size,6,none⟩=some (int i64 (hmm 3)):=X2.cell 6
     have x7:W2.cell? ⟨A.heap.size,7,none⟩=some (int i64 (hmm 4)):=X2.cell 7
     have x8:W2.cell? ⟨A.heap.size,8,none⟩=some (int i64 (hmm 5)):=X2.cell 8
     have x9:W2.cell? ⟨A.heap.size,9,none⟩=some (int i64 uz):=X2.cell 9
     have AM:=hid la
     clear la YW Ps ow X2 hpre
     gi_wp2
     refine AM.out.mono ?_
     rintro e W5 ⟨hk5,(⟨rfl,di⟩|⟨rfl,hx5⟩)⟩
     ·gi_wp2
      exact⟨hk5,di⟩
     ·gi_wp2
      exact⟨hk5,rfl,hx5⟩
    case hdone=>
     intro W' hj hk hm
     simp only[Exit.inBlock,Exit.then]
     go_at_K
     gi_wp2
     have hk5:=K6.out.trans hk
     refine⟨⟨_,_,_,_,_,_,_,_,_,_,_,_,_,_,_,_,_,_,_,_,_,i+1,_,hlt,by push_cast;rfl,rfl,hid ⟨hk5,?_,?_⟩⟩,?_⟩
     ·rw[uk.out,List.flatMap_append,← XS.out]
      simpa [HG.out] using hj
     ·exact⟨w6.heap.size,rfl,oT,(Array.getElem?_eq_some_iff.1 hm).1,hm,(M6.out.keeps hk hC2.out zo).more zo⟩
     ·simp only[intOf,Array.getD_eq_getD_getElem?]
      simp
      omega
    case hstop=>
     rintro c pre W' hpre ⟨rfl,hx⟩ hk hm
     gi_wp2
     show LeavesInM _ _ _ _ _ _ _ .returning W'
     have hms:Marks w2.heap.size W'.heap.size ({target:=.collected w6.heap.size,args:=#[] } :: ds) W':=⟨w6.heap.size,rfl,oT,(Array.getElem?_eq_some_iff.1 hm).1,hm,(M6.out.keeps hk hC2.out zo).more zo⟩
     refine dw hms (fun B hB=>⟨_,results_none rfl _ _ _,⟨_,rfl⟩,(K2.out.trans (K6.out.trans hk)).and hB zo,.inr ⟨done ++ pre,?_,NX.out _ _ _ hx (hB.mono zo)⟩⟩) (K6.out.trans hk).size
     exact List.IsPrefix.trans ((List.prefix_append_right_inj _).2 hpre) YZ.out
   ·have hq:=HL.out s wr HM.out
    rw[decide_eq_false hp] at hq
    have hg:=ZS.out s (by simpa using hp)
    have HQ:=hid hq
    have HG:=hid hg
    clear hq hg hp
    gi_wp2_with (gi_at_call 77;refine HQ.out.mono ?_;rintro e w5 ⟨rfl,hb5⟩)
    refine⟨⟨_,_,_,_,_,_,_,_,_,_,_,_,_,_,_,_,_,_,_,_,_,i+1,ds,hlt,by push_cast;rfl,rfl,hid ⟨hT.out.1.and hb5 hT.out.1.size,?_,?_⟩⟩,?_⟩
    ·rw[uk.out,List.flatMap_append]
     simpa [HG.out] using HJ.out _ _ _ hT.out.2.1 (hb5.mono zo)
    ·exact(hT.out.2.2.of fun r _ hr=>hb5.block r hr).more hb5.size
    ·simp only[intOf,Array.getD_eq_getD_getElem?]
     simp
     omega
  ·obtain rfl:i=ls.length:=zo
   gi_wp2
   show LeavesInM _ _ _ _ _ _ ds .returning wr
   refine dw hT.out.2.2 (fun B hB=>⟨_,results_none rfl _ _ _,⟨_,rfl⟩,(K2.out.trans hT.out.1).and hB zo,.inl ?_⟩) hT.out.1.size
   simpa using HJ.out _ _ _ hT.out.2.1 (hB.mono zo)
end
section
open Go.RowKit
def ny(F:Fence)(gf:Nat)(lb:Array Value)(xs:List Ht)(w:World):Prop:=
 F.fn gf∧(∀args W,(callFunc gf args).run prog W=.ok (.enter gf args) W)∧∀ (C:Nat→Prop) (W:World),Below w.heap.size w W→(∀x,C x→w.heap.size≤x∧x<W.heap.size)→Iter F prog gf lb (fun h:Ht=>#[h.val]) xs C W
theorem ny.below{F:Fence}{gf:Nat}{lb:Array Value}{xs:List Ht}{w w':World}(h:ny F gf lb xs w)(hb:Below w.heap.size w w'):ny F gf lb xs w':=
 ⟨h.1,h.2.1,fun C W hW hC=>h.2.2 C W (hb.trans (hW.mono hb.size)) fun x hx=>⟨Nat.le_trans hb.size (hC x hx).1,(hC x hx).2⟩⟩
def sI(F:Fence)(g:Nat)(lb:Array Value)(xs:List Ht)(f:Ht→Value)(w:World):Prop:=
 F.fn g∧(∀args W,(callFunc g args).run prog W=.ok (.enter g args) W)∧∀ (W:World) (h:Ht),h∈xs→Below w.heap.size w W→CallsIn F 0 prog g (#[h.val] ++ lb) W fun e W'=>e=.returned (f h)∧Below W.heap.size W W'
theorem sI.below{F:Fence}{g:Nat}{lb:Array Value}{xs:List Ht}{f:Ht→Value}{w w':World}(h:sI F g lb xs f w)(hb:Below w.heap.size w w'):sI F g lb xs f w':=
 ⟨h.1,h.2.1,fun W x hx hW=>h.2.2 W x hx (hb.trans (hW.mono hb.size))⟩
theorem fH{α:Type}{pre xs:List α}{x:α}(h:pre ++ [x]<+:xs):x∈xs:=h.subset zs
theorem CallsIn.inRound{F:Fence}{P:Program}{n g l:Nat}{args:Array Value}{w:World}{R:Ending→World→Prop}(h:CallsIn F n P g args w R):CallsIn (F.inRound l) n P g args w R:=h
end
section
open Go.RowKit
attribute [local go_sem] Oper.semAt_some
theorem Rh{p:FuncId→Prop}[Aa p](gf:Nat)(lb:Array Value)(xs:List Ht)(w:World)(h:ny (FW p) gf lb xs w):CallsIn (FW p) 0 prog 80 #[.func (.func gf) #[] lb] w fun e w'=>e=.returned (.bool (!xs.isEmpty))∧Below w.heap.size w w':=by
 obtain⟨hfn,Md,hit⟩:=h
 have HIT:=hid hit
 have Qg:=hid Md
 clear hit Md
 refine callsIn_of_wp_marks func80 rfl zs ?_ rfl
 simp only[ntmps80,List.size_toArray,List.length_cons,List.length_nil,Nat.reduceAdd,Nat.reduceSub,Array.replicate_succ,Array.replicate_zero,List.push_toArray,List.append_toArray,List.nil_append,List.cons_append]
 gi_wp2
 obtain⟨w1,hw1⟩:∃w1,w1=w.alloc (.cells #[.bool false] 4):=⟨_,rfl⟩
 have B1:Hid (Below w.heap.size w w1):=hid (by rw[hw1];exact bw)
 have W1:Hid (Whole w1 w.heap.size 4 #[.bool false]):=hid (by rw[hw1];exact Whole.new _ _ _)
 have hs1:w1.heap.size=w.heap.size+1:=by rw[hw1];simp
 rw[← hw1]
 clear hw1
 have leave:∀ (tmps:Array Value) (t:Bool) (W:World),tmps[2]?.getD undef=.pointer (some ⟨w.heap.size,0,none⟩)→Whole W w.heap.size 4 #[.bool t]→(results Tryz.f80 tmps).run prog W=.ok (.bool t) W:=fun tmps t W ht hW=>by
  have:=hW.cell 0
  simp at this
  simp[results,Tryz.f80,go_sem,this,ht]
 refine iJ (C:=fun x=>x=w.heap.size) rfl rfl (gf:=gf) (lb:=lb) rfl hfn Qg.out (encs:=fun h:Ht=>#[h.val]) (xs:=xs)
  (fun x hx=>zo) ?hseq (fun _=>rfl) (fun pre W'=>pre=[]∧Whole W' w.heap.size 4 #[.bool false]) (fun c pre W'=>c=.ret∧pre≠[]∧Whole W' w.heap.size 4 #[.bool true])
  (fun pre A B h hb=>⟨h.1,h.2.below hb zo⟩) (fun c pre A B h hb=>⟨h.1,h.2.1,h.2.2.below hb zo⟩) ⟨rfl,W1.out⟩ ?gB ?hdone ?hstop
 case hseq=>exact fun W2 hb2 hs2=>HIT.out _ W2 (B1.out.trans (hb2.mono B1.out.size)) fun x hx=>zo
 case gB=>
  intro l' pre h A hl' hpre hj hk hsz hrec
  gi_wp2
  refine⟨Below.refl _ _,fun W2 hS=>?_⟩
  have b7:Whole W2 w.heap.size 4 #[.bool false]:=hj.2.of (hS.block _ zo)
  have c0:W2.cell? ⟨w.heap.size,0,none⟩=some (.bool false):=b7.cell 0
  have f0:=b7.thaw
  gi_wp2
  exact⟨Keeps.set (C:=fun x=>x=w.heap.size) (p:=⟨w.heap.size,0,none⟩) (Keeps.refl _ _) rfl _,rfl,zs,b7.set 0 (.bool true)⟩
 case hdone=>
  intro W' hj hk hm
  have c0:W'.cell? ⟨w.heap.size,0,none⟩=some (.bool false):=hj.2.cell 0
  have f0:=hj.2.thaw
  simp only[Exit.inBlock,Exit.then]
  go_at_K
  gi_wp2
  have WW:=hj.2.set 0 (.bool false)
  have hms:Marks w1.heap.size (w1.heap.size+1) [{target:=.collected w1.heap.size,args:=#[] }] (W'.setCell ⟨w.heap.size,0,none⟩ (.bool false)):=⟨_,rfl,Nat.le_refl _,Nat.lt_succ_self _,(Below.heap_setCell _ _ _ _ zm).trans hm,trivial⟩
  have hk':=hk.set (p:=⟨w.heap.size,0,none⟩) rfl (.bool false)
  refine dw hms (fun B hB=>⟨_,leave _ false B rfl (WW.below hB zo),?_,?_⟩) hk'.size
  ·cases xs with
   | nil=>rfl
   | cons x xs=>exact absurd hj.1 zs
  ·exact(B1.out.trans (hk'.below (n:=w.heap.size) (fun b hb hc=>zo) zo)).trans (hB.mono zo)
 case hstop=>
  rintro c pre W' hpre ⟨rfl,hne,hx⟩ hk hm
  gi_wp2
  have hms:Marks w1.heap.size (w1.heap.size+1) [{target:=.collected w1.heap.size,args:=#[] }] W':=⟨_,rfl,Nat.le_refl _,Nat.lt_succ_self _,hm,trivial⟩
  refine dw hms (fun B hB=>⟨_,leave _ true B rfl (hx.below hB zo),?_,?_⟩) hk.size
  ·cases xs with
   | nil=>exact absurd (List.prefix_nil.1 hpre) hne
   | cons x xs=>rfl
  ·exact(B1.out.trans (hk.below (n:=w.heap.size) (fun b hb hc=>zo) zo)).trans (hB.mono zo)
end
section
open Go.RowKit
open Go.Sort (grow)
attribute [local go_sem] Oper.semAt_some
theorem iC{α:Type}{pre xs:List α}{x:α}(h:pre ++ [x]<+:xs):pre.length<xs.length:=by
 have:=h.length_le
 simp at this
 omega
theorem Wj(gf:Nat)(lb:Array Value)(xs:List Ht)(w:World)(hlen:xs.length<2 ^ 40)(h:ny FF gf lb xs w):CallsIn FF 0 prog 46 #[.func (.func gf) #[] lb] w fun e w'=>e=.returned (int i64 xs.length)∧Below w.heap.size w w':=by
 obtain⟨hfn,Md,hit⟩:=h
 have HIT:=hid hit
 have Qg:=hid Md
 clear hit Md
 refine callsIn_of_wp_marks func46 rfl zs ?_ rfl
 simp only[ntmps46,List.size_toArray,List.length_cons,List.length_nil,Nat.reduceAdd,Nat.reduceSub,Array.replicate_succ,Array.replicate_zero,List.push_toArray,List.append_toArray,List.nil_append,List.cons_append]
 gi_wp2
 obtain⟨w1,hw1⟩:∃w1,w1=w.alloc (.cells #[int i64 0] 3):=⟨_,rfl⟩
 have B1:Hid (Below w.heap.size w w1):=hid (by rw[hw1];exact bw)
 have W1:Hid (Whole w1 w.heap.size 3 #[int i64 0]):=hid (by rw[hw1];exact Whole.new _ _ _)
 have hs1:w1.heap.size=w.heap.size+1:=by rw[hw1];simp
 rw[← hw1]
 clear hw1
 refine iJ (C:=fun x=>x=w.heap.size) rfl rfl (gf:=gf) (lb:=lb) rfl hfn Qg.out (encs:=fun h:Ht=>#[h.val]) (xs:=xs)
  (fun x hx=>zo) ?hseq (fun _=>rfl) (fun pre W'=>Whole W' w.heap.size 3 #[int i64 pre.length]) (fun c pre W'=>False)
  (fun pre A B h hb=>h.below hb zo) (fun c pre A B h hb=>h.elim) W1.out ?gB ?hdone ?hstop
 case hseq=>exact fun W2 hb2 hs2=>HIT.out _ W2 (B1.out.trans (hb2.mono B1.out.size)) fun x hx=>zo
 case gB=>
  intro l' pre h A hl' hpre hj hk hsz hrec
  gi_wp2
  refine⟨Below.refl _ _,fun W2 hS=>?_⟩
  have b7:Whole W2 w.heap.size 3 #[int i64 pre.length]:=hj.of (hS.block _ zo)
  have c0:W2.cell? ⟨w.heap.size,0,none⟩=some (int i64 pre.length):=b7.cell 0
  have f0:=b7.thaw
  have e1:wrap64 ((pre.length:Int)+1)=(pre.length:Int)+1:=IntWalk.wrap64_in _ (by have:=iC hpre;omega)
  gi_wp2
  exact⟨Keeps.set (C:=fun x=>x=w.heap.size) (p:=⟨w.heap.size,0,none⟩) (Keeps.refl _ _) rfl _,by simpa using b7.set 0 (int i64 (pre.length+1))⟩
 case hdone=>
  intro W' hj hk hm
  have c0:W'.cell? ⟨w.heap.size,0,none⟩=some (int i64 xs.length):=hj.cell 0
  simp only[Exit.inBlock,Exit.then]
  go_at_K
  gi_wp2
  have hms:Marks w1.heap.size (w1.heap.size+1) [{target:=.collected w1.heap.size,args:=#[] }] W':=⟨_,rfl,Nat.le_refl _,Nat.lt_succ_self _,hm,trivial⟩
  refine dw hms (fun B hB=>⟨_,results_tmp rfl _ _ _,rfl,?_⟩) hk.size
  exact(B1.out.trans (hk.below (n:=w.heap.size) (fun b hb hc=>zo) zo)).trans (hB.mono zo)
 case hstop=>
  rintro c pre W' hpre hx hk hm
  exact hx.elim
def MO(n so:Nat):Int:=if n=0 then 0 else if so=n then 1 else if so=0 then 2 else 0
def Rt(n:Nat):Int:=if n=0 then 9 else 0
theorem gp(gf:Nat)(lb:Array Value)(g:Nat)(lg:Array Value)(p:Ht→Bool)(xs:List Ht)(w:World)(hlen:xs.length<2 ^ 40)(h:ny FF gf lb xs w)(hg:sI FF g lg xs (fun h=>.bool (p h)) w):CallsIn FF 0 prog 59 #[.func (.func gf) #[] lb,.func (.func g) #[] lg] w fun e w'=>e=.returned (.tuple #[int i64 (MO xs.length (xs.filter p).length),int i64 (Rt xs.length)])∧Below w.heap.size w w':=by
 obtain⟨so,hso⟩:∃so,so=(xs.filter p).length:=⟨_,rfl⟩
 obtain⟨n,hn⟩:∃n,n=xs.length:=⟨_,rfl⟩
 have hle:so≤n:=by rw[hso,hn];exact List.length_filter_le _ _
 have OS:=hid hso
 have On:=hid hn
 have aav:n<2 ^ 40:=zo
 rw[← hso,← hn]
 clear hso hn
 obtain⟨hfn,Md,hit⟩:=h
 have HIT:=hid hit
 have Qg:=hid Md
 obtain⟨hgf,hge,hgc⟩:=hg
 rw[qz] at hgf
 have HG:=hid hgc
 clear hit Md hgc
 refine callsIn_of_wp_marks func59 rfl zs ?_ rfl
 simp only[ntmps59,List.size_toArray,List.length_cons,List.length_nil,Nat.reduceAdd,Nat.reduceSub,Array.replicate_succ,Array.replicate_zero,List.push_toArray,List.append_toArray,List.nil_append,List.cons_append]
 gi_wp2
 obtain⟨w1,hw1⟩:∃w1,w1=((w.alloc (.cells #[.func (.func g) #[] lg] 107)).alloc (.cells #[int i64 0] 3)).alloc (.cells #[int i64 0] 3):=⟨_,rfl⟩
 have B1:Hid (Below w.heap.size w w1):=hid (by rw[hw1];exact bw)
 have F1:Hid (Whole w1 w.heap.size 107 #[.func (.func g) #[] lg]):=hid (by rw[hw1];exact((Whole.new _ _ _).alloc _).alloc _)
 have M1:Hid (Whole w1 (w.heap.size+1) 3 #[int i64 0]):=hid (by
  have:=Whole.new (w.alloc (.cells #[.func (.func g) #[] lg] 107)) 3 #[int i64 0]
  rw[World.size_alloc] at this;rw[hw1];exact this.alloc _)
 have S1:Hid (Whole w1 (w.heap.size+1+1) 3 #[int i64 0]):=hid (by
  have:=Whole.new ((w.alloc (.cells #[.func (.func g) #[] lg] 107)).alloc (.cells #[int i64 0] 3)) 3 #[int i64 0]
  rw[World.size_alloc,World.size_alloc] at this;rw[hw1];exact this)
 have hs1:w1.heap.size=w.heap.size+3:=by rw[hw1];simp
 rw[← hw1]
 clear hw1
 obtain⟨CC,RV⟩:∃CC:Nat→Prop,CC=fun x=>x=w.heap.size+1∨x=w.heap.size+1+1:=⟨_,rfl⟩
 have mY:∀x,CC x↔x=w.heap.size+1∨x=w.heap.size+1+1:=fun x=>by rw[RV]
 clear RV
 refine iJ (C:=CC) rfl rfl (gf:=gf) (lb:=lb) rfl hfn Qg.out (encs:=fun h:Ht=>#[h.val]) (xs:=xs)
  (fun x hx=>by have:=(mY x).1 hx;omega) ?hseq (fun _=>rfl) (fun pre W'=>Hid (Whole W' w.heap.size 107 #[.func (.func g) #[] lg]∧Whole W' (w.heap.size+1) 3 #[int i64 pre.length]∧Whole W' (w.heap.size+1+1) 3 #[int i64 (pre.filter p).length])) (fun c pre W'=>False)
  (fun pre A B h hb=>hid ⟨h.out.1.below hb zo,h.out.2.1.below hb zo,h.out.2.2.below hb zo⟩) (fun c pre A B h hb=>h.elim) (hid ⟨F1.out,M1.out,S1.out⟩) ?gB ?hdone ?hstop
 case hseq=>exact fun W2 hb2 hs2=>HIT.out _ W2 (B1.out.trans (hb2.mono B1.out.size)) fun x hx=>by rw[mY] at hx;omega
 case gB=>
  intro l' pre h A hl' hpre hj hk hsz hrec
  obtain⟨hf,hmm,uz⟩:=h
  simp only[Ht.val,Ht.cells]
  gi_wp2
  refine⟨bw,fun W2 hS=>?_⟩
  have ow:Below (w.heap.size+3) A W2:=((Below.refl _ A).alloc zo _).trans (hS.below zo)
  have X2:Whole W2 A.heap.size 88 (⟨hf,hmm,uz⟩:Ht).cells:=(Whole.new A _ _).of (hS.block _ zo)
  have F2:=hid (hj.out.1.below ow zo)
  have M2:=hid (hj.out.2.1.below ow zo)
  have S2:=hid (hj.out.2.2.below ow zo)
  have e1:wrap64 ((pre.length:Int)+1)=(pre.length:Int)+1:=IntWalk.wrap64_in _ (by have:=iC hpre;omega)
  have hfl:(pre.filter p).length≤pre.length:=List.length_filter_le _ _
  have e2:wrap64 (((pre.filter p).length:Int)+1)=((pre.filter p).length:Int)+1:=IntWalk.wrap64_in _ (by have:=iC hpre;omega)
  have c6:W2.cell? ⟨w.heap.size+1,0,none⟩=some (int i64 pre.length):=M2.out.cell 0
  have f6:=M2.out.thaw
  have hsA:A.heap.size+1≤W2.heap.size:=by have:=hS.size;simp at this;exact Nat.le_of_eq this.symm
  obtain⟨W3,hW3⟩:∃W3,W3=W2.setCell ⟨w.heap.size+1,0,none⟩ (int i64 (pre.length+1)):=⟨_,rfl⟩
  have F3:=hid (by rw[hW3];exact F2.out.other zF _:Whole W3 w.heap.size 107 #[.func (.func g) #[] lg])
  have X3:Hid (Whole W3 A.heap.size 88 (⟨hf,hmm,uz⟩:Ht).cells):=hid (by rw[hW3];exact X2.other zF _)
  have M3:Hid (Whole W3 (w.heap.size+1) 3 #[int i64 (pre.length+1)]):=hid (by rw[hW3];exact M2.out.set 0 (int i64 (pre.length+1)))
  have S3:Hid (Whole W3 (w.heap.size+1+1) 3 #[int i64 (pre.filter p).length]):=hid (by rw[hW3];exact S2.out.other zF _)
  have K3:Hid (Keeps CC W2 W3):=hid (by rw[hW3];exact Keeps.set (p:=⟨w.heap.size+1,0,none⟩) (Keeps.refl _ _) ((mY _).2 (.inl rfl)) _)
  have hs3:W3.heap.size=W2.heap.size:=by rw[hW3];simp[World.setCell]
  have q0:W3.cell? ⟨w.heap.size,0,none⟩=some (.func (.func g) #[] lg):=F3.out.cell 0
  have x0:W3.cell? ⟨A.heap.size,0,none⟩=some (int i64 (hf 0)):=X3.out.cell 0
  have x1:W3.cell? ⟨A.heap.size,1,none⟩=some (int i64 (hf 1)):=X3.out.cell 1
  have x2:W3.cell? ⟨A.heap.size,2,none⟩=some (int i64 (hf 2)):=X3.out.cell 2
  have x3:W3.cell? ⟨A.heap.size,3,none⟩=some (int i64 (hmm 0)):=X3.out.cell 3
  have x4:W3.cell? ⟨A.heap.size,4,none⟩=some (int i64 (hmm 1)):=X3.out.cell 4
  have x5:W3.cell? ⟨A.heap.size,5,none⟩=some (int i64 (hmm 2)):=X3.out.cell 5
  have x6:W3.cell? ⟨A.heap.size,6,none⟩=some (int i64 (hmm 3)):=X3.out.cell 6
  have x7:W3.cell? ⟨A.heap.size,7,none⟩=some (int i64 (hmm 4)):=X3.out.cell 7
  have x8:W3.cell? ⟨A.heap.size,8,none⟩=some (int i64 (hmm 5)):=X3.out.cell 8
  have x9:W3.cell? ⟨A.heap.size,9,none⟩=some (int i64 uz):=X3.out.cell 9
  have hB3:Below w.heap.size w W3:=by
   rw[hW3]
   exact(((B1.out.trans (hk.below (n:=w.heap.size) (fun b hb hc=>by have:=(mY b).1 hc;omega) zo)).trans (ow.mono zo))).setCell zs _
  have cG:=HG.out W3 ⟨hf,hmm,uz⟩ (fH hpre) hB3
  simp only[Ht.val,Ht.cells] at cG
  rw[hW3] at q0 x0 x1 x2 x3 x4 x5 x6 x7 x8 x9
  have HW3:=hid hW3
  have kh:=hid cG
  have hpf:∀b,p ⟨hf,hmm,uz⟩=b→(pre ++ [(⟨hf,hmm,uz⟩:Ht)]).filter p=pre.filter p ++ if b=true then[⟨hf,hmm,uz⟩] else[]:=fun b hb=>by
   rw[List.filter_append,List.filter_cons,hb];cases b <;> rfl
  obtain⟨t,ht⟩:∃t,p ⟨hf,hmm,uz⟩=t:=⟨_,rfl⟩
  have OF:=hid (hpf t ht)
  rw[ht] at kh
  clear hpf hW3 cG hB3 X2 ow ht
  have fin:∀W5,Keeps CC W2 W5→Whole W5 w.heap.size 107 #[.func (.func g) #[] lg]→Whole W5 (w.heap.size+1) 3 #[int i64 (pre.length+1)]→Whole W5 (w.heap.size+1+1) 3 #[int i64 ((pre ++ [(⟨hf,hmm,uz⟩:Ht)]).filter p).length]→
   vN CC (fun W'=>Hid (Whole W' w.heap.size 107 #[.func (.func g) #[] lg]∧Whole W' (w.heap.size+1) 3 #[int i64 (pre ++ [(⟨hf,hmm,uz⟩:Ht)]).length]∧Whole W' (w.heap.size+1+1) 3 #[int i64 ((pre ++ [(⟨hf,hmm,uz⟩:Ht)]).filter p).length])) (fun c W'=>False) W2 .normal {tmps:=#[],defers:=[] } W5:=fun W5 k f m s=>⟨k,hid ⟨f,by simpa using m,s⟩⟩
  have FIN:=hid fin
  clear fin
  cases t
  ·gi_wp2_with (rw[← HW3.out];refine kh.out.mono ?_;rintro e W4 ⟨rfl,hb4⟩)
   refine FIN.out W4 (K3.out.trans (Keeps.bJ hb4)) (F3.out.below hb4 F3.out.lt) (M3.out.below hb4 M3.out.lt) ?_
   rw[OF.out]
   simpa using S3.out.below hb4 S3.out.lt
  ·gi_wp2_with (rw[← HW3.out];refine kh.out.mono ?_;rintro e W4 ⟨rfl,hb4⟩;have S4:=S3.out.below hb4 S3.out.lt;have c7:W4.cell? ⟨w.heap.size+1+1,0,none⟩=some (int i64 (pre.filter p).length):=S4.cell 0;have f7:=S4.thaw)
   refine FIN.out _ (Keeps.set (p:=⟨w.heap.size+1+1,0,none⟩) (K3.out.trans (Keeps.bJ hb4)) ((mY _).2 (.inr rfl)) _) ((F3.out.below hb4 F3.out.lt).other zF _) ((M3.out.below hb4 M3.out.lt).other zF _) ?_
   rw[OF.out]
   simpa using S4.set 0 (int i64 ((pre.filter p).length+1))
 case hdone=>
  intro W' hj hk hm
  have c6:W'.cell? ⟨w.heap.size+1,0,none⟩=some (int i64 n):=by rw[On.out];exact hj.out.2.1.cell 0
  have c7:W'.cell? ⟨w.heap.size+1+1,0,none⟩=some (int i64 so):=by rw[OS.out];exact hj.out.2.2.cell 0
  have hms:Marks w1.heap.size (w1.heap.size+1) [{target:=.collected w1.heap.size,args:=#[] }] W':=⟨_,rfl,Nat.le_refl _,Nat.lt_succ_self _,hm,trivial⟩
  have Vs:=hid hms
  have HKK:=hid hk
  have Lg:Hid (Below w.heap.size w W'):=hid (B1.out.trans (hk.below (n:=w.heap.size) (fun b hb hc=>by have:=(mY b).1 hc;omega) zo))
  clear hj hms hk hm
  simp only[Exit.inBlock,Exit.then]
  go_at_K
  gi_wp2
  all_goals
   refine dw Vs.out (fun B hB=>⟨_,results_tmp2 rfl _ _ _,?_,Lg.out.trans (hB.mono zo)⟩) HKK.out.size
   clear Vs HKK Lg HIT Qg HG hge hgf hfn c6 c7 mY OS On
   simp_all [MO,Rt]
  all_goals first|omega|(intro hh;exact absurd (show so=n by omega) hh)
 case hstop=>
  rintro c pre W' hpre hx hk hm
  exact hx.elim
end
end Go.Proofs.YthaelabgfnnebaaGreat
