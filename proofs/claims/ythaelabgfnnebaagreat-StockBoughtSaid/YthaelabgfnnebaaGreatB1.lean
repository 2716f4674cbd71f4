/- YT YH HS -/
import Derived.Test.YthaelabgfnnebaaGreatB0
set_option maxRecDepth 100000
set_option maxHeartbeats 16000000
set_option linter.unusedVariables false
set_option linter.unusedSectionVars false
open Go.IntKind(i64)
open Go.Lib(hid)
open Go.Proofs.Tryz
open Go.Value(int)
namespace Go.Proofs.YthaelabgfnnebaaGreat
section
open Go.RowKit
open Go.Sort (grow)
attribute [local go_sem] Oper.semAt_some
theorem Uc{p:FuncId→Prop}[yx p](b:Bk)(lies:Nat)(w:World):CallsIn (FW p) 0 prog 78 #[b.val,int i64 lies] w fun e w'=>e=.returned (.func (.func 101) #[] #[.pointer (some ⟨w.heap.size,0,none⟩),.pointer (some ⟨w.heap.size+1,0,none⟩)])∧
 Whole w' w.heap.size 74 b.cells∧Whole w' (w.heap.size+1) 3 #[int i64 lies]∧Below w.heap.size w w'∧w'.heap.size=w.heap.size+2:=by
 obtain⟨days,most,gA,ng,gc,g,mA,nm,mc,m,cA,nc,cc,c⟩:=b
 simp only[Bk.val,Bk.cells]
 gi_enter func78,ntmps78
 gi_wp2
 go_ret
 have e2:=Whole.new (w.alloc (.cells #[int i64 days,int i64 most,.slice gA ng gc,.slice mA nm mc,.slice cA nc cc] 74)) 3 #[int i64 lies]
 rw[World.size_alloc] at e2
 exact⟨rfl,(Whole.new _ _ _).alloc _,e2,bw,zs⟩
theorem TU{p:FuncId→Prop}[yx p](b:Bk)(ok:b.Ok)(lies:Nat)(hl:lies<64)(C:Nat→Prop)(N0 Bb Bl:Nat)(W:World)(hC:∀x,C x→x<W.heap.size)
 (hb:Whole W Bb 74 b.cells)(hw:Whole W Bl 3 #[int i64 lies])(hA:b.At W N0)(hN:N0≤W.heap.size)(cb:¬ C Bb)(cl:¬ C Bl)(cn:∀x,x<N0→¬ C x):
 Iter (FW p) prog 101 #[.pointer (some ⟨Bb,0,none⟩),.pointer (some ⟨Bl,0,none⟩)] (fun h:Ht=>#[h.val]) (gW b lies) C W:=by
 intro l J Jx hJ hJx hY h0
 show CallsIn (FW p) 0 prog 101 #[.func (.yield l) #[] #[],.pointer (some ⟨Bb,0,none⟩),.pointer (some ⟨Bl,0,none⟩)] W _
 have sq:∀w,b.At w w.heap.size→CallsIn (FW p) 0 prog 105 #[b.val] w fun e w'=>∃A p,e=.returned (.slice A (bL b b.ng).length p)∧Rows w' w'.heap.size 3 A (bL b b.ng).length (fun i j=>int i64 ((bL b b.ng).getD i (fun _=>0) j))∧(∀ad,A=some ad→w.heap.size<ad.block)∧Below w.heap.size w w':=fun w hA=>CallsIn.wide (Q6 b w hA ok.bn)
 obtain⟨F,hF⟩:∃F:St→List Ht,F=fun s=>fJ b b.nm 0 ⟨s,fun _=>0,lies⟩ s:=⟨_,rfl⟩
 obtain⟨L,hL⟩:∃L,L=bL b b.ng:=⟨_,rfl⟩
 have hxs:gW b lies=L.flatMap F:=by rw[hL,hF];rfl
 have lR:∀s∈L,∀q,q<3→0≤s q∧s q≤99:=by rw[hL];exact sH b ok.bn b.ng (Nat.le_refl _)
 have hlen:L.length≤27:=by rw[hL];exact Nat.le_trans (lY b ok.bn b.ng (Nat.le_refl _)) (Nat.le_trans (Nat.pow_le_pow_right zD ok.bn.1.2) zD)
 rw[← hL] at sq
 have Yt:=fun By Bf pre s W'=>ao b ok C N0 Bb By Bf l W J Jx (gW b lies) hC hJ hY b.nm 0 ⟨s,fun _=>0,lies⟩ s pre W' zo
 have xn:∀By Bf pre s W',s∈L→FM b C N0 Bb By Bf l W'→Keeps C W W'→J pre W'→(pre ++ F s)<+:L.flatMap F→CallsIn (FW p) 0 prog 102 #[(⟨s,fun _=>0,lies⟩:Ht).val,lV s,int i64 0,.pointer (some ⟨Bb,0,none⟩),.pointer (some ⟨By,0,none⟩),.pointer (some ⟨Bf,0,none⟩)] W' fun e W2=>Keeps C W' W2∧((e=.returned (.bool true)∧J (pre ++ F s) W2)∨(e=.returned (.bool false)∧∃q,q<+:F s∧Jx (pre ++ q) W2)):=fun By Bf pre s W' hs hM hK hj hp=>by
  have:=Yt By Bf pre s W' hM hK hj (by rw[hxs,hF] at *;exact hp) (fun q hq=>by have:=lR s hs q hq;push_cast;omega) hl
  rw[hF]
  exact_mod_cast this
 rw[hxs]
 have hb':=hb
 obtain⟨days,most,gA,ng,gc,g,mA,nm,mc,m,cA,nc,cc,c⟩:=b
 simp only[Bk.val,Bk.cells,lV,Ht.val,Ht.cells] at sq xn
 have HC:=hid hC
 have HJ:=hid hJ
 have uk:=hid sq
 have QR:=hid xn
 have HLb:=hid lR
 have HA:=hid hA
 have Uq:=hid cn
 have Hb:=hid hb
 have Hw:=hid hw
 have H0:=hid h0
 have CB:=hid cb
 have CL:=hid cl
 have HN:=hid hN
 clear hC hJ hJx hY sq xn Yt lR hA cn hb hb' hw h0 hxs hL hF ok cb cl hN
 obtain⟨w2,hw2⟩:∃w2,w2=(W.alloc (.cells #[.func (.yield l) #[] #[]] 107)).alloc (.cells #[.func (.func 102) #[] #[.pointer (some ⟨Bb,0,none⟩),.pointer (some ⟨W.heap.size,0,none⟩),.pointer (some ⟨W.heap.size+1,0,none⟩)]] 142):=⟨_,rfl⟩
 have B2:Hid (Below W.heap.size W w2):=hid (by rw[hw2];exact bw)
 have M2:Hid (FM (⟨days,most,gA,ng,gc,g,mA,nm,mc,m,cA,nc,cc,c⟩:Bk) C N0 Bb W.heap.size (W.heap.size+1) l w2):=hid (by
  have hk:Keeps C W w2:=Keeps.bG B2.out
  have oa:∀x,W.heap.size≤x→¬ C x:=fun x hx hc=>by have:=HC.out x hc;omega
  refine⟨Hb.out.keeps hk CB.out,by rw[hw2];exact(Whole.new _ _ _).alloc _,?_,HA.out.keeps hk HN.out Uq.out,Nat.le_trans HN.out hk.size,CB.out,oa _ (Nat.le_refl _),oa _ (Nat.le_succ _),Uq.out⟩
  have:=Whole.new (W.alloc (.cells #[.func (.yield l) #[] #[]] 107)) 142 #[.func (.func 102) #[] #[.pointer (some ⟨Bb,0,none⟩),.pointer (some ⟨W.heap.size,0,none⟩),.pointer (some ⟨W.heap.size+1,0,none⟩)]]
  rw[World.size_alloc] at this;rw[hw2];exact this)
 have L2:Hid (Whole w2 Bl 3 #[int i64 lies]):=hid (Hw.out.keeps (Keeps.bG B2.out) CL.out)
 have hs2:w2.heap.size=W.heap.size+2:=by rw[hw2];simp
 have c0:∀i,w2.cell? ⟨Bb,i,none⟩=(#[int i64 days,int i64 most,.slice gA ng gc,.slice mA nm mc,.slice cA nc cc]:Array Value)[i]?:=M2.out.wb.cell
 rw[hw2] at c0
 have Af:=hid hw2
 clear hw2
 gi_enter func101,ntmps101
 gi_wp2_with (gi_at_call 105;rw[← Af.out];refine(uk.out w2 (M2.out.at_.more M2.out.n0)).mono ?_;rintro e w4 ⟨A,p,rfl,Rb,LO,hb4⟩)
 have K4:Hid (Keeps C W w4):=hid ((Keeps.bG B2.out).trans (Keeps.bG hb4))
 have M4:=hid (M2.out.keeps (Keeps.bG hb4))
 have L4:=hid (L2.out.below hb4 L2.out.lt)
 have J4:Hid (J [] w4):=hid (HJ.out _ _ _ H0.out (B2.out.trans (hb4.mono B2.out.size)))
 have R4:=hid Rb
 have A4:=hid LO
 have hs4:W.heap.size+2≤w4.heap.size:=by have:=hb4.size;omega
 clear B2 M2 L2 c0 Af Rb LO hb4 H0
 gi_loopw [11] (fun i wr=>∃q:Nat,q≤L.length∧i=int i64 q∧Hid (Keeps C w4 wr∧J ((L.take q).flatMap F) wr)) (fun i _=>L.length - (intOf i).toNat)
 case atStart=>exact⟨0,Nat.zero_le _,rfl,hid ⟨Keeps.refl _ _,by simpa using J4.out⟩⟩
 case round=>
  obtain⟨q,hq,rfl,hT⟩:=hrel
  obtain⟨wo,rfl⟩:∃wo:World,wo=wr:=⟨_,rfl⟩
  have hso:W.heap.size+2≤wo.heap.size:=Nat.le_trans hs4 hT.out.1.size
  by_cases hq2:q<L.length
  ·obtain⟨ad,rfl,hab,hrow⟩:=R4.out (show 0<L.length by omega)
   have hnc:¬ C ad.block:=fun hx=>by have:=HC.out _ hx;have:=A4.out ad rfl;omega
   obtain⟨s,hs⟩:∃s,s=L.getD q (fun _=>0):=⟨_,rfl⟩
   have hrw:∀j,j<3→wo.cell? ((ad.add (q * 3)).add j)=some (int i64 (s j)):=fun j hj=>by
    rw[p8,hs]
    exact(hT.out.1.cell (by rw[aH];exact hab) (by rw[aH];exact hnc)).trans (hrow q j hq2 hj)
   have d0:wo.cell? (ad.add (q * 3))=some (int i64 (s 0)):=hrw 0 zD
   have d1:wo.cell? ⟨(ad.add (q * 3)).block,(ad.add (q * 3)).off+1,none⟩=some (int i64 (s 1)):=hrw 1 zD
   have d2:wo.cell? ⟨(ad.add (q * 3)).block,(ad.add (q * 3)).off+2,none⟩=some (int i64 (s 2)):=hrw 2 zD
   have hmem:s∈L:=by rw[hs,List.getD_eq_getElem?_getD,List.getElem?_eq_getElem hq2];exact List.getElem_mem hq2
   have htk:L.take (q+1)=L.take q ++ [s]:=by rw[List.take_add_one,hs,List.getD_eq_getElem?_getD,List.getElem?_eq_getElem hq2];rfl
   have hpx:(L.take q).flatMap F ++ F s<+:L.flatMap F:=by
    have h:=List.take_append_drop (q+1) L
    refine⟨(L.drop (q+1)).flatMap F,?_⟩
    conv=>rhs;rw[← h,htk]
    simp
   obtain⟨wn,hwn⟩:∃wn,wn=wo.alloc (.cells #[int i64 (s 0),int i64 (s 1),int i64 (s 2)] 85):=⟨_,rfl⟩
   have KN:Hid (Keeps C w4 wn):=hid (hT.out.1.trans (Keeps.bG (by rw[hwn];exact(Below.refl _ _).alloc (Nat.le_refl _) _)))
   have BN:Hid (Below wo.heap.size wo wn):=hid (by rw[hwn];exact(Below.refl _ _).alloc (Nat.le_refl _) _)
   have MN:=hid (M4.out.keeps KN.out)
   have f0:wn.cell? ⟨W.heap.size+1,0,none⟩=some (.func (.func 102) #[] #[.pointer (some ⟨Bb,0,none⟩),.pointer (some ⟨W.heap.size,0,none⟩),.pointer (some ⟨W.heap.size+1,0,none⟩)]):=MN.out.wf.cell 0
   have l0:wn.cell? ⟨Bl,0,none⟩=some (int i64 lies):=(L4.out.keeps KN.out CL.out).cell 0
   have JN:=hid (HJ.out _ _ _ hT.out.2 (BN.out.mono zo))
   have rq:=hid htk
   have Yh:=hid hpx
   have HM:=hid hmem
   rw[hwn] at f0 l0
   have TC:=hid hwn
   clear hwn htk hpx hmem hrow hrw hs hnc
   gi_wp2_with (gi_at_call 102;rw[← TC.out];refine(QR.out _ _ _ s wn HM.out MN.out (K4.out.trans KN.out) JN.out Yh.out).mono ?_;rintro e W5 ⟨hk5,(⟨rfl,az⟩|⟨rfl,q5,hq5,hx5⟩)⟩)
   ·refine⟨⟨q+1,hq2,by push_cast;rfl,hid ⟨KN.out.trans hk5,?_⟩⟩,?_⟩
    ·rw[rq.out,List.flatMap_append];simpa using az
    ·simp only[intOf];omega
   ·((try simp only[Exit.inBlock,Exit.then]);first|refine bodyPost_ret (results_none rfl _ _ _) rfl ?_|refine bodyPost_end (results_none rfl _ _ _) rfl ?_)
    exact⟨⟨_,rfl⟩,K4.out.trans (KN.out.trans hk5),.inr ⟨_,List.IsPrefix.trans ((List.prefix_append_right_inj _).2 hq5) Yh.out,hx5⟩⟩
  ·obtain rfl:q=L.length:=zo
   gi_wp2
   ((try simp only[Exit.inBlock,Exit.then]);first|refine bodyPost_ret (results_none rfl _ _ _) rfl ?_|refine bodyPost_end (results_none rfl _ _ _) rfl ?_)
   exact⟨⟨_,rfl⟩,K4.out.trans hT.out.1,.inl (by simpa using hT.out.2)⟩
def aA(b:Bk)(lA:Option Addr)(n lc:Nat):Array Value:=#[int i64 b.days,int i64 b.most,.slice b.gA b.ng b.gc,.slice b.mA b.nm b.mc,.slice b.cA b.nc b.cc,.slice lA n lc]
theorem nD{p:FuncId→Prop}[yx p](b:Bk)(lA:Option Addr)(n lc:Nat)(w:World):CallsIn (FW p) 0 prog 40 #[.agg (aA b lA n lc)] w fun e w'=>e=.returned (.func (.func 76) #[] #[.pointer (some ⟨w.heap.size,0,none⟩)])∧
 Whole w' w.heap.size 76 (aA b lA n lc)∧Below w.heap.size w w'∧w'.heap.size=w.heap.size+1:=by
 obtain⟨days,most,gA,ng,gc,g,mA,nm,mc,m,cA,nc,cc,c⟩:=b
 simp only[aA]
 gi_enter func40,ntmps40
 gi_wp2
 go_ret
 exact⟨rfl,Whole.new _ _ _,bw,zs⟩
theorem Jo{p:FuncId→Prop}[yx p](b:Bk)(ok:b.Ok)(lA:Option Addr)(lc:Nat)(ls:List Nat)(hl:∀s∈ls,cO s)(hn:ls.length≤64)(C:Nat→Prop)(N0 Bc:Nat)(W:World)(hC:∀x,C x→x<W.heap.size)
 (hb:Whole W Bc 76 (aA b lA ls.length lc))(hR:Rows W N0 1 lA ls.length (fun i _=>int i64 ((ls.getD i 0:Nat):Int)))(hA:b.At W N0)(hN:N0≤W.heap.size)(cb:¬ C Bc)(cn:∀x,x<N0→¬ C x):
 Iter (FW p) prog 76 #[.pointer (some ⟨Bc,0,none⟩)] (fun h:Ht=>#[h.val]) (aD b ls) C W:=by
 intro l J Jx hJ hJx hY h0
 show CallsIn (FW p) 0 prog 76 #[.func (.yield l) #[] #[],.pointer (some ⟨Bc,0,none⟩)] W _
 have cL:∀s w,s∈ls→CallsIn (FW p) 0 prog 77 #[b.val,int i64 s] w fun e w'=>e=.returned (.bool (decide (pop s≤b.most)))∧Below w.heap.size w w':=fun s w hs=>CallsIn.wide (QT b s (hl s hs) w)
 have cT:=fun s w=>Uc (p:=p) b s w
 obtain⟨G,hG⟩:∃G:Nat→List Ht,G=fun s=>if pop s≤b.most then gW b s else[]:=⟨_,rfl⟩
 have hxs:aD b ls=ls.flatMap G:=by
  rw[hG];unfold aD
  clear hR hb hY hJ hJx h0 hl hn cL
  induction ls with
  | nil=>rfl
  | cons s ls ih=>
    simp only[List.filter_cons,List.flatMap_cons]
    split
    ·rename_i h;rw[List.flatMap_cons,ih,if_pos (of_decide_eq_true h)]
    ·rename_i h;rw[ih,if_neg (fun k=>h (decide_eq_true k))];rfl
 have cI:∀s (C':Nat→Prop) (Bb Bl:Nat) (W':World),s∈ls→(∀x,C' x→x<W'.heap.size)→Whole W' Bb 74 b.cells→Whole W' Bl 3 #[int i64 s]→b.At W' N0→N0≤W'.heap.size→¬ C' Bb→¬ C' Bl→(∀x,x<N0→¬ C' x)→
  Iter (FW p) prog 101 #[.pointer (some ⟨Bb,0,none⟩),.pointer (some ⟨Bl,0,none⟩)] (fun h:Ht=>#[h.val]) (gW b s) C' W':=fun s C' Bb Bl W' hs=>TU (p:=p) b ok s (hl s hs) C' N0 Bb Bl W'
 rw[hxs] at hY⊢
 have GT:∀s,pop s≤b.most→G s=gW b s:=fun s h=>by rw[hG];exact if_pos h
 have GF:∀s,¬ pop s≤b.most→G s=[]:=fun s h=>by rw[hG];exact if_neg h
 have enc:∀h:Ht,#[h.val]=#[h.val]:=fun _=>rfl
 obtain⟨days,most,gA,ng,gc,g,mA,nm,mc,m,cA,nc,cc,c⟩:=b
 simp only[Bk.val,Bk.cells] at cL cT
 simp only[aA] at hb
 have HC:=hid hC
 have HJ:=hid hJ
 have G':=hid hJx
 have HY:=hid hY
 have HL:=hid cL
 have HT:=hid cT
 have HI:=hid cI
 have HA:=hid hA
 have Uq:=hid cn
 have Hb:=hid hb
 have HR:=hid hR
 have H0:=hid h0
 have CB:=hid cb
 have HN:=hid hN
 have RM:=hid GT
 have Rr:=hid GF
 clear hC hJ hJx hY cL cT cI hA cn hb hR h0 cb hN GT GF hxs hG hl enc
 refine callsIn_of_wp_marks func76 rfl zs ?_ rfl
 simp only[ntmps76,List.size_toArray,List.length_cons,List.length_nil,Nat.reduceAdd,Nat.reduceSub,Array.replicate_succ,Array.replicate_zero,List.push_toArray,List.append_toArray,List.nil_append,List.cons_append]
 obtain⟨w2,hw2⟩:∃w2,w2=W.alloc (.cells #[.func (.yield l) #[] #[]] 107):=⟨_,rfl⟩
 have B2:Hid (Below W.heap.size W w2):=hid (by rw[hw2];exact bw)
 have Y2:Hid (Whole w2 W.heap.size 107 #[.func (.yield l) #[] #[]]):=hid (by rw[hw2];exact Whole.new _ _ _)
 have c2:w2.cell? ⟨Bc,5,none⟩=some (.slice lA ls.length lc):=(Hb.out.keeps (Keeps.bG B2.out) CB.out).cell 5
 have hs2:w2.heap.size=W.heap.size+1:=by rw[hw2];simp
 rw[hw2] at c2
 have Af:=hid hw2
 clear hw2
 gi_wp2
 rw[← Af.out]
 have K2:Hid (Keeps C W w2):=hid (Keeps.bG B2.out)
 have J2:Hid (J [] w2):=hid (HJ.out _ _ _ H0.out B2.out)
 clear c2 Af H0
 refine wpIn_loop (fun a' w'=>∃u4 u5 u10 u11 u12 u13 u14 u15 u16 u17 u18 u19 u20 u21 u22 u23 u24 u25 u26 u27 u9:Value,∃ (i:Nat) (ds:List Deferred),i≤ls.length∧u9=int i64 i∧a'={tmps:=#[.func (.yield l) #[] #[],.pointer (some ⟨Bc,0,none⟩),.pointer (some ⟨W.heap.size,0,none⟩),undef,u4,u5,.pointer (some ⟨Bc,5,none⟩),.slice lA ls.length lc,int i64 ls.length,u9,u10,u11,u12,u13,u14,u15,u16,u17,u18,u19,u20,u21,u22,u23,u24,u25,u26,u27],defers:=ds }∧Hid (Keeps C w2 w'∧J ((ls.take i).flatMap G) w'∧Marks w2.heap.size w'.heap.size ds w')) (fun a' _=>ls.length - (intOf (a'.tmps.getD 9 undef)).toNat) ?_ ?_
 ·exact⟨_,_,_,_,_,_,_,_,_,_,_,_,_,_,_,_,_,_,_,_,_,0,[],Nat.zero_le _,rfl,rfl,hid ⟨Keeps.refl _ _,by simpa using J2.out,trivial⟩⟩
 ·rintro a wr ⟨u4,u5,u10,u11,u12,u13,u14,u15,u16,u17,u18,u19,u20,u21,u22,u23,u24,u25,u26,u27,_,i,ds,hi,rfl,rfl,hT⟩
  have hsr:W.heap.size+1≤wr.heap.size:=by have:=hT.out.1.size;omega
  have hC2:Hid (∀x,C x→x<w2.heap.size):=hid fun x hx=>by have:=HC.out x hx;omega
  by_cases hlt:i<ls.length
  ·obtain⟨ad,rfl,hab,hrow⟩:=HR.out (show 0<ls.length by omega)
   obtain⟨s,hs⟩:∃s,s=ls.getD i 0:=⟨_,rfl⟩
   have KW:Hid (Keeps C W wr):=hid (K2.out.trans hT.out.1)
   have d0:wr.cell? (ad.add i)=some (int i64 s):=by
    rw[hs]
    refine(KW.out.cell (by rw[aH];have:=HN.out;omega) (by rw[aH];exact Uq.out _ hab)).trans ?_
    simpa using hrow i 0 hlt zD
   have hmem:s∈ls:=by rw[hs,List.getD_eq_getElem?_getD,List.getElem?_eq_getElem hlt];exact List.getElem_mem hlt
   have htk:ls.take (i+1)=ls.take i ++ [s]:=by rw[List.take_add_one,hs,List.getD_eq_getElem?_getD,List.getElem?_eq_getElem hlt];rfl
   have hpx:(ls.take i).flatMap G ++ G s<+:ls.flatMap G:=by
    have h:=List.take_append_drop (i+1) ls
    refine⟨(ls.drop (i+1)).flatMap G,?_⟩
    conv=>rhs;rw[← h,htk]
    simp
   have CW:=hid (Hb.out.keeps KW.out CB.out)
   have c0:wr.cell? ⟨Bc,0,none⟩=some (int i64 days):=CW.out.cell 0
   have c1:wr.cell? ⟨Bc,1,none⟩=some (int i64 most):=CW.out.cell 1
   have c2:wr.cell? ⟨Bc,2,none⟩=some (.slice gA ng gc):=CW.out.cell 2
   have c3:wr.cell? ⟨Bc,3,none⟩=some (.slice mA nm mc):=CW.out.cell 3
   have c4:wr.cell? ⟨Bc,4,none⟩=some (.slice cA nc cc):=CW.out.cell 4
   have HM:=hid hmem
   have rq:=hid htk
   have Yh:=hid hpx
   clear hs hmem htk hpx hrow
   by_cases hp:pop s≤most
   ·have hq:=HL.out s wr HM.out
    rw[decide_eq_true hp] at hq
    have hg:=RM.out s hp
    have HQ:=hid hq
    have HG:=hid hg
    clear hq hg hp
    gi_wp2_with (first
     | (gi_at_call 77;refine HQ.out.mono ?_;rintro e w5 ⟨rfl,hb5⟩
        have C5:=CW.out.below hb5 CW.out.lt
        have e0:w5.cell? ⟨Bc,0,none⟩=some (int i64 days):=C5.cell 0
        have e1:w5.cell? ⟨Bc,1,none⟩=some (int i64 most):=C5.cell 1
        have e2:w5.cell? ⟨Bc,2,none⟩=some (.slice gA ng gc):=C5.cell 2
        have e3:w5.cell? ⟨Bc,3,none⟩=some (.slice mA nm mc):=C5.cell 3
        have e4:w5.cell? ⟨Bc,4,none⟩=some (.slice cA nc cc):=C5.cell 4)
     | (gi_at_call 78;refine(HT.out s w5).mono ?_;rintro e w6 ⟨rfl,hbk,hin,hb6,hs6⟩))
    have K6:Hid (Keeps C w2 w6):=hid ((hT.out.1.and hb5 hT.out.1.size).and hb6 (Nat.le_trans hT.out.1.size hb5.size))
    have lX:=hid ((hb5.trans (hb6.mono hb5.size)).mono hT.out.1.size:Below w2.heap.size wr w6)
    have IH:Hid (Keeps C W w6):=hid (K2.out.trans K6.out)
    have J6:=hid (HJ.out _ _ _ hT.out.2.1 (lX.out.mono zo))
    have M6:Hid (Marks w2.heap.size w5.heap.size ds w6):=hid (((hT.out.2.2.of fun r _ hr=>hb5.block r hr).more hb5.size).of fun r _ hr=>hb6.block r hr)
    have hs5:=hb5.size
    have lO:w2.heap.size≤w6.heap.size:=K6.out.size
    have aam:w5.heap.size≤w6.heap.size:=zo
    obtain⟨done,hdn⟩:∃done,done=(ls.take i).flatMap G:=⟨_,rfl⟩
    rw[HG.out,← hdn] at Yh
    rw[← hdn] at J6
    have PT:=hid hdn
    have yn:=hb5
    have yo:=hb6
    clear hb5 hb6 C5 e0 e1 e2 e3 e4 c0 c1 c2 c3 c4 d0 hdn
    refine gB (C:=C) rfl rfl (gf:=101) (lb:=#[.pointer (some ⟨w5.heap.size,0,none⟩),.pointer (some ⟨w5.heap.size+1,0,none⟩)]) rfl zs (enters_of func101 zk rfl) (encs:=fun h:Ht=>#[h.val]) (xs:=gW (⟨days,most,gA,ng,gc,g,mA,nm,mc,m,cA,nc,cc,c⟩:Bk) s)
     (fun x hx=>by have:=HC.out x hx;omega) ?hseq (fun _=>rfl) (fun pre W'=>J (done ++ pre) W') (fun c pre W'=>c=.ret∧Jx (done ++ pre) W')
     (fun pre A B h hb=>HJ.out _ _ _ h (hb.mono zo)) (fun c pre A B h hb=>⟨h.1,G'.out _ _ _ h.2 (hb.mono zo)⟩) (by simpa using J6.out) ?fD ?hdone ?hstop
    case hseq=>
     intro W1 hb1 hs1
     have Mz:∀x,w5.heap.size≤x→¬ (C x∨x=w6.heap.size∨x=w6.heap.size+1)∨w6.heap.size≤x:=fun x hx=>by
      rcases Nat.lt_or_ge x w6.heap.size with h|h
      ·exact .inl (by rintro(h1|h1|h1) <;> first|(have:=HC.out x h1;omega)|omega)
      ·exact .inr h
     refine HI.out s _ _ _ W1 HM.out (fun x hx=>?_) (hbk.below hb1 hbk.lt) (hin.below hb1 hin.lt) ((HA.out.keeps IH.out HN.out Uq.out).below (hb1.mono (by have:=HN.out;omega))) (by have:=HN.out;omega) ?_ ?_ (fun x hx=>?_)
     ·rcases hx with h|h|h
      ·have:=HC.out x h;omega
      ·omega
      ·omega
     ·exact(Mz _ (Nat.le_refl _)).resolve_right zo
     ·exact(Mz _ (Nat.le_succ _)).resolve_right zo
     ·rintro(h|h|h)
      ·exact Uq.out x hx h
      ·have:=HN.out;omega
      ·have:=HN.out;omega
    case fD=>
     intro l' pre h A hl' hpre hj hk hsz hrec
     obtain⟨hf,hmm,tT⟩:=h
     simp only[Ht.val,Ht.cells]
     have hk2:Hid (Keeps C W A):=hid (IH.out.trans hk)
     gi_wp2
     refine⟨bw,fun W2 hS=>?_⟩
     have hl2:w6.heap.size+2≤A.heap.size:=hsz
     have X2:Whole W2 A.heap.size 88 #[int i64 (hf 0),int i64 (hf 1),int i64 (hf 2),int i64 (hmm 0),int i64 (hmm 1),int i64 (hmm 2),int i64 (hmm 3),int i64 (hmm 4),int i64 (hmm 5),int i64 tT]:=(Whole.new A _ _).of (hS.block _ zo)
     have nZ:Below (w6.heap.size+1) A W2:=((Below.refl _ A).alloc zo _).trans (hS.below zo)
     have IF:Keeps C W W2:=hk2.out.and nZ zo
     have YW:=((Y2.out.keeps hT.out.1 (fun hx=>by have:=HC.out _ hx;omega)).below yn zo).below yo zo
     have y2:W2.cell? ⟨W.heap.size,0,none⟩=some (.func (.yield l) #[] #[]):=((YW.keeps hk (fun hx=>by have:=HC.out _ hx;omega)).below nZ zo).cell 0
     obtain⟨fn,tmps,T5,bd,hy,gw⟩:=HY.out (done ++ pre) ⟨hf,hmm,tT⟩ W2 (by rw[List.append_assoc];exact List.IsPrefix.trans ((List.prefix_append_right_inj _).2 hpre) Yh.out) (HJ.out _ _ _ hj (nZ.mono zo)) IF
     simp only[Ht.val,Ht.cells] at hy
     rw[List.append_assoc] at gw
     have x0:W2.cell? ⟨A.heap.size,0,none⟩=some (int i64 (hf 0)):=X2.cell 0
     have x1:W2.cell? ⟨A.heap.size,1,none⟩=some (int i64 (hf 1)):=X2.cell 1
     have x2:W2.cell? ⟨A.heap.size,2,none⟩=some (int i64 (hf 2)):=X2.cell 2
     have x3:W2.cell? ⟨A.heap.size,3,none⟩=some (int i64 (hmm 0)):=X2.cell 3
     have x4:W2.cell? ⟨A.heap.size,4,none⟩=some (int i64 (hmm 1)):=X2.cell 4
     have x5:W2.cell? ⟨A.heap.size,5,none⟩=some (int i64 (hmm 2)):=X2.cell 5
     have x6:W2.cell? ⟨A.heap.size,6,none⟩=some (int i64 (hmm 3)):=X2.cell 6
     have x7:W2.cell? ⟨A.heap.size,7,none⟩=some (int i64 (hmm 4)):=X2.cell 7
     have x8:W2.cell? ⟨A.heap.size,8,none⟩=some (int i64 (hmm 5)):=X2.cell 8
     have x9:W2.cell? ⟨A.heap.size,9,none⟩=some (int i64 tT):=X2.cell 9
     have vi:=hid gw
     clear gw YW IF nZ X2 hpre
     gi_wp2
     refine vi.out.mono ?_
     rintro e W5 ⟨hk5,(⟨rfl,az⟩|⟨rfl,hx5⟩)⟩
     ·gi_wp2
      exact⟨hk5,az⟩
     ·gi_wp2
      exact⟨hk5,rfl,hx5⟩
    case hdone=>
     intro W' hj hk hm
     simp only[Exit.inBlock,Exit.then]
     go_at_K
     gi_wp2
     have hk5:=K6.out.trans hk
     refine⟨⟨_,_,_,_,_,_,_,_,_,_,_,_,_,_,_,_,_,_,_,_,_,i+1,_,hlt,by push_cast;rfl,rfl,hid ⟨hk5,?_,?_⟩⟩,?_⟩
     ·rw[rq.out,List.flatMap_append,← PT.out]
      simpa [HG.out] using hj
     ·exact⟨w6.heap.size,rfl,lO,(Array.getElem?_eq_some_iff.1 hm).1,hm,(M6.out.keeps hk hC2.out zo).more zo⟩
     ·simp only[intOf,Array.getD_eq_getD_getElem?]
      simp
      omega
    case hstop=>
     rintro c pre W' hpre ⟨rfl,hx⟩ hk hm
     gi_wp2
     show LeavesInM _ _ _ _ _ _ _ .returning W'
     have hms:Marks w2.heap.size W'.heap.size ({target:=.collected w6.heap.size,args:=#[] } :: ds) W':=⟨w6.heap.size,rfl,lO,(Array.getElem?_eq_some_iff.1 hm).1,hm,(M6.out.keeps hk hC2.out zo).more zo⟩
     refine dn hms (fun B hB=>⟨_,results_none rfl _ _ _,⟨_,rfl⟩,(K2.out.trans (K6.out.trans hk)).and hB zo,.inr ⟨done ++ pre,?_,G'.out _ _ _ hx (hB.mono zo)⟩⟩) (K6.out.trans hk).size
     exact List.IsPrefix.trans ((List.prefix_append_right_inj _).2 hpre) Yh.out
   ·have hq:=HL.out s wr HM.out
    rw[decide_eq_false hp] at hq
    have hg:=Rr.out s (by simpa using hp)
    have HQ:=hid hq
    have HG:=hid hg
    clear hq hg hp
    gi_wp2_with (gi_at_call 77;refine HQ.out.mono ?_;rintro e w5 ⟨rfl,hb5⟩)
    refine⟨⟨_,_,_,_,_,_,_,_,_,_,_,_,_,_,_,_,_,_,_,_,_,i+1,ds,hlt,by push_cast;rfl,rfl,hid ⟨hT.out.1.and hb5 hT.out.1.size,?_,?_⟩⟩,?_⟩
    ·rw[rq.out,List.flatMap_append]
     simpa [HG.out] using HJ.out _ _ _ hT.out.2.1 (hb5.mono zo)
    ·exact(hT.out.2.2.of fun r _ hr=>hb5.block r hr).more hb5.size
    ·simp only[intOf,Array.getD_eq_getD_getElem?]
     simp
     omega
  ·obtain rfl:i=ls.length:=zo
   gi_wp2
   show LeavesInM _ _ _ _ _ _ ds .returning wr
   refine dn hT.out.2.2 (fun B hB=>⟨_,results_none rfl _ _ _,⟨_,rfl⟩,(K2.out.trans hT.out.1).and hB zo,.inl ?_⟩) hT.out.1.size
   simpa using HJ.out _ _ _ hT.out.2.1 (hB.mono zo)
theorem Below.next{w w1 w2:World}(h:Below w.heap.size w w1)(k:Below w1.heap.size w1 w2):Below w.heap.size w w2:=h.trans (k.mono h.size)
theorem Below.al{w w1:World}(h:Below w.heap.size w w1)(o:Obj):Below w.heap.size w (w1.alloc o):=h.alloc h.size o
def ak(b:Bk):List Nat:=(List.range (2 ^ b.nm)).filter fun s=>Ny b s
theorem rz(b:Bk):bO b (2 ^ b.nm)=(ak b).map fun(n:Nat)=>(n:Int):=rfl
theorem lC(b:Bk)(ok:b.Ok):(ak b).length≤64:=by
 unfold ak
 refine Nat.le_trans (List.length_filter_le _ _) ?_
 rw[List.length_range]
 exact Nat.le_trans (Nat.pow_le_pow_right zD ok.moves.1) zD
theorem Bk.At.up{b:Bk}{w w':World}(h:b.At w w.heap.size)(hb:Below w.heap.size w w'):b.At w' w'.heap.size:=(h.below hb).more hb.size
structure mZ(b:Bk)(A:Option Addr)(w:World):Prop where
 at_:b.At w w.heap.size
 row:Rows w w.heap.size 1 A (ak b).length (fun i _=>int i64 (((ak b).getD i 0:Nat):Int))
theorem mZ.below{b:Bk}{A:Option Addr}{w w':World}(h:mZ b A w)(hb:Below w.heap.size w w'):mZ b A w':=⟨h.at_.up hb,(h.row.below hb).more hb.size⟩
theorem Rows.bQ{w:World}{B size n:Nat}{A:Option Addr}{f:Nat→Nat→Value}(h:Rows w B size A n f){p:Addr}(hp:∀ad,A=some ad→0<n→ad.block≠p.block)(v:Value):Rows (w.setCell p v) B size A n f:=fun hn=>by
 obtain⟨ad,e,hb,hc⟩:=h hn
 refine⟨ad,e,hb,fun i j hi hj=>Eq.trans ?_ (hc i j hi hj)⟩
 have hne:(ad.add (i * size+j)).block≠p.block:=by rw[aH];exact hp ad e hn
 exact World.cell?_of_block (Below.heap_setCell _ _ _ _ hne)
theorem QW(b:Bk)(A:Option Addr)(n p:Nat):b.ZW A n p=.agg (aA b A n p):=by cases b;rfl
theorem mE(b:Bk)(w:World)(h:b.At w w.heap.size)(ok:b.Ok)(hcap:b.ng≤b.gc):CallsIn FF 0 prog 33 #[b.val] w fun e w'=>∃A p,e=.returned (.tuple #[.agg (aA b A (ak b).length p),int i64 0])∧mZ b A w'∧Below w.heap.size w w'∧∀ad,A=some ad→0<(ak b).length→w.heap.size≤ad.block:=by
 refine(SB b w h ok hcap).mono ?_
 rintro e w' ⟨A,p,rfl,hrow,hb⟩
 have hl:(bO b (2 ^ b.nm)).length=(ak b).length:=by rw[rz,List.length_map]
 refine⟨A,p,by rw[hl,QW],⟨h.up hb,?_⟩,hb,fun ad hA hn=>by
  subst hA
  rcases hrow.2 with⟨h0,_⟩|⟨g',cap,cur,h0,h1,_⟩
  ·injection h0 with h0 _ _;cases h0
  ·injection h0 with h0 _ _;cases h0;exact h1⟩
 have:=dw hrow
 rw[hl] at this
 unfold Ints at this
 intro hn
 obtain⟨ad,e,hb,hc⟩:=this hn
 refine⟨ad,e,hb,fun i j hi hj=>(hc i j hi hj).trans ?_⟩
 rw[rz]
 congr 2
 simp[List.getD_eq_getElem?_getD,List.getElem?_map,List.getElem?_eq_getElem hi]
theorem Td(b:Bk)(ok:b.Ok)(hl:∀s∈ak b,cO s)(A:Option Addr)(p Bc:Nat)(w:World)(hc:mZ b A w)(hb:Whole w Bc 76 (aA b A (ak b).length p)):oF FF 76 #[.pointer (some ⟨Bc,0,none⟩)] (aD b (ak b)) w:=by
 refine⟨zs,enters_of func76 zk rfl,fun C W hW hC=>?_⟩
 exact Jo (p:=FF.fn) b ok A p (ak b) hl (lC b ok) C w.heap.size Bc W (fun x hx=>(hC x hx).2) (hb.below hW hb.lt) (hc.row.below hW) (hc.at_.below hW) hW.size (fun h=>by have:=(hC _ h).1;have:=hb.lt;omega) (fun x hx h=>by have:=(hC _ h).1;omega)
theorem oM(b:Bk)(ok:b.Ok)(hl:∀s∈ak b,cO s)(A:Option Addr)(p:Nat)(w:World)(hc:mZ b A w):CallsIn FF 0 prog 40 #[.agg (aA b A (ak b).length p)] w fun e w'=>∃lb,e=.returned (.func (.func 76) #[] lb)∧oF FF 76 lb (aD b (ak b)) w'∧Below w.heap.size w w':=by
 refine(nD (p:=FF.fn) b A (ak b).length p w).mono ?_
 rintro e w' ⟨rfl,hw,hb,-⟩
 exact⟨_,rfl,Td b ok hl A p _ w' (hc.below hb) hw,hb⟩
theorem uO(b:Bk)(w:World)(h:b.At w w.heap.size)(ok:b.Ok)(hcap:b.ng≤b.gc)(hl:∀s∈ak b,cO s)(hlen:(aD b (ak b)).length<2 ^ 40):CallsIn FF 0 prog 14 #[b.val] w fun e w'=>e=.returned (.tuple #[int i64 (aD b (ak b)).length,int i64 0])∧Below w.heap.size w w':=by
 have HO:=hid fun w h=>mE b w h ok hcap
 have HH:=hid fun A p w hc=>oM b ok hl A p w hc
 have HK:=hid fun lb w h=>Vn 76 lb (aD b (ak b)) w hlen h
 have HA:=hid h
 obtain⟨n,hn⟩:∃n,n=(ak b).length:=⟨_,rfl⟩
 obtain⟨xs,hxs⟩:∃xs,xs=aD b (ak b):=⟨_,rfl⟩
 rw[← hn] at HO HH
 rw[← hxs] at HH HK⊢
 clear hn hxs h hcap hl hlen ok
 obtain⟨days,most,gA,ng,gc,g,mA,nm,mc,m,cA,nc,cc,c⟩:=b
 simp only[Bk.val,Bk.cells,aA] at HO HH⊢
 gi_enter func14,ntmps14
 gi_wp2_with (first
  | (gi_at_call 33;refine(HO.out _ (HA.out.up (bw))).mono ?_;rintro e w2 ⟨A,p,rfl,hc2,hb2,-⟩)
  | (gi_at_call 40;refine(HH.out A p _ (hc2.below (bw))).mono ?_;rintro e w4 ⟨lb,rfl,hs4,hb4⟩)
  | (gi_at_call 46;refine(HK.out lb _ hs4).mono ?_;rintro e w5 ⟨rfl,hb5⟩))
 go_ret2
 exact⟨rfl,Below.next (Below.next (Below.al (Below.next (bw) hb2) _) hb4) hb5⟩
end
end Go.Proofs.YthaelabgfnnebaaGreat
