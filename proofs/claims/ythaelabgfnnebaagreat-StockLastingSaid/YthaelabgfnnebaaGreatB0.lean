/- YT MK YH Sq YC1 -/
import Derived.Test.YthaelabgfnnebaaGreatA9
import Derived.Shelf.Abstract
set_option maxRecDepth 100000
set_option maxHeartbeats 16000000
set_option linter.unusedVariables false
set_option linter.unusedSectionVars false
open Go.IntKind(i64)
open Go.Lib(hid)
open Go.Proofs.Tryz
open Go.Value(int)
namespace Go.Proofs.YthaelabgfnnebaaGreat
section
open Go.RowKit
open Go.Sort (grow)
attribute [local go_sem] Oper.semAt_some
theorem TP{p:FuncId→Prop}[yA p](b:Bk)(lies:Nat)(w:World):CallsIn (FW p) 0 prog 78 #[b.val,int i64 lies] w fun e w'=>e=.returned (.func (.func 101) #[] #[.pointer (some ⟨w.heap.size,0,none⟩),.pointer (some ⟨w.heap.size+1,0,none⟩)])∧
 Whole w' w.heap.size 74 b.cells∧Whole w' (w.heap.size+1) 3 #[int i64 lies]∧Below w.heap.size w w'∧w'.heap.size=w.heap.size+2:=by
 obtain⟨days,most,gA,ng,gc,g,mA,nm,mc,m,cA,nc,cc,c⟩:=b
 simp only[Bk.val,Bk.cells]
 gi_enter func78,ntmps78
 gi_wp2
 go_ret
 have e2:=Whole.new (w.alloc (.cells #[int i64 days,int i64 most,.slice gA ng gc,.slice mA nm mc,.slice cA nc cc] 74)) 3 #[int i64 lies]
 rw[World.size_alloc] at e2
 exact⟨rfl,(Whole.new _ _ _).alloc _,e2,bw,zs⟩
theorem TI{p:FuncId→Prop}[yA p](b:Bk)(ok:b.Ok)(lies:Nat)(hl:lies<64)(C:Nat→Prop)(N0 Bb Bl:Nat)(W:World)(hC:∀x,C x→x<W.heap.size)
 (hb:Whole W Bb 74 b.cells)(hw:Whole W Bl 3 #[int i64 lies])(hA:b.At W N0)(hN:N0≤W.heap.size)(cb:¬ C Bb)(cl:¬ C Bl)(cn:∀x,x<N0→¬ C x):
 Iter (FW p) prog 101 #[.pointer (some ⟨Bb,0,none⟩),.pointer (some ⟨Bl,0,none⟩)] (fun h:Ht=>#[h.val]) (jg b lies) C W:=by
 intro l J Jx hJ hJx hY h0
 show CallsIn (FW p) 0 prog 101 #[.func (.yield l) #[] #[],.pointer (some ⟨Bb,0,none⟩),.pointer (some ⟨Bl,0,none⟩)] W _
 have ri:∀w,b.At w w.heap.size→CallsIn (FW p) 0 prog 105 #[b.val] w fun e w'=>∃A p,e=.returned (.slice A (bS b b.ng).length p)∧Rows w' w'.heap.size 3 A (bS b b.ng).length (fun i j=>int i64 ((bS b b.ng).getD i (fun _=>0) j))∧(∀ad,A=some ad→w.heap.size<ad.block)∧Below w.heap.size w w':=fun w hA=>CallsIn.wide (QN b w hA ok.bJ)
 obtain⟨F,hF⟩:∃F:St→List Ht,F=fun s=>iN b b.nm 0 ⟨s,fun _=>0,lies⟩ s:=⟨_,rfl⟩
 obtain⟨L,hL⟩:∃L,L=bS b b.ng:=⟨_,rfl⟩
 have hxs:jg b lies=L.flatMap F:=by rw[hL,hF];rfl
 have xi:∀s∈L,∀q,q<3→0≤s q∧s q≤99:=by rw[hL];exact sF b ok.bJ b.ng (Nat.le_refl _)
 have hlen:L.length≤27:=by rw[hL];exact Nat.le_trans (pW b ok.bJ b.ng (Nat.le_refl _)) (Nat.le_trans (Nat.pow_le_pow_right zD ok.bJ.1.2) zD)
 rw[← hL] at ri
 have Yh:=fun By Bf pre s W'=>ZW b ok C N0 Bb By Bf l W J Jx (jg b lies) hC hJ hY b.nm 0 ⟨s,fun _=>0,lies⟩ s pre W' zo
 have vt:∀By Bf pre s W',s∈L→FM b C N0 Bb By Bf l W'→Keeps C W W'→J pre W'→(pre ++ F s)<+:L.flatMap F→CallsIn (FW p) 0 prog 102 #[(⟨s,fun _=>0,lies⟩:Ht).val,lH s,int i64 0,.pointer (some ⟨Bb,0,none⟩),.pointer (some ⟨By,0,none⟩),.pointer (some ⟨Bf,0,none⟩)] W' fun e W2=>Keeps C W' W2∧((e=.returned (.bool true)∧J (pre ++ F s) W2)∨(e=.returned (.bool false)∧∃q,q<+:F s∧Jx (pre ++ q) W2)):=fun By Bf pre s W' hs hM hK hj hp=>by
  have:=Yh By Bf pre s W' hM hK hj (by rw[hxs,hF] at *;exact hp) (fun q hq=>by have:=xi s hs q hq;push_cast;omega) hl
  rw[hF]
  exact_mod_cast this
 rw[hxs]
 have hb':=hb
 obtain⟨days,most,gA,ng,gc,g,mA,nm,mc,m,cA,nc,cc,c⟩:=b
 simp only[Bk.val,Bk.cells,lH,Ht.val,Ht.cells] at ri vt
 have HC:=hid hC
 have HJ:=hid hJ
 have tE:=hid ri
 have OS:=hid vt
 have HLb:=hid xi
 have HA:=hid hA
 have Ue:=hid cn
 have Hb:=hid hb
 have Hw:=hid hw
 have H0:=hid h0
 have CB:=hid cb
 have CL:=hid cl
 have HN:=hid hN
 clear hC hJ hJx hY ri vt Yh xi hA cn hb hb' hw h0 hxs hL hF ok cb cl hN
 obtain⟨w2,hw2⟩:∃w2,w2=(W.alloc (.cells #[.func (.yield l) #[] #[]] 107)).alloc (.cells #[.func (.func 102) #[] #[.pointer (some ⟨Bb,0,none⟩),.pointer (some ⟨W.heap.size,0,none⟩),.pointer (some ⟨W.heap.size+1,0,none⟩)]] 142):=⟨_,rfl⟩
 have B2:Hid (Below W.heap.size W w2):=hid (by rw[hw2];exact bw)
 have M2:Hid (FM (⟨days,most,gA,ng,gc,g,mA,nm,mc,m,cA,nc,cc,c⟩:Bk) C N0 Bb W.heap.size (W.heap.size+1) l w2):=hid (by
  have hk:Keeps C W w2:=Keeps.bG B2.out
  have m9:∀x,W.heap.size≤x→¬ C x:=fun x hx hc=>by have:=HC.out x hc;omega
  refine⟨Hb.out.keeps hk CB.out,by rw[hw2];exact(Whole.new _ _ _).alloc _,?_,HA.out.keeps hk HN.out Ue.out,Nat.le_trans HN.out hk.size,CB.out,m9 _ (Nat.le_refl _),m9 _ (Nat.le_succ _),Ue.out⟩
  have:=Whole.new (W.alloc (.cells #[.func (.yield l) #[] #[]] 107)) 142 #[.func (.func 102) #[] #[.pointer (some ⟨Bb,0,none⟩),.pointer (some ⟨W.heap.size,0,none⟩),.pointer (some ⟨W.heap.size+1,0,none⟩)]]
  rw[World.size_alloc] at this;rw[hw2];exact this)
 have L2:Hid (Whole w2 Bl 3 #[int i64 lies]):=hid (Hw.out.keeps (Keeps.bG B2.out) CL.out)
 have hs2:w2.heap.size=W.heap.size+2:=by rw[hw2];simp
 have c0:∀i,w2.cell? ⟨Bb,i,none⟩=(#[int i64 days,int i64 most,.slice gA ng gc,.slice mA nm mc,.slice cA nc cc]:Array Value)[i]?:=M2.out.wb.cell
 rw[hw2] at c0
 have Ei:=hid hw2
 clear hw2
 gi_enter func101,ntmps101
 gi_wp2_with (gi_at_call 105;rw[← Ei.out];refine(tE.out w2 (M2.out.at_.more M2.out.n0)).mono ?_;rintro e w4 ⟨A,p,rfl,KM,JS,hb4⟩)
 have K4:Hid (Keeps C W w4):=hid ((Keeps.bG B2.out).trans (Keeps.bG hb4))
 have M4:=hid (M2.out.keeps (Keeps.bG hb4))
 have L4:=hid (L2.out.below hb4 L2.out.lt)
 have J4:Hid (J [] w4):=hid (HJ.out _ _ _ H0.out (B2.out.trans (hb4.mono B2.out.size)))
 have R4:=hid KM
 have A4:=hid JS
 have hs4:W.heap.size+2≤w4.heap.size:=by have:=hb4.size;omega
 clear B2 M2 L2 c0 Ei KM JS hb4 H0
 gi_loopw [11] (fun i wr=>∃q:Nat,q≤L.length∧i=int i64 q∧Hid (Keeps C w4 wr∧J ((L.take q).flatMap F) wr)) (fun i _=>L.length - (intOf i).toNat)
 case atStart=>exact⟨0,Nat.zero_le _,rfl,hid ⟨Keeps.refl _ _,by simpa using J4.out⟩⟩
 case round=>
  obtain⟨q,hq,rfl,hT⟩:=hrel
  obtain⟨wo,rfl⟩:∃wo:World,wo=wr:=⟨_,rfl⟩
  have hso:W.heap.size+2≤wo.heap.size:=Nat.le_trans hs4 hT.out.1.size
  by_cases hq2:q<L.length
  ·obtain⟨ad,rfl,hab,hrow⟩:=R4.out (show 0<L.length by omega)
   have hnc:¬ C ad.block:=fun hx=>by have:=HC.out _ hx;have:=A4.out ad rfl;omega
   obtain⟨s,hs⟩:∃s,s=L.getD q (fun _=>0):=⟨_,rfl⟩
   have hrw:∀j,j<3→wo.cell? ((ad.add (q * 3)).add j)=some (int i64 (s j)):=fun j hj=>by
    rw[pJ,hs]
    exact(hT.out.1.cell (by rw[aJ];exact hab) (by rw[aJ];exact hnc)).trans (hrow q j hq2 hj)
   have d0:wo.cell? (ad.add (q * 3))=some (int i64 (s 0)):=hrw 0 zD
   have d1:wo.cell? ⟨(ad.add (q * 3)).block,(ad.add (q * 3)).off+1,none⟩=some (int i64 (s 1)):=hrw 1 zD
   have d2:wo.cell? ⟨(ad.add (q * 3)).block,(ad.add (q * 3)).off+2,none⟩=some (int i64 (s 2)):=hrw 2 zD
   have hmem:s∈L:=by rw[hs,List.getD_eq_getElem?_getD,List.getElem?_eq_getElem hq2];exact List.getElem_mem hq2
   have htk:L.take (q+1)=L.take q ++ [s]:=by rw[List.take_add_one,hs,List.getD_eq_getElem?_getD,List.getElem?_eq_getElem hq2];rfl
   have hpx:(L.take q).flatMap F ++ F s<+:L.flatMap F:=by
    have h:=List.take_append_drop (q+1) L
    refine⟨(L.drop (q+1)).flatMap F,?_⟩
    conv=>rhs;rw[← h,htk]
    simp
   obtain⟨wn,hwn⟩:∃wn,wn=wo.alloc (.cells #[int i64 (s 0),int i64 (s 1),int i64 (s 2)] 85):=⟨_,rfl⟩
   have KN:Hid (Keeps C w4 wn):=hid (hT.out.1.trans (Keeps.bG (by rw[hwn];exact(Below.refl _ _).alloc (Nat.le_refl _) _)))
   have BN:Hid (Below wo.heap.size wo wn):=hid (by rw[hwn];exact(Below.refl _ _).alloc (Nat.le_refl _) _)
   have MN:=hid (M4.out.keeps KN.out)
   have f0:wn.cell? ⟨W.heap.size+1,0,none⟩=some (.func (.func 102) #[] #[.pointer (some ⟨Bb,0,none⟩),.pointer (some ⟨W.heap.size,0,none⟩),.pointer (some ⟨W.heap.size+1,0,none⟩)]):=MN.out.wf.cell 0
   have l0:wn.cell? ⟨Bl,0,none⟩=some (int i64 lies):=(L4.out.keeps KN.out CL.out).cell 0
   have JN:=hid (HJ.out _ _ _ hT.out.2 (BN.out.mono zo))
   have qe:=hid htk
   have XT:=hid hpx
   have HM:=hid hmem
   rw[hwn] at f0 l0
   have Su:=hid hwn
   clear hwn htk hpx hmem hrow hrw hs hnc
   gi_wp2_with (gi_at_call 102;rw[← Su.out];refine(OS.out _ _ _ s wn HM.out MN.out (K4.out.trans KN.out) JN.out XT.out).mono ?_;rintro e W5 ⟨hk5,(⟨rfl,Z6⟩|⟨rfl,q5,WN,hx5⟩)⟩)
   ·refine⟨⟨q+1,hq2,by push_cast;rfl,hid ⟨KN.out.trans hk5,?_⟩⟩,?_⟩
    ·rw[qe.out,List.flatMap_append];simpa using Z6
    ·simp only[intOf];omega
   ·((try simp only[Exit.inBlock,Exit.then]);first|refine bodyPost_ret (results_none rfl _ _ _) rfl ?_|refine bodyPost_end (results_none rfl _ _ _) rfl ?_)
    exact⟨⟨_,rfl⟩,K4.out.trans (KN.out.trans hk5),.inr ⟨_,List.IsPrefix.trans ((List.prefix_append_right_inj _).2 WN) XT.out,hx5⟩⟩
  ·obtain rfl:q=L.length:=zo
   gi_wp2
   ((try simp only[Exit.inBlock,Exit.then]);first|refine bodyPost_ret (results_none rfl _ _ _) rfl ?_|refine bodyPost_end (results_none rfl _ _ _) rfl ?_)
   exact⟨⟨_,rfl⟩,K4.out.trans hT.out.1,.inl (by simpa using hT.out.2)⟩
end
section
open Go.RowKit
def Marks(lo:Nat):Nat→List Deferred→World→Prop
 | _,[],_=>True
 | hi,d :: ds,W=>∃r,d={target:=.collected r,args:=#[] }∧lo≤r∧r<hi∧W.heap[r]? =some (.deferred (some []))∧Marks lo r ds W
theorem Marks.of{lo:Nat}{W B:World}:∀ {ds:List Deferred} {hi:Nat},Marks lo hi ds W→(∀r,lo≤r→r<hi→B.heap[r]? =W.heap[r]?)→Marks lo hi ds B
 | [],_,_,_=>trivial
 | _ :: _,_,h,hb=>by
   obtain⟨r,e,h1,h2,h3,h4⟩:=h
   exact⟨r,e,h1,h2,(hb r h1 h2).trans h3,h4.of fun x hx hx2=>hb x hx zo⟩
theorem Marks.more{lo:Nat}{W:World}{ds:List Deferred}{hi hi':Nat}(h:Marks lo hi ds W)(hh:hi≤hi'):Marks lo hi' ds W:=by
 cases ds with
 | nil=>trivial
 | cons d ds=>
   obtain⟨r,e,h1,h2,h3,h4⟩:=h
   exact⟨r,e,h1,zo,h3,h4⟩
theorem Marks.keeps{lo hi:Nat}{C:Nat→Prop}{W B:World}{ds:List Deferred}(h:Marks lo hi ds W)(hk:Keeps C W B)(hC:∀x,C x→x<lo)(hh:hi≤W.heap.size):Marks lo hi ds B:=
 h.of fun r h1 h2=>hk.block r zo fun hc=>by have:=hC r hc;omega
theorem dh{F:Fence}{n:Nat}{P:Program}{fn:Func}{tmps:Array Value}{R:Ending→World→Prop}{lo:Nat}:∀ {ds:List Deferred} {hi:Nat} {W:World},Marks lo hi ds W→
 (∀B,Below lo W B→∃v,(results fn tmps).run P B=.ok v B∧R (.returned v) B)→lo≤W.heap.size→LeavesInM F n P fn tmps R ds .returning W
 | [],_,W,_,hR,_=>hR W (Below.refl _ _)
 | _ :: ds,_,W,h,hR,hlo=>by
   obtain⟨r,rfl,h1,h2,h3,h4⟩:=h
   have hb:Below lo W (W.putObj r (.deferred none)):=⟨rfl,rfl,rfl,by simp[World.putObj],fun b hb=>World.putObj_heap_other zo⟩
   refine⟨zs,.inl ⟨_,_,rfl,run_takeDeferred h3,?_⟩⟩
   exact dh (h4.of fun x _ hx2=>World.putObj_heap_other zo) (fun B hB=>hR B (hb.trans hB)) (Nat.le_trans hlo hb.size)
theorem Keeps.and{C:Nat→Prop}{n:Nat}{A B D:World}(h:Keeps C A B)(k:Below n B D)(hn:A.heap.size≤n):Keeps C A D:=
 ⟨k.os.trans h.os,k.tape.trans h.tape,k.output.trans h.output,Nat.le_trans h.size k.size,fun b hb hc=>(k.block b zo).trans (h.block b hb hc)⟩
end
section
open Go.RowKit
open Go.Sort (grow)
attribute [local go_sem] Oper.semAt_some
def aA(b:Bk)(lA:Option Addr)(n lc:Nat):Array Value:=#[int i64 b.days,int i64 b.most,.slice b.gA b.ng b.gc,.slice b.mA b.nm b.mc,.slice b.cA b.nc b.cc,.slice lA n lc]
theorem mZ{p:FuncId→Prop}[yA p](b:Bk)(lA:Option Addr)(n lc:Nat)(w:World):CallsIn (FW p) 0 prog 40 #[.agg (aA b lA n lc)] w fun e w'=>e=.returned (.func (.func 76) #[] #[.pointer (some ⟨w.heap.size,0,none⟩)])∧
 Whole w' w.heap.size 76 (aA b lA n lc)∧Below w.heap.size w w'∧w'.heap.size=w.heap.size+1:=by
 obtain⟨days,most,gA,ng,gc,g,mA,nm,mc,m,cA,nc,cc,c⟩:=b
 simp only[aA]
 gi_enter func40,ntmps40
 gi_wp2
 go_ret
 exact⟨rfl,Whole.new _ _ _,bw,zs⟩
theorem Je{p:FuncId→Prop}[yA p](b:Bk)(ok:b.Ok)(lA:Option Addr)(lc:Nat)(ls:List Nat)(hl:∀s∈ls,cO s)(hn:ls.length≤64)(C:Nat→Prop)(N0 Bc:Nat)(W:World)(hC:∀x,C x→x<W.heap.size)
 (hb:Whole W Bc 76 (aA b lA ls.length lc))(hR:Rows W N0 1 lA ls.length (fun i _=>int i64 ((ls.getD i 0:Nat):Int)))(hA:b.At W N0)(hN:N0≤W.heap.size)(cb:¬ C Bc)(cn:∀x,x<N0→¬ C x):
 Iter (FW p) prog 76 #[.pointer (some ⟨Bc,0,none⟩)] (fun h:Ht=>#[h.val]) (aC b ls) C W:=by
 intro l J Jx hJ hJx hY h0
 show CallsIn (FW p) 0 prog 76 #[.func (.yield l) #[] #[],.pointer (some ⟨Bc,0,none⟩)] W _
 have cL:∀s w,s∈ls→CallsIn (FW p) 0 prog 77 #[b.val,int i64 s] w fun e w'=>e=.returned (.bool (decide (pop s≤b.most)))∧Below w.heap.size w w':=fun s w hs=>CallsIn.wide (QF b s (hl s hs) w)
 have cT:=fun s w=>TP (p:=p) b s w
 obtain⟨G,hG⟩:∃G:Nat→List Ht,G=fun s=>if pop s≤b.most then jg b s else[]:=⟨_,rfl⟩
 have hxs:aC b ls=ls.flatMap G:=by
  rw[hG];unfold aC
  clear hR hb hY hJ hJx h0 hl hn cL
  induction ls with
  | nil=>rfl
  | cons s ls ih=>
    simp only[List.filter_cons,List.flatMap_cons]
    split
    ·rename_i h;rw[List.flatMap_cons,ih,if_pos (of_decide_eq_true h)]
    ·rename_i h;rw[ih,if_neg (fun k=>h (decide_eq_true k))];rfl
 have cI:∀s (C':Nat→Prop) (Bb Bl:Nat) (W':World),s∈ls→(∀x,C' x→x<W'.heap.size)→Whole W' Bb 74 b.cells→Whole W' Bl 3 #[int i64 s]→b.At W' N0→N0≤W'.heap.size→¬ C' Bb→¬ C' Bl→(∀x,x<N0→¬ C' x)→
  Iter (FW p) prog 101 #[.pointer (some ⟨Bb,0,none⟩),.pointer (some ⟨Bl,0,none⟩)] (fun h:Ht=>#[h.val]) (jg b s) C' W':=fun s C' Bb Bl W' hs=>TI (p:=p) b ok s (hl s hs) C' N0 Bb Bl W'
 rw[hxs] at hY⊢
 have GT:∀s,pop s≤b.most→G s=jg b s:=fun s h=>by rw[hG];exact if_pos h
 have GF:∀s,¬ pop s≤b.most→G s=[]:=fun s h=>by rw[hG];exact if_neg h
 have enc:∀h:Ht,#[h.val]=#[h.val]:=fun _=>rfl
 obtain⟨days,most,gA,ng,gc,g,mA,nm,mc,m,cA,nc,cc,c⟩:=b
 simp only[Bk.val,Bk.cells] at cL cT
 simp only[aA] at hb
 have HC:=hid hC
 have HJ:=hid hJ
 have Fs:=hid hJx
 have HY:=hid hY
 have HL:=hid cL
 have HT:=hid cT
 have HI:=hid cI
 have HA:=hid hA
 have Ue:=hid cn
 have Hb:=hid hb
 have HR:=hid hR
 have H0:=hid h0
 have CB:=hid cb
 have HN:=hid hN
 have Pl:=hid GT
 have Pe:=hid GF
 clear hC hJ hJx hY cL cT cI hA cn hb hR h0 cb hN GT GF hxs hG hl enc
 refine callsIn_of_wp_marks func76 rfl zs ?_ rfl
 simp only[ntmps76,List.size_toArray,List.length_cons,List.length_nil,Nat.reduceAdd,Nat.reduceSub,Array.replicate_succ,Array.replicate_zero,List.push_toArray,List.append_toArray,List.nil_append,List.cons_append]
 obtain⟨w2,hw2⟩:∃w2,w2=W.alloc (.cells #[.func (.yield l) #[] #[]] 107):=⟨_,rfl⟩
 have B2:Hid (Below W.heap.size W w2):=hid (by rw[hw2];exact bw)
 have Y2:Hid (Whole w2 W.heap.size 107 #[.func (.yield l) #[] #[]]):=hid (by rw[hw2];exact Whole.new _ _ _)
 have c2:w2.cell? ⟨Bc,5,none⟩=some (.slice lA ls.length lc):=(Hb.out.keeps (Keeps.bG B2.out) CB.out).cell 5
 have hs2:w2.heap.size=W.heap.size+1:=by rw[hw2];simp
 rw[hw2] at c2
 have Ei:=hid hw2
 clear hw2
 gi_wp2
 rw[← Ei.out]
 have K2:Hid (Keeps C W w2):=hid (Keeps.bG B2.out)
 have J2:Hid (J [] w2):=hid (HJ.out _ _ _ H0.out B2.out)
 clear c2 Ei H0
 refine wpIn_loop (fun a' w'=>∃u4 u5 u10 u11 u12 u13 u14 u15 u16 u17 u18 u19 u20 u21 u22 u23 u24 u25 u26 u27 u9:Value,∃ (i:Nat) (ds:List Deferred),i≤ls.length∧u9=int i64 i∧a'={tmps:=#[.func (.yield l) #[] #[],.pointer (some ⟨Bc,0,none⟩),.pointer (some ⟨W.heap.size,0,none⟩),undef,u4,u5,.pointer (some ⟨Bc,5,none⟩),.slice lA ls.length lc,int i64 ls.length,u9,u10,u11,u12,u13,u14,u15,u16,u17,u18,u19,u20,u21,u22,u23,u24,u25,u26,u27],defers:=ds }∧Hid (Keeps C w2 w'∧J ((ls.take i).flatMap G) w'∧Marks w2.heap.size w'.heap.size ds w')) (fun a' _=>ls.length - (intOf (a'.tmps.getD 9 undef)).toNat) ?_ ?_
 ·exact⟨_,_,_,_,_,_,_,_,_,_,_,_,_,_,_,_,_,_,_,_,_,0,[],Nat.zero_le _,rfl,rfl,hid ⟨Keeps.refl _ _,by simpa using J2.out,trivial⟩⟩
 ·rintro a wr ⟨u4,u5,u10,u11,u12,u13,u14,u15,u16,u17,u18,u19,u20,u21,u22,u23,u24,u25,u26,u27,_,i,ds,hi,rfl,rfl,hT⟩
  have hsr:W.heap.size+1≤wr.heap.size:=by have:=hT.out.1.size;omega
  have hC2:Hid (∀x,C x→x<w2.heap.size):=hid fun x hx=>by have:=HC.out x hx;omega
  by_cases hlt:i<ls.length
  ·obtain⟨ad,rfl,hab,hrow⟩:=HR.out (show 0<ls.length by omega)
   obtain⟨s,hs⟩:∃s,s=ls.getD i 0:=⟨_,rfl⟩
   have KW:Hid (Keeps C W wr):=hid (K2.out.trans hT.out.1)
   have d0:wr.cell? (ad.add i)=some (int i64 s):=by
    rw[hs]
    refine(KW.out.cell (by rw[aJ];have:=HN.out;omega) (by rw[aJ];exact Ue.out _ hab)).trans ?_
    simpa using hrow i 0 hlt zD
   have hmem:s∈ls:=by rw[hs,List.getD_eq_getElem?_getD,List.getElem?_eq_getElem hlt];exact List.getElem_mem hlt
   have htk:ls.take (i+1)=ls.take i ++ [s]:=by rw[List.take_add_one,hs,List.getD_eq_getElem?_getD,List.getElem?_eq_getElem hlt];rfl
   have hpx:(ls.take i).flatMap G ++ G s<+:ls.flatMap G:=by
    have h:=List.take_append_drop (i+1) ls
    refine⟨(ls.drop (i+1)).flatMap G,?_⟩
    conv=>rhs;rw[← h,htk]
    simp
   have CW:=hid (Hb.out.keeps KW.out CB.out)
   have c0:wr.cell? ⟨Bc,0,none⟩=some (int i64 days):=CW.out.cell 0
   have c1:wr.cell? ⟨Bc,1,none⟩=some (int i64 most):=CW.out.cell 1
   have c2:wr.cell? ⟨Bc,2,none⟩=some (.slice gA ng gc):=CW.out.cell 2
   have c3:wr.cell? ⟨Bc,3,none⟩=some (.slice mA nm mc):=CW.out.cell 3
   have c4:wr.cell? ⟨Bc,4,none⟩=some (.slice cA nc cc):=CW.out.cell 4
   have HM:=hid hmem
   have qe:=hid htk
   have XT:=hid hpx
   clear hs hmem htk hpx hrow
   by_cases hp:pop s≤most
   ·have hq:=HL.out s wr HM.out
    rw[decide_eq_true hp] at hq
    have hg:=Pl.out s hp
    have HQ:=hid hq
    have HG:=hid hg
    clear hq hg hp
    gi_wp2_with (first
     | (gi_at_call 77;refine HQ.out.mono ?_;rintro e w5 ⟨rfl,hb5⟩
        have C5:=CW.out.below hb5 CW.out.lt
        have e0:w5.cell? ⟨Bc,0,none⟩=some (int i64 days):=C5.cell 0
        have e1:w5.cell? ⟨Bc,1,none⟩=some (int i64 most):=C5.cell 1
        have e2:w5.cell? ⟨Bc,2,none⟩=some (.slice gA ng gc):=C5.cell 2
        have e3:w5.cell? ⟨Bc,3,none⟩=some (.slice mA nm mc):=C5.cell 3
        have e4:w5.cell? ⟨Bc,4,none⟩=some (.slice cA nc cc):=C5.cell 4)
     | (gi_at_call 78;refine(HT.out s w5).mono ?_;rintro e w6 ⟨rfl,hbk,hin,hb6,hs6⟩))
    have K6:Hid (Keeps C w2 w6):=hid ((hT.out.1.and hb5 hT.out.1.size).and hb6 (Nat.le_trans hT.out.1.size hb5.size))
    have lU:=hid ((hb5.trans (hb6.mono hb5.size)).mono hT.out.1.size:Below w2.heap.size wr w6)
    have GW:Hid (Keeps C W w6):=hid (K2.out.trans K6.out)
    have J6:=hid (HJ.out _ _ _ hT.out.2.1 (lU.out.mono zo))
    have M6:Hid (Marks w2.heap.size w5.heap.size ds w6):=hid (((hT.out.2.2.of fun r _ hr=>hb5.block r hr).more hb5.size).of fun r _ hr=>hb6.block r hr)
    have hs5:=hb5.size
    have lj:w2.heap.size≤w6.heap.size:=K6.out.size
    have ZD:w5.heap.size≤w6.heap.size:=zo
    obtain⟨done,hdn⟩:∃done,done=(ls.take i).flatMap G:=⟨_,rfl⟩
    rw[HG.out,← hdn] at XT
    rw[← hdn] at J6
    have NN:=hid hdn
    have xr:=hb5
    have xv:=hb6
    clear hb5 hb6 C5 e0 e1 e2 e3 e4 c0 c1 c2 c3 c4 d0 hdn
    refine iD (C:=C) rfl rfl (gf:=101) (lb:=#[.pointer (some ⟨w5.heap.size,0,none⟩),.pointer (some ⟨w5.heap.size+1,0,none⟩)]) rfl zs (enters_of func101 zk rfl) (encs:=fun h:Ht=>#[h.val]) (xs:=jg (⟨days,most,gA,ng,gc,g,mA,nm,mc,m,cA,nc,cc,c⟩:Bk) s)
     (fun x hx=>by have:=HC.out x hx;omega) ?hseq (fun _=>rfl) (fun pre W'=>J (done ++ pre) W') (fun c pre W'=>c=.ret∧Jx (done ++ pre) W')
     (fun pre A B h hb=>HJ.out _ _ _ h (hb.mono zo)) (fun c pre A B h hb=>⟨h.1,Fs.out _ _ _ h.2 (hb.mono zo)⟩) (by simpa using J6.out) ?fT ?hdone ?hstop
    case hseq=>
     intro W1 hb1 hs1
     have Ks:∀x,w5.heap.size≤x→¬ (C x∨x=w6.heap.size∨x=w6.heap.size+1)∨w6.heap.size≤x:=fun x hx=>by
      rcases Nat.lt_or_ge x w6.heap.size with h|h
      ·exact .inl (by rintro(h1|h1|h1) <;> first|(have:=HC.out x h1;omega)|omega)
      ·exact .inr h
     refine HI.out s _ _ _ W1 HM.out (fun x hx=>?_) (hbk.below hb1 hbk.lt) (hin.below hb1 hin.lt) ((HA.out.keeps GW.out HN.out Ue.out).below (hb1.mono (by have:=HN.out;omega))) (by have:=HN.out;omega) ?_ ?_ (fun x hx=>?_)
     ·rcases hx with h|h|h
      ·have:=HC.out x h;omega
      ·omega
      ·omega
     ·exact(Ks _ (Nat.le_refl _)).resolve_right zo
     ·exact(Ks _ (Nat.le_succ _)).resolve_right zo
     ·rintro(h|h|h)
      ·exact Ue.out x hx h
      ·have:=HN.out;omega
      ·have:=HN.out;omega
    case fT=>
     intro l' pre h A hl' hpre hj hk hsz hrec
     obtain⟨hf,hmm,tV⟩:=h
     simp only[Ht.val,Ht.cells]
     have hk2:Hid (Keeps C W A):=hid (GW.out.trans hk)
     gi_wp2
     refine⟨bw,fun W2 hS=>?_⟩
     have hl2:w6.heap.size+2≤A.heap.size:=hsz
     have X2:Whole W2 A.heap.size 88 #[int i64 (hf 0),int i64 (hf 1),int i64 (hf 2),int i64 (hmm 0),int i64 (hmm 1),int i64 (hmm 2),int i64 (hmm 3),int i64 (hmm 4),int i64 (hmm 5),int i64 tV]:=(Whole.new A _ _).of (hS.block _ zo)
     have nU:Below (w6.heap.size+1) A W2:=((Below.refl _ A).alloc zo _).trans (hS.below zo)
     have GS:Keeps C W W2:=hk2.out.and nU zo
     have YW:=((Y2.out.keeps hT.out.1 (fun hx=>by have:=HC.out _ hx;omega)).below xr zo).below xv zo
     have y2:W2.cell? ⟨W.heap.size,0,none⟩=some (.func (.yield l) #[] #[]):=((YW.keeps hk (fun hx=>by have:=HC.out _ hx;omega)).below nU zo).cell 0
     obtain⟨fn,tmps,SU,bd,hy,fW⟩:=HY.out (done ++ pre) ⟨hf,hmm,tV⟩ W2 (by rw[List.append_assoc];exact List.IsPrefix.trans ((List.prefix_append_right_inj _).2 hpre) XT.out) (HJ.out _ _ _ hj (nU.mono zo)) GS
     simp only[Ht.val,Ht.cells] at hy
     rw[List.append_assoc] at fW
     have x0:W2.cell? ⟨A.heap.size,0,none⟩=some (int i64 (hf 0)):=X2.cell 0
     have x1:W2.cell? ⟨A.heap.size,1,none⟩=some (int i64 (hf 1)):=X2.cell 1
     have x2:W2.cell? ⟨A.heap.size,2,none⟩=some (int i64 (hf 2)):=X2.cell 2
     have x3:W2.cell? ⟨A.heap.size,3,none⟩=some (int i64 (hmm 0)):=X2.cell 3
     have x4:W2.cell? ⟨A.heap.size,4,none⟩=some (int i64 (hmm 1)):=X2.cell 4
     have x5:W2.cell? ⟨A.heap.size,5,none⟩=some (int i64 (hmm 2)):=X2.cell 5
     have x6:W2.cell? ⟨A.heap.size,6,none⟩=some (int i64 (hmm 3)):=X2.cell 6
     have x7:W2.cell? ⟨A.heap.size,7,none⟩=some (int i64 (hmm 4)):=X2.cell 7
     have x8:W2.cell? ⟨A.heap.size,8,none⟩=some (int i64 (hmm 5)):=X2.cell 8
     have x9:W2.cell? ⟨A.heap.size,9,none⟩=some (int i64 tV):=X2.cell 9
     have ub:=hid fW
     clear fW YW GS nU X2 hpre
     gi_wp2
     refine ub.out.mono ?_
     rintro e W5 ⟨hk5,(⟨rfl,Z6⟩|⟨rfl,hx5⟩)⟩
     ·gi_wp2
      exact⟨hk5,Z6⟩
     ·gi_wp2
      exact⟨hk5,rfl,hx5⟩
    case hdone=>
     intro W' hj hk hm
     simp only[Exit.inBlock,Exit.then]
     go_at_K
     gi_wp2
     have hk5:=K6.out.trans hk
     refine⟨⟨_,_,_,_,_,_,_,_,_,_,_,_,_,_,_,_,_,_,_,_,_,i+1,_,hlt,by push_cast;rfl,rfl,hid ⟨hk5,?_,?_⟩⟩,?_⟩
     ·rw[qe.out,List.flatMap_append,← NN.out]
      simpa [HG.out] using hj
     ·exact⟨w6.heap.size,rfl,lj,(Array.getElem?_eq_some_iff.1 hm).1,hm,(M6.out.keeps hk hC2.out zo).more zo⟩
     ·simp only[intOf,Array.getD_eq_getD_getElem?]
      simp
      omega
    case hstop=>
     rintro c pre W' hpre ⟨rfl,hx⟩ hk hm
     gi_wp2
     show LeavesInM _ _ _ _ _ _ _ .returning W'
     have hms:Marks w2.heap.size W'.heap.size ({target:=.collected w6.heap.size,args:=#[] } :: ds) W':=⟨w6.heap.size,rfl,lj,(Array.getElem?_eq_some_iff.1 hm).1,hm,(M6.out.keeps hk hC2.out zo).more zo⟩
     refine dh hms (fun B hB=>⟨_,results_none rfl _ _ _,⟨_,rfl⟩,(K2.out.trans (K6.out.trans hk)).and hB zo,.inr ⟨done ++ pre,?_,Fs.out _ _ _ hx (hB.mono zo)⟩⟩) (K6.out.trans hk).size
     exact List.IsPrefix.trans ((List.prefix_append_right_inj _).2 hpre) XT.out
   ·have hq:=HL.out s wr HM.out
    rw[decide_eq_false hp] at hq
    have hg:=Pe.out s (by simpa using hp)
    have HQ:=hid hq
    have HG:=hid hg
    clear hq hg hp
    gi_wp2_with (gi_at_call 77;refine HQ.out.mono ?_;rintro e w5 ⟨rfl,hb5⟩)
    refine⟨⟨_,_,_,_,_,_,_,_,_,_,_,_,_,_,_,_,_,_,_,_,_,i+1,ds,hlt,by push_cast;rfl,rfl,hid ⟨hT.out.1.and hb5 hT.out.1.size,?_,?_⟩⟩,?_⟩
    ·rw[qe.out,List.flatMap_append]
     simpa [HG.out] using HJ.out _ _ _ hT.out.2.1 (hb5.mono zo)
    ·exact(hT.out.2.2.of fun r _ hr=>hb5.block r hr).more hb5.size
    ·simp only[intOf,Array.getD_eq_getD_getElem?]
     simp
     omega
  ·obtain rfl:i=ls.length:=zo
   gi_wp2
   show LeavesInM _ _ _ _ _ _ ds .returning wr
   refine dh hT.out.2.2 (fun B hB=>⟨_,results_none rfl _ _ _,⟨_,rfl⟩,(K2.out.trans hT.out.1).and hB zo,.inl ?_⟩) hT.out.1.size
   simpa using HJ.out _ _ _ hT.out.2.1 (hB.mono zo)
end
section
open Go.RowKit
def pG(F:Fence)(gf:Nat)(lb:Array Value)(xs:List Ht)(w:World):Prop:=
 F.fn gf∧(∀args W,(callFunc gf args).run prog W=.ok (.enter gf args) W)∧∀ (C:Nat→Prop) (W:World),Below w.heap.size w W→(∀x,C x→w.heap.size≤x∧x<W.heap.size)→Iter F prog gf lb (fun h:Ht=>#[h.val]) xs C W
theorem pG.below{F:Fence}{gf:Nat}{lb:Array Value}{xs:List Ht}{w w':World}(h:pG F gf lb xs w)(hb:Below w.heap.size w w'):pG F gf lb xs w':=
 ⟨h.1,h.2.1,fun C W hW hC=>h.2.2 C W (hb.trans (hW.mono hb.size)) fun x hx=>⟨Nat.le_trans hb.size (hC x hx).1,(hC x hx).2⟩⟩
def qI(F:Fence)(g:Nat)(lb:Array Value)(xs:List Ht)(f:Ht→Value)(w:World):Prop:=
 F.fn g∧(∀args W,(callFunc g args).run prog W=.ok (.enter g args) W)∧∀ (W:World) (h:Ht),h∈xs→Below w.heap.size w W→CallsIn F 0 prog g (#[h.val] ++ lb) W fun e W'=>e=.returned (f h)∧Below W.heap.size W W'
theorem qI.below{F:Fence}{g:Nat}{lb:Array Value}{xs:List Ht}{f:Ht→Value}{w w':World}(h:qI F g lb xs f w)(hb:Below w.heap.size w w'):qI F g lb xs f w':=
 ⟨h.1,h.2.1,fun W x hx hW=>h.2.2 W x hx (hb.trans (hW.mono hb.size))⟩
theorem fu{α:Type}{pre xs:List α}{x:α}(h:pre ++ [x]<+:xs):x∈xs:=h.subset zs
theorem CallsIn.inRound{F:Fence}{P:Program}{n g l:Nat}{args:Array Value}{w:World}{R:Ending→World→Prop}(h:CallsIn F n P g args w R):CallsIn (F.inRound l) n P g args w R:=h
end
section
open Go.RowKit
attribute [local go_sem] Oper.semAt_some
theorem Yf{p:FuncId→Prop}[yA p](gf:Nat)(lb:Array Value)(xs:List Ht)(w:World)(h:pG (FW p) gf lb xs w):CallsIn (FW p) 0 prog 80 #[.func (.func gf) #[] lb] w fun e w'=>e=.returned (.bool (!xs.isEmpty))∧Below w.heap.size w w':=by
 obtain⟨hfn,Ld,hit⟩:=h
 have HIT:=hid hit
 have OY:=hid Ld
 clear hit Ld
 refine callsIn_of_wp_marks func80 rfl zs ?_ rfl
 simp only[ntmps80,List.size_toArray,List.length_cons,List.length_nil,Nat.reduceAdd,Nat.reduceSub,Array.replicate_succ,Array.replicate_zero,List.push_toArray,List.append_toArray,List.nil_append,List.cons_append]
 gi_wp2
 obtain⟨w1,hw1⟩:∃w1,w1=w.alloc (.cells #[.bool false] 4):=⟨_,rfl⟩
 have B1:Hid (Below w.heap.size w w1):=hid (by rw[hw1];exact bw)
 have W1:Hid (Whole w1 w.heap.size 4 #[.bool false]):=hid (by rw[hw1];exact Whole.new _ _ _)
 have hs1:w1.heap.size=w.heap.size+1:=by rw[hw1];simp
 rw[← hw1]
 clear hw1
 have leave:∀ (tmps:Array Value) (t:Bool) (W:World),tmps[2]?.getD undef=.pointer (some ⟨w.heap.size,0,none⟩)→Whole W w.heap.size 4 #[.bool t]→(results Tryz.f80 tmps).run prog W=.ok (.bool t) W:=fun tmps t W ht hW=>by
  have:=hW.cell 0
  simp at this
  simp[results,Tryz.f80,go_sem,this,ht]
 refine iD (C:=fun x=>x=w.heap.size) rfl rfl (gf:=gf) (lb:=lb) rfl hfn OY.out (encs:=fun h:Ht=>#[h.val]) (xs:=xs)
  (fun x hx=>zo) ?hseq (fun _=>rfl) (fun pre W'=>pre=[]∧Whole W' w.heap.size 4 #[.bool false]) (fun c pre W'=>c=.ret∧pre≠[]∧Whole W' w.heap.size 4 #[.bool true])
  (fun pre A B h hb=>⟨h.1,h.2.below hb zo⟩) (fun c pre A B h hb=>⟨h.1,h.2.1,h.2.2.below hb zo⟩) ⟨rfl,W1.out⟩ ?fT ?hdone ?hstop
 case hseq=>exact fun W2 hb2 hs2=>HIT.out _ W2 (B1.out.trans (hb2.mono B1.out.size)) fun x hx=>zo
 case fT=>
  intro l' pre h A hl' hpre hj hk hsz hrec
  gi_wp2
  refine⟨Below.refl _ _,fun W2 hS=>?_⟩
  have Zx:Whole W2 w.heap.size 4 #[.bool false]:=hj.2.of (hS.block _ zo)
  have c0:W2.cell? ⟨w.heap.size,0,none⟩=some (.bool false):=Zx.cell 0
  have f0:=Zx.thaw
  gi_wp2
  exact⟨Keeps.set (C:=fun x=>x=w.heap.size) (p:=⟨w.heap.size,0,none⟩) (Keeps.refl _ _) rfl _,rfl,zs,Zx.set 0 (.bool true)⟩
 case hdone=>
  intro W' hj hk hm
  have c0:W'.cell? ⟨w.heap.size,0,none⟩=some (.bool false):=hj.2.cell 0
  have f0:=hj.2.thaw
  simp only[Exit.inBlock,Exit.then]
  go_at_K
  gi_wp2
  have WW:=hj.2.set 0 (.bool false)
  have hms:Marks w1.heap.size (w1.heap.size+1) [{target:=.collected w1.heap.size,args:=#[] }] (W'.setCell ⟨w.heap.size,0,none⟩ (.bool false)):=⟨_,rfl,Nat.le_refl _,Nat.lt_succ_self _,(Below.heap_setCell _ _ _ _ zm).trans hm,trivial⟩
  have hk':=hk.set (p:=⟨w.heap.size,0,none⟩) rfl (.bool false)
  refine dh hms (fun B hB=>⟨_,leave _ false B rfl (WW.below hB zo),?_,?_⟩) hk'.size
  ·cases xs with
   | nil=>rfl
   | cons x xs=>exact absurd hj.1 zs
  ·exact(B1.out.trans (hk'.below (n:=w.heap.size) (fun b hb hc=>zo) zo)).trans (hB.mono zo)
 case hstop=>
  rintro c pre W' hpre ⟨rfl,hne,hx⟩ hk hm
  gi_wp2
  have hms:Marks w1.heap.size (w1.heap.size+1) [{target:=.collected w1.heap.size,args:=#[] }] W':=⟨_,rfl,Nat.le_refl _,Nat.lt_succ_self _,hm,trivial⟩
  refine dh hms (fun B hB=>⟨_,leave _ true B rfl (hx.below hB zo),?_,?_⟩) hk.size
  ·cases xs with
   | nil=>exact absurd (List.prefix_nil.1 hpre) hne
   | cons x xs=>rfl
  ·exact(B1.out.trans (hk.below (n:=w.heap.size) (fun b hb hc=>zo) zo)).trans (hB.mono zo)
end
end Go.Proofs.YthaelabgfnnebaaGreat
