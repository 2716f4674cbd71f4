/- YT MK YH Sq YC1 K1 K2 HS HX HW -/
import Derived.Test.YtpmafoalhnaokaaGreatA4
import Derived.Shelf.Abstract
set_option maxRecDepth 100000
set_option maxHeartbeats 16000000
set_option linter.unusedVariables false
set_option linter.unusedSectionVars false
open Go.IntKind(i64)
open Go.Lib(hid)
open Go.Proofs.Tryz
open Go.Value(int)
namespace Go.Proofs.YtpmafoalhnaokaaGreat
section
open Go.RowKit
open Go.Sort (grow)
attribute [local go_sem] Oper.semAt_some
theorem Wx{p:FuncId→Prop}[Ba p](b:Bk)(lies:Nat)(w:World):CallsIn (FW p) 0 prog 81 #[b.val,int i64 lies] w fun e w'=>e=.returned (.func (.func 104) #[] #[.pointer (some ⟨w.heap.size,0,none⟩),.pointer (some ⟨w.heap.size+1,0,none⟩)])∧
 Whole w' w.heap.size 73 b.cells∧Whole w' (w.heap.size+1) 3 #[int i64 lies]∧Below w.heap.size w w'∧w'.heap.size=w.heap.size+2:=by
 obtain⟨dY,mO,gA,ng,gc,g,mA,nm,mc,m,cA,nc,cc,c⟩:=b
 simp only[Bk.val,Bk.cells]
 gi_enter func81,ntmps81
 gi_wp2
 go_ret
 have e2:=Whole.new (w.alloc (.cells #[int i64 dY,int i64 mO,.slice gA ng gc,.slice mA nm mc,.slice cA nc cc] 73)) 3 #[int i64 lies]
 rw[World.size_alloc] at e2
 exact⟨rfl,(Whole.new _ _ _).alloc _,e2,bw,zs⟩
theorem Wp{p:FuncId→Prop}[Ba p](b:Bk)(ok:b.Ok)(lies:Nat)(hl:lies<64)(C:Nat→Prop)(N0 Bb Bl:Nat)(W:World)(hC:∀x,C x→x<W.heap.size)
 (hb:Whole W Bb 73 b.cells)(hw:Whole W Bl 3 #[int i64 lies])(hA:b.At W N0)(hN:N0≤W.heap.size)(cb:¬ C Bb)(cl:¬ C Bl)(cn:∀x,x<N0→¬ C x):
 Iter (FW p) prog 104 #[.pointer (some ⟨Bb,0,none⟩),.pointer (some ⟨Bl,0,none⟩)] (fun h:Ht=>#[h.val]) (gy b lies) C W:=by
 intro l J Jx hJ hJx hY h0
 show CallsIn (FW p) 0 prog 104 #[.func (.yield l) #[] #[],.pointer (some ⟨Bb,0,none⟩),.pointer (some ⟨Bl,0,none⟩)] W _
 have FO:∀w,b.At w w.heap.size→CallsIn (FW p) 0 prog 108 #[b.val] w fun e w'=>∃A p,e=.returned (.slice A (aR b b.ng).length p)∧Rows w' w'.heap.size 3 A (aR b b.ng).length (fun i j=>int i64 ((aR b b.ng).getD i (fun _=>0) j))∧(∀ad,A=some ad→w.heap.size<ad.block)∧Below w.heap.size w w':=fun w hA=>CallsIn.wide (TI b w hA ok.bX)
 obtain⟨F,hF⟩:∃F:St→List Ht,F=fun s=>eu b b.nm 0 ⟨s,fun _=>0,lies⟩ s:=⟨_,rfl⟩
 obtain⟨L,hL⟩:∃L,L=aR b b.ng:=zE
 have hxs:gy b lies=L.flatMap F:=by rw[hL,hF];rfl
 have QP:∀s∈L,∀q,q<3→0≤s q∧s q≤99:=by rw[hL];exact uD b ok.bX b.ng zL
 have hlen:L.length≤27:=by rw[hL];exact Nat.le_trans (mG b ok.bX b.ng zL) (Nat.le_trans (Nat.pow_le_pow_right zD ok.bX.1.2) zD)
 rw[← hL] at FO
 have cQ:=fun By Bf pre s W'=>jx b ok C N0 Bb By Bf l W J Jx (gy b lies) hC hJ hY b.nm 0 ⟨s,fun _=>0,lies⟩ s pre W' zo
 have Pu:∀By Bf pre s W',s∈L→FM b C N0 Bb By Bf l W'→Keeps C W W'→J pre W'→(pre ++ F s)<+:L.flatMap F→CallsIn (FW p) 0 prog 105 #[(⟨s,fun _=>0,lies⟩:Ht).val,mD s,int i64 0,.pointer (some ⟨Bb,0,none⟩),.pointer (some ⟨By,0,none⟩),.pointer (some ⟨Bf,0,none⟩)] W' fun e W2=>Keeps C W' W2∧((e=.returned (.bool true)∧J (pre ++ F s) W2)∨(e=.returned (.bool false)∧∃q,q<+:F s∧Jx (pre ++ q) W2)):=fun By Bf pre s W' hs hM hK hj hp=>by
  have:=cQ By Bf pre s W' hM hK hj (by rw[hxs,hF] at *;exact hp) (fun q hq=>by have:=QP s hs q hq;push_cast;omega) hl
  rw[hF]
  exact_mod_cast this
 rw[hxs]
 have hb':=hb
 obtain⟨dY,mO,gA,ng,gc,g,mA,nm,mc,m,cA,nc,cc,c⟩:=b
 simp only[Bk.val,Bk.cells,mD,Ht.val,Ht.cells] at FO Pu
 have HC:=hid hC
 have HJ:=hid hJ
 have Lq:=hid FO
 have HFi:=hid Pu
 have HLb:=hid QP
 have HA:=hid hA
 have WT:=hid cn
 have Hb:=hid hb
 have Hw:=hid hw
 have H0:=hid h0
 have CB:=hid cb
 have CL:=hid cl
 have HN:=hid hN
 clear hC hJ hJx hY FO Pu cQ QP hA cn hb hb' hw h0 hxs hL hF ok cb cl hN
 obtain⟨w2,hw2⟩:∃w2,w2=(W.alloc (.cells #[.func (.yield l) #[] #[]] 108)).alloc (.cells #[.func (.func 105) #[] #[.pointer (some ⟨Bb,0,none⟩),.pointer (some ⟨W.heap.size,0,none⟩),.pointer (some ⟨W.heap.size+1,0,none⟩)]] 150):=zE
 have B2:Hid (Below W.heap.size W w2):=hid (by rw[hw2];exact bw)
 have M2:Hid (FM (⟨dY,mO,gA,ng,gc,g,mA,nm,mc,m,cA,nc,cc,c⟩:Bk) C N0 Bb W.heap.size (W.heap.size+1) l w2):=hid (by
  have hk:Keeps C W w2:=Keeps.bI B2.out
  have yi:∀x,W.heap.size≤x→¬ C x:=fun x hx hc=>by have:=HC.out x hc;omega
  refine⟨Hb.out.keeps hk CB.out,by rw[hw2];exact(Whole.new _ _ _).alloc _,?_,HA.out.keeps hk HN.out WT.out,Nat.le_trans HN.out hk.size,CB.out,yi _ zL,yi _ (Nat.le_succ _),WT.out⟩
  have:=Whole.new (W.alloc (.cells #[.func (.yield l) #[] #[]] 108)) 150 #[.func (.func 105) #[] #[.pointer (some ⟨Bb,0,none⟩),.pointer (some ⟨W.heap.size,0,none⟩),.pointer (some ⟨W.heap.size+1,0,none⟩)]]
  rw[World.size_alloc] at this;rw[hw2];exact this)
 have L2:Hid (Whole w2 Bl 3 #[int i64 lies]):=hid (Hw.out.keeps (Keeps.bI B2.out) CL.out)
 have hs2:w2.heap.size=W.heap.size+2:=by rw[hw2];simp
 have c0:∀i,w2.cell? ⟨Bb,i,none⟩=(#[int i64 dY,int i64 mO,.slice gA ng gc,.slice mA nm mc,.slice cA nc cc]:Array Value)[i]?:=M2.out.wb.cell
 rw[hw2] at c0
 have FQ:=hid hw2
 clear hw2
 gi_enter func104,ntmps104
 gi_wp2_with (gi_at_call 108;rw[← FQ.out];refine(Lq.out w2 (M2.out.at_.more M2.out.n0)).mono ?_;rintro e w4 ⟨A,p,rfl,TN,ux,hb4⟩)
 have K4:Hid (Keeps C W w4):=hid ((Keeps.bI B2.out).trans (Keeps.bI hb4))
 have M4:=hid (M2.out.keeps (Keeps.bI hb4))
 have L4:=hid (L2.out.below hb4 L2.out.lt)
 have J4:Hid (J [] w4):=hid (HJ.out _ _ _ H0.out (B2.out.trans (hb4.mono B2.out.size)))
 have R4:=hid TN
 have A4:=hid ux
 have hs4:W.heap.size+2≤w4.heap.size:=by have:=hb4.size;omega
 clear B2 M2 L2 c0 FQ TN ux hb4 H0
 gi_loopw [11] (fun i wr=>∃q:Nat,q≤L.length∧i=int i64 q∧Hid (Keeps C w4 wr∧J ((L.take q).flatMap F) wr)) (fun i _=>L.length - (intOf i).toNat)
 case atStart=>exact⟨0,Nat.zero_le _,rfl,hid ⟨Keeps.refl _ _,by simpa using J4.out⟩⟩
 case round=>
  obtain⟨q,hq,rfl,hT⟩:=hrel
  obtain⟨wo,rfl⟩:∃wo:World,wo=wr:=zE
  have hso:W.heap.size+2≤wo.heap.size:=Nat.le_trans hs4 hT.out.1.size
  by_cases hq2:q<L.length
  ·obtain⟨ad,rfl,hab,hrow⟩:=R4.out (show 0<L.length by omega)
   have hnc:¬ C ad.block:=fun hx=>by have:=HC.out _ hx;have:=A4.out ad rfl;omega
   obtain⟨s,hs⟩:∃s,s=L.getD q (fun _=>0):=zE
   have hrw:∀j,j<3→wo.cell? ((ad.add (q * 3)).add j)=some (int i64 (s j)):=fun j hj=>by
    rw[mF,hs]
    exact(hT.out.1.cell (by rw[aH];exact hab) (by rw[aH];exact hnc)).trans (hrow q j hq2 hj)
   have d0:wo.cell? (ad.add (q * 3))=some (int i64 (s 0)):=hrw 0 zD
   have d1:wo.cell? ⟨(ad.add (q * 3)).block,(ad.add (q * 3)).off+1,none⟩=some (int i64 (s 1)):=hrw 1 zD
   have d2:wo.cell? ⟨(ad.add (q * 3)).block,(ad.add (q * 3)).off+2,none⟩=some (int i64 (s 2)):=hrw 2 zD
   have hmem:s∈L:=by rw[hs,List.getD_eq_getElem?_getD,List.getElem?_eq_getElem hq2];exact List.getElem_mem hq2
   have htk:L.take (q+1)=L.take q ++ [s]:=by rw[List.take_add_one,hs,List.getD_eq_getElem?_getD,List.getElem?_eq_getElem hq2];rfl
   have hpx:(L.take q).flatMap F ++ F s<+:L.flatMap F:=by
    have h:=List.take_append_drop (q+1) L
    refine⟨(L.drop (q+1)).flatMap F,?_⟩
    conv=>rhs;rw[← h,htk]
    simp
   obtain⟨wn,hwn⟩:∃wn,wn=wo.alloc (.cells #[int i64 (s 0),int i64 (s 1),int i64 (s 2)] 88):=zE
   have KN:Hid (Keeps C w4 wn):=hid (hT.out.1.trans (Keeps.bI (by rw[hwn];exact zB.alloc zL _)))
   have BN:Hid (Below wo.heap.size wo wn):=hid (by rw[hwn];exact zB.alloc zL _)
   have MN:=hid (M4.out.keeps KN.out)
   have f0:wn.cell? ⟨W.heap.size+1,0,none⟩=some (.func (.func 105) #[] #[.pointer (some ⟨Bb,0,none⟩),.pointer (some ⟨W.heap.size,0,none⟩),.pointer (some ⟨W.heap.size+1,0,none⟩)]):=MN.out.wf.cell 0
   have l0:wn.cell? ⟨Bl,0,none⟩=some (int i64 lies):=(L4.out.keeps KN.out CL.out).cell 0
   have JN:=hid (HJ.out _ _ _ hT.out.2 (BN.out.mono zo))
   have Ex:=hid htk
   have cd:=hid hpx
   have HM:=hid hmem
   rw[hwn] at f0 l0
   have Hwn:=hid hwn
   clear hwn htk hpx hmem hrow hrw hs hnc
   gi_wp2_with (gi_at_call 105;rw[← Hwn.out];refine(HFi.out _ _ _ s wn HM.out MN.out (K4.out.trans KN.out) JN.out cd.out).mono ?_;rintro e W5 ⟨hk5,(⟨rfl,kk⟩|⟨rfl,q5,hq5,hx5⟩)⟩)
   ·refine⟨⟨q+1,hq2,by push_cast;rfl,hid ⟨KN.out.trans hk5,?_⟩⟩,?_⟩
    ·rw[Ex.out,List.flatMap_append];simpa using kk
    ·simp only[intOf];omega
   ·((try simp only[Exit.inBlock,Exit.then]);first|refine bodyPost_ret (results_none rfl _ _ _) rfl ?_|refine bodyPost_end (results_none rfl _ _ _) rfl ?_)
    exact⟨⟨_,rfl⟩,K4.out.trans (KN.out.trans hk5),.inr ⟨_,List.IsPrefix.trans ((List.prefix_append_right_inj _).2 hq5) cd.out,hx5⟩⟩
  ·obtain rfl:q=L.length:=zo
   gi_wp2
   ((try simp only[Exit.inBlock,Exit.then]);first|refine bodyPost_ret (results_none rfl _ _ _) rfl ?_|refine bodyPost_end (results_none rfl _ _ _) rfl ?_)
   exact⟨⟨_,rfl⟩,K4.out.trans hT.out.1,.inl (by simpa using hT.out.2)⟩
end
section
open Go.RowKit
def Marks(lo:Nat):Nat→List Deferred→World→Prop
 | _,[],_=>True
 | hi,d :: ds,W=>∃r,d={target:=.collected r,args:=#[] }∧lo≤r∧r<hi∧W.heap[r]? =some (.deferred (some []))∧Marks lo r ds W
theorem Marks.of{lo:Nat}{W B:World}:∀ {ds:List Deferred} {hi:Nat},Marks lo hi ds W→(∀r,lo≤r→r<hi→B.heap[r]? =W.heap[r]?)→Marks lo hi ds B
 | [],_,_,_=>trivial
 | _ :: _,_,h,hb=>by
   obtain⟨r,e,h1,h2,h3,h4⟩:=h
   exact⟨r,e,h1,h2,(hb r h1 h2).trans h3,h4.of fun x hx hx2=>hb x hx zo⟩
theorem Marks.more{lo:Nat}{W:World}{ds:List Deferred}{hi hi':Nat}(h:Marks lo hi ds W)(hh:hi≤hi'):Marks lo hi' ds W:=by
 cases ds with
 | nil=>trivial
 | cons d ds=>
   obtain⟨r,e,h1,h2,h3,h4⟩:=h
   exact⟨r,e,h1,zo,h3,h4⟩
theorem Marks.keeps{lo hi:Nat}{C:Nat→Prop}{W B:World}{ds:List Deferred}(h:Marks lo hi ds W)(hk:Keeps C W B)(hC:∀x,C x→x<lo)(hh:hi≤W.heap.size):Marks lo hi ds B:=
 h.of fun r h1 h2=>hk.block r zo fun hc=>by have:=hC r hc;omega
theorem dw{F:Fence}{n:Nat}{P:Program}{fn:Func}{tmps:Array Value}{R:Ending→World→Prop}{lo:Nat}:∀ {ds:List Deferred} {hi:Nat} {W:World},Marks lo hi ds W→
 (∀B,Below lo W B→∃v,(results fn tmps).run P B=.ok v B∧R (.returned v) B)→lo≤W.heap.size→LeavesInM F n P fn tmps R ds .returning W
 | [],_,W,_,hR,_=>hR W zB
 | _ :: ds,_,W,h,hR,hlo=>by
   obtain⟨r,rfl,h1,h2,h3,h4⟩:=h
   have hb:Below lo W (W.putObj r (.deferred none)):=⟨rfl,rfl,rfl,by simp[World.putObj],fun b hb=>World.putObj_heap_other zo⟩
   refine⟨zs,.inl ⟨_,_,rfl,run_takeDeferred h3,?_⟩⟩
   exact dw (h4.of fun x _ hx2=>World.putObj_heap_other zo) (fun B hB=>hR B (hb.trans hB)) (Nat.le_trans hlo hb.size)
theorem Keeps.and{C:Nat→Prop}{n:Nat}{A B D:World}(h:Keeps C A B)(k:Below n B D)(hn:A.heap.size≤n):Keeps C A D:=
 ⟨k.os.trans h.os,k.tape.trans h.tape,k.output.trans h.output,Nat.le_trans h.size k.size,fun b hb hc=>(k.block b zo).trans (h.block b hb hc)⟩
end
section
open Go.RowKit
open Go.Sort (grow)
attribute [local go_sem] Oper.semAt_some
def aA(b:Bk)(lA:Option Addr)(n lc:Nat):Array Value:=#[int i64 b.dY,int i64 b.mO,.slice b.gA b.ng b.gc,.slice b.mA b.nm b.mc,.slice b.cA b.nc b.cc,.slice lA n lc]
theorem nS{p:FuncId→Prop}[Ba p](b:Bk)(lA:Option Addr)(n lc:Nat)(w:World):CallsIn (FW p) 0 prog 39 #[.agg (aA b lA n lc)] w fun e w'=>e=.returned (.func (.func 79) #[] #[.pointer (some ⟨w.heap.size,0,none⟩)])∧
 Whole w' w.heap.size 75 (aA b lA n lc)∧Below w.heap.size w w'∧w'.heap.size=w.heap.size+1:=by
 obtain⟨dY,mO,gA,ng,gc,g,mA,nm,mc,m,cA,nc,cc,c⟩:=b
 simp only[aA]
 gi_enter func39,ntmps39
 gi_wp2
 go_ret
 exact⟨rfl,Whole.new _ _ _,bw,zs⟩
theorem KQ{p:FuncId→Prop}[Ba p](b:Bk)(ok:b.Ok)(lA:Option Addr)(lc:Nat)(ls:List Nat)(hl:∀s∈ls,dZ s)(hn:ls.length≤64)(C:Nat→Prop)(N0 Bc:Nat)(W:World)(hC:∀x,C x→x<W.heap.size)
 (hb:Whole W Bc 75 (aA b lA ls.length lc))(hR:Rows W N0 1 lA ls.length (fun i _=>int i64 ((ls.getD i 0:Nat):Int)))(hA:b.At W N0)(hN:N0≤W.heap.size)(cb:¬ C Bc)(cn:∀x,x<N0→¬ C x):
 Iter (FW p) prog 79 #[.pointer (some ⟨Bc,0,none⟩)] (fun h:Ht=>#[h.val]) (aB b ls) C W:=by
 intro l J Jx hJ hJx hY h0
 show CallsIn (FW p) 0 prog 79 #[.func (.yield l) #[] #[],.pointer (some ⟨Bc,0,none⟩)] W _
 have cL:∀s w,s∈ls→CallsIn (FW p) 0 prog 80 #[b.val,int i64 s] w fun e w'=>e=.returned (.bool (decide (pop s≤b.mO)))∧Below w.heap.size w w':=fun s w hs=>CallsIn.wide (Tv b s (hl s hs) w)
 have cT:=fun s w=>Wx (p:=p) b s w
 obtain⟨G,hG⟩:∃G:Nat→List Ht,G=fun s=>if pop s≤b.mO then gy b s else[]:=⟨_,rfl⟩
 have hxs:aB b ls=ls.flatMap G:=by
  rw[hG];unfold aB
  clear hR hb hY hJ hJx h0 hl hn cL
  induction ls with
  | nil=>rfl
  | cons s ls ih=>
    simp only[List.filter_cons,List.flatMap_cons]
    split
    ·rename_i h;rw[List.flatMap_cons,ih,if_pos (of_decide_eq_true h)]
    ·rename_i h;rw[ih,if_neg (fun k=>h (decide_eq_true k))];rfl
 have cI:∀s (C':Nat→Prop) (Bb Bl:Nat) (W':World),s∈ls→(∀x,C' x→x<W'.heap.size)→Whole W' Bb 73 b.cells→Whole W' Bl 3 #[int i64 s]→b.At W' N0→N0≤W'.heap.size→¬ C' Bb→¬ C' Bl→(∀x,x<N0→¬ C' x)→
  Iter (FW p) prog 104 #[.pointer (some ⟨Bb,0,none⟩),.pointer (some ⟨Bl,0,none⟩)] (fun h:Ht=>#[h.val]) (gy b s) C' W':=fun s C' Bb Bl W' hs=>Wp (p:=p) b ok s (hl s hs) C' N0 Bb Bl W'
 rw[hxs] at hY⊢
 have GT:∀s,pop s≤b.mO→G s=gy b s:=fun s h=>by rw[hG];exact if_pos h
 have GF:∀s,¬ pop s≤b.mO→G s=[]:=fun s h=>by rw[hG];exact if_neg h
 have enc:∀h:Ht,#[h.val]=#[h.val]:=fun _=>rfl
 obtain⟨dY,mO,gA,ng,gc,g,mA,nm,mc,m,cA,nc,cc,c⟩:=b
 simp only[Bk.val,Bk.cells] at cL cT
 simp only[aA] at hb
 have HC:=hid hC
 have HJ:=hid hJ
 have HJx:=hid hJx
 have HY:=hid hY
 have HL:=hid cL
 have HT:=hid cT
 have HI:=hid cI
 have HA:=hid hA
 have WT:=hid cn
 have Hb:=hid hb
 have HR:=hid hR
 have H0:=hid h0
 have CB:=hid cb
 have HN:=hid hN
 have HGT:=hid GT
 have HGF:=hid GF
 clear hC hJ hJx hY cL cT cI hA cn hb hR h0 cb hN GT GF hxs hG hl enc
 refine callsIn_of_wp_marks func79 rfl zs ?_ rfl
 simp only[ntmps79,List.size_toArray,List.length_cons,List.length_nil,Nat.reduceAdd,Nat.reduceSub,Array.replicate_succ,Array.replicate_zero,List.push_toArray,List.append_toArray,List.nil_append,List.cons_append]
 obtain⟨w2,hw2⟩:∃w2,w2=W.alloc (.cells #[.func (.yield l) #[] #[]] 108):=zE
 have B2:Hid (Below W.heap.size W w2):=hid (by rw[hw2];exact bw)
 have Y2:Hid (Whole w2 W.heap.size 108 #[.func (.yield l) #[] #[]]):=hid (by rw[hw2];exact Whole.new _ _ _)
 have c2:w2.cell? ⟨Bc,5,none⟩=some (.slice lA ls.length lc):=(Hb.out.keeps (Keeps.bI B2.out) CB.out).cell 5
 have hs2:w2.heap.size=W.heap.size+1:=by rw[hw2];simp
 rw[hw2] at c2
 have FQ:=hid hw2
 clear hw2
 gi_wp2
 rw[← FQ.out]
 have K2:Hid (Keeps C W w2):=hid (Keeps.bI B2.out)
 have J2:Hid (J [] w2):=hid (HJ.out _ _ _ H0.out B2.out)
 clear c2 FQ H0
 refine wpIn_loop (fun a' w'=>∃u4 u5 u10 u11 u12 u13 u14 u15 u16 u17 u18 u19 u20 u21 u22 u23 u24 u25 u26 u27 u9:Value,∃ (i:Nat) (ds:List Deferred),i≤ls.length∧u9=int i64 i∧a'={tmps:=#[.func (.yield l) #[] #[],.pointer (some ⟨Bc,0,none⟩),.pointer (some ⟨W.heap.size,0,none⟩),undef,u4,u5,.pointer (some ⟨Bc,5,none⟩),.slice lA ls.length lc,int i64 ls.length,u9,u10,u11,u12,u13,u14,u15,u16,u17,u18,u19,u20,u21,u22,u23,u24,u25,u26,u27],defers:=ds }∧Hid (Keeps C w2 w'∧J ((ls.take i).flatMap G) w'∧Marks w2.heap.size w'.heap.size ds w')) (fun a' _=>ls.length - (intOf (a'.tmps.getD 9 undef)).toNat) ?_ ?_
 ·exact⟨_,_,_,_,_,_,_,_,_,_,_,_,_,_,_,_,_,_,_,_,_,0,[],Nat.zero_le _,rfl,rfl,hid ⟨Keeps.refl _ _,by simpa using J2.out,zT⟩⟩
 ·rintro a wr ⟨u4,u5,u10,u11,u12,u13,u14,u15,u16,u17,u18,u19,u20,u21,u22,u23,u24,u25,u26,u27,_,i,ds,hi,rfl,rfl,hT⟩
  have hsr:W.heap.size+1≤wr.heap.size:=by have:=hT.out.1.size;omega
  have hC2:Hid (∀x,C x→x<w2.heap.size):=hid fun x hx=>by have:=HC.out x hx;omega
  by_cases hlt:i<ls.length
  ·obtain⟨ad,rfl,hab,hrow⟩:=HR.out (show 0<ls.length by omega)
   obtain⟨s,hs⟩:∃s,s=ls.getD i 0:=zE
   have KW:Hid (Keeps C W wr):=hid (K2.out.trans hT.out.1)
   have d0:wr.cell? (ad.add i)=some (int i64 s):=by
    rw[hs]
    refine(KW.out.cell (by rw[aH];have:=HN.out;omega) (by rw[aH];exact WT.out _ hab)).trans ?_
    simpa using hrow i 0 hlt zD
   have hmem:s∈ls:=by rw[hs,List.getD_eq_getElem?_getD,List.getElem?_eq_getElem hlt];exact List.getElem_mem hlt
   have htk:ls.take (i+1)=ls.take i ++ [s]:=by rw[List.take_add_one,hs,List.getD_eq_getElem?_getD,List.getElem?_eq_getElem hlt];rfl
   have hpx:(ls.take i).flatMap G ++ G s<+:ls.flatMap G:=by
    have h:=List.take_append_drop (i+1) ls
    refine⟨(ls.drop (i+1)).flatMap G,?_⟩
    conv=>rhs;rw[← h,htk]
    simp
   have CW:=hid (Hb.out.keeps KW.out CB.out)
   have c0:wr.cell? ⟨Bc,0,none⟩=some (int i64 dY):=CW.out.cell 0
   have c1:wr.cell? ⟨Bc,1,none⟩=some (int i64 mO):=CW.out.cell 1
   have c2:wr.cell? ⟨Bc,2,none⟩=some (.slice gA ng gc):=CW.out.cell 2
   have c3:wr.cell? ⟨Bc,3,none⟩=some (.slice mA nm mc):=CW.out.cell 3
   have c4:wr.cell? ⟨Bc,4,none⟩=some (.slice cA nc cc):=CW.out.cell 4
   have HM:=hid hmem
   have Ex:=hid htk
   have cd:=hid hpx
   clear hs hmem htk hpx hrow
   by_cases hp:pop s≤mO
   ·have hq:=HL.out s wr HM.out
    rw[decide_eq_true hp] at hq
    have hg:=HGT.out s hp
    have HQ:=hid hq
    have HG:=hid hg
    clear hq hg hp
    gi_wp2_with (first
     | (gi_at_call 80;refine HQ.out.mono ?_;rintro e w5 ⟨rfl,hb5⟩
        have C5:=CW.out.below hb5 CW.out.lt
        have e0:w5.cell? ⟨Bc,0,none⟩=some (int i64 dY):=C5.cell 0
        have e1:w5.cell? ⟨Bc,1,none⟩=some (int i64 mO):=C5.cell 1
        have e2:w5.cell? ⟨Bc,2,none⟩=some (.slice gA ng gc):=C5.cell 2
        have e3:w5.cell? ⟨Bc,3,none⟩=some (.slice mA nm mc):=C5.cell 3
        have e4:w5.cell? ⟨Bc,4,none⟩=some (.slice cA nc cc):=C5.cell 4)
     | (gi_at_call 81;refine(HT.out s w5).mono ?_;rintro e w6 ⟨rfl,hbk,hin,hb6,hs6⟩))
    have K6:Hid (Keeps C w2 w6):=hid ((hT.out.1.and hb5 hT.out.1.size).and hb6 (Nat.le_trans hT.out.1.size hb5.size))
    have lJ:=hid ((hb5.trans (hb6.mono hb5.size)).mono hT.out.1.size:Below w2.heap.size wr w6)
    have KW6:Hid (Keeps C W w6):=hid (K2.out.trans K6.out)
    have J6:=hid (HJ.out _ _ _ hT.out.2.1 (lJ.out.mono zo))
    have M6:Hid (Marks w2.heap.size w5.heap.size ds w6):=hid (((hT.out.2.2.of fun r _ hr=>hb5.block r hr).more hb5.size).of fun r _ hr=>hb6.block r hr)
    have hs5:=hb5.size
    have uB:w2.heap.size≤w6.heap.size:=K6.out.size
    have aaR:w5.heap.size≤w6.heap.size:=zo
    obtain⟨done,hdn⟩:∃done,done=(ls.take i).flatMap G:=zE
    rw[HG.out,← hdn] at cd
    rw[← hdn] at J6
    have HDN:=hid hdn
    have RR:=hb5
    have R0:=hb6
    clear hb5 hb6 C5 e0 e1 e2 e3 e4 c0 c1 c2 c3 c4 d0 hdn
    refine iR (C:=C) rfl rfl (gf:=104) (lb:=#[.pointer (some ⟨w5.heap.size,0,none⟩),.pointer (some ⟨w5.heap.size+1,0,none⟩)]) rfl zs (enters_of func104 zk rfl) (encs:=fun h:Ht=>#[h.val]) (xs:=gy (⟨dY,mO,gA,ng,gc,g,mA,nm,mc,m,cA,nc,cc,c⟩:Bk) s)
     (fun x hx=>by have:=HC.out x hx;omega) ?hseq (fun _=>rfl) (fun pre W'=>J (done ++ pre) W') (fun c pre W'=>c=.ret∧Jx (done ++ pre) W')
     (fun pre A B h hb=>HJ.out _ _ _ h (hb.mono zo)) (fun c pre A B h hb=>⟨h.1,HJx.out _ _ _ h.2 (hb.mono zo)⟩) (by simpa using J6.out) ?gI ?hdone ?hstop
    case hseq=>
     intro W1 hb1 hs1
     have hc5:∀x,w5.heap.size≤x→¬ (C x∨x=w6.heap.size∨x=w6.heap.size+1)∨w6.heap.size≤x:=fun x hx=>by
      rcases Nat.lt_or_ge x w6.heap.size with h|h
      ·exact .inl (by rintro(h1|h1|h1) <;> first|(have:=HC.out x h1;omega)|omega)
      ·exact .inr h
     refine HI.out s _ _ _ W1 HM.out (fun x hx=>?_) (hbk.below hb1 hbk.lt) (hin.below hb1 hin.lt) ((HA.out.keeps KW6.out HN.out WT.out).below (hb1.mono (by have:=HN.out;omega))) (by have:=HN.out;omega) ?_ ?_ (fun x hx=>?_)
     ·rcases hx with h|h|h
      ·have:=HC.out x h;omega
      ·omega
      ·omega
     ·exact(hc5 _ zL).resolve_right zo
     ·exact(hc5 _ (Nat.le_succ _)).resolve_right zo
     ·rintro(h|h|h)
      ·exact WT.out x hx h
      ·have:=HN.out;omega
      ·have:=HN.out;omega
    case gI=>
     intro l' pre h A hl' hpre hj hk hsz hrec
     obtain⟨hf,hmm,vw⟩:=h
     simp only[Ht.val,Ht.cells]
     have hk2:Hid (Keeps C W A):=hid (KW6.out.trans hk)
     gi_wp2
     refine⟨bw,fun W2 hS=>?_⟩
     have hl2:w6.heap.size+2≤A.heap.size:=hsz
     have X2:Whole W2 A.heap.size 91 #[int i64 (hf 0),int i64 (hf 1),int i64 (hf 2),int i64 (hmm 0),int i64 (hmm 1),int i64 (hmm 2),int i64 (hmm 3),int i64 (hmm 4),int i64 (hmm 5),int i64 vw]:=(Whole.new A _ _).of (hS.block _ zo)
     have oP:Below (w6.heap.size+1) A W2:=((Below.refl _ A).alloc zo _).trans (hS.below zo)
     have KW2:Keeps C W W2:=hk2.out.and oP zo
     have YW:=((Y2.out.keeps hT.out.1 (fun hx=>by have:=HC.out _ hx;omega)).below RR zo).below R0 zo
     have y2:W2.cell? ⟨W.heap.size,0,none⟩=some (.func (.yield l) #[] #[]):=((YW.keeps hk (fun hx=>by have:=HC.out _ hx;omega)).below oP zo).cell 0
     obtain⟨fn,tmps,as1,bd,hy,rh⟩:=HY.out (done ++ pre) ⟨hf,hmm,vw⟩ W2 (by rw[List.append_assoc];exact List.IsPrefix.trans ((List.prefix_append_right_inj _).2 hpre) cd.out) (HJ.out _ _ _ hj (oP.mono zo)) KW2
     simp only[Ht.val,Ht.cells] at hy
     rw[List.append_assoc] at rh
     have x0:W2.cell? ⟨A.heap.size,0,none⟩=some (int i64 (hf 0)):=X2.cell 0
     have x1:W2.cell? ⟨A.heap.size,1,none⟩=some (int i64 (hf 1)):=X2.cell 1
     have x2:W2.cell? ⟨A.heap.size,2,none⟩=some (int i64 (hf 2)):=X2.cell 2
     have x3:W2.cell? ⟨A.heap.size,3,none⟩=some (int i64 (hmm 0)):=X2.cell 3
     have x4:W2.cell? ⟨A.heap.size,4,none⟩=some (int i64 (hmm 1)):=X2.cell 4
     have x5:W2.cell? ⟨A.heap.size,5,none⟩=some (int i64 (hmm 2)):=X2.cell 5
     have x6:W2.cell? ⟨A.heap.size,6,none⟩=some (int i64 (hmm 3)):=X2.cell 6
     have x7:W2.cell? ⟨A.heap.size,7,none⟩=some (int i64 (hmm 4)):=X2.cell 7
     have x8:W2.cell? ⟨A.heap.size,8,none⟩=some (int i64 (hmm 5)):=X2.cell 8
     have x9:W2.cell? ⟨A.heap.size,9,none⟩=some (int i64 vw):=X2.cell 9
     have Mn:=hid rh
     clear rh YW KW2 oP X2 hpre
     gi_wp2
     refine Mn.out.mono ?_
     rintro e W5 ⟨hk5,(⟨rfl,kk⟩|⟨rfl,hx5⟩)⟩
     ·gi_wp2
      exact⟨hk5,kk⟩
     ·gi_wp2
      exact⟨hk5,rfl,hx5⟩
    case hdone=>
     intro W' hj hk hm
     simp only[Exit.inBlock,Exit.then]
     go_at_K
     gi_wp2
     have hk5:=K6.out.trans hk
     refine⟨⟨_,_,_,_,_,_,_,_,_,_,_,_,_,_,_,_,_,_,_,_,_,i+1,_,hlt,by push_cast;rfl,rfl,hid ⟨hk5,?_,?_⟩⟩,?_⟩
     ·rw[Ex.out,List.flatMap_append,← HDN.out]
      simpa [HG.out] using hj
     ·exact⟨w6.heap.size,rfl,uB,(Array.getElem?_eq_some_iff.1 hm).1,hm,(M6.out.keeps hk hC2.out zo).more zo⟩
     ·simp only[intOf,Array.getD_eq_getD_getElem?]
      simp
      omega
    case hstop=>
     rintro c pre W' hpre ⟨rfl,hx⟩ hk hm
     gi_wp2
     show LeavesInM _ _ _ _ _ _ _ .returning W'
     have hms:Marks w2.heap.size W'.heap.size ({target:=.collected w6.heap.size,args:=#[] } :: ds) W':=⟨w6.heap.size,rfl,uB,(Array.getElem?_eq_some_iff.1 hm).1,hm,(M6.out.keeps hk hC2.out zo).more zo⟩
     refine dw hms (fun B hB=>⟨_,results_none rfl _ _ _,⟨_,rfl⟩,(K2.out.trans (K6.out.trans hk)).and hB zo,.inr ⟨done ++ pre,?_,HJx.out _ _ _ hx (hB.mono zo)⟩⟩) (K6.out.trans hk).size
     exact List.IsPrefix.trans ((List.prefix_append_right_inj _).2 hpre) cd.out
   ·have hq:=HL.out s wr HM.out
    rw[decide_eq_false hp] at hq
    have hg:=HGF.out s (by simpa using hp)
    have HQ:=hid hq
    have HG:=hid hg
    clear hq hg hp
    gi_wp2_with (gi_at_call 80;refine HQ.out.mono ?_;rintro e w5 ⟨rfl,hb5⟩)
    refine⟨⟨_,_,_,_,_,_,_,_,_,_,_,_,_,_,_,_,_,_,_,_,_,i+1,ds,hlt,by push_cast;rfl,rfl,hid ⟨hT.out.1.and hb5 hT.out.1.size,?_,?_⟩⟩,?_⟩
    ·rw[Ex.out,List.flatMap_append]
     simpa [HG.out] using HJ.out _ _ _ hT.out.2.1 (hb5.mono zo)
    ·exact(hT.out.2.2.of fun r _ hr=>hb5.block r hr).more hb5.size
    ·simp only[intOf,Array.getD_eq_getD_getElem?]
     simp
     omega
  ·obtain rfl:i=ls.length:=zo
   gi_wp2
   show LeavesInM _ _ _ _ _ _ ds .returning wr
   refine dw hT.out.2.2 (fun B hB=>⟨_,results_none rfl _ _ _,⟨_,rfl⟩,(K2.out.trans hT.out.1).and hB zo,.inl ?_⟩) hT.out.1.size
   simpa using HJ.out _ _ _ hT.out.2.1 (hB.mono zo)
end
section
open Go.RowKit
def pW(F:Fence)(gf:Nat)(lb:Array Value)(xs:List Ht)(w:World):Prop:=
 F.fn gf∧(∀args W,(callFunc gf args).run prog W=.ok (.enter gf args) W)∧∀ (C:Nat→Prop) (W:World),Below w.heap.size w W→(∀x,C x→w.heap.size≤x∧x<W.heap.size)→Iter F prog gf lb (fun h:Ht=>#[h.val]) xs C W
theorem pW.below{F:Fence}{gf:Nat}{lb:Array Value}{xs:List Ht}{w w':World}(h:pW F gf lb xs w)(hb:Below w.heap.size w w'):pW F gf lb xs w':=
 ⟨h.1,h.2.1,fun C W hW hC=>h.2.2 C W (hb.trans (hW.mono hb.size)) fun x hx=>⟨Nat.le_trans hb.size (hC x hx).1,(hC x hx).2⟩⟩
def ug(F:Fence)(g:Nat)(lb:Array Value)(xs:List Ht)(f:Ht→Value)(w:World):Prop:=
 F.fn g∧(∀args W,(callFunc g args).run prog W=.ok (.enter g args) W)∧∀ (W:World) (h:Ht),h∈xs→Below w.heap.size w W→CallsIn F 0 prog g (#[h.val] ++ lb) W fun e W'=>e=.returned (f h)∧Below W.heap.size W W'
theorem ug.below{F:Fence}{g:Nat}{lb:Array Value}{xs:List Ht}{f:Ht→Value}{w w':World}(h:ug F g lb xs f w)(hb:Below w.heap.size w w'):ug F g lb xs f w':=
 ⟨h.1,h.2.1,fun W x hx hW=>h.2.2 W x hx (hb.trans (hW.mono hb.size))⟩
theorem fI{α:Type}{pre xs:List α}{x:α}(h:pre ++ [x]<+:xs):x∈xs:=h.subset zs
theorem CallsIn.inRound{F:Fence}{P:Program}{n g l:Nat}{args:Array Value}{w:World}{R:Ending→World→Prop}(h:CallsIn F n P g args w R):CallsIn (F.inRound l) n P g args w R:=h
end
section
open Go.RowKit
attribute [local go_sem] Oper.semAt_some
theorem SX{p:FuncId→Prop}[Ba p](gf:Nat)(lb:Array Value)(xs:List Ht)(w:World)(h:pW (FW p) gf lb xs w):CallsIn (FW p) 0 prog 77 #[.func (.func gf) #[] lb] w fun e w'=>e=.returned (.bool (!xs.isEmpty))∧Below w.heap.size w w':=by
 obtain⟨hfn,Nq,hit⟩:=h
 have HIT:=hid hit
 have Rq:=hid Nq
 clear hit Nq
 refine callsIn_of_wp_marks func77 rfl zs ?_ rfl
 simp only[ntmps77,List.size_toArray,List.length_cons,List.length_nil,Nat.reduceAdd,Nat.reduceSub,Array.replicate_succ,Array.replicate_zero,List.push_toArray,List.append_toArray,List.nil_append,List.cons_append]
 gi_wp2
 obtain⟨w1,hw1⟩:∃w1,w1=w.alloc (.cells #[.bool false] 4):=zE
 have B1:Hid (Below w.heap.size w w1):=hid (by rw[hw1];exact bw)
 have W1:Hid (Whole w1 w.heap.size 4 #[.bool false]):=hid (by rw[hw1];exact Whole.new _ _ _)
 have hs1:w1.heap.size=w.heap.size+1:=by rw[hw1];simp
 rw[← hw1]
 clear hw1
 have leave:∀ (tmps:Array Value) (t:Bool) (W:World),tmps[2]?.getD undef=.pointer (some ⟨w.heap.size,0,none⟩)→Whole W w.heap.size 4 #[.bool t]→(results Tryz.f77 tmps).run prog W=.ok (.bool t) W:=fun tmps t W ht hW=>by
  have:=hW.cell 0
  simp at this
  simp[results,Tryz.f77,go_sem,this,ht]
 refine iR (C:=fun x=>x=w.heap.size) rfl rfl (gf:=gf) (lb:=lb) rfl hfn Rq.out (encs:=fun h:Ht=>#[h.val]) (xs:=xs)
  (fun x hx=>zo) ?hseq (fun _=>rfl) (fun pre W'=>pre=[]∧Whole W' w.heap.size 4 #[.bool false]) (fun c pre W'=>c=.ret∧pre≠[]∧Whole W' w.heap.size 4 #[.bool true])
  (fun pre A B h hb=>⟨h.1,h.2.below hb zo⟩) (fun c pre A B h hb=>⟨h.1,h.2.1,h.2.2.below hb zo⟩) ⟨rfl,W1.out⟩ ?gI ?hdone ?hstop
 case hseq=>exact fun W2 hb2 hs2=>HIT.out _ W2 (B1.out.trans (hb2.mono B1.out.size)) fun x hx=>zo
 case gI=>
  intro l' pre h A hl' hpre hj hk hsz hrec
  gi_wp2
  refine⟨zB,fun W2 hS=>?_⟩
  have gE:Whole W2 w.heap.size 4 #[.bool false]:=hj.2.of (hS.block _ zo)
  have c0:W2.cell? ⟨w.heap.size,0,none⟩=some (.bool false):=gE.cell 0
  have f0:=gE.thaw
  gi_wp2
  exact⟨Keeps.set (C:=fun x=>x=w.heap.size) (p:=⟨w.heap.size,0,none⟩) (Keeps.refl _ _) rfl _,rfl,zs,gE.set 0 (.bool true)⟩
 case hdone=>
  intro W' hj hk hm
  have c0:W'.cell? ⟨w.heap.size,0,none⟩=some (.bool false):=hj.2.cell 0
  have f0:=hj.2.thaw
  simp only[Exit.inBlock,Exit.then]
  go_at_K
  gi_wp2
  have WW:=hj.2.set 0 (.bool false)
  have hms:Marks w1.heap.size (w1.heap.size+1) [{target:=.collected w1.heap.size,args:=#[] }] (W'.setCell ⟨w.heap.size,0,none⟩ (.bool false)):=⟨_,rfl,zL,Nat.lt_succ_self _,(Below.heap_setCell _ _ _ _ zm).trans hm,zT⟩
  have hk':=hk.set (p:=⟨w.heap.size,0,none⟩) rfl (.bool false)
  refine dw hms (fun B hB=>⟨_,leave _ false B rfl (WW.below hB zo),?_,?_⟩) hk'.size
  ·cases xs with
   | nil=>rfl
   | cons x xs=>exact absurd hj.1 zs
  ·exact(B1.out.trans (hk'.below (n:=w.heap.size) (fun b hb hc=>zo) zo)).trans (hB.mono zo)
 case hstop=>
  rintro c pre W' hpre ⟨rfl,hne,hx⟩ hk hm
  gi_wp2
  have hms:Marks w1.heap.size (w1.heap.size+1) [{target:=.collected w1.heap.size,args:=#[] }] W':=⟨_,rfl,zL,Nat.lt_succ_self _,hm,zT⟩
  refine dw hms (fun B hB=>⟨_,leave _ true B rfl (hx.below hB zo),?_,?_⟩) hk.size
  ·cases xs with
   | nil=>exact absurd (List.prefix_nil.1 hpre) hne
   | cons x xs=>rfl
  ·exact(B1.out.trans (hk.below (n:=w.heap.size) (fun b hb hc=>zo) zo)).trans (hB.mono zo)
end
section
open Go.RowKit
open Go.Sort (grow)
attribute [local go_sem] Oper.semAt_some
theorem iM{α:Type}{pre xs:List α}{x:α}(h:pre ++ [x]<+:xs):pre.length<xs.length:=by
 have:=h.length_le
 simp at this
 omega
theorem XQ(gf:Nat)(lb:Array Value)(xs:List Ht)(w:World)(hlen:xs.length<2 ^ 40)(h:pW FF gf lb xs w):CallsIn FF 0 prog 38 #[.func (.func gf) #[] lb] w fun e w'=>e=.returned (int i64 xs.length)∧Below w.heap.size w w':=by
 obtain⟨hfn,Nq,hit⟩:=h
 have HIT:=hid hit
 have Rq:=hid Nq
 clear hit Nq
 refine callsIn_of_wp_marks func38 rfl zs ?_ rfl
 simp only[ntmps38,List.size_toArray,List.length_cons,List.length_nil,Nat.reduceAdd,Nat.reduceSub,Array.replicate_succ,Array.replicate_zero,List.push_toArray,List.append_toArray,List.nil_append,List.cons_append]
 gi_wp2
 obtain⟨w1,hw1⟩:∃w1,w1=w.alloc (.cells #[int i64 0] 3):=zE
 have B1:Hid (Below w.heap.size w w1):=hid (by rw[hw1];exact bw)
 have W1:Hid (Whole w1 w.heap.size 3 #[int i64 0]):=hid (by rw[hw1];exact Whole.new _ _ _)
 have hs1:w1.heap.size=w.heap.size+1:=by rw[hw1];simp
 rw[← hw1]
 clear hw1
 refine iR (C:=fun x=>x=w.heap.size) rfl rfl (gf:=gf) (lb:=lb) rfl hfn Rq.out (encs:=fun h:Ht=>#[h.val]) (xs:=xs)
  (fun x hx=>zo) ?hseq (fun _=>rfl) (fun pre W'=>Whole W' w.heap.size 3 #[int i64 pre.length]) (fun c pre W'=>False)
  (fun pre A B h hb=>h.below hb zo) (fun c pre A B h hb=>h.elim) W1.out ?gI ?hdone ?hstop
 case hseq=>exact fun W2 hb2 hs2=>HIT.out _ W2 (B1.out.trans (hb2.mono B1.out.size)) fun x hx=>zo
 case gI=>
  intro l' pre h A hl' hpre hj hk hsz hrec
  gi_wp2
  refine⟨zB,fun W2 hS=>?_⟩
  have gE:Whole W2 w.heap.size 3 #[int i64 pre.length]:=hj.of (hS.block _ zo)
  have c0:W2.cell? ⟨w.heap.size,0,none⟩=some (int i64 pre.length):=gE.cell 0
  have f0:=gE.thaw
  have e1:wrap64 ((pre.length:Int)+1)=(pre.length:Int)+1:=IntWalk.wrap64_in _ (by have:=iM hpre;omega)
  gi_wp2
  exact⟨Keeps.set (C:=fun x=>x=w.heap.size) (p:=⟨w.heap.size,0,none⟩) (Keeps.refl _ _) rfl _,by simpa using gE.set 0 (int i64 (pre.length+1))⟩
 case hdone=>
  intro W' hj hk hm
  have c0:W'.cell? ⟨w.heap.size,0,none⟩=some (int i64 xs.length):=hj.cell 0
  simp only[Exit.inBlock,Exit.then]
  go_at_K
  gi_wp2
  have hms:Marks w1.heap.size (w1.heap.size+1) [{target:=.collected w1.heap.size,args:=#[] }] W':=⟨_,rfl,zL,Nat.lt_succ_self _,hm,zT⟩
  refine dw hms (fun B hB=>⟨_,results_tmp rfl _ _ _,rfl,?_⟩) hk.size
  exact(B1.out.trans (hk.below (n:=w.heap.size) (fun b hb hc=>zo) zo)).trans (hB.mono zo)
 case hstop=>
  rintro c pre W' hpre hx hk hm
  exact hx.elim
def NW(n so:Nat):Int:=if n=0 then 0 else if so=n then 1 else if so=0 then 2 else 0
def Tg(n:Nat):Int:=if n=0 then 9 else 0
theorem oa(gf:Nat)(lb:Array Value)(g:Nat)(lg:Array Value)(p:Ht→Bool)(xs:List Ht)(w:World)(hlen:xs.length<2 ^ 40)(h:pW FF gf lb xs w)(hg:ug FF g lg xs (fun h=>.bool (p h)) w):CallsIn FF 0 prog 57 #[.func (.func gf) #[] lb,.func (.func g) #[] lg] w fun e w'=>e=.returned (.tuple #[int i64 (NW xs.length (xs.filter p).length),int i64 (Tg xs.length)])∧Below w.heap.size w w':=by
 obtain⟨so,hso⟩:∃so,so=(xs.filter p).length:=zE
 obtain⟨n,hn⟩:∃n,n=xs.length:=zE
 have hle:so≤n:=by rw[hso,hn];exact List.length_filter_le _ _
 have HSO:=hid hso
 have HNN:=hid hn
 have aaH:n<2 ^ 40:=zo
 rw[← hso,← hn]
 clear hso hn
 obtain⟨hfn,Nq,hit⟩:=h
 have HIT:=hid hit
 have Rq:=hid Nq
 obtain⟨hgf,hge,hgc⟩:=hg
 rw[qU] at hgf
 have HG:=hid hgc
 clear hit Nq hgc
 refine callsIn_of_wp_marks func57 rfl zs ?_ rfl
 simp only[ntmps57,List.size_toArray,List.length_cons,List.length_nil,Nat.reduceAdd,Nat.reduceSub,Array.replicate_succ,Array.replicate_zero,List.push_toArray,List.append_toArray,List.nil_append,List.cons_append]
 gi_wp2
 obtain⟨w1,hw1⟩:∃w1,w1=((w.alloc (.cells #[.func (.func g) #[] lg] 108)).alloc (.cells #[int i64 0] 3)).alloc (.cells #[int i64 0] 3):=zE
 have B1:Hid (Below w.heap.size w w1):=hid (by rw[hw1];exact bw)
 have F1:Hid (Whole w1 w.heap.size 108 #[.func (.func g) #[] lg]):=hid (by rw[hw1];exact((Whole.new _ _ _).alloc _).alloc _)
 have M1:Hid (Whole w1 (w.heap.size+1) 3 #[int i64 0]):=hid (by
  have:=Whole.new (w.alloc (.cells #[.func (.func g) #[] lg] 108)) 3 #[int i64 0]
  rw[World.size_alloc] at this;rw[hw1];exact this.alloc _)
 have S1:Hid (Whole w1 (w.heap.size+1+1) 3 #[int i64 0]):=hid (by
  have:=Whole.new ((w.alloc (.cells #[.func (.func g) #[] lg] 108)).alloc (.cells #[int i64 0] 3)) 3 #[int i64 0]
  rw[World.size_alloc,World.size_alloc] at this;rw[hw1];exact this)
 have hs1:w1.heap.size=w.heap.size+3:=by rw[hw1];simp
 rw[← hw1]
 clear hw1
 obtain⟨CC,TM⟩:∃CC:Nat→Prop,CC=fun x=>x=w.heap.size+1∨x=w.heap.size+1+1:=⟨_,rfl⟩
 have nI:∀x,CC x↔x=w.heap.size+1∨x=w.heap.size+1+1:=fun x=>by rw[TM]
 clear TM
 refine iR (C:=CC) rfl rfl (gf:=gf) (lb:=lb) rfl hfn Rq.out (encs:=fun h:Ht=>#[h.val]) (xs:=xs)
  (fun x hx=>by have:=(nI x).1 hx;omega) ?hseq (fun _=>rfl) (fun pre W'=>Hid (Whole W' w.heap.size 108 #[.func (.func g) #[] lg]∧Whole W' (w.heap.size+1) 3 #[int i64 pre.length]∧Whole W' (w.heap.size+1+1) 3 #[int i64 (pre.filter p).length])) (fun c pre W'=>False)
  (fun pre A B h hb=>hid ⟨h.out.1.below hb zo,h.out.2.1.below hb zo,h.out.2.2.below hb zo⟩) (fun c pre A B h hb=>h.elim) (hid ⟨F1.out,M1.out,S1.out⟩) ?gI ?hdone ?hstop
 case hseq=>exact fun W2 hb2 hs2=>HIT.out _ W2 (B1.out.trans (hb2.mono B1.out.size)) fun x hx=>by rw[nI] at hx;omega
 case gI=>
  intro l' pre h A hl' hpre hj hk hsz hrec
  obtain⟨hf,hmm,vw⟩:=h
  simp only[Ht.val,Ht.cells]
  gi_wp2
  refine⟨bw,fun W2 hS=>?_⟩
  have oP:Below (w.heap.size+3) A W2:=((Below.refl _ A).alloc zo _).trans (hS.below zo)
  have X2:Whole W2 A.heap.size 91 (⟨hf,hmm,vw⟩:Ht).cells:=(Whole.new A _ _).of (hS.block _ zo)
  have F2:=hid (hj.out.1.below oP zo)
  have M2:=hid (hj.out.2.1.below oP zo)
  have S2:=hid (hj.out.2.2.below oP zo)
  have e1:wrap64 ((pre.length:Int)+1)=(pre.length:Int)+1:=IntWalk.wrap64_in _ (by have:=iM hpre;omega)
  have hfl:(pre.filter p).length≤pre.length:=List.length_filter_le _ _
  have e2:wrap64 (((pre.filter p).length:Int)+1)=((pre.filter p).length:Int)+1:=IntWalk.wrap64_in _ (by have:=iM hpre;omega)
  have c6:W2.cell? ⟨w.heap.size+1,0,none⟩=some (int i64 pre.length):=M2.out.cell 0
  have f6:=M2.out.thaw
  have hsA:A.heap.size+1≤W2.heap.size:=by have:=hS.size;simp at this;exact Nat.le_of_eq this.symm
  obtain⟨W3,hW3⟩:∃W3,W3=W2.setCell ⟨w.heap.size+1,0,none⟩ (int i64 (pre.length+1)):=zE
  have F3:=hid (by rw[hW3];exact F2.out.other zF _:Whole W3 w.heap.size 108 #[.func (.func g) #[] lg])
  have X3:Hid (Whole W3 A.heap.size 91 (⟨hf,hmm,vw⟩:Ht).cells):=hid (by rw[hW3];exact X2.other zF _)
  have M3:Hid (Whole W3 (w.heap.size+1) 3 #[int i64 (pre.length+1)]):=hid (by rw[hW3];exact M2.out.set 0 (int i64 (pre.length+1)))
  have S3:Hid (Whole W3 (w.heap.size+1+1) 3 #[int i64 (pre.filter p).length]):=hid (by rw[hW3];exact S2.out.other zF _)
  have K3:Hid (Keeps CC W2 W3):=hid (by rw[hW3];exact Keeps.set (p:=⟨w.heap.size+1,0,none⟩) (Keeps.refl _ _) ((nI _).2 (.inl rfl)) _)
  have hs3:W3.heap.size=W2.heap.size:=by rw[hW3];simp[World.setCell]
  have q0:W3.cell? ⟨w.heap.size,0,none⟩=some (.func (.func g) #[] lg):=F3.out.cell 0
  have x0:W3.cell? ⟨A.heap.size,0,none⟩=some (int i64 (hf 0)):=X3.out.cell 0
  have x1:W3.cell? ⟨A.heap.size,1,none⟩=some (int i64 (hf 1)):=X3.out.cell 1
  have x2:W3.cell? ⟨A.heap.size,2,none⟩=some (int i64 (hf 2)):=X3.out.cell 2
  have x3:W3.cell? ⟨A.heap.size,3,none⟩=some (int i64 (hmm 0)):=X3.out.cell 3
  have x4:W3.cell? ⟨A.heap.size,4,none⟩=some (int i64 (hmm 1)):=X3.out.cell 4
  have x5:W3.cell? ⟨A.heap.size,5,none⟩=some (int i64 (hmm 2)):=X3.out.cell 5
  have x6:W3.cell? ⟨A.heap.size,6,none⟩=some (int i64 (hmm 3)):=X3.out.cell 6
  have x7:W3.cell? ⟨A.heap.size,7,none⟩=some (int i64 (hmm 4)):=X3.out.cell 7
  have x8:W3.cell? ⟨A.heap.size,8,none⟩=some (int i64 (hmm 5)):=X3.out.cell 8
  have x9:W3.cell? ⟨A.heap.size,9,none⟩=some (int i64 vw):=X3.out.cell 9
  have hB3:Below w.heap.size w W3:=by
   rw[hW3]
   exact(((B1.out.trans (hk.below (n:=w.heap.size) (fun b hb hc=>by have:=(nI b).1 hc;omega) zo)).trans (oP.mono zo))).setCell zs _
  have cG:=HG.out W3 ⟨hf,hmm,vw⟩ (fI hpre) hB3
  simp only[Ht.val,Ht.cells] at cG
  rw[hW3] at q0 x0 x1 x2 x3 x4 x5 x6 x7 x8 x9
  have HW3:=hid hW3
  have pZ:=hid cG
  have hpf:∀b,p ⟨hf,hmm,vw⟩=b→(pre ++ [(⟨hf,hmm,vw⟩:Ht)]).filter p=pre.filter p ++ if b=true then[⟨hf,hmm,vw⟩] else[]:=fun b hb=>by
   rw[List.filter_append,List.filter_cons,hb];cases b <;> rfl
  obtain⟨t,ht⟩:∃t,p ⟨hf,hmm,vw⟩=t:=⟨_,rfl⟩
  have HPF:=hid (hpf t ht)
  rw[ht] at pZ
  clear hpf hW3 cG hB3 X2 oP ht
  have fin:∀W5,Keeps CC W2 W5→Whole W5 w.heap.size 108 #[.func (.func g) #[] lg]→Whole W5 (w.heap.size+1) 3 #[int i64 (pre.length+1)]→Whole W5 (w.heap.size+1+1) 3 #[int i64 ((pre ++ [(⟨hf,hmm,vw⟩:Ht)]).filter p).length]→
   wR CC (fun W'=>Hid (Whole W' w.heap.size 108 #[.func (.func g) #[] lg]∧Whole W' (w.heap.size+1) 3 #[int i64 (pre ++ [(⟨hf,hmm,vw⟩:Ht)]).length]∧Whole W' (w.heap.size+1+1) 3 #[int i64 ((pre ++ [(⟨hf,hmm,vw⟩:Ht)]).filter p).length])) (fun c W'=>False) W2 .normal {tmps:=#[],defers:=[] } W5:=fun W5 k f m s=>⟨k,hid ⟨f,by simpa using m,s⟩⟩
  have FIN:=hid fin
  clear fin
  cases t
  ·gi_wp2_with (rw[← HW3.out];refine pZ.out.mono ?_;rintro e W4 ⟨rfl,hb4⟩)
   refine FIN.out W4 (K3.out.trans (Keeps.bI hb4)) (F3.out.below hb4 F3.out.lt) (M3.out.below hb4 M3.out.lt) ?_
   rw[HPF.out]
   simpa using S3.out.below hb4 S3.out.lt
  ·gi_wp2_with (rw[← HW3.out];refine pZ.out.mono ?_;rintro e W4 ⟨rfl,hb4⟩;have S4:=S3.out.below hb4 S3.out.lt;have c7:W4.cell? ⟨w.heap.size+1+1,0,none⟩=some (int i64 (pre.filter p).length):=S4.cell 0;have f7:=S4.thaw)
   refine FIN.out _ (Keeps.set (p:=⟨w.heap.size+1+1,0,none⟩) (K3.out.trans (Keeps.bI hb4)) ((nI _).2 (.inr rfl)) _) ((F3.out.below hb4 F3.out.lt).other zF _) ((M3.out.below hb4 M3.out.lt).other zF _) ?_
   rw[HPF.out]
   simpa using S4.set 0 (int i64 ((pre.filter p).length+1))
 case hdone=>
  intro W' hj hk hm
  have c6:W'.cell? ⟨w.heap.size+1,0,none⟩=some (int i64 n):=by rw[HNN.out];exact hj.out.2.1.cell 0
  have c7:W'.cell? ⟨w.heap.size+1+1,0,none⟩=some (int i64 so):=by rw[HSO.out];exact hj.out.2.2.cell 0
  have hms:Marks w1.heap.size (w1.heap.size+1) [{target:=.collected w1.heap.size,args:=#[] }] W':=⟨_,rfl,zL,Nat.lt_succ_self _,hm,zT⟩
  have Xj:=hid hms
  have HKK:=hid hk
  have ME:Hid (Below w.heap.size w W'):=hid (B1.out.trans (hk.below (n:=w.heap.size) (fun b hb hc=>by have:=(nI b).1 hc;omega) zo))
  clear hj hms hk hm
  simp only[Exit.inBlock,Exit.then]
  go_at_K
  gi_wp2
  all_goals
   refine dw Xj.out (fun B hB=>⟨_,results_tmp2 rfl _ _ _,?_,ME.out.trans (hB.mono zo)⟩) HKK.out.size
   clear Xj HKK ME HIT Rq HG hge hgf hfn c6 c7 nI HSO HNN
   simp_all [NW,Tg]
  all_goals first|omega|(intro hh;exact absurd (show so=n by omega) hh)
 case hstop=>
  rintro c pre W' hpre hx hk hm
  exact hx.elim
def bK(v:Ht→Int)(pre:List Ht):Int × Int × Bool:=pre.foldl (fun s h=>if s.2.2 then(min s.1 (v h),max s.2.1 (v h),true) else(v h,v h,true)) (0,0,false)
theorem yN(v:Ht→Int)(pre:List Ht)(h:Ht):bK v (pre ++ [h])=if (bK v pre).2.2 then(min (bK v pre).1 (v h),max (bK v pre).2.1 (v h),true) else(v h,v h,true):=by unfold bK;rw[List.foldl_append];rfl
theorem LX(v:Ht→Int)(xs:List Ht)(h:(bK v xs).2.2=false):bK v xs=(0,0,false):=by
 rcases List.eq_nil_or_concat xs with rfl|⟨l,b,rfl⟩
 ·rfl
 ·rw[List.concat_eq_append,yN] at h
  split at h <;> simp at h
theorem EZ(gf:Nat)(lb:Array Value)(g:Nat)(lg:Array Value)(v:Ht→Int)(xs:List Ht)(w:World)(h:pW FF gf lb xs w)(hg:ug FF g lg xs (fun h=>int i64 (v h)) w):CallsIn FF 0 prog 60 #[.func (.func gf) #[] lb,.func (.func g) #[] lg] w fun e w'=>e=.returned (.tuple #[.agg #[int i64 (bK v xs).1,int i64 (bK v xs).2.1],int i64 (if (bK v xs).2.2 then 0 else 9)])∧Below w.heap.size w w':=by
 obtain⟨SS,hSS⟩:∃SS,SS=bK v xs:=zE
 rw[← hSS]
 have My:=hid hSS
 clear hSS
 obtain⟨hfn,Nq,hit⟩:=h
 have HIT:=hid hit
 have Rq:=hid Nq
 obtain⟨hgf,hge,hgc⟩:=hg
 rw[qU] at hgf
 have HG:=hid hgc
 clear hit Nq hgc
 refine callsIn_of_wp_marks func60 rfl zs ?_ rfl
 simp only[ntmps60,List.size_toArray,List.length_cons,List.length_nil,Nat.reduceAdd,Nat.reduceSub,Array.replicate_succ,Array.replicate_zero,List.push_toArray,List.append_toArray,List.nil_append,List.cons_append]
 gi_wp2
 obtain⟨wa,Uu⟩:∃wa,wa=w.alloc (.cells #[.func (.func g) #[] lg] 105):=zE
 obtain⟨wb,hwb⟩:∃wb,wb=wa.alloc (.cells #[int i64 0,int i64 0] 28):=zE
 obtain⟨wc,hwc⟩:∃wc,wc=wb.alloc (.cells #[int i64 0,int i64 0] 28):=zE
 obtain⟨w1,hw1⟩:∃w1,w1=wc.alloc (.cells #[.bool false] 4):=zE
 have sa:wa.heap.size=w.heap.size+1:=by rw[Uu];simp
 have sb:wb.heap.size=w.heap.size+1+1:=by rw[hwb];simp[sa]
 have sc:wc.heap.size=w.heap.size+1+1+1:=by rw[hwc];simp[sb]
 have hs1:w1.heap.size=w.heap.size+4:=by rw[hw1];simp[sc]
 have B1:Hid (Below w.heap.size w w1):=hid (by rw[hw1,hwc,hwb,Uu];exact bw)
 have F1:Hid (Whole w1 w.heap.size 105 #[.func (.func g) #[] lg]):=hid (by rw[hw1,hwc,hwb,Uu];exact(((Whole.new _ _ _).alloc _).alloc _).alloc _)
 have R1:Hid (Whole w1 (w.heap.size+1) 28 #[int i64 0,int i64 0]):=hid (by rw[← sa,hw1,hwc,hwb];exact((Whole.new _ _ _).alloc _).alloc _)
 have S1:Hid (Whole w1 (w.heap.size+1+1) 28 #[int i64 0,int i64 0]):=hid (by rw[← sb,hw1,hwc];exact(Whole.new _ _ _).alloc _)
 have T1:Hid (Whole w1 (w.heap.size+1+1+1) 4 #[.bool false]):=hid (by rw[← sc,hw1];exact Whole.new _ _ _)
 rw[← Uu,← hwb,← hwc,← hw1]
 clear hw1 Uu hwb hwc sa sb sc
 obtain⟨CC,TM⟩:∃CC:Nat→Prop,CC=fun x=>x=w.heap.size+1+1∨x=w.heap.size+1+1+1:=⟨_,rfl⟩
 have nI:∀x,CC x↔x=w.heap.size+1+1∨x=w.heap.size+1+1+1:=fun x=>by rw[TM]
 clear TM
 refine iR (C:=CC) rfl rfl (gf:=gf) (lb:=lb) rfl hfn Rq.out (encs:=fun h:Ht=>#[h.val]) (xs:=xs)
  (fun x hx=>by have:=(nI x).1 hx;omega) ?hseq (fun _=>rfl) (fun pre W'=>Hid (Whole W' w.heap.size 105 #[.func (.func g) #[] lg]∧Whole W' (w.heap.size+1) 28 #[int i64 0,int i64 0]∧Whole W' (w.heap.size+1+1) 28 #[int i64 (bK v pre).1,int i64 (bK v pre).2.1]∧Whole W' (w.heap.size+1+1+1) 4 #[.bool (bK v pre).2.2])) (fun c pre W'=>False)
  (fun pre A B h hb=>hid ⟨h.out.1.below hb zo,h.out.2.1.below hb zo,h.out.2.2.1.below hb zo,h.out.2.2.2.below hb zo⟩) (fun c pre A B h hb=>h.elim) (hid ⟨F1.out,R1.out,S1.out,T1.out⟩) ?gI ?hdone ?hstop
 case hseq=>exact fun W2 hb2 hs2=>HIT.out _ W2 (B1.out.trans (hb2.mono B1.out.size)) fun x hx=>by rw[nI] at hx;omega
 case gI=>
  intro l' pre h A hl' hpre hj hk hsz hrec
  have hsn:=yN v pre h
  obtain⟨st',hst'⟩:∃st',st'=bK v (pre ++ [h]):=zE
  obtain⟨vh,et⟩:∃vh,vh=v h:=zE
  rw[← hst'] at hsn⊢
  rw[← et] at hsn
  obtain⟨⟨a,c,t⟩,hst⟩:∃st,st=bK v pre:=zE
  rw[← hst] at hj hsn
  simp only at hj hsn
  clear hst' hst
  have XI:=fun W hW=>HG.out W h (fI hpre) hW
  rw[← et] at XI
  clear et
  obtain⟨hf,hmm,vw⟩:=h
  simp only[Ht.val,Ht.cells]
  simp only[Ht.val,Ht.cells] at XI
  gi_wp2
  refine⟨bw,fun W2 hS=>?_⟩
  have oP:Below (w.heap.size+4) A W2:=((Below.refl _ A).alloc zo _).trans (hS.below zo)
  have X2:Whole W2 A.heap.size 91 (⟨hf,hmm,vw⟩:Ht).cells:=(Whole.new A _ _).of (hS.block _ zo)
  have F2:=hid (hj.out.1.below oP zo)
  have R2:=hid (hj.out.2.1.below oP zo)
  have S2:=hid (hj.out.2.2.1.below oP zo)
  have T2:=hid (hj.out.2.2.2.below oP zo)
  have q0:W2.cell? ⟨w.heap.size,0,none⟩=some (.func (.func g) #[] lg):=F2.out.cell 0
  have x0:W2.cell? ⟨A.heap.size,0,none⟩=some (int i64 (hf 0)):=X2.cell 0
  have x1:W2.cell? ⟨A.heap.size,1,none⟩=some (int i64 (hf 1)):=X2.cell 1
  have x2:W2.cell? ⟨A.heap.size,2,none⟩=some (int i64 (hf 2)):=X2.cell 2
  have x3:W2.cell? ⟨A.heap.size,3,none⟩=some (int i64 (hmm 0)):=X2.cell 3
  have x4:W2.cell? ⟨A.heap.size,4,none⟩=some (int i64 (hmm 1)):=X2.cell 4
  have x5:W2.cell? ⟨A.heap.size,5,none⟩=some (int i64 (hmm 2)):=X2.cell 5
  have x6:W2.cell? ⟨A.heap.size,6,none⟩=some (int i64 (hmm 3)):=X2.cell 6
  have x7:W2.cell? ⟨A.heap.size,7,none⟩=some (int i64 (hmm 4)):=X2.cell 7
  have x8:W2.cell? ⟨A.heap.size,8,none⟩=some (int i64 (hmm 5)):=X2.cell 8
  have x9:W2.cell? ⟨A.heap.size,9,none⟩=some (int i64 vw):=X2.cell 9
  have pZ:=hid (XI W2 ((B1.out.trans (hk.below (n:=w.heap.size) (fun b hb hc=>by have:=(nI b).1 hc;omega) zo)).trans (oP.mono zo)))
  have cg:=hid hsn
  clear X2 oP XI hsn
  have FIN:=hid (show ∀W5,Keeps CC W2 W5→Whole W5 w.heap.size 105 #[.func (.func g) #[] lg]→Whole W5 (w.heap.size+1) 28 #[int i64 0,int i64 0]→Whole W5 (w.heap.size+1+1) 28 #[int i64 st'.1,int i64 st'.2.1]→Whole W5 (w.heap.size+1+1+1) 4 #[.bool st'.2.2]→
   wR CC (fun W'=>Hid (Whole W' w.heap.size 105 #[.func (.func g) #[] lg]∧Whole W' (w.heap.size+1) 28 #[int i64 0,int i64 0]∧Whole W' (w.heap.size+1+1) 28 #[int i64 st'.1,int i64 st'.2.1]∧Whole W' (w.heap.size+1+1+1) 4 #[.bool st'.2.2])) (fun c W'=>False) W2 .normal {tmps:=#[],defers:=[] } W5 from fun W5 k f r s t=>⟨k,hid ⟨f,r,s,t⟩⟩)
  cases t
  ·gi_wp2_with (refine pZ.out.mono ?_;rintro e W4 ⟨rfl,hb4⟩;have S4:=S2.out.below hb4 S2.out.lt;have T4:=T2.out.below hb4 T2.out.lt;have c7:W4.cell? ⟨w.heap.size+1+1+1,0,none⟩=some (.bool false):=T4.cell 0;have c60:W4.cell? ⟨w.heap.size+1+1,0,none⟩=some (int i64 a):=S4.cell 0;have c61:W4.cell? ⟨w.heap.size+1+1,1,none⟩=some (int i64 c):=S4.cell 1;have f7:=T4.thaw;have f6:=S4.thaw)
   simp only[Bool.false_eq_true,if_false] at cg
   refine FIN.out _ (Keeps.set (Keeps.set (Keeps.set (Keeps.set (Keeps.set (Keeps.bI hb4) ((nI _).2 (.inl rfl)) _) ((nI _).2 (.inl rfl)) _) ((nI _).2 (.inr rfl)) _) ((nI _).2 (.inl rfl)) _) ((nI _).2 (.inl rfl)) _)
    ((((((F2.out.below hb4 F2.out.lt).other zF _).other zF _).other zF _).other zF _).other zF _)
    ((((((R2.out.below hb4 R2.out.lt).other zF _).other zF _).other zF _).other zF _).other zF _) ?_ ?_
   ·rw[cg.out]
    exact((((S4.set 0 (int i64 vh)).set 1 (int i64 vh)).other zF _).set 0 (int i64 vh)).set 1 (int i64 vh)
   ·rw[cg.out]
    exact((((T4.other zF _).other zF _).set 0 (.bool true)).other zF _).other zF _
  ·gi_wp2_with (refine pZ.out.mono ?_;rintro e W4 ⟨rfl,hb4⟩;have S4:=S2.out.below hb4 S2.out.lt;have T4:=T2.out.below hb4 T2.out.lt;have c7:W4.cell? ⟨w.heap.size+1+1+1,0,none⟩=some (.bool true):=T4.cell 0;have c60:W4.cell? ⟨w.heap.size+1+1,0,none⟩=some (int i64 a):=S4.cell 0;have c61:W4.cell? ⟨w.heap.size+1+1,1,none⟩=some (int i64 c):=S4.cell 1;have f7:=T4.thaw;have f6:=S4.thaw)
   simp only[if_true] at cg
   refine FIN.out _ (Keeps.set (Keeps.set (Keeps.bI hb4) ((nI _).2 (.inl rfl)) _) ((nI _).2 (.inl rfl)) _) (((F2.out.below hb4 F2.out.lt).other zF _).other zF _) (((R2.out.below hb4 R2.out.lt).other zF _).other zF _) ?_ ?_
   ·rw[cg.out]
    exact(S4.set 0 (int i64 (min a vh))).set 1 (int i64 (max c vh))
   ·rw[cg.out]
    exact(T4.other zF _).other zF _
 case hdone=>
  intro W' hj hk hm
  rw[← My.out] at hj
  have hms:Marks w1.heap.size (w1.heap.size+1) [{target:=.collected w1.heap.size,args:=#[] }] W':=⟨_,rfl,zL,Nat.lt_succ_self _,hm,zT⟩
  have ME:Hid (Below w.heap.size w W'):=hid (B1.out.trans (hk.below (n:=w.heap.size) (fun b hb hc=>by have:=(nI b).1 hc;omega) zo))
  obtain⟨a,c,t⟩:=SS
  simp only at hj⊢
  have c40:W'.cell? ⟨w.heap.size+1,0,none⟩=some (int i64 0):=hj.out.2.1.cell 0
  have c41:W'.cell? ⟨w.heap.size+1,1,none⟩=some (int i64 0):=hj.out.2.1.cell 1
  have f4:=hj.out.2.1.thaw
  have c60:W'.cell? ⟨w.heap.size+1+1,0,none⟩=some (int i64 a):=hj.out.2.2.1.cell 0
  have c61:W'.cell? ⟨w.heap.size+1+1,1,none⟩=some (int i64 c):=hj.out.2.2.1.cell 1
  have c7:W'.cell? ⟨w.heap.size+1+1+1,0,none⟩=some (.bool t):=hj.out.2.2.2.cell 0
  rw[hs1] at hms
  have Xj:Hid (∀u z,Marks (w.heap.size+4) (w.heap.size+4+1) [{target:=.collected (w.heap.size+4),args:=#[] }] ((W'.setCell ⟨w.heap.size+1,0,none⟩ u).setCell ⟨w.heap.size+1,1,none⟩ z)):=hid fun u z=>hms.of fun r h1 h2=>(Below.heap_setCell _ _ _ _ zF).trans (Below.heap_setCell _ _ _ _ zF)
  have LV:Hid (∀ (a c bl:Int) (tmps:Array Value) (B:World),tmps[4]?.getD undef=.pointer (some ⟨w.heap.size+1,0,none⟩)→tmps[5]?.getD undef=int i64 bl→Whole B (w.heap.size+1) 28 #[int i64 a,int i64 c]→(results Tryz.f60 tmps).run prog B=.ok (.tuple #[.agg #[int i64 a,int i64 c],int i64 bl]) B):=hid fun a c bl tmps B h4 h5 hB=>by
   have k0:B.cell? ⟨w.heap.size+1,0,none⟩=some (int i64 a):=hB.cell 0
   have k1:B.cell? ⟨w.heap.size+1,1,none⟩=some (int i64 c):=hB.cell 1
   simp[results,Tryz.f60,go_sem,k0,k1,h4,h5]
  have R5:=hid hj.out.2.1
  have fz:=hid hk.size
  have HSF:Hid (t=false→a=0∧c=0):=hid fun ht=>by
   have:=LX v xs (by rw[← My.out,ht])
   rw[← My.out] at this
   simpa [ht] using this
  clear hms hk hm
  simp only[Exit.inBlock,Exit.then]
  go_at_K
  cases t
  ·gi_wp2
   obtain⟨rfl,rfl⟩:=HSF.out zs
   refine dw (Xj.out _ _) (fun B hB=>⟨_,LV.out 0 0 9 _ B rfl rfl (((R5.out.set 0 (int i64 0)).set 1 (int i64 0)).below hB zo),rfl,?_⟩) (by have:=fz.out;simp;omega)
   exact((ME.out.setCell (p:=⟨w.heap.size+1,0,none⟩) zF _).setCell (p:=⟨w.heap.size+1,1,none⟩) zF _).trans (hB.mono zo)
  ·gi_wp2
   refine dw (Xj.out _ _) (fun B hB=>⟨_,LV.out a c 0 _ B rfl rfl (((R5.out.set 0 (int i64 a)).set 1 (int i64 c)).below hB zo),rfl,?_⟩) (by have:=fz.out;simp;omega)
   exact((ME.out.setCell (p:=⟨w.heap.size+1,0,none⟩) zF _).setCell (p:=⟨w.heap.size+1,1,none⟩) zF _).trans (hB.mono zo)
 case hstop=>
  rintro c pre W' hpre hx hk hm
  exact hx.elim
theorem Below.next{w w1 w2:World}(h:Below w.heap.size w w1)(k:Below w1.heap.size w1 w2):Below w.heap.size w w2:=h.trans (k.mono h.size)
theorem Below.al{w w1:World}(h:Below w.heap.size w w1)(o:Obj):Below w.heap.size w (w1.alloc o):=h.alloc h.size o
def ak(b:Bk):List Nat:=(List.range (2 ^ b.nm)).filter fun s=>EJ b s
theorem sO(b:Bk):bP b (2 ^ b.nm)=(ak b).map fun(n:Nat)=>(n:Int):=rfl
theorem lS(b:Bk)(ok:b.Ok):(ak b).length≤64:=by
 unfold ak
 refine Nat.le_trans (List.length_filter_le _ _) ?_
 rw[List.length_range]
 exact Nat.le_trans (Nat.pow_le_pow_right zD ok.moves.1) zD
theorem Bk.At.up{b:Bk}{w w':World}(h:b.At w w.heap.size)(hb:Below w.heap.size w w'):b.At w' w'.heap.size:=(h.below hb).more hb.size
structure pQ(b:Bk)(A:Option Addr)(w:World):Prop where
 at_:b.At w w.heap.size
 row:Rows w w.heap.size 1 A (ak b).length (fun i _=>int i64 (((ak b).getD i 0:Nat):Int))
theorem pQ.below{b:Bk}{A:Option Addr}{w w':World}(h:pQ b A w)(hb:Below w.heap.size w w'):pQ b A w':=⟨h.at_.up hb,(h.row.below hb).more hb.size⟩
theorem Rows.bn{w:World}{B size n:Nat}{A:Option Addr}{f:Nat→Nat→Value}(h:Rows w B size A n f){p:Addr}(hp:∀ad,A=some ad→0<n→ad.block≠p.block)(v:Value):Rows (w.setCell p v) B size A n f:=fun hn=>by
 obtain⟨ad,e,hb,hc⟩:=h hn
 refine⟨ad,e,hb,fun i j hi hj=>Eq.trans ?_ (hc i j hi hj)⟩
 have hne:(ad.add (i * size+j)).block≠p.block:=by rw[aH];exact hp ad e hn
 exact World.cell?_of_block (Below.heap_setCell _ _ _ _ hne)
theorem Tx(b:Bk)(A:Option Addr)(n p:Nat):b.iz A n p=.agg (aA b A n p):=by cases b;rfl
theorem mU(b:Bk)(w:World)(h:b.At w w.heap.size)(ok:b.Ok)(hcap:b.ng≤b.gc):CallsIn FF 0 prog 37 #[b.val] w fun e w'=>∃A p,e=.returned (.tuple #[.agg (aA b A (ak b).length p),int i64 0])∧pQ b A w'∧Below w.heap.size w w'∧∀ad,A=some ad→0<(ak b).length→w.heap.size≤ad.block:=by
 refine(Vd b w h ok hcap).mono ?_
 rintro e w' ⟨A,p,rfl,hrow,hb⟩
 have hl:(bP b (2 ^ b.nm)).length=(ak b).length:=by rw[sO,List.length_map]
 refine⟨A,p,by rw[hl,Tx],⟨h.up hb,?_⟩,hb,fun ad hA hn=>by
  subst hA
  rcases hrow.2 with⟨h0,_⟩|⟨g',cap,cur,h0,h1,_⟩
  ·injection h0 with h0 _ _;cases h0
  ·injection h0 with h0 _ _;cases h0;exact h1⟩
 have:=eG hrow
 rw[hl] at this
 unfold Ints at this
 intro hn
 obtain⟨ad,e,hb,hc⟩:=this hn
 refine⟨ad,e,hb,fun i j hi hj=>(hc i j hi hj).trans ?_⟩
 rw[sO]
 congr 2
 simp[List.getD_eq_getElem?_getD,List.getElem?_map,List.getElem?_eq_getElem hi]
theorem Vt(b:Bk)(ok:b.Ok)(hl:∀s∈ak b,dZ s)(A:Option Addr)(p Bc:Nat)(w:World)(hc:pQ b A w)(hb:Whole w Bc 75 (aA b A (ak b).length p)):pW FF 79 #[.pointer (some ⟨Bc,0,none⟩)] (aB b (ak b)) w:=by
 refine⟨zs,enters_of func79 zk rfl,fun C W hW hC=>?_⟩
 exact KQ (p:=FF.fn) b ok A p (ak b) hl (lS b ok) C w.heap.size Bc W (fun x hx=>(hC x hx).2) (hb.below hW hb.lt) (hc.row.below hW) (hc.at_.below hW) hW.size (fun h=>by have:=(hC _ h).1;have:=hb.lt;omega) (fun x hx h=>by have:=(hC _ h).1;omega)
theorem rX(b:Bk)(ok:b.Ok)(hl:∀s∈ak b,dZ s)(A:Option Addr)(p:Nat)(w:World)(hc:pQ b A w):CallsIn FF 0 prog 39 #[.agg (aA b A (ak b).length p)] w fun e w'=>∃lb,e=.returned (.func (.func 79) #[] lb)∧pW FF 79 lb (aB b (ak b)) w'∧Below w.heap.size w w':=by
 refine(nS (p:=FF.fn) b A (ak b).length p w).mono ?_
 rintro e w' ⟨rfl,hw,hb,-⟩
 exact⟨_,rfl,Vt b ok hl A p _ w' (hc.below hb) hw,hb⟩
theorem gG(b:Bk)(w:World)(h:b.At w w.heap.size)(ok:b.Ok)(hcap:b.ng≤b.gc)(hl:∀s∈ak b,dZ s)(hlen:(aB b (ak b)).length<2 ^ 40):CallsIn FF 0 prog 11 #[b.val] w fun e w'=>e=.returned (.tuple #[int i64 (aB b (ak b)).length,int i64 0])∧Below w.heap.size w w':=by
 have HO:=hid fun w h=>mU b w h ok hcap
 have HH:=hid fun A p w hc=>rX b ok hl A p w hc
 have HK:=hid fun lb w h=>XQ 79 lb (aB b (ak b)) w hlen h
 have HA:=hid h
 obtain⟨n,hn⟩:∃n,n=(ak b).length:=zE
 obtain⟨xs,hxs⟩:∃xs,xs=aB b (ak b):=zE
 rw[← hn] at HO HH
 rw[← hxs] at HH HK⊢
 clear hn hxs h hcap hl hlen ok
 obtain⟨dY,mO,gA,ng,gc,g,mA,nm,mc,m,cA,nc,cc,c⟩:=b
 simp only[Bk.val,Bk.cells,aA] at HO HH⊢
 gi_enter func11,ntmps11
 gi_wp2_with (first
  | (gi_at_call 37;refine(HO.out _ (HA.out.up (bw))).mono ?_;rintro e w2 ⟨A,p,rfl,hc2,hb2,-⟩)
  | (gi_at_call 39;refine(HH.out A p _ (hc2.below (bw))).mono ?_;rintro e w4 ⟨lb,rfl,hs4,hb4⟩)
  | (gi_at_call 38;refine(HK.out lb _ hs4).mono ?_;rintro e w5 ⟨rfl,hb5⟩))
 go_ret2
 exact⟨rfl,Below.next (Below.next (Below.al (Below.next (bw) hb2) _) hb4) hb5⟩
theorem VA{lo:Int}{k:Nat}{n:Int}(h:n∈aX lo k):lo≤n∧n<lo+k:=by
 unfold aX at h
 obtain⟨i,hi,rfl⟩:=List.mem_map.1 h
 have:=List.mem_range.1 hi
 omega
theorem MU(b:Bk)(ok:kH b):∀ (n k:Nat) (h:Ht) (s:Nat→Int) (x:Ht),k+n≤b.nm→pR h→x∈eu b n k h s→pR x
 | 0,k,h,s,x,_,hh,hx=>by
   simp only[eu] at hx
   split at hx
   ·obtain rfl:x=h:=by simpa using hx
    exact hh
   ·cases hx
 | Nat.succ n,k,h,s,x,hk,hh,hx=>by
   simp only[eu] at hx
   split at hx
   ·obtain⟨z,hz,hx⟩:=List.mem_flatMap.1 hx
    refine MU b ok n (k+1) (dU h k z) _ x zo ⟨hh.f,fun i hi=>?_,hh.lies⟩ hx
    have hf:=jc (ok.2 k zo).few
    have:=VA hz
    have:=hh.m i hi
    unfold dU
    simp only
    split <;> omega
   ·cases hx
theorem jy(b:Bk)(ok:b.Ok)(ls:List Nat)(hl:∀s∈ls,dZ s):∀h∈aB b ls,pR h:=fun h hh=>by
 unfold aB at hh
 obtain⟨s,hs,hh⟩:=List.mem_flatMap.1 hh
 unfold gy at hh
 obtain⟨f,hf,hh⟩:=List.mem_flatMap.1 hh
 have hfi:=uD b ok.bX b.ng zL f hf
 refine MU b ok.moves b.nm 0 ⟨f,fun _=>0,s⟩ f h zo ⟨fun i hi=>hfi i hi,fun i _=>zs,?_⟩ hh
 exact hl s (List.mem_filter.1 hs).1
theorem TG(k:Nat)(hk:k<6)(xs:List Ht)(hx:∀h∈xs,pR h)(B:Nat)(w:World)(hB:Whole w B 3 #[int i64 k]):ug FF 58 #[.pointer (some ⟨B,0,none⟩)] xs (fun h=>.bool (h.Jz k)) w:=by
 refine⟨zs,enters_of func58 zk rfl,fun W h hh hW=>?_⟩
 have HF:=hid fun W=>oQ h k W (hx h hh).lies hk
 have hB':=hB.below hW hB.lt
 have Ks:=hid hB'
 have hlt:=hB'.lt
 show CallsIn FF 0 prog 58 #[h.val,.pointer (some ⟨B,0,none⟩)] W fun e W'=>e=.returned (.bool (h.Jz k))∧Below W.heap.size W W'
 obtain⟨r,hr⟩:∃r,r=h.Jz k:=zE
 rw[← hr] at HF⊢
 clear hh hr hB hx
 obtain⟨f,m,li⟩:=h
 simp only[Ht.val,Ht.cells] at HF⊢
 have c0:W.cell? ⟨B,0,none⟩=some (int i64 k):=Ks.out.cell 0
 gi_enter func58,ntmps58
 gi_wp2_with (gi_at_call 59;refine(HF.out _).mono ?_;rintro e w4 ⟨rfl,hb4⟩)
 go_ret
 exact⟨rfl,Below.next (bw) hb4⟩
theorem Lx(k:Nat)(hk:k<6)(xs:List Ht)(hx:∀h∈xs,pR h)(B:Nat)(w:World)(hB:Whole w B 3 #[int i64 k]):ug FF 54 #[.pointer (some ⟨B,0,none⟩)] xs (fun h=>int i64 (h.real k)) w:=by
 refine⟨zs,enters_of func54 zk rfl,fun W h hh hW=>?_⟩
 have HF:=hid fun W=>og h k W (hx h hh).lies hk
 have hB':=hB.below hW hB.lt
 have Ks:=hid hB'
 have hlt:=hB'.lt
 show CallsIn FF 0 prog 54 #[h.val,.pointer (some ⟨B,0,none⟩)] W fun e W'=>e=.returned (int i64 (h.real k))∧Below W.heap.size W W'
 obtain⟨r,hr⟩:∃r,r=h.real k:=zE
 rw[← hr] at HF⊢
 clear hh hr hB hx
 obtain⟨f,m,li⟩:=h
 simp only[Ht.val,Ht.cells] at HF⊢
 have c0:W.cell? ⟨B,0,none⟩=some (int i64 k):=Ks.out.cell 0
 gi_enter func54,ntmps54
 gi_wp2_with (gi_at_call 55;refine(HF.out _).mono ?_;rintro e w4 ⟨rfl,hb4⟩)
 go_ret
 exact⟨rfl,Below.next (bw) hb4⟩
theorem YA(b:Bk)(ok:b.Ok)(A:Option Addr)(n p:Nat)(day:Int)(g:Nat)(hg:g<3)(xs:List Ht)(hx:∀h∈xs,pR h)(Bc Bd Bg:Nat)(w:World)(hA:b.At w w.heap.size)(hc:Whole w Bc 75 (aA b A n p))(hd:Whole w Bd 3 #[int i64 day])(hgg:Whole w Bg 3 #[int i64 g]):ug FF 53 #[.pointer (some ⟨Bc,0,none⟩),.pointer (some ⟨Bd,0,none⟩),.pointer (some ⟨Bg,0,none⟩)] xs (fun h=>int i64 (stk b h day b.nm g)) w:=by
 refine⟨zs,enters_of func53 zk rfl,fun W h hh hW=>?_⟩
 have HF:=hid fun W hA=>gJ b h day W hA ok.moves ok.bX.1.2 (hx h hh)
 have HA:=hid (hA.up hW)
 have C1:=hid (hc.below hW hc.lt)
 have D1:=hid (hd.below hW hd.lt)
 have G1:=hid (hgg.below hW hgg.lt)
 have h1:=C1.out.lt
 have h2:=D1.out.lt
 have h3:=G1.out.lt
 show CallsIn FF 0 prog 53 #[h.val,.pointer (some ⟨Bc,0,none⟩),.pointer (some ⟨Bd,0,none⟩),.pointer (some ⟨Bg,0,none⟩)] W fun e W'=>e=.returned (int i64 (stk b h day b.nm g))∧Below W.heap.size W W'
 obtain⟨r,hr⟩:∃r,r=stk b h day b.nm:=zE
 rw[← hr] at HF⊢
 clear hh hr hc hd hgg hx hA ok hW
 obtain⟨w1,hw1⟩:∃w1,w1=W.alloc (.cells h.cells 91):=zE
 have B1:Hid (Below W.heap.size W w1):=hid (by rw[hw1];exact bw)
 have H1:Hid (Whole w1 W.heap.size 91 h.cells):=hid (by rw[hw1];exact Whole.new _ _ _)
 have C2:=hid (C1.out.below B1.out h1)
 have D2:=hid (D1.out.below B1.out h2)
 have G2:=hid (G1.out.below B1.out h3)
 have A2:=hid (HA.out.up B1.out)
 obtain⟨f,m,li⟩:=h
 obtain⟨dY,mO,gA,ng,gc,gs,mA,nm,mc,ms,cA,nc,cc,cs⟩:=b
 simp only[Ht.val,Ht.cells,Bk.val,Bk.cells,mD] at HF H1⊢
 simp only[aA] at C2
 simp only[Ht.cells] at hw1
 have ku:=hid hw1
 clear hw1
 have q0:∀d os,(grow (redrawn w1 d) os).cell? ⟨Bc,0,none⟩=some (int i64 dY):=cell_regrown (C2.out.cell 0)
 have q1:∀d os,(grow (redrawn w1 d) os).cell? ⟨Bc,1,none⟩=some (int i64 mO):=cell_regrown (C2.out.cell 1)
 have q2:∀d os,(grow (redrawn w1 d) os).cell? ⟨Bc,2,none⟩=some (.slice gA ng gc):=cell_regrown (C2.out.cell 2)
 have q3:∀d os,(grow (redrawn w1 d) os).cell? ⟨Bc,3,none⟩=some (.slice mA nm mc):=cell_regrown (C2.out.cell 3)
 have q4:∀d os,(grow (redrawn w1 d) os).cell? ⟨Bc,4,none⟩=some (.slice cA nc cc):=cell_regrown (C2.out.cell 4)
 have qd:∀d os,(grow (redrawn w1 d) os).cell? ⟨Bd,0,none⟩=some (int i64 day):=cell_regrown (D2.out.cell 0)
 have qg:∀d os,(grow (redrawn w1 d) os).cell? ⟨Bg,0,none⟩=some (int i64 g):=cell_regrown (G2.out.cell 0)
 have x0:∀d os,(grow (redrawn w1 d) os).cell? ⟨W.heap.size,0,none⟩=some (int i64 (f 0)):=cell_regrown (H1.out.cell 0)
 have x1:∀d os,(grow (redrawn w1 d) os).cell? ⟨W.heap.size,1,none⟩=some (int i64 (f 1)):=cell_regrown (H1.out.cell 1)
 have x2:∀d os,(grow (redrawn w1 d) os).cell? ⟨W.heap.size,2,none⟩=some (int i64 (f 2)):=cell_regrown (H1.out.cell 2)
 have x3:∀d os,(grow (redrawn w1 d) os).cell? ⟨W.heap.size,3,none⟩=some (int i64 (m 0)):=cell_regrown (H1.out.cell 3)
 have x4:∀d os,(grow (redrawn w1 d) os).cell? ⟨W.heap.size,4,none⟩=some (int i64 (m 1)):=cell_regrown (H1.out.cell 4)
 have x5:∀d os,(grow (redrawn w1 d) os).cell? ⟨W.heap.size,5,none⟩=some (int i64 (m 2)):=cell_regrown (H1.out.cell 5)
 have x6:∀d os,(grow (redrawn w1 d) os).cell? ⟨W.heap.size,6,none⟩=some (int i64 (m 3)):=cell_regrown (H1.out.cell 6)
 have x7:∀d os,(grow (redrawn w1 d) os).cell? ⟨W.heap.size,7,none⟩=some (int i64 (m 4)):=cell_regrown (H1.out.cell 7)
 have x8:∀d os,(grow (redrawn w1 d) os).cell? ⟨W.heap.size,8,none⟩=some (int i64 (m 5)):=cell_regrown (H1.out.cell 8)
 have x9:∀d os,(grow (redrawn w1 d) os).cell? ⟨W.heap.size,9,none⟩=some (int i64 li):=cell_regrown (H1.out.cell 9)
 have cS:∀d os,CallsIn FF 0 prog 47 #[.agg #[int i64 dY,int i64 mO,.slice gA ng gc,.slice mA nm mc,.slice cA nc cc],.agg #[int i64 (f 0),int i64 (f 1),int i64 (f 2),int i64 (m 0),int i64 (m 1),int i64 (m 2),int i64 (m 3),int i64 (m 4),int i64 (m 5),int i64 li],int i64 day] (grow (redrawn w1 d) os) fun e w''=>e=.returned (.agg #[int i64 (r 0),int i64 (r 1),int i64 (r 2)])∧∃p:Regrown,w''=grow (redrawn w1 p.d) p.os:=fun d os=>CallsIn.regrown_of (HF.out _ ((A2.out.below (below_regrown w1 d os)).more (below_regrown w1 d os).size))
 have ix:∀ (u v z:Int) (w:World),(Instr.index 88 (.agg #[int i64 u,int i64 v,int i64 z]) (int i64 0)).run prog w=.ok (int i64 u) w∧(Instr.index 88 (.agg #[int i64 u,int i64 v,int i64 z]) (int i64 1)).run prog w=.ok (int i64 v) w∧(Instr.index 88 (.agg #[int i64 u,int i64 v,int i64 z]) (int i64 2)).run prog w=.ok (int i64 z) w:=fun _ _ _ _=>⟨zk,zk,zk⟩
 have T3:=fun u v z w=>(ix u v z w).1
 have T5:=fun u v z w=>(ix u v z w).2.1
 have T6:=fun u v z w=>(ix u v z w).2.2
 clear ix
 gi_enter func53,ntmps53
 gi_wp2
 rw[← ku.out]
 refine wpIn_region_quiet_below rfl zk zk ?_
 rcases(show g=0∨g=1∨g=2 by omega) with rfl|rfl|rfl
 all_goals
  repeat (quiet_step_in (exact cS _ _))
  refine wpQuietIn_nil ?_
  rintro w' ⟨⟨dq,osq⟩,rfl⟩
  have bg:=below_regrown w1 dq osq
  gi_wp2
  go_ret
  exact⟨rfl,Below.next B1.out bg⟩
def eF(b:Bk)(s:Nat→Int):Nat→Int
 | 0=>0
 | Nat.succ k=>IntKind.i64.wrap (eF b s k+IntKind.i64.wrap ((b.g k).cost * s k))
theorem bz(b:Bk)(s:Nat→Int)(w:World)(hA:b.At w w.heap.size)(hg:b.ng≤3):CallsIn FF 0 prog 64 #[b.val,mD s] w fun e w'=>e=.returned (int i64 (eF b s b.ng))∧Below w.heap.size w w':=by
 obtain⟨L,hL⟩:∃L,L=eF b s:=zE
 have sX:Hid (L 0=0):=hid (by rw[hL];rfl)
 have Sv:Hid (∀k,L (k+1)=IntKind.i64.wrap (L k+IntKind.i64.wrap ((b.g k).cost * s k))):=hid fun k=>by rw[hL];rfl
 rw[← hL]
 clear hL
 have HA:=hid hA
 clear hA
 obtain⟨dY,mO,gA,ng,gc,g,mA,nm,mc,m,cA,nc,cc,c⟩:=b
 simp only[Bk.val,Bk.cells,mD] at Sv hg⊢
 obtain⟨w1,hw1⟩:∃w1,w1=(w.alloc (.cells #[int i64 dY,int i64 mO,.slice gA ng gc,.slice mA nm mc,.slice cA nc cc] 73)).alloc (.cells #[int i64 (s 0),int i64 (s 1),int i64 (s 2)] 88):=zE
 have B1:Hid (Below w.heap.size w w1):=hid (by rw[hw1];exact bw)
 have S1:Hid (Whole w1 (w.heap.size+1) 88 #[int i64 (s 0),int i64 (s 1),int i64 (s 2)]):=hid (by
  have:=Whole.new (w.alloc (.cells #[int i64 dY,int i64 mO,.slice gA ng gc,.slice mA nm mc,.slice cA nc cc] 73)) 88 #[int i64 (s 0),int i64 (s 1),int i64 (s 2)]
  rw[World.size_alloc] at this;rw[hw1];exact this)
 have A1:=hid (HA.out.up B1.out)
 have hs1:w1.heap.size=w.heap.size+2:=by rw[hw1];simp
 have ku:=hid hw1
 clear hw1
 gi_enter func64,ntmps64
 gi_wp2
 rw[← ku.out]
 clear ku
 gi_loopw [5,12] (fun u i wr=>∃k:Nat,k≤ng∧i=int i64 k∧u=int i64 (L k)∧Hid (Below w1.heap.size w1 wr)) (fun _ i _=>ng - (intOf i).toNat)
 case atStart=>exact⟨0,Nat.zero_le _,rfl,by rw[sX.out],hid zB⟩
 case round=>
  obtain⟨k,hk,rfl,rfl,hT⟩:=hrel
  obtain⟨wo,rfl⟩:∃wo:World,wo=wr:=zE
  have hsz:=hT.out.size
  by_cases hlt:k<ng
  ·obtain⟨ad,hA',hbl,-⟩:=A1.out.g (show 0<ng by omega)
   simp only at hA'
   subst hA'
   obtain⟨gk,EB⟩:∃gk,gk=g k:=zE
   have hr:∀j,j<5→wo.cell? ((ad.add (k * 5)).add j)=some (gk.cell j):=fun j hj=>by rw[EB];exact((A1.out.g.below hT.out)).row hlt |>.2 j hj
   have hLk:=Sv.out k
   rw[← EB] at hLk
   obtain⟨NA,co,pk,lo,hi⟩:=gk
   have c0:wo.cell? (ad.add (k * 5))=some (.string NA):=hr 0 zD
   have c1:wo.cell? ⟨(ad.add (k * 5)).block,(ad.add (k * 5)).off+1,none⟩=some (int i64 co):=hr 1 zD
   have c2:wo.cell? ⟨(ad.add (k * 5)).block,(ad.add (k * 5)).off+2,none⟩=some (int i64 pk):=hr 2 zD
   have c3:wo.cell? ⟨(ad.add (k * 5)).block,(ad.add (k * 5)).off+3,none⟩=some (int i64 lo):=hr 3 zD
   have c4:wo.cell? ⟨(ad.add (k * 5)).block,(ad.add (k * 5)).off+4,none⟩=some (int i64 hi):=hr 4 zD
   clear hr
   simp only at hLk
   have WU:=hid hLk
   clear EB hLk
   obtain⟨w2,hw2⟩:∃w2,w2=wo.alloc (.cells #[.string NA,int i64 co,int i64 pk,int i64 lo,int i64 hi] 83):=zE
   have B2:Hid (Below wo.heap.size wo w2):=hid (by rw[hw2];exact bw)
   have G2:Hid (Whole w2 wo.heap.size 83 #[.string NA,int i64 co,int i64 pk,int i64 lo,int i64 hi]):=hid (by rw[hw2];exact Whole.new _ _ _)
   have S2:=hid ((S1.out.below hT.out S1.out.lt).below B2.out zo)
   have FQ:=hid hw2
   clear hw2
   gi_wp2
   rw[← FQ.out]
   have qc:∀d os,(grow (redrawn w2 d) os).cell? ⟨wo.heap.size,1,none⟩=some (int i64 co):=cell_regrown (G2.out.cell 1)
   have q0:∀d os,(grow (redrawn w2 d) os).cell? ⟨w.heap.size+1,0,none⟩=some (int i64 (s 0)):=cell_regrown (S2.out.cell 0)
   have q1:∀d os,(grow (redrawn w2 d) os).cell? ⟨w.heap.size+1,1,none⟩=some (int i64 (s 1)):=cell_regrown (S2.out.cell 1)
   have q2:∀d os,(grow (redrawn w2 d) os).cell? ⟨w.heap.size+1,2,none⟩=some (int i64 (s 2)):=cell_regrown (S2.out.cell 2)
   refine wpIn_region_quiet_below rfl zk zk ?_
   rcases(show k=0∨k=1∨k=2 by omega) with rfl|rfl|rfl
   all_goals
    repeat (quiet_step_in (fail))
    refine wpQuietIn_nil ?_
    rintro w' ⟨⟨dq,osq⟩,rfl⟩
    have bg:=below_regrown w2 dq osq
    gi_wp2
    exact⟨⟨_+1,hlt,rfl,by rw[WU.out],hid (Below.next (Below.next hT.out B2.out) bg)⟩,by simp[intOf];omega⟩
  ·obtain rfl:k=ng:=zo
   gi_wp2
   go_ret
   exact⟨rfl,Below.next B1.out hT.out⟩
theorem WK(b:Bk)(ok:b.Ok)(A:Option Addr)(n p:Nat)(day:Int)(xs:List Ht)(hx:∀h∈xs,pR h)(Bc Bd:Nat)(w:World)(hA:b.At w w.heap.size)(hc:Whole w Bc 75 (aA b A n p))(hd:Whole w Bd 3 #[int i64 day]):ug FF 63 #[.pointer (some ⟨Bc,0,none⟩),.pointer (some ⟨Bd,0,none⟩)] xs (fun h=>int i64 (eF b (stk b h day b.nm) b.ng)) w:=by
 refine⟨zs,enters_of func63 zk rfl,fun W h hh hW=>?_⟩
 have HF:=hid fun W hA=>gJ b h day W hA ok.moves ok.bX.1.2 (hx h hh)
 have HG:=hid fun s W hA=>bz b s W hA ok.bX.1.2
 have HA:=hid (hA.up hW)
 have C1:=hid (hc.below hW hc.lt)
 have D1:=hid (hd.below hW hd.lt)
 have h1:=C1.out.lt
 have h2:=D1.out.lt
 show CallsIn FF 0 prog 63 #[h.val,.pointer (some ⟨Bc,0,none⟩),.pointer (some ⟨Bd,0,none⟩)] W fun e W'=>e=.returned (int i64 (eF b (stk b h day b.nm) b.ng))∧Below W.heap.size W W'
 obtain⟨r,hr⟩:∃r,r=stk b h day b.nm:=zE
 rw[← hr] at HF⊢
 have Lt:=hid fun W hA=>HG.out r W hA
 obtain⟨u,hu⟩:∃u,u=eF b r b.ng:=zE
 rw[← hu] at Lt⊢
 clear hh hr hu hc hd hx hA ok hW HG
 obtain⟨w1,hw1⟩:∃w1,w1=W.alloc (.cells h.cells 91):=zE
 have B1:Hid (Below W.heap.size W w1):=hid (by rw[hw1];exact bw)
 have H1:Hid (Whole w1 W.heap.size 91 h.cells):=hid (by rw[hw1];exact Whole.new _ _ _)
 have C2:=hid (C1.out.below B1.out h1)
 have D2:=hid (D1.out.below B1.out h2)
 have A2:=hid (HA.out.up B1.out)
 obtain⟨f,m,li⟩:=h
 obtain⟨dY,mO,gA,ng,gc,gs,mA,nm,mc,ms,cA,nc,cc,cs⟩:=b
 simp only[Ht.val,Ht.cells,Bk.val,Bk.cells,mD] at HF Lt H1⊢
 simp only[aA] at C2
 simp only[Ht.cells] at hw1
 have ku:=hid hw1
 clear hw1
 have q0:∀d os,(grow (redrawn w1 d) os).cell? ⟨Bc,0,none⟩=some (int i64 dY):=cell_regrown (C2.out.cell 0)
 have q1:∀d os,(grow (redrawn w1 d) os).cell? ⟨Bc,1,none⟩=some (int i64 mO):=cell_regrown (C2.out.cell 1)
 have q2:∀d os,(grow (redrawn w1 d) os).cell? ⟨Bc,2,none⟩=some (.slice gA ng gc):=cell_regrown (C2.out.cell 2)
 have q3:∀d os,(grow (redrawn w1 d) os).cell? ⟨Bc,3,none⟩=some (.slice mA nm mc):=cell_regrown (C2.out.cell 3)
 have q4:∀d os,(grow (redrawn w1 d) os).cell? ⟨Bc,4,none⟩=some (.slice cA nc cc):=cell_regrown (C2.out.cell 4)
 have qd:∀d os,(grow (redrawn w1 d) os).cell? ⟨Bd,0,none⟩=some (int i64 day):=cell_regrown (D2.out.cell 0)
 have x0:∀d os,(grow (redrawn w1 d) os).cell? ⟨W.heap.size,0,none⟩=some (int i64 (f 0)):=cell_regrown (H1.out.cell 0)
 have x1:∀d os,(grow (redrawn w1 d) os).cell? ⟨W.heap.size,1,none⟩=some (int i64 (f 1)):=cell_regrown (H1.out.cell 1)
 have x2:∀d os,(grow (redrawn w1 d) os).cell? ⟨W.heap.size,2,none⟩=some (int i64 (f 2)):=cell_regrown (H1.out.cell 2)
 have x3:∀d os,(grow (redrawn w1 d) os).cell? ⟨W.heap.size,3,none⟩=some (int i64 (m 0)):=cell_regrown (H1.out.cell 3)
 have x4:∀d os,(grow (redrawn w1 d) os).cell? ⟨W.heap.size,4,none⟩=some (int i64 (m 1)):=cell_regrown (H1.out.cell 4)
 have x5:∀d os,(grow (redrawn w1 d) os).cell? ⟨W.heap.size,5,none⟩=some (int i64 (m 2)):=cell_regrown (H1.out.cell 5)
 have x6:∀d os,(grow (redrawn w1 d) os).cell? ⟨W.heap.size,6,none⟩=some (int i64 (m 3)):=cell_regrown (H1.out.cell 6)
 have x7:∀d os,(grow (redrawn w1 d) os).cell? ⟨W.heap.size,7,none⟩=some (int i64 (m 4)):=cell_regrown (H1.out.cell 7)
 have x8:∀d os,(grow (redrawn w1 d) os).cell? ⟨W.heap.size,8,none⟩=some (int i64 (m 5)):=cell_regrown (H1.out.cell 8)
 have x9:∀d os,(grow (redrawn w1 d) os).cell? ⟨W.heap.size,9,none⟩=some (int i64 li):=cell_regrown (H1.out.cell 9)
 have cS:∀d os,CallsIn FF 0 prog 47 #[.agg #[int i64 dY,int i64 mO,.slice gA ng gc,.slice mA nm mc,.slice cA nc cc],.agg #[int i64 (f 0),int i64 (f 1),int i64 (f 2),int i64 (m 0),int i64 (m 1),int i64 (m 2),int i64 (m 3),int i64 (m 4),int i64 (m 5),int i64 li],int i64 day] (grow (redrawn w1 d) os) fun e w''=>e=.returned (.agg #[int i64 (r 0),int i64 (r 1),int i64 (r 2)])∧∃p:Regrown,w''=grow (redrawn w1 p.d) p.os:=fun d os=>CallsIn.regrown_of (HF.out _ ((A2.out.below (below_regrown w1 d os)).more (below_regrown w1 d os).size))
 have cW:∀d os,CallsIn FF 0 prog 64 #[.agg #[int i64 dY,int i64 mO,.slice gA ng gc,.slice mA nm mc,.slice cA nc cc],.agg #[int i64 (r 0),int i64 (r 1),int i64 (r 2)]] (grow (redrawn w1 d) os) fun e w''=>e=.returned (int i64 u)∧∃p:Regrown,w''=grow (redrawn w1 p.d) p.os:=fun d os=>CallsIn.regrown_of (Lt.out _ ((A2.out.below (below_regrown w1 d os)).more (below_regrown w1 d os).size))
 gi_enter func63,ntmps63
 gi_wp2
 rw[← ku.out]
 refine wpIn_region_quiet_below rfl zk zk ?_
 repeat (quiet_step_in (first|exact cS _ _|exact cW _ _))
 refine wpQuietIn_nil ?_
 rintro w' ⟨⟨dq,osq⟩,rfl⟩
 have bg:=below_regrown w1 dq osq
 gi_wp2
 go_ret
 exact⟨rfl,Below.next B1.out bg⟩
end
end Go.Proofs.YtpmafoalhnaokaaGreat
