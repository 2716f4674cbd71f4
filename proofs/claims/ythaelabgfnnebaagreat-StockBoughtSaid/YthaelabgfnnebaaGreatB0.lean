/- HM Qr YF -/
import Derived.Test.YthaelabgfnnebaaGreatA9
import Derived.Shelf.SlIterI.Sorted
import Derived.Shelf.SortM.AssemblyIn
import Derived.Shelf.SortM.SortNone
import Derived.Ground.GgzProg
import Derived.Ground.SlgmProg
set_option maxRecDepth 100000
set_option maxHeartbeats 16000000
set_option linter.unusedVariables false
set_option linter.unusedSectionVars false
open Go.IntKind(i64)
open Go.Lib(hid)
open Go.Proofs.Tryz
open Go.Value(int)
namespace Go.Proofs.YthaelabgfnnebaaGreat
section
open Go Go.RowKit Go.Maps Go.Sort Go.Shelf
def AA:Go.Shelf.Ren:=⟨fun|7=>75|10=>99|n=>n,fun|23=>115|26=>3|3=>4|28=>118|0=>0|27=>117|33=>82|4=>4|n=>n,fun|n=>n⟩
theorem YQ:Go.Proofs.SlLaysZI.n7 prog AA:=⟨zk,⟨Tryz.f75.name,zD,Tryz.func75.trans (congrArg some zk)⟩,⟨Tryz.f99.name,zD,Tryz.func99.trans (congrArg some zk)⟩,zk,isAgg0,sizeOf0,zeroValue0,zk,isAgg4,sizeOf4,zeroValue4,zk,isAgg115,sizeOf115,zeroValue115,zk,isAgg3,sizeOf3,zeroValue3,zk,isAgg117,sizeOf117,zeroValue117,zk,isAgg118,sizeOf118,zeroValue118,zk,isAgg82,sizeOf82,zeroValue82⟩
def um:Go.Shelf.Ren:=⟨fun|6=>74|8=>97|9=>98|11=>124|13=>126|12=>125|23=>168|24=>169|14=>159|15=>160|16=>161|17=>162|18=>163|19=>164|20=>165|21=>166|22=>167|25=>180|26=>181|27=>182|28=>183|29=>184|30=>170|31=>187|n=>n,fun|26=>3|28=>118|24=>30|0=>0|3=>3|37=>141|48=>162|50=>159|4=>4|40=>203|39=>202|45=>198|5=>5|9=>9|51=>217|55=>220|57=>224|58=>111|33=>82|n=>n,fun|n=>n⟩
theorem Xc:Go.Proofs.SlLaysZI.n6 prog um:=⟨zk,⟨Tryz.f74.name,zD,Tryz.func74.trans (congrArg some zk)⟩,⟨Tryz.f97.name,zD,Tryz.func97.trans (congrArg some zk)⟩,⟨Tryz.f124.name,zD,Tryz.func124.trans (congrArg some zk)⟩,zk,isAgg0,sizeOf0,zeroValue0,zk,isAgg30,sizeOf30,zeroValue30,zk,isAgg3,sizeOf3,zeroValue3,zk,isAgg118,sizeOf118,zeroValue118,zk⟩
def Oj:Go.Shelf.Ren:=⟨fun|5=>98|8=>126|7=>125|19=>168|20=>169|10=>159|11=>160|12=>161|13=>162|14=>163|15=>164|16=>165|17=>166|18=>167|30=>180|31=>181|32=>182|33=>183|34=>184|35=>170|40=>187|n=>n,fun|23=>30|25=>3|3=>3|32=>141|22=>30|0=>0|44=>162|46=>159|4=>4|36=>203|35=>202|41=>198|5=>5|9=>9|53=>217|57=>220|63=>224|64=>111|n=>n,fun|n=>n⟩
theorem YU:Go.Proofs.SlLaysM.n5 prog Oj:=⟨zk,⟨Tryz.f98.name,zD,Tryz.func98.trans (congrArg some zk)⟩,⟨Tryz.f125.name,zD,Tryz.func125.trans (congrArg some zk)⟩,Tryz.func126.trans (congrArg some zk),⟨Tryz.f159.name,zD,Tryz.func159.trans (congrArg some zk)⟩,⟨Tryz.f160.name,zD,Tryz.func160.trans (congrArg some zk)⟩,⟨Tryz.f161.name,zD,Tryz.func161.trans (congrArg some zk)⟩,⟨Tryz.f162.name,zD,Tryz.func162.trans (congrArg some zk)⟩,⟨Tryz.f163.name,zD,Tryz.func163.trans (congrArg some zk)⟩,⟨Tryz.f164.name,zD,Tryz.func164.trans (congrArg some zk)⟩,⟨Tryz.f165.name,zD,Tryz.func165.trans (congrArg some zk)⟩,⟨Tryz.f166.name,zD,Tryz.func166.trans (congrArg some zk)⟩,⟨Tryz.f167.name,zD,Tryz.func167.trans (congrArg some zk)⟩,Tryz.func168.trans (congrArg some zk),Tryz.func169.trans (congrArg some zk),⟨Tryz.f180.name,zD,Tryz.func180.trans (congrArg some zk)⟩,Tryz.func181.trans (congrArg some zk),Tryz.func182.trans (congrArg some zk),⟨Tryz.f183.name,zD,Tryz.func183.trans (congrArg some zk)⟩,⟨Tryz.f184.name,zD,Tryz.func184.trans (congrArg some zk)⟩,⟨Tryz.f170.name,zD,Tryz.func170.trans (congrArg some zk)⟩,⟨Tryz.f187.name,zD,Tryz.func187.trans (congrArg some zk)⟩,zk,isAgg0,sizeOf0,zeroValue0,zk,isAgg3,sizeOf3,zeroValue3,zk,isAgg4,sizeOf4,zeroValue4,zk,isAgg5,sizeOf5,zeroValue5,zk,isAgg9,sizeOf9,zeroValue9,zk,isAgg30,sizeOf30,zeroValue30,zk,isAgg30,sizeOf30,zeroValue30,zk,isAgg3,sizeOf3,zeroValue3,zk,isAgg141,sizeOf141,zeroValue141,zk,isAgg202,sizeOf202,zeroValue202,zk,isAgg203,sizeOf203,zeroValue203,zk,isAgg198,sizeOf198,zeroValue198,zk,isAgg162,sizeOf162,zeroValue162,zk,isAgg159,sizeOf159,zeroValue159,zk,isAgg217,sizeOf217,zeroValue217,zk,isAgg220,sizeOf220,zeroValue220,zk,isAgg224,sizeOf224,zeroValue224,zk,isAgg111,sizeOf111,zeroValue111⟩
def Be(g:Nat):Bool:=decide ((3≤g∧g<109)∨(113≤g∧g<135)∨(153≤g∧g<171)∨(176≤g∧g<188))
theorem kQ{g:Nat}(h:Be g=true):FF.fn g:=(qm g).2 (by unfold Be at h;exact of_decide_eq_true h)
theorem LA{L:List Nat}(h:L.all Be=true):∀x∈L,FF.fn x:=fun x hx=>kQ (List.all_eq_true.1 h x hx)
theorem q7{L:List FuncId}{n m:Nat}{P:Program}{f:FuncId}{args:Array Value}{w:World}{R:Ending→World→Prop}(hL:∀x∈L,FF.fn x)(hf:FF.fn f)(h:∀D,CallsIn (Fence.list L (some D)) n P f args w R):CallsIn FF m P f args w R:=by
 refine⟨hf,fun cs _=>?_⟩
 obtain⟨e,w',fr,r,hs,rest⟩:=(h (cs.length+1+n)).2 cs (fun d hd=>by cases hd;exact Nat.le_refl _)
 have hm:∀x:Machine,x.fenced P (Fence.list L (some (cs.length+1+n)))→x.fenced P FF:=fun x hx g hg=>by
  obtain⟨a,b,c,d⟩:=hx g hg
  exact⟨a,b.imp (hL _) id,fun f hf=>hL _ (c f hf),fun d hd=>by cases hd⟩
 refine⟨e,w',fr,r,?_,rest⟩
 cases e with
 | returned v=>exact fI hm hs
 | panicked c=>exact fI hm hs
 | outgrown=>exact hs
theorem Gq(m:Nat):AnyZI.SortsIn prog um FF m:=
 ⟨fun blk off cap ss W hH hblk hsz=>q7 (LA zk) (kQ zk) fun D=>AnySM.slices_Sort_int_in YU D blk off cap ss W hH hblk hsz,
  fun p cap W=>q7 (LA zk) (kQ zk) fun D=>AnySM.slices_Sort_int_none_in YU D p cap W⟩
theorem xh{n m:Nat}{P:Program}{f:FuncId}{args:Array Value}{w:World}{R:Ending→World→Prop}(h:CallsIn FF n P f args w R):CallsIn FF m P f args w R:=⟨h.1,fun cs _=>h.2 cs (fun d hd=>by cases hd)⟩
theorem VP(mb:Option Nat)(W:World):CallsIn FF 0 prog 75 #[.map mb] W fun e w'=>e=.returned (.func (.func 99) #[] #[.pointer (some ⟨W.heap.size,0,none⟩)])∧w'=W.alloc (.cells #[.map mb] 115):=
 AnyZI.keys_in YQ FF 0 (kQ zk) rfl mb W
theorem Ol{H:Type}(b nn:Nat)(D0:DataW H)(R:Value→Option (DataW H × List MemPlace))(B:Nat)(w:World)(hB:Whole w B 115 #[.map (some b)])(hown:w.ownsMap prog 3 R b nn D0)(hmax:Maps.size D0≤maxLen)(hbytes:Maps.size D0 * 8≤140737488355328):
 CallsIn FF 0 prog 74 #[.func (.func 99) #[] #[.pointer (some ⟨B,0,none⟩)]] w fun e w'=>∃ (v:Value) (ss:List Int),e=.returned v∧ss.Perm (intKeys D0)∧
  w'.ownsRow w.heap.size 3 1 v ss.length ((ss.mergeSort (fun x y=>decide (x≤y))).map encZ)∧(v=.slice none 0 0↔ss=[])∧Below w.heap.size w w':=by
 have hseq:SeqGives FF 1 prog 99 #[.pointer (some ⟨B,0,none⟩)] encZ (fun ss=>ss.Perm (intKeys D0)) (Maps.size D0) w:=
  AnyZI.keys_gives (ρ:=AA) {YQ with } FF 1 (kQ zk) rfl zo B b nn D0 _ hB.lt (hB.cell 0) hown
 have cS:=AnyZI.sorted_in Xc FF 4 (kQ zk) (kQ zk) (kQ zk) (kQ zk) rfl zo (Gq _) (enters_of func98 zk rfl) 99 #[.pointer (some ⟨B,0,none⟩)] (kQ zk) (enters_of func99 zk rfl) _ _ hmax hbytes _ hseq
 exact xh cS
end
section
open Go Go.Sort Go.RowKit
section
variable{F:Fence}{n:Nat}{P:Program}{ops:Array Oper}{Q:Exit→Act→World→Prop}{md:Region.Mode}{S:World→Prop}{T:Act→World→Prop}{N:Nat}
theorem qK{a:Act}{w:World}{l:List Oper}(N:Nat)(hro:F.round=none)(hB:G5 l.toArray N=true)
 (h:wpQuietIn F n P l.toArray (fun w'=>∃p:Regrown,w'=grow (redrawn w p.d) p.os) (fun a'=>∀w',(∃p:Regrown,w'=grow (redrawn w p.d) p.os)→wpListIn F n P l.toArray Q (l.drop N) a' w') (l.take N) a):wpAnyIn F n P .any l.toArray Q l.toArray.size (Array.replicate l.toArray.size false) a {w with drawn:=w.drawn+1 }:=by
 simp only[G5,Bool.and_eq_true,decide_eq_true_eq] at hB
 obtain⟨⟨⟨⟨h1,h2⟩,h3⟩,h4⟩,h5⟩:=hB
 have hlen:N<l.length:=by simpa using h4
 have htl:(l.take N).length=N:=zm
 have inv:HeadInv .any l.toArray N (Array.replicate l.toArray.size false):=⟨zs,fun j oj hj hl=>by rw[getD_replicate_false] at *;simp_all,fun t ht ht'=>getD_in (by simpa using ht') (getD_replicate_false _ _)⟩
 have:=qL (F:=F) (n:=n) (P:=P) (md:=.any) (ops:=l.toArray) (N:=N) (S:=fun w'=>∃p:Regrown,w'=grow (redrawn w p.d) p.os) (T:=wpListIn F n P l.toArray Q (l.drop N)) h1 h2 h3 h4 (l.take N) 0 (Array.replicate l.toArray.size false) a
  (fun j hj=>by rw[htl] at hj;simp[hj]) zo inv (by rw[htl];exact h5) h
 rw[htl] at this
 have h6:=mU (Q:=Q) hro (N:=N) (fun listed a w hB h=>by
  have hd:(l.drop N).length=l.toArray.size - N:=zs
  have:=jd (F:=F) (n:=n) (P:=P) (md:=.any) (ops:=l.toArray) (Q:=Q) (l.drop N) N listed a w (fun j hj=>zs) (by rw[hd];exact hB) h
  rw[hd] at this
  exact this) N _ a {w with drawn:=w.drawn+1 } ⟨⟨w.drawn+1,#[]⟩,by rw[grow_empty];rfl⟩ this
 rw[show l.toArray.size - N+N=l.toArray.size by omega] at h6
 exact h6
def vg(ops:Array Oper):Bool:=ops.all fun o=>match o.op with
 | .defer _=>false
 | _=>true
theorem JF{ops:Array Oper}(h:vg ops=true){i:Nat}{o:Oper}(ho:ops[i]? =some o):∀c,o.op≠.defer c:=fun c hc=>by
 have:=Array.all_eq_true.1 h i (Array.getElem?_eq_some_iff.1 ho).1
 rw[(Array.getElem?_eq_some_iff.1 ho).2,hc] at this
 cases this
theorem JR{o:Oper}{a:Act}{w:World}{K K':Act→World→Prop}{l:Nat}(hro:F.round=none)(hd:∀c,o.op≠.defer c)(hK:∀a w,K a w→K' a w)(h:o.wpIn F n P a w K Q):o.wpIn (F.inRound l) n P a w K' Q:=by
 have h':=Oper.wpIn_mono hK h
 obtain⟨h1,h2⟩:=h'
 rw[hro,Oper.semAt_eq _ _ _ hd] at h2
 refine⟨h1,?_⟩
 rw[Oper.semAt_eq _ _ _ hd]
 exact h2
theorem lq{l:Nat}(hro:F.round=none)(hd:vg ops=true):∀ (fuel:Nat) (listed:Array Bool) (a:Act) (w:World),wpAnyIn F n P md ops Q fuel listed a w→wpAnyIn (F.inRound l) n P md ops Q fuel listed a w
 | 0,_,_,_,h=>h
 | fuel+1,_,a,w,h=>⟨h.1,fun i hi=>by
   have h1:=h.2 i hi
   unfold wpOpIn at h1⊢
   split
   ·rename_i ho
    rw[ho] at h1
    exact lq hro hd fuel _ _ _ h1
   ·rename_i o ho
    rw[ho] at h1
    simp only at h1
    split
    ·rename_i hw
     rw[if_pos hw] at h1
     exact JR hro (JF hd ho) (fun a w h=>lq hro hd fuel _ a w h) h1
    ·rename_i hw
     rw[if_neg hw] at h1
     exact⟨h1.1,lq hro hd fuel _ _ _ h1.2⟩⟩
theorem kX{id l₀:Nat}{a:Act}{w:World}{l:List Oper}(N:Nat)(hro:F.round=none)(hm:P.follows .mixedOrders=true)(hB:G5 l.toArray N=true)(hd:vg l.toArray=true)
 (h:wpQuietIn F n P l.toArray (fun w'=>∃p:Regrown,w'=grow (redrawn w p.d) p.os) (fun a'=>∀w',(∃p:Regrown,w'=grow (redrawn w p.d) p.os)→wpListIn F n P l.toArray Q (l.drop N) a' w') (l.take N) a):(Code.region id l.toArray true).wpIn (F.inRound l₀) n P Q a w:=
 wpIn_region_any hm (lq hro hd _ _ _ _ (qK N hro hB h))
end
end
section
open Go.RowKit
open Go.Sort (grow)
attribute [local go_sem] Oper.semAt_some
theorem ao{p:FuncId→Prop}[yx p](b:Bk)(ok:b.Ok)(C:Nat→Prop)(N0 Bb By Bf l:Nat)(W0:World)(J Jx:List Ht→World→Prop)(xs:List Ht)(hC:∀x,C x→x<W0.heap.size)
 (hJ:∀pre A B,J pre A→Below W0.heap.size A B→J pre B)
 (hY:∀pre x A,pre ++ [x]<+:xs→J pre A→Keeps C W0 A→YieldAt (FW p) 0 prog l #[x.val] A fun e B=>Keeps C A B∧((e=.returned (.bool true)∧J (pre ++ [x]) B)∨(e=.returned (.bool false)∧Jx (pre ++ [x]) B))):
 ∀ (fuel k:Nat) (h:Ht) (s:Nat→Int) (pre:List Ht) (W:World),k+fuel=b.nm→FM b C N0 Bb By Bf l W→Keeps C W0 W→J pre W→(pre ++ fJ b fuel k h s)<+:xs→(∀q,q<3→-99 * (k:Int)≤s q∧s q≤99 * ((k:Int)+1))→h.lies<64→
   CallsIn (FW p) 0 prog 102 #[h.val,lV s,int i64 k,.pointer (some ⟨Bb,0,none⟩),.pointer (some ⟨By,0,none⟩),.pointer (some ⟨Bf,0,none⟩)] W fun e W'=>Keeps C W W'∧((e=.returned (.bool true)∧J (pre ++ fJ b fuel k h s) W')∨(e=.returned (.bool false)∧∃q,q<+:fJ b fuel k h s∧Jx (pre ++ q) W')):=by
 have Tu:=hid hC
 have ZE:=hid hJ
 have Ty:=hid hY
 clear hC hJ hY
 intro fuel
 induction fuel with
 | zero=>
   intro k h s pre W hkn hM gr hj hpre hs hl
   have RB:=ok.moves.1
   have CS:∀w,b.At w w.heap.size→CallsIn (FW p) 0 prog 104 #[b.val,int i64 k] w fun e w'=>e=.returned (.agg #[int i64 (jh b k),int i64 (jg b k)])∧Below w.heap.size w w':=fun w hA=>CallsIn.wide (Bz b k w hA zo ok.moves.1 (fun i hi=>by have:=(ok.moves.2 i hi).day;have:=ok.days;omega))
   have QO:∀w,b.At w w.heap.size→CallsIn (FW p) 0 prog 103 #[b.val,lV s,.agg #[int i64 (jh b k),int i64 (jg b k)]] w fun e w'=>e=.returned (.bool (iD b s (jh b k) (jg b k)))∧Below w.heap.size w w':=fun w hA=>CallsIn.wide (Az b s _ _ w hA ok.counts.1 (fun i hi=>by have:=(ok.counts.2 i hi).good;have:=ok.bn.1;omega))
   obtain⟨L1,hL1⟩:∃x,x=jh b k:=⟨_,rfl⟩
   obtain⟨L2,hL2⟩:∃x,x=jg b k:=⟨_,rfl⟩
   obtain⟨R,hR⟩:∃R,R=iD b s (jh b k) (jg b k):=⟨_,rfl⟩
   have hfl:fJ b 0 k h s=if R=true then[h] else[]:=by rw[hR];rfl
   rw[← hL1,← hL2] at CS QO
   rw[← hL1,← hL2] at hR
   rw[← hR] at QO
   rw[hfl] at hpre⊢
   have hbk:b.nm=k:=zo
   clear hfl hL1 hL2 hR hs
   obtain⟨days,most,gA,ng,gc,g,mA,nm,mc,m,cA,nc,cc,c⟩:=b
   simp only at RB hbk
   subst hbk
   have hdk:decide ((nm:Int)=(nm:Int))=true:=decide_eq_true rfl
   have Su:=hid ok
   clear ok hkn
   obtain⟨hf,hmm,lies⟩:=h
   simp only[Bk.val,Bk.cells,lV] at CS QO
   have Zo:=hid CS
   have vj:=hid QO
   have HM:=hid hM
   have Hq:=hid gr
   have i7:=hid hj
   have jz:=hid hpre
   clear CS QO hM gr hj hpre
   simp only[lV,Ht.val,Ht.cells]
   obtain⟨w2,hw2⟩:∃w2,w2=(W.alloc (.cells #[int i64 (hf 0),int i64 (hf 1),int i64 (hf 2),int i64 (hmm 0),int i64 (hmm 1),int i64 (hmm 2),int i64 (hmm 3),int i64 (hmm 4),int i64 (hmm 5),int i64 lies] 88)).alloc (.cells #[int i64 (s 0),int i64 (s 1),int i64 (s 2)] 85):=⟨_,rfl⟩
   have H2:Hid (Whole w2 W.heap.size 88 #[int i64 (hf 0),int i64 (hf 1),int i64 (hf 2),int i64 (hmm 0),int i64 (hmm 1),int i64 (hmm 2),int i64 (hmm 3),int i64 (hmm 4),int i64 (hmm 5),int i64 lies]):=hid (by rw[hw2];exact(Whole.new _ _ _).alloc _)
   have S2:Hid (Whole w2 (W.heap.size+1) 85 #[int i64 (s 0),int i64 (s 1),int i64 (s 2)]):=hid (by
    have:=Whole.new (W.alloc (.cells #[int i64 (hf 0),int i64 (hf 1),int i64 (hf 2),int i64 (hmm 0),int i64 (hmm 1),int i64 (hmm 2),int i64 (hmm 3),int i64 (hmm 4),int i64 (hmm 5),int i64 lies] 88)) 85 #[int i64 (s 0),int i64 (s 1),int i64 (s 2)]
    rw[World.size_alloc] at this;rw[hw2];exact this)
   have B2:Hid (Below W.heap.size W w2):=hid (by rw[hw2];exact bw)
   have M2:=hid (HM.out.keeps (Keeps.bG B2.out))
   have Af:=hid hw2
   clear hw2
   have q0:∀d os,(grow (redrawn w2 d) os).cell? ⟨Bb,0,none⟩=some (int i64 days):=cell_regrown (M2.out.wb.cell 0)
   have q1:∀d os,(grow (redrawn w2 d) os).cell? ⟨Bb,1,none⟩=some (int i64 most):=cell_regrown (M2.out.wb.cell 1)
   have q2:∀d os,(grow (redrawn w2 d) os).cell? ⟨Bb,2,none⟩=some (.slice gA ng gc):=cell_regrown (M2.out.wb.cell 2)
   have q3:∀d os,(grow (redrawn w2 d) os).cell? ⟨Bb,3,none⟩=some (.slice mA nm mc):=cell_regrown (M2.out.wb.cell 3)
   have q4:∀d os,(grow (redrawn w2 d) os).cell? ⟨Bb,4,none⟩=some (.slice cA nc cc):=cell_regrown (M2.out.wb.cell 4)
   have r0:=cell_regrown (S2.out.cell 0)
   have r1:=cell_regrown (S2.out.cell 1)
   have r2:=cell_regrown (S2.out.cell 2)
   have cS:∀d os,CallsIn (FW p) 0 prog 104 #[.agg #[int i64 days,int i64 most,.slice gA ng gc,.slice mA nm mc,.slice cA nc cc],int i64 nm] (grow (redrawn w2 d) os) fun e w''=>e=.returned (.agg #[int i64 L1,int i64 L2])∧∃p:Regrown,w''=grow (redrawn w2 p.d) p.os:=fun d os=>CallsIn.regrown_of (Zo.out _ (((M2.out.at_.more M2.out.n0).below (below_regrown w2 d os)).more (below_regrown w2 d os).size))
   have cR:∀d os,CallsIn (FW p) 0 prog 103 #[.agg #[int i64 days,int i64 most,.slice gA ng gc,.slice mA nm mc,.slice cA nc cc],.agg #[int i64 (s 0),int i64 (s 1),int i64 (s 2)],.agg #[int i64 L1,int i64 L2]] (grow (redrawn w2 d) os) fun e w''=>e=.returned (.bool R)∧∃p:Regrown,w''=grow (redrawn w2 p.d) p.os:=fun d os=>CallsIn.regrown_of (vj.out _ (((M2.out.at_.more M2.out.n0).below (below_regrown w2 d os)).more (below_regrown w2 d os).size))
   gi_enter func102,ntmps102
   gi_wp2
   rw[← Af.out]
   cases R
   ·refine wpIn_region_quiet_below rfl zk zk ?_
    repeat (quiet_step_in (first|exact cS _ _|exact cR _ _))
    refine wpQuietIn_nil ?_
    rintro w' ⟨⟨dq,osq⟩,rfl⟩
    have bg:=below_regrown w2 dq osq
    clear q0 q1 q2 q3 q4 r0 r1 r2 cS cR
    generalize grow (redrawn w2 dq) osq=w3 at bg⊢
    gi_wp2
    go_ret
    have hb:Below W.heap.size W w3:=B2.out.trans (bg.mono B2.out.size)
    exact⟨Keeps.bG hb,.inl ⟨rfl,by simpa using ZE.out _ _ _ i7.out (hb.mono Hq.out.size)⟩⟩
   ·refine wpIn_region_quiet_below rfl zk zk ?_
    repeat (quiet_step_in (first|exact cS _ _|exact cR _ _))
    refine wpQuietIn_nil ?_
    rintro w' ⟨⟨dq,osq⟩,rfl⟩
    have bg:=below_regrown w2 dq osq
    clear q0 q1 q2 q3 q4 r0 r1 r2 cS cR
    generalize grow (redrawn w2 dq) osq=w3 at bg⊢
    have H3:=hid (H2.out.below bg H2.out.lt)
    have hb:Below W.heap.size W w3:=B2.out.trans (bg.mono B2.out.size)
    have M3:=hid (HM.out.keeps (Keeps.bG hb))
    have J3:=ZE.out _ _ _ i7.out (hb.mono Hq.out.size)
    have K3:=Hq.out.trans (Keeps.bG hb)
    have ga:Hid (Keeps C W w3):=hid (Keeps.bG hb)
    obtain⟨fn,tmps,T5,bd,hy,gw⟩:=Ty.out pre ⟨hf,hmm,lies⟩ w3 (by simpa using jz.out) J3 K3
    simp only[Ht.val,Ht.cells] at hy
    have c3:∀i,w3.cell? ⟨Bb,i,none⟩=(#[int i64 days,int i64 most,.slice gA ng gc,.slice mA nm mc,.slice cA nc cc]:Array Value)[i]?:=M3.out.wb.cell
    have y3:w3.cell? ⟨By,0,none⟩=some (.func (.yield l) #[] #[]):=M3.out.wy.cell 0
    have h3:=H3.out.cell
    have vi:=hid gw
    clear bg hb H2 S2 B2 M2 Af jz J3 K3 gw
    gi_wp2
    refine vi.out.mono ?_
    rintro e W5 ⟨hk5,(⟨rfl,az⟩|⟨rfl,hx5⟩)⟩
    ·gi_wp2
     go_ret
     exact⟨ga.out.trans hk5,.inl ⟨rfl,by simpa using az⟩⟩
    ·gi_wp2
     go_ret
     exact⟨ga.out.trans hk5,.inr ⟨rfl,[⟨hf,hmm,lies⟩],zs,hx5⟩⟩
 | succ fuel ih=>
   intro k h s pre W hkn hM gr hj hpre hs hl
   have RB:=ok.moves.1
   have DH:=ok.moves.2 k zo
   have hsz0:=gr.size
   have CS:∀w,b.At w w.heap.size→CallsIn (FW p) 0 prog 104 #[b.val,int i64 k] w fun e w'=>e=.returned (.agg #[int i64 (jh b k),int i64 (jg b k)])∧Below w.heap.size w w':=fun w hA=>CallsIn.wide (Bz b k w hA zo ok.moves.1 (fun i hi=>by have:=(ok.moves.2 i hi).day;have:=ok.days;omega))
   have QO:∀w,b.At w w.heap.size→CallsIn (FW p) 0 prog 103 #[b.val,lV s,.agg #[int i64 (jh b k),int i64 (jg b k)]] w fun e w'=>e=.returned (.bool (iD b s (jh b k) (jg b k)))∧Below w.heap.size w w':=fun w hA=>CallsIn.wide (Az b s _ _ w hA ok.counts.1 (fun i hi=>by have:=(ok.counts.2 i hi).good;have:=ok.bn.1;omega))
   obtain⟨L1,hL1⟩:∃x,x=jh b k:=⟨_,rfl⟩
   obtain⟨L2,hL2⟩:∃x,x=jg b k:=⟨_,rfl⟩
   obtain⟨R,hR⟩:∃R,R=iD b s (jh b k) (jg b k):=⟨_,rfl⟩
   have hfl:fJ b (fuel+1) k h s=if R=true then(bf (b.m k).lo ((b.m k).hi - (b.m k).lo+1).toNat).flatMap fun x=>fJ b fuel (k+1) (bS h k x) (yA b s (bS h k x) k) else[]:=by rw[hR];rfl
   rw[← hL1,← hL2] at CS QO
   rw[← hL1,← hL2] at hR
   rw[← hR] at QO
   rw[hfl] at hpre⊢
   have ZV:∀x w,0≤x→x≤99→b.At w w.heap.size→CallsIn (FW p) 0 prog 79 #[b.val,lV s,(bS h k x).val,int i64 k] w fun e w'=>e=.returned (lV (yA b s (bS h k x) k))∧Below w.heap.size w w':=fun x w hx1 hx2 hA=>CallsIn.wide (Go.Proofs.YthaelabgfnnebaaGreat.W.uT b s (bS h k x) k w hA zo DH ok.bn.1.2 zo hl (fun q hq=>by have:=hs q hq;omega) (by
    unfold Ht.real
    split
    ·omega
    ·simp[bS];omega))
   have hsA:∀x,0≤x→x≤99→∀q,q<3→-99 * ((k+1:Nat):Int)≤yA b s (bS h k x) k q∧yA b s (bS h k x) k q≤99 * (((k+1:Nat):Int)+1):=fun x hx1 hx2 q hq=>by
    have h1:=hs q hq
    have h2:0≤(bS h k x).real k∧(bS h k x).real k≤99:=by
     unfold Ht.real
     split
     ·omega
     ·simp[bS];omega
    unfold yA Yv
    push_cast
    split <;> (try split) <;> omega
   have VA:=jH DH.few
   obtain⟨AF,sC⟩:∃AF,AF=fun x=>yA b s (bS h k x) k:=⟨_,rfl⟩
   obtain⟨FL,sL⟩:∃FL,FL=fun x=>fJ b fuel (k+1) (bS h k x) (AF x):=⟨_,rfl⟩
   have m5:(fun x=>fJ b fuel (k+1) (bS h k x) (yA b s (bS h k x) k))=FL:=by rw[sL,sC]
   rw[m5] at hpre⊢
   have Of:∀x pre W,0≤x→x≤99→FM b C N0 Bb By Bf l W→Keeps C W0 W→J pre W→(pre ++ FL x)<+:xs→CallsIn (FW p) 0 prog 102 #[(bS h k x).val,lV (AF x),int i64 ((k:Int)+1),.pointer (some ⟨Bb,0,none⟩),.pointer (some ⟨By,0,none⟩),.pointer (some ⟨Bf,0,none⟩)] W fun e W'=>Keeps C W W'∧((e=.returned (.bool true)∧J (pre ++ FL x) W')∨(e=.returned (.bool false)∧∃q,q<+:FL x∧Jx (pre ++ q) W')):=fun x pre W h1 h2 hM hK hj hp=>by
    have:=ih (k+1) (bS h k x) (AF x) pre W zo hM hK hj (by rw[sL] at hp;exact hp) (by rw[sC];exact hsA x h1 h2) hl
    rw[sL]
    exact_mod_cast this
   have lj:∀x w,0≤x→x≤99→b.At w w.heap.size→CallsIn (FW p) 0 prog 79 #[b.val,lV s,(bS h k x).val,int i64 k] w fun e w'=>e=.returned (lV (AF x))∧Below w.heap.size w w':=by rw[sC];exact ZV
   have hbk:b.nm=k+(fuel+1):=hkn.symm
   have hM0:=hM
   clear ih ZV hsA hfl m5 sL sC hL1 hL2 hR hs DH
   obtain⟨cnt,hcnt⟩:∃cnt,cnt=((b.m k).hi - (b.m k).lo+1).toNat:=⟨_,rfl⟩
   rw[← hcnt] at hpre⊢
   obtain⟨days,most,gA,ng,gc,g,mA,nm,mc,m,cA,nc,cc,c⟩:=b
   obtain⟨lo,hlo⟩:∃lo,lo=(m k).lo:=⟨_,rfl⟩
   obtain⟨hi,hhi⟩:∃hi,hi=(m k).hi:=⟨_,rfl⟩
   simp only at RB hbk VA hcnt hpre
   rw[← hlo,← hhi] at VA hcnt
   rw[← hlo] at hpre
   simp only
   rw[← hlo]
   have hc3:cnt≤3:=zo
   have HC:Hid ((cnt:Int)=hi - lo+1):=hid zo
   have HF:=hid VA
   clear hcnt VA
   have HKN:=hid hbk
   have Su:=hid ok
   clear hkn ok
   have hdk:decide ((k:Int)=(nm:Int))=false:=decide_eq_false zo
   have WN:((k:Int) == (nm:Int))=false:=zm
   obtain⟨ad,hA',-,-⟩:=hM.at_.m (show 0<nm by omega)
   have hkl:k<nm:=zo
   clear hbk hsz0
   simp only at hA'
   subst hA'
   have row:∀w',Keeps C W w'→w'.cell? ⟨(ad.add (k * 5)).block,(ad.add (k * 5)).off+3,none⟩=some (int i64 lo)∧w'.cell? ⟨(ad.add (k * 5)).block,(ad.add (k * 5)).off+3+1,none⟩=some (int i64 hi):=fun w' hk=>by
    have hr:=(hM.keeps hk).at_.m.row hkl
    rw[hlo,hhi]
    exact⟨hr.2 3 zD,hr.2 4 zD⟩
   have Row:=hid row
   clear row hlo hhi
   obtain⟨hf,hmm,lies⟩:=h
   simp only[Bk.val,Bk.cells,lV] at CS QO
   have Zo:=hid CS
   have vj:=hid QO
   have tM:=hid lj
   have R0:=hid Of
   have HM:=hid hM
   clear CS QO lj Of hM0 hM
   have Hq:=hid gr
   have i7:=hid hj
   have jz:=hid hpre
   clear gr hj hpre
   simp only[lV,Ht.val,Ht.cells]
   obtain⟨w2,hw2⟩:∃w2,w2=(W.alloc (.cells #[int i64 (hf 0),int i64 (hf 1),int i64 (hf 2),int i64 (hmm 0),int i64 (hmm 1),int i64 (hmm 2),int i64 (hmm 3),int i64 (hmm 4),int i64 (hmm 5),int i64 lies] 88)).alloc (.cells #[int i64 (s 0),int i64 (s 1),int i64 (s 2)] 85):=⟨_,rfl⟩
   have H2:Hid (Whole w2 W.heap.size 88 #[int i64 (hf 0),int i64 (hf 1),int i64 (hf 2),int i64 (hmm 0),int i64 (hmm 1),int i64 (hmm 2),int i64 (hmm 3),int i64 (hmm 4),int i64 (hmm 5),int i64 lies]):=hid (by rw[hw2];exact(Whole.new _ _ _).alloc _)
   have S2:Hid (Whole w2 (W.heap.size+1) 85 #[int i64 (s 0),int i64 (s 1),int i64 (s 2)]):=hid (by
    have:=Whole.new (W.alloc (.cells #[int i64 (hf 0),int i64 (hf 1),int i64 (hf 2),int i64 (hmm 0),int i64 (hmm 1),int i64 (hmm 2),int i64 (hmm 3),int i64 (hmm 4),int i64 (hmm 5),int i64 lies] 88)) 85 #[int i64 (s 0),int i64 (s 1),int i64 (s 2)]
    rw[World.size_alloc] at this;rw[hw2];exact this)
   have B2:Hid (Below W.heap.size W w2):=hid (by rw[hw2];exact bw)
   have M2:=hid (HM.out.keeps (Keeps.bG B2.out))
   have Af:=hid hw2
   clear hw2
   have q0:∀d os,(grow (redrawn w2 d) os).cell? ⟨Bb,0,none⟩=some (int i64 days):=cell_regrown (M2.out.wb.cell 0)
   have q1:∀d os,(grow (redrawn w2 d) os).cell? ⟨Bb,1,none⟩=some (int i64 most):=cell_regrown (M2.out.wb.cell 1)
   have q2:∀d os,(grow (redrawn w2 d) os).cell? ⟨Bb,2,none⟩=some (.slice gA ng gc):=cell_regrown (M2.out.wb.cell 2)
   have q3:∀d os,(grow (redrawn w2 d) os).cell? ⟨Bb,3,none⟩=some (.slice (some ad) nm mc):=cell_regrown (M2.out.wb.cell 3)
   have q4:∀d os,(grow (redrawn w2 d) os).cell? ⟨Bb,4,none⟩=some (.slice cA nc cc):=cell_regrown (M2.out.wb.cell 4)
   have r0:=cell_regrown (S2.out.cell 0)
   have r1:=cell_regrown (S2.out.cell 1)
   have r2:=cell_regrown (S2.out.cell 2)
   have cS:∀d os,CallsIn (FW p) 0 prog 104 #[.agg #[int i64 days,int i64 most,.slice gA ng gc,.slice (some ad) nm mc,.slice cA nc cc],int i64 k] (grow (redrawn w2 d) os) fun e w''=>e=.returned (.agg #[int i64 L1,int i64 L2])∧∃p:Regrown,w''=grow (redrawn w2 p.d) p.os:=fun d os=>CallsIn.regrown_of (Zo.out _ (((M2.out.at_.more M2.out.n0).below (below_regrown w2 d os)).more (below_regrown w2 d os).size))
   have cR:∀d os,CallsIn (FW p) 0 prog 103 #[.agg #[int i64 days,int i64 most,.slice gA ng gc,.slice (some ad) nm mc,.slice cA nc cc],.agg #[int i64 (s 0),int i64 (s 1),int i64 (s 2)],.agg #[int i64 L1,int i64 L2]] (grow (redrawn w2 d) os) fun e w''=>e=.returned (.bool R)∧∃p:Regrown,w''=grow (redrawn w2 p.d) p.os:=fun d os=>CallsIn.regrown_of (vj.out _ (((M2.out.at_.more M2.out.n0).below (below_regrown w2 d os)).more (below_regrown w2 d os).size))
   gi_enter func102,ntmps102
   gi_wp2
   rw[← Af.out]
   cases R
   ·refine wpIn_region_quiet_below rfl zk zk ?_
    repeat (quiet_step_in (first|exact cS _ _|exact cR _ _))
    refine wpQuietIn_nil ?_
    rintro w' ⟨⟨dq,osq⟩,rfl⟩
    have bg:=below_regrown w2 dq osq
    clear q0 q1 q2 q3 q4 r0 r1 r2 cS cR
    generalize grow (redrawn w2 dq) osq=w3 at bg⊢
    gi_wp2
    go_ret
    have hb:Below W.heap.size W w3:=B2.out.trans (bg.mono B2.out.size)
    exact⟨Keeps.bG hb,.inl ⟨rfl,by simpa using ZE.out _ _ _ i7.out (hb.mono Hq.out.size)⟩⟩
   ·refine wpIn_region_quiet_below rfl zk zk ?_
    repeat (quiet_step_in (first|exact cS _ _|exact cR _ _))
    refine wpQuietIn_nil ?_
    rintro w' ⟨⟨dq,osq⟩,rfl⟩
    have bg:=below_regrown w2 dq osq
    clear q0 q1 q2 q3 q4 r0 r1 r2 cS cR
    generalize grow (redrawn w2 dq) osq=w3 at bg⊢
    have H3:=hid (H2.out.below bg H2.out.lt)
    have S3:=hid (S2.out.below bg S2.out.lt)
    have hb:Below W.heap.size W w3:=B2.out.trans (bg.mono B2.out.size)
    have M3:=hid (HM.out.keeps (Keeps.bG hb))
    have J3:=hid (ZE.out _ _ _ i7.out (hb.mono Hq.out.size))
    have K3:=hid (Hq.out.trans (Keeps.bG hb))
    have ga:Hid (Keeps C W w3):=hid (Keeps.bG hb)
    have hs3:=S3.out.lt
    have c3:∀i,w3.cell? ⟨Bb,i,none⟩=(#[int i64 days,int i64 most,.slice gA ng gc,.slice (some ad) nm mc,.slice cA nc cc]:Array Value)[i]?:=M3.out.wb.cell
    obtain⟨r3,r4⟩:=Row.out w3 ga.out
    have uC:Hid (pre ++ (bf lo cnt).flatMap FL<+:xs):=hid (by simpa using jz.out)
    clear bg hb H2 S2 B2 M2 Af jz
    gi_wp2
    have oa:∀x,W.heap.size≤x→¬ C x:=fun x hx hc=>by have:=Tu.out x hc;have:=Hq.out.size;omega
    have rK:=hid oa
    obtain⟨w4,hw4⟩:∃w4,w4=w3.alloc (.cells #[int i64 lo,int i64 hi] 38):=⟨_,rfl⟩
    have P4:Hid (Whole w4 w3.heap.size 38 #[int i64 lo,int i64 hi]):=hid (by rw[hw4];exact Whole.new _ _ _)
    have H4:Hid (Whole w4 W.heap.size 88 (⟨hf,hmm,lies⟩:Ht).cells):=hid (by rw[hw4];exact H3.out.alloc _)
    have S4:Hid (Whole w4 (W.heap.size+1) 85 #[int i64 (s 0),int i64 (s 1),int i64 (s 2)]):=hid (by rw[hw4];exact S3.out.alloc _)
    have TO:Hid (Keeps C W w4):=hid (by rw[hw4];exact ga.out.trans (Keeps.bG ((Below.refl _ _).alloc (Nat.le_refl _) _)))
    have J4:Hid (J pre w4):=hid (by rw[hw4];exact ZE.out _ _ _ J3.out ((Below.refl _ _).alloc K3.out.size _))
    have hs4:w3.heap.size<w4.heap.size:=P4.out.lt
    rw[← hw4]
    have hWs:W.heap.size+1<w3.heap.size:=hs3
    clear hw4 H3 S3 ga J3 K3 M3 c3 r3 r4 oa
    gi_loopw [11] (fun n wr=>∃i:Nat,i≤cnt∧n=int i64 (lo+i)∧∃hm:Nat→Int,Hid (Keeps (fun x=>C x∨x=W.heap.size) w4 wr∧Whole wr W.heap.size 88 (⟨hf,hm,lies⟩:Ht).cells∧(∀x,bS ⟨hf,hm,lies⟩ k x=bS ⟨hf,hmm,lies⟩ k x)∧J (pre ++ (bf lo i).flatMap FL) wr)) (fun n _=>(hi+1 - intOf n).toNat)
    case atStart=>exact⟨0,Nat.zero_le _,zs,hmm,hid ⟨Keeps.refl _ _,H4.out,fun _=>rfl,by simpa [bf] using J4.out⟩⟩
    case round=>
     obtain⟨i,hii,rfl,hm,hT⟩:=hrel
     clear J4 H4
     have hKr:Keeps C W wr:=TO.out.then hT.out.1 fun x hx h=>h.elim id fun h=>zo
     have Hd:=hid hKr
     have Mr:=hid (HM.out.keeps hKr)
     have Sr:=hid (S4.out.keeps hT.out.1 (fun h=>h.elim (rK.out _ zo) (fun h=>zo)))
     have Pr:=hid (P4.out.keeps hT.out.1 (fun h=>h.elim (rK.out _ zo) (fun h=>zo)))
     have g1:wr.cell? ⟨w3.heap.size,1,none⟩=some (int i64 hi):=Pr.out.cell 1
     have hst:=hT.out.1.size
     clear hKr
     by_cases hic:i<cnt
     ·have hd:decide (lo+(i:Int)≤hi)=true:=decide_eq_true (by have:=HC.out;omega)
      have hk0:(0:Int)≤(k:Int):=zo
      have RA:(k:Int)<6:=zo
      have x0:wr.cell? ⟨W.heap.size,3+k,none⟩=some (int i64 (hm k)):=(hT.out.2.1.cell _).trans (QU zo)
      have xf:=hT.out.2.1.thaw
      have hWr:=hT.out.2.1.lt
      have hn0:0≤lo+(i:Int)∧lo+(i:Int)≤99:=by have:=HC.out;have:=HF.out;omega
      have Hj:=hid hn0
      have hnw:wrap64 (lo+(i:Int)+1)=lo+(i:Int)+1:=IntWalk.wrap64_in _ zo
      have jb:=hid hnw
      clear hn0
      obtain⟨nv,bp⟩:∃nv,nv=lo+(i:Int):=⟨_,rfl⟩
      have KJ:=hid bp
      rw[← bp] at hd Hj hnw⊢
      clear bp
      gi_wp2
      obtain⟨hx,hhx⟩:∃hx,hx=bS ⟨hf,hmm,lies⟩ k nv:=⟨_,rfl⟩
      obtain⟨sx,hsx⟩:∃sx,sx=AF nv:=⟨_,rfl⟩
      have hx2:hx=(⟨hf,fun i=>if i=k then nv else hm i,lies⟩:Ht):=by rw[hhx,← hT.out.2.2.1 nv];rfl
      obtain⟨w7,hw7⟩:∃w7,w7=wr.setCell ⟨W.heap.size,3+k,none⟩ (int i64 nv):=⟨_,rfl⟩
      have W7:Hid (Whole w7 W.heap.size 88 #[int i64 (hx.f 0),int i64 (hx.f 1),int i64 (hx.f 2),int i64 (hx.m 0),int i64 (hx.m 1),int i64 (hx.m 2),int i64 (hx.m 3),int i64 (hx.m 4),int i64 (hx.m 5),int i64 hx.lies]):=hid (by
       have:=hT.out.2.1.set (3+k) (int i64 nv)
       rw[MP zo,← hx2,← hw7] at this
       exact this)
      have K7:Hid (Keeps (fun x=>C x∨x=W.heap.size) wr w7):=hid (by rw[hw7];exact(Keeps.refl _ _).set (p:=⟨W.heap.size,3+k,none⟩) (.inr rfl) _)
      have xa:Hid (Keeps C W w7):=hid (Hd.out.then K7.out fun x hx h=>h.elim id fun h=>zo)
      have M7:=hid (HM.out.keeps xa.out)
      have S7:=hid (Sr.out.keeps K7.out (fun h=>h.elim (rK.out _ zo) (fun h=>zo)))
      have J7:Hid (J (pre ++ (bf lo i).flatMap FL) w7):=hid (by rw[hw7];exact ZE.out _ _ _ hT.out.2.2.2 ((Below.refl _ _).setCell (p:=⟨W.heap.size,3+k,none⟩) (by have:=Hq.out.size;exact this) _))
      have S':=hid hx2
      have Qm:=Hj.out
      have ZV:=fun w=>tM.out nv w Qm.1 Qm.2
      have sr:=fun pre W=>R0.out nv pre W Qm.1 Qm.2
      rw[← hhx,← hsx] at ZV sr
      simp only[Bk.val,Bk.cells,Ht.val,Ht.cells,lV] at ZV sr
      have Tl:=hid sr
      have Ly:∀d os,CallsIn (FW p) 0 prog 79 #[.agg #[int i64 days,int i64 most,.slice gA ng gc,.slice (some ad) nm mc,.slice cA nc cc],.agg #[int i64 (s 0),int i64 (s 1),int i64 (s 2)],.agg #[int i64 (hx.f 0),int i64 (hx.f 1),int i64 (hx.f 2),int i64 (hx.m 0),int i64 (hx.m 1),int i64 (hx.m 2),int i64 (hx.m 3),int i64 (hx.m 4),int i64 (hx.m 5),int i64 hx.lies],int i64 k] (grow (redrawn w7 d) os) fun e w''=>e=.returned (.agg #[int i64 (sx 0),int i64 (sx 1),int i64 (sx 2)])∧∃p:Regrown,w''=grow (redrawn w7 p.d) p.os:=fun d os=>CallsIn.regrown_of (ZV _ (((M7.out.at_.more M7.out.n0).below (below_regrown w7 d os)).more (below_regrown w7 d os).size))
      have ek:IntKind.i64.wrap ((k:Int)+1)=(k:Int)+1:=IntWalk.i64_in _ zo
      rw[← hw7]
      clear hw7 hx2 Qm ZV sr hhx hsx x0 xf g1 hnw
      have q0:∀d os,(grow (redrawn w7 d) os).cell? ⟨Bb,0,none⟩=some (int i64 days):=cell_regrown (M7.out.wb.cell 0)
      have q1:∀d os,(grow (redrawn w7 d) os).cell? ⟨Bb,1,none⟩=some (int i64 most):=cell_regrown (M7.out.wb.cell 1)
      have q2:∀d os,(grow (redrawn w7 d) os).cell? ⟨Bb,2,none⟩=some (.slice gA ng gc):=cell_regrown (M7.out.wb.cell 2)
      have q3:∀d os,(grow (redrawn w7 d) os).cell? ⟨Bb,3,none⟩=some (.slice (some ad) nm mc):=cell_regrown (M7.out.wb.cell 3)
      have q4:∀d os,(grow (redrawn w7 d) os).cell? ⟨Bb,4,none⟩=some (.slice cA nc cc):=cell_regrown (M7.out.wb.cell 4)
      have q5:∀d os,(grow (redrawn w7 d) os).cell? ⟨Bf,0,none⟩=some (.func (.func 102) #[] #[.pointer (some ⟨Bb,0,none⟩),.pointer (some ⟨By,0,none⟩),.pointer (some ⟨Bf,0,none⟩)]):=cell_regrown (M7.out.wf.cell 0)
      have r0:=cell_regrown (S7.out.cell 0)
      have r1:=cell_regrown (S7.out.cell 1)
      have r2:=cell_regrown (S7.out.cell 2)
      have y0:=cell_regrown (W7.out.cell 0)
      have y1:=cell_regrown (W7.out.cell 1)
      have y2:=cell_regrown (W7.out.cell 2)
      have y3:=cell_regrown (W7.out.cell 3)
      have y4:=cell_regrown (W7.out.cell 4)
      have y5:=cell_regrown (W7.out.cell 5)
      have y6:=cell_regrown (W7.out.cell 6)
      have y7:=cell_regrown (W7.out.cell 7)
      have y8:=cell_regrown (W7.out.cell 8)
      have y9:=cell_regrown (W7.out.cell 9)
      refine aJ 9 rfl zk zk ?_
      simp only[List.take_succ_cons,List.take_zero,List.drop_succ_cons,List.drop_zero]
      repeat (quiet_step_in (exact Ly _ _))
      refine wpQuietIn_nil ?_
      rintro w' ⟨⟨dq,osq⟩,rfl⟩
      have bg:=below_regrown w7 dq osq
      clear q0 q1 q2 q3 q4 q5 r0 r1 r2 y0 y1 y2 y3 y4 y5 y6 y7 y8 y9 Ly ek
      generalize grow (redrawn w7 dq) osq=w9 at bg⊢
      have K9:Hid (Keeps (fun x=>C x∨x=W.heap.size) wr w9):=hid (K7.out.trans (Keeps.bG bg))
      have xb:Hid (Keeps C W w9):=hid (xa.out.trans (Keeps.bG bg))
      have M9:=hid (HM.out.keeps xb.out)
      have W9:=hid (W7.out.below bg W7.out.lt)
      have J9:=hid (ZE.out _ _ _ J7.out (bg.mono (Nat.le_trans Hq.out.size xa.out.size)))
      obtain⟨rest,hrest⟩:∃rest,rest=((bf lo cnt).drop (i+1)).flatMap FL:=⟨_,rfl⟩
      have e:(bf lo cnt).flatMap FL=(bf lo i).flatMap FL ++ (FL nv ++ rest):=by
       rw[hrest]
       have h1:bf lo cnt=bf lo i ++ nv :: (bf lo cnt).drop (i+1):=by
        have h2:(bf lo cnt).take i=bf lo i:=by
         unfold bf
         rw[← List.map_take,List.take_range,Nat.min_eq_left zo]
        have h3:(bf lo cnt)[i]'(by simp[bf];exact hic)=nv:=by rw[KJ.out];simp[bf]
        have h4:=List.take_append_drop i (bf lo cnt)
        rw[h2,List.drop_eq_getElem_cons (by simp[bf];exact hic),h3] at h4
        exact h4.symm
       rw[h1,List.flatMap_append,List.flatMap_cons]
       congr 2
       rw[← h1]
      have HE:=hid e
      have hpx:(pre ++ (bf lo i).flatMap FL) ++ FL nv<+:xs:=by
       have h:=uC.out
       rw[e] at h
       exact List.IsPrefix.trans ⟨rest,zs⟩ h
      have Yh:=hid hpx
      clear bg hpx e hrest
      gi_wp2_with (gi_at_call 102;refine(Tl.out (pre ++ (bf lo i).flatMap FL) w9 M9.out (Hq.out.trans xb.out) J9.out Yh.out).mono ?_;rintro e W5 ⟨hk5,(⟨rfl,az⟩|⟨rfl,q,hq,hx5⟩)⟩)
      ·refine⟨⟨i+1,zo,by rw[KJ.out,jb.out];congr 1;push_cast;omega,fun i=>if i=k then nv else hm i,hid ⟨hT.out.1.trans (K9.out.trans (hk5.more fun b _ h=>.inl h)),?_,fun x=>?_,?_⟩⟩,?_⟩
       ·have:=W9.out.keeps hk5 (rK.out _ (Nat.le_refl _))
        rw[← S'.out]
        exact this
       ·rw[← hT.out.2.2.1 x]
        unfold bS
        simp only
        congr 1
        funext y
        split <;> rfl
       ·rw[mJ,List.flatMap_append,← List.append_assoc,← KJ.out]
        simpa using az
       ·have h1:=jb.out
        have h2:=KJ.out
        have h3:=HC.out
        rw[h2,h1]
        simp only[intOf]
        omega
      ·go_ret
       refine⟨xb.out.trans hk5,.inr ⟨rfl,(bf lo i).flatMap FL ++ q,?_,by rw[← List.append_assoc];exact hx5⟩⟩
       rw[HE.out]
       obtain⟨r,hr⟩:=hq
       exact⟨r ++ rest,by rw[← hr];simp⟩
     ·obtain rfl:i=cnt:=zo
      have hd:decide (lo+(i:Int)≤hi)=false:=decide_eq_false (by have:=HC.out;omega)
      gi_wp2
      go_ret
      exact⟨Hd.out,.inl ⟨rfl,hT.out.2.2.2⟩⟩
end
end Go.Proofs.YthaelabgfnnebaaGreat
