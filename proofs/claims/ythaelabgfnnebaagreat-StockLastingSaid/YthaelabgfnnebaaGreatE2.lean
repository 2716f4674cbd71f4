/- HZ HV2 EN Reg3 HR -/
import Derived.Test.YthaelabgfnnebaaGreatE1
import Derived.Maps.Own
import Derived.DeepKeys4
set_option maxRecDepth 100000
set_option maxHeartbeats 16000000
set_option linter.unusedVariables false
set_option linter.unusedSectionVars false
open Go.IntKind(i64)
open Go.Lib(hid)
open Go.Proofs.Tryz
open Go.Value(int)
namespace Go.Proofs.YthaelabgfnnebaaGreat
section
open Go.RowKit Go.Maps
open Go.Sort (grow)
attribute [local go_sem] Oper.semAt_some
theorem JV(b:Bk)(gd k:Nat)(w:World)(h:b.At w w.heap.size)(ok:b.Ok)(hcap:b.ng≤b.gc)(hl:∀s∈ak b,cO s)(hlen:(aC b (ak b)).length<2 ^ 40)(hgd:gd<b.ng)(hk:(k:Int)≤b.days)
 (hsz:0<Maps.size (mapD (fun h=>stk b h k b.nm gd) (aC b (ak b))))(hwf:∀h∈aC b (ak b),(Lit.int .i64 (stk b h k b.nm gd)).wf=true):CallsIn FF 0 prog 10 #[b.val,int i64 gd,int i64 k] w fun e w'=>∃ (vv:Value) (ss:List Int),e=.returned (.tuple #[vv,int i64 0])∧ss.Perm (intKeys (mapD (fun h=>stk b h k b.nm gd) (aC b (ak b))))∧w'.ownsRow w.heap.size 3 1 vv ss.length ((ss.mergeSort (fun x y=>decide (x≤y))).map encZ)∧Below w.heap.size w w':=by
 have hx:=iG b ok (ak b) hl
 have HO:=hid fun w h=>mg b gd w h ok hcap hgd
 have HH:=hid fun A p w hc=>qJ b ok hl A p w hc
 have hg3:gd<3:=by have:=ok.bJ.1.2;omega
 have HN:=hid fun(w:World)=>show CallsIn FF 0 prog 38 #[b.val,int i64 k] w fun e w'=>e=.returned (.bool true)∧Below w.heap.size w w' from by
  have:=wu b k w
  have e:fV (k:Int) 0 b.days=true:=by unfold fV;simp;omega
  rwa[e] at this
 have HK:=hid fun lb A n p Bc Bd Bg w h hA hc hd hg=>Bh 76 lb 41 #[.pointer (some ⟨Bc,0,none⟩),.pointer (some ⟨Bd,0,none⟩),.pointer (some ⟨Bg,0,none⟩)] (fun h=>stk b h k b.nm gd) (aC b (ak b)) w hlen hsz hwf h (VH b ok A n p k gd hg3 _ hx Bc Bd Bg w hA hc hd hg)
 have HA:=hid h
 have HC:=hid fun A w (h:nQ b A w)=>h.at_
 obtain⟨n,hn⟩:∃n,n=(ak b).length:=⟨_,rfl⟩
 obtain⟨KS,lk⟩:∃KS,KS=intKeys (mapD (fun h=>stk b h k b.nm gd) (aC b (ak b))):=⟨_,rfl⟩
 rw[← lk] at HK⊢
 obtain⟨xs,hxs⟩:∃xs,xs=aC b (ak b):=⟨_,rfl⟩
 rw[← hn] at HO HH
 rw[← hxs] at HH HK
 clear hn hxs h hcap hl ok hgd hx hk hsz hwf hlen lk
 obtain⟨days,most,gA,ng,gc,g,mA,nm,mc,m,cA,nc,cc,c⟩:=b
 simp only[Bk.val,Bk.cells,aA] at HO HH HK HN⊢
 obtain⟨w1,hw1⟩:∃w1,w1=((w.alloc (.cells #[int i64 days,int i64 most,.slice gA ng gc,.slice mA nm mc,.slice cA nc cc] 26)).alloc (.cells #[int i64 gd] 3)).alloc (.cells #[int i64 k] 3):=⟨_,rfl⟩
 have B1:Hid (Below w.heap.size w w1):=hid (by rw[hw1];exact bw)
 have G1:Hid (Whole w1 (w.heap.size+1) 3 #[int i64 gd]):=hid (by rw[hw1];exact(aM zs).alloc _)
 have K1:Hid (Whole w1 (w.heap.size+1+1) 3 #[int i64 k]):=hid (by rw[hw1];exact aM zs)
 have lV:=hid hw1
 clear hw1
 gi_enter func10,ntmps10
 gi_wp2_with (first
  | (gi_at_call 37;rw[← lV.out];refine(HO.out _ (HA.out.up B1.out)).mono ?_;rintro e w2 ⟨A,p,rfl,hc2,hb2⟩;have K2:=(K1.out.below hb2 K1.out.lt).alloc (.cells #[int i64 days,int i64 most,.slice gA ng gc,.slice mA nm mc,.slice cA nc cc,.slice A n p] 76);have k2:(w2.alloc (.cells #[int i64 days,int i64 most,.slice gA ng gc,.slice mA nm mc,.slice cA nc cc,.slice A n p] 76)).cell? ⟨w.heap.size+1+1,0,none⟩=some (int i64 k):=K2.cell 0;have G2:=(G1.out.below hb2 G1.out.lt).alloc (.cells #[int i64 days,int i64 most,.slice gA ng gc,.slice mA nm mc,.slice cA nc cc,.slice A n p] 76))
  | (gi_at_call 38;refine(HN.out _).mono ?_;rintro e w3 ⟨rfl,hb3⟩;have X3:Whole w3 w2.heap.size 76 #[int i64 days,int i64 most,.slice gA ng gc,.slice mA nm mc,.slice cA nc cc,.slice A n p]:=(Whole.new w2 _ _).below hb3 zs;have x0:w3.cell? ⟨w2.heap.size,0,none⟩=some (int i64 days):=X3.cell 0;have x1:w3.cell? ⟨w2.heap.size,1,none⟩=some (int i64 most):=X3.cell 1;have x2:w3.cell? ⟨w2.heap.size,2,none⟩=some (.slice gA ng gc):=X3.cell 2;have x3:w3.cell? ⟨w2.heap.size,3,none⟩=some (.slice mA nm mc):=X3.cell 3;have x4:w3.cell? ⟨w2.heap.size,4,none⟩=some (.slice cA nc cc):=X3.cell 4;have x5:w3.cell? ⟨w2.heap.size,5,none⟩=some (.slice A n p):=X3.cell 5;have K3:=K2.below hb3 K2.lt;have G3:=G2.below hb3 G2.lt)
  | (gi_at_call 40;refine(HH.out A p _ ((hc2.below (bw)).below hb3)).mono ?_;rintro e w4 ⟨lb,rfl,hs4,hb4⟩)
  | (gi_at_call 39;refine(HK.out lb A n p _ _ _ _ hs4 (((HC.out A _ (hc2.below (bw))).up hb3).up hb4) (X3.below hb4 X3.lt) (K3.below hb4 K3.lt) (G3.below hb4 G3.lt)).mono ?_;rintro e w5 ⟨vv,ss,rfl,hss,hv,hb5⟩))
 go_ret2
 have Jc:=Below.next (Below.next (Below.al (Below.next B1.out hb2) (.cells #[int i64 days,int i64 most,.slice gA ng gc,.slice mA nm mc,.slice cA nc cc,.slice A n p] 76)) hb3) hb4
 exact⟨vv,ss,rfl,hss,dV hv Jc.size,Below.next Jc hb5⟩
theorem yQ(b:Bk)(k:Nat)(w:World)(h:b.At w w.heap.size)(ok:b.Ok)(hcap:b.ng≤b.gc)(hl:∀s∈ak b,cO s)(hlen:(aC b (ak b)).length<2 ^ 40)(hk:k<b.nm)
 (hsz:0<Maps.size (mapD (fun h=>h.real k) (aC b (ak b))))(hwf:∀h∈aC b (ak b),(Lit.int .i64 (h.real k)).wf=true):CallsIn FF 0 prog 26 #[b.val,int i64 k] w fun e w'=>∃ (vv:Value) (ss:List Int),e=.returned (.tuple #[vv,int i64 0])∧ss.Perm (intKeys (mapD (fun h=>h.real k) (aC b (ak b))))∧w'.ownsRow w.heap.size 3 1 vv ss.length ((ss.mergeSort (fun x y=>decide (x≤y))).map encZ)∧Below w.heap.size w w':=by
 have hx:=iG b ok (ak b) hl
 have HO:=hid fun w h=>JB b k w h ok hcap hk
 have HH:=hid fun A p w hc=>qJ b ok hl A p w hc
 have Rb:k<6:=by have:=ok.moves.1;omega
 have HK:=hid fun lb B w h hB=>Bh 76 lb 56 #[.pointer (some ⟨B,0,none⟩)] (fun h=>h.real k) (aC b (ak b)) w hlen hsz hwf h (Jw k Rb _ hx B w hB)
 have HA:=hid h
 obtain⟨n,hn⟩:∃n,n=(ak b).length:=⟨_,rfl⟩
 obtain⟨KS,lk⟩:∃KS,KS=intKeys (mapD (fun h=>h.real k) (aC b (ak b))):=⟨_,rfl⟩
 rw[← lk] at HK⊢
 obtain⟨xs,hxs⟩:∃xs,xs=aC b (ak b):=⟨_,rfl⟩
 rw[← hn] at HO HH
 rw[← hxs] at HH HK
 clear hn hxs h hcap hl ok hx hk hsz hwf hlen lk
 obtain⟨days,most,gA,ng,gc,g,mA,nm,mc,m,cA,nc,cc,c⟩:=b
 simp only[Bk.val,Bk.cells,aA] at HO HH⊢
 obtain⟨w1,hw1⟩:∃w1,w1=(w.alloc (.cells #[int i64 days,int i64 most,.slice gA ng gc,.slice mA nm mc,.slice cA nc cc] 26)).alloc (.cells #[int i64 k] 3):=⟨_,rfl⟩
 have B1:Hid (Below w.heap.size w w1):=hid (by rw[hw1];exact bw)
 have K1:Hid (Whole w1 (w.heap.size+1) 3 #[int i64 k]):=hid (by rw[hw1];exact aM zs)
 have lV:=hid hw1
 clear hw1
 gi_enter func26,ntmps26
 gi_wp2_with (first
  | (gi_at_call 55;rw[← lV.out];refine(HO.out _ (HA.out.up B1.out)).mono ?_;rintro e w2 ⟨A,p,rfl,hc2,hb2⟩;have K2:=(K1.out.below hb2 K1.out.lt).alloc (.cells #[int i64 days,int i64 most,.slice gA ng gc,.slice mA nm mc,.slice cA nc cc,.slice A n p] 76))
  | (gi_at_call 40;refine(HH.out A p _ (hc2.below (bw))).mono ?_;rintro e w4 ⟨lb,rfl,hs4,hb4⟩)
  | (gi_at_call 39;refine(HK.out lb _ _ hs4 (K2.below hb4 K2.lt)).mono ?_;rintro e w5 ⟨vv,ss,rfl,hss,hv,hb5⟩))
 go_ret2
 have Jc:=Below.next (Below.al (Below.next B1.out hb2) (.cells #[int i64 days,int i64 most,.slice gA ng gc,.slice mA nm mc,.slice cA nc cc,.slice A n p] 76)) hb4
 exact⟨vv,ss,rfl,hss,dV hv Jc.size,Below.next Jc hb5⟩
end
section
open Go.RowKit Go.Maps
theorem TD(G M C:Nat):intKeys (mapD (fun h=>stk (Tb 1 G M C) h 10 4 0) (aC (Tb 1 G M C) (ak (Tb 1 G M C))))=[4,5]:=zk
theorem Xx(G M C:Nat):intKeys (mapD (fun h=>h.real 3) (aC (Tb 1 G M C) (ak (Tb 1 G M C))))=[0]:=zk
theorem TF(G M C:Nat):0<Maps.size (mapD (fun h=>stk (Tb 1 G M C) h 10 4 0) (aC (Tb 1 G M C) (ak (Tb 1 G M C)))):=of_decide_eq_true zk
theorem Xy(G M C:Nat):0<Maps.size (mapD (fun h=>h.real 3) (aC (Tb 1 G M C) (ak (Tb 1 G M C)))):=of_decide_eq_true zk
theorem TG(G M C:Nat):((aC (Tb 1 G M C) (ak (Tb 1 G M C))).all fun h=>(Lit.int .i64 (stk (Tb 1 G M C) h 10 4 0)).wf)=true:=zk
theorem Xz(G M C:Nat):((aC (Tb 1 G M C) (ak (Tb 1 G M C))).all fun h=>(Lit.int .i64 (h.real 3)).wf)=true:=zk
theorem cN{ss:List Int}(h:ss.Perm [4,5]):(ss.mergeSort fun x y=>decide (x≤y))=[4,5]:=by
 have h1:(ss.mergeSort fun x y=>decide (x≤y)).Perm [4,5]:=(List.mergeSort_perm _ _).trans h
 have h2:(ss.mergeSort fun x y=>decide (x≤y)).Pairwise fun x y=>decide (x≤y)=true:=List.pairwise_mergeSort (fun a b c=>by simp only[decide_eq_true_eq];omega) (fun a b=>by simp only[Bool.or_eq_true,decide_eq_true_eq];omega) ss
 have h3:([4,5]:List Int).Pairwise fun x y=>decide (x≤y)=true:=zD
 exact h1.eq_of_pairwise (fun a b _ _ h1 h2=>by simp only[decide_eq_true_eq] at h1 h2;omega) h2 h3
theorem pg{ss:List Int}(h:ss.Perm [0]):(ss.mergeSort fun x y=>decide (x≤y))=[0]:=List.perm_singleton.1 ((List.mergeSort_perm _ _).trans h)
end
section
open Go Go.RowKit Go.Maps Go.MapKept Go.ChangeMaps
theorem kK(es:Array MapEntry)(hn:(es.toList.map (·.born)).Nodup){j:Nat}{e0:MapEntry}(hj:es[j]? =some e0):es.findIdx? (fun e=>(e.born:Int) == (e0.born:Int))=some j:=by
 have hl:j<es.size:=(Array.getElem?_eq_some_iff.1 hj).1
 have he:es[j]=e0:=(Array.getElem?_eq_some_iff.1 hj).2
 rw[Array.findIdx?_eq_some_iff_getElem]
 refine⟨hl,by rw[he];simp,fun i hi=>?_⟩
 have hne:es[i].born≠e0.born:=fun e=>by
  have hi':i<es.size:=Nat.lt_trans hi hl
  have h1:=List.pairwise_iff_getElem.1 hn i j (by simpa using hi') (by simpa using hl) hi
  apply h1
  simp[e,he]
 simp only[Bool.not_eq_true,beq_eq_false_iff_ne,ne_eq]
 intro e
 exact hne (by exact_mod_cast e)
theorem FT(es:Array MapEntry)(x:MapEntry)(f:MapEntry→MapEntry):(es.push x).modify es.size f=es.push (f x):=by
 apply Array.ext_getElem?
 intro i
 rw[Array.getElem?_modify]
 rcases Nat.lt_trichotomy i es.size with h|h|h
 ·rw[if_neg zo,Array.getElem?_push,Array.getElem?_push,if_neg zo,if_neg zo]
 ·subst h
  simp
 ·rw[if_neg zo,Array.getElem?_push,Array.getElem?_push,if_neg zo,if_neg zo]
theorem yI(es:Array MapEntry)(j:Nat)(f g:MapEntry→MapEntry):(es.modify j f).modify j g=es.modify j fun e=>g (f e):=by
 apply Array.ext_getElem?
 intro i
 rw[Array.getElem?_modify,Array.getElem?_modify,Array.getElem?_modify]
 split <;> simp[Function.comp_def]
section
variable{H:Type}{P:Program}{k t e:TypeId}{R:Value→Option (DataW H × List MemPlace)}{w:World}{b n:Nat}{D:DataW H}
theorem BI{W1:World}{es':Array MapEntry}{c' j:Nat}{st:Int}(hb1:W1.heap[b]? =some (.map es' c'))(hf:es'.findIdx? (fun e=>(e.born:Int) == st)=some j)(val:Value):(Instr.entryStore t (.map (some b)) (int i64 st) val).run P W1=.ok () (setBlock W1 b (.map (es'.modify j fun e=>{e with val:=val }) c')):=by
 simp[Instr.entryStore,MapKept.run_getObj_map hb1,hf,MapKept.run_setObj_map _ hb1,Result.andThen,go_sem,setBlock]
theorem kD(w:World)(b:Nat)(o o':Obj):setBlock (setBlock w b o) b o'=setBlock w b o':=by simp[setBlock]
theorem Dt{W:World}{es':Array MapEntry}{c' j:Nat}{e1:MapEntry}(hb:W.heap[b]? =some (.map es' c'))(K:Keyed P k)(ht:P.underlying t=some (.map k e)){key:Value}{kl:Lit}(hkey:keyOf P k key=some kl)
 (hkeys:∀x∈es'.toList,∃l,keyOf P k x.key=some l)(hnd:(es'.toList.map (·.key)).Nodup)(hj:es'[j]? =some e1)(hk:e1.key=key):(Instr.lookup t (.map (some b)) key false).run P W=.ok e1.val W:=by
 have hjl:j<es'.size:=(Array.getElem?_eq_some_iff.1 hj).1
 have fY:es'[j]=e1:=(Array.getElem?_eq_some_iff.1 hj).2
 rcases K.find W hkey es'.toList hkeys with⟨_,h2⟩|⟨i,e2,h1,h2,h3⟩
 ·exact absurd hk (h2 e1 (by rw[← fY];exact Array.getElem_mem_toList hjl))
 ·have h2':es'[i]? =some e2:=by simpa using h2
  have hil:i<es'.size:=(Array.getElem?_eq_some_iff.1 h2').1
  have hie:es'[i]=e2:=(Array.getElem?_eq_some_iff.1 h2').2
  have hij:i=j:=by
   rcases Nat.lt_trichotomy i j with h|h|h
   ·exact((List.pairwise_iff_getElem.1 hnd i j (by simpa using hil) (by simpa using hjl) h) (by simp[hie,fY,h3,hk])).elim
   ·exact h
   ·exact((List.pairwise_iff_getElem.1 hnd j i (by simpa using hjl) (by simpa using hil) h) (by simp[hie,fY,h3,hk])).elim
  subst hij
  obtain rfl:e2=e1:=by rw[← hie,← fY]
  simp[Instr.lookup,run_underlying ht,MapKept.run_getObj_map hb,K.check W _ hkey,h1,Result.andThen]
theorem Ns(h:w.ownsMap P k R b n D)(K:Keyed P k)(ht:P.underlying t=some (.map k e)){z:Value}(hz:∀w,(zeroValue e).run P w=.ok z w){key:Value}{kl:Lit}(hkey:keyOf P k key=some kl):
 ∃ (v st:Value) (w1:World),(Instr.mapEntry t (.map (some b)) key).run P w=.ok (.tuple #[v,st]) w1∧(Instr.lookup t (.map (some b)) key false).run P w=.ok v w∧(Instr.lookup t (.map (some b)) key false).run P w1=.ok v w1:=by
 obtain⟨es,clock,hb,F,hs,rfl⟩:=h
 rcases K.find w hkey es.toList F.keys with⟨h1,h2⟩|⟨j,e0,h1,h2,h3⟩
 ·have hb1:(setBlock w b (.map (es.push ⟨key,z,clock⟩) (clock+1))).heap[b]? =some (.map (es.push ⟨key,z,clock⟩) (clock+1)):=heap_setBlock_same hb _
  refine⟨z,goInt clock,setBlock w b (.map (es.push ⟨key,z,clock⟩) (clock+1)),?_,?_,?_⟩
  ·simp[Instr.mapEntry,run_underlying ht,MapKept.run_getObj_map hb,K.check w false hkey,h1,hz,MapKept.run_setObj_map _ hb,Result.andThen,setBlock]
  ·simp[Instr.lookup,run_underlying ht,MapKept.run_getObj_map hb,K.check w _ hkey,h1,hz,Result.andThen]
  ·exact Dt (j:=es.size) (e1:=⟨key,z,clock⟩) hb1 K ht hkey (fun x hx=>by
    simp only[Array.toList_push,List.mem_append,List.mem_singleton] at hx
    rcases hx with hx|rfl
    ·exact F.keys x hx
    ·exact⟨kl,hkey⟩) (stamped_push F.stamped h2).2.2 zs rfl
 ·have hj:es[j]? =some e0:=by simpa using h2
  have hsame:es.modify j (fun e=>{e with key })=es:=by
   apply Array.ext_getElem?
   intro i
   rw[Array.getElem?_modify]
   split
   ·rename_i hi
    subst hi
    rw[hj]
    simp[← h3]
   ·rfl
  have hb1:(setBlock w b (.map es clock)).heap[b]? =some (.map es clock):=heap_setBlock_same hb _
  refine⟨e0.val,goInt e0.born,setBlock w b (.map es clock),?_,Dt hb K ht hkey F.keys F.stamped.2.2 hj h3,Dt hb1 K ht hkey F.keys F.stamped.2.2 hj h3⟩
  have:(Instr.mapEntry t (.map (some b)) key).run P w=.ok (.tuple #[e0.val,goInt e0.born]) (setBlock w b (.map (es.modify j (fun e=>{e with key })) clock)):=by
   simp[Instr.mapEntry,run_underlying ht,MapKept.run_getObj_map hb,K.check w false hkey,h1,hj,h3,K.stays w hkey,MapKept.run_setObj_map _ hb,Result.andThen,setBlock]
  rw[hsame] at this
  exact this
theorem IV(h:w.ownsMap P k R b n D)(K:Keyed P k)(ht:P.underlying t=some (.map k e)){z:Value}(hz:∀w,(zeroValue e).run P w=.ok z w){key:Value}{kl:Lit}(hkey:keyOf P k key=some kl):
 ∃ (v:Value) (st:Int) (w1:World),(Instr.mapEntry t (.map (some b)) key).run P w=.ok (.tuple #[v,int i64 st]) w1∧w.grownBy w1 (some b)∧
   ∀val:Value,∃w',(Instr.mapUpdate t (.map (some b)) key val).run P w=.ok () w'∧(Instr.entryStore t (.map (some b)) (int i64 st) val).run P w1=.ok () w':=by
 obtain⟨es,clock,hb,F,hs,rfl⟩:=h
 rcases K.find w hkey es.toList F.keys with⟨h1,h2⟩|⟨j,e0,h1,h2,h3⟩
 ·refine⟨z,clock,setBlock w b (.map (es.push ⟨key,z,clock⟩) (clock+1)),?_,?_,fun val=>⟨setBlock w b (.map (es.push ⟨key,val,clock⟩) (clock+1)),?_,?_⟩⟩
  ·simp[Instr.mapEntry,run_underlying ht,MapKept.run_getObj_map hb,K.check w false hkey,h1,hz,MapKept.run_setObj_map _ hb,Result.andThen,setBlock,goInt]
  ·exact⟨rfl,rfl,rfl,by simp[setBlock],fun i _ hi=>heap_setBlock_other hb _ (fun e=>hi (by rw[e]))⟩
  ·simp[Instr.mapUpdate,run_underlying ht,MapKept.run_getObj_map hb,K.check w false hkey,h1,MapKept.run_setObj_map _ hb,Result.andThen,setBlock]
  ·have hb1:(setBlock w b (.map (es.push ⟨key,z,clock⟩) (clock+1))).heap[b]? =some (.map (es.push ⟨key,z,clock⟩) (clock+1)):=heap_setBlock_same hb _
   have hf:=kK (es.push ⟨key,z,clock⟩) (stamped_push F.stamped h2).2.1 (j:=es.size) (e0:=⟨key,z,clock⟩) zs
   have:=BI (P:=P) (t:=t) hb1 hf val
   rw[FT,kD] at this
   exact this
 ·have hj:es[j]? =some e0:=by simpa using h2
  have hf:=kK es F.stamped.2.1 hj
  have hb1:(setBlock w b (.map (es.modify j fun e=>{e with key }) clock)).heap[b]? =some (.map (es.modify j fun e=>{e with key }) clock):=heap_setBlock_same hb _
  have hkeyf:∀e',es[j]? =some e'→({e' with key:=key }:MapEntry).key=e'.key:=fun e' he'=>by rw[hj] at he';cases he';exact h3.symm
  refine⟨e0.val,e0.born,setBlock w b (.map (es.modify j fun e=>{e with key }) clock),?_,?_,fun val=>⟨setBlock w b (.map (es.modify j fun e=>{e with key,val }) clock),?_,?_⟩⟩
  ·simp[Instr.mapEntry,run_underlying ht,MapKept.run_getObj_map hb,K.check w false hkey,h1,hj,h3,K.stays w hkey,MapKept.run_setObj_map _ hb,Result.andThen,setBlock,goInt]
  ·exact⟨rfl,rfl,rfl,by simp[setBlock],fun i _ hi=>heap_setBlock_other hb _ (fun e=>hi (by rw[e]))⟩
  ·simp[Instr.mapUpdate,run_underlying ht,MapKept.run_getObj_map hb,K.check w false hkey,h1,hj,h3,K.stays w hkey,MapKept.run_setObj_map _ hb,Result.andThen,setBlock]
  ·have hf':=kK (es.modify j fun e=>{e with key }) (stamped_modify F.stamped j (fun e=>{e with key }) (fun _ _=>rfl) (fun e1 _ he1=>hkeyf e1 he1)).2.1 (j:=j) (e0:={e0 with key }) (by rw[Array.getElem?_modify];simp[hj])
   have:=BI (P:=P) (t:=t) hb1 hf' val
   rw[yI,kD] at this
   exact this
end
end
section
open Go
section
variable{F:Fence}{n:Nat}{P:Program}{ops:Array Oper}{Q:Exit→Act→World→Prop}{md:Region.Mode}{S:World→Prop}{L:Nat}
theorem aQ{i i':Nat}{o o':Oper}{fuel:Nat}{listed:Array Bool}{a:Act}{w:World}(hr:Region.ready md ops listed=[i,i'])(ho:ops[i]? =some o)(ho':ops[i']? =some o')
 (h:∀K':Act→World→Prop,Shut (∀a w,(i≠L→S w)→aX F n P md ops Q S L fuel (listed.setIfInBounds i true) a w→K' a w)→if Region.wanted o (yielded ops a.tmps)=true then Oper.wpIn F n P o a w K' Q else(∀f,o.about P w a.eval=some f→F.fn f)∧K' (a.put o.dst undef) w)
 (h':∀K':Act→World→Prop,Shut (∀a w,(i'≠L→S w)→aX F n P md ops Q S L fuel (listed.setIfInBounds i' true) a w→K' a w)→if Region.wanted o' (yielded ops a.tmps)=true then Oper.wpIn F n P o' a w K' Q else(∀f,o'.about P w a.eval=some f→F.fn f)∧K' (a.put o'.dst undef) w):
 aX F n P md ops Q S L (fuel+1) listed a w:=by
 refine⟨(fun h0=>by rw[hr] at h0;cases h0),fun j hj=>?_⟩
 rw[hr] at hj
 simp only[List.mem_cons,List.not_mem_nil,or_false] at hj
 rcases hj with rfl|rfl
 ·exact wpOpIn_step ho fun K' hK=>h K' fun a w hS hW=>hK a w ⟨hS,hW⟩
 ·exact wpOpIn_step ho' fun K' hK=>h' K' fun a w hS hW=>hK a w ⟨hS,hW⟩
theorem nP{i i' i2:Nat}{o o' o2:Oper}{fuel:Nat}{listed:Array Bool}{a:Act}{w:World}(hr:Region.ready md ops listed=[i,i',i2])(ho:ops[i]? =some o)(ho':ops[i']? =some o')(ho2:ops[i2]? =some o2)
 (h:∀K':Act→World→Prop,Shut (∀a w,(i≠L→S w)→aX F n P md ops Q S L fuel (listed.setIfInBounds i true) a w→K' a w)→if Region.wanted o (yielded ops a.tmps)=true then Oper.wpIn F n P o a w K' Q else(∀f,o.about P w a.eval=some f→F.fn f)∧K' (a.put o.dst undef) w)
 (h':∀K':Act→World→Prop,Shut (∀a w,(i'≠L→S w)→aX F n P md ops Q S L fuel (listed.setIfInBounds i' true) a w→K' a w)→if Region.wanted o' (yielded ops a.tmps)=true then Oper.wpIn F n P o' a w K' Q else(∀f,o'.about P w a.eval=some f→F.fn f)∧K' (a.put o'.dst undef) w)
 (h2:∀K':Act→World→Prop,Shut (∀a w,(i2≠L→S w)→aX F n P md ops Q S L fuel (listed.setIfInBounds i2 true) a w→K' a w)→if Region.wanted o2 (yielded ops a.tmps)=true then Oper.wpIn F n P o2 a w K' Q else(∀f,o2.about P w a.eval=some f→F.fn f)∧K' (a.put o2.dst undef) w):
 aX F n P md ops Q S L (fuel+1) listed a w:=by
 refine⟨(fun h0=>by rw[hr] at h0;cases h0),fun j hj=>?_⟩
 rw[hr] at hj
 simp only[List.mem_cons,List.not_mem_nil,or_false] at hj
 rcases hj with rfl|rfl|rfl
 ·exact wpOpIn_step ho fun K' hK=>h K' fun a w hS hW=>hK a w ⟨hS,hW⟩
 ·exact wpOpIn_step ho' fun K' hK=>h' K' fun a w hS hW=>hK a w ⟨hS,hW⟩
 ·exact wpOpIn_step ho2 fun K' hK=>h2 K' fun a w hS hW=>hK a w ⟨hS,hW⟩
end
end
section
open Go Go.RowKit Go.Maps
section
variable{F:Fence}{n:Nat}{P:Program}{ops:Array Oper}{Q:Exit→Act→World→Prop}
theorem uQ{id l₀:Nat}{a:Act}{w:World}(L:Nat)(S:World→Prop)(hro:F.round=none)(hm:P.follows .mixedOrders=true)(hd:uX ops=true)
 (h:aX F n P .any ops Q S L ops.size (Array.replicate ops.size false) a w.drew):(Code.region id ops true).wpIn (F.inRound l₀) n P Q a w:=
 wpIn_region_any hm (kW hro hd _ _ _ _ (mJ _ _ _ _ h))
end
theorem br:laidOutB prog=true:=zk
theorem dO:Keyed prog 135:=Keyed.of_law (deep_law_laid br (m:=2) zo (of_decide_eq_true zk) zk zk)
theorem mM(w:World):(zeroValue 3).run prog w=.ok (int i64 0) w:=zk
def ks:DataW Unit→Int
 | .lit (.int _ c)=>c
 | _=>0
def qM(D:DataW Unit)(kl:Lit):DataW Unit:=D.put kl (.lit (.int .i64 (wrap64 (ks (D.atKey kl (.lit (.int .i64 0)))+1))))
theorem Iw(l₀ B M n:Nat)(D:DataW Unit)(g m:Int)(kl:Lit)(hkey:keyOf prog 135 (.agg #[int i64 g,int i64 m])=some kl)(w:World)(hc:w.cell? ⟨B,0,none⟩=some (.map (some M)))(hlt:B<w.heap.size)(fN:B≠M)(hD:w.ownsMap prog 135 (plainElem prog 3) M n D)(hn:n<maxLen)(ds:List Deferred)
 (x0 x1 x2 x4 x7 x8 x9 x10 x11 x12 x13 x14 x15 x16 x17 x18 x19 x20 x21 x22 x23 x24 x25 x26 x27 x28 x29 x30 x31 x32 x33 x34 x35:Value)(Q:Exit→Act→World→Prop)(hQ:∀ (c:List PanicEntry) (a b:Act) (w:World),Q (.panic c) a w→Q (.panic c) b w)
 (h:∀ (y25 y26 y27 y28 y29 y30 y31 y32:Value) (w':World),w'.ownsMap prog 135 (plainElem prog 3) M (n+1) (qM D kl)→Keeps (fun x=>x=M) w w'→Q .normal {tmps:=#[x0,x1,x2,.pointer (some ⟨B,0,none⟩),x4,int i64 g,int i64 m,x7,x8,x9,x10,x11,x12,x13,x14,x15,x16,x17,x18,x19,x20,x21,x22,x23,x24,y25,y26,y27,y28,y29,y30,y31,y32,x33,x34,x35],defers:=ds } w'):
 (Code.region 8 #[{dst:=some 25,op:=Op.load 131 (Operand.tmp 3),type:=131,pos:=DI,after:=#[],guard:=none },{dst:=some 26,op:=Op.move (Operand.tmp 5),type:=3,pos:=DI,after:=#[],guard:=none },{dst:=some 27,op:=Op.move (Operand.tmp 6),type:=3,pos:=DI,after:=#[],guard:=none },{dst:=some 28,op:=Op.build 135 #[(0,Operand.tmp 26),(1,Operand.tmp 27)],type:=135,pos:=DI,after:=#[{on:=1,ground:=Ground.data },{on:=2,ground:=Ground.data }],guard:=none },{dst:=some 29,op:=Op.lookup 131 (Operand.tmp 25) (Operand.tmp 28) false,type:=3,pos:=DI,after:=#[{on:=0,ground:=Ground.data },{on:=3,ground:=Ground.data }],guard:=none },{dst:=some 30,op:=Op.binOp BinOp.add 3 (Operand.tmp 29) (Operand.const (Value.int IntKind.i64 1)) 3,type:=3,pos:=DI,after:=#[{on:=4,ground:=Ground.data }],guard:=none },{dst:=some 31,op:=Op.mapEntry 131 (Operand.tmp 25) (Operand.tmp 28),type:=0,pos:=DI,after:=#[{on:=0,ground:=Ground.data },{on:=3,ground:=Ground.data },{on:=0,ground:=Ground.phase },{on:=1,ground:=Ground.phase },{on:=2,ground:=Ground.phase },{on:=3,ground:=Ground.phase },{on:=4,ground:=Ground.textOnly Departure.mapOpAssignEntry },{on:=5,ground:=Ground.textOnly Departure.mapOpAssignEntry }],guard:=none },{dst:=some 32,op:=Op.extract (Operand.tmp 31) 1,type:=3,pos:=DI,after:=#[{on:=6,ground:=Ground.data }],guard:=none },{dst:=none,op:=Op.entryStore 131 (Operand.tmp 25) (Operand.tmp 32) (Operand.tmp 30),type:=0,pos:=DI,after:=#[{on:=0,ground:=Ground.data },{on:=7,ground:=Ground.data },{on:=5,ground:=Ground.data },{on:=6,ground:=Ground.chain },{on:=0,ground:=Ground.phase },{on:=1,ground:=Ground.phase },{on:=2,ground:=Ground.phase },{on:=3,ground:=Ground.phase },{on:=4,ground:=Ground.phase },{on:=5,ground:=Ground.phase },{on:=6,ground:=Ground.phase },{on:=7,ground:=Ground.phase }],guard:=none }] true).wpIn (FF.inRound l₀) 0 prog Q {tmps:=#[x0,x1,x2,.pointer (some ⟨B,0,none⟩),x4,int i64 g,int i64 m,x7,x8,x9,x10,x11,x12,x13,x14,x15,x16,x17,x18,x19,x20,x21,x22,x23,x24,x25,x26,x27,x28,x29,x30,x31,x32,x33,x34,x35],defers:=ds } w:=by
 refine uQ 8 (fun w'=>w'.cell? ⟨B,0,none⟩=some (.map (some M))) rfl zk zk ?_
 obtain⟨wd,hwd⟩:∃wd,wd=w.drew:=⟨_,rfl⟩
 have hS:wd.cell? ⟨B,0,none⟩=some (.map (some M)):=by rw[hwd];exact hc
 have hown:wd.ownsMap prog 135 (plainElem prog 3) M n D:=by rw[hwd];exact hD.drew
 have hk0:Keeps (fun x=>x=M) w wd:=by rw[hwd];exact Keeps.bG (fQ (Below.refl _ _))
 have m5:B<wd.heap.size:=by rw[hwd];exact hlt
 rw[← hwd]
 clear hwd hc hD hlt
 obtain⟨v,st,w1,hme,hg1,hup⟩:=IV hown dO underlying131 mM hkey
 obtain⟨v',st',w1',m6,hl0,hl1⟩:=Ns hown dO underlying131 mM hkey
 rw[hme] at m6
 obtain⟨c,hl,hat,-⟩:=hown.lookup_int dO underlying131 underlying3 (mM _) hkey
 rw[hl0] at hl
 injection hl with hv' _
 injection m6 with hvv AS
 subst AS
 subst hv'
 injection hvv with hvv
 injection hvv with hvv
 injection hvv with hvv hst
 injection hst with hst _
 subst hvv
 subst hst
 obtain⟨w2,hu,hs⟩:=hup (int i64 (IntKind.i64.wrap (c+1)))
 obtain⟨w2',hu',hown2,hg2⟩:=hown.update dO underlying131 hn hkey (plainElem_int (P:=prog) (e:=3) underlying3 (show(Lit.int .i64 (IntKind.i64.wrap (c+1))).wf=true by rw[IntWalk.i64_left];exact RowKit.wrap64_wf (c+1)))
 rw[hu] at hu'
 injection hu' with _ AS
 subst AS
 have Yt:qM D kl=D.put kl (.lit (.int .i64 (IntKind.i64.wrap (c+1)))):=by unfold qM;rw[hat,IntWalk.i64_left];rfl
 rw[← Yt] at hown2
 have hS1:w1.cell? ⟨B,0,none⟩=some (.map (some M)):=(World.cell?_of_block (hg1.block B m5 (by simpa using fN))).trans hS
 have HK:Hid (Keeps (fun x=>x=M) w w2):=hid (hk0.trans ⟨hg2.os,hg2.tape,hg2.output,hg2.size,fun b hb hc=>hg2.block b hb (by intro e;cases e;exact hc rfl)⟩)
 have HO:=hid hown2
 have HH:=hid h
 clear hu hup hown2 hg1 hg2 hat hown hk0 hkey h Yt m5
 have HQ:=hid hQ
 clear hQ
 refine yX (i:=0) (some 25) hS ?_ (hQ:=fun _ _ _ h=>HQ.out _ _ _ _ h)
 simp only[Act.put,List.setIfInBounds_toArray,List.set]
 refine yX (i:=1) (some 26) hS ?_ (hQ:=fun _ _ _ h=>HQ.out _ _ _ _ h)
 simp only[Act.put,List.setIfInBounds_toArray,List.set]
 refine yX (i:=2) (some 27) hS ?_ (hQ:=fun _ _ _ h=>HQ.out _ _ _ _ h)
 simp only[Act.put,List.setIfInBounds_toArray,List.set]
 refine yX (i:=3) (some 28) hS ?_ (hQ:=fun _ _ _ h=>HQ.out _ _ _ _ h)
 simp only[Act.put,List.setIfInBounds_toArray,List.set]
 refine aQ (i:=4) (i':=6) zk rfl rfl (fun K hK=>?_) (fun K hK=>?_)
 ·skip
  go_simp
  refine hK.out _ _ (fun _=>hS) ?_
  clear hK K
  refine aQ (i:=5) (i':=6) zk rfl rfl (fun K hK=>?_) (fun K hK=>?_)
  ·skip
   go_simp
   refine hK.out _ _ (fun _=>hS) ?_
   clear hK K
   refine aV 6 fun K hK=>?_
   go_simp
   refine hK.out _ _ (fun _=>hS1) ?_
   clear hK K
   refine aV 7 fun K hK=>?_
   go_simp
   refine hK.out _ _ (fun _=>hS1) ?_
   clear hK K
   refine aV 8 fun K hK=>?_
   go_simp
   refine hK.out _ _ (fun h=>absurd rfl h) ?_
   clear hK K
   refine aF zk ?_ _
   exact HH.out _ _ _ _ _ _ _ _ _ HO.out HK.out
  ·skip
   go_simp
   refine hK.out _ _ (fun _=>hS1) ?_
   clear hK K
   refine aQ (i:=5) (i':=7) zk rfl rfl (fun K hK=>?_) (fun K hK=>?_)
   ·skip
    go_simp
    refine hK.out _ _ (fun _=>hS1) ?_
    clear hK K
    refine aV 7 fun K hK=>?_
    go_simp
    refine hK.out _ _ (fun _=>hS1) ?_
    clear hK K
    refine aV 8 fun K hK=>?_
    go_simp
    refine hK.out _ _ (fun h=>absurd rfl h) ?_
    clear hK K
    refine aF zk ?_ _
    exact HH.out _ _ _ _ _ _ _ _ _ HO.out HK.out
   ·skip
    go_simp
    refine hK.out _ _ (fun _=>hS1) ?_
    clear hK K
    refine aV 5 fun K hK=>?_
    go_simp
    refine hK.out _ _ (fun _=>hS1) ?_
    clear hK K
    refine aV 8 fun K hK=>?_
    go_simp
    refine hK.out _ _ (fun h=>absurd rfl h) ?_
    clear hK K
    refine aF zk ?_ _
    exact HH.out _ _ _ _ _ _ _ _ _ HO.out HK.out
 ·skip
  go_simp
  refine hK.out _ _ (fun _=>hS1) ?_
  clear hK K
  refine aQ (i:=4) (i':=7) zk rfl rfl (fun K hK=>?_) (fun K hK=>?_)
  ·skip
   go_simp
   refine hK.out _ _ (fun _=>hS1) ?_
   clear hK K
   refine aQ (i:=5) (i':=7) zk rfl rfl (fun K hK=>?_) (fun K hK=>?_)
   ·skip
    go_simp
    refine hK.out _ _ (fun _=>hS1) ?_
    clear hK K
    refine aV 7 fun K hK=>?_
    go_simp
    refine hK.out _ _ (fun _=>hS1) ?_
    clear hK K
    refine aV 8 fun K hK=>?_
    go_simp
    refine hK.out _ _ (fun h=>absurd rfl h) ?_
    clear hK K
    refine aF zk ?_ _
    exact HH.out _ _ _ _ _ _ _ _ _ HO.out HK.out
   ·skip
    go_simp
    refine hK.out _ _ (fun _=>hS1) ?_
    clear hK K
    refine aV 5 fun K hK=>?_
    go_simp
    refine hK.out _ _ (fun _=>hS1) ?_
    clear hK K
    refine aV 8 fun K hK=>?_
    go_simp
    refine hK.out _ _ (fun h=>absurd rfl h) ?_
    clear hK K
    refine aF zk ?_ _
    exact HH.out _ _ _ _ _ _ _ _ _ HO.out HK.out
  ·skip
   go_simp
   refine hK.out _ _ (fun _=>hS1) ?_
   clear hK K
   refine aV 4 fun K hK=>?_
   go_simp
   refine hK.out _ _ (fun _=>hS1) ?_
   clear hK K
   refine aV 5 fun K hK=>?_
   go_simp
   refine hK.out _ _ (fun _=>hS1) ?_
   clear hK K
   refine aV 8 fun K hK=>?_
   go_simp
   refine hK.out _ _ (fun h=>absurd rfl h) ?_
   clear hK K
   refine aF zk ?_ _
   exact HH.out _ _ _ _ _ _ _ _ _ HO.out HK.out
end
end Go.Proofs.YthaelabgfnnebaaGreat
