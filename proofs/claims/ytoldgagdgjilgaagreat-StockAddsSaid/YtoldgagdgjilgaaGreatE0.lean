/- HE WN WK HV HM Qr -/
import Derived.Test.YtoldgagdgjilgaaGreatD9
import Derived.Test.YtoldgagdgjilgaaGreatD7
import Derived.Shelf.SlIterI.Sorted
import Derived.Shelf.SortM.AssemblyIn
import Derived.Shelf.SortM.SortNone
import Derived.Ground.GgzProg
import Derived.Ground.SlgmProg
set_option maxRecDepth 100000
set_option maxHeartbeats 16000000
set_option linter.unusedVariables false
set_option linter.unusedSectionVars false
open Go.IntKind(i64)
open Go.Lib(hid)
open Go.Proofs.Tryz
open Go.Value(int)
namespace Go.Proofs.YtoldgagdgjilgaaGreat
section
open Go.RowKit
open Go.Sort (grow)
attribute [local go_sem] Oper.semAt_some
theorem Tryz.infoL:(Tryz.prog.info? 38).map (fun i=>(i.zero,i.size,i.bytes))=some (some (.slice none 0 0),1,24):=zk
theorem Rz(g:Nat)(c:Nat)(v f:Value)(w:World)(hv:∃A n p,v=.slice A n p)(hc:w.cell? ⟨g,0,none⟩=some v):CallsIn FF 0 prog 106 #[f,.slice (some ⟨g,0,none⟩) 1 c] w fun e w'=>e=.returned (.tuple #[v,.bool true])∧Below w.heap.size w w':=by
 obtain⟨A,n,p,rfl⟩:=hv
 gi_enter func106,ntmps106
 gi_wp2
 refine wpIn_loop_rounds 2 ?_
 rw[roundsIn_succ]
 gi_wp2
 repeat (refine⟨fun f h=>(by cases h),?_⟩;gi_wp2)
 rw[roundsIn_succ]
 gi_wp2
 go_ret2
 exact⟨rfl,Below.refl _ _⟩
theorem Jc(s:Nat)(hs:s<1024)(g c:Nat)(w:World)(hc:w.cell? ⟨g,0,none⟩=some (int i64 s)):CallsIn FF 0 prog 78 #[.slice (some ⟨g,0,none⟩) 1 c] w fun e w'=>∃v,e=.returned (.tuple #[v,.bool true])∧w'.ownsRow w.heap.size 3 1 v (aL s 10).length ((aL s 10).map (int i64))∧Below w.heap.size w w':=by
 have HS:=hid fun w=>lZ s w hs
 have HL:=hid fun g c v w hv hc=>Rz g c v (.func (.func 107) #[] #[]) w hv hc
 obtain⟨i0,hi,hz0,hz1,hz2⟩:=info_parts Tryz.infoL
 have hi0:=hid hi
 obtain⟨L,hL⟩:∃L,L=aL s 10:=⟨_,rfl⟩
 rw[← hL] at HS⊢
 clear hL hi
 gi_enter func78,ntmps78
 gi_wp2
 refine wpIn_loop_rounds 2 ?_
 rw[roundsIn_succ]
 gi_wp2_with (first
  | (gi_at_call 102;refine(HS.out w).mono ?_;rintro e w3 ⟨v,rfl,hown,hb3⟩;have e9:=hid hown;have hv:=gI hown;have HV:=hid hv;obtain⟨A3,n3,p3,rfl⟩:=hv;clear hown)
  | (gi_at_builtin;refine aG rfl rfl rfl fun K5 jZ=>?_;refine wp_append_lies _ _ _ _ rfl w3.heap.size 38 i0 _ 1 24 underlying57 hi0.out hz0 hz1 hz2 rfl zo (.slice none 0 0) 0 [] rfl ⟨rfl,.inl ⟨rfl,rfl⟩⟩ ⟨w3.heap.size,0,none⟩ 1 1 [_] rfl rfl (World.news_of_block (heap_alloc_new w3 _)) (by simp[Value.oneCell']) zo zU zo zs (w3.heap.size+1) zs ?_;intro rJ qI w10 hown5 aZ om qN;refine jZ _ _ ?_;clear jZ K5))
 rw[roundsIn_succ]
 gi_wp2_with (gi_at_call 106;refine(HL.out _ _ _ w10 HV.out ?_).mono ?_;rotate_left;(rintro e w12 ⟨rfl,I4⟩))
 ·go_ret2
  have PX:Below w.heap.size w w10:=(Below.al hb3 _).trans (below_grown aZ (by simp;have:=hb3.size;omega) (fun g hg=>by cases hg))
  exact⟨_,rfl,own_below (nQ (bC e9.out _) aZ (fun g hg=>by simp[Value.ownBlock])) I4,Below.next PX I4⟩
 ·have:=hown5.cells (g:=rJ) rfl 0 (.slice A3 n3 p3) zs
  simpa [Addr.add] using this
theorem Sm(b:Bk)(ok:b.Ok)(s:Nat)(hl:dR s)(Bb Bl:Nat)(w:World)(hb:Whole w Bb 59 b.cells)(hw:Whole w Bl 3 #[int i64 s])(hA:b.At w w.heap.size):oZ FF 86 #[.pointer (some ⟨Bb,0,none⟩),.pointer (some ⟨Bl,0,none⟩)] (jM b s) w:=by
 refine⟨zs,enters_of func86 zk rfl,fun C W hW hC=>?_⟩
 exact Tt (p:=FF.fn) b ok s hl C w.heap.size Bb Bl W (fun x hx=>(hC x hx).2) (hb.below hW hb.lt) (hw.below hW hw.lt) (hA.below hW) hW.size (fun h=>by have:=(hC _ h).1;have:=hb.lt;omega) (fun h=>by have:=(hC _ h).1;have:=hw.lt;omega) (fun x hx h=>by have:=(hC _ h).1;omega)
theorem OB(b:Bk)(ok:b.Ok)(s:Nat)(hl:dR s)(w:World)(hA:b.At w w.heap.size):CallsIn FF 0 prog 62 #[b.val,int i64 s] w fun e w'=>∃lb,e=.returned (.func (.func 86) #[] lb)∧oZ FF 86 lb (jM b s) w'∧Below w.heap.size w w':=by
 refine(TB (p:=FF.fn) b s w).mono ?_
 rintro e w' ⟨rfl,hb,hi,hbw,-⟩
 exact⟨_,rfl,Sm b ok s hl _ _ w' hb hi (hA.up hbw),hbw⟩
def Cu(b:Bk)(k:Nat):List Int:=(((ak b).take k).filter fun s=>!(jM b s).isEmpty).map fun(n:Nat)=>(n:Int)
theorem Mj(b:Bk)(k:Nat)(hk:k<(ak b).length):Cu b (k+1)=Cu b k ++ if (!(jM b ((ak b).getD k 0)).isEmpty)=true then[(((ak b).getD k 0:Nat):Int)] else[]:=by
 unfold Cu
 rw[List.take_add_one,List.getD_eq_getElem?_getD,List.getElem?_eq_getElem hk,List.filter_append,List.map_append]
 congr 1
 simp only[Option.toList,Option.getD,List.filter_cons,List.filter_nil]
 split <;> simp_all
theorem Qw(b:Bk)(k:Nat):(Cu b k).length≤(ak b).length:=by
 unfold Cu
 rw[List.length_map]
 exact Nat.le_trans (List.length_filter_le _ _) (by rw[List.length_take];exact Nat.min_le_right _ _)
theorem UC(b:Bk)(A:Option Addr)(p:Nat)(s0:Nat)(w:World)(hc:og b A w)(ok:b.Ok)(hl:∀s∈ak b,dR s)(hcan:Cu b (ak b).length=[(s0:Int)])(hs0:s0<1024):
 CallsIn FF 0 prog 55 #[.agg (aA b A (ak b).length p)] w fun e w'=>∃v,e=.returned (.tuple #[v,.bool true])∧w'.ownsRow w.heap.size 3 1 v (aL s0 10).length ((aL s0 10).map (int i64))∧Below w.heap.size w w':=by
 have HT:=hid fun k (w':World) (hk:k<(ak b).length) (hA:b.At w' w'.heap.size)=>OB b ok ((ak b).getD k 0) (hl _ (by rw[List.getD_eq_getElem?_getD,List.getElem?_eq_getElem hk];exact List.getElem_mem hk)) w' hA
 have HY:=hid fun k lb (w':World) h=>Ya (p:=FF.fn) 86 lb (jM b ((ak b).getD k 0)) w' h
 have HL:=hid fun g c w hc=>Jc s0 hs0 g c w hc
 have HC:=hid hc
 have HR:=hid hc.row
 have sL:=hid hc.at_
 obtain⟨n,hn⟩:∃n,n=(ak b).length:=⟨_,rfl⟩
 obtain⟨LN,rm⟩:∃LN:Nat→Nat,LN=fun k=>(ak b).getD k 0:=⟨_,rfl⟩
 obtain⟨T,hT⟩:∃T:Nat→List Ht,T=fun k=>jM b ((ak b).getD k 0):=⟨_,rfl⟩
 obtain⟨F,hF⟩:∃F:Nat→List Int,F=Cu b:=⟨_,rfl⟩
 have Gk:Hid (∀k (w':World),k<n→b.At w' w'.heap.size→CallsIn FF 0 prog 62 #[b.val,int i64 (LN k)] w' fun e w''=>∃lb,e=.returned (.func (.func 86) #[] lb)∧oZ FF 86 lb (T k) w''∧Below w'.heap.size w' w''):=hid fun k w' hk hA=>by rw[rm,hT];rw[hn] at hk;exact HT.out k w' hk hA
 have RM:Hid (∀k lb (w':World),oZ FF 86 lb (T k) w'→CallsIn FF 0 prog 77 #[.func (.func 86) #[] lb] w' fun e w''=>e=.returned (.bool (!(T k).isEmpty))∧Below w'.heap.size w' w''):=hid fun k lb w' h=>by rw[hT] at h⊢;exact HY.out k lb w' h
 have HR':Hid (Rows w w.heap.size 1 A n (fun i _=>int i64 ((LN i:Nat):Int))):=hid (by rw[rm,hn];exact HR.out)
 have NL:Hid (F 0=[]):=hid (by rw[hF];rfl)
 have tk:Hid (∀k,k<n→F (k+1)=F k ++ if (!(T k).isEmpty)=true then[((LN k:Nat):Int)] else[]):=hid fun k hk=>by rw[hF,hT,rm];rw[hn] at hk;exact Mj b k hk
 have OS:Hid (F n=[(s0:Int)]):=hid (by rw[hF,hn];exact hcan)
 have ON:Hid (∀k,(F k).length≤64):=hid fun k=>by rw[hF];exact Nat.le_trans (Qw b k) (kW b ok)
 have U':n≤64:=by rw[hn];exact kW b ok
 obtain⟨L0,hL0⟩:∃L,L=aL s0 10:=⟨_,rfl⟩
 rw[← hL0] at HL⊢
 rw[← hn]
 obtain⟨i0,hi,hz0,hz1,hz2⟩:=info_parts info3
 have hi0:=hid hi
 clear hi hn rm hT hF HT HY HR hcan hl ok hc HC hL0 hs0
 obtain⟨days,most,gA,ng,gc,g,mA,nm,mc,m,cA,nc,cc,c⟩:=b
 simp only[Bk.val,Bk.cells,aA] at Gk⊢
 obtain⟨w1,hw1⟩:∃w1,w1=w.alloc (.cells #[int i64 days,int i64 most,.slice gA ng gc,.slice mA nm mc,.slice cA nc cc,.slice A n p] 61):=⟨_,rfl⟩
 have B1:Hid (Below w.heap.size w w1):=hid (by rw[hw1];exact bw)
 have X1:Hid (Whole w1 w.heap.size 61 #[int i64 days,int i64 most,.slice gA ng gc,.slice mA nm mc,.slice cA nc cc,.slice A n p]):=hid (by rw[hw1];exact Whole.new _ _ _)
 have hs1:w1.heap.size=w.heap.size+1:=by rw[hw1];simp
 have mQ:=hid hw1
 clear hw1
 gi_enter func55,ntmps55
 gi_wp2
 rw[← mQ.out]
 clear mQ
 gi_loopw [4,10] (fun l i wr=>∃k:Nat,k≤n∧i=int i64 k∧Hid (wr.ownsRow (w.heap.size+1) 3 1 l (F k).length ((F k).map (int i64))∧Below (w.heap.size+1) w1 wr)) (fun _ i _=>n - (intOf i).toNat)
 case atStart=>exact⟨0,Nat.zero_le _,rfl,hid ⟨by rw[NL.out];exact nR _ (w.heap.size+1) 3,Below.refl _ _⟩⟩
 case round=>
  obtain⟨k,hk,rfl,hT⟩:=hrel
  obtain⟨A9,n9,p9,rfl⟩:=gI hT.out.1
  obtain⟨wo,rfl⟩:∃wo:World,wo=wr:=⟨_,rfl⟩
  have hso:w.heap.size+1≤wo.heap.size:=by have:=hT.out.2.size;omega
  have BO:Hid (Below w.heap.size w wo):=hid (B1.out.trans (hT.out.2.mono zo))
  by_cases hlt:k<n
  ·obtain⟨ad,hA',hbl,-⟩:=HR'.out (show 0<n by omega)
   subst hA'
   obtain⟨s,hs⟩:∃s,s=LN k:=⟨_,rfl⟩
   have d0:wo.cell? (ad.add k)=some (int i64 s):=by
    rw[hs]
    refine(BO.out.cell (by rw[aJ];exact hbl)).trans ?_
    have:=(HR'.out.row hlt).2 0 zD
    rwa[Nat.mul_one,add_zero'] at this
   have xe:=Gk.out k wo hlt (sL.out.up BO.out)
   have rl:=tk.out k hlt
   have hFl:=ON.out k
   rw[← hs] at xe rl
   obtain⟨t,ht⟩:∃t,t=!(T k).isEmpty:=⟨_,rfl⟩
   have xh:=fun lb w' h=>RM.out k lb w' h
   rw[← ht] at xh rl
   have X2:=hid (X1.out.below hT.out.2 zo)
   have x0:wo.cell? ⟨w.heap.size,0,none⟩=some (int i64 days):=X2.out.cell 0
   have x1:wo.cell? ⟨w.heap.size,1,none⟩=some (int i64 most):=X2.out.cell 1
   have x2:wo.cell? ⟨w.heap.size,2,none⟩=some (.slice gA ng gc):=X2.out.cell 2
   have x3:wo.cell? ⟨w.heap.size,3,none⟩=some (.slice mA nm mc):=X2.out.cell 3
   have x4:wo.cell? ⟨w.heap.size,4,none⟩=some (.slice cA nc cc):=X2.out.cell 4
   have Gr:=hid xe
   have GC:=hid xh
   have E7:=hid rl
   clear xe xh rl hs ht
   cases t
   ·gi_wp2_with (first
     | (gi_at_call 62;refine Gr.out.mono ?_;rintro e w4 ⟨lb,rfl,hs4,hb4⟩)
     | (gi_at_call 77;refine(GC.out lb _ hs4).mono ?_;rintro e w5 ⟨rfl,hb5⟩))
    have MR:=hb4.trans (hb5.mono hb4.size)
    exact⟨⟨k+1,hlt,by push_cast;rfl,hid ⟨by rw[E7.out];simpa using own_below hT.out.1 MR,hT.out.2.trans (MR.mono hso)⟩⟩,by simp[intOf];omega⟩
   ·gi_wp2_with (first
     | (gi_at_call 62;refine Gr.out.mono ?_;rintro e w4 ⟨lb,rfl,hs4,hb4⟩)
     | (gi_at_call 77;refine(GC.out lb _ hs4).mono ?_;rintro e w5 ⟨rfl,hb5⟩;have MR:=hb4.trans (hb5.mono hb4.size);have Ho:=hid (own_below hT.out.1 MR);have hs5:=MR.size)
     | (gi_at_builtin;refine aG rfl rfl rfl fun K5 jZ=>?_;refine wp_append_lies _ _ _ _ rfl (w.heap.size+1) 3 i0 _ 1 8 underlying38 hi0.out hz0 hz1 hz2 rfl zo (.slice A9 n9 p9) (F k).length _ rfl (bC Ho.out _) ⟨w5.heap.size,0,none⟩ 1 1 [_] rfl rfl (World.news_of_block (heap_alloc_new w5 _)) (by simp[Value.oneCell']) zo zU zo zm (w5.heap.size+1) zs ?_;intro rJ qI w10 hown5 aZ om qN;refine jZ _ _ ?_;clear jZ K5))
    exact⟨⟨k+1,hlt,by push_cast;rfl,hid ⟨by rw[E7.out];simpa using hown5,((hT.out.2.trans (MR.mono hso)).alloc zo _).trans (below_grown aZ zm (fun g hg=>(dL Ho.out hg).1))⟩⟩,by simp[intOf];omega⟩
  ·obtain rfl:k=n:=zo
   have hown:=hT.out.1
   rw[OS.out] at hown
   obtain⟨g9,c9,hv,-,-⟩:=hown.form zs
   have hcl:=hown.cells (g:=g9) (by rw[hv];rfl) 0 (int i64 s0) zs
   injection hv with h1 h2 h3
   subst h1 h2 h3
   have hcl:wo.cell? ⟨g9,0,none⟩=some (int i64 s0):=by simpa [Addr.add] using hcl
   gi_wp2_with (gi_at_call 78;refine(HL.out _ _ _ hcl).mono ?_;rintro e w12 ⟨v,rfl,Ax,I4⟩)
   go_ret2
   exact⟨_,rfl,dU Ax zo,Below.next BO.out I4⟩
theorem Gm(b:Bk)(s0:Nat)(w:World)(h:b.At w w.heap.size)(ok:b.Ok)(hcap:b.ng≤b.gc)(hl:∀s∈ak b,dR s)(hcan:Cu b (ak b).length=[(s0:Int)])(hs0:s0<1024):CallsIn FF 0 prog 19 #[b.val] w fun e w'=>∃v,e=.returned (.tuple #[v,int i64 0])∧w'.ownsRow w.heap.size 3 1 v (aL s0 10).length ((aL s0 10).map (int i64))∧Below w.heap.size w w':=by
 have HO:=hid fun w h=>mZ b w h ok hcap
 have HB:=hid fun A p w hc=>UC b A p s0 w hc ok hl hcan hs0
 have HA:=hid h
 obtain⟨n,hn⟩:∃n,n=(ak b).length:=⟨_,rfl⟩
 rw[← hn] at HO HB
 obtain⟨L0,hL0⟩:∃L,L=aL s0 10:=⟨_,rfl⟩
 rw[← hL0] at HB⊢
 clear hn h hcap hl ok hcan hs0 hL0
 obtain⟨days,most,gA,ng,gc,g,mA,nm,mc,m,cA,nc,cc,c⟩:=b
 simp only[Bk.val,Bk.cells,aA] at HO HB⊢
 gi_enter func19,ntmps19
 gi_wp2_with (first
  | (gi_at_call 37;refine(HO.out _ (HA.out.up (bw))).mono ?_;rintro e w2 ⟨A,p,rfl,hc2,hb2,-⟩)
  | (gi_at_call 55;refine(HB.out A p _ (hc2.below (bw))).mono ?_;rintro e w4 ⟨v,rfl,hv,hb4⟩))
 go_ret2
 have I5:=Below.al (Below.next (show Below w.heap.size w (w.alloc (.cells #[int i64 days,int i64 most,.slice gA ng gc,.slice mA nm mc,.slice cA nc cc] 26)) from bw) hb2) (.cells #[int i64 days,int i64 most,.slice gA ng gc,.slice mA nm mc,.slice cA nc cc,.slice A n p] 61)
 exact⟨v,rfl,dU hv I5.size,Below.next I5 hb4⟩
theorem Tryz.infoCt:(Tryz.prog.info? 81).map (fun i=>(i.zero,i.size,i.bytes))=some (some (.agg #[int i64 0,int i64 0,int i64 0,int i64 0]),4,32):=zk
def vl(c:Ct):List Value:=[int i64 c.good,int i64 c.day,int i64 c.lo,int i64 c.hi]
def IE(f:Nat→Ct)(k:Nat):List Value:=(List.range k).flatMap fun i=>vl (f i)
theorem rV(f:Nat→Ct)(k:Nat):IE f (k+1)=IE f k ++ vl (f k):=by unfold IE;rw[List.range_succ,List.flatMap_append];simp
theorem qL(f:Nat→Ct):∀k,(IE f k).length=k * 4
 | 0=>rfl
 | Nat.succ k=>by rw[rV,List.length_append,qL f k];simp[vl];omega
theorem Kt(f:Nat→Ct):∀ (k:Nat) {i j:Nat},i<k→j<4→(IE f k)[i * 4+j]? =some ((f i).cell j)
 | 0,_,_,h,_=>zo
 | Nat.succ k,i,j,h,hj=>by
   rw[rV]
   rcases Nat.lt_or_ge i k with h1|h1
   ·rw[List.getElem?_append_left (by rw[qL];omega)]
    exact Kt f k h1 hj
   ·obtain rfl:i=k:=zo
    rw[List.getElem?_append_right (by rw[qL];omega),qL]
    rw[show i * 4+j - i * 4=j by omega]
    rcases(show j=0∨j=1∨j=2∨j=3 by omega) with rfl|rfl|rfl|rfl <;> rfl
def QA(b:Bk)(s:Nat)(i:Nat):Ct:=b.c ((aL s 10).getD i 0).toNat
def iW(b:Bk)(s:Nat)(A:Option Addr)(cc:Nat):Bk:=⟨b.days,b.most,b.gA,b.ng,b.gc,b.g,b.mA,b.nm,b.mc,b.m,A,(aL s 10).length,cc,QA b s⟩
theorem Uw(b:Bk)(s:Nat)(A:Option Addr)(n p:Nat)(w:World)(hA:b.At w w.heap.size)(hs:s<1024)(hin:∀x∈aL s 10,0≤x∧x<b.nc):
 CallsIn SF 0 prog 84 #[.agg (aA b A n p),int i64 s] w fun e w'=>∃A' cc',e=.returned (.agg (aA (iW b s A' cc') A n p))∧Rows w' w'.heap.size 4 A' (aL s 10).length (fun i j=>(QA b s i).cell j)∧Below w.heap.size w w':=by
 have HS:=hid fun w=>Go.Proofs.YtoldgagdgjilgaaGreat.W.lZ s w hs
 obtain⟨f,hf⟩:∃f,f=QA b s:=⟨_,rfl⟩
 obtain⟨m',hm'⟩:∃m,m=(aL s 10).length:=⟨_,rfl⟩
 have UT:m'≤10:=by rw[hm'];exact sK s 10
 have HF:Hid (∀k,k<m'→∃j:Nat,(aL s 10).getD k 0=(j:Int)∧j<b.nc∧f k=b.c j):=hid fun k hk=>by
  rw[hm'] at hk
  have hmem:(aL s 10).getD k 0∈aL s 10:=by rw[List.getD_eq_getElem?_getD,List.getElem?_eq_getElem hk];exact List.getElem_mem hk
  have:=hin _ hmem
  refine⟨((aL s 10).getD k 0).toNat,zo,zo,by rw[hf];rfl⟩
 have hnc:m'=0∨0<b.nc:=by
  rcases Nat.eq_zero_or_pos m' with h|h
  ·exact .inl h
  ·obtain⟨j,_,hj,_⟩:=HF.out 0 h
   exact .inr zo
 have HE:Hid (∀A' cc',aA (iW b s A' cc') A n p=#[int i64 b.days,int i64 b.most,.slice b.gA b.ng b.gc,.slice b.mA b.nm b.mc,.slice A' m' cc',.slice A n p]):=hid fun A' cc'=>by rw[hm'];rfl
 have goal:∀ (e:Ending) (w':World),(∃A' cc',e=.returned (.agg #[int i64 b.days,int i64 b.most,.slice b.gA b.ng b.gc,.slice b.mA b.nm b.mc,.slice A' m' cc',.slice A n p])∧Rows w' w'.heap.size 4 A' m' (fun i j=>(f i).cell j)∧Below w.heap.size w w')→∃A' cc',e=.returned (.agg (aA (iW b s A' cc') A n p))∧Rows w' w'.heap.size 4 A' (aL s 10).length (fun i j=>(QA b s i).cell j)∧Below w.heap.size w w':=fun e w' ⟨A',cc',h1,h2,h3⟩=>⟨A',cc',by rw[HE.out];exact h1,by rw[← hm',← hf];exact h2,h3⟩
 refine CallsIn.mono ?_ goal
 obtain⟨L,hL⟩:∃L,L=aL s 10:=⟨_,rfl⟩
 rw[← hL] at HS HF hm'
 have HM:=hid hm'
 have HA:=hid hA
 obtain⟨i0,hi,hz0,hz1,hz2⟩:=info_parts Tryz.infoCt
 have hi0:=hid hi
 clear hi hf hm' hA hin hL goal HE
 obtain⟨days,most,gA,ng,gc,g,mA,nm,mc,m,cA,nc,cc,c⟩:=b
 simp only[aA] at HF hnc⊢
 obtain⟨w1,hw1⟩:∃w1,w1=(w.alloc (.cells #[int i64 days,int i64 most,.slice gA ng gc,.slice mA nm mc,.slice cA nc cc,.slice A n p] 61)).alloc (.cells #[int i64 0,int i64 0,.slice none 0 0,.slice none 0 0,.slice none 0 0,.slice none 0 0] 61):=⟨_,rfl⟩
 have B1:Hid (Below w.heap.size w w1):=hid (by rw[hw1];exact bw)
 have X1:Hid (Whole w1 w.heap.size 61 #[int i64 days,int i64 most,.slice gA ng gc,.slice mA nm mc,.slice cA nc cc,.slice A n p]):=hid (by rw[hw1];exact(Whole.new _ _ _).alloc _)
 have Y1:Hid (Whole w1 (w.heap.size+1) 61 #[int i64 0,int i64 0,.slice none 0 0,.slice none 0 0,.slice none 0 0,.slice none 0 0]):=hid (by
  have:=Whole.new (w.alloc (.cells #[int i64 days,int i64 most,.slice gA ng gc,.slice mA nm mc,.slice cA nc cc,.slice A n p] 61)) 61 #[int i64 0,int i64 0,.slice none 0 0,.slice none 0 0,.slice none 0 0,.slice none 0 0]
  rw[World.size_alloc] at this;rw[hw1];exact this)
 have hs1:w1.heap.size=w.heap.size+2:=by rw[hw1];simp
 have mQ:=hid hw1
 clear hw1
 gi_enter func84,ntmps84
 gi_wp2_with (gi_at_call 102;rw[← mQ.out];refine(HS.out w1).mono ?_;rintro e w3 ⟨v,rfl,hown,hb3⟩;obtain⟨AL,cL,rfl⟩:=fU hown;have HI:=hid (eZ hown);have HB3:=hid hb3;rw[← HM.out];rw[← HM.out] at HI)
 have X3:=hid (X1.out.below HB3.out X1.out.lt)
 have Y3:=hid (Y1.out.below HB3.out Y1.out.lt)
 have hs3:=hb3.size
 have MT:Hid (Below w.heap.size w w3):=hid (B1.out.trans (hb3.mono B1.out.size))
 clear hown hb3 mQ
 gi_loopw [5,11] (fun l i wr=>∃k:Nat,k≤m'∧i=int i64 k∧Hid (wr.ownsRow w3.heap.size 81 4 l k (IE f k)∧Below w3.heap.size w3 wr)) (fun _ i _=>m' - (intOf i).toNat)
 case atStart=>exact⟨0,Nat.zero_le _,rfl,hid ⟨⟨by simp[IE],.inl ⟨rfl,zs⟩⟩,Below.refl _ _⟩⟩
 case round=>
  obtain⟨k,hk,rfl,hT⟩:=hrel
  obtain⟨A9,n9,p9,rfl⟩:=gI hT.out.1
  obtain⟨wo,rfl⟩:∃wo:World,wo=wr:=⟨_,rfl⟩
  have hso:=hT.out.2.size
  have X4:=hid (X3.out.below hT.out.2 X3.out.lt)
  have Y4:=hid (Y3.out.below hT.out.2 Y3.out.lt)
  have BO:Hid (Below w.heap.size w wo):=hid (MT.out.trans (hT.out.2.mono zo))
  by_cases hlt:k<m'
  ·obtain⟨j,hj1,hj2,hj3⟩:=HF.out k hlt
   obtain⟨ad,hA',hbl,-⟩:=HA.out.c (show 0<nc by omega)
   simp only at hA' hj2 hj3
   subst hA'
   obtain⟨al,S',hall,-⟩:=HI.out (show 0<m' by omega)
   subst S'
   have d0:wo.cell? (al.add k)=some (int i64 j):=by
    refine(hT.out.2.cell (by rw[aJ];exact hall)).trans ?_
    have:=HI.out.at_ hlt
    rw[hj1] at this
    exact this
   have hr:∀q,q<4→wo.cell? ((ad.add (j * 4)).add q)=some ((f k).cell q):=fun q hq=>by rw[hj3];exact((HA.out.c.below BO.out).row hj2).2 q hq
   obtain⟨fk,Z4⟩:∃fk,fk=f k:=⟨_,rfl⟩
   rw[← Z4] at hr
   have N':=hid Z4
   obtain⟨gd,dy,lo,hi⟩:=fk
   have c0:wo.cell? (ad.add (j * 4))=some (int i64 gd):=hr 0 zD
   have c1:wo.cell? ⟨(ad.add (j * 4)).block,(ad.add (j * 4)).off+1,none⟩=some (int i64 dy):=hr 1 zD
   have c2:wo.cell? ⟨(ad.add (j * 4)).block,(ad.add (j * 4)).off+2,none⟩=some (int i64 lo):=hr 2 zD
   have c3:wo.cell? ⟨(ad.add (j * 4)).block,(ad.add (j * 4)).off+3,none⟩=some (int i64 hi):=hr 3 zD
   have x4:wo.cell? ⟨w.heap.size,4,none⟩=some (.slice (some ad) nc cc):=X4.out.cell 4
   clear hr hj1 hj3 Z4
   have Ho:=hid hT.out.1
   gi_wp2_with (gi_at_builtin;refine aG rfl rfl rfl fun K5 jZ=>?_;refine wp_append_lies _ _ _ _ rfl w3.heap.size 81 i0 _ 4 32 underlying24 hi0.out hz0 hz1 hz2 rfl zo (.slice A9 n9 p9) k _ rfl (bC Ho.out _) ⟨wo.heap.size,0,none⟩ 1 1 [int i64 gd,int i64 dy,int i64 lo,int i64 hi] rfl rfl (World.news_of_block (heap_alloc_new wo _)) (by simp[Value.oneCell']) zo zU zo zm (wo.heap.size+1) zs ?_;intro rJ qI w10 hown5 aZ om qN;refine jZ _ _ ?_;clear jZ K5)
   exact⟨⟨k+1,hlt,by push_cast;rfl,hid ⟨by rw[rV,← N'.out];exact hown5,(hT.out.2.alloc hso _).trans (below_grown aZ zm (fun g hg=>(dL Ho.out hg).1))⟩⟩,by simp[intOf];omega⟩
  ·obtain rfl:k=m':=zo
   obtain⟨A',c',hv'⟩:=fU hT.out.1
   injection hv' with h1 h2 h3
   subst h1 h2 h3
   have x0:wo.cell? ⟨w.heap.size,0,none⟩=some (int i64 days):=X4.out.cell 0
   have x1:wo.cell? ⟨w.heap.size,1,none⟩=some (int i64 most):=X4.out.cell 1
   have x2:wo.cell? ⟨w.heap.size,2,none⟩=some (.slice gA ng gc):=X4.out.cell 2
   have x3:wo.cell? ⟨w.heap.size,3,none⟩=some (.slice mA nm mc):=X4.out.cell 3
   have x4:wo.cell? ⟨w.heap.size,4,none⟩=some (.slice cA nc cc):=X4.out.cell 4
   have x5:wo.cell? ⟨w.heap.size,5,none⟩=some (.slice A n p):=X4.out.cell 5
   have y0:wo.cell? ⟨w.heap.size+1,0,none⟩=some (int i64 0):=Y4.out.cell 0
   have y1:wo.cell? ⟨w.heap.size+1,1,none⟩=some (int i64 0):=Y4.out.cell 1
   have y2:wo.cell? ⟨w.heap.size+1,2,none⟩=some (.slice none 0 0):=Y4.out.cell 2
   have y3:wo.cell? ⟨w.heap.size+1,3,none⟩=some (.slice none 0 0):=Y4.out.cell 3
   have y4:wo.cell? ⟨w.heap.size+1,4,none⟩=some (.slice none 0 0):=Y4.out.cell 4
   have y5:wo.cell? ⟨w.heap.size+1,5,none⟩=some (.slice none 0 0):=Y4.out.cell 5
   have xth:=X4.out.thaw
   have yth:=Y4.out.thaw
   gi_wp2
   have U:=((((((Y4.out.other (p:=⟨w.heap.size,4,none⟩) zs (.slice A9 n9 p9)).set 0 (int i64 days)).set 1 (int i64 most)).set 2 (.slice gA ng gc)).set 3 (.slice mA nm mc)).set 4 (.slice A9 n9 p9)).set 5 (.slice A n p)
   have u0:=U.cell 0
   have u1:=U.cell 1
   have u2:=U.cell 2
   have u3:=U.cell 3
   have u4:=U.cell 4
   have u5:=U.cell 5
   refine bodyPost_ret (v:=.agg #[int i64 days,int i64 most,.slice gA ng gc,.slice mA nm mc,.slice A9 n9 p9,.slice A n p]) (by simp[results,results84,go_sem,u0,u1,u2,u3,u4,u5]) rfl ⟨_,_,rfl,?_,?_⟩
   ·intro hn0
    obtain⟨g9,cp9,hg0,hg1,hg2⟩:=hT.out.1.form hn0
    injection hg0 with h1 h2 h3
    subst h1
    refine⟨_,rfl,by simpa [World.setCell] using hg2,fun i j hi hj=>?_⟩
    have hcl:=hT.out.1.cells (g:=g9) rfl (i * 4+j) _ (Kt f n9 hi hj)
    refine Eq.trans ?_ hcl
    have hne:∀q:Addr,q.block=w.heap.size∨q.block=w.heap.size+1→∀ (W:World) (v:Value),(W.setCell q v).cell? ((⟨g9,0,none⟩:Addr).add (i * 4+j))=W.cell? ((⟨g9,0,none⟩:Addr).add (i * 4+j)):=fun q hq W v=>World.cell?_of_block (Below.heap_setCell _ _ _ _ (by rw[aJ];simp only;omega))
    rw[hne _ (.inr rfl),hne _ (.inr rfl),hne _ (.inr rfl),hne _ (.inr rfl),hne _ (.inr rfl),hne _ (.inr rfl),hne _ (.inl rfl)]
   ·exact((((((BO.out.setCell (p:=⟨w.heap.size,4,none⟩) zs _).setCell zs _).setCell zs _).setCell zs _).setCell zs _).setCell zs _).setCell zs _
theorem ZH(b:Bk)(s:Nat)(A:Option Addr)(cc:Nat)(ok:b.Ok)(h4:(aL s 10).length≤4)(hin:∀x∈aL s 10,0≤x∧x<b.nc):(iW b s A cc).Ok:={
 days:=ok.days
 most:=ok.most
 dG:=⟨ok.dG.1,fun i hi=>let h:=ok.dG.2 i hi;⟨h.name,h.other,h.cost,h.pack,h.few⟩⟩
 moves:=⟨ok.moves.1,fun i hi=>let h:=ok.moves.2 i hi;⟨h.kind,h.good,h.day,h.order,h.few⟩⟩
 counts:=⟨h4,fun i hi=>by
  have hi':i<(aL s 10).length:=hi
  have hmem:(aL s 10).getD i 0∈aL s 10:=by rw[List.getD_eq_getElem?_getD,List.getElem?_eq_getElem hi'];exact List.getElem_mem hi'
  have hx:=hin _ hmem
  have h:=ok.counts.2 ((aL s 10).getD i 0).toNat zo
  exact⟨h.good,h.day,h.many⟩⟩ }
theorem JE(b:Bk)(ok:b.Ok)(ls:List Nat)(hl:∀s∈ls,dR s)(hn:ls.length≤64)(A:Option Addr)(p Bc:Nat)(w:World)(hA:b.At w w.heap.size)(hR:Rows w w.heap.size 1 A ls.length (fun i _=>int i64 ((ls.getD i 0:Nat):Int)))(hb:Whole w Bc 61 (aA b A ls.length p)):oZ SF 60 #[.pointer (some ⟨Bc,0,none⟩)] (aD b ls) w:=by
 refine⟨zs,enters_of func60 zk rfl,fun C W hW hC=>?_⟩
 exact I7 (p:=SF.fn) b ok A p ls hl hn C w.heap.size Bc W (fun x hx=>(hC x hx).2) (hb.below hW hb.lt) (hR.below hW) (hA.below hW) hW.size (fun h=>by have:=(hC _ h).1;have:=hb.lt;omega) (fun x hx h=>by have:=(hC _ h).1;omega)
end
section
open Go.RowKit
theorem uW(most:Int)(G M C:Nat):ak (Tb most G M C)=[0,1,8,9]:=zk
theorem eF(most:Int)(G M C:Nat):∀s∈ak (Tb most G M C),dR s:=by
 rw[uW]
 intro s hs
 simp at hs
 unfold dR
 omega
theorem jL(most:Int)(hm:0≤most∧most≤2)(G M C:Nat):(Tb most G M C).Ok:={
 days:=(by decide:(1:Int)≤10∧(10:Int)≤99)
 most:=hm
 dG:=⟨(by decide:1≤2∧2≤3),fun i hi=>by
  have hi:i<2:=hi
  rcases(show i=0∨i=1 by omega) with rfl|rfl
  ·exact⟨of_decide_eq_true zk,fun j hj=>zo,(by decide:(0:Int)≤5∧(5:Int)≤999),(by decide:(1:Int)≤4∧(4:Int)≤20),of_decide_eq_true zk⟩
  ·refine⟨of_decide_eq_true zk,fun j hj=>?_,(by decide:(0:Int)≤2∧(2:Int)≤999),(by decide:(1:Int)≤10∧(10:Int)≤20),of_decide_eq_true zk⟩
   obtain rfl:j=0:=zo
   exact of_decide_eq_true zk⟩
 moves:=⟨(by decide:4≤6),fun i hi=>by
  have hi:i<4:=hi
  rcases(show i=0∨i=1∨i=2∨i=3 by omega) with rfl|rfl|rfl|rfl
  all_goals exact⟨of_decide_eq_true zk,of_decide_eq_true zk,of_decide_eq_true zk,of_decide_eq_true zk,of_decide_eq_true zk⟩⟩
 counts:=⟨(by decide:2≤4),fun i hi=>by
  have hi:i<2:=hi
  rcases(show i=0∨i=1 by omega) with rfl|rfl
  all_goals exact⟨of_decide_eq_true zk,of_decide_eq_true zk,of_decide_eq_true zk⟩⟩ }
theorem kQ(G M C:Nat):(aD (Tb 1 G M C) (ak (Tb 1 G M C))).length=4:=zk
theorem pg(G M C:Nat):((aD (Tb 1 G M C) (ak (Tb 1 G M C))).filter fun h=>h.GU 3).length=4:=zk
theorem pf(G M C:Nat):((aD (Tb 1 G M C) (ak (Tb 1 G M C))).filter fun h=>h.GU 0).length=0:=zk
theorem Xp(G M C:Nat):bg (fun h=>aQ (Tb 1 G M C) h 1 1 10 4) (aD (Tb 1 G M C) (ak (Tb 1 G M C)))=(0,1,true):=zk
theorem Tq(G M C:Nat):bg (fun h=>iA (Tb 1 G M C) (stk (Tb 1 G M C) h 10 4) 2) (aD (Tb 1 G M C) (ak (Tb 1 G M C)))=(30,35,true):=zk
theorem Tj(G M C:Nat):bg (fun h=>IntKind.i64.wrap ((stk (Tb 1 G M C) h 10 4 0).tdiv 2)) (aD (Tb 1 G M C) (ak (Tb 1 G M C)))=(2,2,true):=zk
theorem dj(G M C:Nat):Cu (Tb 1 G M C) (ak (Tb 1 G M C)).length=[8]:=zk
theorem Ov(G M C:Nat)(A:Option Addr)(cc:Nat):(aD (iW (Tb 0 G M C) 0 A cc) (ak (Tb 0 G M C))).isEmpty=false:=zk
theorem Ow(G M C:Nat)(A:Option Addr)(cc:Nat):(aD (iW (Tb 0 G M C) 1 A cc) (ak (Tb 0 G M C))).isEmpty=false:=zk
theorem Ox(G M C:Nat)(A:Option Addr)(cc:Nat):(aD (iW (Tb 0 G M C) 2 A cc) (ak (Tb 0 G M C))).isEmpty=true:=zk
theorem Oy(G M C:Nat)(A:Option Addr)(cc:Nat):(aD (iW (Tb 0 G M C) 3 A cc) (ak (Tb 0 G M C))).isEmpty=true:=zk
def rates:Nat→Int
 | 0=>2
 | _=>3
theorem Xm(G M C:Nat):vH (Tb 1 G M C) rates 4 2=[1,1]:=zk
theorem Xn(G M C:Nat):vJ (Tb 1 G M C) rates 4 2=40:=zk
theorem Xw(G M C:Nat):∀k,k<2→(tZ (Tb 1 G M C) k).2.2=true:=fun k hk=>by
 rcases(show k=0∨k=1 by omega) with rfl|rfl
 ·kernel_rfl
 ·kernel_rfl
end
section
open Go Go.RowKit Go.Maps Go.Sort Go.Shelf
def Ao:Go.Shelf.Ren:=⟨fun|7=>73|10=>105|n=>n,fun|23=>113|26=>3|3=>4|28=>116|0=>0|27=>115|33=>92|4=>4|n=>n,fun|n=>n⟩
theorem Yy:Go.Proofs.SlLaysZI.n7 prog Ao:=⟨zk,⟨Tryz.f73.name,zD,Tryz.func73.trans (congrArg some zk)⟩,⟨Tryz.f105.name,zD,Tryz.func105.trans (congrArg some zk)⟩,zk,isAgg0,sizeOf0,zeroValue0,zk,isAgg4,sizeOf4,zeroValue4,zk,isAgg113,sizeOf113,zeroValue113,zk,isAgg3,sizeOf3,zeroValue3,zk,isAgg115,sizeOf115,zeroValue115,zk,isAgg116,sizeOf116,zeroValue116,zk,isAgg92,sizeOf92,zeroValue92⟩
def tY:Go.Shelf.Ren:=⟨fun|6=>72|8=>103|9=>104|11=>119|13=>121|12=>120|23=>158|24=>159|14=>149|15=>150|16=>151|17=>152|18=>153|19=>154|20=>155|21=>156|22=>157|25=>170|26=>171|27=>172|28=>173|29=>174|30=>160|31=>177|n=>n,fun|26=>3|28=>116|24=>38|0=>0|3=>3|37=>130|48=>158|50=>155|4=>4|40=>196|39=>195|45=>191|5=>5|9=>9|51=>210|55=>213|57=>217|58=>102|33=>92|n=>n,fun|n=>n⟩
theorem WG:Go.Proofs.SlLaysZI.n6 prog tY:=⟨zk,⟨Tryz.f72.name,zD,Tryz.func72.trans (congrArg some zk)⟩,⟨Tryz.f103.name,zD,Tryz.func103.trans (congrArg some zk)⟩,⟨Tryz.f119.name,zD,Tryz.func119.trans (congrArg some zk)⟩,zk,isAgg0,sizeOf0,zeroValue0,zk,isAgg38,sizeOf38,zeroValue38,zk,isAgg3,sizeOf3,zeroValue3,zk,isAgg116,sizeOf116,zeroValue116,zk⟩
def NM:Go.Shelf.Ren:=⟨fun|5=>104|8=>121|7=>120|19=>158|20=>159|10=>149|11=>150|12=>151|13=>152|14=>153|15=>154|16=>155|17=>156|18=>157|30=>170|31=>171|32=>172|33=>173|34=>174|35=>160|40=>177|n=>n,fun|23=>38|25=>3|3=>3|32=>130|22=>38|0=>0|44=>158|46=>155|4=>4|36=>196|35=>195|41=>191|5=>5|9=>9|53=>210|57=>213|63=>217|64=>102|n=>n,fun|n=>n⟩
theorem YD:Go.Proofs.SlLaysM.n5 prog NM:=⟨zk,⟨Tryz.f104.name,zD,Tryz.func104.trans (congrArg some zk)⟩,⟨Tryz.f120.name,zD,Tryz.func120.trans (congrArg some zk)⟩,Tryz.func121.trans (congrArg some zk),⟨Tryz.f149.name,zD,Tryz.func149.trans (congrArg some zk)⟩,⟨Tryz.f150.name,zD,Tryz.func150.trans (congrArg some zk)⟩,⟨Tryz.f151.name,zD,Tryz.func151.trans (congrArg some zk)⟩,⟨Tryz.f152.name,zD,Tryz.func152.trans (congrArg some zk)⟩,⟨Tryz.f153.name,zD,Tryz.func153.trans (congrArg some zk)⟩,⟨Tryz.f154.name,zD,Tryz.func154.trans (congrArg some zk)⟩,⟨Tryz.f155.name,zD,Tryz.func155.trans (congrArg some zk)⟩,⟨Tryz.f156.name,zD,Tryz.func156.trans (congrArg some zk)⟩,⟨Tryz.f157.name,zD,Tryz.func157.trans (congrArg some zk)⟩,Tryz.func158.trans (congrArg some zk),Tryz.func159.trans (congrArg some zk),⟨Tryz.f170.name,zD,Tryz.func170.trans (congrArg some zk)⟩,Tryz.func171.trans (congrArg some zk),Tryz.func172.trans (congrArg some zk),⟨Tryz.f173.name,zD,Tryz.func173.trans (congrArg some zk)⟩,⟨Tryz.f174.name,zD,Tryz.func174.trans (congrArg some zk)⟩,⟨Tryz.f160.name,zD,Tryz.func160.trans (congrArg some zk)⟩,⟨Tryz.f177.name,zD,Tryz.func177.trans (congrArg some zk)⟩,zk,isAgg0,sizeOf0,zeroValue0,zk,isAgg3,sizeOf3,zeroValue3,zk,isAgg4,sizeOf4,zeroValue4,zk,isAgg5,sizeOf5,zeroValue5,zk,isAgg9,sizeOf9,zeroValue9,zk,isAgg38,sizeOf38,zeroValue38,zk,isAgg38,sizeOf38,zeroValue38,zk,isAgg3,sizeOf3,zeroValue3,zk,isAgg130,sizeOf130,zeroValue130,zk,isAgg195,sizeOf195,zeroValue195,zk,isAgg196,sizeOf196,zeroValue196,zk,isAgg191,sizeOf191,zeroValue191,zk,isAgg158,sizeOf158,zeroValue158,zk,isAgg155,sizeOf155,zeroValue155,zk,isAgg210,sizeOf210,zeroValue210,zk,isAgg213,sizeOf213,zeroValue213,zk,isAgg217,sizeOf217,zeroValue217,zk,isAgg102,sizeOf102,zeroValue102⟩
def yy(g:Nat):Bool:=decide ((3≤g∧g<108)∨(112≤g∧g<125)∨(143≤g∧g<161)∨(166≤g∧g<178))
theorem kI{g:Nat}(h:yy g=true):FF.fn g:=(pI g).2 (by unfold yy at h;exact of_decide_eq_true h)
theorem KR{L:List Nat}(h:L.all yy=true):∀x∈L,FF.fn x:=fun x hx=>kI (List.all_eq_true.1 h x hx)
theorem px{L:List FuncId}{n m:Nat}{P:Program}{f:FuncId}{args:Array Value}{w:World}{R:Ending→World→Prop}(hL:∀x∈L,FF.fn x)(hf:FF.fn f)(h:∀D,CallsIn (Fence.list L (some D)) n P f args w R):CallsIn FF m P f args w R:=by
 refine⟨hf,fun cs _=>?_⟩
 obtain⟨e,w',fr,r,hs,rest⟩:=(h (cs.length+1+n)).2 cs (fun d hd=>by cases hd;exact Nat.le_refl _)
 have hm:∀x:Machine,x.fenced P (Fence.list L (some (cs.length+1+n)))→x.fenced P FF:=fun x hx g hg=>by
  obtain⟨a,b,c,d⟩:=hx g hg
  exact⟨a,b.imp (hL _) id,fun f hf=>hL _ (c f hf),fun d hd=>by cases hd⟩
 refine⟨e,w',fr,r,?_,rest⟩
 cases e with
 | returned v=>exact fE hm hs
 | panicked c=>exact fE hm hs
 | outgrown=>exact hs
theorem Gc(m:Nat):AnyZI.SortsIn prog tY FF m:=
 ⟨fun blk off cap ss W hH hblk hsz=>px (KR zk) (kI zk) fun D=>AnySM.slices_Sort_int_in YD D blk off cap ss W hH hblk hsz,
  fun p cap W=>px (KR zk) (kI zk) fun D=>AnySM.slices_Sort_int_none_in YD D p cap W⟩
theorem uC{n m:Nat}{P:Program}{f:FuncId}{args:Array Value}{w:World}{R:Ending→World→Prop}(h:CallsIn FF n P f args w R):CallsIn FF m P f args w R:=⟨h.1,fun cs _=>h.2 cs (fun d hd=>by cases hd)⟩
theorem Vv(mb:Option Nat)(W:World):CallsIn FF 0 prog 73 #[.map mb] W fun e w'=>e=.returned (.func (.func 105) #[] #[.pointer (some ⟨W.heap.size,0,none⟩)])∧w'=W.alloc (.cells #[.map mb] 113):=
 AnyZI.keys_in Yy FF 0 (kI zk) rfl mb W
theorem NP{H:Type}(b nn:Nat)(D0:DataW H)(R:Value→Option (DataW H × List MemPlace))(B:Nat)(w:World)(hB:Whole w B 113 #[.map (some b)])(hown:w.ownsMap prog 3 R b nn D0)(hmax:Maps.size D0≤maxLen)(hbytes:Maps.size D0 * 8≤140737488355328):
 CallsIn FF 0 prog 72 #[.func (.func 105) #[] #[.pointer (some ⟨B,0,none⟩)]] w fun e w'=>∃ (v:Value) (ss:List Int),e=.returned v∧ss.Perm (intKeys D0)∧
  w'.ownsRow w.heap.size 3 1 v ss.length ((ss.mergeSort (fun x y=>decide (x≤y))).map encZ)∧(v=.slice none 0 0↔ss=[])∧Below w.heap.size w w':=by
 have hseq:SeqGives FF 1 prog 105 #[.pointer (some ⟨B,0,none⟩)] encZ (fun ss=>ss.Perm (intKeys D0)) (Maps.size D0) w:=
  AnyZI.keys_gives (ρ:=Ao) {Yy with } FF 1 (kI zk) rfl zo B b nn D0 _ hB.lt (hB.cell 0) hown
 have cS:=AnyZI.sorted_in WG FF 4 (kI zk) (kI zk) (kI zk) (kI zk) rfl zo (Gc _) (enters_of func104 zk rfl) 105 #[.pointer (some ⟨B,0,none⟩)] (kI zk) (enters_of func105 zk rfl) _ _ hmax hbytes _ hseq
 exact uC cS
end
section
open Go Go.Sort Go.RowKit
section
variable{F:Fence}{n:Nat}{P:Program}{ops:Array Oper}{Q:Exit→Act→World→Prop}{md:Region.Mode}{S:World→Prop}{T:Act→World→Prop}{N:Nat}
theorem qy{a:Act}{w:World}{l:List Oper}(N:Nat)(hro:F.round=none)(hB:GD l.toArray N=true)
 (h:wpQuietIn F n P l.toArray (fun w'=>∃p:Regrown,w'=grow (redrawn w p.d) p.os) (fun a'=>∀w',(∃p:Regrown,w'=grow (redrawn w p.d) p.os)→wpListIn F n P l.toArray Q (l.drop N) a' w') (l.take N) a):wpAnyIn F n P .any l.toArray Q l.toArray.size (Array.replicate l.toArray.size false) a {w with drawn:=w.drawn+1 }:=by
 simp only[GD,Bool.and_eq_true,decide_eq_true_eq] at hB
 obtain⟨⟨⟨⟨h1,h2⟩,h3⟩,h4⟩,h5⟩:=hB
 have hlen:N<l.length:=by simpa using h4
 have htl:(l.take N).length=N:=zm
 have inv:HeadInv .any l.toArray N (Array.replicate l.toArray.size false):=⟨zs,fun j oj hj hl=>by rw[getD_replicate_false] at *;simp_all,fun t ht ht'=>getD_in (by simpa using ht') (getD_replicate_false _ _)⟩
 have:=qz (F:=F) (n:=n) (P:=P) (md:=.any) (ops:=l.toArray) (N:=N) (S:=fun w'=>∃p:Regrown,w'=grow (redrawn w p.d) p.os) (T:=wpListIn F n P l.toArray Q (l.drop N)) h1 h2 h3 h4 (l.take N) 0 (Array.replicate l.toArray.size false) a
  (fun j hj=>by rw[htl] at hj;simp[hj]) zo inv (by rw[htl];exact h5) h
 rw[htl] at this
 have h6:=mG (Q:=Q) hro (N:=N) (fun listed a w hB h=>by
  have hd:(l.drop N).length=l.toArray.size - N:=zs
  have:=iV (F:=F) (n:=n) (P:=P) (md:=.any) (ops:=l.toArray) (Q:=Q) (l.drop N) N listed a w (fun j hj=>zs) (by rw[hd];exact hB) h
  rw[hd] at this
  exact this) N _ a {w with drawn:=w.drawn+1 } ⟨⟨w.drawn+1,#[]⟩,by rw[grow_empty];rfl⟩ this
 rw[show l.toArray.size - N+N=l.toArray.size by omega] at h6
 exact h6
def uS(ops:Array Oper):Bool:=ops.all fun o=>match o.op with
 | .defer _=>false
 | _=>true
theorem Jm{ops:Array Oper}(h:uS ops=true){i:Nat}{o:Oper}(ho:ops[i]? =some o):∀c,o.op≠.defer c:=fun c hc=>by
 have:=Array.all_eq_true.1 h i (Array.getElem?_eq_some_iff.1 ho).1
 rw[(Array.getElem?_eq_some_iff.1 ho).2,hc] at this
 cases this
theorem Jv{o:Oper}{a:Act}{w:World}{K K':Act→World→Prop}{l:Nat}(hro:F.round=none)(hd:∀c,o.op≠.defer c)(hK:∀a w,K a w→K' a w)(h:o.wpIn F n P a w K Q):o.wpIn (F.inRound l) n P a w K' Q:=by
 have h':=Oper.wpIn_mono hK h
 obtain⟨h1,h2⟩:=h'
 rw[hro,Oper.semAt_eq _ _ _ hd] at h2
 refine⟨h1,?_⟩
 rw[Oper.semAt_eq _ _ _ hd]
 exact h2
theorem kT{l:Nat}(hro:F.round=none)(hd:uS ops=true):∀ (fuel:Nat) (listed:Array Bool) (a:Act) (w:World),wpAnyIn F n P md ops Q fuel listed a w→wpAnyIn (F.inRound l) n P md ops Q fuel listed a w
 | 0,_,_,_,h=>h
 | fuel+1,_,a,w,h=>⟨h.1,fun i hi=>by
   have h1:=h.2 i hi
   unfold wpOpIn at h1⊢
   split
   ·rename_i ho
    rw[ho] at h1
    exact kT hro hd fuel _ _ _ h1
   ·rename_i o ho
    rw[ho] at h1
    simp only at h1
    split
    ·rename_i hw
     rw[if_pos hw] at h1
     exact Jv hro (Jm hd ho) (fun a w h=>kT hro hd fuel _ a w h) h1
    ·rename_i hw
     rw[if_neg hw] at h1
     exact⟨h1.1,kT hro hd fuel _ _ _ h1.2⟩⟩
theorem kR{id l₀:Nat}{a:Act}{w:World}{l:List Oper}(N:Nat)(hro:F.round=none)(hm:P.follows .mixedOrders=true)(hB:GD l.toArray N=true)(hd:uS l.toArray=true)
 (h:wpQuietIn F n P l.toArray (fun w'=>∃p:Regrown,w'=grow (redrawn w p.d) p.os) (fun a'=>∀w',(∃p:Regrown,w'=grow (redrawn w p.d) p.os)→wpListIn F n P l.toArray Q (l.drop N) a' w') (l.take N) a):(Code.region id l.toArray true).wpIn (F.inRound l₀) n P Q a w:=
 wpIn_region_any hm (kT hro hd _ _ _ _ (qy N hro hB h))
end
end
end Go.Proofs.YtoldgagdgjilgaaGreat
