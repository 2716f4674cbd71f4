/- WD It WF0 GF -/
import Derived.Test.YthaelabgfnnebaaGreatA6
import Derived.RangeFuncNested
import Derived.RangeFuncBound
import Derived.RangeFuncCalls
import Derived.RangeFuncLeaves
set_option maxRecDepth 100000
set_option maxHeartbeats 16000000
set_option linter.unusedVariables false
set_option linter.unusedSectionVars false
open Go.IntKind(i64)
open Go.Lib(hid)
open Go.Proofs.Tryz
open Go.Value(int)
namespace Go.Proofs.YthaelabgfnnebaaGreat
section
open Go.RowKit
open Go.Sort (grow)
abbrev St:=Nat→Int
def stC(s:St):List Value:=[int i64 (s 0),int i64 (s 1),int i64 (s 2)]
def ext(s:St)(g:Nat)(n:Int):St:=fun i=>if i=g then n else s i
def bC(lo:Int)(k:Nat):List Int:=(List.range k).map fun(i:Nat)=>lo+i
def aS(b:Bk):Nat→List St
 | 0=>[fun _=>0]
 | Nat.succ k=>(aS b k).flatMap fun s=>(bC (b.g k).lo ((b.g k).hi - (b.g k).lo+1).toNat).map fun n=>ext s k n
def kG(l:List St):List Value:=l.flatMap stC
theorem mg(l l':List St):kG (l ++ l')=kG l ++ kG l':=List.flatMap_append
theorem FZ:∀ (l:List St) {i j:Nat},i<l.length→j<3→(kG l)[i * 3+j]? =some (int i64 (l.getD i (fun _=>0) j))
 | [],_,_,h,_=>by cases h
 | x :: l,0,j,_,hj=>by
   rcases(show j=0∨j=1∨j=2 by omega) with rfl|rfl|rfl <;> rfl
 | x :: l,i+1,j,h,hj=>by
   have:=FZ l (i:=i) (j:=j) (by simpa using h) hj
   have e:(kG (x :: l))[(i+1) * 3+j]? =(kG l)[i * 3+j]?:=by
    rw[show(i+1) * 3+j=(i * 3+j)+3 by omega]
    rfl
   rw[e,this]
   simp
theorem mJ(lo:Int)(k:Nat):bC lo (k+1)=bC lo k ++ [lo+k]:=by unfold bC;rw[List.range_succ,List.map_append];rfl
theorem Tryz.infoS:(Tryz.prog.info? 85).map (fun i=>(i.zero,i.size,i.bytes))=some (some (.agg #[int i64 0,int i64 0,int i64 0]),3,24):=zk
theorem l9(b:Bk)(h:kg b):∀k,k≤b.ng→(aS b k).length≤3 ^ k
 | 0,_=>by simp[aS]
 | Nat.succ k,hk=>by
   have ih:=l9 b h k zo
   have hf:=jK (h.2 k zo).few
   have:∀l:List St,(l.flatMap fun s=>(bC (b.g k).lo ((b.g k).hi - (b.g k).lo+1).toNat).map fun n=>ext s k n).length≤l.length * 3:=fun l=>by
    induction l with
    | nil=>simp
    | cons x l ih=>rw[List.flatMap_cons,List.length_append];simp[bC] at ih⊢;omega
   have h2:=this (aS b k)
   simp only[aS]
   rw[Nat.pow_succ]
   omega
theorem RP(b:Bk)(w:World)(h:b.At w w.heap.size)(ok:kg b):CallsIn SF 0 prog 105 #[b.val] w fun e w'=>∃A p,e=.returned (.slice A (aS b b.ng).length p)∧Rows w' w'.heap.size 3 A (aS b b.ng).length (fun i j=>int i64 ((aS b b.ng).getD i (fun _=>0) j))∧(∀ad,A=some ad→w.heap.size<ad.block)∧Below w.heap.size w w':=by
 obtain⟨days,most,gA,ng,gc,g,mA,nm,mc,m,cA,nc,cc,c⟩:=b
 have hfl:=fun k hk=>l9 (⟨days,most,gA,ng,gc,g,mA,nm,mc,m,cA,nc,cc,c⟩:Bk) ok k hk
 simp only[Bk.val,Bk.cells]
 obtain⟨L,hL⟩:∃L,L=aS (⟨days,most,gA,ng,gc,g,mA,nm,mc,m,cA,nc,cc,c⟩:Bk):=⟨_,rfl⟩
 have hL0:L 0=[fun _=>0]:=by rw[hL];rfl
 have oY:∀k,L (k+1)=(L k).flatMap fun s=>(bC (g k).lo ((g k).hi - (g k).lo+1).toNat).map fun n=>ext s k n:=fun k=>by rw[hL];rfl
 rw[← hL] at hfl⊢
 have BK:ng≤3:=ok.1.2
 have lh:=fun k hk=>jK (ok.2 k hk).few
 simp only at hfl lh
 clear hL ok
 have Hh:=hid h
 have QW:=hid oY
 have Nd:=hid hfl
 have OK:=hid lh
 clear h oY hfl lh
 obtain⟨iS,Th,hm0,hm1,hm2⟩:=info_parts Tryz.infoS
 have BB:=hid Th
 clear Th
 gi_enter func105,ntmps105
 gi_wp2
 gi_loopw [3,16] (fun l i wr=>∃k:Nat,k≤ng∧i=int i64 k∧∃A p,l=.slice A (L k).length p∧Hid (Rows wr wr.heap.size 3 A (L k).length (fun i j=>int i64 ((L k).getD i (fun _=>0) j))∧Below (w.heap.size+1) (w.alloc (.cells #[int i64 days,int i64 most,.slice gA ng gc,.slice mA nm mc,.slice cA nc cc] 74)) wr∧(∀ad,A=some ad→w.heap.size<ad.block))) (fun _ i _=>ng - (intOf i).toNat)
 case atStart=>
  refine⟨0,Nat.zero_le _,rfl,some ⟨w.heap.size+1,0,none⟩,1,by rw[hL0];rfl,hid ⟨?_,?_⟩⟩
  ·have hW:=Whole.new (w.alloc (.cells #[int i64 days,int i64 most,.slice gA ng gc,.slice mA nm mc,.slice cA nc cc] 74)) 85 #[int i64 0,int i64 0,int i64 0]
   rw[World.size_alloc] at hW
   rw[hL0]
   intro _
   refine⟨_,rfl,zs,fun i j hi hj=>?_⟩
   obtain rfl:i=0:=by simpa using hi
   have e:((⟨w.heap.size+1,0,none⟩:Addr).add (0 * 3+j))=⟨w.heap.size+1,j,none⟩:=by unfold Addr.add;split <;> simp_all
   rw[e,hW.cell]
   rcases(show j=0∨j=1∨j=2 by omega) with rfl|rfl|rfl <;> rfl
  ·exact⟨(Below.refl _ _).alloc zs _,fun ad h=>by cases h;exact Nat.lt_succ_self _⟩
 case round=>
  obtain⟨k,hk,rfl,A,p,rfl,hR⟩:=hrel
  obtain⟨wo,rfl⟩:∃wo:World,wo=wr:=⟨_,rfl⟩
  have hsz:w.heap.size+1≤wo.heap.size:=by have:=hR.out.2.1.size;simpa using this
  have Sq:w.heap.size<wo.heap.size:=hsz
  have hbx:∀o,wo.cell? ⟨w.heap.size,o,none⟩=(#[int i64 days,int i64 most,.slice gA ng gc,.slice mA nm mc,.slice cA nc cc]:Array Value)[o]?:=((Whole.new w 74 #[int i64 days,int i64 most,.slice gA ng gc,.slice mA nm mc,.slice cA nc cc]).below hR.out.2.1 (Nat.lt_succ_self _)).cell
  by_cases hlt:k<ng
  ·obtain⟨ad,hA',hbl,-⟩:=Hh.out.g (show 0<ng by omega)
   simp only at hA'
   subst hA'
   obtain⟨gk,D5⟩:∃gk,gk=g k:=⟨_,rfl⟩
   have hr:∀j,j<5→wo.cell? ((ad.add (k * 5)).add j)=some (gk.cell j):=fun j hj=>by rw[D5];exact(((Hh.out.g.alloc (Nat.le_refl _) (.cells #[int i64 days,int i64 most,.slice (some ad) ng gc,.slice mA nm mc,.slice cA nc cc] 74)).more (Nat.le_succ _)).below hR.out.2.1).row hlt |>.2 j hj
   have hok:=OK.out k hlt
   have hLk:=QW.out k
   have Tl:=Nd.out k zo
   have GM:=Nd.out (k+1) zo
   rw[← D5] at hok hLk
   obtain⟨Ms,co,pk,lo,hi⟩:=gk
   simp only at hok hLk
   have c0:wo.cell? (ad.add (k * 5))=some (.string Ms):=hr 0 zD
   have c1:wo.cell? ⟨(ad.add (k * 5)).block,(ad.add (k * 5)).off+1,none⟩=some (int i64 co):=hr 1 zD
   have c2:wo.cell? ⟨(ad.add (k * 5)).block,(ad.add (k * 5)).off+2,none⟩=some (int i64 pk):=hr 2 zD
   have c3:wo.cell? ⟨(ad.add (k * 5)).block,(ad.add (k * 5)).off+3,none⟩=some (int i64 lo):=hr 3 zD
   have c4:wo.cell? ⟨(ad.add (k * 5)).block,(ad.add (k * 5)).off+4,none⟩=some (int i64 hi):=hr 4 zD
   clear hr D5
   obtain⟨cnt,hcnt⟩:∃cnt,cnt=(hi - lo+1).toNat:=⟨_,rfl⟩
   rw[← hcnt] at hLk
   have hc3:cnt≤3:=zo
   have HC:Hid ((cnt:Int)=hi - lo+1):=hid zo
   clear hcnt
   obtain⟨f,hf⟩:∃f:St→List St,f=fun s=>(bC lo cnt).map fun n=>ext s k n:=⟨_,rfl⟩
   have SW:L (k+1)=(L k).flatMap f:=by rw[hLk,hf]
   have hfl:∀l:List St,(l.flatMap f).length=l.length * cnt:=fun l=>by
    induction l with
    | nil=>simp
    | cons x l ih=>rw[List.flatMap_cons,List.length_append,ih,hf];simp[bC,Nat.succ_mul];omega
   have hln:(L k).length≤27:=by
    refine Nat.le_trans Tl (Nat.le_trans (Nat.pow_le_pow_right zD (show k≤3 by omega)) zD)
   have HL1:=hid SW
   have X':=hid hf
   have Y':=hid hfl
   clear hLk SW hf hfl Tl GM
   obtain⟨l0,hl0⟩:∃l0,l0=L k:=⟨_,rfl⟩
   have aq:=hid hl0
   rw[← hl0] at hR hln
   obtain⟨N,hN⟩:∃N,N=l0.length:=⟨_,rfl⟩
   rw[← hl0,← hN]
   have HN:=hid hN
   clear hl0
   rw[← hN] at hR hln
   clear hN
   gi_wp2
   obtain⟨wg,hwg⟩:∃wg,wg=wo.alloc (.cells #[.string Ms,int i64 co,int i64 pk,int i64 lo,int i64 hi] 40):=⟨_,rfl⟩
   have G0:=hid (show Whole wg wo.heap.size 40 #[.string Ms,int i64 co,int i64 pk,int i64 lo,int i64 hi] by rw[hwg];exact Whole.new _ _ _)
   have GB:=hid (show Below wo.heap.size wo wg by rw[hwg];exact(Below.refl _ _).alloc (Nat.le_refl _) _)
   have hgs:wg.heap.size=wo.heap.size+1:=by rw[hwg];simp
   rw[← hwg]
   clear hwg c0 c1 c2 c3 c4
   gi_loopw [6,23] (fun l2 j wj=>∃q:Nat,q≤N∧j=int i64 q∧Hid (wj.ownsRow wg.heap.size 85 3 l2 (q * cnt) (kG ((l0.take q).flatMap f))∧Below wg.heap.size wg wj)) (fun _ j _=>N - (intOf j).toNat)
   case atStart=>exact⟨0,Nat.zero_le _,rfl,hid ⟨⟨by simp[kG],.inl ⟨rfl,zs⟩⟩,Below.refl _ _⟩⟩
   case round=>
    obtain⟨q,hq,rfl,hS⟩:=hrel
    obtain⟨A9,n9,p9,rfl⟩:=eX hS.out.1
    obtain⟨wj,rfl⟩:∃wj:World,wj=wr:=⟨_,rfl⟩
    have hsj:=hS.out.2.size
    by_cases hq2:q<N
    ·have hRj:=hR.out.1.below (GB.out.trans (hS.out.2.mono zo))
     obtain⟨aa,rfl,hab,-⟩:=hRj (show 0<N by omega)
     have hrw:=hRj.row hq2
     obtain⟨s,hs⟩:∃s,s=l0.getD q (fun _=>0):=⟨_,rfl⟩
     have d0:wj.cell? (aa.add (q * 3))=some (int i64 (s 0)):=by rw[hs];exact hrw.2 0 zD
     have d1:wj.cell? ⟨(aa.add (q * 3)).block,(aa.add (q * 3)).off+1,none⟩=some (int i64 (s 1)):=by rw[hs];exact hrw.2 1 zD
     have d2:wj.cell? ⟨(aa.add (q * 3)).block,(aa.add (q * 3)).off+2,none⟩=some (int i64 (s 2)):=by rw[hs];exact hrw.2 2 zD
     have HS:=hid hs
     have g3:=(G0.out.below hS.out.2 zo).cell 3
     have g4:=(G0.out.below hS.out.2 zo).cell 4
     clear hs hrw hRj
     have hgl:wo.heap.size<wj.heap.size:=zo
     gi_wp2
     have hown:=hS.out.1
     have hge:∀g,(Value.slice A9 n9 p9).ownBlock=some g→g≠wj.heap.size:=fun g hg=>by have:=(bR hown hg).2;omega
     obtain⟨wn,hwn⟩:∃wn,wn=wj.alloc (.cells #[int i64 (s 0),int i64 (s 1),int i64 (s 2)] 85):=⟨_,rfl⟩
     have N0:Hid (Whole wn wj.heap.size 85 #[int i64 (s 0),int i64 (s 1),int i64 (s 2)]):=hid (by rw[hwn];exact Whole.new _ _ _)
     have NB:Hid (Below wg.heap.size wg wn):=hid (by rw[hwn];exact hS.out.2.alloc hsj _)
     have NO:Hid (wn.ownsRow wg.heap.size 85 3 (.slice A9 n9 p9) (q * cnt) (kG ((l0.take q).flatMap f))):=hid (by rw[hwn];exact aQ hown _)
     have hns:wn.heap.size=wj.heap.size+1:=by rw[hwn];simp
     have Nm:=hid hge
     rw[← hwn]
     clear hwn hown hge d0 d1 d2 g3 g4 hS
     have hqc:q * cnt≤81:=Nat.le_trans (Nat.mul_le_mul (show q≤27 by omega) hc3) zD
     gi_loopw [6,9] (fun l3 n w3=>∃i:Nat,i≤cnt∧n=int i64 (lo+i)∧∃z:St,Hid (w3.ownsRow wg.heap.size 85 3 l3 (q * cnt+i) (kG ((l0.take q).flatMap f ++ (bC lo i).map fun n=>ext s k n))∧(∀g,l3.ownBlock=some g→g≠wj.heap.size)∧Whole w3 wj.heap.size 85 #[int i64 (z 0),int i64 (z 1),int i64 (z 2)]∧(∀x,ext z k x=ext s k x)∧Below wg.heap.size wg w3)) (fun _ n _=>(hi+1 - intOf n).toNat)
     case atStart=>exact⟨0,Nat.zero_le _,zs,s,hid ⟨by simpa [bC] using NO.out,Nm.out,N0.out,fun _=>rfl,NB.out⟩⟩
     case round=>
      obtain⟨i,hii,rfl,z,hT⟩:=hrel
      clear N0 NB NO Nm
      obtain⟨A3,n3,p3,rfl⟩:=eX hT.out.1
      have hs3:=hT.out.2.2.1.lt
      have g4:=(G0.out.below hT.out.2.2.2.2 zo).cell 4
      have aap:wo.heap.size<wr.heap.size:=zo
      by_cases hic:i<cnt
      ·have hd:decide (lo+(i:Int)≤hi)=true:=decide_eq_true (by have:=HC.out;omega)
       have e1:wrap64 (lo+(i:Int)+1)=lo+(i:Int)+1:=IntWalk.wrap64_in _ (by have:=HC.out;omega)
       have x0:wr.cell? ⟨wj.heap.size,0,none⟩=some (int i64 (z 0)):=hT.out.2.2.1.cell 0
       have x1:wr.cell? ⟨wj.heap.size,1,none⟩=some (int i64 (z 1)):=hT.out.2.2.1.cell 1
       have x2:wr.cell? ⟨wj.heap.size,2,none⟩=some (int i64 (z 2)):=hT.out.2.2.1.cell 2
       have xf:=hT.out.2.2.1.thaw
       have aaw:¬ wo.heap.size=wj.heap.size:=zo
       obtain⟨nv,eo⟩:∃nv,nv=lo+(i:Int):=⟨_,rfl⟩
       have Lh:=hid eo
       rw[← eo] at hd e1⊢
       have E1:=hid e1
       clear eo
       have HO:Hid (∀o v,((wr.setCell ⟨wj.heap.size,k,none⟩ v).alloc o).ownsRow wg.heap.size 85 3 (.slice A3 n3 p3) (q * cnt+i) (kG ((l0.take q).flatMap f ++ (bC lo i).map fun n=>ext s k n))):=hid fun o v=>aQ (jS hT.out.1 fun g hg _=>Below.heap_setCell _ _ _ _ (hT.out.2.1 g hg)) o
       have hz:ext z k nv=ext s k nv:=hT.out.2.2.2.1 nv
       have HZ:=hid hz
       clear hz
       rcases(show k=0∨k=1∨k=2 by omega) with rfl|rfl|rfl
       ·have hsc:(wr.setCell ⟨wj.heap.size,0,none⟩ (int i64 nv)).heap.size=wr.heap.size:=by simp[World.setCell]
        have hbk:((wr.setCell ⟨wj.heap.size,0,none⟩ (int i64 nv)).alloc (.cells #[int i64 nv,int i64 (z 1),int i64 (z 2)] 85)).heap[wr.heap.size]? =some (.cells #[int i64 nv,int i64 (z 1),int i64 (z 2)] 85):=by
         have:=heap_alloc_new (wr.setCell ⟨wj.heap.size,0,none⟩ (int i64 nv)) (.cells #[int i64 nv,int i64 (z 1),int i64 (z 2)] 85)
         rwa[hsc] at this
        have mf:=hid hbk
        have hs5:((wr.setCell ⟨wj.heap.size,0,none⟩ (int i64 nv)).alloc (.cells #[int i64 nv,int i64 (z 1),int i64 (z 2)] 85)).heap.size=wr.heap.size+1:=by rw[World.size_alloc,hsc]
        have QZ:=hid hs5
        have mB:=hid (HO.out (.cells #[int i64 nv,int i64 (z 1),int i64 (z 2)] 85) (int i64 nv))
        have Lg:Hid (Below wg.heap.size wg ((wr.setCell ⟨wj.heap.size,0,none⟩ (int i64 nv)).alloc (.cells #[int i64 nv,int i64 (z 1),int i64 (z 2)] 85))):=hid ((hT.out.2.2.2.2.setCell (p:=⟨wj.heap.size,0,none⟩) hsj _).alloc (by rw[hsc];omega) _)
        have m6:Hid (Whole ((wr.setCell ⟨wj.heap.size,0,none⟩ (int i64 nv)).alloc (.cells #[int i64 nv,int i64 (z 1),int i64 (z 2)] 85)) wj.heap.size 85 #[int i64 nv,int i64 (z 1),int i64 (z 2)]):=hid ((hT.out.2.2.1.set 0 (int i64 nv)).alloc _)
        clear hsc hbk hs5
        gi_wp2_with (gi_at_builtin;refine aF rfl rfl rfl fun K5 iX=>?_;refine wp_append_lies _ _ _ _ rfl wg.heap.size 85 iS _ 3 24 underlying145 BB.out hm0 hm1 hm2 rfl zo (.slice A3 n3 p3) (q * cnt+i) _ rfl mB.out ⟨wr.heap.size,0,none⟩ 1 1 [int i64 nv,int i64 (z 1),int i64 (z 2)] rfl rfl (World.news_of_block mf.out) (by simp[Value.oneCell']) zo zU zo (by rw[QZ.out];omega) (wr.heap.size+1) QZ.out ?_;intro pz nD w5 hown5 aM lG nI;refine iX _ _ ?_;clear iX K5)
        go_roundw
        case rel=>
         refine⟨_,_,_,_,_,_,_,_,_,_,_,_,_,_,_,_,?_,rfl⟩
         have hgg:pz≠wj.heap.size:=by
          rcases lG with h|h
          ·exact hT.out.2.1 pz h
          ·omega
         refine⟨i+1,zo,by(first|rw[E1.out] |skip);rw[Lh.out];congr 1;push_cast;omega,ext s 0 nv,hid ⟨?_,fun g hg=>by cases hg;exact hgg,?_,fun x=>by funext y;simp only[ext];split <;> rfl,Lg.out.trans (below_grown aM (by rw[QZ.out];omega) (fun g hg=>(bR hT.out.1 hg).1))⟩⟩
         ·rw[mJ,List.map_append,← List.append_assoc,mg,← Lh.out]
          have e:kG (List.map (fun n=>ext s 0 n) [nv])=[int i64 nv,int i64 (z 1),int i64 (z 2)]:=by
           rw[List.map_singleton,← HZ.out];rfl
          rw[e]
          exact hown5
         ·rw[← HZ.out]
          exact m6.out.grown aM (fun e=>by exact absurd rfl (hT.out.2.1 _ e.symm))
        case measure=>have:=HC.out;have:=Lh.out;simp[intOf];omega
       ·have hsc:(wr.setCell ⟨wj.heap.size,1,none⟩ (int i64 nv)).heap.size=wr.heap.size:=by simp[World.setCell]
        have hbk:((wr.setCell ⟨wj.heap.size,1,none⟩ (int i64 nv)).alloc (.cells #[int i64 (z 0),int i64 nv,int i64 (z 2)] 85)).heap[wr.heap.size]? =some (.cells #[int i64 (z 0),int i64 nv,int i64 (z 2)] 85):=by
         have:=heap_alloc_new (wr.setCell ⟨wj.heap.size,1,none⟩ (int i64 nv)) (.cells #[int i64 (z 0),int i64 nv,int i64 (z 2)] 85)
         rwa[hsc] at this
        have mf:=hid hbk
        have hs5:((wr.setCell ⟨wj.heap.size,1,none⟩ (int i64 nv)).alloc (.cells #[int i64 (z 0),int i64 nv,int i64 (z 2)] 85)).heap.size=wr.heap.size+1:=by rw[World.size_alloc,hsc]
        have QZ:=hid hs5
        have mB:=hid (HO.out (.cells #[int i64 (z 0),int i64 nv,int i64 (z 2)] 85) (int i64 nv))
        have Lg:Hid (Below wg.heap.size wg ((wr.setCell ⟨wj.heap.size,1,none⟩ (int i64 nv)).alloc (.cells #[int i64 (z 0),int i64 nv,int i64 (z 2)] 85))):=hid ((hT.out.2.2.2.2.setCell (p:=⟨wj.heap.size,1,none⟩) hsj _).alloc (by rw[hsc];omega) _)
        have m6:Hid (Whole ((wr.setCell ⟨wj.heap.size,1,none⟩ (int i64 nv)).alloc (.cells #[int i64 (z 0),int i64 nv,int i64 (z 2)] 85)) wj.heap.size 85 #[int i64 (z 0),int i64 nv,int i64 (z 2)]):=hid ((hT.out.2.2.1.set 1 (int i64 nv)).alloc _)
        clear hsc hbk hs5
        gi_wp2_with (gi_at_builtin;refine aF rfl rfl rfl fun K5 iX=>?_;refine wp_append_lies _ _ _ _ rfl wg.heap.size 85 iS _ 3 24 underlying145 BB.out hm0 hm1 hm2 rfl zo (.slice A3 n3 p3) (q * cnt+i) _ rfl mB.out ⟨wr.heap.size,0,none⟩ 1 1 [int i64 (z 0),int i64 nv,int i64 (z 2)] rfl rfl (World.news_of_block mf.out) (by simp[Value.oneCell']) zo zU zo (by rw[QZ.out];omega) (wr.heap.size+1) QZ.out ?_;intro pz nD w5 hown5 aM lG nI;refine iX _ _ ?_;clear iX K5)
        go_roundw
        case rel=>
         refine⟨_,_,_,_,_,_,_,_,_,_,_,_,_,_,_,_,?_,rfl⟩
         have hgg:pz≠wj.heap.size:=by
          rcases lG with h|h
          ·exact hT.out.2.1 pz h
          ·omega
         refine⟨i+1,zo,by(first|rw[E1.out] |skip);rw[Lh.out];congr 1;push_cast;omega,ext s 1 nv,hid ⟨?_,fun g hg=>by cases hg;exact hgg,?_,fun x=>by funext y;simp only[ext];split <;> rfl,Lg.out.trans (below_grown aM (by rw[QZ.out];omega) (fun g hg=>(bR hT.out.1 hg).1))⟩⟩
         ·rw[mJ,List.map_append,← List.append_assoc,mg,← Lh.out]
          have e:kG (List.map (fun n=>ext s 1 n) [nv])=[int i64 (z 0),int i64 nv,int i64 (z 2)]:=by
           rw[List.map_singleton,← HZ.out];rfl
          rw[e]
          exact hown5
         ·rw[← HZ.out]
          exact m6.out.grown aM (fun e=>by exact absurd rfl (hT.out.2.1 _ e.symm))
        case measure=>have:=HC.out;have:=Lh.out;simp[intOf];omega
       ·have hsc:(wr.setCell ⟨wj.heap.size,2,none⟩ (int i64 nv)).heap.size=wr.heap.size:=by simp[World.setCell]
        have hbk:((wr.setCell ⟨wj.heap.size,2,none⟩ (int i64 nv)).alloc (.cells #[int i64 (z 0),int i64 (z 1),int i64 nv] 85)).heap[wr.heap.size]? =some (.cells #[int i64 (z 0),int i64 (z 1),int i64 nv] 85):=by
         have:=heap_alloc_new (wr.setCell ⟨wj.heap.size,2,none⟩ (int i64 nv)) (.cells #[int i64 (z 0),int i64 (z 1),int i64 nv] 85)
         rwa[hsc] at this
        have mf:=hid hbk
        have hs5:((wr.setCell ⟨wj.heap.size,2,none⟩ (int i64 nv)).alloc (.cells #[int i64 (z 0),int i64 (z 1),int i64 nv] 85)).heap.size=wr.heap.size+1:=by rw[World.size_alloc,hsc]
        have QZ:=hid hs5
        have mB:=hid (HO.out (.cells #[int i64 (z 0),int i64 (z 1),int i64 nv] 85) (int i64 nv))
        have Lg:Hid (Below wg.heap.size wg ((wr.setCell ⟨wj.heap.size,2,none⟩ (int i64 nv)).alloc (.cells #[int i64 (z 0),int i64 (z 1),int i64 nv] 85))):=hid ((hT.out.2.2.2.2.setCell (p:=⟨wj.heap.size,2,none⟩) hsj _).alloc (by rw[hsc];omega) _)
        have m6:Hid (Whole ((wr.setCell ⟨wj.heap.size,2,none⟩ (int i64 nv)).alloc (.cells #[int i64 (z 0),int i64 (z 1),int i64 nv] 85)) wj.heap.size 85 #[int i64 (z 0),int i64 (z 1),int i64 nv]):=hid ((hT.out.2.2.1.set 2 (int i64 nv)).alloc _)
        clear hsc hbk hs5
        gi_wp2_with (gi_at_builtin;refine aF rfl rfl rfl fun K5 iX=>?_;refine wp_append_lies _ _ _ _ rfl wg.heap.size 85 iS _ 3 24 underlying145 BB.out hm0 hm1 hm2 rfl zo (.slice A3 n3 p3) (q * cnt+i) _ rfl mB.out ⟨wr.heap.size,0,none⟩ 1 1 [int i64 (z 0),int i64 (z 1),int i64 nv] rfl rfl (World.news_of_block mf.out) (by simp[Value.oneCell']) zo zU zo (by rw[QZ.out];omega) (wr.heap.size+1) QZ.out ?_;intro pz nD w5 hown5 aM lG nI;refine iX _ _ ?_;clear iX K5)
        go_roundw
        case rel=>
         refine⟨_,_,_,_,_,_,_,_,_,_,_,_,_,_,_,_,?_,rfl⟩
         have hgg:pz≠wj.heap.size:=by
          rcases lG with h|h
          ·exact hT.out.2.1 pz h
          ·omega
         refine⟨i+1,zo,by(first|rw[E1.out] |skip);rw[Lh.out];congr 1;push_cast;omega,ext s 2 nv,hid ⟨?_,fun g hg=>by cases hg;exact hgg,?_,fun x=>by funext y;simp only[ext];split <;> rfl,Lg.out.trans (below_grown aM (by rw[QZ.out];omega) (fun g hg=>(bR hT.out.1 hg).1))⟩⟩
         ·rw[mJ,List.map_append,← List.append_assoc,mg,← Lh.out]
          have e:kG (List.map (fun n=>ext s 2 n) [nv])=[int i64 (z 0),int i64 (z 1),int i64 nv]:=by
           rw[List.map_singleton,← HZ.out];rfl
          rw[e]
          exact hown5
         ·rw[← HZ.out]
          exact m6.out.grown aM (fun e=>by exact absurd rfl (hT.out.2.1 _ e.symm))
        case measure=>have:=HC.out;have:=Lh.out;simp[intOf];omega
      ·obtain rfl:i=cnt:=zo
       have hd:decide (lo+(i:Int)≤hi)=false:=decide_eq_false (by have:=HC.out;omega)
       gi_wp2
       go_roundw
       case rel=>
        refine⟨q+1,zo,by go_num,hid ⟨?_,hT.out.2.2.2.2⟩⟩
        have e:(l0.take (q+1)).flatMap f=(l0.take q).flatMap f ++ (bC lo i).map fun n=>ext s k n:=by
         rw[List.take_add_one,List.flatMap_append]
         congr 1
         rw[show l0[q]? =some s by rw[HS.out];simp[show q<l0.length by rw[← HN.out];exact hq2],X'.out]
         simp
        rw[e,Nat.succ_mul]
        exact hT.out.1
       case measure=>simp[intOf];omega
    ·obtain rfl:q=N:=zo
     obtain⟨A2,p2,h29⟩:=dF hS.out.1
     obtain⟨rfl,rfl,rfl⟩:A2=A9∧n9=q * cnt∧p2=p9:=by injection h29 with a b c;exact⟨a.symm,b,c.symm⟩
     gi_wp2
     go_roundw
     case rel=>
      have e:(l0.take q).flatMap f=L (k+1):=by
       rw[HL1.out,← aq.out,List.take_of_length_le (by rw[← HN.out];exact Nat.le_refl _)]
      have el:q * cnt=(L (k+1)).length:=by
       rw[← e,Y'.out,List.length_take,← HN.out,Nat.min_self]
      refine⟨k+1,zo,by go_num,A2,p2,by rw[el],hid ⟨?_,hR.out.2.1.trans ((GB.out.mono zo).trans (hS.out.2.mono zo)),fun ad8 h8=>by
       subst h8
       have:=(bR hS.out.1 (g:=ad8.block) rfl).1
       omega⟩⟩
      rw[← el]
      intro hn0
      obtain⟨gb,cp,hv,_,GO⟩:=hS.out.1.form hn0
      have hA8:A2=some ⟨gb,0,none⟩:=by injection hv
      subst hA8
      refine⟨_,rfl,GO,fun i j hi hj=>?_⟩
      have hc:=hS.out.1.cells (g:=gb) rfl (i * 3+j) (int i64 ((L (k+1)).getD i (fun _=>0) j)) (by rw[e];exact FZ _ (by rw[← el];exact hi) hj)
      exact hc
     case measure=>simp[intOf];omega
  ·obtain rfl:k=ng:=zo
   gi_wp2
   go_ret
   exact⟨A,p,rfl,hR.out.1,hR.out.2.2,((Below.refl _ _).alloc (Nat.le_refl _) _).trans (hR.out.2.1.mono zs)⟩
end
section
open Go Go.RowKit
structure Keeps(C:Nat→Prop)(A B:World):Prop where
 os:B.os=A.os
 tape:B.tape=A.tape
 output:B.output=A.output
 size:A.heap.size≤B.heap.size
 block:∀b,b<A.heap.size→¬ C b→B.heap[b]? =A.heap[b]?
section
variable{C C':Nat→Prop}{A B D:World}
theorem Keeps.refl(C:Nat→Prop)(A:World):Keeps C A A:=⟨rfl,rfl,rfl,Nat.le_refl _,fun _ _ _=>rfl⟩
theorem Keeps.trans(h:Keeps C A B)(k:Keeps C B D):Keeps C A D:=
 ⟨k.os.trans h.os,k.tape.trans h.tape,k.output.trans h.output,Nat.le_trans h.size k.size,fun b hb hc=>(k.block b (Nat.lt_of_lt_of_le hb h.size) hc).trans (h.block b hb hc)⟩
theorem Keeps.more(h:Keeps C A B)(hC:∀b,b<A.heap.size→C b→C' b):Keeps C' A B:=⟨h.os,h.tape,h.output,h.size,fun b hb hc=>h.block b hb fun k=>hc (hC b hb k)⟩
theorem Keeps.of_below{n:Nat}(h:Below n A B)(hC:∀b,n≤b→b<A.heap.size→C b):Keeps C A B:=
 ⟨h.os,h.tape,h.output,h.size,fun b hb hc=>h.block b (Nat.lt_of_not_le fun k=>hc (hC b k hb))⟩
theorem Keeps.bJ(h:Below A.heap.size A B):Keeps C A B:=Keeps.of_below h fun b h1 h2=>zo
theorem Keeps.below{n:Nat}(h:Keeps C A B)(hC:∀b,b<n→¬ C b)(hn:n≤A.heap.size):Below n A B:=⟨h.os,h.tape,h.output,h.size,fun b hb=>h.block b zo (hC b hb)⟩
theorem Keeps.cell(h:Keeps C A B){p:Addr}(hp:p.block<A.heap.size)(hC:¬ C p.block):B.cell? p=A.cell? p:=by
 unfold World.cell?
 rw[h.block _ hp hC]
theorem Keeps.frozen(h:Keeps C A B){p:Addr}(hp:p.block<A.heap.size)(hC:¬ C p.block):B.frozen? p=A.frozen? p:=by
 unfold World.frozen?
 rw[h.block _ hp hC]
theorem Keeps.set{p:Addr}(h:Keeps C A B)(hp:C p.block)(u:Value):Keeps C A (B.setCell p u):=
 h.trans ⟨rfl,rfl,rfl,by simp[World.setCell],fun b _ hc=>Below.heap_setCell _ _ _ _ (fun e=>hc (e ▸ hp))⟩
end
structure Same(l:Nat)(A B:World):Prop where
 os:B.os=A.os
 tape:B.tape=A.tape
 output:B.output=A.output
 size:B.heap.size=A.heap.size
 block:∀b,b≠l→B.heap[b]? =A.heap[b]?
 loop:∃r,B.heap[l]? =some (.loop r)
theorem nS{l:Nat}{A:World}(h:l<A.heap.size)(r:Loop):Same l A (A.putObj l (.loop r)):=
 ⟨rfl,rfl,rfl,by simp[World.putObj],fun b hb=>World.putObj_heap_other hb,r,World.putObj_heap_same h⟩
theorem Same.below{l:Nat}{A B:World}(h:Same l A B){n:Nat}(hn:n≤l):Below n A B:=⟨h.os,h.tape,h.output,by rw[h.size];exact Nat.le_refl _,fun b hb=>h.block b zo⟩
theorem Same.keeps{l:Nat}{A B:World}(h:Same l A B){C:Nat→Prop}(hC:C l):Keeps C A B:=⟨h.os,h.tape,h.output,by rw[h.size];exact Nat.le_refl _,fun b _ hc=>h.block b (fun e=>hc (e ▸ hC))⟩
def vN(C:Nat→Prop)(N:World→Prop)(X:Code→World→Prop)(W:World):Exit→Act→World→Prop
 | .normal,_,W'=>Keeps C W W'∧N W'
 | .ret,_,W'=>Keeps C W W'∧X .ret W'
 | .exit id,_,W'=>Keeps C W W'∧X (.exit id) W'
 | .goto t,_,W'=>Keeps C W W'∧X (.goto t) W'
 | .panic _,_,_=>False
 | .outgrown,_,_=>False
theorem Ld{F:Fence}{P:Program}{l:Nat}{r:Loop}{args:Array Value}{C:Nat→Prop}{W:World}{N:World→Prop}{X:Code→World→Prop}(hl:W.heap[l]? =some (.loop r))(hr:r.state=.ready)(hp:r.pending=none)(hfn:F.fn r.fn)(hsz:args.size=r.params.size)(hC:¬ C l)
 (h:r.assign.wpIn (F.inRound l) 0 P (Exit.then (fun a1 W1=>Below W.heap.size W W1∧∀W2,Same l W1 W2→r.body.wpIn (F.inRound l) 0 P (vN C N X W2) a1 W2) (fun _ _ _=>False)) {tmps:=(r.params.zip args).foldl (fun t (p,v)=>t.setIfInBounds p v) r.tmps,defers:=[] } W):
 YieldAt F 0 P l args W fun e B=>Keeps (fun b=>C b∨b=l) W B∧((e=.returned (.bool true)∧B.heap[l]? =some (.loop r)∧∃W3,N W3∧Same l W3 B)∨(e=.returned (.bool false)∧∃c,B.heap[l]? =some (.loop {r with state:=.done,pending:=some c })∧∃W3,X c W3∧Same l W3 B)):=by
 have hlt:l<W.heap.size:=(Array.getElem?_eq_some_iff.1 hl).1
 refine⟨r.fn,_,r.assign,r.body,run_yield hl hsz,roundIn_of_wpIn hfn (wpIn_mono h ?_)⟩
 rintro e a1 W1 hx
 cases e with
 | normal=>
   obtain⟨hb1,hbody⟩:=hx
   have hl1:W1.heap[l]? =some (.loop r):=(hb1.block l hlt).trans hl
   have hlt1:l<W1.heap.size:=(Array.getElem?_eq_some_iff.1 hl1).1
   refine⟨_,run_beginRound hl1 hr,wpIn_mono (hbody _ (nS hlt1 _)) ?_⟩
   have hl2:(W1.putObj l (.loop {r with state:=.busy })).heap[l]? =some (.loop {r with state:=.busy }):=World.putObj_heap_same hlt1
   have hk1:Keeps (fun b=>C b∨b=l) W W1:=Keeps.bJ hb1
   have hk2:Keeps (fun b=>C b∨b=l) W1 (W1.putObj l (.loop {r with state:=.busy })):=(nS hlt1 _).keeps (.inr rfl)
   have fin:∀ (jump:Option Code) (W3:World),Keeps C (W1.putObj l (.loop {r with state:=.busy })) W3→
    ∃B,(Instr.endRound l jump).run P W3=.ok (.bool jump.isNone) B∧Keeps (fun b=>C b∨b=l) W B∧B.heap[l]? =some (.loop {r with state:=if jump.isNone then .ready else .done,pending:=jump })∧Same l W3 B:=fun jump W3 hk3=>by
    have hl3:W3.heap[l]? =some (.loop {r with state:=.busy }):=(hk3.block l (by simp[World.putObj];exact hlt1) hC).trans hl2
    have hlt3:l<W3.heap.size:=(Array.getElem?_eq_some_iff.1 hl3).1
    have hs:=nS (A:=W3) hlt3 {r with state:=if jump.isNone then .ready else .done,pending:=jump }
    refine⟨_,run_endRound jump hl3,?_,World.putObj_heap_same hlt3,hs⟩
    exact((hk1.trans hk2).trans (hk3.more fun b _ h=>.inl h)).trans (hs.keeps (.inr rfl))
   rintro e a3 W3 hq
   cases e with
   | normal=>
     obtain⟨hk3,hn⟩:=hq
     obtain⟨B,hr1,hk,hlB,hs⟩:=fin none W3 hk3
     refine⟨_,_,hr1,hk,.inl ⟨rfl,?_,W3,hn,hs⟩⟩
     rw[hlB]
     obtain⟨st,pe,_,_,_,_,_,_⟩:=r
     cases hr
     cases hp
     rfl
   | ret=>
     obtain⟨hk3,hn⟩:=hq
     obtain⟨B,hr1,hk,hlB,hs⟩:=fin (some .ret) W3 hk3
     exact⟨_,_,hr1,hk,.inr ⟨rfl,.ret,hlB,W3,hn,hs⟩⟩
   | exit id=>
     obtain⟨hk3,hn⟩:=hq
     obtain⟨B,hr1,hk,hlB,hs⟩:=fin (some (.exit id)) W3 hk3
     exact⟨_,_,hr1,hk,.inr ⟨rfl,.exit id,hlB,W3,hn,hs⟩⟩
   | goto t=>
     obtain⟨hk3,hn⟩:=hq
     obtain⟨B,hr1,hk,hlB,hs⟩:=fin (some (.goto t)) W3 hk3
     exact⟨_,_,hr1,hk,.inr ⟨rfl,.goto t,hlB,W3,hn,hs⟩⟩
   | panic ch=>exact hq.elim
   | outgrown=>exact hq.elim
 | exit id=>exact hx.elim
 | goto t=>exact hx.elim
 | ret=>exact hx.elim
 | panic chain=>exact hx.elim
 | outgrown=>exact hx.elim
def Iter{α:Type}(F:Fence)(P:Program)(g:Nat)(lb:Array Value)(encs:α→Array Value)(xs:List α)(C:Nat→Prop)(W:World):Prop:=
 ∀ (l:Nat) (J Jx:List α→World→Prop),
   (∀pre A B,J pre A→Below W.heap.size A B→J pre B)→(∀pre A B,Jx pre A→Below W.heap.size A B→Jx pre B)→
   (∀pre x A,pre ++ [x]<+:xs→J pre A→Keeps C W A→YieldAt F 0 P l (encs x) A fun e B=>Keeps C A B∧((e=.returned (.bool true)∧J (pre ++ [x]) B)∨(e=.returned (.bool false)∧Jx (pre ++ [x]) B)))→
   J [] W→
   CallsIn F 0 P g (#[.func (.yield l) #[] #[]] ++ lb) W fun e B=>(∃v,e=.returned v)∧Keeps C W B∧(J xs B∨∃pre,pre<+:xs∧Jx pre B)
theorem Iter.inRound{α:Type}{F:Fence}{P:Program}{g:Nat}{lb:Array Value}{encs:α→Array Value}{xs:List α}{C:Nat→Prop}{W:World}(l:Nat)(h:Iter F P g lb encs xs C W):Iter (F.inRound l) P g lb encs xs C W:=h
theorem iJ{F:Fence}{P:Program}{α:Type}{g:Operand}{ps:Array Tmp}{assign body:Code}{Q:Exit→Act→World→Prop}{a:Act}{w:World}(hro:F.round=none)(hd:F.depth=none)
 {gf:Nat}{lb:Array Value}(hg:a.eval g=.func (.func gf) #[] lb)(hFg:F.fn gf)(eg:∀args w,(callFunc gf args).run P w=.ok (.enter gf args) w)
 {encs:α→Array Value}{xs:List α}{C:Nat→Prop}(hC:∀b,C b→b<w.heap.size)
 (hseq:∀W1,Below w.heap.size w W1→W1.heap.size=w.heap.size+2→Iter F P gf lb encs xs (fun b=>C b∨b=w.heap.size∨b=w.heap.size+1) W1)(hps:∀x,(encs x).size=ps.size)
 (I:List α→World→Prop)(Ix:Code→List α→World→Prop)(hI:∀pre A B,I pre A→Below w.heap.size A B→I pre B)(hIx:∀c pre A B,Ix c pre A→Below w.heap.size A B→Ix c pre B)(h0:I [] w)
 (gB:∀ (l:Nat) (pre:List α) (x:α) (W:World),l=w.heap.size+1→pre ++ [x]<+:xs→I pre W→Keeps C w W→w.heap.size+2≤W.heap.size→(∃r,W.heap[l]? =some (.loop r))→
  assign.wpIn (F.inRound l) 0 P (Exit.then (fun a1 W1=>Below W.heap.size W W1∧∀W2,Same l W1 W2→body.wpIn (F.inRound l) 0 P (vN C (I (pre ++ [x])) (fun c=>Ix c (pre ++ [x])) W2) a1 W2) (fun _ _ _=>False)) {tmps:=(ps.zip (encs x)).foldl (fun t (p,v)=>t.setIfInBounds p v) a.tmps,defers:=[] } W)
 (hdone:∀W,I xs W→Keeps C w W→W.heap[w.heap.size]? =some (.deferred (some []))→Q .normal {a with defers:={target:=.collected w.heap.size,args:=#[] } :: a.defers } W)
 (hstop:∀c pre W,pre<+:xs→Ix c pre W→Keeps C w W→W.heap[w.heap.size]? =some (.deferred (some []))→c.wpIn F 0 P Q {a with defers:={target:=.collected w.heap.size,args:=#[] } :: a.defers } W):
 (Code.rangeFunc g ps assign body).wpIn F 0 P Q a w:=by
 refine wpIn_rangeFunc ?_
 intro fn hfn
 rw[hro]
 obtain⟨rec,hrec⟩:∃rec:LoopState→Option Code→Loop,rec=fun st pe=>{state:=st,pending:=pe,fn,tmps:=a.tmps,params:=ps,assign,body,defers:=w.heap.size }:=⟨_,rfl⟩
 obtain⟨W1,hW1⟩:∃W1,(w.alloc (.deferred (some []))).alloc (.loop (rec .ready none))=W1:=⟨_,rfl⟩
 have hL1:W1.heap[w.heap.size+1]? =some (.loop (rec .ready none)):=by
  rw[← hW1];have:=World.alloc_heap_new (w.alloc (.deferred (some []))) (.loop (rec .ready none));rwa[World.size_alloc] at this
 have hK1:W1.heap[w.heap.size]? =some (.deferred (some [])):=by
  rw[← hW1];exact(Below.heap_alloc _ _ _ zs).trans (World.alloc_heap_new w _)
 have hb1:Below w.heap.size w W1:=by
  rw[← hW1];exact((Below.refl _ w).alloc (Nat.le_refl _) _).alloc zs _
 have hs1:W1.heap.size=w.heap.size+2:=by rw[← hW1];simp
 have hback:∀W,Keeps (fun b=>C b∨b=w.heap.size∨b=w.heap.size+1) W1 W→Keeps C w W:=fun W hk=>by
  refine⟨hk.os.trans hb1.os,hk.tape.trans hb1.tape,hk.output.trans hb1.output,by have:=hk.size;omega,fun b hb hc=>?_⟩
  exact(hk.block b zo (by rintro(h|h|h) <;> first|exact hc h|omega)).trans (hb1.block b hb)
 have he:∀ (pe:Option Code) (W2:World),W2.heap[w.heap.size+1]? =some (.loop (rec (if pe.isNone then .ready else .done) pe))→(Instr.endLoop (w.heap.size+1)).run P W2=.ok pe (W2.putObj (w.heap.size+1) (.loop {rec (if pe.isNone then .ready else .done) pe with state:=.exhausted })):=fun pe W2 h=>by
  have hp:(rec (if pe.isNone then .ready else .done) pe).pending=pe:=by rw[hrec]
  have:=run_endLoop (P:=P) h (by rw[hrec];cases pe <;> simp)
  exact this.trans (congrArg (fun o=>Result.ok o _) hp)
 refine⟨w.heap.size+1,[{target:=.collected w.heap.size,args:=#[] }],W1,{target:=.fn (.func gf) lb,args:=#[.func (.yield (w.heap.size+1)) #[] #[]] },W1,gf,
  #[.func (.yield (w.heap.size+1)) #[] #[]] ++ lb,W1,?_,?_,?_,?_,(fun h=>by rw[hd] at h;cases h),?_⟩
 ·rw[← hW1,hrec];exact run_enterLoop_outer _ _ _ _ _
 ·simp only[resolve,hg]
  simp[go_sem]
 ·intro f' hf';simp[Target.leads] at hf';subst hf';exact hFg
 ·simp[invoke,go_sem,eg]
 ·refine(hseq W1 hb1 hs1 (w.heap.size+1)
   (fun pre W=>I pre W∧W.heap[w.heap.size+1]? =some (.loop (rec .ready none))∧W.heap[w.heap.size]? =some (.deferred (some [])))
   (fun pre W=>∃c,Ix c pre W∧W.heap[w.heap.size+1]? =some (.loop (rec .done (some c)))∧W.heap[w.heap.size]? =some (.deferred (some [])))
   (fun pre A B h hb=>⟨hI pre A B h.1 (hb.mono zo),(hb.block _ zo).trans h.2.1,(hb.block _ zo).trans h.2.2⟩)
   (fun pre A B h hb=>by
    obtain⟨c,h1,h2,h3⟩:=h
    exact⟨c,hIx c pre A B h1 (hb.mono zo),(hb.block _ zo).trans h2,(hb.block _ zo).trans h3⟩)
   ?_ ⟨hI [] _ _ h0 hb1,hL1,hK1⟩).mono ?_
  ·rintro pre x W hpre ⟨hi,hl,hk⟩ hkp
   obtain⟨fn',tmps,ay,bd,hy,hR⟩:=Ld (F:=F) (P:=P) (args:=encs x) (C:=C) (N:=I (pre ++ [x])) (X:=fun c=>Ix c (pre ++ [x])) hl (by rw[hrec]) (by rw[hrec]) (by rw[hrec];exact hfn) (by rw[hrec];exact hps x) (fun h=>by have:=hC _ h;omega)
    (by
     have:=gB (w.heap.size+1) pre x W rfl hpre hi (hback W hkp) (by have:=hkp.size;omega) ⟨_,hl⟩
     rw[hrec]
     exact this)
   refine⟨fn',tmps,ay,bd,hy,hR.mono ?_⟩
   rintro e B ⟨hkB,(⟨rfl,hlB,W3,hn,hs⟩|⟨rfl,c,hlB,W3,hn,hs⟩)⟩
   ·have hDl:B.heap[w.heap.size]? =some (.deferred (some [])):=(hkB.block _ (by have:=hkp.size;omega) (fun h=>h.elim (fun h=>by have:=hC _ h;omega) (fun h=>zo))).trans hk
    exact⟨hkB.more (fun b _ h=>h.elim .inl fun h=>.inr (.inr h)),.inl ⟨rfl,hI _ _ _ hn (hs.below zo),hlB,hDl⟩⟩
   ·have hDl:B.heap[w.heap.size]? =some (.deferred (some [])):=(hkB.block _ (by have:=hkp.size;omega) (fun h=>h.elim (fun h=>by have:=hC _ h;omega) (fun h=>zo))).trans hk
    exact⟨hkB.more (fun b _ h=>h.elim .inl fun h=>.inr (.inr h)),.inr ⟨rfl,c,hIx _ _ _ _ hn (hs.below zo),by rw[hrec] at hlB⊢;exact hlB,hDl⟩⟩
  ·rintro e W2 ⟨⟨v,rfl⟩,hkW,(⟨hi,hl,hk⟩|⟨pre,hpre,c,hi,hl,hk⟩)⟩
   ·have hlt:w.heap.size+1<W2.heap.size:=(Array.getElem?_eq_some_iff.1 hl).1
    have hs:=nS hlt {rec .ready none with state:=.exhausted }
    have GC:=hkW.trans (hs.keeps (C:=fun b=>C b∨b=w.heap.size∨b=w.heap.size+1) (.inr (.inr rfl)))
    exact⟨none,_,he none _ hl,hdone _ (hI _ _ _ hi (hs.below zo)) (hback _ GC) ((World.putObj_heap_other zo).trans hk)⟩
   ·have hlt:w.heap.size+1<W2.heap.size:=(Array.getElem?_eq_some_iff.1 hl).1
    have hs:=nS hlt {rec .done (some c) with state:=.exhausted }
    have GC:=hkW.trans (hs.keeps (C:=fun b=>C b∨b=w.heap.size∨b=w.heap.size+1) (.inr (.inr rfl)))
    exact⟨some c,_,he (some c) _ hl,hstop c pre _ hpre (hIx c _ _ _ hi (hs.below zo)) (hback _ GC) ((World.putObj_heap_other zo).trans hk)⟩
end
section
open Go.RowKit
open Go.Sort (grow)
def bH(h:Ht)(k:Nat)(n:Int):Ht:=⟨h.f,fun i=>if i=k then n else h.m i,h.lies⟩
def dO(b:Bk):Nat→Nat→Ht→(Nat→Int)→List Ht
 | 0,k,h,s=>if iF b s (eu b k) (fK b k)=true then[h] else[]
 | Nat.succ n,k,h,s=>if iF b s (eu b k) (fK b k)=true then(bC (b.m k).lo ((b.m k).hi - (b.m k).lo+1).toNat).flatMap fun x=>dO b n (k+1) (bH h k x) (uU b s (bH h k x) k) else[]
def dD(b:Bk)(lies:Nat):List Ht:=(aS b b.ng).flatMap fun s=>dO b b.nm 0 ⟨s,fun _=>0,lies⟩ s
def aG(b:Bk)(ls:List Nat):List Ht:=(ls.filter fun s=>decide (pop s≤b.most)).flatMap fun s=>dD b s
structure FM(b:Bk)(C:Nat→Prop)(N0 Bb By Bf l:Nat)(W:World):Prop where
 wb:Whole W Bb 74 b.cells
 wy:Whole W By 107 #[.func (.yield l) #[] #[]]
 wf:Whole W Bf 142 #[.func (.func 102) #[] #[.pointer (some ⟨Bb,0,none⟩),.pointer (some ⟨By,0,none⟩),.pointer (some ⟨Bf,0,none⟩)]]
 at_:b.At W N0
 n0:N0≤W.heap.size
 cb:¬ C Bb
 cy:¬ C By
 cf:¬ C Bf
 cn:∀x,x<N0→¬ C x
theorem Whole.keeps{C:Nat→Prop}{w w':World}{b:Nat}{t:TypeId}{cs:Array Value}(h:Whole w b t cs)(hk:Keeps C w w')(hc:¬ C b):Whole w' b t cs:=h.of (hk.block b h.lt hc)
theorem Rows.keeps{C:Nat→Prop}{w w':World}{B size n:Nat}{A:Option Addr}{f:Nat→Nat→Value}(h:Rows w B size A n f)(hk:Keeps C w w')(hB:B≤w.heap.size)(hc:∀x,x<B→¬ C x):Rows w' B size A n f:=
 h.keep fun p hp=>hk.cell zo (hc _ hp)
theorem Bk.At.keeps{b:Bk}{C:Nat→Prop}{w w':World}{B:Nat}(h:b.At w B)(hk:Keeps C w w')(hB:B≤w.heap.size)(hc:∀x,x<B→¬ C x):b.At w' B:=
 ⟨h.g.keeps hk hB hc,h.m.keeps hk hB hc,h.c.keeps hk hB hc,h.ng,h.nm,h.nc,h.name⟩
theorem FM.keeps{b:Bk}{C:Nat→Prop}{N0 Bb By Bf l:Nat}{W W':World}(h:FM b C N0 Bb By Bf l W)(hk:Keeps C W W'):FM b C N0 Bb By Bf l W':=
 ⟨h.wb.keeps hk h.cb,h.wy.keeps hk h.cy,h.wf.keeps hk h.cf,h.at_.keeps hk h.n0 h.cn,Nat.le_trans h.n0 hk.size,h.cb,h.cy,h.cf,h.cn⟩
theorem Nu{f m:Nat→Int}{l k:Nat}(hk:k<6)(n:Int):((⟨f,m,l⟩:Ht).cells).setIfInBounds (3+k) (int i64 n)=(⟨f,fun i=>if i=k then n else m i,l⟩:Ht).cells:=by
 rcases(show k=0∨k=1∨k=2∨k=3∨k=4∨k=5 by omega) with rfl|rfl|rfl|rfl|rfl|rfl <;> rfl
theorem RF{f m:Nat→Int}{l k:Nat}(hk:k<6):((⟨f,m,l⟩:Ht).cells)[3+k]? =some (int i64 (m k)):=by
 rcases(show k=0∨k=1∨k=2∨k=3∨k=4∨k=5 by omega) with rfl|rfl|rfl|rfl|rfl|rfl <;> rfl
theorem Keeps.then{C C1:Nat→Prop}{A B D:World}(h:Keeps C A B)(k:Keeps C1 B D)(hc:∀b,b<A.heap.size→C1 b→C b):Keeps C A D:=
 ⟨k.os.trans h.os,k.tape.trans h.tape,k.output.trans h.output,Nat.le_trans h.size k.size,fun b hb hn=>(k.block b (Nat.lt_of_lt_of_le hb h.size) (fun h1=>hn (hc b hb h1))).trans (h.block b hb hn)⟩
theorem sS(b:Bk)(h:kg b):∀k,k≤b.ng→∀s∈aS b k,∀q,q<3→0≤s q∧s q≤99
 | 0,_,s,hs,q,_=>by
   obtain rfl:s=fun _=>0:=by simpa [aS] using hs
   simp
 | Nat.succ k,hk,s,hs,q,hq=>by
   have hf:=jK (h.2 k zo).few
   simp only[aS] at hs
   obtain⟨s0,hs0,hs1⟩:=List.mem_flatMap.1 hs
   obtain⟨n,hn,rfl⟩:=List.mem_map.1 hs1
   have ih:=sS b h k zo s0 hs0 q hq
   unfold bC at hn
   obtain⟨i,hi,rfl⟩:=List.mem_map.1 hn
   have hi':=List.mem_range.1 hi
   unfold ext
   split <;> omega
end
section
open Go
def FW(p:FuncId→Prop):Fence:={fn:=p }
@[simp] theorem oy(p:FuncId→Prop):(FW p).depth=none:=rfl
@[simp] theorem oA(p:FuncId→Prop):(FW p).round=none:=rfl
class Aa(p:FuncId→Prop):Prop where
 fn:∀g,SF.fn g→p g
instance:Aa SF.fn:=⟨fun _ h=>h⟩
instance:Aa FF.fn:=⟨fun _ h=>He h⟩
section
variable{p:FuncId→Prop}[Aa p]
@[simp] theorem EI{g:FuncId}(h:SF.fn g):(FW p).fn g:=show p g from Aa.fn g h
theorem CallsIn.wide{n:Nat}{P:Program}{f:FuncId}{args:Array Value}{w:World}{R:Ending→World→Prop}(h:CallsIn SF n P f args w R):CallsIn (FW p) n P f args w R:=by
 refine⟨EI h.1,fun cs _=>?_⟩
 obtain⟨e,w',fr,r,hs,rest⟩:=h.2 cs (fun d hd=>by cases hd)
 have hm:∀m:Machine,m.fenced P SF→m.fenced P (FW p):=fun m hm g hg=>by
  obtain⟨a,b,c,d⟩:=hm g hg
  exact⟨a,b.imp EI id,fun f hf=>EI (c f hf),fun d hd=>by cases hd⟩
 refine⟨e,w',fr,r,?_,rest⟩
 cases e with
 | returned v=>exact fQ hm hs
 | panicked c=>exact fQ hm hs
 | outgrown=>exact hs
end
end
end Go.Proofs.YthaelabgfnnebaaGreat
