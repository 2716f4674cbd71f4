/- WD It WF0 GF YF YT MK YH Sq YC1 K1 K2 HS -/
import Derived.Test.YtpmafoalhnaokaaGreatA2
import Derived.RangeFuncNested
import Derived.RangeFuncBound
import Derived.RangeFuncCalls
import Derived.RangeFuncLeaves
import Derived.Shelf.Abstract
set_option maxRecDepth 100000
set_option maxHeartbeats 16000000
set_option linter.unusedVariables false
set_option linter.unusedSectionVars false
open Go.IntKind(i64)
open Go.Lib(hid)
open Go.Proofs.Tryz
open Go.Value(int)
namespace Go.Proofs.YtpmafoalhnaokaaGreat
section
open Go.RowKit
open Go.Sort (grow)
abbrev St:=Nat→Int
def stC(s:St):List Value:=[int i64 (s 0),int i64 (s 1),int i64 (s 2)]
def ext(s:St)(g:Nat)(n:Int):St:=fun i=>if i=g then n else s i
def bD(lo:Int)(k:Nat):List Int:=(List.range k).map fun(i:Nat)=>lo+i
def aS(b:Bk):Nat→List St
 | 0=>[fun _=>0]
 | Nat.succ k=>(aS b k).flatMap fun s=>(bD (b.g k).lo ((b.g k).hi - (b.g k).lo+1).toNat).map fun n=>ext s k n
def kP(l:List St):List Value:=l.flatMap stC
theorem mJ(l l':List St):kP (l ++ l')=kP l ++ kP l':=List.flatMap_append
theorem Ie:∀ (l:List St) {i j:Nat},i<l.length→j<3→(kP l)[i * 3+j]? =some (int i64 (l.getD i (fun _=>0) j))
 | [],_,_,h,_=>by cases h
 | x :: l,0,j,_,hj=>by
   rcases(show j=0∨j=1∨j=2 by omega) with rfl|rfl|rfl <;> rfl
 | x :: l,i+1,j,h,hj=>by
   have:=Ie l (i:=i) (j:=j) (by simpa using h) hj
   have e:(kP (x :: l))[(i+1) * 3+j]? =(kP l)[i * 3+j]?:=by
    rw[show(i+1) * 3+j=(i * 3+j)+3 by omega]
    rfl
   rw[e,this]
   simp
theorem ni(lo:Int)(k:Nat):bD lo (k+1)=bD lo k ++ [lo+k]:=by unfold bD;rw[List.range_succ,List.map_append];rfl
theorem Tryz.infoS:(Tryz.prog.info? 88).map (fun i=>(i.zero,i.size,i.bytes))=some (some (.agg #[int i64 0,int i64 0,int i64 0]),3,24):=zk
theorem mI(b:Bk)(h:gQ b):∀k,k≤b.ng→(aS b k).length≤3 ^ k
 | 0,_=>by simp[aS]
 | Nat.succ k,hk=>by
   have ih:=mI b h k zo
   have hf:=jT (h.2 k zo).few
   have:∀l:List St,(l.flatMap fun s=>(bD (b.g k).lo ((b.g k).hi - (b.g k).lo+1).toNat).map fun n=>ext s k n).length≤l.length * 3:=fun l=>by
    induction l with
    | nil=>simp
    | cons x l ih=>rw[List.flatMap_cons,List.length_append];simp[bD] at ih⊢;omega
   have h2:=this (aS b k)
   simp only[aS]
   rw[Nat.pow_succ]
   omega
theorem TW(b:Bk)(w:World)(h:b.At w w.heap.size)(ok:gQ b):CallsIn SF 0 prog 108 #[b.val] w fun e w'=>∃A p,e=.returned (.slice A (aS b b.ng).length p)∧Rows w' w'.heap.size 3 A (aS b b.ng).length (fun i j=>int i64 ((aS b b.ng).getD i (fun _=>0) j))∧(∀ad,A=some ad→w.heap.size<ad.block)∧Below w.heap.size w w':=by
 obtain⟨dY,mO,gA,ng,gc,g,mA,nm,mc,m,cA,nc,cc,c⟩:=b
 have hfl:=fun k hk=>mI (⟨dY,mO,gA,ng,gc,g,mA,nm,mc,m,cA,nc,cc,c⟩:Bk) ok k hk
 simp only[Bk.val,Bk.cells]
 obtain⟨L,hL⟩:∃L,L=aS (⟨dY,mO,gA,ng,gc,g,mA,nm,mc,m,cA,nc,cc,c⟩:Bk):=zE
 have hL0:L 0=[fun _=>0]:=by rw[hL];rfl
 have vj:∀k,L (k+1)=(L k).flatMap fun s=>(bD (g k).lo ((g k).hi - (g k).lo+1).toNat).map fun n=>ext s k n:=fun k=>by rw[hL];rfl
 rw[← hL] at hfl⊢
 have wu:ng≤3:=ok.1.2
 have rq:=fun k hk=>jT (ok.2 k hk).few
 simp only at hfl rq
 clear hL ok
 have Hh:=hid h
 have SX:=hid vj
 have HFL:=hid hfl
 have OK:=hid rq
 clear h vj hfl rq
 obtain⟨iS,hiS,hm0,hm1,hm2⟩:=info_parts Tryz.infoS
 have Nx:=hid hiS
 clear hiS
 gi_enter func108,ntmps108
 gi_wp2
 gi_loopw [3,16] (fun l i wr=>∃k:Nat,k≤ng∧i=int i64 k∧∃A p,l=.slice A (L k).length p∧Hid (Rows wr wr.heap.size 3 A (L k).length (fun i j=>int i64 ((L k).getD i (fun _=>0) j))∧Below (w.heap.size+1) (w.alloc (.cells #[int i64 dY,int i64 mO,.slice gA ng gc,.slice mA nm mc,.slice cA nc cc] 73)) wr∧(∀ad,A=some ad→w.heap.size<ad.block))) (fun _ i _=>ng - (intOf i).toNat)
 case atStart=>
  refine⟨0,Nat.zero_le _,rfl,some ⟨w.heap.size+1,0,none⟩,1,by rw[hL0];rfl,hid ⟨?_,?_⟩⟩
  ·have hW:=Whole.new (w.alloc (.cells #[int i64 dY,int i64 mO,.slice gA ng gc,.slice mA nm mc,.slice cA nc cc] 73)) 88 #[int i64 0,int i64 0,int i64 0]
   rw[World.size_alloc] at hW
   rw[hL0]
   intro _
   refine⟨_,rfl,zs,fun i j hi hj=>?_⟩
   obtain rfl:i=0:=by simpa using hi
   have e:((⟨w.heap.size+1,0,none⟩:Addr).add (0 * 3+j))=⟨w.heap.size+1,j,none⟩:=by unfold Addr.add;split <;> simp_all
   rw[e,hW.cell]
   rcases(show j=0∨j=1∨j=2 by omega) with rfl|rfl|rfl <;> rfl
  ·exact⟨zB.alloc zs _,fun ad h=>by cases h;exact Nat.lt_succ_self _⟩
 case round=>
  obtain⟨k,hk,rfl,A,p,rfl,hR⟩:=hrel
  obtain⟨wo,rfl⟩:∃wo:World,wo=wr:=zE
  have hsz:w.heap.size+1≤wo.heap.size:=by have:=hR.out.2.1.size;simpa using this
  have Uv:w.heap.size<wo.heap.size:=hsz
  have hbx:∀o,wo.cell? ⟨w.heap.size,o,none⟩=(#[int i64 dY,int i64 mO,.slice gA ng gc,.slice mA nm mc,.slice cA nc cc]:Array Value)[o]?:=((Whole.new w 73 #[int i64 dY,int i64 mO,.slice gA ng gc,.slice mA nm mc,.slice cA nc cc]).below hR.out.2.1 (Nat.lt_succ_self _)).cell
  by_cases hlt:k<ng
  ·obtain⟨ad,hA',hbl,-⟩:=Hh.out.g (show 0<ng by omega)
   simp only at hA'
   subst hA'
   obtain⟨gk,EN⟩:∃gk,gk=g k:=zE
   have hr:∀j,j<5→wo.cell? ((ad.add (k * 5)).add j)=some (gk.cell j):=fun j hj=>by rw[EN];exact(((Hh.out.g.alloc zL (.cells #[int i64 dY,int i64 mO,.slice (some ad) ng gc,.slice mA nm mc,.slice cA nc cc] 73)).more (Nat.le_succ _)).below hR.out.2.1).row hlt |>.2 j hj
   have hok:=OK.out k hlt
   have hLk:=SX.out k
   have hl9:=HFL.out k zo
   have S6:=HFL.out (k+1) zo
   rw[← EN] at hok hLk
   obtain⟨Qs,co,pk,lo,hi⟩:=gk
   simp only at hok hLk
   have c0:wo.cell? (ad.add (k * 5))=some (.string Qs):=hr 0 zD
   have c1:wo.cell? ⟨(ad.add (k * 5)).block,(ad.add (k * 5)).off+1,none⟩=some (int i64 co):=hr 1 zD
   have c2:wo.cell? ⟨(ad.add (k * 5)).block,(ad.add (k * 5)).off+2,none⟩=some (int i64 pk):=hr 2 zD
   have c3:wo.cell? ⟨(ad.add (k * 5)).block,(ad.add (k * 5)).off+3,none⟩=some (int i64 lo):=hr 3 zD
   have c4:wo.cell? ⟨(ad.add (k * 5)).block,(ad.add (k * 5)).off+4,none⟩=some (int i64 hi):=hr 4 zD
   clear hr EN
   obtain⟨cnt,hcnt⟩:∃cnt,cnt=(hi - lo+1).toNat:=zE
   rw[← hcnt] at hLk
   have hc3:cnt≤3:=zo
   have HC:Hid ((cnt:Int)=hi - lo+1):=hid zo
   clear hcnt
   obtain⟨f,hf⟩:∃f:St→List St,f=fun s=>(bD lo cnt).map fun n=>ext s k n:=⟨_,rfl⟩
   have hLf:L (k+1)=(L k).flatMap f:=by rw[hLk,hf]
   have hfl:∀l:List St,(l.flatMap f).length=l.length * cnt:=fun l=>by
    induction l with
    | nil=>simp
    | cons x l ih=>rw[List.flatMap_cons,List.length_append,ih,hf];simp[bD,Nat.succ_mul];omega
   have hln:(L k).length≤27:=by
    refine Nat.le_trans hl9 (Nat.le_trans (Nat.pow_le_pow_right zD (show k≤3 by omega)) zD)
   have HL1:=hid hLf
   have HFF:=hid hf
   have HFN:=hid hfl
   clear hLk hLf hf hfl hl9 S6
   obtain⟨l0,hl0⟩:∃l0,l0=L k:=zE
   have s9:=hid hl0
   rw[← hl0] at hR hln
   obtain⟨N,hN⟩:∃N,N=l0.length:=zE
   rw[← hl0,← hN]
   have HN:=hid hN
   clear hl0
   rw[← hN] at hR hln
   clear hN
   gi_wp2
   obtain⟨wg,hwg⟩:∃wg,wg=wo.alloc (.cells #[.string Qs,int i64 co,int i64 pk,int i64 lo,int i64 hi] 83):=zE
   have G0:=hid (show Whole wg wo.heap.size 83 #[.string Qs,int i64 co,int i64 pk,int i64 lo,int i64 hi] by rw[hwg];exact Whole.new _ _ _)
   have GB:=hid (show Below wo.heap.size wo wg by rw[hwg];exact zB.alloc zL _)
   have hgs:wg.heap.size=wo.heap.size+1:=by rw[hwg];simp
   rw[← hwg]
   clear hwg c0 c1 c2 c3 c4
   gi_loopw [6,23] (fun l2 j wj=>∃q:Nat,q≤N∧j=int i64 q∧Hid (wj.ownsRow wg.heap.size 88 3 l2 (q * cnt) (kP ((l0.take q).flatMap f))∧Below wg.heap.size wg wj)) (fun _ j _=>N - (intOf j).toNat)
   case atStart=>exact⟨0,Nat.zero_le _,rfl,hid ⟨⟨by simp[kP],.inl ⟨rfl,zs⟩⟩,zB⟩⟩
   case round=>
    obtain⟨q,hq,rfl,hS⟩:=hrel
    obtain⟨A9,n9,p9,rfl⟩:=ig hS.out.1
    obtain⟨wj,rfl⟩:∃wj:World,wj=wr:=zE
    have hsj:=hS.out.2.size
    by_cases hq2:q<N
    ·have hRj:=hR.out.1.below (GB.out.trans (hS.out.2.mono zo))
     obtain⟨aa,rfl,hab,-⟩:=hRj (show 0<N by omega)
     have hrw:=hRj.row hq2
     obtain⟨s,hs⟩:∃s,s=l0.getD q (fun _=>0):=zE
     have d0:wj.cell? (aa.add (q * 3))=some (int i64 (s 0)):=by rw[hs];exact hrw.2 0 zD
     have d1:wj.cell? ⟨(aa.add (q * 3)).block,(aa.add (q * 3)).off+1,none⟩=some (int i64 (s 1)):=by rw[hs];exact hrw.2 1 zD
     have d2:wj.cell? ⟨(aa.add (q * 3)).block,(aa.add (q * 3)).off+2,none⟩=some (int i64 (s 2)):=by rw[hs];exact hrw.2 2 zD
     have HS:=hid hs
     have g3:=(G0.out.below hS.out.2 zo).cell 3
     have g4:=(G0.out.below hS.out.2 zo).cell 4
     clear hs hrw hRj
     have hgl:wo.heap.size<wj.heap.size:=zo
     gi_wp2
     have hown:=hS.out.1
     have hge:∀g,(Value.slice A9 n9 p9).ownBlock=some g→g≠wj.heap.size:=fun g hg=>by have:=(aQ hown hg).2;omega
     obtain⟨wn,hwn⟩:∃wn,wn=wj.alloc (.cells #[int i64 (s 0),int i64 (s 1),int i64 (s 2)] 88):=zE
     have N0:Hid (Whole wn wj.heap.size 88 #[int i64 (s 0),int i64 (s 1),int i64 (s 2)]):=hid (by rw[hwn];exact Whole.new _ _ _)
     have NB:Hid (Below wg.heap.size wg wn):=hid (by rw[hwn];exact hS.out.2.alloc hsj _)
     have NO:Hid (wn.ownsRow wg.heap.size 88 3 (.slice A9 n9 p9) (q * cnt) (kP ((l0.take q).flatMap f))):=hid (by rw[hwn];exact bG hown _)
     have hns:wn.heap.size=wj.heap.size+1:=by rw[hwn];simp
     have Ff:=hid hge
     rw[← hwn]
     clear hwn hown hge d0 d1 d2 g3 g4 hS
     have hqc:q * cnt≤81:=Nat.le_trans (Nat.mul_le_mul (show q≤27 by omega) hc3) zD
     gi_loopw [6,9] (fun l3 n w3=>∃i:Nat,i≤cnt∧n=int i64 (lo+i)∧∃z:St,Hid (w3.ownsRow wg.heap.size 88 3 l3 (q * cnt+i) (kP ((l0.take q).flatMap f ++ (bD lo i).map fun n=>ext s k n))∧(∀g,l3.ownBlock=some g→g≠wj.heap.size)∧Whole w3 wj.heap.size 88 #[int i64 (z 0),int i64 (z 1),int i64 (z 2)]∧(∀x,ext z k x=ext s k x)∧Below wg.heap.size wg w3)) (fun _ n _=>(hi+1 - intOf n).toNat)
     case atStart=>exact⟨0,Nat.zero_le _,zs,s,hid ⟨by simpa [bD] using NO.out,Ff.out,N0.out,fun _=>rfl,NB.out⟩⟩
     case round=>
      obtain⟨i,hii,rfl,z,hT⟩:=hrel
      clear N0 NB NO Ff
      obtain⟨A3,n3,p3,rfl⟩:=ig hT.out.1
      have hs3:=hT.out.2.2.1.lt
      have g4:=(G0.out.below hT.out.2.2.2.2 zo).cell 4
      have aaD:wo.heap.size<wr.heap.size:=zo
      by_cases hic:i<cnt
      ·have hd:decide (lo+(i:Int)≤hi)=true:=decide_eq_true (by have:=HC.out;omega)
       have e1:wrap64 (lo+(i:Int)+1)=lo+(i:Int)+1:=IntWalk.wrap64_in _ (by have:=HC.out;omega)
       have x0:wr.cell? ⟨wj.heap.size,0,none⟩=some (int i64 (z 0)):=hT.out.2.2.1.cell 0
       have x1:wr.cell? ⟨wj.heap.size,1,none⟩=some (int i64 (z 1)):=hT.out.2.2.1.cell 1
       have x2:wr.cell? ⟨wj.heap.size,2,none⟩=some (int i64 (z 2)):=hT.out.2.2.1.cell 2
       have xf:=hT.out.2.2.1.thaw
       have aaK:¬ wo.heap.size=wj.heap.size:=zo
       obtain⟨nv,ll⟩:∃nv,nv=lo+(i:Int):=zE
       have M0:=hid ll
       rw[← ll] at hd e1⊢
       have E1:=hid e1
       clear ll
       have HO:Hid (∀o v,((wr.setCell ⟨wj.heap.size,k,none⟩ v).alloc o).ownsRow wg.heap.size 88 3 (.slice A3 n3 p3) (q * cnt+i) (kP ((l0.take q).flatMap f ++ (bD lo i).map fun n=>ext s k n))):=hid fun o v=>bG (fC hT.out.1 fun g hg _=>Below.heap_setCell _ _ _ _ (hT.out.2.1 g hg)) o
       have hz:ext z k nv=ext s k nv:=hT.out.2.2.2.1 nv
       have HZ:=hid hz
       clear hz
       rcases(show k=0∨k=1∨k=2 by omega) with rfl|rfl|rfl
       ·have hsc:(wr.setCell ⟨wj.heap.size,0,none⟩ (int i64 nv)).heap.size=wr.heap.size:=by simp[World.setCell]
        have hbk:((wr.setCell ⟨wj.heap.size,0,none⟩ (int i64 nv)).alloc (.cells #[int i64 nv,int i64 (z 1),int i64 (z 2)] 88)).heap[wr.heap.size]? =some (.cells #[int i64 nv,int i64 (z 1),int i64 (z 2)] 88):=by
         have:=heap_alloc_new (wr.setCell ⟨wj.heap.size,0,none⟩ (int i64 nv)) (.cells #[int i64 nv,int i64 (z 1),int i64 (z 2)] 88)
         rwa[hsc] at this
        have sE:=hid hbk
        have hs5:((wr.setCell ⟨wj.heap.size,0,none⟩ (int i64 nv)).alloc (.cells #[int i64 nv,int i64 (z 1),int i64 (z 2)] 88)).heap.size=wr.heap.size+1:=by rw[World.size_alloc,hsc]
        have Tc:=hid hs5
        have tk:=hid (HO.out (.cells #[int i64 nv,int i64 (z 1),int i64 (z 2)] 88) (int i64 nv))
        have MZ:Hid (Below wg.heap.size wg ((wr.setCell ⟨wj.heap.size,0,none⟩ (int i64 nv)).alloc (.cells #[int i64 nv,int i64 (z 1),int i64 (z 2)] 88))):=hid ((hT.out.2.2.2.2.setCell (p:=⟨wj.heap.size,0,none⟩) hsj _).alloc (by rw[hsc];omega) _)
        have tx:Hid (Whole ((wr.setCell ⟨wj.heap.size,0,none⟩ (int i64 nv)).alloc (.cells #[int i64 nv,int i64 (z 1),int i64 (z 2)] 88)) wj.heap.size 88 #[int i64 nv,int i64 (z 1),int i64 (z 2)]):=hid ((hT.out.2.2.1.set 0 (int i64 nv)).alloc _)
        clear hsc hbk hs5
        gi_wp2_with (gi_at_builtin;refine aD rfl rfl rfl fun K5 iI=>?_;refine wp_append_lies _ _ _ _ rfl wg.heap.size 88 iS _ 3 24 underlying153 Nx.out hm0 hm1 hm2 rfl zo (.slice A3 n3 p3) (q * cnt+i) _ rfl tk.out ⟨wr.heap.size,0,none⟩ 1 1 [int i64 nv,int i64 (z 1),int i64 (z 2)] rfl rfl (World.news_of_block sE.out) (by simp[Value.oneCell']) zo zU zo (by rw[Tc.out];omega) (wr.heap.size+1) Tc.out ?_;intro qQ nQ w5 hown5 aN kI mR;refine iI _ _ ?_;clear iI K5)
        go_roundw
        case rel=>
         refine⟨_,_,_,_,_,_,_,_,_,_,_,_,_,_,_,_,?_,rfl⟩
         have hgg:qQ≠wj.heap.size:=by
          rcases kI with h|h
          ·exact hT.out.2.1 qQ h
          ·omega
         refine⟨i+1,zo,by(first|rw[E1.out] |skip);rw[M0.out];congr 1;push_cast;omega,ext s 0 nv,hid ⟨?_,fun g hg=>by cases hg;exact hgg,?_,fun x=>by funext y;simp only[ext];split <;> rfl,MZ.out.trans (below_grown aN (by rw[Tc.out];omega) (fun g hg=>(aQ hT.out.1 hg).1))⟩⟩
         ·rw[ni,List.map_append,← List.append_assoc,mJ,← M0.out]
          have e:kP (List.map (fun n=>ext s 0 n) [nv])=[int i64 nv,int i64 (z 1),int i64 (z 2)]:=by
           rw[List.map_singleton,← HZ.out];rfl
          rw[e]
          exact hown5
         ·rw[← HZ.out]
          exact tx.out.grown aN (fun e=>by exact absurd rfl (hT.out.2.1 _ e.symm))
        case measure=>have:=HC.out;have:=M0.out;simp[intOf];omega
       ·have hsc:(wr.setCell ⟨wj.heap.size,1,none⟩ (int i64 nv)).heap.size=wr.heap.size:=by simp[World.setCell]
        have hbk:((wr.setCell ⟨wj.heap.size,1,none⟩ (int i64 nv)).alloc (.cells #[int i64 (z 0),int i64 nv,int i64 (z 2)] 88)).heap[wr.heap.size]? =some (.cells #[int i64 (z 0),int i64 nv,int i64 (z 2)] 88):=by
         have:=heap_alloc_new (wr.setCell ⟨wj.heap.size,1,none⟩ (int i64 nv)) (.cells #[int i64 (z 0),int i64 nv,int i64 (z 2)] 88)
         rwa[hsc] at this
        have sE:=hid hbk
        have hs5:((wr.setCell ⟨wj.heap.size,1,none⟩ (int i64 nv)).alloc (.cells #[int i64 (z 0),int i64 nv,int i64 (z 2)] 88)).heap.size=wr.heap.size+1:=by rw[World.size_alloc,hsc]
        have Tc:=hid hs5
        have tk:=hid (HO.out (.cells #[int i64 (z 0),int i64 nv,int i64 (z 2)] 88) (int i64 nv))
        have MZ:Hid (Below wg.heap.size wg ((wr.setCell ⟨wj.heap.size,1,none⟩ (int i64 nv)).alloc (.cells #[int i64 (z 0),int i64 nv,int i64 (z 2)] 88))):=hid ((hT.out.2.2.2.2.setCell (p:=⟨wj.heap.size,1,none⟩) hsj _).alloc (by rw[hsc];omega) _)
        have tx:Hid (Whole ((wr.setCell ⟨wj.heap.size,1,none⟩ (int i64 nv)).alloc (.cells #[int i64 (z 0),int i64 nv,int i64 (z 2)] 88)) wj.heap.size 88 #[int i64 (z 0),int i64 nv,int i64 (z 2)]):=hid ((hT.out.2.2.1.set 1 (int i64 nv)).alloc _)
        clear hsc hbk hs5
        gi_wp2_with (gi_at_builtin;refine aD rfl rfl rfl fun K5 iI=>?_;refine wp_append_lies _ _ _ _ rfl wg.heap.size 88 iS _ 3 24 underlying153 Nx.out hm0 hm1 hm2 rfl zo (.slice A3 n3 p3) (q * cnt+i) _ rfl tk.out ⟨wr.heap.size,0,none⟩ 1 1 [int i64 (z 0),int i64 nv,int i64 (z 2)] rfl rfl (World.news_of_block sE.out) (by simp[Value.oneCell']) zo zU zo (by rw[Tc.out];omega) (wr.heap.size+1) Tc.out ?_;intro qQ nQ w5 hown5 aN kI mR;refine iI _ _ ?_;clear iI K5)
        go_roundw
        case rel=>
         refine⟨_,_,_,_,_,_,_,_,_,_,_,_,_,_,_,_,?_,rfl⟩
         have hgg:qQ≠wj.heap.size:=by
          rcases kI with h|h
          ·exact hT.out.2.1 qQ h
          ·omega
         refine⟨i+1,zo,by(first|rw[E1.out] |skip);rw[M0.out];congr 1;push_cast;omega,ext s 1 nv,hid ⟨?_,fun g hg=>by cases hg;exact hgg,?_,fun x=>by funext y;simp only[ext];split <;> rfl,MZ.out.trans (below_grown aN (by rw[Tc.out];omega) (fun g hg=>(aQ hT.out.1 hg).1))⟩⟩
         ·rw[ni,List.map_append,← List.append_assoc,mJ,← M0.out]
          have e:kP (List.map (fun n=>ext s 1 n) [nv])=[int i64 (z 0),int i64 nv,int i64 (z 2)]:=by
           rw[List.map_singleton,← HZ.out];rfl
          rw[e]
          exact hown5
         ·rw[← HZ.out]
          exact tx.out.grown aN (fun e=>by exact absurd rfl (hT.out.2.1 _ e.symm))
        case measure=>have:=HC.out;have:=M0.out;simp[intOf];omega
       ·have hsc:(wr.setCell ⟨wj.heap.size,2,none⟩ (int i64 nv)).heap.size=wr.heap.size:=by simp[World.setCell]
        have hbk:((wr.setCell ⟨wj.heap.size,2,none⟩ (int i64 nv)).alloc (.cells #[int i64 (z 0),int i64 (z 1),int i64 nv] 88)).heap[wr.heap.size]? =some (.cells #[int i64 (z 0),int i64 (z 1),int i64 nv] 88):=by
         have:=heap_alloc_new (wr.setCell ⟨wj.heap.size,2,none⟩ (int i64 nv)) (.cells #[int i64 (z 0),int i64 (z 1),int i64 nv] 88)
         rwa[hsc] at this
        have sE:=hid hbk
        have hs5:((wr.setCell ⟨wj.heap.size,2,none⟩ (int i64 nv)).alloc (.cells #[int i64 (z 0),int i64 (z 1),int i64 nv] 88)).heap.size=wr.heap.size+1:=by rw[World.size_alloc,hsc]
        have Tc:=hid hs5
        have tk:=hid (HO.out (.cells #[int i64 (z 0),int i64 (z 1),int i64 nv] 88) (int i64 nv))
        have MZ:Hid (Below wg.heap.size wg ((wr.setCell ⟨wj.heap.size,2,none⟩ (int i64 nv)).alloc (.cells #[int i64 (z 0),int i64 (z 1),int i64 nv] 88))):=hid ((hT.out.2.2.2.2.setCell (p:=⟨wj.heap.size,2,none⟩) hsj _).alloc (by rw[hsc];omega) _)
        have tx:Hid (Whole ((wr.setCell ⟨wj.heap.size,2,none⟩ (int i64 nv)).alloc (.cells #[int i64 (z 0),int i64 (z 1),int i64 nv] 88)) wj.heap.size 88 #[int i64 (z 0),int i64 (z 1),int i64 nv]):=hid ((hT.out.2.2.1.set 2 (int i64 nv)).alloc _)
        clear hsc hbk hs5
        gi_wp2_with (gi_at_builtin;refine aD rfl rfl rfl fun K5 iI=>?_;refine wp_append_lies _ _ _ _ rfl wg.heap.size 88 iS _ 3 24 underlying153 Nx.out hm0 hm1 hm2 rfl zo (.slice A3 n3 p3) (q * cnt+i) _ rfl tk.out ⟨wr.heap.size,0,none⟩ 1 1 [int i64 (z 0),int i64 (z 1),int i64 nv] rfl rfl (World.news_of_block sE.out) (by simp[Value.oneCell']) zo zU zo (by rw[Tc.out];omega) (wr.heap.size+1) Tc.out ?_;intro qQ nQ w5 hown5 aN kI mR;refine iI _ _ ?_;clear iI K5)
        go_roundw
        case rel=>
         refine⟨_,_,_,_,_,_,_,_,_,_,_,_,_,_,_,_,?_,rfl⟩
         have hgg:qQ≠wj.heap.size:=by
          rcases kI with h|h
          ·exact hT.out.2.1 qQ h
          ·omega
         refine⟨i+1,zo,by(first|rw[E1.out] |skip);rw[M0.out];congr 1;push_cast;omega,ext s 2 nv,hid ⟨?_,fun g hg=>by cases hg;exact hgg,?_,fun x=>by funext y;simp only[ext];split <;> rfl,MZ.out.trans (below_grown aN (by rw[Tc.out];omega) (fun g hg=>(aQ hT.out.1 hg).1))⟩⟩
         ·rw[ni,List.map_append,← List.append_assoc,mJ,← M0.out]
          have e:kP (List.map (fun n=>ext s 2 n) [nv])=[int i64 (z 0),int i64 (z 1),int i64 nv]:=by
           rw[List.map_singleton,← HZ.out];rfl
          rw[e]
          exact hown5
         ·rw[← HZ.out]
          exact tx.out.grown aN (fun e=>by exact absurd rfl (hT.out.2.1 _ e.symm))
        case measure=>have:=HC.out;have:=M0.out;simp[intOf];omega
      ·obtain rfl:i=cnt:=zo
       have hd:decide (lo+(i:Int)≤hi)=false:=decide_eq_false (by have:=HC.out;omega)
       gi_wp2
       go_roundw
       case rel=>
        refine⟨q+1,zo,by go_num,hid ⟨?_,hT.out.2.2.2.2⟩⟩
        have e:(l0.take (q+1)).flatMap f=(l0.take q).flatMap f ++ (bD lo i).map fun n=>ext s k n:=by
         rw[List.take_add_one,List.flatMap_append]
         congr 1
         rw[show l0[q]? =some s by rw[HS.out];simp[show q<l0.length by rw[← HN.out];exact hq2],HFF.out]
         simp
        rw[e,Nat.succ_mul]
        exact hT.out.1
       case measure=>simp[intOf];omega
    ·obtain rfl:q=N:=zo
     obtain⟨A2,p2,h29⟩:=fV hS.out.1
     obtain⟨rfl,rfl,rfl⟩:A2=A9∧n9=q * cnt∧p2=p9:=by injection h29 with a b c;exact⟨a.symm,b,c.symm⟩
     gi_wp2
     go_roundw
     case rel=>
      have e:(l0.take q).flatMap f=L (k+1):=by
       rw[HL1.out,← s9.out,List.take_of_length_le (by rw[← HN.out];exact zL)]
      have el:q * cnt=(L (k+1)).length:=by
       rw[← e,HFN.out,List.length_take,← HN.out,Nat.min_self]
      refine⟨k+1,zo,by go_num,A2,p2,by rw[el],hid ⟨?_,hR.out.2.1.trans ((GB.out.mono zo).trans (hS.out.2.mono zo)),fun ad8 h8=>by
       subst h8
       have:=(aQ hS.out.1 (g:=ad8.block) rfl).1
       omega⟩⟩
      rw[← el]
      intro hn0
      obtain⟨gb,cp,hv,_,S8⟩:=hS.out.1.form hn0
      have hA8:A2=some ⟨gb,0,none⟩:=by injection hv
      subst hA8
      refine⟨_,rfl,S8,fun i j hi hj=>?_⟩
      have hc:=hS.out.1.cells (g:=gb) rfl (i * 3+j) (int i64 ((L (k+1)).getD i (fun _=>0) j)) (by rw[e];exact Ie _ (by rw[← el];exact hi) hj)
      exact hc
     case measure=>simp[intOf];omega
  ·obtain rfl:k=ng:=zo
   gi_wp2
   go_ret
   exact⟨A,p,rfl,hR.out.1,hR.out.2.2,(zB.alloc zL _).trans (hR.out.2.1.mono zs)⟩
end
section
open Go Go.RowKit
structure Keeps(C:Nat→Prop)(A B:World):Prop where
 os:B.os=A.os
 tape:B.tape=A.tape
 output:B.output=A.output
 size:A.heap.size≤B.heap.size
 block:∀b,b<A.heap.size→¬ C b→B.heap[b]? =A.heap[b]?
section
variable{C C':Nat→Prop}{A B D:World}
theorem Keeps.refl(C:Nat→Prop)(A:World):Keeps C A A:=⟨rfl,rfl,rfl,zL,fun _ _ _=>rfl⟩
theorem Keeps.trans(h:Keeps C A B)(k:Keeps C B D):Keeps C A D:=
 ⟨k.os.trans h.os,k.tape.trans h.tape,k.output.trans h.output,Nat.le_trans h.size k.size,fun b hb hc=>(k.block b (Nat.lt_of_lt_of_le hb h.size) hc).trans (h.block b hb hc)⟩
theorem Keeps.more(h:Keeps C A B)(hC:∀b,b<A.heap.size→C b→C' b):Keeps C' A B:=⟨h.os,h.tape,h.output,h.size,fun b hb hc=>h.block b hb fun k=>hc (hC b hb k)⟩
theorem Keeps.of_below{n:Nat}(h:Below n A B)(hC:∀b,n≤b→b<A.heap.size→C b):Keeps C A B:=
 ⟨h.os,h.tape,h.output,h.size,fun b hb hc=>h.block b (Nat.lt_of_not_le fun k=>hc (hC b k hb))⟩
theorem Keeps.bK(h:Below A.heap.size A B):Keeps C A B:=Keeps.of_below h fun b h1 h2=>zo
theorem Keeps.below{n:Nat}(h:Keeps C A B)(hC:∀b,b<n→¬ C b)(hn:n≤A.heap.size):Below n A B:=⟨h.os,h.tape,h.output,h.size,fun b hb=>h.block b zo (hC b hb)⟩
theorem Keeps.cell(h:Keeps C A B){p:Addr}(hp:p.block<A.heap.size)(hC:¬ C p.block):B.cell? p=A.cell? p:=by
 unfold World.cell?
 rw[h.block _ hp hC]
theorem Keeps.frozen(h:Keeps C A B){p:Addr}(hp:p.block<A.heap.size)(hC:¬ C p.block):B.frozen? p=A.frozen? p:=by
 unfold World.frozen?
 rw[h.block _ hp hC]
theorem Keeps.set{p:Addr}(h:Keeps C A B)(hp:C p.block)(u:Value):Keeps C A (B.setCell p u):=
 h.trans ⟨rfl,rfl,rfl,by simp[World.setCell],fun b _ hc=>Below.heap_setCell _ _ _ _ (fun e=>hc (e ▸ hp))⟩
end
structure Same(l:Nat)(A B:World):Prop where
 os:B.os=A.os
 tape:B.tape=A.tape
 output:B.output=A.output
 size:B.heap.size=A.heap.size
 block:∀b,b≠l→B.heap[b]? =A.heap[b]?
 loop:∃r,B.heap[l]? =some (.loop r)
theorem oq{l:Nat}{A:World}(h:l<A.heap.size)(r:Loop):Same l A (A.putObj l (.loop r)):=
 ⟨rfl,rfl,rfl,by simp[World.putObj],fun b hb=>World.putObj_heap_other hb,r,World.putObj_heap_same h⟩
theorem Same.below{l:Nat}{A B:World}(h:Same l A B){n:Nat}(hn:n≤l):Below n A B:=⟨h.os,h.tape,h.output,by rw[h.size];exact zL,fun b hb=>h.block b zo⟩
theorem Same.keeps{l:Nat}{A B:World}(h:Same l A B){C:Nat→Prop}(hC:C l):Keeps C A B:=⟨h.os,h.tape,h.output,by rw[h.size];exact zL,fun b _ hc=>h.block b (fun e=>hc (e ▸ hC))⟩
def wS(C:Nat→Prop)(N:World→Prop)(X:Code→World→Prop)(W:World):Exit→Act→World→Prop
 | .normal,_,W'=>Keeps C W W'∧N W'
 | .ret,_,W'=>Keeps C W W'∧X .ret W'
 | .exit id,_,W'=>Keeps C W W'∧X (.exit id) W'
 | .goto t,_,W'=>Keeps C W W'∧X (.goto t) W'
 | .panic _,_,_=>False
 | .outgrown,_,_=>False
theorem MV{F:Fence}{P:Program}{l:Nat}{r:Loop}{args:Array Value}{C:Nat→Prop}{W:World}{N:World→Prop}{X:Code→World→Prop}(hl:W.heap[l]? =some (.loop r))(hr:r.state=.ready)(hp:r.pending=none)(hfn:F.fn r.fn)(hsz:args.size=r.params.size)(hC:¬ C l)
 (h:r.assign.wpIn (F.inRound l) 0 P (Exit.then (fun a1 W1=>Below W.heap.size W W1∧∀W2,Same l W1 W2→r.body.wpIn (F.inRound l) 0 P (wS C N X W2) a1 W2) (fun _ _ _=>False)) {tmps:=(r.params.zip args).foldl (fun t (p,v)=>t.setIfInBounds p v) r.tmps,defers:=[] } W):
 YieldAt F 0 P l args W fun e B=>Keeps (fun b=>C b∨b=l) W B∧((e=.returned (.bool true)∧B.heap[l]? =some (.loop r)∧∃W3,N W3∧Same l W3 B)∨(e=.returned (.bool false)∧∃c,B.heap[l]? =some (.loop {r with state:=.done,pending:=some c })∧∃W3,X c W3∧Same l W3 B)):=by
 have hlt:l<W.heap.size:=(Array.getElem?_eq_some_iff.1 hl).1
 refine⟨r.fn,_,r.assign,r.body,run_yield hl hsz,roundIn_of_wpIn hfn (wpIn_mono h ?_)⟩
 rintro e a1 W1 hx
 cases e with
 | normal=>
   obtain⟨hb1,hbody⟩:=hx
   have hl1:W1.heap[l]? =some (.loop r):=(hb1.block l hlt).trans hl
   have hlt1:l<W1.heap.size:=(Array.getElem?_eq_some_iff.1 hl1).1
   refine⟨_,run_beginRound hl1 hr,wpIn_mono (hbody _ (oq hlt1 _)) ?_⟩
   have hl2:(W1.putObj l (.loop {r with state:=.busy })).heap[l]? =some (.loop {r with state:=.busy }):=World.putObj_heap_same hlt1
   have hk1:Keeps (fun b=>C b∨b=l) W W1:=Keeps.bK hb1
   have hk2:Keeps (fun b=>C b∨b=l) W1 (W1.putObj l (.loop {r with state:=.busy })):=(oq hlt1 _).keeps (.inr rfl)
   have fin:∀ (jump:Option Code) (W3:World),Keeps C (W1.putObj l (.loop {r with state:=.busy })) W3→
    ∃B,(Instr.endRound l jump).run P W3=.ok (.bool jump.isNone) B∧Keeps (fun b=>C b∨b=l) W B∧B.heap[l]? =some (.loop {r with state:=if jump.isNone then .ready else .done,pending:=jump })∧Same l W3 B:=fun jump W3 hk3=>by
    have hl3:W3.heap[l]? =some (.loop {r with state:=.busy }):=(hk3.block l (by simp[World.putObj];exact hlt1) hC).trans hl2
    have hlt3:l<W3.heap.size:=(Array.getElem?_eq_some_iff.1 hl3).1
    have hs:=oq (A:=W3) hlt3 {r with state:=if jump.isNone then .ready else .done,pending:=jump }
    refine⟨_,run_endRound jump hl3,?_,World.putObj_heap_same hlt3,hs⟩
    exact((hk1.trans hk2).trans (hk3.more fun b _ h=>.inl h)).trans (hs.keeps (.inr rfl))
   rintro e a3 W3 hq
   cases e with
   | normal=>
     obtain⟨hk3,hn⟩:=hq
     obtain⟨B,hr1,hk,hlB,hs⟩:=fin none W3 hk3
     refine⟨_,_,hr1,hk,.inl ⟨rfl,?_,W3,hn,hs⟩⟩
     rw[hlB]
     obtain⟨st,pe,_,_,_,_,_,_⟩:=r
     cases hr
     cases hp
     rfl
   | ret=>
     obtain⟨hk3,hn⟩:=hq
     obtain⟨B,hr1,hk,hlB,hs⟩:=fin (some .ret) W3 hk3
     exact⟨_,_,hr1,hk,.inr ⟨rfl,.ret,hlB,W3,hn,hs⟩⟩
   | exit id=>
     obtain⟨hk3,hn⟩:=hq
     obtain⟨B,hr1,hk,hlB,hs⟩:=fin (some (.exit id)) W3 hk3
     exact⟨_,_,hr1,hk,.inr ⟨rfl,.exit id,hlB,W3,hn,hs⟩⟩
   | goto t=>
     obtain⟨hk3,hn⟩:=hq
     obtain⟨B,hr1,hk,hlB,hs⟩:=fin (some (.goto t)) W3 hk3
     exact⟨_,_,hr1,hk,.inr ⟨rfl,.goto t,hlB,W3,hn,hs⟩⟩
   | panic ch=>exact hq.elim
   | outgrown=>exact hq.elim
 | exit id=>exact hx.elim
 | goto t=>exact hx.elim
 | ret=>exact hx.elim
 | panic chain=>exact hx.elim
 | outgrown=>exact hx.elim
def Iter{α:Type}(F:Fence)(P:Program)(g:Nat)(lb:Array Value)(encs:α→Array Value)(xs:List α)(C:Nat→Prop)(W:World):Prop:=
 ∀ (l:Nat) (J Jx:List α→World→Prop),
   (∀pre A B,J pre A→Below W.heap.size A B→J pre B)→(∀pre A B,Jx pre A→Below W.heap.size A B→Jx pre B)→
   (∀pre x A,pre ++ [x]<+:xs→J pre A→Keeps C W A→YieldAt F 0 P l (encs x) A fun e B=>Keeps C A B∧((e=.returned (.bool true)∧J (pre ++ [x]) B)∨(e=.returned (.bool false)∧Jx (pre ++ [x]) B)))→
   J [] W→
   CallsIn F 0 P g (#[.func (.yield l) #[] #[]] ++ lb) W fun e B=>(∃v,e=.returned v)∧Keeps C W B∧(J xs B∨∃pre,pre<+:xs∧Jx pre B)
theorem Iter.inRound{α:Type}{F:Fence}{P:Program}{g:Nat}{lb:Array Value}{encs:α→Array Value}{xs:List α}{C:Nat→Prop}{W:World}(l:Nat)(h:Iter F P g lb encs xs C W):Iter (F.inRound l) P g lb encs xs C W:=h
theorem iU{F:Fence}{P:Program}{α:Type}{g:Operand}{ps:Array Tmp}{assign body:Code}{Q:Exit→Act→World→Prop}{a:Act}{w:World}(hro:F.round=none)(hd:F.depth=none)
 {gf:Nat}{lb:Array Value}(hg:a.eval g=.func (.func gf) #[] lb)(hFg:F.fn gf)(eg:∀args w,(callFunc gf args).run P w=.ok (.enter gf args) w)
 {encs:α→Array Value}{xs:List α}{C:Nat→Prop}(hC:∀b,C b→b<w.heap.size)
 (hseq:∀W1,Below w.heap.size w W1→W1.heap.size=w.heap.size+2→Iter F P gf lb encs xs (fun b=>C b∨b=w.heap.size∨b=w.heap.size+1) W1)(hps:∀x,(encs x).size=ps.size)
 (I:List α→World→Prop)(Ix:Code→List α→World→Prop)(hI:∀pre A B,I pre A→Below w.heap.size A B→I pre B)(hIx:∀c pre A B,Ix c pre A→Below w.heap.size A B→Ix c pre B)(h0:I [] w)
 (gI:∀ (l:Nat) (pre:List α) (x:α) (W:World),l=w.heap.size+1→pre ++ [x]<+:xs→I pre W→Keeps C w W→w.heap.size+2≤W.heap.size→(∃r,W.heap[l]? =some (.loop r))→
  assign.wpIn (F.inRound l) 0 P (Exit.then (fun a1 W1=>Below W.heap.size W W1∧∀W2,Same l W1 W2→body.wpIn (F.inRound l) 0 P (wS C (I (pre ++ [x])) (fun c=>Ix c (pre ++ [x])) W2) a1 W2) (fun _ _ _=>False)) {tmps:=(ps.zip (encs x)).foldl (fun t (p,v)=>t.setIfInBounds p v) a.tmps,defers:=[] } W)
 (hdone:∀W,I xs W→Keeps C w W→W.heap[w.heap.size]? =some (.deferred (some []))→Q .normal {a with defers:={target:=.collected w.heap.size,args:=#[] } :: a.defers } W)
 (hstop:∀c pre W,pre<+:xs→Ix c pre W→Keeps C w W→W.heap[w.heap.size]? =some (.deferred (some []))→c.wpIn F 0 P Q {a with defers:={target:=.collected w.heap.size,args:=#[] } :: a.defers } W):
 (Code.rangeFunc g ps assign body).wpIn F 0 P Q a w:=by
 refine wpIn_rangeFunc ?_
 intro fn hfn
 rw[hro]
 obtain⟨rec,hrec⟩:∃rec:LoopState→Option Code→Loop,rec=fun st pe=>{state:=st,pending:=pe,fn,tmps:=a.tmps,params:=ps,assign,body,defers:=w.heap.size }:=⟨_,rfl⟩
 obtain⟨W1,hW1⟩:∃W1,(w.alloc (.deferred (some []))).alloc (.loop (rec .ready none))=W1:=⟨_,rfl⟩
 have hL1:W1.heap[w.heap.size+1]? =some (.loop (rec .ready none)):=by
  rw[← hW1];have:=World.alloc_heap_new (w.alloc (.deferred (some []))) (.loop (rec .ready none));rwa[World.size_alloc] at this
 have hK1:W1.heap[w.heap.size]? =some (.deferred (some [])):=by
  rw[← hW1];exact(Below.heap_alloc _ _ _ zs).trans (World.alloc_heap_new w _)
 have hb1:Below w.heap.size w W1:=by
  rw[← hW1];exact((Below.refl _ w).alloc zL _).alloc zs _
 have hs1:W1.heap.size=w.heap.size+2:=by rw[← hW1];simp
 have hback:∀W,Keeps (fun b=>C b∨b=w.heap.size∨b=w.heap.size+1) W1 W→Keeps C w W:=fun W hk=>by
  refine⟨hk.os.trans hb1.os,hk.tape.trans hb1.tape,hk.output.trans hb1.output,by have:=hk.size;omega,fun b hb hc=>?_⟩
  exact(hk.block b zo (by rintro(h|h|h) <;> first|exact hc h|omega)).trans (hb1.block b hb)
 have he:∀ (pe:Option Code) (W2:World),W2.heap[w.heap.size+1]? =some (.loop (rec (if pe.isNone then .ready else .done) pe))→(Instr.endLoop (w.heap.size+1)).run P W2=.ok pe (W2.putObj (w.heap.size+1) (.loop {rec (if pe.isNone then .ready else .done) pe with state:=.exhausted })):=fun pe W2 h=>by
  have hp:(rec (if pe.isNone then .ready else .done) pe).pending=pe:=by rw[hrec]
  have:=run_endLoop (P:=P) h (by rw[hrec];cases pe <;> simp)
  exact this.trans (congrArg (fun o=>Result.ok o _) hp)
 refine⟨w.heap.size+1,[{target:=.collected w.heap.size,args:=#[] }],W1,{target:=.fn (.func gf) lb,args:=#[.func (.yield (w.heap.size+1)) #[] #[]] },W1,gf,
  #[.func (.yield (w.heap.size+1)) #[] #[]] ++ lb,W1,?_,?_,?_,?_,(fun h=>by rw[hd] at h;cases h),?_⟩
 ·rw[← hW1,hrec];exact run_enterLoop_outer _ _ _ _ _
 ·simp only[resolve,hg]
  simp[go_sem]
 ·intro f' hf';simp[Target.leads] at hf';subst hf';exact hFg
 ·simp[invoke,go_sem,eg]
 ·refine(hseq W1 hb1 hs1 (w.heap.size+1)
   (fun pre W=>I pre W∧W.heap[w.heap.size+1]? =some (.loop (rec .ready none))∧W.heap[w.heap.size]? =some (.deferred (some [])))
   (fun pre W=>∃c,Ix c pre W∧W.heap[w.heap.size+1]? =some (.loop (rec .done (some c)))∧W.heap[w.heap.size]? =some (.deferred (some [])))
   (fun pre A B h hb=>⟨hI pre A B h.1 (hb.mono zo),(hb.block _ zo).trans h.2.1,(hb.block _ zo).trans h.2.2⟩)
   (fun pre A B h hb=>by
    obtain⟨c,h1,h2,h3⟩:=h
    exact⟨c,hIx c pre A B h1 (hb.mono zo),(hb.block _ zo).trans h2,(hb.block _ zo).trans h3⟩)
   ?_ ⟨hI [] _ _ h0 hb1,hL1,hK1⟩).mono ?_
  ·rintro pre x W hpre ⟨hi,hl,hk⟩ hkp
   obtain⟨fn',tmps,ay,bd,hy,hR⟩:=MV (F:=F) (P:=P) (args:=encs x) (C:=C) (N:=I (pre ++ [x])) (X:=fun c=>Ix c (pre ++ [x])) hl (by rw[hrec]) (by rw[hrec]) (by rw[hrec];exact hfn) (by rw[hrec];exact hps x) (fun h=>by have:=hC _ h;omega)
    (by
     have:=gI (w.heap.size+1) pre x W rfl hpre hi (hback W hkp) (by have:=hkp.size;omega) ⟨_,hl⟩
     rw[hrec]
     exact this)
   refine⟨fn',tmps,ay,bd,hy,hR.mono ?_⟩
   rintro e B ⟨hkB,(⟨rfl,hlB,W3,hn,hs⟩|⟨rfl,c,hlB,W3,hn,hs⟩)⟩
   ·have hDl:B.heap[w.heap.size]? =some (.deferred (some [])):=(hkB.block _ (by have:=hkp.size;omega) (fun h=>h.elim (fun h=>by have:=hC _ h;omega) (fun h=>zo))).trans hk
    exact⟨hkB.more (fun b _ h=>h.elim .inl fun h=>.inr (.inr h)),.inl ⟨rfl,hI _ _ _ hn (hs.below zo),hlB,hDl⟩⟩
   ·have hDl:B.heap[w.heap.size]? =some (.deferred (some [])):=(hkB.block _ (by have:=hkp.size;omega) (fun h=>h.elim (fun h=>by have:=hC _ h;omega) (fun h=>zo))).trans hk
    exact⟨hkB.more (fun b _ h=>h.elim .inl fun h=>.inr (.inr h)),.inr ⟨rfl,c,hIx _ _ _ _ hn (hs.below zo),by rw[hrec] at hlB⊢;exact hlB,hDl⟩⟩
  ·rintro e W2 ⟨⟨v,rfl⟩,hkW,(⟨hi,hl,hk⟩|⟨pre,hpre,c,hi,hl,hk⟩)⟩
   ·have hlt:w.heap.size+1<W2.heap.size:=(Array.getElem?_eq_some_iff.1 hl).1
    have hs:=oq hlt {rec .ready none with state:=.exhausted }
    have S5:=hkW.trans (hs.keeps (C:=fun b=>C b∨b=w.heap.size∨b=w.heap.size+1) (.inr (.inr rfl)))
    exact⟨none,_,he none _ hl,hdone _ (hI _ _ _ hi (hs.below zo)) (hback _ S5) ((World.putObj_heap_other zo).trans hk)⟩
   ·have hlt:w.heap.size+1<W2.heap.size:=(Array.getElem?_eq_some_iff.1 hl).1
    have hs:=oq hlt {rec .done (some c) with state:=.exhausted }
    have S5:=hkW.trans (hs.keeps (C:=fun b=>C b∨b=w.heap.size∨b=w.heap.size+1) (.inr (.inr rfl)))
    exact⟨some c,_,he (some c) _ hl,hstop c pre _ hpre (hIx c _ _ _ hi (hs.below zo)) (hback _ S5) ((World.putObj_heap_other zo).trans hk)⟩
end
section
open Go.RowKit
open Go.Sort (grow)
def dV(h:Ht)(k:Nat)(n:Int):Ht:=⟨h.f,fun i=>if i=k then n else h.m i,h.lies⟩
def eB(b:Bk):Nat→Nat→Ht→(Nat→Int)→List Ht
 | 0,k,h,s=>if eY b s (iw b k) (iq b k)=true then[h] else[]
 | Nat.succ n,k,h,s=>if eY b s (iw b k) (iq b k)=true then(bD (b.m k).lo ((b.m k).hi - (b.m k).lo+1).toNat).flatMap fun x=>eB b n (k+1) (dV h k x) (Gb b s (dV h k x) k) else[]
def gy(b:Bk)(lies:Nat):List Ht:=(aS b b.ng).flatMap fun s=>eB b b.nm 0 ⟨s,fun _=>0,lies⟩ s
def aB(b:Bk)(ls:List Nat):List Ht:=(ls.filter fun s=>decide (pop s≤b.mO)).flatMap fun s=>gy b s
structure FM(b:Bk)(C:Nat→Prop)(N0 Bb By Bf l:Nat)(W:World):Prop where
 wb:Whole W Bb 73 b.cells
 wy:Whole W By 108 #[.func (.yield l) #[] #[]]
 wf:Whole W Bf 150 #[.func (.func 105) #[] #[.pointer (some ⟨Bb,0,none⟩),.pointer (some ⟨By,0,none⟩),.pointer (some ⟨Bf,0,none⟩)]]
 at_:b.At W N0
 n0:N0≤W.heap.size
 cb:¬ C Bb
 cy:¬ C By
 cf:¬ C Bf
 cn:∀x,x<N0→¬ C x
theorem Whole.keeps{C:Nat→Prop}{w w':World}{b:Nat}{t:TypeId}{cs:Array Value}(h:Whole w b t cs)(hk:Keeps C w w')(hc:¬ C b):Whole w' b t cs:=h.of (hk.block b h.lt hc)
theorem Rows.keeps{C:Nat→Prop}{w w':World}{B size n:Nat}{A:Option Addr}{f:Nat→Nat→Value}(h:Rows w B size A n f)(hk:Keeps C w w')(hB:B≤w.heap.size)(hc:∀x,x<B→¬ C x):Rows w' B size A n f:=
 h.keep fun p hp=>hk.cell zo (hc _ hp)
theorem Bk.At.keeps{b:Bk}{C:Nat→Prop}{w w':World}{B:Nat}(h:b.At w B)(hk:Keeps C w w')(hB:B≤w.heap.size)(hc:∀x,x<B→¬ C x):b.At w' B:=
 ⟨h.g.keeps hk hB hc,h.m.keeps hk hB hc,h.c.keeps hk hB hc,h.ng,h.nm,h.nc,h.name⟩
theorem FM.keeps{b:Bk}{C:Nat→Prop}{N0 Bb By Bf l:Nat}{W W':World}(h:FM b C N0 Bb By Bf l W)(hk:Keeps C W W'):FM b C N0 Bb By Bf l W':=
 ⟨h.wb.keeps hk h.cb,h.wy.keeps hk h.cy,h.wf.keeps hk h.cf,h.at_.keeps hk h.n0 h.cn,Nat.le_trans h.n0 hk.size,h.cb,h.cy,h.cf,h.cn⟩
theorem Po{f m:Nat→Int}{l k:Nat}(hk:k<6)(n:Int):((⟨f,m,l⟩:Ht).cells).setIfInBounds (3+k) (int i64 n)=(⟨f,fun i=>if i=k then n else m i,l⟩:Ht).cells:=by
 rcases(show k=0∨k=1∨k=2∨k=3∨k=4∨k=5 by omega) with rfl|rfl|rfl|rfl|rfl|rfl <;> rfl
theorem TM{f m:Nat→Int}{l k:Nat}(hk:k<6):((⟨f,m,l⟩:Ht).cells)[3+k]? =some (int i64 (m k)):=by
 rcases(show k=0∨k=1∨k=2∨k=3∨k=4∨k=5 by omega) with rfl|rfl|rfl|rfl|rfl|rfl <;> rfl
theorem Keeps.then{C C1:Nat→Prop}{A B D:World}(h:Keeps C A B)(k:Keeps C1 B D)(hc:∀b,b<A.heap.size→C1 b→C b):Keeps C A D:=
 ⟨k.os.trans h.os,k.tape.trans h.tape,k.output.trans h.output,Nat.le_trans h.size k.size,fun b hb hn=>(k.block b (Nat.lt_of_lt_of_le hb h.size) (fun h1=>hn (hc b hb h1))).trans (h.block b hb hn)⟩
theorem uE(b:Bk)(h:gQ b):∀k,k≤b.ng→∀s∈aS b k,∀q,q<3→0≤s q∧s q≤99
 | 0,_,s,hs,q,_=>by
   obtain rfl:s=fun _=>0:=by simpa [aS] using hs
   simp
 | Nat.succ k,hk,s,hs,q,hq=>by
   have hf:=jT (h.2 k zo).few
   simp only[aS] at hs
   obtain⟨s0,hs0,hs1⟩:=List.mem_flatMap.1 hs
   obtain⟨n,hn,rfl⟩:=List.mem_map.1 hs1
   have ih:=uE b h k zo s0 hs0 q hq
   unfold bD at hn
   obtain⟨i,hi,rfl⟩:=List.mem_map.1 hn
   have hi':=List.mem_range.1 hi
   unfold ext
   split <;> omega
end
section
open Go
def FW(p:FuncId→Prop):Fence:={fn:=p }
@[simp] theorem uA(p:FuncId→Prop):(FW p).depth=none:=rfl
@[simp] theorem uB(p:FuncId→Prop):(FW p).round=none:=rfl
class Br(p:FuncId→Prop):Prop where
 fn:∀g,SF.fn g→p g
instance:Br SF.fn:=⟨fun _ h=>h⟩
instance:Br FF.fn:=⟨fun _ h=>Je h⟩
section
variable{p:FuncId→Prop}[Br p]
@[simp] theorem FX{g:FuncId}(h:SF.fn g):(FW p).fn g:=show p g from Br.fn g h
theorem CallsIn.wide{n:Nat}{P:Program}{f:FuncId}{args:Array Value}{w:World}{R:Ending→World→Prop}(h:CallsIn SF n P f args w R):CallsIn (FW p) n P f args w R:=by
 refine⟨FX h.1,fun cs _=>?_⟩
 obtain⟨e,w',fr,r,hs,rest⟩:=h.2 cs (fun d hd=>by cases hd)
 have hm:∀m:Machine,m.fenced P SF→m.fenced P (FW p):=fun m hm g hg=>by
  obtain⟨a,b,c,d⟩:=hm g hg
  exact⟨a,b.imp FX id,fun f hf=>FX (c f hf),fun d hd=>by cases hd⟩
 refine⟨e,w',fr,r,?_,rest⟩
 cases e with
 | returned v=>exact fZ hm hs
 | panicked c=>exact fZ hm hs
 | outgrown=>exact hs
end
end
section
open Go.RowKit
open Go.Sort (grow)
attribute [local go_sem] Oper.semAt_some
theorem kp{p:FuncId→Prop}[Br p](b:Bk)(ok:b.Ok)(C:Nat→Prop)(N0 Bb By Bf l:Nat)(W0:World)(J Jx:List Ht→World→Prop)(xs:List Ht)(hC:∀x,C x→x<W0.heap.size)
 (hJ:∀pre A B,J pre A→Below W0.heap.size A B→J pre B)
 (hY:∀pre x A,pre ++ [x]<+:xs→J pre A→Keeps C W0 A→YieldAt (FW p) 0 prog l #[x.val] A fun e B=>Keeps C A B∧((e=.returned (.bool true)∧J (pre ++ [x]) B)∨(e=.returned (.bool false)∧Jx (pre ++ [x]) B))):
 ∀ (fuel k:Nat) (h:Ht) (s:Nat→Int) (pre:List Ht) (W:World),k+fuel=b.nm→FM b C N0 Bb By Bf l W→Keeps C W0 W→J pre W→(pre ++ eB b fuel k h s)<+:xs→(∀q,q<3→-99 * (k:Int)≤s q∧s q≤99 * ((k:Int)+1))→h.lies<64→
   CallsIn (FW p) 0 prog 105 #[h.val,mF s,int i64 k,.pointer (some ⟨Bb,0,none⟩),.pointer (some ⟨By,0,none⟩),.pointer (some ⟨Bf,0,none⟩)] W fun e W'=>Keeps C W W'∧((e=.returned (.bool true)∧J (pre ++ eB b fuel k h s) W')∨(e=.returned (.bool false)∧∃q,q<+:eB b fuel k h s∧Jx (pre ++ q) W')):=by
 have HhC:=hid hC
 have gE:=hid hJ
 have HhY:=hid hY
 clear hC hJ hY
 intro fuel
 induction fuel with
 | zero=>
   intro k h s pre W hkn hM q7 hj hpre hs hl
   have Uw:=ok.moves.1
   have Ey:∀w,b.At w w.heap.size→CallsIn (FW p) 0 prog 107 #[b.val,int i64 k] w fun e w'=>e=.returned (.agg #[int i64 (iw b k),int i64 (iq b k)])∧Below w.heap.size w w':=fun w hA=>CallsIn.wide (DF b k w hA zo ok.moves.1 (fun i hi=>by have:=(ok.moves.2 i hi).day;have:=ok.dY;omega))
   have TJ:∀w,b.At w w.heap.size→CallsIn (FW p) 0 prog 106 #[b.val,mF s,.agg #[int i64 (iw b k),int i64 (iq b k)]] w fun e w'=>e=.returned (.bool (eY b s (iw b k) (iq b k)))∧Below w.heap.size w w':=fun w hA=>CallsIn.wide (CZ b s _ _ w hA ok.counts.1 (fun i hi=>by have:=(ok.counts.2 i hi).good;have:=ok.bE.1;omega))
   obtain⟨L1,hL1⟩:∃x,x=iw b k:=zE
   obtain⟨L2,hL2⟩:∃x,x=iq b k:=zE
   obtain⟨R,hR⟩:∃R,R=eY b s (iw b k) (iq b k):=zE
   have hfl:eB b 0 k h s=if R=true then[h] else[]:=by rw[hR];rfl
   rw[← hL1,← hL2] at Ey TJ
   rw[← hL1,← hL2] at hR
   rw[← hR] at TJ
   rw[hfl] at hpre⊢
   have hbk:b.nm=k:=zo
   clear hfl hL1 hL2 hR hs
   obtain⟨dY,mO,gA,ng,gc,g,mA,nm,mc,m,cA,nc,cc,c⟩:=b
   simp only at Uw hbk
   subst hbk
   have hdk:decide ((nm:Int)=(nm:Int))=true:=decide_eq_true rfl
   have HOK:=hid ok
   clear ok hkn
   obtain⟨hf,hmm,lies⟩:=h
   simp only[Bk.val,Bk.cells,mF] at Ey TJ
   have gi:=hid Ey
   have MA:=hid TJ
   have HM:=hid hM
   have OQ:=hid q7
   have s8:=hid hj
   have tn:=hid hpre
   clear Ey TJ hM q7 hj hpre
   simp only[mF,Ht.val,Ht.cells]
   obtain⟨w2,hw2⟩:∃w2,w2=(W.alloc (.cells #[int i64 (hf 0),int i64 (hf 1),int i64 (hf 2),int i64 (hmm 0),int i64 (hmm 1),int i64 (hmm 2),int i64 (hmm 3),int i64 (hmm 4),int i64 (hmm 5),int i64 lies] 91)).alloc (.cells #[int i64 (s 0),int i64 (s 1),int i64 (s 2)] 88):=zE
   have H2:Hid (Whole w2 W.heap.size 91 #[int i64 (hf 0),int i64 (hf 1),int i64 (hf 2),int i64 (hmm 0),int i64 (hmm 1),int i64 (hmm 2),int i64 (hmm 3),int i64 (hmm 4),int i64 (hmm 5),int i64 lies]):=hid (by rw[hw2];exact(Whole.new _ _ _).alloc _)
   have S2:Hid (Whole w2 (W.heap.size+1) 88 #[int i64 (s 0),int i64 (s 1),int i64 (s 2)]):=hid (by
    have:=Whole.new (W.alloc (.cells #[int i64 (hf 0),int i64 (hf 1),int i64 (hf 2),int i64 (hmm 0),int i64 (hmm 1),int i64 (hmm 2),int i64 (hmm 3),int i64 (hmm 4),int i64 (hmm 5),int i64 lies] 91)) 88 #[int i64 (s 0),int i64 (s 1),int i64 (s 2)]
    rw[World.size_alloc] at this;rw[hw2];exact this)
   have B2:Hid (Below W.heap.size W w2):=hid (by rw[hw2];exact bw)
   have M2:=hid (HM.out.keeps (Keeps.bK B2.out))
   have Ga:=hid hw2
   clear hw2
   have q0:=cell_regrown (M2.out.wb.cell 0)
   have q1:=cell_regrown (M2.out.wb.cell 1)
   have q2:=cell_regrown (M2.out.wb.cell 2)
   have q3:=cell_regrown (M2.out.wb.cell 3)
   have q4:=cell_regrown (M2.out.wb.cell 4)
   have r0:=cell_regrown (S2.out.cell 0)
   have r1:=cell_regrown (S2.out.cell 1)
   have r2:=cell_regrown (S2.out.cell 2)
   have cS:∀d os,CallsIn (FW p) 0 prog 107 #[.agg #[int i64 dY,int i64 mO,.slice gA ng gc,.slice mA nm mc,.slice cA nc cc],int i64 nm] (grow (redrawn w2 d) os) fun e w''=>e=.returned (.agg #[int i64 L1,int i64 L2])∧∃p:Regrown,w''=grow (redrawn w2 p.d) p.os:=fun d os=>CallsIn.regrown_of (gi.out _ (((M2.out.at_.more M2.out.n0).below (below_regrown w2 d os)).more (below_regrown w2 d os).size))
   have cR:∀d os,CallsIn (FW p) 0 prog 106 #[.agg #[int i64 dY,int i64 mO,.slice gA ng gc,.slice mA nm mc,.slice cA nc cc],.agg #[int i64 (s 0),int i64 (s 1),int i64 (s 2)],.agg #[int i64 L1,int i64 L2]] (grow (redrawn w2 d) os) fun e w''=>e=.returned (.bool R)∧∃p:Regrown,w''=grow (redrawn w2 p.d) p.os:=fun d os=>CallsIn.regrown_of (MA.out _ (((M2.out.at_.more M2.out.n0).below (below_regrown w2 d os)).more (below_regrown w2 d os).size))
   gi_enter func105,ntmps105
   gi_wp2
   rw[← Ga.out]
   cases R
   ·refine wpIn_region_quiet_below rfl zk zk ?_
    repeat (quiet_step_in (first|exact cS _ _|exact cR _ _))
    refine wpQuietIn_nil ?_
    rintro w' ⟨⟨dq,osq⟩,rfl⟩
    have bn:=below_regrown w2 dq osq
    clear q0 q1 q2 q3 q4 r0 r1 r2 cS cR
    generalize grow (redrawn w2 dq) osq=w3 at bn⊢
    gi_wp2
    go_ret
    have hb:Below W.heap.size W w3:=B2.out.trans (bn.mono B2.out.size)
    exact⟨Keeps.bK hb,.inl ⟨rfl,by simpa using gE.out _ _ _ s8.out (hb.mono OQ.out.size)⟩⟩
   ·refine wpIn_region_quiet_below rfl zk zk ?_
    repeat (quiet_step_in (first|exact cS _ _|exact cR _ _))
    refine wpQuietIn_nil ?_
    rintro w' ⟨⟨dq,osq⟩,rfl⟩
    have bn:=below_regrown w2 dq osq
    clear q0 q1 q2 q3 q4 r0 r1 r2 cS cR
    generalize grow (redrawn w2 dq) osq=w3 at bn⊢
    have H3:=hid (H2.out.below bn H2.out.lt)
    have hb:Below W.heap.size W w3:=B2.out.trans (bn.mono B2.out.size)
    have M3:=hid (HM.out.keeps (Keeps.bK hb))
    have J3:=gE.out _ _ _ s8.out (hb.mono OQ.out.size)
    have K3:=OQ.out.trans (Keeps.bK hb)
    have qa:Hid (Keeps C W w3):=hid (Keeps.bK hb)
    obtain⟨fn,tmps,as1,bd,hy,rh⟩:=HhY.out pre ⟨hf,hmm,lies⟩ w3 (by simpa using tn.out) J3 K3
    simp only[Ht.val,Ht.cells] at hy
    have c3:∀i,w3.cell? ⟨Bb,i,none⟩=(#[int i64 dY,int i64 mO,.slice gA ng gc,.slice mA nm mc,.slice cA nc cc]:Array Value)[i]?:=M3.out.wb.cell
    have y3:w3.cell? ⟨By,0,none⟩=some (.func (.yield l) #[] #[]):=M3.out.wy.cell 0
    have h3:=H3.out.cell
    have Mz:=hid rh
    clear bn hb H2 S2 B2 M2 Ga tn J3 K3 rh
    gi_wp2
    refine Mz.out.mono ?_
    rintro e W5 ⟨hk5,(⟨rfl,ky⟩|⟨rfl,hx5⟩)⟩
    ·gi_wp2
     go_ret
     exact⟨qa.out.trans hk5,.inl ⟨rfl,by simpa using ky⟩⟩
    ·gi_wp2
     go_ret
     exact⟨qa.out.trans hk5,.inr ⟨rfl,[⟨hf,hmm,lies⟩],zs,hx5⟩⟩
 | succ fuel ih=>
   intro k h s pre W hkn hM q7 hj hpre hs hl
   have Uw:=ok.moves.1
   have Wf:=ok.moves.2 k zo
   have hsz0:=q7.size
   have Ey:∀w,b.At w w.heap.size→CallsIn (FW p) 0 prog 107 #[b.val,int i64 k] w fun e w'=>e=.returned (.agg #[int i64 (iw b k),int i64 (iq b k)])∧Below w.heap.size w w':=fun w hA=>CallsIn.wide (DF b k w hA zo ok.moves.1 (fun i hi=>by have:=(ok.moves.2 i hi).day;have:=ok.dY;omega))
   have TJ:∀w,b.At w w.heap.size→CallsIn (FW p) 0 prog 106 #[b.val,mF s,.agg #[int i64 (iw b k),int i64 (iq b k)]] w fun e w'=>e=.returned (.bool (eY b s (iw b k) (iq b k)))∧Below w.heap.size w w':=fun w hA=>CallsIn.wide (CZ b s _ _ w hA ok.counts.1 (fun i hi=>by have:=(ok.counts.2 i hi).good;have:=ok.bE.1;omega))
   obtain⟨L1,hL1⟩:∃x,x=iw b k:=zE
   obtain⟨L2,hL2⟩:∃x,x=iq b k:=zE
   obtain⟨R,hR⟩:∃R,R=eY b s (iw b k) (iq b k):=zE
   have hfl:eB b (fuel+1) k h s=if R=true then(bD (b.m k).lo ((b.m k).hi - (b.m k).lo+1).toNat).flatMap fun x=>eB b fuel (k+1) (dV h k x) (Gb b s (dV h k x) k) else[]:=by rw[hR];rfl
   rw[← hL1,← hL2] at Ey TJ
   rw[← hL1,← hL2] at hR
   rw[← hR] at TJ
   rw[hfl] at hpre⊢
   have ja:∀x w,0≤x→x≤99→b.At w w.heap.size→CallsIn (FW p) 0 prog 88 #[b.val,mF s,(dV h k x).val,int i64 k] w fun e w'=>e=.returned (mF (Gb b s (dV h k x) k))∧Below w.heap.size w w':=fun x w hx1 hx2 hA=>CallsIn.wide (Go.Proofs.YtpmafoalhnaokaaGreat.W.wJ b s (dV h k x) k w hA zo Wf ok.bE.1.2 zo hl (fun q hq=>by have:=hs q hq;omega) (by
    unfold Ht.real
    split
    ·omega
    ·simp[dV];omega))
   have hsA:∀x,0≤x→x≤99→∀q,q<3→-99 * ((k+1:Nat):Int)≤Gb b s (dV h k x) k q∧Gb b s (dV h k x) k q≤99 * (((k+1:Nat):Int)+1):=fun x hx1 hx2 q hq=>by
    have h1:=hs q hq
    have h2:0≤(dV h k x).real k∧(dV h k x).real k≤99:=by
     unfold Ht.real
     split
     ·omega
     ·simp[dV];omega
    unfold Gb uu
    push_cast
    split <;> (try split) <;> omega
   have Yr:=jT Wf.few
   obtain⟨AF,Hp⟩:∃AF,AF=fun x=>Gb b s (dV h k x) k:=zE
   obtain⟨FL,Hv⟩:∃FL,FL=fun x=>eB b fuel (k+1) (dV h k x) (AF x):=zE
   have xr:(fun x=>eB b fuel (k+1) (dV h k x) (Gb b s (dV h k x) k))=FL:=by rw[Hv,Hp]
   rw[xr] at hpre⊢
   have ihx:∀x pre W,0≤x→x≤99→FM b C N0 Bb By Bf l W→Keeps C W0 W→J pre W→(pre ++ FL x)<+:xs→CallsIn (FW p) 0 prog 105 #[(dV h k x).val,mF (AF x),int i64 ((k:Int)+1),.pointer (some ⟨Bb,0,none⟩),.pointer (some ⟨By,0,none⟩),.pointer (some ⟨Bf,0,none⟩)] W fun e W'=>Keeps C W W'∧((e=.returned (.bool true)∧J (pre ++ FL x) W')∨(e=.returned (.bool false)∧∃q,q<+:FL x∧Jx (pre ++ q) W')):=fun x pre W h1 h2 hM hK hj hp=>by
    have:=ih (k+1) (dV h k x) (AF x) pre W zo hM hK hj (by rw[Hv] at hp;exact hp) (by rw[Hp];exact hsA x h1 h2) hl
    rw[Hv]
    exact_mod_cast this
   have ud:∀x w,0≤x→x≤99→b.At w w.heap.size→CallsIn (FW p) 0 prog 88 #[b.val,mF s,(dV h k x).val,int i64 k] w fun e w'=>e=.returned (mF (AF x))∧Below w.heap.size w w':=by rw[Hp];exact ja
   have hbk:b.nm=k+(fuel+1):=hkn.symm
   have hM0:=hM
   clear ih ja hsA hfl xr Hv Hp hL1 hL2 hR hs Wf
   obtain⟨cnt,hcnt⟩:∃cnt,cnt=((b.m k).hi - (b.m k).lo+1).toNat:=zE
   rw[← hcnt] at hpre⊢
   obtain⟨dY,mO,gA,ng,gc,g,mA,nm,mc,m,cA,nc,cc,c⟩:=b
   obtain⟨lo,hlo⟩:∃lo,lo=(m k).lo:=zE
   obtain⟨hi,hhi⟩:∃hi,hi=(m k).hi:=zE
   simp only at Uw hbk Yr hcnt hpre
   rw[← hlo,← hhi] at Yr hcnt
   rw[← hlo] at hpre
   simp only
   rw[← hlo]
   have hc3:cnt≤3:=zo
   have HC:Hid ((cnt:Int)=hi - lo+1):=hid zo
   have HF:=hid Yr
   clear hcnt Yr
   have HKN:=hid hbk
   have HOK:=hid ok
   clear hkn ok
   have hdk:decide ((k:Int)=(nm:Int))=false:=decide_eq_false zo
   have aaw:((k:Int) == (nm:Int))=false:=zm
   obtain⟨ad,hA',-,-⟩:=hM.at_.m (show 0<nm by omega)
   have hkl:k<nm:=zo
   clear hbk hsz0
   simp only at hA'
   subst hA'
   have row:∀w',Keeps C W w'→w'.cell? ⟨(ad.add (k * 5)).block,(ad.add (k * 5)).off+3,none⟩=some (int i64 lo)∧w'.cell? ⟨(ad.add (k * 5)).block,(ad.add (k * 5)).off+3+1,none⟩=some (int i64 hi):=fun w' hk=>by
    have hr:=(hM.keeps hk).at_.m.row hkl
    rw[hlo,hhi]
    exact⟨hr.2 3 zD,hr.2 4 zD⟩
   have Row:=hid row
   clear row hlo hhi
   obtain⟨hf,hmm,lies⟩:=h
   simp only[Bk.val,Bk.cells,mF] at Ey TJ
   have gi:=hid Ey
   have MA:=hid TJ
   have Kp:=hid ud
   have HIh:=hid ihx
   have HM:=hid hM
   clear Ey TJ ud ihx hM0 hM
   have OQ:=hid q7
   have s8:=hid hj
   have tn:=hid hpre
   clear q7 hj hpre
   simp only[mF,Ht.val,Ht.cells]
   obtain⟨w2,hw2⟩:∃w2,w2=(W.alloc (.cells #[int i64 (hf 0),int i64 (hf 1),int i64 (hf 2),int i64 (hmm 0),int i64 (hmm 1),int i64 (hmm 2),int i64 (hmm 3),int i64 (hmm 4),int i64 (hmm 5),int i64 lies] 91)).alloc (.cells #[int i64 (s 0),int i64 (s 1),int i64 (s 2)] 88):=zE
   have H2:Hid (Whole w2 W.heap.size 91 #[int i64 (hf 0),int i64 (hf 1),int i64 (hf 2),int i64 (hmm 0),int i64 (hmm 1),int i64 (hmm 2),int i64 (hmm 3),int i64 (hmm 4),int i64 (hmm 5),int i64 lies]):=hid (by rw[hw2];exact(Whole.new _ _ _).alloc _)
   have S2:Hid (Whole w2 (W.heap.size+1) 88 #[int i64 (s 0),int i64 (s 1),int i64 (s 2)]):=hid (by
    have:=Whole.new (W.alloc (.cells #[int i64 (hf 0),int i64 (hf 1),int i64 (hf 2),int i64 (hmm 0),int i64 (hmm 1),int i64 (hmm 2),int i64 (hmm 3),int i64 (hmm 4),int i64 (hmm 5),int i64 lies] 91)) 88 #[int i64 (s 0),int i64 (s 1),int i64 (s 2)]
    rw[World.size_alloc] at this;rw[hw2];exact this)
   have B2:Hid (Below W.heap.size W w2):=hid (by rw[hw2];exact bw)
   have M2:=hid (HM.out.keeps (Keeps.bK B2.out))
   have Ga:=hid hw2
   clear hw2
   have q0:=cell_regrown (M2.out.wb.cell 0)
   have q1:=cell_regrown (M2.out.wb.cell 1)
   have q2:=cell_regrown (M2.out.wb.cell 2)
   have q3:=cell_regrown (M2.out.wb.cell 3)
   have q4:=cell_regrown (M2.out.wb.cell 4)
   have r0:=cell_regrown (S2.out.cell 0)
   have r1:=cell_regrown (S2.out.cell 1)
   have r2:=cell_regrown (S2.out.cell 2)
   have cS:∀d os,CallsIn (FW p) 0 prog 107 #[.agg #[int i64 dY,int i64 mO,.slice gA ng gc,.slice (some ad) nm mc,.slice cA nc cc],int i64 k] (grow (redrawn w2 d) os) fun e w''=>e=.returned (.agg #[int i64 L1,int i64 L2])∧∃p:Regrown,w''=grow (redrawn w2 p.d) p.os:=fun d os=>CallsIn.regrown_of (gi.out _ (((M2.out.at_.more M2.out.n0).below (below_regrown w2 d os)).more (below_regrown w2 d os).size))
   have cR:∀d os,CallsIn (FW p) 0 prog 106 #[.agg #[int i64 dY,int i64 mO,.slice gA ng gc,.slice (some ad) nm mc,.slice cA nc cc],.agg #[int i64 (s 0),int i64 (s 1),int i64 (s 2)],.agg #[int i64 L1,int i64 L2]] (grow (redrawn w2 d) os) fun e w''=>e=.returned (.bool R)∧∃p:Regrown,w''=grow (redrawn w2 p.d) p.os:=fun d os=>CallsIn.regrown_of (MA.out _ (((M2.out.at_.more M2.out.n0).below (below_regrown w2 d os)).more (below_regrown w2 d os).size))
   gi_enter func105,ntmps105
   gi_wp2
   rw[← Ga.out]
   cases R
   ·refine wpIn_region_quiet_below rfl zk zk ?_
    repeat (quiet_step_in (first|exact cS _ _|exact cR _ _))
    refine wpQuietIn_nil ?_
    rintro w' ⟨⟨dq,osq⟩,rfl⟩
    have bn:=below_regrown w2 dq osq
    clear q0 q1 q2 q3 q4 r0 r1 r2 cS cR
    generalize grow (redrawn w2 dq) osq=w3 at bn⊢
    gi_wp2
    go_ret
    have hb:Below W.heap.size W w3:=B2.out.trans (bn.mono B2.out.size)
    exact⟨Keeps.bK hb,.inl ⟨rfl,by simpa using gE.out _ _ _ s8.out (hb.mono OQ.out.size)⟩⟩
   ·refine wpIn_region_quiet_below rfl zk zk ?_
    repeat (quiet_step_in (first|exact cS _ _|exact cR _ _))
    refine wpQuietIn_nil ?_
    rintro w' ⟨⟨dq,osq⟩,rfl⟩
    have bn:=below_regrown w2 dq osq
    clear q0 q1 q2 q3 q4 r0 r1 r2 cS cR
    generalize grow (redrawn w2 dq) osq=w3 at bn⊢
    have H3:=hid (H2.out.below bn H2.out.lt)
    have S3:=hid (S2.out.below bn S2.out.lt)
    have hb:Below W.heap.size W w3:=B2.out.trans (bn.mono B2.out.size)
    have M3:=hid (HM.out.keeps (Keeps.bK hb))
    have J3:=hid (gE.out _ _ _ s8.out (hb.mono OQ.out.size))
    have K3:=hid (OQ.out.trans (Keeps.bK hb))
    have qa:Hid (Keeps C W w3):=hid (Keeps.bK hb)
    have hs3:=S3.out.lt
    have c3:∀i,w3.cell? ⟨Bb,i,none⟩=(#[int i64 dY,int i64 mO,.slice gA ng gc,.slice (some ad) nm mc,.slice cA nc cc]:Array Value)[i]?:=M3.out.wb.cell
    obtain⟨r3,r4⟩:=Row.out w3 qa.out
    have Mu:Hid (pre ++ (bD lo cnt).flatMap FL<+:xs):=hid (by simpa using tn.out)
    clear bn hb H2 S2 B2 M2 Ga tn
    gi_wp2
    have yo:∀x,W.heap.size≤x→¬ C x:=fun x hx hc=>by have:=HhC.out x hc;have:=OQ.out.size;omega
    have Ge:=hid yo
    obtain⟨w4,hw4⟩:∃w4,w4=w3.alloc (.cells #[int i64 lo,int i64 hi] 28):=zE
    have P4:Hid (Whole w4 w3.heap.size 28 #[int i64 lo,int i64 hi]):=hid (by rw[hw4];exact Whole.new _ _ _)
    have H4:Hid (Whole w4 W.heap.size 91 (⟨hf,hmm,lies⟩:Ht).cells):=hid (by rw[hw4];exact H3.out.alloc _)
    have S4:Hid (Whole w4 (W.heap.size+1) 88 #[int i64 (s 0),int i64 (s 1),int i64 (s 2)]):=hid (by rw[hw4];exact S3.out.alloc _)
    have KW4:Hid (Keeps C W w4):=hid (by rw[hw4];exact qa.out.trans (Keeps.bK (zB.alloc zL _)))
    have J4:Hid (J pre w4):=hid (by rw[hw4];exact gE.out _ _ _ J3.out (zB.alloc K3.out.size _))
    have hs4:w3.heap.size<w4.heap.size:=P4.out.lt
    rw[← hw4]
    have hWs:W.heap.size+1<w3.heap.size:=hs3
    clear hw4 H3 S3 qa J3 K3 M3 c3 r3 r4 yo
    gi_loopw [11] (fun n wr=>∃i:Nat,i≤cnt∧n=int i64 (lo+i)∧∃hm:Nat→Int,Hid (Keeps (fun x=>C x∨x=W.heap.size) w4 wr∧Whole wr W.heap.size 91 (⟨hf,hm,lies⟩:Ht).cells∧(∀x,dV ⟨hf,hm,lies⟩ k x=dV ⟨hf,hmm,lies⟩ k x)∧J (pre ++ (bD lo i).flatMap FL) wr)) (fun n _=>(hi+1 - intOf n).toNat)
    case atStart=>exact⟨0,Nat.zero_le _,zs,hmm,hid ⟨Keeps.refl _ _,H4.out,fun _=>rfl,by simpa [bD] using J4.out⟩⟩
    case round=>
     obtain⟨i,hii,rfl,hm,hT⟩:=hrel
     clear J4 H4
     have hKr:Keeps C W wr:=KW4.out.then hT.out.1 fun x hx h=>h.elim id fun h=>zo
     have HKr:=hid hKr
     have Mr:=hid (HM.out.keeps hKr)
     have Sr:=hid (S4.out.keeps hT.out.1 (fun h=>h.elim (Ge.out _ zo) (fun h=>zo)))
     have Pr:=hid (P4.out.keeps hT.out.1 (fun h=>h.elim (Ge.out _ zo) (fun h=>zo)))
     have g1:wr.cell? ⟨w3.heap.size,1,none⟩=some (int i64 hi):=Pr.out.cell 1
     have hst:=hT.out.1.size
     clear hKr
     by_cases hic:i<cnt
     ·have hd:decide (lo+(i:Int)≤hi)=true:=decide_eq_true (by have:=HC.out;omega)
      have hk0:(0:Int)≤(k:Int):=zo
      have Uu:(k:Int)<6:=zo
      have x0:wr.cell? ⟨W.heap.size,3+k,none⟩=some (int i64 (hm k)):=(hT.out.2.1.cell _).trans (TM zo)
      have xf:=hT.out.2.1.thaw
      have hWr:=hT.out.2.1.lt
      have hn0:0≤lo+(i:Int)∧lo+(i:Int)≤99:=by have:=HC.out;have:=HF.out;omega
      have HN0:=hid hn0
      have hnw:wrap64 (lo+(i:Int)+1)=lo+(i:Int)+1:=IntWalk.wrap64_in _ zo
      have tf:=hid hnw
      clear hn0
      obtain⟨nv,ll⟩:∃nv,nv=lo+(i:Int):=zE
      have M0:=hid ll
      rw[← ll] at hd HN0 hnw⊢
      clear ll
      gi_wp2
      obtain⟨hx,hhx⟩:∃hx,hx=dV ⟨hf,hmm,lies⟩ k nv:=zE
      obtain⟨sx,hsx⟩:∃sx,sx=AF nv:=zE
      have hx2:hx=(⟨hf,fun i=>if i=k then nv else hm i,lies⟩:Ht):=by rw[hhx,← hT.out.2.2.1 nv];rfl
      obtain⟨w7,hw7⟩:∃w7,w7=wr.setCell ⟨W.heap.size,3+k,none⟩ (int i64 nv):=zE
      have W7:Hid (Whole w7 W.heap.size 91 #[int i64 (hx.f 0),int i64 (hx.f 1),int i64 (hx.f 2),int i64 (hx.m 0),int i64 (hx.m 1),int i64 (hx.m 2),int i64 (hx.m 3),int i64 (hx.m 4),int i64 (hx.m 5),int i64 hx.lies]):=hid (by
       have:=hT.out.2.1.set (3+k) (int i64 nv)
       rw[Po zo,← hx2,← hw7] at this
       exact this)
      have K7:Hid (Keeps (fun x=>C x∨x=W.heap.size) wr w7):=hid (by rw[hw7];exact(Keeps.refl _ _).set (p:=⟨W.heap.size,3+k,none⟩) (.inr rfl) _)
      have NL:Hid (Keeps C W w7):=hid (HKr.out.then K7.out fun x hx h=>h.elim id fun h=>zo)
      have M7:=hid (HM.out.keeps NL.out)
      have S7:=hid (Sr.out.keeps K7.out (fun h=>h.elim (Ge.out _ zo) (fun h=>zo)))
      have J7:Hid (J (pre ++ (bD lo i).flatMap FL) w7):=hid (by rw[hw7];exact gE.out _ _ _ hT.out.2.2.2 (zB.setCell (p:=⟨W.heap.size,3+k,none⟩) (by have:=OQ.out.size;exact this) _))
      have HX2:=hid hx2
      have SY:=HN0.out
      have ja:=fun w=>Kp.out nv w SY.1 SY.2
      have Hi:=fun pre W=>HIh.out nv pre W SY.1 SY.2
      rw[← hhx,← hsx] at ja Hi
      simp only[Bk.val,Bk.cells,Ht.val,Ht.cells,mF] at ja Hi
      have HcI:=hid Hi
      have cA':∀d os,CallsIn (FW p) 0 prog 88 #[.agg #[int i64 dY,int i64 mO,.slice gA ng gc,.slice (some ad) nm mc,.slice cA nc cc],.agg #[int i64 (s 0),int i64 (s 1),int i64 (s 2)],.agg #[int i64 (hx.f 0),int i64 (hx.f 1),int i64 (hx.f 2),int i64 (hx.m 0),int i64 (hx.m 1),int i64 (hx.m 2),int i64 (hx.m 3),int i64 (hx.m 4),int i64 (hx.m 5),int i64 hx.lies],int i64 k] (grow (redrawn w7 d) os) fun e w''=>e=.returned (.agg #[int i64 (sx 0),int i64 (sx 1),int i64 (sx 2)])∧∃p:Regrown,w''=grow (redrawn w7 p.d) p.os:=fun d os=>CallsIn.regrown_of (ja _ (((M7.out.at_.more M7.out.n0).below (below_regrown w7 d os)).more (below_regrown w7 d os).size))
      have ek:IntKind.i64.wrap ((k:Int)+1)=(k:Int)+1:=IntWalk.i64_in _ zo
      rw[← hw7]
      clear hw7 hx2 SY ja Hi hhx hsx x0 xf g1 hnw
      have q0:=cell_regrown (M7.out.wb.cell 0)
      have q1:=cell_regrown (M7.out.wb.cell 1)
      have q2:=cell_regrown (M7.out.wb.cell 2)
      have q3:=cell_regrown (M7.out.wb.cell 3)
      have q4:=cell_regrown (M7.out.wb.cell 4)
      have q5:=cell_regrown (M7.out.wf.cell 0)
      have r0:=cell_regrown (S7.out.cell 0)
      have r1:=cell_regrown (S7.out.cell 1)
      have r2:=cell_regrown (S7.out.cell 2)
      have y0:=cell_regrown (W7.out.cell 0)
      have y1:=cell_regrown (W7.out.cell 1)
      have y2:=cell_regrown (W7.out.cell 2)
      have y3:=cell_regrown (W7.out.cell 3)
      have y4:=cell_regrown (W7.out.cell 4)
      have y5:=cell_regrown (W7.out.cell 5)
      have y6:=cell_regrown (W7.out.cell 6)
      have y7:=cell_regrown (W7.out.cell 7)
      have y8:=cell_regrown (W7.out.cell 8)
      have y9:=cell_regrown (W7.out.cell 9)
      refine aJ 9 rfl zk zk ?_
      simp only[List.take_succ_cons,List.take_zero,List.drop_succ_cons,List.drop_zero]
      repeat (quiet_step_in (exact cA' _ _))
      refine wpQuietIn_nil ?_
      rintro w' ⟨⟨dq,osq⟩,rfl⟩
      have bn:=below_regrown w7 dq osq
      clear q0 q1 q2 q3 q4 q5 r0 r1 r2 y0 y1 y2 y3 y4 y5 y6 y7 y8 y9 cA' ek
      generalize grow (redrawn w7 dq) osq=w9 at bn⊢
      have K9:Hid (Keeps (fun x=>C x∨x=W.heap.size) wr w9):=hid (K7.out.trans (Keeps.bK bn))
      have NN:Hid (Keeps C W w9):=hid (NL.out.trans (Keeps.bK bn))
      have M9:=hid (HM.out.keeps NN.out)
      have W9:=hid (W7.out.below bn W7.out.lt)
      have J9:=hid (gE.out _ _ _ J7.out (bn.mono (Nat.le_trans OQ.out.size NL.out.size)))
      obtain⟨rest,hrest⟩:∃rest,rest=((bD lo cnt).drop (i+1)).flatMap FL:=zE
      have e:(bD lo cnt).flatMap FL=(bD lo i).flatMap FL ++ (FL nv ++ rest):=by
       rw[hrest]
       have h1:bD lo cnt=bD lo i ++ nv :: (bD lo cnt).drop (i+1):=by
        have h2:(bD lo cnt).take i=bD lo i:=by
         unfold bD
         rw[← List.map_take,List.take_range,Nat.min_eq_left zo]
        have h3:(bD lo cnt)[i]'(by simp[bD];exact hic)=nv:=by rw[M0.out];simp[bD]
        have h4:=List.take_append_drop i (bD lo cnt)
        rw[h2,List.drop_eq_getElem_cons (by simp[bD];exact hic),h3] at h4
        exact h4.symm
       rw[h1,List.flatMap_append,List.flatMap_cons]
       congr 2
       rw[← h1]
      have HE:=hid e
      have hpx:(pre ++ (bD lo i).flatMap FL) ++ FL nv<+:xs:=by
       have h:=Mu.out
       rw[e] at h
       exact List.IsPrefix.trans ⟨rest,zs⟩ h
      have cr:=hid hpx
      clear bn hpx e hrest
      gi_wp2_with (gi_at_call 105;refine(HcI.out (pre ++ (bD lo i).flatMap FL) w9 M9.out (OQ.out.trans NN.out) J9.out cr.out).mono ?_;rintro e W5 ⟨hk5,(⟨rfl,ky⟩|⟨rfl,q,hq,hx5⟩)⟩)
      ·refine⟨⟨i+1,zo,by rw[M0.out,tf.out];congr 1;push_cast;omega,fun i=>if i=k then nv else hm i,hid ⟨hT.out.1.trans (K9.out.trans (hk5.more fun b _ h=>.inl h)),?_,fun x=>?_,?_⟩⟩,?_⟩
       ·have:=W9.out.keeps hk5 (Ge.out _ zL)
        rw[← HX2.out]
        exact this
       ·rw[← hT.out.2.2.1 x]
        unfold dV
        simp only
        congr 1
        funext y
        split <;> rfl
       ·rw[ni,List.flatMap_append,← List.append_assoc,← M0.out]
        simpa using ky
       ·have h1:=tf.out
        have h2:=M0.out
        have h3:=HC.out
        rw[h2,h1]
        simp only[intOf]
        omega
      ·go_ret
       refine⟨NN.out.trans hk5,.inr ⟨rfl,(bD lo i).flatMap FL ++ q,?_,by rw[← List.append_assoc];exact hx5⟩⟩
       rw[HE.out]
       obtain⟨r,hr⟩:=hq
       exact⟨r ++ rest,by rw[← hr];simp⟩
     ·obtain rfl:i=cnt:=zo
      have hd:decide (lo+(i:Int)≤hi)=false:=decide_eq_false (by have:=HC.out;omega)
      gi_wp2
      go_ret
      exact⟨HKr.out,.inl ⟨rfl,hT.out.2.2.2⟩⟩
theorem WO{p:FuncId→Prop}[Br p](b:Bk)(lies:Nat)(w:World):CallsIn (FW p) 0 prog 81 #[b.val,int i64 lies] w fun e w'=>e=.returned (.func (.func 104) #[] #[.pointer (some ⟨w.heap.size,0,none⟩),.pointer (some ⟨w.heap.size+1,0,none⟩)])∧
 Whole w' w.heap.size 73 b.cells∧Whole w' (w.heap.size+1) 3 #[int i64 lies]∧Below w.heap.size w w'∧w'.heap.size=w.heap.size+2:=by
 obtain⟨dY,mO,gA,ng,gc,g,mA,nm,mc,m,cA,nc,cc,c⟩:=b
 simp only[Bk.val,Bk.cells]
 gi_enter func81,ntmps81
 gi_wp2
 go_ret
 have e2:=Whole.new (w.alloc (.cells #[int i64 dY,int i64 mO,.slice gA ng gc,.slice mA nm mc,.slice cA nc cc] 73)) 3 #[int i64 lies]
 rw[World.size_alloc] at e2
 exact⟨rfl,(Whole.new _ _ _).alloc _,e2,bw,zs⟩
theorem WG{p:FuncId→Prop}[Br p](b:Bk)(ok:b.Ok)(lies:Nat)(hl:lies<64)(C:Nat→Prop)(N0 Bb Bl:Nat)(W:World)(hC:∀x,C x→x<W.heap.size)
 (hb:Whole W Bb 73 b.cells)(hw:Whole W Bl 3 #[int i64 lies])(hA:b.At W N0)(hN:N0≤W.heap.size)(cb:¬ C Bb)(cl:¬ C Bl)(cn:∀x,x<N0→¬ C x):
 Iter (FW p) prog 104 #[.pointer (some ⟨Bb,0,none⟩),.pointer (some ⟨Bl,0,none⟩)] (fun h:Ht=>#[h.val]) (gy b lies) C W:=by
 intro l J Jx hJ hJx hY h0
 show CallsIn (FW p) 0 prog 104 #[.func (.yield l) #[] #[],.pointer (some ⟨Bb,0,none⟩),.pointer (some ⟨Bl,0,none⟩)] W _
 have Hd:∀w,b.At w w.heap.size→CallsIn (FW p) 0 prog 108 #[b.val] w fun e w'=>∃A p,e=.returned (.slice A (aS b b.ng).length p)∧Rows w' w'.heap.size 3 A (aS b b.ng).length (fun i j=>int i64 ((aS b b.ng).getD i (fun _=>0) j))∧(∀ad,A=some ad→w.heap.size<ad.block)∧Below w.heap.size w w':=fun w hA=>CallsIn.wide (TW b w hA ok.bE)
 obtain⟨F,hF⟩:∃F:St→List Ht,F=fun s=>eB b b.nm 0 ⟨s,fun _=>0,lies⟩ s:=⟨_,rfl⟩
 obtain⟨L,hL⟩:∃L,L=aS b b.ng:=zE
 have hxs:gy b lies=L.flatMap F:=by rw[hL,hF];rfl
 have Q4:∀s∈L,∀q,q<3→0≤s q∧s q≤99:=by rw[hL];exact uE b ok.bE b.ng zL
 have hlen:L.length≤27:=by rw[hL];exact Nat.le_trans (mI b ok.bE b.ng zL) (Nat.le_trans (Nat.pow_le_pow_right zD ok.bE.1.2) zD)
 rw[← hL] at Hd
 have cY:=fun By Bf pre s W'=>kp b ok C N0 Bb By Bf l W J Jx (gy b lies) hC hJ hY b.nm 0 ⟨s,fun _=>0,lies⟩ s pre W' zo
 have PM:∀By Bf pre s W',s∈L→FM b C N0 Bb By Bf l W'→Keeps C W W'→J pre W'→(pre ++ F s)<+:L.flatMap F→CallsIn (FW p) 0 prog 105 #[(⟨s,fun _=>0,lies⟩:Ht).val,mF s,int i64 0,.pointer (some ⟨Bb,0,none⟩),.pointer (some ⟨By,0,none⟩),.pointer (some ⟨Bf,0,none⟩)] W' fun e W2=>Keeps C W' W2∧((e=.returned (.bool true)∧J (pre ++ F s) W2)∨(e=.returned (.bool false)∧∃q,q<+:F s∧Jx (pre ++ q) W2)):=fun By Bf pre s W' hs hM hK hj hp=>by
  have:=cY By Bf pre s W' hM hK hj (by rw[hxs,hF] at *;exact hp) (fun q hq=>by have:=Q4 s hs q hq;push_cast;omega) hl
  rw[hF]
  exact_mod_cast this
 rw[hxs]
 have hb':=hb
 obtain⟨dY,mO,gA,ng,gc,g,mA,nm,mc,m,cA,nc,cc,c⟩:=b
 simp only[Bk.val,Bk.cells,mF,Ht.val,Ht.cells] at Hd PM
 have HC:=hid hC
 have HJ:=hid hJ
 have Lz:=hid Hd
 have HFi:=hid PM
 have HLb:=hid Q4
 have HA:=hid hA
 have Xf:=hid cn
 have Hb:=hid hb
 have Hw:=hid hw
 have H0:=hid h0
 have CB:=hid cb
 have CL:=hid cl
 have HN:=hid hN
 clear hC hJ hJx hY Hd PM cY Q4 hA cn hb hb' hw h0 hxs hL hF ok cb cl hN
 obtain⟨w2,hw2⟩:∃w2,w2=(W.alloc (.cells #[.func (.yield l) #[] #[]] 108)).alloc (.cells #[.func (.func 105) #[] #[.pointer (some ⟨Bb,0,none⟩),.pointer (some ⟨W.heap.size,0,none⟩),.pointer (some ⟨W.heap.size+1,0,none⟩)]] 150):=zE
 have B2:Hid (Below W.heap.size W w2):=hid (by rw[hw2];exact bw)
 have M2:Hid (FM (⟨dY,mO,gA,ng,gc,g,mA,nm,mc,m,cA,nc,cc,c⟩:Bk) C N0 Bb W.heap.size (W.heap.size+1) l w2):=hid (by
  have hk:Keeps C W w2:=Keeps.bK B2.out
  have yo:∀x,W.heap.size≤x→¬ C x:=fun x hx hc=>by have:=HC.out x hc;omega
  refine⟨Hb.out.keeps hk CB.out,by rw[hw2];exact(Whole.new _ _ _).alloc _,?_,HA.out.keeps hk HN.out Xf.out,Nat.le_trans HN.out hk.size,CB.out,yo _ zL,yo _ (Nat.le_succ _),Xf.out⟩
  have:=Whole.new (W.alloc (.cells #[.func (.yield l) #[] #[]] 108)) 150 #[.func (.func 105) #[] #[.pointer (some ⟨Bb,0,none⟩),.pointer (some ⟨W.heap.size,0,none⟩),.pointer (some ⟨W.heap.size+1,0,none⟩)]]
  rw[World.size_alloc] at this;rw[hw2];exact this)
 have L2:Hid (Whole w2 Bl 3 #[int i64 lies]):=hid (Hw.out.keeps (Keeps.bK B2.out) CL.out)
 have hs2:w2.heap.size=W.heap.size+2:=by rw[hw2];simp
 have c0:∀i,w2.cell? ⟨Bb,i,none⟩=(#[int i64 dY,int i64 mO,.slice gA ng gc,.slice mA nm mc,.slice cA nc cc]:Array Value)[i]?:=M2.out.wb.cell
 rw[hw2] at c0
 have Ga:=hid hw2
 clear hw2
 gi_enter func104,ntmps104
 gi_wp2_with (gi_at_call 108;rw[← Ga.out];refine(Lz.out w2 (M2.out.at_.more M2.out.n0)).mono ?_;rintro e w4 ⟨A,p,rfl,Ud,hA4,hb4⟩)
 have K4:Hid (Keeps C W w4):=hid ((Keeps.bK B2.out).trans (Keeps.bK hb4))
 have M4:=hid (M2.out.keeps (Keeps.bK hb4))
 have L4:=hid (L2.out.below hb4 L2.out.lt)
 have J4:Hid (J [] w4):=hid (HJ.out _ _ _ H0.out (B2.out.trans (hb4.mono B2.out.size)))
 have R4:=hid Ud
 have A4:=hid hA4
 have hs4:W.heap.size+2≤w4.heap.size:=by have:=hb4.size;omega
 clear B2 M2 L2 c0 Ga Ud hA4 hb4 H0
 gi_loopw [11] (fun i wr=>∃q:Nat,q≤L.length∧i=int i64 q∧Hid (Keeps C w4 wr∧J ((L.take q).flatMap F) wr)) (fun i _=>L.length - (intOf i).toNat)
 case atStart=>exact⟨0,Nat.zero_le _,rfl,hid ⟨Keeps.refl _ _,by simpa using J4.out⟩⟩
 case round=>
  obtain⟨q,hq,rfl,hT⟩:=hrel
  obtain⟨wo,rfl⟩:∃wo:World,wo=wr:=zE
  have hso:W.heap.size+2≤wo.heap.size:=Nat.le_trans hs4 hT.out.1.size
  by_cases hq2:q<L.length
  ·obtain⟨ad,rfl,hab,hrow⟩:=R4.out (show 0<L.length by omega)
   have hnc:¬ C ad.block:=fun hx=>by have:=HC.out _ hx;have:=A4.out ad rfl;omega
   obtain⟨s,hs⟩:∃s,s=L.getD q (fun _=>0):=zE
   have hrw:∀j,j<3→wo.cell? ((ad.add (q * 3)).add j)=some (int i64 (s j)):=fun j hj=>by
    rw[jS,hs]
    exact(hT.out.1.cell (by rw[aH];exact hab) (by rw[aH];exact hnc)).trans (hrow q j hq2 hj)
   have d0:wo.cell? (ad.add (q * 3))=some (int i64 (s 0)):=hrw 0 zD
   have d1:wo.cell? ⟨(ad.add (q * 3)).block,(ad.add (q * 3)).off+1,none⟩=some (int i64 (s 1)):=hrw 1 zD
   have d2:wo.cell? ⟨(ad.add (q * 3)).block,(ad.add (q * 3)).off+2,none⟩=some (int i64 (s 2)):=hrw 2 zD
   have hmem:s∈L:=by rw[hs,List.getD_eq_getElem?_getD,List.getElem?_eq_getElem hq2];exact List.getElem_mem hq2
   have htk:L.take (q+1)=L.take q ++ [s]:=by rw[List.take_add_one,hs,List.getD_eq_getElem?_getD,List.getElem?_eq_getElem hq2];rfl
   have hpx:(L.take q).flatMap F ++ F s<+:L.flatMap F:=by
    have h:=List.take_append_drop (q+1) L
    refine⟨(L.drop (q+1)).flatMap F,?_⟩
    conv=>rhs;rw[← h,htk]
    simp
   obtain⟨wn,hwn⟩:∃wn,wn=wo.alloc (.cells #[int i64 (s 0),int i64 (s 1),int i64 (s 2)] 88):=zE
   have KN:Hid (Keeps C w4 wn):=hid (hT.out.1.trans (Keeps.bK (by rw[hwn];exact zB.alloc zL _)))
   have BN:Hid (Below wo.heap.size wo wn):=hid (by rw[hwn];exact zB.alloc zL _)
   have MN:=hid (M4.out.keeps KN.out)
   have f0:wn.cell? ⟨W.heap.size+1,0,none⟩=some (.func (.func 105) #[] #[.pointer (some ⟨Bb,0,none⟩),.pointer (some ⟨W.heap.size,0,none⟩),.pointer (some ⟨W.heap.size+1,0,none⟩)]):=MN.out.wf.cell 0
   have l0:wn.cell? ⟨Bl,0,none⟩=some (int i64 lies):=(L4.out.keeps KN.out CL.out).cell 0
   have JN:=hid (HJ.out _ _ _ hT.out.2 (BN.out.mono zo))
   have Ft:=hid htk
   have cr:=hid hpx
   have HM:=hid hmem
   rw[hwn] at f0 l0
   have Hwn:=hid hwn
   clear hwn htk hpx hmem hrow hrw hs hnc
   gi_wp2_with (gi_at_call 105;rw[← Hwn.out];refine(HFi.out _ _ _ s wn HM.out MN.out (K4.out.trans KN.out) JN.out cr.out).mono ?_;rintro e W5 ⟨hk5,(⟨rfl,ky⟩|⟨rfl,q5,hq5,hx5⟩)⟩)
   ·refine⟨⟨q+1,hq2,by push_cast;rfl,hid ⟨KN.out.trans hk5,?_⟩⟩,?_⟩
    ·rw[Ft.out,List.flatMap_append];simpa using ky
    ·simp only[intOf];omega
   ·((try simp only[Exit.inBlock,Exit.then]);first|refine bodyPost_ret (results_none rfl _ _ _) rfl ?_|refine bodyPost_end (results_none rfl _ _ _) rfl ?_)
    exact⟨⟨_,rfl⟩,K4.out.trans (KN.out.trans hk5),.inr ⟨_,List.IsPrefix.trans ((List.prefix_append_right_inj _).2 hq5) cr.out,hx5⟩⟩
  ·obtain rfl:q=L.length:=zo
   gi_wp2
   ((try simp only[Exit.inBlock,Exit.then]);first|refine bodyPost_ret (results_none rfl _ _ _) rfl ?_|refine bodyPost_end (results_none rfl _ _ _) rfl ?_)
   exact⟨⟨_,rfl⟩,K4.out.trans hT.out.1,.inl (by simpa using hT.out.2)⟩
end
section
open Go.RowKit
def Marks(lo:Nat):Nat→List Deferred→World→Prop
 | _,[],_=>True
 | hi,d :: ds,W=>∃r,d={target:=.collected r,args:=#[] }∧lo≤r∧r<hi∧W.heap[r]? =some (.deferred (some []))∧Marks lo r ds W
theorem Marks.of{lo:Nat}{W B:World}:∀ {ds:List Deferred} {hi:Nat},Marks lo hi ds W→(∀r,lo≤r→r<hi→B.heap[r]? =W.heap[r]?)→Marks lo hi ds B
 | [],_,_,_=>trivial
 | _ :: _,_,h,hb=>by
   obtain⟨r,e,h1,h2,h3,h4⟩:=h
   exact⟨r,e,h1,h2,(hb r h1 h2).trans h3,h4.of fun x hx hx2=>hb x hx zo⟩
theorem Marks.more{lo:Nat}{W:World}{ds:List Deferred}{hi hi':Nat}(h:Marks lo hi ds W)(hh:hi≤hi'):Marks lo hi' ds W:=by
 cases ds with
 | nil=>trivial
 | cons d ds=>
   obtain⟨r,e,h1,h2,h3,h4⟩:=h
   exact⟨r,e,h1,zo,h3,h4⟩
theorem Marks.keeps{lo hi:Nat}{C:Nat→Prop}{W B:World}{ds:List Deferred}(h:Marks lo hi ds W)(hk:Keeps C W B)(hC:∀x,C x→x<lo)(hh:hi≤W.heap.size):Marks lo hi ds B:=
 h.of fun r h1 h2=>hk.block r zo fun hc=>by have:=hC r hc;omega
theorem dA{F:Fence}{n:Nat}{P:Program}{fn:Func}{tmps:Array Value}{R:Ending→World→Prop}{lo:Nat}:∀ {ds:List Deferred} {hi:Nat} {W:World},Marks lo hi ds W→
 (∀B,Below lo W B→∃v,(results fn tmps).run P B=.ok v B∧R (.returned v) B)→lo≤W.heap.size→LeavesInM F n P fn tmps R ds .returning W
 | [],_,W,_,hR,_=>hR W zB
 | _ :: ds,_,W,h,hR,hlo=>by
   obtain⟨r,rfl,h1,h2,h3,h4⟩:=h
   have hb:Below lo W (W.putObj r (.deferred none)):=⟨rfl,rfl,rfl,by simp[World.putObj],fun b hb=>World.putObj_heap_other zo⟩
   refine⟨zs,.inl ⟨_,_,rfl,run_takeDeferred h3,?_⟩⟩
   exact dA (h4.of fun x _ hx2=>World.putObj_heap_other zo) (fun B hB=>hR B (hb.trans hB)) (Nat.le_trans hlo hb.size)
theorem Keeps.and{C:Nat→Prop}{n:Nat}{A B D:World}(h:Keeps C A B)(k:Below n B D)(hn:A.heap.size≤n):Keeps C A D:=
 ⟨k.os.trans h.os,k.tape.trans h.tape,k.output.trans h.output,Nat.le_trans h.size k.size,fun b hb hc=>(k.block b zo).trans (h.block b hb hc)⟩
end
section
open Go.RowKit
open Go.Sort (grow)
attribute [local go_sem] Oper.semAt_some
def aA(b:Bk)(lA:Option Addr)(n lc:Nat):Array Value:=#[int i64 b.dY,int i64 b.mO,.slice b.gA b.ng b.gc,.slice b.mA b.nm b.mc,.slice b.cA b.nc b.cc,.slice lA n lc]
theorem nV{p:FuncId→Prop}[Br p](b:Bk)(lA:Option Addr)(n lc:Nat)(w:World):CallsIn (FW p) 0 prog 39 #[.agg (aA b lA n lc)] w fun e w'=>e=.returned (.func (.func 79) #[] #[.pointer (some ⟨w.heap.size,0,none⟩)])∧
 Whole w' w.heap.size 75 (aA b lA n lc)∧Below w.heap.size w w'∧w'.heap.size=w.heap.size+1:=by
 obtain⟨dY,mO,gA,ng,gc,g,mA,nm,mc,m,cA,nc,cc,c⟩:=b
 simp only[aA]
 gi_enter func39,ntmps39
 gi_wp2
 go_ret
 exact⟨rfl,Whole.new _ _ _,bw,zs⟩
theorem Lf{p:FuncId→Prop}[Br p](b:Bk)(ok:b.Ok)(lA:Option Addr)(lc:Nat)(ls:List Nat)(hl:∀s∈ls,eu s)(hn:ls.length≤64)(C:Nat→Prop)(N0 Bc:Nat)(W:World)(hC:∀x,C x→x<W.heap.size)
 (hb:Whole W Bc 75 (aA b lA ls.length lc))(hR:Rows W N0 1 lA ls.length (fun i _=>int i64 ((ls.getD i 0:Nat):Int)))(hA:b.At W N0)(hN:N0≤W.heap.size)(cb:¬ C Bc)(cn:∀x,x<N0→¬ C x):
 Iter (FW p) prog 79 #[.pointer (some ⟨Bc,0,none⟩)] (fun h:Ht=>#[h.val]) (aB b ls) C W:=by
 intro l J Jx hJ hJx hY h0
 show CallsIn (FW p) 0 prog 79 #[.func (.yield l) #[] #[],.pointer (some ⟨Bc,0,none⟩)] W _
 have cL:∀s w,s∈ls→CallsIn (FW p) 0 prog 80 #[b.val,int i64 s] w fun e w'=>e=.returned (.bool (decide (pop s≤b.mO)))∧Below w.heap.size w w':=fun s w hs=>CallsIn.wide (TL b s (hl s hs) w)
 have cT:=fun s w=>WO (p:=p) b s w
 obtain⟨G,hG⟩:∃G:Nat→List Ht,G=fun s=>if pop s≤b.mO then gy b s else[]:=⟨_,rfl⟩
 have hxs:aB b ls=ls.flatMap G:=by
  rw[hG];unfold aB
  clear hR hb hY hJ hJx h0 hl hn cL
  induction ls with
  | nil=>rfl
  | cons s ls ih=>
    simp only[List.filter_cons,List.flatMap_cons]
    split
    ·rename_i h;rw[List.flatMap_cons,ih,if_pos (of_decide_eq_true h)]
    ·rename_i h;rw[ih,if_neg (fun k=>h (decide_eq_true k))];rfl
 have cI:∀s (C':Nat→Prop) (Bb Bl:Nat) (W':World),s∈ls→(∀x,C' x→x<W'.heap.size)→Whole W' Bb 73 b.cells→Whole W' Bl 3 #[int i64 s]→b.At W' N0→N0≤W'.heap.size→¬ C' Bb→¬ C' Bl→(∀x,x<N0→¬ C' x)→
  Iter (FW p) prog 104 #[.pointer (some ⟨Bb,0,none⟩),.pointer (some ⟨Bl,0,none⟩)] (fun h:Ht=>#[h.val]) (gy b s) C' W':=fun s C' Bb Bl W' hs=>WG (p:=p) b ok s (hl s hs) C' N0 Bb Bl W'
 rw[hxs] at hY⊢
 have GT:∀s,pop s≤b.mO→G s=gy b s:=fun s h=>by rw[hG];exact if_pos h
 have GF:∀s,¬ pop s≤b.mO→G s=[]:=fun s h=>by rw[hG];exact if_neg h
 have enc:∀h:Ht,#[h.val]=#[h.val]:=fun _=>rfl
 obtain⟨dY,mO,gA,ng,gc,g,mA,nm,mc,m,cA,nc,cc,c⟩:=b
 simp only[Bk.val,Bk.cells] at cL cT
 simp only[aA] at hb
 have HC:=hid hC
 have HJ:=hid hJ
 have HJx:=hid hJx
 have HY:=hid hY
 have HL:=hid cL
 have HT:=hid cT
 have HI:=hid cI
 have HA:=hid hA
 have Xf:=hid cn
 have Hb:=hid hb
 have HR:=hid hR
 have H0:=hid h0
 have CB:=hid cb
 have HN:=hid hN
 have HGT:=hid GT
 have HGF:=hid GF
 clear hC hJ hJx hY cL cT cI hA cn hb hR h0 cb hN GT GF hxs hG hl enc
 refine callsIn_of_wp_marks func79 rfl zs ?_ rfl
 simp only[ntmps79,List.size_toArray,List.length_cons,List.length_nil,Nat.reduceAdd,Nat.reduceSub,Array.replicate_succ,Array.replicate_zero,List.push_toArray,List.append_toArray,List.nil_append,List.cons_append]
 obtain⟨w2,hw2⟩:∃w2,w2=W.alloc (.cells #[.func (.yield l) #[] #[]] 108):=zE
 have B2:Hid (Below W.heap.size W w2):=hid (by rw[hw2];exact bw)
 have Y2:Hid (Whole w2 W.heap.size 108 #[.func (.yield l) #[] #[]]):=hid (by rw[hw2];exact Whole.new _ _ _)
 have c2:w2.cell? ⟨Bc,5,none⟩=some (.slice lA ls.length lc):=(Hb.out.keeps (Keeps.bK B2.out) CB.out).cell 5
 have hs2:w2.heap.size=W.heap.size+1:=by rw[hw2];simp
 rw[hw2] at c2
 have Ga:=hid hw2
 clear hw2
 gi_wp2
 rw[← Ga.out]
 have K2:Hid (Keeps C W w2):=hid (Keeps.bK B2.out)
 have J2:Hid (J [] w2):=hid (HJ.out _ _ _ H0.out B2.out)
 clear c2 Ga H0
 refine wpIn_loop (fun a' w'=>∃u4 u5 u10 u11 u12 u13 u14 u15 u16 u17 u18 u19 u20 u21 u22 u23 u24 u25 u26 u27 u9:Value,∃ (i:Nat) (ds:List Deferred),i≤ls.length∧u9=int i64 i∧a'={tmps:=#[.func (.yield l) #[] #[],.pointer (some ⟨Bc,0,none⟩),.pointer (some ⟨W.heap.size,0,none⟩),undef,u4,u5,.pointer (some ⟨Bc,5,none⟩),.slice lA ls.length lc,int i64 ls.length,u9,u10,u11,u12,u13,u14,u15,u16,u17,u18,u19,u20,u21,u22,u23,u24,u25,u26,u27],defers:=ds }∧Hid (Keeps C w2 w'∧J ((ls.take i).flatMap G) w'∧Marks w2.heap.size w'.heap.size ds w')) (fun a' _=>ls.length - (intOf (a'.tmps.getD 9 undef)).toNat) ?_ ?_
 ·exact⟨_,_,_,_,_,_,_,_,_,_,_,_,_,_,_,_,_,_,_,_,_,0,[],Nat.zero_le _,rfl,rfl,hid ⟨Keeps.refl _ _,by simpa using J2.out,zT⟩⟩
 ·rintro a wr ⟨u4,u5,u10,u11,u12,u13,u14,u15,u16,u17,u18,u19,u20,u21,u22,u23,u24,u25,u26,u27,_,i,ds,hi,rfl,rfl,hT⟩
  have hsr:W.heap.size+1≤wr.heap.size:=by have:=hT.out.1.size;omega
  have hC2:Hid (∀x,C x→x<w2.heap.size):=hid fun x hx=>by have:=HC.out x hx;omega
  by_cases hlt:i<ls.length
  ·obtain⟨ad,rfl,hab,hrow⟩:=HR.out (show 0<ls.length by omega)
   obtain⟨s,hs⟩:∃s,s=ls.getD i 0:=zE
   have KW:Hid (Keeps C W wr):=hid (K2.out.trans hT.out.1)
   have d0:wr.cell? (ad.add i)=some (int i64 s):=by
    rw[hs]
    refine(KW.out.cell (by rw[aH];have:=HN.out;omega) (by rw[aH];exact Xf.out _ hab)).trans ?_
    simpa using hrow i 0 hlt zD
   have hmem:s∈ls:=by rw[hs,List.getD_eq_getElem?_getD,List.getElem?_eq_getElem hlt];exact List.getElem_mem hlt
   have htk:ls.take (i+1)=ls.take i ++ [s]:=by rw[List.take_add_one,hs,List.getD_eq_getElem?_getD,List.getElem?_eq_getElem hlt];rfl
   have hpx:(ls.take i).flatMap G ++ G s<+:ls.flatMap G:=by
    have h:=List.take_append_drop (i+1) ls
    refine⟨(ls.drop (i+1)).flatMap G,?_⟩
    conv=>rhs;rw[← h,htk]
    simp
   have CW:=hid (Hb.out.keeps KW.out CB.out)
   have c0:wr.cell? ⟨Bc,0,none⟩=some (int i64 dY):=CW.out.cell 0
   have c1:wr.cell? ⟨Bc,1,none⟩=some (int i64 mO):=CW.out.cell 1
   have c2:wr.cell? ⟨Bc,2,none⟩=some (.slice gA ng gc):=CW.out.cell 2
   have c3:wr.cell? ⟨Bc,3,none⟩=some (.slice mA nm mc):=CW.out.cell 3
   have c4:wr.cell? ⟨Bc,4,none⟩=some (.slice cA nc cc):=CW.out.cell 4
   have HM:=hid hmem
   have Ft:=hid htk
   have cr:=hid hpx
   clear hs hmem htk hpx hrow
   by_cases hp:pop s≤mO
   ·have hq:=HL.out s wr HM.out
    rw[decide_eq_true hp] at hq
    have hg:=HGT.out s hp
    have HQ:=hid hq
    have HG:=hid hg
    clear hq hg hp
    gi_wp2_with (first
     | (gi_at_call 80;refine HQ.out.mono ?_;rintro e w5 ⟨rfl,hb5⟩
        have C5:=CW.out.below hb5 CW.out.lt
        have e0:w5.cell? ⟨Bc,0,none⟩=some (int i64 dY):=C5.cell 0
        have e1:w5.cell? ⟨Bc,1,none⟩=some (int i64 mO):=C5.cell 1
        have e2:w5.cell? ⟨Bc,2,none⟩=some (.slice gA ng gc):=C5.cell 2
        have e3:w5.cell? ⟨Bc,3,none⟩=some (.slice mA nm mc):=C5.cell 3
        have e4:w5.cell? ⟨Bc,4,none⟩=some (.slice cA nc cc):=C5.cell 4)
     | (gi_at_call 81;refine(HT.out s w5).mono ?_;rintro e w6 ⟨rfl,hbk,hin,hb6,hs6⟩))
    have K6:Hid (Keeps C w2 w6):=hid ((hT.out.1.and hb5 hT.out.1.size).and hb6 (Nat.le_trans hT.out.1.size hb5.size))
    have lK:=hid ((hb5.trans (hb6.mono hb5.size)).mono hT.out.1.size:Below w2.heap.size wr w6)
    have KW6:Hid (Keeps C W w6):=hid (K2.out.trans K6.out)
    have J6:=hid (HJ.out _ _ _ hT.out.2.1 (lK.out.mono zo))
    have M6:Hid (Marks w2.heap.size w5.heap.size ds w6):=hid (((hT.out.2.2.of fun r _ hr=>hb5.block r hr).more hb5.size).of fun r _ hr=>hb6.block r hr)
    have hs5:=hb5.size
    have vf:w2.heap.size≤w6.heap.size:=K6.out.size
    have aaS:w5.heap.size≤w6.heap.size:=zo
    obtain⟨done,hdn⟩:∃done,done=(ls.take i).flatMap G:=zE
    rw[HG.out,← hdn] at cr
    rw[← hdn] at J6
    have HDN:=hid hdn
    have R':=hb5
    have Sa:=hb6
    clear hb5 hb6 C5 e0 e1 e2 e3 e4 c0 c1 c2 c3 c4 d0 hdn
    refine iU (C:=C) rfl rfl (gf:=104) (lb:=#[.pointer (some ⟨w5.heap.size,0,none⟩),.pointer (some ⟨w5.heap.size+1,0,none⟩)]) rfl zs (enters_of func104 zk rfl) (encs:=fun h:Ht=>#[h.val]) (xs:=gy (⟨dY,mO,gA,ng,gc,g,mA,nm,mc,m,cA,nc,cc,c⟩:Bk) s)
     (fun x hx=>by have:=HC.out x hx;omega) ?hseq (fun _=>rfl) (fun pre W'=>J (done ++ pre) W') (fun c pre W'=>c=.ret∧Jx (done ++ pre) W')
     (fun pre A B h hb=>HJ.out _ _ _ h (hb.mono zo)) (fun c pre A B h hb=>⟨h.1,HJx.out _ _ _ h.2 (hb.mono zo)⟩) (by simpa using J6.out) ?gI ?hdone ?hstop
    case hseq=>
     intro W1 hb1 hs1
     have hc5:∀x,w5.heap.size≤x→¬ (C x∨x=w6.heap.size∨x=w6.heap.size+1)∨w6.heap.size≤x:=fun x hx=>by
      rcases Nat.lt_or_ge x w6.heap.size with h|h
      ·exact .inl (by rintro(h1|h1|h1) <;> first|(have:=HC.out x h1;omega)|omega)
      ·exact .inr h
     refine HI.out s _ _ _ W1 HM.out (fun x hx=>?_) (hbk.below hb1 hbk.lt) (hin.below hb1 hin.lt) ((HA.out.keeps KW6.out HN.out Xf.out).below (hb1.mono (by have:=HN.out;omega))) (by have:=HN.out;omega) ?_ ?_ (fun x hx=>?_)
     ·rcases hx with h|h|h
      ·have:=HC.out x h;omega
      ·omega
      ·omega
     ·exact(hc5 _ zL).resolve_right zo
     ·exact(hc5 _ (Nat.le_succ _)).resolve_right zo
     ·rintro(h|h|h)
      ·exact Xf.out x hx h
      ·have:=HN.out;omega
      ·have:=HN.out;omega
    case gI=>
     intro l' pre h A hl' hpre hj hk hsz hrec
     obtain⟨hf,hmm,wm⟩:=h
     simp only[Ht.val,Ht.cells]
     have hk2:Hid (Keeps C W A):=hid (KW6.out.trans hk)
     gi_wp2
     refine⟨bw,fun W2 hS=>?_⟩
     have hl2:w6.heap.size+2≤A.heap.size:=hsz
     have X2:Whole W2 A.heap.size 91 #[int i64 (hf 0),int i64 (hf 1),int i64 (hf 2),int i64 (hmm 0),int i64 (hmm 1),int i64 (hmm 2),int i64 (hmm 3),int i64 (hmm 4),int i64 (hmm 5),int i64 wm]:=(Whole.new A _ _).of (hS.block _ zo)
     have oP:Below (w6.heap.size+1) A W2:=((Below.refl _ A).alloc zo _).trans (hS.below zo)
     have KW2:Keeps C W W2:=hk2.out.and oP zo
     have YW:=((Y2.out.keeps hT.out.1 (fun hx=>by have:=HC.out _ hx;omega)).below R' zo).below Sa zo
     have y2:W2.cell? ⟨W.heap.size,0,none⟩=some (.func (.yield l) #[] #[]):=((YW.keeps hk (fun hx=>by have:=HC.out _ hx;omega)).below oP zo).cell 0
     obtain⟨fn,tmps,as1,bd,hy,rh⟩:=HY.out (done ++ pre) ⟨hf,hmm,wm⟩ W2 (by rw[List.append_assoc];exact List.IsPrefix.trans ((List.prefix_append_right_inj _).2 hpre) cr.out) (HJ.out _ _ _ hj (oP.mono zo)) KW2
     simp only[Ht.val,Ht.cells] at hy
     rw[List.append_assoc] at rh
     have x0:W2.cell? ⟨A.heap.size,0,none⟩=some (int i64 (hf 0)):=X2.cell 0
     have x1:W2.cell? ⟨A.heap.size,1,none⟩=some (int i64 (hf 1)):=X2.cell 1
     have x2:W2.cell? ⟨A.heap.size,2,none⟩=some (int i64 (hf 2)):=X2.cell 2
     have x3:W2.cell? ⟨A.heap.size,3,none⟩=some (int i64 (hmm 0)):=X2.cell 3
     have x4:W2.cell? ⟨A.heap.size,4,none⟩=some (int i64 (hmm 1)):=X2.cell 4
     have x5:W2.cell? ⟨A.heap.size,5,none⟩=some (int i64 (hmm 2)):=X2.cell 5
     have x6:W2.cell? ⟨A.heap.size,6,none⟩=some (int i64 (hmm 3)):=X2.cell 6
     have x7:W2.cell? ⟨A.heap.size,7,none⟩=some (int i64 (hmm 4)):=X2.cell 7
     have x8:W2.cell? ⟨A.heap.size,8,none⟩=some (int i64 (hmm 5)):=X2.cell 8
     have x9:W2.cell? ⟨A.heap.size,9,none⟩=some (int i64 wm):=X2.cell 9
     have Mz:=hid rh
     clear rh YW KW2 oP X2 hpre
     gi_wp2
     refine Mz.out.mono ?_
     rintro e W5 ⟨hk5,(⟨rfl,ky⟩|⟨rfl,hx5⟩)⟩
     ·gi_wp2
      exact⟨hk5,ky⟩
     ·gi_wp2
      exact⟨hk5,rfl,hx5⟩
    case hdone=>
     intro W' hj hk hm
     simp only[Exit.inBlock,Exit.then]
     go_at_K
     gi_wp2
     have hk5:=K6.out.trans hk
     refine⟨⟨_,_,_,_,_,_,_,_,_,_,_,_,_,_,_,_,_,_,_,_,_,i+1,_,hlt,by push_cast;rfl,rfl,hid ⟨hk5,?_,?_⟩⟩,?_⟩
     ·rw[Ft.out,List.flatMap_append,← HDN.out]
      simpa [HG.out] using hj
     ·exact⟨w6.heap.size,rfl,vf,(Array.getElem?_eq_some_iff.1 hm).1,hm,(M6.out.keeps hk hC2.out zo).more zo⟩
     ·simp only[intOf,Array.getD_eq_getD_getElem?]
      simp
      omega
    case hstop=>
     rintro c pre W' hpre ⟨rfl,hx⟩ hk hm
     gi_wp2
     show LeavesInM _ _ _ _ _ _ _ .returning W'
     have hms:Marks w2.heap.size W'.heap.size ({target:=.collected w6.heap.size,args:=#[] } :: ds) W':=⟨w6.heap.size,rfl,vf,(Array.getElem?_eq_some_iff.1 hm).1,hm,(M6.out.keeps hk hC2.out zo).more zo⟩
     refine dA hms (fun B hB=>⟨_,results_none rfl _ _ _,⟨_,rfl⟩,(K2.out.trans (K6.out.trans hk)).and hB zo,.inr ⟨done ++ pre,?_,HJx.out _ _ _ hx (hB.mono zo)⟩⟩) (K6.out.trans hk).size
     exact List.IsPrefix.trans ((List.prefix_append_right_inj _).2 hpre) cr.out
   ·have hq:=HL.out s wr HM.out
    rw[decide_eq_false hp] at hq
    have hg:=HGF.out s (by simpa using hp)
    have HQ:=hid hq
    have HG:=hid hg
    clear hq hg hp
    gi_wp2_with (gi_at_call 80;refine HQ.out.mono ?_;rintro e w5 ⟨rfl,hb5⟩)
    refine⟨⟨_,_,_,_,_,_,_,_,_,_,_,_,_,_,_,_,_,_,_,_,_,i+1,ds,hlt,by push_cast;rfl,rfl,hid ⟨hT.out.1.and hb5 hT.out.1.size,?_,?_⟩⟩,?_⟩
    ·rw[Ft.out,List.flatMap_append]
     simpa [HG.out] using HJ.out _ _ _ hT.out.2.1 (hb5.mono zo)
    ·exact(hT.out.2.2.of fun r _ hr=>hb5.block r hr).more hb5.size
    ·simp only[intOf,Array.getD_eq_getD_getElem?]
     simp
     omega
  ·obtain rfl:i=ls.length:=zo
   gi_wp2
   show LeavesInM _ _ _ _ _ _ ds .returning wr
   refine dA hT.out.2.2 (fun B hB=>⟨_,results_none rfl _ _ _,⟨_,rfl⟩,(K2.out.trans hT.out.1).and hB zo,.inl ?_⟩) hT.out.1.size
   simpa using HJ.out _ _ _ hT.out.2.1 (hB.mono zo)
end
section
open Go.RowKit
def pO(F:Fence)(gf:Nat)(lb:Array Value)(xs:List Ht)(w:World):Prop:=
 F.fn gf∧(∀args W,(callFunc gf args).run prog W=.ok (.enter gf args) W)∧∀ (C:Nat→Prop) (W:World),Below w.heap.size w W→(∀x,C x→w.heap.size≤x∧x<W.heap.size)→Iter F prog gf lb (fun h:Ht=>#[h.val]) xs C W
theorem pO.below{F:Fence}{gf:Nat}{lb:Array Value}{xs:List Ht}{w w':World}(h:pO F gf lb xs w)(hb:Below w.heap.size w w'):pO F gf lb xs w':=
 ⟨h.1,h.2.1,fun C W hW hC=>h.2.2 C W (hb.trans (hW.mono hb.size)) fun x hx=>⟨Nat.le_trans hb.size (hC x hx).1,(hC x hx).2⟩⟩
def uf(F:Fence)(g:Nat)(lb:Array Value)(xs:List Ht)(f:Ht→Value)(w:World):Prop:=
 F.fn g∧(∀args W,(callFunc g args).run prog W=.ok (.enter g args) W)∧∀ (W:World) (h:Ht),h∈xs→Below w.heap.size w W→CallsIn F 0 prog g (#[h.val] ++ lb) W fun e W'=>e=.returned (f h)∧Below W.heap.size W W'
theorem uf.below{F:Fence}{g:Nat}{lb:Array Value}{xs:List Ht}{f:Ht→Value}{w w':World}(h:uf F g lb xs f w)(hb:Below w.heap.size w w'):uf F g lb xs f w':=
 ⟨h.1,h.2.1,fun W x hx hW=>h.2.2 W x hx (hb.trans (hW.mono hb.size))⟩
theorem fP{α:Type}{pre xs:List α}{x:α}(h:pre ++ [x]<+:xs):x∈xs:=h.subset zs
theorem CallsIn.inRound{F:Fence}{P:Program}{n g l:Nat}{args:Array Value}{w:World}{R:Ending→World→Prop}(h:CallsIn F n P g args w R):CallsIn (F.inRound l) n P g args w R:=h
end
section
open Go.RowKit
attribute [local go_sem] Oper.semAt_some
theorem Tq{p:FuncId→Prop}[Br p](gf:Nat)(lb:Array Value)(xs:List Ht)(w:World)(h:pO (FW p) gf lb xs w):CallsIn (FW p) 0 prog 77 #[.func (.func gf) #[] lb] w fun e w'=>e=.returned (.bool (!xs.isEmpty))∧Below w.heap.size w w':=by
 obtain⟨hfn,NS,hit⟩:=h
 have HIT:=hid hit
 have RN:=hid NS
 clear hit NS
 refine callsIn_of_wp_marks func77 rfl zs ?_ rfl
 simp only[ntmps77,List.size_toArray,List.length_cons,List.length_nil,Nat.reduceAdd,Nat.reduceSub,Array.replicate_succ,Array.replicate_zero,List.push_toArray,List.append_toArray,List.nil_append,List.cons_append]
 gi_wp2
 obtain⟨w1,hw1⟩:∃w1,w1=w.alloc (.cells #[.bool false] 4):=zE
 have B1:Hid (Below w.heap.size w w1):=hid (by rw[hw1];exact bw)
 have W1:Hid (Whole w1 w.heap.size 4 #[.bool false]):=hid (by rw[hw1];exact Whole.new _ _ _)
 have hs1:w1.heap.size=w.heap.size+1:=by rw[hw1];simp
 rw[← hw1]
 clear hw1
 have leave:∀ (tmps:Array Value) (t:Bool) (W:World),tmps[2]?.getD undef=.pointer (some ⟨w.heap.size,0,none⟩)→Whole W w.heap.size 4 #[.bool t]→(results Tryz.f77 tmps).run prog W=.ok (.bool t) W:=fun tmps t W ht hW=>by
  have:=hW.cell 0
  simp at this
  simp[results,Tryz.f77,go_sem,this,ht]
 refine iU (C:=fun x=>x=w.heap.size) rfl rfl (gf:=gf) (lb:=lb) rfl hfn RN.out (encs:=fun h:Ht=>#[h.val]) (xs:=xs)
  (fun x hx=>zo) ?hseq (fun _=>rfl) (fun pre W'=>pre=[]∧Whole W' w.heap.size 4 #[.bool false]) (fun c pre W'=>c=.ret∧pre≠[]∧Whole W' w.heap.size 4 #[.bool true])
  (fun pre A B h hb=>⟨h.1,h.2.below hb zo⟩) (fun c pre A B h hb=>⟨h.1,h.2.1,h.2.2.below hb zo⟩) ⟨rfl,W1.out⟩ ?gI ?hdone ?hstop
 case hseq=>exact fun W2 hb2 hs2=>HIT.out _ W2 (B1.out.trans (hb2.mono B1.out.size)) fun x hx=>zo
 case gI=>
  intro l' pre h A hl' hpre hj hk hsz hrec
  gi_wp2
  refine⟨zB,fun W2 hS=>?_⟩
  have ij:Whole W2 w.heap.size 4 #[.bool false]:=hj.2.of (hS.block _ zo)
  have c0:W2.cell? ⟨w.heap.size,0,none⟩=some (.bool false):=ij.cell 0
  have f0:=ij.thaw
  gi_wp2
  exact⟨Keeps.set (C:=fun x=>x=w.heap.size) (p:=⟨w.heap.size,0,none⟩) (Keeps.refl _ _) rfl _,rfl,zs,ij.set 0 (.bool true)⟩
 case hdone=>
  intro W' hj hk hm
  have c0:W'.cell? ⟨w.heap.size,0,none⟩=some (.bool false):=hj.2.cell 0
  have f0:=hj.2.thaw
  simp only[Exit.inBlock,Exit.then]
  go_at_K
  gi_wp2
  have WW:=hj.2.set 0 (.bool false)
  have hms:Marks w1.heap.size (w1.heap.size+1) [{target:=.collected w1.heap.size,args:=#[] }] (W'.setCell ⟨w.heap.size,0,none⟩ (.bool false)):=⟨_,rfl,zL,Nat.lt_succ_self _,(Below.heap_setCell _ _ _ _ zm).trans hm,zT⟩
  have hk':=hk.set (p:=⟨w.heap.size,0,none⟩) rfl (.bool false)
  refine dA hms (fun B hB=>⟨_,leave _ false B rfl (WW.below hB zo),?_,?_⟩) hk'.size
  ·cases xs with
   | nil=>rfl
   | cons x xs=>exact absurd hj.1 zs
  ·exact(B1.out.trans (hk'.below (n:=w.heap.size) (fun b hb hc=>zo) zo)).trans (hB.mono zo)
 case hstop=>
  rintro c pre W' hpre ⟨rfl,hne,hx⟩ hk hm
  gi_wp2
  have hms:Marks w1.heap.size (w1.heap.size+1) [{target:=.collected w1.heap.size,args:=#[] }] W':=⟨_,rfl,zL,Nat.lt_succ_self _,hm,zT⟩
  refine dA hms (fun B hB=>⟨_,leave _ true B rfl (hx.below hB zo),?_,?_⟩) hk.size
  ·cases xs with
   | nil=>exact absurd (List.prefix_nil.1 hpre) hne
   | cons x xs=>rfl
  ·exact(B1.out.trans (hk.below (n:=w.heap.size) (fun b hb hc=>zo) zo)).trans (hB.mono zo)
end
section
open Go.RowKit
open Go.Sort (grow)
attribute [local go_sem] Oper.semAt_some
theorem iP{α:Type}{pre xs:List α}{x:α}(h:pre ++ [x]<+:xs):pre.length<xs.length:=by
 have:=h.length_le
 simp at this
 omega
theorem Yc(gf:Nat)(lb:Array Value)(xs:List Ht)(w:World)(hlen:xs.length<2 ^ 40)(h:pO FF gf lb xs w):CallsIn FF 0 prog 38 #[.func (.func gf) #[] lb] w fun e w'=>e=.returned (int i64 xs.length)∧Below w.heap.size w w':=by
 obtain⟨hfn,NS,hit⟩:=h
 have HIT:=hid hit
 have RN:=hid NS
 clear hit NS
 refine callsIn_of_wp_marks func38 rfl zs ?_ rfl
 simp only[ntmps38,List.size_toArray,List.length_cons,List.length_nil,Nat.reduceAdd,Nat.reduceSub,Array.replicate_succ,Array.replicate_zero,List.push_toArray,List.append_toArray,List.nil_append,List.cons_append]
 gi_wp2
 obtain⟨w1,hw1⟩:∃w1,w1=w.alloc (.cells #[int i64 0] 3):=zE
 have B1:Hid (Below w.heap.size w w1):=hid (by rw[hw1];exact bw)
 have W1:Hid (Whole w1 w.heap.size 3 #[int i64 0]):=hid (by rw[hw1];exact Whole.new _ _ _)
 have hs1:w1.heap.size=w.heap.size+1:=by rw[hw1];simp
 rw[← hw1]
 clear hw1
 refine iU (C:=fun x=>x=w.heap.size) rfl rfl (gf:=gf) (lb:=lb) rfl hfn RN.out (encs:=fun h:Ht=>#[h.val]) (xs:=xs)
  (fun x hx=>zo) ?hseq (fun _=>rfl) (fun pre W'=>Whole W' w.heap.size 3 #[int i64 pre.length]) (fun c pre W'=>False)
  (fun pre A B h hb=>h.below hb zo) (fun c pre A B h hb=>h.elim) W1.out ?gI ?hdone ?hstop
 case hseq=>exact fun W2 hb2 hs2=>HIT.out _ W2 (B1.out.trans (hb2.mono B1.out.size)) fun x hx=>zo
 case gI=>
  intro l' pre h A hl' hpre hj hk hsz hrec
  gi_wp2
  refine⟨zB,fun W2 hS=>?_⟩
  have ij:Whole W2 w.heap.size 3 #[int i64 pre.length]:=hj.of (hS.block _ zo)
  have c0:W2.cell? ⟨w.heap.size,0,none⟩=some (int i64 pre.length):=ij.cell 0
  have f0:=ij.thaw
  have e1:wrap64 ((pre.length:Int)+1)=(pre.length:Int)+1:=IntWalk.wrap64_in _ (by have:=iP hpre;omega)
  gi_wp2
  exact⟨Keeps.set (C:=fun x=>x=w.heap.size) (p:=⟨w.heap.size,0,none⟩) (Keeps.refl _ _) rfl _,by simpa using ij.set 0 (int i64 (pre.length+1))⟩
 case hdone=>
  intro W' hj hk hm
  have c0:W'.cell? ⟨w.heap.size,0,none⟩=some (int i64 xs.length):=hj.cell 0
  simp only[Exit.inBlock,Exit.then]
  go_at_K
  gi_wp2
  have hms:Marks w1.heap.size (w1.heap.size+1) [{target:=.collected w1.heap.size,args:=#[] }] W':=⟨_,rfl,zL,Nat.lt_succ_self _,hm,zT⟩
  refine dA hms (fun B hB=>⟨_,results_tmp rfl _ _ _,rfl,?_⟩) hk.size
  exact(B1.out.trans (hk.below (n:=w.heap.size) (fun b hb hc=>zo) zo)).trans (hB.mono zo)
 case hstop=>
  rintro c pre W' hpre hx hk hm
  exact hx.elim
def Oz(n so:Nat):Int:=if n=0 then 0 else if so=n then 1 else if so=0 then 2 else 0
def TD(n:Nat):Int:=if n=0 then 9 else 0
theorem oa(gf:Nat)(lb:Array Value)(g:Nat)(lg:Array Value)(p:Ht→Bool)(xs:List Ht)(w:World)(hlen:xs.length<2 ^ 40)(h:pO FF gf lb xs w)(hg:uf FF g lg xs (fun h=>.bool (p h)) w):CallsIn FF 0 prog 57 #[.func (.func gf) #[] lb,.func (.func g) #[] lg] w fun e w'=>e=.returned (.tuple #[int i64 (Oz xs.length (xs.filter p).length),int i64 (TD xs.length)])∧Below w.heap.size w w':=by
 obtain⟨so,hso⟩:∃so,so=(xs.filter p).length:=zE
 obtain⟨n,hn⟩:∃n,n=xs.length:=zE
 have hle:so≤n:=by rw[hso,hn];exact List.length_filter_le _ _
 have HSO:=hid hso
 have HNN:=hid hn
 have aaI:n<2 ^ 40:=zo
 rw[← hso,← hn]
 clear hso hn
 obtain⟨hfn,NS,hit⟩:=h
 have HIT:=hid hit
 have RN:=hid NS
 obtain⟨hgf,hge,hgc⟩:=hg
 rw[qO] at hgf
 have HG:=hid hgc
 clear hit NS hgc
 refine callsIn_of_wp_marks func57 rfl zs ?_ rfl
 simp only[ntmps57,List.size_toArray,List.length_cons,List.length_nil,Nat.reduceAdd,Nat.reduceSub,Array.replicate_succ,Array.replicate_zero,List.push_toArray,List.append_toArray,List.nil_append,List.cons_append]
 gi_wp2
 obtain⟨w1,hw1⟩:∃w1,w1=((w.alloc (.cells #[.func (.func g) #[] lg] 108)).alloc (.cells #[int i64 0] 3)).alloc (.cells #[int i64 0] 3):=zE
 have B1:Hid (Below w.heap.size w w1):=hid (by rw[hw1];exact bw)
 have F1:Hid (Whole w1 w.heap.size 108 #[.func (.func g) #[] lg]):=hid (by rw[hw1];exact((Whole.new _ _ _).alloc _).alloc _)
 have M1:Hid (Whole w1 (w.heap.size+1) 3 #[int i64 0]):=hid (by
  have:=Whole.new (w.alloc (.cells #[.func (.func g) #[] lg] 108)) 3 #[int i64 0]
  rw[World.size_alloc] at this;rw[hw1];exact this.alloc _)
 have S1:Hid (Whole w1 (w.heap.size+1+1) 3 #[int i64 0]):=hid (by
  have:=Whole.new ((w.alloc (.cells #[.func (.func g) #[] lg] 108)).alloc (.cells #[int i64 0] 3)) 3 #[int i64 0]
  rw[World.size_alloc,World.size_alloc] at this;rw[hw1];exact this)
 have hs1:w1.heap.size=w.heap.size+3:=by rw[hw1];simp
 rw[← hw1]
 clear hw1
 obtain⟨CC,Uc⟩:∃CC:Nat→Prop,CC=fun x=>x=w.heap.size+1∨x=w.heap.size+1+1:=⟨_,rfl⟩
 have nJ:∀x,CC x↔x=w.heap.size+1∨x=w.heap.size+1+1:=fun x=>by rw[Uc]
 clear Uc
 refine iU (C:=CC) rfl rfl (gf:=gf) (lb:=lb) rfl hfn RN.out (encs:=fun h:Ht=>#[h.val]) (xs:=xs)
  (fun x hx=>by have:=(nJ x).1 hx;omega) ?hseq (fun _=>rfl) (fun pre W'=>Hid (Whole W' w.heap.size 108 #[.func (.func g) #[] lg]∧Whole W' (w.heap.size+1) 3 #[int i64 pre.length]∧Whole W' (w.heap.size+1+1) 3 #[int i64 (pre.filter p).length])) (fun c pre W'=>False)
  (fun pre A B h hb=>hid ⟨h.out.1.below hb zo,h.out.2.1.below hb zo,h.out.2.2.below hb zo⟩) (fun c pre A B h hb=>h.elim) (hid ⟨F1.out,M1.out,S1.out⟩) ?gI ?hdone ?hstop
 case hseq=>exact fun W2 hb2 hs2=>HIT.out _ W2 (B1.out.trans (hb2.mono B1.out.size)) fun x hx=>by rw[nJ] at hx;omega
 case gI=>
  intro l' pre h A hl' hpre hj hk hsz hrec
  obtain⟨hf,hmm,wm⟩:=h
  simp only[Ht.val,Ht.cells]
  gi_wp2
  refine⟨bw,fun W2 hS=>?_⟩
  have oP:Below (w.heap.size+3) A W2:=((Below.refl _ A).alloc zo _).trans (hS.below zo)
  have X2:Whole W2 A.heap.size 91 (⟨hf,hmm,wm⟩:Ht).cells:=(Whole.new A _ _).of (hS.block _ zo)
  have F2:=hid (hj.out.1.below oP zo)
  have M2:=hid (hj.out.2.1.below oP zo)
  have S2:=hid (hj.out.2.2.below oP zo)
  have e1:wrap64 ((pre.length:Int)+1)=(pre.length:Int)+1:=IntWalk.wrap64_in _ (by have:=iP hpre;omega)
  have hfl:(pre.filter p).length≤pre.length:=List.length_filter_le _ _
  have e2:wrap64 (((pre.filter p).length:Int)+1)=((pre.filter p).length:Int)+1:=IntWalk.wrap64_in _ (by have:=iP hpre;omega)
  have c6:W2.cell? ⟨w.heap.size+1,0,none⟩=some (int i64 pre.length):=M2.out.cell 0
  have f6:=M2.out.thaw
  have hsA:A.heap.size+1≤W2.heap.size:=by have:=hS.size;simp at this;exact Nat.le_of_eq this.symm
  obtain⟨W3,hW3⟩:∃W3,W3=W2.setCell ⟨w.heap.size+1,0,none⟩ (int i64 (pre.length+1)):=zE
  have F3:=hid (by rw[hW3];exact F2.out.other zF _:Whole W3 w.heap.size 108 #[.func (.func g) #[] lg])
  have X3:Hid (Whole W3 A.heap.size 91 (⟨hf,hmm,wm⟩:Ht).cells):=hid (by rw[hW3];exact X2.other zF _)
  have M3:Hid (Whole W3 (w.heap.size+1) 3 #[int i64 (pre.length+1)]):=hid (by rw[hW3];exact M2.out.set 0 (int i64 (pre.length+1)))
  have S3:Hid (Whole W3 (w.heap.size+1+1) 3 #[int i64 (pre.filter p).length]):=hid (by rw[hW3];exact S2.out.other zF _)
  have K3:Hid (Keeps CC W2 W3):=hid (by rw[hW3];exact Keeps.set (p:=⟨w.heap.size+1,0,none⟩) (Keeps.refl _ _) ((nJ _).2 (.inl rfl)) _)
  have hs3:W3.heap.size=W2.heap.size:=by rw[hW3];simp[World.setCell]
  have q0:W3.cell? ⟨w.heap.size,0,none⟩=some (.func (.func g) #[] lg):=F3.out.cell 0
  have x0:W3.cell? ⟨A.heap.size,0,none⟩=some (int i64 (hf 0)):=X3.out.cell 0
  have x1:W3.cell? ⟨A.heap.size,1,none⟩=some (int i64 (hf 1)):=X3.out.cell 1
  have x2:W3.cell? ⟨A.heap.size,2,none⟩=some (int i64 (hf 2)):=X3.out.cell 2
  have x3:W3.cell? ⟨A.heap.size,3,none⟩=some (int i64 (hmm 0)):=X3.out.cell 3
  have x4:W3.cell? ⟨A.heap.size,4,none⟩=some (int i64 (hmm 1)):=X3.out.cell 4
  have x5:W3.cell? ⟨A.heap.size,5,none⟩=some (int i64 (hmm 2)):=X3.out.cell 5
  have x6:W3.cell? ⟨A.heap.size,6,none⟩=some (int i64 (hmm 3)):=X3.out.cell 6
  have x7:W3.cell? ⟨A.heap.size,7,none⟩=some (int i64 (hmm 4)):=X3.out.cell 7
  have x8:W3.cell? ⟨A.heap.size,8,none⟩=some (int i64 (hmm 5)):=X3.out.cell 8
  have x9:W3.cell? ⟨A.heap.size,9,none⟩=some (int i64 wm):=X3.out.cell 9
  have hB3:Below w.heap.size w W3:=by
   rw[hW3]
   exact(((B1.out.trans (hk.below (n:=w.heap.size) (fun b hb hc=>by have:=(nJ b).1 hc;omega) zo)).trans (oP.mono zo))).setCell zs _
  have cG:=HG.out W3 ⟨hf,hmm,wm⟩ (fP hpre) hB3
  simp only[Ht.val,Ht.cells] at cG
  rw[hW3] at q0 x0 x1 x2 x3 x4 x5 x6 x7 x8 x9
  have HW3:=hid hW3
  have pZ:=hid cG
  have hpf:∀b,p ⟨hf,hmm,wm⟩=b→(pre ++ [(⟨hf,hmm,wm⟩:Ht)]).filter p=pre.filter p ++ if b=true then[⟨hf,hmm,wm⟩] else[]:=fun b hb=>by
   rw[List.filter_append,List.filter_cons,hb];cases b <;> rfl
  obtain⟨t,ht⟩:∃t,p ⟨hf,hmm,wm⟩=t:=⟨_,rfl⟩
  have HPF:=hid (hpf t ht)
  rw[ht] at pZ
  clear hpf hW3 cG hB3 X2 oP ht
  have fin:∀W5,Keeps CC W2 W5→Whole W5 w.heap.size 108 #[.func (.func g) #[] lg]→Whole W5 (w.heap.size+1) 3 #[int i64 (pre.length+1)]→Whole W5 (w.heap.size+1+1) 3 #[int i64 ((pre ++ [(⟨hf,hmm,wm⟩:Ht)]).filter p).length]→
   wS CC (fun W'=>Hid (Whole W' w.heap.size 108 #[.func (.func g) #[] lg]∧Whole W' (w.heap.size+1) 3 #[int i64 (pre ++ [(⟨hf,hmm,wm⟩:Ht)]).length]∧Whole W' (w.heap.size+1+1) 3 #[int i64 ((pre ++ [(⟨hf,hmm,wm⟩:Ht)]).filter p).length])) (fun c W'=>False) W2 .normal {tmps:=#[],defers:=[] } W5:=fun W5 k f m s=>⟨k,hid ⟨f,by simpa using m,s⟩⟩
  have FIN:=hid fin
  clear fin
  cases t
  ·gi_wp2_with (rw[← HW3.out];refine pZ.out.mono ?_;rintro e W4 ⟨rfl,hb4⟩)
   refine FIN.out W4 (K3.out.trans (Keeps.bK hb4)) (F3.out.below hb4 F3.out.lt) (M3.out.below hb4 M3.out.lt) ?_
   rw[HPF.out]
   simpa using S3.out.below hb4 S3.out.lt
  ·gi_wp2_with (rw[← HW3.out];refine pZ.out.mono ?_;rintro e W4 ⟨rfl,hb4⟩;have S4:=S3.out.below hb4 S3.out.lt;have c7:W4.cell? ⟨w.heap.size+1+1,0,none⟩=some (int i64 (pre.filter p).length):=S4.cell 0;have f7:=S4.thaw)
   refine FIN.out _ (Keeps.set (p:=⟨w.heap.size+1+1,0,none⟩) (K3.out.trans (Keeps.bK hb4)) ((nJ _).2 (.inr rfl)) _) ((F3.out.below hb4 F3.out.lt).other zF _) ((M3.out.below hb4 M3.out.lt).other zF _) ?_
   rw[HPF.out]
   simpa using S4.set 0 (int i64 ((pre.filter p).length+1))
 case hdone=>
  intro W' hj hk hm
  have c6:W'.cell? ⟨w.heap.size+1,0,none⟩=some (int i64 n):=by rw[HNN.out];exact hj.out.2.1.cell 0
  have c7:W'.cell? ⟨w.heap.size+1+1,0,none⟩=some (int i64 so):=by rw[HSO.out];exact hj.out.2.2.cell 0
  have hms:Marks w1.heap.size (w1.heap.size+1) [{target:=.collected w1.heap.size,args:=#[] }] W':=⟨_,rfl,zL,Nat.lt_succ_self _,hm,zT⟩
  have Xv:=hid hms
  have HKK:=hid hk
  have MZ:Hid (Below w.heap.size w W'):=hid (B1.out.trans (hk.below (n:=w.heap.size) (fun b hb hc=>by have:=(nJ b).1 hc;omega) zo))
  clear hj hms hk hm
  simp only[Exit.inBlock,Exit.then]
  go_at_K
  gi_wp2
  all_goals
   refine dA Xv.out (fun B hB=>⟨_,results_tmp2 rfl _ _ _,?_,MZ.out.trans (hB.mono zo)⟩) HKK.out.size
   clear Xv HKK MZ HIT RN HG hge hgf hfn c6 c7 nJ HSO HNN
   simp_all [Oz,TD]
  all_goals first|omega|(intro hh;exact absurd (show so=n by omega) hh)
 case hstop=>
  rintro c pre W' hpre hx hk hm
  exact hx.elim
def bM(v:Ht→Int)(pre:List Ht):Int × Int × Bool:=pre.foldl (fun s h=>if s.2.2 then(min s.1 (v h),max s.2.1 (v h),true) else(v h,v h,true)) (0,0,false)
theorem yY(v:Ht→Int)(pre:List Ht)(h:Ht):bM v (pre ++ [h])=if (bM v pre).2.2 then(min (bM v pre).1 (v h),max (bM v pre).2.1 (v h),true) else(v h,v h,true):=by unfold bM;rw[List.foldl_append];rfl
theorem Ml(v:Ht→Int)(xs:List Ht)(h:(bM v xs).2.2=false):bM v xs=(0,0,false):=by
 rcases List.eq_nil_or_concat xs with rfl|⟨l,b,rfl⟩
 ·rfl
 ·rw[List.concat_eq_append,yY] at h
  split at h <;> simp at h
theorem FB(gf:Nat)(lb:Array Value)(g:Nat)(lg:Array Value)(v:Ht→Int)(xs:List Ht)(w:World)(h:pO FF gf lb xs w)(hg:uf FF g lg xs (fun h=>int i64 (v h)) w):CallsIn FF 0 prog 60 #[.func (.func gf) #[] lb,.func (.func g) #[] lg] w fun e w'=>e=.returned (.tuple #[.agg #[int i64 (bM v xs).1,int i64 (bM v xs).2.1],int i64 (if (bM v xs).2.2 then 0 else 9)])∧Below w.heap.size w w':=by
 obtain⟨SS,hSS⟩:∃SS,SS=bM v xs:=zE
 rw[← hSS]
 have MM:=hid hSS
 clear hSS
 obtain⟨hfn,NS,hit⟩:=h
 have HIT:=hid hit
 have RN:=hid NS
 obtain⟨hgf,hge,hgc⟩:=hg
 rw[qO] at hgf
 have HG:=hid hgc
 clear hit NS hgc
 refine callsIn_of_wp_marks func60 rfl zs ?_ rfl
 simp only[ntmps60,List.size_toArray,List.length_cons,List.length_nil,Nat.reduceAdd,Nat.reduceSub,Array.replicate_succ,Array.replicate_zero,List.push_toArray,List.append_toArray,List.nil_append,List.cons_append]
 gi_wp2
 obtain⟨wa,UJ⟩:∃wa,wa=w.alloc (.cells #[.func (.func g) #[] lg] 105):=zE
 obtain⟨wb,hwb⟩:∃wb,wb=wa.alloc (.cells #[int i64 0,int i64 0] 28):=zE
 obtain⟨wc,hwc⟩:∃wc,wc=wb.alloc (.cells #[int i64 0,int i64 0] 28):=zE
 obtain⟨w1,hw1⟩:∃w1,w1=wc.alloc (.cells #[.bool false] 4):=zE
 have sa:wa.heap.size=w.heap.size+1:=by rw[UJ];simp
 have sb:wb.heap.size=w.heap.size+1+1:=by rw[hwb];simp[sa]
 have sc:wc.heap.size=w.heap.size+1+1+1:=by rw[hwc];simp[sb]
 have hs1:w1.heap.size=w.heap.size+4:=by rw[hw1];simp[sc]
 have B1:Hid (Below w.heap.size w w1):=hid (by rw[hw1,hwc,hwb,UJ];exact bw)
 have F1:Hid (Whole w1 w.heap.size 105 #[.func (.func g) #[] lg]):=hid (by rw[hw1,hwc,hwb,UJ];exact(((Whole.new _ _ _).alloc _).alloc _).alloc _)
 have R1:Hid (Whole w1 (w.heap.size+1) 28 #[int i64 0,int i64 0]):=hid (by rw[← sa,hw1,hwc,hwb];exact((Whole.new _ _ _).alloc _).alloc _)
 have S1:Hid (Whole w1 (w.heap.size+1+1) 28 #[int i64 0,int i64 0]):=hid (by rw[← sb,hw1,hwc];exact(Whole.new _ _ _).alloc _)
 have T1:Hid (Whole w1 (w.heap.size+1+1+1) 4 #[.bool false]):=hid (by rw[← sc,hw1];exact Whole.new _ _ _)
 rw[← UJ,← hwb,← hwc,← hw1]
 clear hw1 UJ hwb hwc sa sb sc
 obtain⟨CC,Uc⟩:∃CC:Nat→Prop,CC=fun x=>x=w.heap.size+1+1∨x=w.heap.size+1+1+1:=⟨_,rfl⟩
 have nJ:∀x,CC x↔x=w.heap.size+1+1∨x=w.heap.size+1+1+1:=fun x=>by rw[Uc]
 clear Uc
 refine iU (C:=CC) rfl rfl (gf:=gf) (lb:=lb) rfl hfn RN.out (encs:=fun h:Ht=>#[h.val]) (xs:=xs)
  (fun x hx=>by have:=(nJ x).1 hx;omega) ?hseq (fun _=>rfl) (fun pre W'=>Hid (Whole W' w.heap.size 105 #[.func (.func g) #[] lg]∧Whole W' (w.heap.size+1) 28 #[int i64 0,int i64 0]∧Whole W' (w.heap.size+1+1) 28 #[int i64 (bM v pre).1,int i64 (bM v pre).2.1]∧Whole W' (w.heap.size+1+1+1) 4 #[.bool (bM v pre).2.2])) (fun c pre W'=>False)
  (fun pre A B h hb=>hid ⟨h.out.1.below hb zo,h.out.2.1.below hb zo,h.out.2.2.1.below hb zo,h.out.2.2.2.below hb zo⟩) (fun c pre A B h hb=>h.elim) (hid ⟨F1.out,R1.out,S1.out,T1.out⟩) ?gI ?hdone ?hstop
 case hseq=>exact fun W2 hb2 hs2=>HIT.out _ W2 (B1.out.trans (hb2.mono B1.out.size)) fun x hx=>by rw[nJ] at hx;omega
 case gI=>
  intro l' pre h A hl' hpre hj hk hsz hrec
  have hsn:=yY v pre h
  obtain⟨st',hst'⟩:∃st',st'=bM v (pre ++ [h]):=zE
  obtain⟨vh,eI⟩:∃vh,vh=v h:=zE
  rw[← hst'] at hsn⊢
  rw[← eI] at hsn
  obtain⟨⟨a,c,t⟩,hst⟩:∃st,st=bM v pre:=zE
  rw[← hst] at hj hsn
  simp only at hj hsn
  clear hst' hst
  have XV:=fun W hW=>HG.out W h (fP hpre) hW
  rw[← eI] at XV
  clear eI
  obtain⟨hf,hmm,wm⟩:=h
  simp only[Ht.val,Ht.cells]
  simp only[Ht.val,Ht.cells] at XV
  gi_wp2
  refine⟨bw,fun W2 hS=>?_⟩
  have oP:Below (w.heap.size+4) A W2:=((Below.refl _ A).alloc zo _).trans (hS.below zo)
  have X2:Whole W2 A.heap.size 91 (⟨hf,hmm,wm⟩:Ht).cells:=(Whole.new A _ _).of (hS.block _ zo)
  have F2:=hid (hj.out.1.below oP zo)
  have R2:=hid (hj.out.2.1.below oP zo)
  have S2:=hid (hj.out.2.2.1.below oP zo)
  have T2:=hid (hj.out.2.2.2.below oP zo)
  have q0:W2.cell? ⟨w.heap.size,0,none⟩=some (.func (.func g) #[] lg):=F2.out.cell 0
  have x0:W2.cell? ⟨A.heap.size,0,none⟩=some (int i64 (hf 0)):=X2.cell 0
  have x1:W2.cell? ⟨A.heap.size,1,none⟩=some (int i64 (hf 1)):=X2.cell 1
  have x2:W2.cell? ⟨A.heap.size,2,none⟩=some (int i64 (hf 2)):=X2.cell 2
  have x3:W2.cell? ⟨A.heap.size,3,none⟩=some (int i64 (hmm 0)):=X2.cell 3
  have x4:W2.cell? ⟨A.heap.size,4,none⟩=some (int i64 (hmm 1)):=X2.cell 4
  have x5:W2.cell? ⟨A.heap.size,5,none⟩=some (int i64 (hmm 2)):=X2.cell 5
  have x6:W2.cell? ⟨A.heap.size,6,none⟩=some (int i64 (hmm 3)):=X2.cell 6
  have x7:W2.cell? ⟨A.heap.size,7,none⟩=some (int i64 (hmm 4)):=X2.cell 7
  have x8:W2.cell? ⟨A.heap.size,8,none⟩=some (int i64 (hmm 5)):=X2.cell 8
  have x9:W2.cell? ⟨A.heap.size,9,none⟩=some (int i64 wm):=X2.cell 9
  have pZ:=hid (XV W2 ((B1.out.trans (hk.below (n:=w.heap.size) (fun b hb hc=>by have:=(nJ b).1 hc;omega) zo)).trans (oP.mono zo)))
  have cv:=hid hsn
  clear X2 oP XV hsn
  have FIN:=hid (show ∀W5,Keeps CC W2 W5→Whole W5 w.heap.size 105 #[.func (.func g) #[] lg]→Whole W5 (w.heap.size+1) 28 #[int i64 0,int i64 0]→Whole W5 (w.heap.size+1+1) 28 #[int i64 st'.1,int i64 st'.2.1]→Whole W5 (w.heap.size+1+1+1) 4 #[.bool st'.2.2]→
   wS CC (fun W'=>Hid (Whole W' w.heap.size 105 #[.func (.func g) #[] lg]∧Whole W' (w.heap.size+1) 28 #[int i64 0,int i64 0]∧Whole W' (w.heap.size+1+1) 28 #[int i64 st'.1,int i64 st'.2.1]∧Whole W' (w.heap.size+1+1+1) 4 #[.bool st'.2.2])) (fun c W'=>False) W2 .normal {tmps:=#[],defers:=[] } W5 from fun W5 k f r s t=>⟨k,hid ⟨f,r,s,t⟩⟩)
  cases t
  ·gi_wp2_with (refine pZ.out.mono ?_;rintro e W4 ⟨rfl,hb4⟩;have S4:=S2.out.below hb4 S2.out.lt;have T4:=T2.out.below hb4 T2.out.lt;have c7:W4.cell? ⟨w.heap.size+1+1+1,0,none⟩=some (.bool false):=T4.cell 0;have c60:W4.cell? ⟨w.heap.size+1+1,0,none⟩=some (int i64 a):=S4.cell 0;have c61:W4.cell? ⟨w.heap.size+1+1,1,none⟩=some (int i64 c):=S4.cell 1;have f7:=T4.thaw;have f6:=S4.thaw)
   simp only[Bool.false_eq_true,if_false] at cv
   refine FIN.out _ (Keeps.set (Keeps.set (Keeps.set (Keeps.set (Keeps.set (Keeps.bK hb4) ((nJ _).2 (.inl rfl)) _) ((nJ _).2 (.inl rfl)) _) ((nJ _).2 (.inr rfl)) _) ((nJ _).2 (.inl rfl)) _) ((nJ _).2 (.inl rfl)) _)
    ((((((F2.out.below hb4 F2.out.lt).other zF _).other zF _).other zF _).other zF _).other zF _)
    ((((((R2.out.below hb4 R2.out.lt).other zF _).other zF _).other zF _).other zF _).other zF _) ?_ ?_
   ·rw[cv.out]
    exact((((S4.set 0 (int i64 vh)).set 1 (int i64 vh)).other zF _).set 0 (int i64 vh)).set 1 (int i64 vh)
   ·rw[cv.out]
    exact((((T4.other zF _).other zF _).set 0 (.bool true)).other zF _).other zF _
  ·gi_wp2_with (refine pZ.out.mono ?_;rintro e W4 ⟨rfl,hb4⟩;have S4:=S2.out.below hb4 S2.out.lt;have T4:=T2.out.below hb4 T2.out.lt;have c7:W4.cell? ⟨w.heap.size+1+1+1,0,none⟩=some (.bool true):=T4.cell 0;have c60:W4.cell? ⟨w.heap.size+1+1,0,none⟩=some (int i64 a):=S4.cell 0;have c61:W4.cell? ⟨w.heap.size+1+1,1,none⟩=some (int i64 c):=S4.cell 1;have f7:=T4.thaw;have f6:=S4.thaw)
   simp only[if_true] at cv
   refine FIN.out _ (Keeps.set (Keeps.set (Keeps.bK hb4) ((nJ _).2 (.inl rfl)) _) ((nJ _).2 (.inl rfl)) _) (((F2.out.below hb4 F2.out.lt).other zF _).other zF _) (((R2.out.below hb4 R2.out.lt).other zF _).other zF _) ?_ ?_
   ·rw[cv.out]
    exact(S4.set 0 (int i64 (min a vh))).set 1 (int i64 (max c vh))
   ·rw[cv.out]
    exact(T4.other zF _).other zF _
 case hdone=>
  intro W' hj hk hm
  rw[← MM.out] at hj
  have hms:Marks w1.heap.size (w1.heap.size+1) [{target:=.collected w1.heap.size,args:=#[] }] W':=⟨_,rfl,zL,Nat.lt_succ_self _,hm,zT⟩
  have MZ:Hid (Below w.heap.size w W'):=hid (B1.out.trans (hk.below (n:=w.heap.size) (fun b hb hc=>by have:=(nJ b).1 hc;omega) zo))
  obtain⟨a,c,t⟩:=SS
  simp only at hj⊢
  have c40:W'.cell? ⟨w.heap.size+1,0,none⟩=some (int i64 0):=hj.out.2.1.cell 0
  have c41:W'.cell? ⟨w.heap.size+1,1,none⟩=some (int i64 0):=hj.out.2.1.cell 1
  have f4:=hj.out.2.1.thaw
  have c60:W'.cell? ⟨w.heap.size+1+1,0,none⟩=some (int i64 a):=hj.out.2.2.1.cell 0
  have c61:W'.cell? ⟨w.heap.size+1+1,1,none⟩=some (int i64 c):=hj.out.2.2.1.cell 1
  have c7:W'.cell? ⟨w.heap.size+1+1+1,0,none⟩=some (.bool t):=hj.out.2.2.2.cell 0
  rw[hs1] at hms
  have Xv:Hid (∀u z,Marks (w.heap.size+4) (w.heap.size+4+1) [{target:=.collected (w.heap.size+4),args:=#[] }] ((W'.setCell ⟨w.heap.size+1,0,none⟩ u).setCell ⟨w.heap.size+1,1,none⟩ z)):=hid fun u z=>hms.of fun r h1 h2=>(Below.heap_setCell _ _ _ _ zF).trans (Below.heap_setCell _ _ _ _ zF)
  have LV:Hid (∀ (a c bl:Int) (tmps:Array Value) (B:World),tmps[4]?.getD undef=.pointer (some ⟨w.heap.size+1,0,none⟩)→tmps[5]?.getD undef=int i64 bl→Whole B (w.heap.size+1) 28 #[int i64 a,int i64 c]→(results Tryz.f60 tmps).run prog B=.ok (.tuple #[.agg #[int i64 a,int i64 c],int i64 bl]) B):=hid fun a c bl tmps B h4 h5 hB=>by
   have k0:B.cell? ⟨w.heap.size+1,0,none⟩=some (int i64 a):=hB.cell 0
   have k1:B.cell? ⟨w.heap.size+1,1,none⟩=some (int i64 c):=hB.cell 1
   simp[results,Tryz.f60,go_sem,k0,k1,h4,h5]
  have R5:=hid hj.out.2.1
  have fW:=hid hk.size
  have HSF:Hid (t=false→a=0∧c=0):=hid fun ht=>by
   have:=Ml v xs (by rw[← MM.out,ht])
   rw[← MM.out] at this
   simpa [ht] using this
  clear hms hk hm
  simp only[Exit.inBlock,Exit.then]
  go_at_K
  cases t
  ·gi_wp2
   obtain⟨rfl,rfl⟩:=HSF.out zs
   refine dA (Xv.out _ _) (fun B hB=>⟨_,LV.out 0 0 9 _ B rfl rfl (((R5.out.set 0 (int i64 0)).set 1 (int i64 0)).below hB zo),rfl,?_⟩) (by have:=fW.out;simp;omega)
   exact((MZ.out.setCell (p:=⟨w.heap.size+1,0,none⟩) zF _).setCell (p:=⟨w.heap.size+1,1,none⟩) zF _).trans (hB.mono zo)
  ·gi_wp2
   refine dA (Xv.out _ _) (fun B hB=>⟨_,LV.out a c 0 _ B rfl rfl (((R5.out.set 0 (int i64 a)).set 1 (int i64 c)).below hB zo),rfl,?_⟩) (by have:=fW.out;simp;omega)
   exact((MZ.out.setCell (p:=⟨w.heap.size+1,0,none⟩) zF _).setCell (p:=⟨w.heap.size+1,1,none⟩) zF _).trans (hB.mono zo)
 case hstop=>
  rintro c pre W' hpre hx hk hm
  exact hx.elim
theorem Below.next{w w1 w2:World}(h:Below w.heap.size w w1)(k:Below w1.heap.size w1 w2):Below w.heap.size w w2:=h.trans (k.mono h.size)
theorem Below.al{w w1:World}(h:Below w.heap.size w w1)(o:Obj):Below w.heap.size w (w1.alloc o):=h.alloc h.size o
def ak(b:Bk):List Nat:=(List.range (2 ^ b.nm)).filter fun s=>Qf b s
theorem sH(b:Bk):bR b (2 ^ b.nm)=(ak b).map fun(n:Nat)=>(n:Int):=rfl
theorem lT(b:Bk)(ok:b.Ok):(ak b).length≤64:=by
 unfold ak
 refine Nat.le_trans (List.length_filter_le _ _) ?_
 rw[List.length_range]
 exact Nat.le_trans (Nat.pow_le_pow_right zD ok.moves.1) zD
theorem Bk.At.up{b:Bk}{w w':World}(h:b.At w w.heap.size)(hb:Below w.heap.size w w'):b.At w' w'.heap.size:=(h.below hb).more hb.size
structure pJ(b:Bk)(A:Option Addr)(w:World):Prop where
 at_:b.At w w.heap.size
 row:Rows w w.heap.size 1 A (ak b).length (fun i _=>int i64 (((ak b).getD i 0:Nat):Int))
theorem pJ.below{b:Bk}{A:Option Addr}{w w':World}(h:pJ b A w)(hb:Below w.heap.size w w'):pJ b A w':=⟨h.at_.up hb,(h.row.below hb).more hb.size⟩
theorem Rows.bC{w:World}{B size n:Nat}{A:Option Addr}{f:Nat→Nat→Value}(h:Rows w B size A n f){p:Addr}(hp:∀ad,A=some ad→0<n→ad.block≠p.block)(v:Value):Rows (w.setCell p v) B size A n f:=fun hn=>by
 obtain⟨ad,e,hb,hc⟩:=h hn
 refine⟨ad,e,hb,fun i j hi hj=>Eq.trans ?_ (hc i j hi hj)⟩
 have hne:(ad.add (i * size+j)).block≠p.block:=by rw[aH];exact hp ad e hn
 exact World.cell?_of_block (Below.heap_setCell _ _ _ _ hne)
theorem TP(b:Bk)(A:Option Addr)(n p:Nat):b.jb A n p=.agg (aA b A n p):=by cases b;rfl
theorem mW(b:Bk)(w:World)(h:b.At w w.heap.size)(ok:b.Ok)(hcap:b.ng≤b.gc):CallsIn FF 0 prog 37 #[b.val] w fun e w'=>∃A p,e=.returned (.tuple #[.agg (aA b A (ak b).length p),int i64 0])∧pJ b A w'∧Below w.heap.size w w'∧∀ad,A=some ad→0<(ak b).length→w.heap.size≤ad.block:=by
 refine(Vr b w h ok hcap).mono ?_
 rintro e w' ⟨A,p,rfl,hrow,hb⟩
 have hl:(bR b (2 ^ b.nm)).length=(ak b).length:=by rw[sH,List.length_map]
 refine⟨A,p,by rw[hl,TP],⟨h.up hb,?_⟩,hb,fun ad hA hn=>by
  subst hA
  rcases hrow.2 with⟨h0,_⟩|⟨g',cap,cur,h0,h1,_⟩
  ·injection h0 with h0 _ _;cases h0
  ·injection h0 with h0 _ _;cases h0;exact h1⟩
 have:=eH hrow
 rw[hl] at this
 unfold Ints at this
 intro hn
 obtain⟨ad,e,hb,hc⟩:=this hn
 refine⟨ad,e,hb,fun i j hi hj=>(hc i j hi hj).trans ?_⟩
 rw[sH]
 congr 2
 simp[List.getD_eq_getElem?_getD,List.getElem?_map,List.getElem?_eq_getElem hi]
theorem VI(b:Bk)(ok:b.Ok)(hl:∀s∈ak b,eu s)(A:Option Addr)(p Bc:Nat)(w:World)(hc:pJ b A w)(hb:Whole w Bc 75 (aA b A (ak b).length p)):pO FF 79 #[.pointer (some ⟨Bc,0,none⟩)] (aB b (ak b)) w:=by
 refine⟨zs,enters_of func79 zk rfl,fun C W hW hC=>?_⟩
 exact Lf (p:=FF.fn) b ok A p (ak b) hl (lT b ok) C w.heap.size Bc W (fun x hx=>(hC x hx).2) (hb.below hW hb.lt) (hc.row.below hW) (hc.at_.below hW) hW.size (fun h=>by have:=(hC _ h).1;have:=hb.lt;omega) (fun x hx h=>by have:=(hC _ h).1;omega)
theorem rQ(b:Bk)(ok:b.Ok)(hl:∀s∈ak b,eu s)(A:Option Addr)(p:Nat)(w:World)(hc:pJ b A w):CallsIn FF 0 prog 39 #[.agg (aA b A (ak b).length p)] w fun e w'=>∃lb,e=.returned (.func (.func 79) #[] lb)∧pO FF 79 lb (aB b (ak b)) w'∧Below w.heap.size w w':=by
 refine(nV (p:=FF.fn) b A (ak b).length p w).mono ?_
 rintro e w' ⟨rfl,hw,hb,-⟩
 exact⟨_,rfl,VI b ok hl A p _ w' (hc.below hb) hw,hb⟩
theorem gG(b:Bk)(w:World)(h:b.At w w.heap.size)(ok:b.Ok)(hcap:b.ng≤b.gc)(hl:∀s∈ak b,eu s)(hlen:(aB b (ak b)).length<2 ^ 40):CallsIn FF 0 prog 11 #[b.val] w fun e w'=>e=.returned (.tuple #[int i64 (aB b (ak b)).length,int i64 0])∧Below w.heap.size w w':=by
 have HO:=hid fun w h=>mW b w h ok hcap
 have HH:=hid fun A p w hc=>rQ b ok hl A p w hc
 have HK:=hid fun lb w h=>Yc 79 lb (aB b (ak b)) w hlen h
 have HA:=hid h
 obtain⟨n,hn⟩:∃n,n=(ak b).length:=zE
 obtain⟨xs,hxs⟩:∃xs,xs=aB b (ak b):=zE
 rw[← hn] at HO HH
 rw[← hxs] at HH HK⊢
 clear hn hxs h hcap hl hlen ok
 obtain⟨dY,mO,gA,ng,gc,g,mA,nm,mc,m,cA,nc,cc,c⟩:=b
 simp only[Bk.val,Bk.cells,aA] at HO HH⊢
 gi_enter func11,ntmps11
 gi_wp2_with (first
  | (gi_at_call 37;refine(HO.out _ (HA.out.up (bw))).mono ?_;rintro e w2 ⟨A,p,rfl,hc2,hb2,-⟩)
  | (gi_at_call 39;refine(HH.out A p _ (hc2.below (bw))).mono ?_;rintro e w4 ⟨lb,rfl,hs4,hb4⟩)
  | (gi_at_call 38;refine(HK.out lb _ hs4).mono ?_;rintro e w5 ⟨rfl,hb5⟩))
 go_ret2
 exact⟨rfl,Below.next (Below.next (Below.al (Below.next (bw) hb2) _) hb4) hb5⟩
end
end Go.Proofs.YtpmafoalhnaokaaGreat
