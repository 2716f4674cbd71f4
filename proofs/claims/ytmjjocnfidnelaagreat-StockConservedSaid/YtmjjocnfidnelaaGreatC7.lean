/- P20 WA WB WC WD -/
import Derived.Test.YtmjjocnfidnelaaGreatC6
set_option maxRecDepth 100000
set_option maxHeartbeats 16000000
set_option linter.unusedVariables false
set_option linter.unusedSectionVars false
open Go.IntKind(i64)
open Go.Lib(hid)
open Go.Proofs.Tryz
open Go.Value(int)
namespace Go.Proofs.YtmjjocnfidnelaaGreat
section
open Go.RowKit
def Er(b:Bk)(h:Ht):Nat→Nat→Int
 | 0=>h.f
 | Nat.succ k=>fun g=>min (Er b h k g) (stk b h k b.nm g)
theorem tR(b:Bk)(h:Ht)(w:World)(hA:b.At w w.heap.size)(ok:kE b)(hd:1≤b.days∧b.days≤99)(uU:b.ng≤3)(hok:oW h):
 CallsIn FF 0 prog 29 #[b.val,h.val] w fun e w'=>e=.returned (mE (Er b h (b.days.toNat+1)))∧Below w.heap.size w w':=by
 have hSt:∀ (d:Nat) (w:World),b.At w w.heap.size→CallsIn FF 0 prog 28 #[b.val,h.val,int i64 d] w fun e w'=>e=.returned (mE (stk b h d b.nm))∧Below w.heap.size w w':=fun d w hA=>gF b h d w hA ok uU hok
 obtain⟨days,most,gA,ng,gc,g,mA,nm,mc,m,cA,nc,cc,c⟩:=b
 obtain⟨hf,hmm,lies⟩:=h
 simp only[Bk.val,Bk.cells,Ht.val,Ht.cells,mE] at hSt⊢
 simp only at hd
 obtain⟨D,rfl⟩:∃D:Nat,days=(D:Int):=⟨days.toNat,zo⟩
 obtain⟨T,hT⟩:∃T:Nat→Nat→Int,T=fun(d:Nat)=>stk (⟨D,most,gA,ng,gc,g,mA,nm,mc,m,cA,nc,cc,c⟩:Bk) ⟨hf,hmm,lies⟩ d nm:=⟨_,rfl⟩
 obtain⟨L,hL⟩:∃L,L=Er (⟨D,most,gA,ng,gc,g,mA,nm,mc,m,cA,nc,cc,c⟩:Bk) ⟨hf,hmm,lies⟩:=⟨_,rfl⟩
 have hL0:L 0=hf:=by rw[hL];rfl
 have qu:∀k q,L (k+1) q=min (L k q) (T k q):=fun k q=>by rw[hL,hT];rfl
 have hTe:∀d:Nat,stk (⟨D,most,gA,ng,gc,g,mA,nm,mc,m,cA,nc,cc,c⟩:Bk) ⟨hf,hmm,lies⟩ d nm=T d:=fun d=>by rw[hT]
 simp only[hTe] at hSt
 rw[show(D:Int).toNat+1=D+1 by simp,← hL]
 clear hL hT hTe ok hok
 have HA:=hid hA
 have HSt:=hid hSt
 have Rk:=hid qu
 clear hA hSt qu
 obtain⟨w4,hw4⟩:∃w4,w4=(((w.alloc (.cells #[int i64 D,int i64 most,.slice gA ng gc,.slice mA nm mc,.slice cA nc cc] 71)).alloc (.cells #[int i64 (hf 0),int i64 (hf 1),int i64 (hf 2),int i64 (hmm 0),int i64 (hmm 1),int i64 (hmm 2),int i64 (hmm 3),int i64 (hmm 4),int i64 (hmm 5),int i64 lies] 78)).alloc (.cells #[int i64 0,int i64 0,int i64 0] 75)).alloc (.cells #[int i64 (hf 0),int i64 (hf 1),int i64 (hf 2)] 75):=⟨_,rfl⟩
 have W0:Hid (Whole w4 w.heap.size 71 #[int i64 D,int i64 most,.slice gA ng gc,.slice mA nm mc,.slice cA nc cc]):=hid (by rw[hw4];exact(((Whole.new w _ _).alloc _).alloc _).alloc _)
 have W1:Hid (Whole w4 (w.heap.size+1) 78 #[int i64 (hf 0),int i64 (hf 1),int i64 (hf 2),int i64 (hmm 0),int i64 (hmm 1),int i64 (hmm 2),int i64 (hmm 3),int i64 (hmm 4),int i64 (hmm 5),int i64 lies]):=hid (by
  have:=((Whole.new (w.alloc (.cells #[int i64 D,int i64 most,.slice gA ng gc,.slice mA nm mc,.slice cA nc cc] 71)) 78 #[int i64 (hf 0),int i64 (hf 1),int i64 (hf 2),int i64 (hmm 0),int i64 (hmm 1),int i64 (hmm 2),int i64 (hmm 3),int i64 (hmm 4),int i64 (hmm 5),int i64 lies]).alloc (.cells #[int i64 0,int i64 0,int i64 0] 75)).alloc (.cells #[int i64 (hf 0),int i64 (hf 1),int i64 (hf 2)] 75)
  rw[World.size_alloc] at this;rw[hw4];exact this)
 have W2:Hid (Whole w4 (w.heap.size+1+1) 75 #[int i64 0,int i64 0,int i64 0]):=hid (by
  have:=(Whole.new ((w.alloc (.cells #[int i64 D,int i64 most,.slice gA ng gc,.slice mA nm mc,.slice cA nc cc] 71)).alloc (.cells #[int i64 (hf 0),int i64 (hf 1),int i64 (hf 2),int i64 (hmm 0),int i64 (hmm 1),int i64 (hmm 2),int i64 (hmm 3),int i64 (hmm 4),int i64 (hmm 5),int i64 lies] 78)) 75 #[int i64 0,int i64 0,int i64 0]).alloc (.cells #[int i64 (hf 0),int i64 (hf 1),int i64 (hf 2)] 75)
  rw[World.size_alloc,World.size_alloc] at this;rw[hw4];exact this)
 have W3:Hid (Whole w4 (w.heap.size+1+1+1) 75 #[int i64 (L 0 0),int i64 (L 0 1),int i64 (L 0 2)]):=hid (by
  have:=Whole.new (((w.alloc (.cells #[int i64 D,int i64 most,.slice gA ng gc,.slice mA nm mc,.slice cA nc cc] 71)).alloc (.cells #[int i64 (hf 0),int i64 (hf 1),int i64 (hf 2),int i64 (hmm 0),int i64 (hmm 1),int i64 (hmm 2),int i64 (hmm 3),int i64 (hmm 4),int i64 (hmm 5),int i64 lies] 78)).alloc (.cells #[int i64 0,int i64 0,int i64 0] 75)) 75 #[int i64 (hf 0),int i64 (hf 1),int i64 (hf 2)]
  rw[World.size_alloc,World.size_alloc,World.size_alloc] at this;rw[hw4,hL0];exact this)
 have WB:Hid (Below w.heap.size w w4):=hid (by rw[hw4];exact bw)
 have pd:=hid hw4
 clear hw4 hL0
 have eD:wrap64 ((D:Int)+1)=(D:Int)+1:=IntWalk.wrap64_in _ zo
 gi_enter func29,ntmps29
 gi_wp2
 rw[← pd.out]
 try rw[eD]
 clear pd eD
 gi_loopw [15] (fun i wr=>∃k:Nat,k≤D+1∧i=int i64 k∧Hid (Whole wr w.heap.size 71 #[int i64 D,int i64 most,.slice gA ng gc,.slice mA nm mc,.slice cA nc cc]∧Whole wr (w.heap.size+1) 78 #[int i64 (hf 0),int i64 (hf 1),int i64 (hf 2),int i64 (hmm 0),int i64 (hmm 1),int i64 (hmm 2),int i64 (hmm 3),int i64 (hmm 4),int i64 (hmm 5),int i64 lies]∧Whole wr (w.heap.size+1+1) 75 #[int i64 0,int i64 0,int i64 0]∧Whole wr (w.heap.size+1+1+1) 75 #[int i64 (L k 0),int i64 (L k 1),int i64 (L k 2)]∧Below w.heap.size w wr)) (fun i _=>D+1 - (intOf i).toNat)
 case atStart=>exact⟨0,Nat.zero_le _,rfl,hid ⟨W0.out,W1.out,W2.out,W3.out,WB.out⟩⟩
 case round=>
  obtain⟨k,hk,rfl,hR⟩:=hrel
  clear W0 W1 W2 W3 WB
  have q0:=hR.out.1.cell
  have q1:=hR.out.2.1.cell
  have hs3:=hR.out.2.2.2.1.lt
  by_cases hlt:k<D+1
  ·have hdd:decide ((k:Int)<(D:Int)+1)=true:=decide_eq_true zo
   obtain⟨wo,rfl⟩:∃wo:World,wo=wr:=⟨_,rfl⟩
   have hsz:w.heap.size≤wo.heap.size:=zo
   gi_wp2_with (gi_at_call 28;refine(HSt.out k _ ((HA.out.below hR.out.2.2.2.2).more hsz)).mono ?_;rintro e w2 ⟨rfl,hb2⟩;have HB2:Hid (Below wo.heap.size wo w2):=hid hb2;clear hb2)
   have V3:=hid (hR.out.2.2.2.1.below HB2.out hs3)
   have Xn:∀w,(Instr.index 75 (.agg #[int i64 (T k 0),int i64 (T k 1),int i64 (T k 2)]) (int i64 0)).run prog w=.ok (int i64 (T k 0)) w:=fun _=>zk
   have aaD:∀w,(Instr.index 75 (.agg #[int i64 (T k 0),int i64 (T k 1),int i64 (T k 2)]) (int i64 1)).run prog w=.ok (int i64 (T k 1)) w:=fun _=>zk
   have aaE:∀w,(Instr.index 75 (.agg #[int i64 (T k 0),int i64 (T k 1),int i64 (T k 2)]) (int i64 2)).run prog w=.ok (int i64 (T k 2)) w:=fun _=>zk
   gi_loopw [22] (fun j wj=>∃q:Nat,q≤3∧j=int i64 q∧Hid (Below (w.heap.size+1+1+1) w2 wj∧Whole wj (w.heap.size+1+1+1) 75 #[int i64 (if 0<q then L (k+1) 0 else L k 0),int i64 (if 1<q then L (k+1) 1 else L k 1),int i64 (if 2<q then L (k+1) 2 else L k 2)])) (fun j _=>3 - (intOf j).toNat)
   case atStart=>exact⟨0,zo,rfl,hid ⟨Below.refl _ _,V3.out⟩⟩
   case round=>
    obtain⟨q,hq,rfl,hS⟩:=hrel
    have hsw:=hS.out.2.lt
    by_cases hq3:q<3
    ·rcases(show q=0∨q=1∨q=2 by omega) with rfl|rfl|rfl
     ·have x0:wr.cell? ⟨w.heap.size+1+1+1,0,none⟩=some (int i64 (L k 0)):=hS.out.2.cell 0
      have xf:=hS.out.2.thaw 0
      have e:=Rk.out k 0
      have E:=hid e
      clear e
      gi_wp2
      exact⟨⟨0+1,zo,by go_num,hid ⟨hS.out.1.setCell (p:=⟨w.heap.size+1+1+1,0,none⟩) (Nat.le_refl _) _,by have:=hS.out.2.set 0 (int i64 (min (L k 0) (T k 0)));rw[← E.out] at this⊢;exact this⟩⟩,by simp[intOf]⟩
     ·have x0:wr.cell? ⟨w.heap.size+1+1+1,1,none⟩=some (int i64 (L k 1)):=hS.out.2.cell 1
      have xf:=hS.out.2.thaw 1
      have e:=Rk.out k 1
      have E:=hid e
      clear e
      gi_wp2
      exact⟨⟨1+1,zo,by go_num,hid ⟨hS.out.1.setCell (p:=⟨w.heap.size+1+1+1,1,none⟩) (Nat.le_refl _) _,by have:=hS.out.2.set 1 (int i64 (min (L k 1) (T k 1)));rw[← E.out] at this⊢;exact this⟩⟩,by simp[intOf]⟩
     ·have x0:wr.cell? ⟨w.heap.size+1+1+1,2,none⟩=some (int i64 (L k 2)):=hS.out.2.cell 2
      have xf:=hS.out.2.thaw 2
      have e:=Rk.out k 2
      have E:=hid e
      clear e
      gi_wp2
      exact⟨⟨2+1,zo,by go_num,hid ⟨hS.out.1.setCell (p:=⟨w.heap.size+1+1+1,2,none⟩) (Nat.le_refl _) _,by have:=hS.out.2.set 2 (int i64 (min (L k 2) (T k 2)));rw[← E.out] at this⊢;exact this⟩⟩,by simp[intOf]⟩
    ·obtain rfl:q=3:=zo
     gi_wp2
     have HBw:Below w.heap.size w wr:=hR.out.2.2.2.2.trans ((HB2.out.mono hsz).trans (hS.out.1.mono zo))
     exact⟨⟨k+1,zo,by go_num,hid ⟨(hR.out.1.below HB2.out zo).below hS.out.1 zo,(hR.out.2.1.below HB2.out zo).below hS.out.1 zo,(hR.out.2.2.1.below HB2.out zo).below hS.out.1 zo,hS.out.2,HBw⟩⟩,by simp[intOf];omega⟩
  ·obtain rfl:k=D+1:=zo
   have hdd:decide (((D+1:Nat):Int)<(D:Int)+1)=false:=decide_eq_false zo
   have q3:=hR.out.2.2.2.1.cell
   have q2:=hR.out.2.2.1.cell
   have OS:=hR.out.2.2.1.thaw
   gi_wp2
   have U:=(hR.out.2.2.1.iH (x:=int i64 (L (D+1) 0)) (y:=int i64 (L (D+1) 1)) (z:=int i64 (L (D+1) 2)))
   have u0:=U.cell 0
   have u1:=U.cell 1
   have u2:=U.cell 2
   clear q3 q2 OS
   refine bodyPost_ret (v:=.agg #[int i64 (L (D+1) 0),int i64 (L (D+1) 1),int i64 (L (D+1) 2)]) (by simp[results,results29,go_sem,u0,u1,u2]) rfl ⟨rfl,aA hR.out.2.2.2.2 zo⟩
end
section
open Go.RowKit
open Go.Sort (grow)
def jU(b:Bk)(k:Nat):Int:=if 0<k then(b.m (k - 1)).day else 0
def jT(b:Bk)(k:Nat):Int:=if k<b.nm then(b.m k).day - 1 else b.days
theorem Z9(a b n:Int)(w:World):CallsIn SF 0 prog 78 #[.agg #[int i64 a,int i64 b],int i64 n] w fun e w'=>e=.returned (.bool (gI n a b))∧Below w.heap.size w w':=by
 gi_enter func78,ntmps78
 gi_wp2_with (gi_at_call 56;refine(W.dw _ _ _ _).mono ?_;rintro e w' ⟨rfl,rfl⟩)
 go_ret
 exact⟨rfl,bw⟩
theorem tU(x y z:Int)(B:Nat)(w:World)(h:Whole w B 75 #[int i64 x,int i64 y,int i64 z]):CallsIn SF 0 prog 122 #[.slice (some ⟨B,0,none⟩) 3 3] w fun e w'=>e=.returned (int i64 (min x (min y z)))∧Below w.heap.size w w':=by
 have c0:w.cell? ⟨B,0,none⟩=some (int i64 x):=h.cell 0
 have c1:w.cell? ⟨B,1,none⟩=some (int i64 y):=h.cell 1
 have c2:w.cell? ⟨B,2,none⟩=some (int i64 z):=h.cell 2
 clear h
 gi_enter func122,ntmps122
 gi_wp2
 refine wpIn_loop_rounds 4 ?_
 repeat (rw[roundsIn_succ];gi_wp2)
 all_goals first
  | (go_ret;exact⟨rfl,Below.refl _ _⟩)
  | trace_state
theorem CU(b:Bk)(k:Nat)(w:World)(h:b.At w w.heap.size)(hk:k≤b.nm)(hn:b.nm≤6)(hd:∀i,i<b.nm→1≤(b.m i).day∧(b.m i).day≤1000):CallsIn SF 0 prog 105 #[b.val,int i64 k] w fun e w'=>e=.returned (.agg #[int i64 (jU b k),int i64 (jT b k)])∧Below w.heap.size w w':=by
 obtain⟨days,most,gA,ng,gc,g,mA,nm,mc,m,cA,nc,cc,c⟩:=b
 simp only at hk hn hd
 simp only[Bk.val,Bk.cells]
 obtain⟨lo,hlo⟩:∃lo,lo=jU (⟨days,most,gA,ng,gc,g,mA,nm,mc,m,cA,nc,cc,c⟩:Bk) k:=⟨_,rfl⟩
 obtain⟨hi,hhi⟩:∃hi,hi=jT (⟨days,most,gA,ng,gc,g,mA,nm,mc,m,cA,nc,cc,c⟩:Bk) k:=⟨_,rfl⟩
 rw[← hlo,← hhi]
 unfold jU at hlo
 unfold jT at hhi
 simp only at hlo hhi
 have row:∀i,i<nm→∃ad,mA=some ad∧(ad.add (i * 5)).block<w.heap.size∧w.cell? ⟨(ad.add (i * 5)).block,(ad.add (i * 5)).off+2,none⟩=some (int i64 (m i).day):=fun i hi=>by
  obtain⟨ad,hA',hbl,-⟩:=h.m (show 0<nm by omega)
  simp only at hA'
  subst hA'
  exact⟨ad,rfl,(by rw[aD];exact(h.m.row hi).1),(h.m.row hi).2 2 zD⟩
 have Row:=hid row
 clear row h
 have X:Hid (∀ (mA:Option Addr),Below w.heap.size w (((w.alloc (.cells #[int i64 days,int i64 most,.slice gA ng gc,.slice mA nm mc,.slice cA nc cc] 71)).alloc (.cells #[int i64 0,int i64 0] 39)).alloc (.cells #[int i64 0,int i64 days] 39))):=hid fun mA=>bw
 by_cases h0:0<k
 ·have hd0:decide (0<(k:Int))=true:=zm
  rw[if_pos h0] at hlo
  obtain⟨ad,rfl,rb,r1⟩:=Row.out (k - 1) zo
  have s1:=((X.out (some ad)).cell (p:=⟨(ad.add ((k - 1) * 5)).block,(ad.add ((k - 1) * 5)).off+2,none⟩) rb).trans r1
  rw[← hlo] at s1
  have e2:0≤(k:Int) - 1:=zo
  have e2':1≤(k:Int):=zo
  have e4:(k:Int) - 1<nm:=zo
  have e3:((k:Int) - 1).toNat=k - 1:=zo
  have e1:IntKind.i64.wrap ((k:Int) - 1)=(k:Int) - 1:=IntWalk.i64_in _ zo
  by_cases hkn:k<nm
  ·have hd1:decide ((k:Int)<(nm:Int))=true:=decide_eq_true zo
   rw[if_pos hkn] at hhi
   obtain⟨VM,ha,Pc,r2⟩:=Row.out k hkn
   cases ha
   have s2:=(((bw:Below w.heap.size w (((w.alloc (.cells #[int i64 days,int i64 most,.slice gA ng gc,.slice (some ad) nm mc,.slice cA nc cc] 71)).alloc (.cells #[int i64 0,int i64 0] 39)).alloc (.cells #[int i64 lo,int i64 days] 39))).cell (p:=⟨(ad.add (k * 5)).block,(ad.add (k * 5)).off+2,none⟩) Pc).trans r2)
   obtain⟨dk,hdk⟩:∃dk,dk=(m k).day:=⟨_,rfl⟩
   have fo:=hd k hkn
   rw[← hdk] at s2 hhi fo
   have e5:wrap64 (dk - 1)=dk - 1:=IntWalk.wrap64_in _ zo
   subst hhi
   clear hlo r1 r2 hdk
   gi_enter func105,ntmps105
   gi_wp2
   refine bodyPost_ret (v:=.agg #[int i64 lo,int i64 (dk - 1)]) (by simp[results,results105,go_sem]) rfl ⟨rfl,bw⟩
  ·have hd1:decide ((k:Int)<(nm:Int))=false:=decide_eq_false zo
   rw[if_neg hkn] at hhi
   subst hhi
   clear hlo r1
   gi_enter func105,ntmps105
   gi_wp2
   refine bodyPost_ret (v:=.agg #[int i64 lo,int i64 hi]) (by simp[results,results105,go_sem]) rfl ⟨rfl,bw⟩
 ·obtain rfl:k=0:=zo
  rw[if_neg h0] at hlo
  subst hlo
  by_cases hkn:0<nm
  ·have hd1:decide (((0:Nat):Int)<(nm:Int))=true:=decide_eq_true zo
   have hd2:decide ((0:Int)<(nm:Int))=true:=decide_eq_true zo
   rw[if_pos hkn] at hhi
   obtain⟨ad,rfl,Pc,r2⟩:=Row.out 0 hkn
   have s2:=((X.out (some ad)).cell (p:=⟨(ad.add (0 * 5)).block,(ad.add (0 * 5)).off+2,none⟩) Pc).trans r2
   have s2':(((w.alloc (.cells #[int i64 days,int i64 most,.slice gA ng gc,.slice (some ad) nm mc,.slice cA nc cc] 71)).alloc (.cells #[int i64 0,int i64 0] 39)).alloc (.cells #[int i64 0,int i64 days] 39)).cell? ⟨ad.block,ad.off+2,none⟩=some (int i64 (m 0).day):=by simpa [add_zero'] using s2
   obtain⟨dk,hdk⟩:∃dk,dk=(m 0).day:=⟨_,rfl⟩
   have fo:=hd 0 hkn
   rw[← hdk] at s2' hhi fo
   have e5:wrap64 (dk - 1)=dk - 1:=IntWalk.wrap64_in _ zo
   subst hhi
   clear r2 s2 hdk
   gi_enter func105,ntmps105
   gi_wp2
   refine bodyPost_ret (v:=.agg #[int i64 0,int i64 (dk - 1)]) (by simp[results,results105,go_sem]) rfl ⟨rfl,bw⟩
  ·obtain rfl:nm=0:=zo
   rw[if_neg hkn] at hhi
   subst hhi
   gi_enter func105,ntmps105
   gi_wp2
   refine bodyPost_ret (v:=.agg #[int i64 0,int i64 hi]) (by simp[results,results105,go_sem]) rfl ⟨rfl,bw⟩
def FV(b:Bk)(s:Nat→Int)(lo hi:Int)(i:Nat):Bool:=!(gI (b.c i).day lo hi) || gI (s (b.c i).good.toNat) (b.c i).lo (b.c i).hi
def jS(b:Bk)(s:Nat→Int)(lo hi:Int):Bool:=decide (hi<lo) || ((List.range b.nc).all (FV b s lo hi) && decide (0≤min (s 0) (min (s 1) (s 2))))
theorem Cm(b:Bk)(s:Nat→Int)(lo hi:Int)(w:World)(h:b.At w w.heap.size)(hn:b.nc≤4)(hg:∀i,i<b.nc→0≤(b.c i).good∧(b.c i).good≤2):
 CallsIn SF 0 prog 104 #[b.val,mE s,.agg #[int i64 lo,int i64 hi]] w fun e w'=>e=.returned (.bool (jS b s lo hi))∧Below w.heap.size w w':=by
 obtain⟨days,most,gA,ng,gc,g,mA,nm,mc,m,cA,nc,cc,c⟩:=b
 simp only at hn hg
 simp only[Bk.val,Bk.cells,mE]
 obtain⟨z0,hz0⟩:∃z,z=s 0:=⟨_,rfl⟩
 obtain⟨z1,hz1⟩:∃z,z=s 1:=⟨_,rfl⟩
 obtain⟨z2,hz2⟩:∃z,z=s 2:=⟨_,rfl⟩
 have Z0:=hid hz0
 have Z1:=hid hz1
 have Z2:=hid hz2
 rw[← hz0,← hz1,← hz2]
 clear hz0 hz1 hz2
 by_cases hlh:hi<lo
 ·have hd:decide (hi<lo)=true:=decide_eq_true hlh
  have hr:jS (⟨days,most,gA,ng,gc,g,mA,nm,mc,m,cA,nc,cc,c⟩:Bk) s lo hi=true:=by unfold jS;rw[hd];rfl
  rw[hr]
  gi_enter func104,ntmps104
  gi_wp2
  go_ret
  exact⟨rfl,bw⟩
 ·have hd:decide (hi<lo)=false:=decide_eq_false hlh
  have hr:jS (⟨days,most,gA,ng,gc,g,mA,nm,mc,m,cA,nc,cc,c⟩:Bk) s lo hi=((List.range nc).all (FV (⟨days,most,gA,ng,gc,g,mA,nm,mc,m,cA,nc,cc,c⟩:Bk) s lo hi) && decide (0≤min (s 0) (min (s 1) (s 2)))):=by unfold jS;rw[hd];rfl
  rw[hr]
  have Hh:=hid h
  clear h hr
  obtain⟨w3,hw3⟩:∃w3,w3=((w.alloc (.cells #[int i64 days,int i64 most,.slice gA ng gc,.slice mA nm mc,.slice cA nc cc] 71)).alloc (.cells #[int i64 z0,int i64 z1,int i64 z2] 75)).alloc (.cells #[int i64 lo,int i64 hi] 39):=⟨_,rfl⟩
  have W1:Hid (Whole w3 (w.heap.size+1) 75 #[int i64 z0,int i64 z1,int i64 z2]):=hid (by
   have:=(Whole.new (w.alloc (.cells #[int i64 days,int i64 most,.slice gA ng gc,.slice mA nm mc,.slice cA nc cc] 71)) 75 #[int i64 z0,int i64 z1,int i64 z2]).alloc (.cells #[int i64 lo,int i64 hi] 39)
   rw[World.size_alloc] at this;rw[hw3];exact this)
  have W2:Hid (Whole w3 (w.heap.size+1+1) 39 #[int i64 lo,int i64 hi]):=hid (by
   have:=Whole.new ((w.alloc (.cells #[int i64 days,int i64 most,.slice gA ng gc,.slice mA nm mc,.slice cA nc cc] 71)).alloc (.cells #[int i64 z0,int i64 z1,int i64 z2] 75)) 39 #[int i64 lo,int i64 hi]
   rw[World.size_alloc,World.size_alloc] at this;rw[hw3];exact this)
  have WB:Hid (Below w.heap.size w w3):=hid (by rw[hw3];exact bw)
  have Wt:=hid hw3
  clear hw3
  gi_enter func104,ntmps104
  gi_wp2
  rw[← Wt.out]
  clear Wt
  gi_loopw [18] (fun i wr=>∃k:Nat,k≤nc∧i=int i64 k∧Hid ((∀i,i<k→FV (⟨days,most,gA,ng,gc,g,mA,nm,mc,m,cA,nc,cc,c⟩:Bk) s lo hi i=true)∧Below w3.heap.size w3 wr)) (fun i _=>nc - (intOf i).toNat)
  case atStart=>exact⟨0,Nat.zero_le _,rfl,hid ⟨fun i hi=>absurd hi (Nat.not_lt_zero i),Below.refl _ _⟩⟩
  case round=>
   obtain⟨k,hk,rfl,hR⟩:=hrel
   have X1:=hid (W1.out.below hR.out.2 W1.out.lt)
   have X2:=hid (W2.out.below hR.out.2 W2.out.lt)
   have XB:=hid (WB.out.trans (hR.out.2.mono WB.out.size))
   by_cases hlt:k<nc
   ·obtain⟨wo,rfl⟩:∃wo:World,wo=wr:=⟨_,rfl⟩
    obtain⟨ad,hA',hbl,-⟩:=Hh.out.c (show 0<nc by omega)
    simp only at hA'
    subst hA'
    obtain⟨ck,hck⟩:∃ck,ck=c k:=⟨_,rfl⟩
    have hr:∀j,j<4→wo.cell? ((ad.add (k * 4)).add j)=some (ck.cell j):=by rw[hck];exact((Hh.out.c.below XB.out).row hlt).2
    have Ee:=hg k hlt
    have hcn:FV ⟨days,most,gA,ng,gc,g,mA,nm,mc,m,some ad,nc,cc,c⟩ s lo hi k=(!(gI ck.day lo hi) || gI (s ck.good.toNat) ck.lo ck.hi):=by rw[hck];rfl
    rw[← hck] at Ee
    have VG:=hid hcn
    clear hcn hck
    obtain⟨gd,dy,l,u⟩:=ck
    simp only at Ee
    have c0:wo.cell? (ad.add (k * 4))=some (int i64 gd):=hr 0 zD
    have c1:wo.cell? ⟨(ad.add (k * 4)).block,(ad.add (k * 4)).off+1,none⟩=some (int i64 dy):=hr 1 zD
    have c2:wo.cell? ⟨(ad.add (k * 4)).block,(ad.add (k * 4)).off+2,none⟩=some (int i64 l):=hr 2 zD
    have c3:wo.cell? ⟨(ad.add (k * 4)).block,(ad.add (k * 4)).off+3,none⟩=some (int i64 u):=hr 3 zD
    clear hr
    gi_wp2
    obtain⟨w5,Fa⟩:∃w5,w5=wo.alloc (.cells #[int i64 gd,int i64 dy,int i64 l,int i64 u] 88):=⟨_,rfl⟩
    rw[← Fa]
    have Y0:Whole w5 wo.heap.size 88 #[int i64 gd,int i64 dy,int i64 l,int i64 u]:=by rw[Fa];exact Whole.new _ _ _
    have Y1:Whole w5 (w.heap.size+1) 75 #[int i64 z0,int i64 z1,int i64 z2]:=by rw[Fa];exact X1.out.alloc _
    have Y2:Whole w5 (w.heap.size+1+1) 39 #[int i64 lo,int i64 hi]:=by rw[Fa];exact X2.out.alloc _
    have YB:Hid (Below w3.heap.size w3 w5):=hid (by rw[Fa];exact hR.out.2.alloc hR.out.2.size _)
    have k0:=cell_regrown (Y0.cell 0)
    have k1:=cell_regrown (Y0.cell 1)
    have k2:=cell_regrown (Y0.cell 2)
    have k3:=cell_regrown (Y0.cell 3)
    have j0:=cell_regrown (Y1.cell 0)
    have j1:=cell_regrown (Y1.cell 1)
    have j2:=cell_regrown (Y1.cell 2)
    have i0:=cell_regrown (Y2.cell 0)
    have i1:=cell_regrown (Y2.cell 1)
    clear Fa Y0 Y1 Y2 c0 c1 c2 c3
    have cH:∀a b n d os,CallsIn SF 0 prog 78 #[.agg #[int i64 a,int i64 b],int i64 n] (grow (redrawn w5 d) os) fun e w''=>e=.returned (.bool (gI n a b))∧∃p:Regrown,w''=grow (redrawn w5 p.d) p.os:=fun a b n d os=>CallsIn.regrown_of (Z9 a b n _)
    cases JZ:gI dy lo hi with
    | false=>
      have hT:FV ⟨days,most,gA,ng,gc,g,mA,nm,mc,m,some ad,nc,cc,c⟩ s lo hi k=true:=by rw[VG.out,JZ];rfl
      refine wpIn_region_quiet_below rfl zk zk ?_
      repeat (quiet_step_in (exact cH _ _ _ _ _))
      refine wpQuietIn_nil ?_
      rintro w' ⟨⟨dq,osq⟩,rfl⟩
      have bE:=below_regrown w5 dq osq
      clear k0 k1 k2 k3 j0 j1 j2 i0 i1 cH
      generalize grow (redrawn w5 dq) osq=w9 at bE⊢
      gi_wp2
      go_roundw
      case rel=>exact⟨k+1,zo,by go_num,hid ⟨eX hR.out.1 hT,YB.out.trans (bE.mono YB.out.size)⟩⟩
      case measure=>simp[intOf];omega
    | true=>
      obtain⟨sg,hsg⟩:∃sg,sg=s gd.toNat:=⟨_,rfl⟩
      have hT:FV ⟨days,most,gA,ng,gc,g,mA,nm,mc,m,some ad,nc,cc,c⟩ s lo hi k=gI sg l u:=by rw[VG.out,JZ,hsg];rfl
      obtain⟨bs,hbs⟩:∃bs,bs=gI sg l u:=⟨_,rfl⟩
      rw[← hbs] at hT
      have HT:=hid hT
      replace hbs:=hbs.symm
      clear hT VG
      have LL:(gd=0∧sg=z0)∨(gd=1∧sg=z1)∨(gd=2∧sg=z2):=by
       rcases(show gd=0∨gd=1∨gd=2 by omega) with rfl|rfl|rfl
       ·exact .inl ⟨rfl,by rw[hsg,Z0.out];rfl⟩
       ·exact .inr (.inl ⟨rfl,by rw[hsg,Z1.out];rfl⟩)
       ·exact .inr (.inr ⟨rfl,by rw[hsg,Z2.out];rfl⟩)
      clear hsg Ee
      rcases LL with⟨rfl,rfl⟩|⟨rfl,rfl⟩|⟨rfl,rfl⟩
      all_goals cases bs
      all_goals
       refine wpIn_region_quiet_below rfl zk zk ?_
       repeat (quiet_step_in (exact cH _ _ _ _ _))
       refine wpQuietIn_nil ?_
       rintro w' ⟨⟨dq,osq⟩,rfl⟩
       have bE:=below_regrown w5 dq osq
       clear k0 k1 k2 k3 j0 j1 j2 i0 i1 cH
       generalize grow (redrawn w5 dq) osq=w9 at bE⊢
       have uK:=hid bE
       clear bE
       gi_wp2
       first
        | (go_roundw
           case rel=>exact⟨k+1,zo,by go_num,hid ⟨eX hR.out.1 HT.out,YB.out.trans (uK.out.mono YB.out.size)⟩⟩
           case measure=>simp[intOf];omega)
        | (go_ret
           refine⟨?_,(WB.out.trans ((YB.out.trans (uK.out.mono YB.out.size)).mono WB.out.size))⟩
           have hf:(List.range nc).all (FV ⟨days,most,gA,ng,gc,g,mA,nm,mc,m,some ad,nc,cc,c⟩ s lo hi)=false:=by
            rw[List.all_eq_false]
            exact⟨k,List.mem_range.2 hlt,by rw[HT.out];decide⟩
           rw[hf];rfl)
   ·obtain rfl:k=nc:=zo
    have cM:=tU z0 z1 z2 (w.heap.size+1) wr X1.out
    have hall:(List.range k).all (FV (⟨days,most,gA,ng,gc,g,mA,nm,mc,m,cA,k,cc,c⟩:Bk) s lo hi)=true:=List.all_eq_true.2 fun i hi=>hR.out.1 i (List.mem_range.1 hi)
    have CM:=hid cM
    have HA:=hid hall
    clear cM hall
    gi_wp2_with (gi_at_call 122;refine CM.out.mono ?_;rintro e w8 ⟨rfl,fj⟩)
    go_ret
    exact⟨by rw[HA.out,← Z0.out,← Z1.out,← Z2.out];simp,XB.out.trans (fj.mono XB.out.size)⟩
def fG(s:Nat):Prop:=s=0∨s=1∨s=8∨s=9
def pop(s:Nat):Int:=if s=0 then 0 else if s=9 then 2 else 1
theorem Uc(s:Nat)(h:fG s)(w:World):CallsIn SF 0 prog 121 #[.int .u64 s] w fun e w'=>e=.returned (int i64 (pop s))∧Below w.heap.size w w':=by
 rcases h with rfl|rfl|rfl|rfl
 all_goals
  gi_enter func121,ntmps121
  gi_wp2
  go_ret
  exact⟨zk,Below.refl _ _⟩
theorem ia(s:Nat)(h:fG s)(w:World):CallsIn SF 0 prog 101 #[.int .u64 s] w fun e w'=>e=.returned (int i64 (pop s))∧Below w.heap.size w w':=by
 have H:=fun w=>Uc s h w
 gi_enter func101,ntmps101
 gi_wp2_with (gi_at_call 121;refine(H _).mono ?_;rintro e w2 ⟨rfl,hb2⟩)
 go_ret
 exact⟨rfl,hb2⟩
theorem RY(b:Bk)(s:Nat)(h:fG s)(w:World):CallsIn SF 0 prog 72 #[b.val,int i64 s] w fun e w'=>e=.returned (.bool (decide (pop s≤b.most)))∧Below w.heap.size w w':=by
 obtain⟨days,most,gA,ng,gc,g,mA,nm,mc,m,cA,nc,cc,c⟩:=b
 simp only[Bk.val,Bk.cells]
 obtain⟨w1,hw1⟩:∃w1,w1=w.alloc (.cells #[int i64 days,int i64 most,.slice gA ng gc,.slice mA nm mc,.slice cA nc cc] 71):=⟨_,rfl⟩
 have W0:Whole w1 w.heap.size 71 #[int i64 days,int i64 most,.slice gA ng gc,.slice mA nm mc,.slice cA nc cc]:=by rw[hw1];exact Whole.new _ _ _
 have WB:Below w.heap.size w w1:=by rw[hw1];exact bw
 have k1:=cell_regrown (W0.cell 1)
 have cH:∀d os,CallsIn SF 0 prog 101 #[.int .u64 s] (grow (redrawn w1 d) os) fun e w''=>e=.returned (int i64 (pop s))∧∃p:Regrown,w''=grow (redrawn w1 p.d) p.os:=fun d os=>CallsIn.regrown_of (ia s h _)
 have hs:s<10:=by rcases h with rfl|rfl|rfl|rfl <;> decide
 have nK:=hid hw1
 clear hw1
 rcases h with rfl|rfl|rfl|rfl
 all_goals
  gi_enter func72,ntmps72
  gi_wp2
  rw[← nK.out]
  refine wpIn_region_quiet_below rfl zk zk ?_
  repeat (quiet_step_in (exact cH _ _))
  refine wpQuietIn_nil ?_
  rintro w' ⟨⟨dq,osq⟩,rfl⟩
  have bE:=below_regrown w1 dq osq
  clear k1 cH
  generalize grow (redrawn w1 dq) osq=w9 at bE⊢
  gi_wp2
  go_ret
  exact⟨by first|rfl|(simp[pop]),WB.trans (bE.mono WB.size)⟩
abbrev St:=Nat→Int
def stC(s:St):List Value:=[int i64 (s 0),int i64 (s 1),int i64 (s 2)]
def ext(s:St)(g:Nat)(n:Int):St:=fun i=>if i=g then n else s i
def bM(lo:Int)(k:Nat):List Int:=(List.range k).map fun(i:Nat)=>lo+i
def bU(b:Bk):Nat→List St
 | 0=>[fun _=>0]
 | Nat.succ k=>(bU b k).flatMap fun s=>(bM (b.g k).lo ((b.g k).hi - (b.g k).lo+1).toNat).map fun n=>ext s k n
def kK(l:List St):List Value:=l.flatMap stC
theorem mH(l l':List St):kK (l ++ l')=kK l ++ kK l':=List.flatMap_append
theorem Gf:∀ (l:List St) {i j:Nat},i<l.length→j<3→(kK l)[i * 3+j]? =some (int i64 (l.getD i (fun _=>0) j))
 | [],_,_,h,_=>by cases h
 | x :: l,0,j,_,hj=>by
   rcases(show j=0∨j=1∨j=2 by omega) with rfl|rfl|rfl <;> rfl
 | x :: l,i+1,j,h,hj=>by
   have:=Gf l (i:=i) (j:=j) (by simpa using h) hj
   have e:(kK (x :: l))[(i+1) * 3+j]? =(kK l)[i * 3+j]?:=by
    rw[show(i+1) * 3+j=(i * 3+j)+3 by omega]
    rfl
   rw[e,this]
   simp
theorem mV(lo:Int)(k:Nat):bM lo (k+1)=bM lo k ++ [lo+k]:=by unfold bM;rw[List.range_succ,List.map_append];rfl
theorem Tryz.infoS:(Tryz.prog.info? 75).map (fun i=>(i.zero,i.size,i.bytes))=some (some (.agg #[int i64 0,int i64 0,int i64 0]),3,24):=zk
theorem qM(b:Bk)(h:ku b):∀k,k≤b.ng→(bU b k).length≤3 ^ k
 | 0,_=>by simp[bU]
 | Nat.succ k,hk=>by
   have ih:=qM b h k zo
   have hf:=lQ (h.2 k zo).few
   have:∀l:List St,(l.flatMap fun s=>(bM (b.g k).lo ((b.g k).hi - (b.g k).lo+1).toNat).map fun n=>ext s k n).length≤l.length * 3:=fun l=>by
    induction l with
    | nil=>simp
    | cons x l ih=>rw[List.flatMap_cons,List.length_append];simp[bM] at ih⊢;omega
   have h2:=this (bU b k)
   simp only[bU]
   rw[Nat.pow_succ]
   omega
theorem Sg(b:Bk)(w:World)(h:b.At w w.heap.size)(ok:ku b):CallsIn SF 0 prog 106 #[b.val] w fun e w'=>∃A p,e=.returned (.slice A (bU b b.ng).length p)∧Rows w' w'.heap.size 3 A (bU b b.ng).length (fun i j=>int i64 ((bU b b.ng).getD i (fun _=>0) j))∧(∀ad,A=some ad→w.heap.size<ad.block)∧Below w.heap.size w w':=by
 obtain⟨days,most,gA,ng,gc,g,mA,nm,mc,m,cA,nc,cc,c⟩:=b
 have hfl:=fun k hk=>qM (⟨days,most,gA,ng,gc,g,mA,nm,mc,m,cA,nc,cc,c⟩:Bk) ok k hk
 simp only[Bk.val,Bk.cells]
 obtain⟨L,hL⟩:∃L,L=bU (⟨days,most,gA,ng,gc,g,mA,nm,mc,m,cA,nc,cc,c⟩:Bk):=⟨_,rfl⟩
 have hL0:L 0=[fun _=>0]:=by rw[hL];rfl
 have qu:∀k,L (k+1)=(L k).flatMap fun s=>(bM (g k).lo ((g k).hi - (g k).lo+1).toNat).map fun n=>ext s k n:=fun k=>by rw[hL];rfl
 rw[← hL] at hfl⊢
 have uU:ng≤3:=ok.1.2
 have m3:=fun k hk=>lQ (ok.2 k hk).few
 simp only at hfl m3
 clear hL ok
 have Hh:=hid h
 have Rk:=hid qu
 have RM:=hid hfl
 have OK:=hid m3
 clear h qu hfl m3
 obtain⟨iS,hiS,hm0,hm1,hm2⟩:=info_parts Tryz.infoS
 have Fi:=hid hiS
 clear hiS
 gi_enter func106,ntmps106
 gi_wp2
 gi_loopw [3,16] (fun l i wr=>∃k:Nat,k≤ng∧i=int i64 k∧∃A p,l=.slice A (L k).length p∧Hid (Rows wr wr.heap.size 3 A (L k).length (fun i j=>int i64 ((L k).getD i (fun _=>0) j))∧Below (w.heap.size+1) (w.alloc (.cells #[int i64 days,int i64 most,.slice gA ng gc,.slice mA nm mc,.slice cA nc cc] 71)) wr∧(∀ad,A=some ad→w.heap.size<ad.block))) (fun _ i _=>ng - (intOf i).toNat)
 case atStart=>
  refine⟨0,Nat.zero_le _,rfl,some ⟨w.heap.size+1,0,none⟩,1,by rw[hL0];rfl,hid ⟨?_,?_⟩⟩
  ·have hW:=Whole.new (w.alloc (.cells #[int i64 days,int i64 most,.slice gA ng gc,.slice mA nm mc,.slice cA nc cc] 71)) 75 #[int i64 0,int i64 0,int i64 0]
   rw[World.size_alloc] at hW
   rw[hL0]
   intro _
   refine⟨_,rfl,zs,fun i j hi hj=>?_⟩
   obtain rfl:i=0:=by simpa using hi
   have e:((⟨w.heap.size+1,0,none⟩:Addr).add (0 * 3+j))=⟨w.heap.size+1,j,none⟩:=by unfold Addr.add;split <;> simp_all
   rw[e,hW.cell]
   rcases(show j=0∨j=1∨j=2 by omega) with rfl|rfl|rfl <;> rfl
  ·exact⟨(Below.refl _ _).alloc zs _,fun ad h=>by cases h;exact Nat.lt_succ_self _⟩
 case round=>
  obtain⟨k,hk,rfl,A,p,rfl,hR⟩:=hrel
  obtain⟨wo,rfl⟩:∃wo:World,wo=wr:=⟨_,rfl⟩
  have hsz:w.heap.size+1≤wo.heap.size:=by have:=hR.out.2.1.size;simpa using this
  have Xo:w.heap.size<wo.heap.size:=hsz
  have hbx:∀o,wo.cell? ⟨w.heap.size,o,none⟩=(#[int i64 days,int i64 most,.slice gA ng gc,.slice mA nm mc,.slice cA nc cc]:Array Value)[o]?:=((Whole.new w 71 #[int i64 days,int i64 most,.slice gA ng gc,.slice mA nm mc,.slice cA nc cc]).below hR.out.2.1 (Nat.lt_succ_self _)).cell
  by_cases hlt:k<ng
  ·obtain⟨ad,hA',hbl,-⟩:=Hh.out.g (show 0<ng by omega)
   simp only at hA'
   subst hA'
   obtain⟨gk,Ee⟩:∃gk,gk=g k:=⟨_,rfl⟩
   have hr:∀j,j<5→wo.cell? ((ad.add (k * 5)).add j)=some (gk.cell j):=fun j hj=>by rw[Ee];exact(((Hh.out.g.alloc (Nat.le_refl _) (.cells #[int i64 days,int i64 most,.slice (some ad) ng gc,.slice mA nm mc,.slice cA nc cc] 71)).more (Nat.le_succ _)).below hR.out.2.1).row hlt |>.2 j hj
   have hok:=OK.out k hlt
   have hLk:=Rk.out k
   have hl9:=RM.out k zo
   have Lo:=RM.out (k+1) zo
   rw[← Ee] at hok hLk
   obtain⟨MP,co,pk,lo,hi⟩:=gk
   simp only at hok hLk
   have c0:wo.cell? (ad.add (k * 5))=some (.string MP):=hr 0 zD
   have c1:wo.cell? ⟨(ad.add (k * 5)).block,(ad.add (k * 5)).off+1,none⟩=some (int i64 co):=hr 1 zD
   have c2:wo.cell? ⟨(ad.add (k * 5)).block,(ad.add (k * 5)).off+2,none⟩=some (int i64 pk):=hr 2 zD
   have c3:wo.cell? ⟨(ad.add (k * 5)).block,(ad.add (k * 5)).off+3,none⟩=some (int i64 lo):=hr 3 zD
   have c4:wo.cell? ⟨(ad.add (k * 5)).block,(ad.add (k * 5)).off+4,none⟩=some (int i64 hi):=hr 4 zD
   clear hr Ee
   obtain⟨cnt,hcnt⟩:∃cnt,cnt=(hi - lo+1).toNat:=⟨_,rfl⟩
   rw[← hcnt] at hLk
   have hc3:cnt≤3:=zo
   have HC:Hid ((cnt:Int)=hi - lo+1):=hid zo
   clear hcnt
   obtain⟨f,hf⟩:∃f:St→List St,f=fun s=>(bM lo cnt).map fun n=>ext s k n:=⟨_,rfl⟩
   have ZD:L (k+1)=(L k).flatMap f:=by rw[hLk,hf]
   have hfl:∀l:List St,(l.flatMap f).length=l.length * cnt:=fun l=>by
    induction l with
    | nil=>simp
    | cons x l ih=>rw[List.flatMap_cons,List.length_append,ih,hf];simp[bM,Nat.succ_mul];omega
   have hln:(L k).length≤27:=by
    refine Nat.le_trans hl9 (Nat.le_trans (Nat.pow_le_pow_right zD (show k≤3 by omega)) zD)
   have HL1:=hid ZD
   have HFF:=hid hf
   have HFN:=hid hfl
   clear hLk ZD hf hfl hl9 Lo
   obtain⟨l0,hl0⟩:∃l0,l0=L k:=⟨_,rfl⟩
   have od:=hid hl0
   rw[← hl0] at hR hln
   obtain⟨N,hN⟩:∃N,N=l0.length:=⟨_,rfl⟩
   rw[← hl0,← hN]
   have HN:=hid hN
   clear hl0
   rw[← hN] at hR hln
   clear hN
   gi_wp2
   obtain⟨wg,hwg⟩:∃wg,wg=wo.alloc (.cells #[.string MP,int i64 co,int i64 pk,int i64 lo,int i64 hi] 68):=⟨_,rfl⟩
   have G0:=hid (show Whole wg wo.heap.size 68 #[.string MP,int i64 co,int i64 pk,int i64 lo,int i64 hi] by rw[hwg];exact Whole.new _ _ _)
   have GB:=hid (show Below wo.heap.size wo wg by rw[hwg];exact(Below.refl _ _).alloc (Nat.le_refl _) _)
   have hgs:wg.heap.size=wo.heap.size+1:=by rw[hwg];simp
   rw[← hwg]
   clear hwg c0 c1 c2 c3 c4
   gi_loopw [6,23] (fun l2 j wj=>∃q:Nat,q≤N∧j=int i64 q∧Hid (wj.ownsRow wg.heap.size 75 3 l2 (q * cnt) (kK ((l0.take q).flatMap f))∧Below wg.heap.size wg wj)) (fun _ j _=>N - (intOf j).toNat)
   case atStart=>exact⟨0,Nat.zero_le _,rfl,hid ⟨⟨by simp[kK],.inl ⟨rfl,zs⟩⟩,Below.refl _ _⟩⟩
   case round=>
    obtain⟨q,hq,rfl,hS⟩:=hrel
    obtain⟨A9,n9,p9,rfl⟩:=fO hS.out.1
    obtain⟨wj,rfl⟩:∃wj:World,wj=wr:=⟨_,rfl⟩
    have hsj:=hS.out.2.size
    by_cases hq2:q<N
    ·have hRj:=hR.out.1.below (GB.out.trans (hS.out.2.mono zo))
     obtain⟨aa,rfl,hab,-⟩:=hRj (show 0<N by omega)
     have hrw:=hRj.row hq2
     obtain⟨s,hs⟩:∃s,s=l0.getD q (fun _=>0):=⟨_,rfl⟩
     have d0:wj.cell? (aa.add (q * 3))=some (int i64 (s 0)):=by rw[hs];exact hrw.2 0 zD
     have d1:wj.cell? ⟨(aa.add (q * 3)).block,(aa.add (q * 3)).off+1,none⟩=some (int i64 (s 1)):=by rw[hs];exact hrw.2 1 zD
     have d2:wj.cell? ⟨(aa.add (q * 3)).block,(aa.add (q * 3)).off+2,none⟩=some (int i64 (s 2)):=by rw[hs];exact hrw.2 2 zD
     have HS:=hid hs
     have g3:=(G0.out.below hS.out.2 zo).cell 3
     have g4:=(G0.out.below hS.out.2 zo).cell 4
     clear hs hrw hRj
     have hgl:wo.heap.size<wj.heap.size:=zo
     gi_wp2
     have hown:=hS.out.1
     have hge:∀g,(Value.slice A9 n9 p9).ownBlock=some g→g≠wj.heap.size:=fun g hg=>by have:=(bG hown hg).2;omega
     obtain⟨wn,hwn⟩:∃wn,wn=wj.alloc (.cells #[int i64 (s 0),int i64 (s 1),int i64 (s 2)] 75):=⟨_,rfl⟩
     have N0:Hid (Whole wn wj.heap.size 75 #[int i64 (s 0),int i64 (s 1),int i64 (s 2)]):=hid (by rw[hwn];exact Whole.new _ _ _)
     have NB:Hid (Below wg.heap.size wg wn):=hid (by rw[hwn];exact hS.out.2.alloc hsj _)
     have NO:Hid (wn.ownsRow wg.heap.size 75 3 (.slice A9 n9 p9) (q * cnt) (kK ((l0.take q).flatMap f))):=hid (by rw[hwn];exact aL hown _)
     have hns:wn.heap.size=wj.heap.size+1:=by rw[hwn];simp
     have Sa:=hid hge
     rw[← hwn]
     clear hwn hown hge d0 d1 d2 g3 g4 hS
     have hqc:q * cnt≤81:=Nat.le_trans (Nat.mul_le_mul (show q≤27 by omega) hc3) zD
     gi_loopw [6,9] (fun l3 n w3=>∃i:Nat,i≤cnt∧n=int i64 (lo+i)∧∃z:St,Hid (w3.ownsRow wg.heap.size 75 3 l3 (q * cnt+i) (kK ((l0.take q).flatMap f ++ (bM lo i).map fun n=>ext s k n))∧(∀g,l3.ownBlock=some g→g≠wj.heap.size)∧Whole w3 wj.heap.size 75 #[int i64 (z 0),int i64 (z 1),int i64 (z 2)]∧(∀x,ext z k x=ext s k x)∧Below wg.heap.size wg w3)) (fun _ n _=>(hi+1 - intOf n).toNat)
     case atStart=>exact⟨0,Nat.zero_le _,zs,s,hid ⟨by simpa [bM] using NO.out,Sa.out,N0.out,fun _=>rfl,NB.out⟩⟩
     case round=>
      obtain⟨i,hii,rfl,z,hT⟩:=hrel
      clear N0 NB NO Sa
      obtain⟨A3,n3,p3,rfl⟩:=fO hT.out.1
      have hs3:=hT.out.2.2.1.lt
      have g4:=(G0.out.below hT.out.2.2.2.2 zo).cell 4
      have aaB:wo.heap.size<wr.heap.size:=zo
      by_cases hic:i<cnt
      ·have hd:decide (lo+(i:Int)≤hi)=true:=decide_eq_true (by have:=HC.out;omega)
       have e1:wrap64 (lo+(i:Int)+1)=lo+(i:Int)+1:=IntWalk.wrap64_in _ (by have:=HC.out;omega)
       have x0:wr.cell? ⟨wj.heap.size,0,none⟩=some (int i64 (z 0)):=hT.out.2.2.1.cell 0
       have x1:wr.cell? ⟨wj.heap.size,1,none⟩=some (int i64 (z 1)):=hT.out.2.2.1.cell 1
       have x2:wr.cell? ⟨wj.heap.size,2,none⟩=some (int i64 (z 2)):=hT.out.2.2.1.cell 2
       have xf:=hT.out.2.2.1.thaw
       have aaI:¬ wo.heap.size=wj.heap.size:=zo
       obtain⟨nv,fx⟩:∃nv,nv=lo+(i:Int):=⟨_,rfl⟩
       have LJ:=hid fx
       rw[← fx] at hd e1⊢
       have E1:=hid e1
       clear fx
       have HO:Hid (∀o v,((wr.setCell ⟨wj.heap.size,k,none⟩ v).alloc o).ownsRow wg.heap.size 75 3 (.slice A3 n3 p3) (q * cnt+i) (kK ((l0.take q).flatMap f ++ (bM lo i).map fun n=>ext s k n))):=hid fun o v=>aL (jR hT.out.1 fun g hg _=>Below.heap_setCell _ _ _ _ (hT.out.2.1 g hg)) o
       have hz:ext z k nv=ext s k nv:=hT.out.2.2.2.1 nv
       have HZ:=hid hz
       clear hz
       rcases(show k=0∨k=1∨k=2 by omega) with rfl|rfl|rfl
       ·have hsc:(wr.setCell ⟨wj.heap.size,0,none⟩ (int i64 nv)).heap.size=wr.heap.size:=by simp[World.setCell]
        have hbk:((wr.setCell ⟨wj.heap.size,0,none⟩ (int i64 nv)).alloc (.cells #[int i64 nv,int i64 (z 1),int i64 (z 2)] 75)).heap[wr.heap.size]? =some (.cells #[int i64 nv,int i64 (z 1),int i64 (z 2)] 75):=by
         have:=heap_alloc_new (wr.setCell ⟨wj.heap.size,0,none⟩ (int i64 nv)) (.cells #[int i64 nv,int i64 (z 1),int i64 (z 2)] 75)
         rwa[hsc] at this
        have nB:=hid hbk
        have hs5:((wr.setCell ⟨wj.heap.size,0,none⟩ (int i64 nv)).alloc (.cells #[int i64 nv,int i64 (z 1),int i64 (z 2)] 75)).heap.size=wr.heap.size+1:=by rw[World.size_alloc,hsc]
        have Rp:=hid hs5
        have oy:=hid (HO.out (.cells #[int i64 nv,int i64 (z 1),int i64 (z 2)] 75) (int i64 nv))
        have LH:Hid (Below wg.heap.size wg ((wr.setCell ⟨wj.heap.size,0,none⟩ (int i64 nv)).alloc (.cells #[int i64 nv,int i64 (z 1),int i64 (z 2)] 75))):=hid ((hT.out.2.2.2.2.setCell (p:=⟨wj.heap.size,0,none⟩) hsj _).alloc (by rw[hsc];omega) _)
        have oT:Hid (Whole ((wr.setCell ⟨wj.heap.size,0,none⟩ (int i64 nv)).alloc (.cells #[int i64 nv,int i64 (z 1),int i64 (z 2)] 75)) wj.heap.size 75 #[int i64 nv,int i64 (z 1),int i64 (z 2)]):=hid ((hT.out.2.2.1.set 0 (int i64 nv)).alloc _)
        clear hsc hbk hs5
        gi_wp2_with (gi_at_builtin;refine aF rfl rfl rfl fun K5 jK=>?_;refine wp_append_lies _ _ _ _ rfl wg.heap.size 75 iS _ 3 24 underlying153 Fi.out hm0 hm1 hm2 rfl zo (.slice A3 n3 p3) (q * cnt+i) _ rfl oy.out ⟨wr.heap.size,0,none⟩ 1 1 [int i64 nv,int i64 (z 1),int i64 (z 2)] rfl rfl (World.news_of_block nB.out) (by simp[Value.oneCell']) zo zu zo (by rw[Rp.out];omega) (wr.heap.size+1) Rp.out ?_;intro rV qJ w5 hown5 aU nI qO;refine jK _ _ ?_;clear jK K5)
        go_roundw
        case rel=>
         refine⟨_,_,_,_,_,_,_,_,_,_,_,_,_,_,_,_,?_,rfl⟩
         have hgg:rV≠wj.heap.size:=by
          rcases nI with h|h
          ·exact hT.out.2.1 rV h
          ·omega
         refine⟨i+1,zo,by(first|rw[E1.out] |skip);rw[LJ.out];congr 1;push_cast;omega,ext s 0 nv,hid ⟨?_,fun g hg=>by cases hg;exact hgg,?_,fun x=>by funext y;simp only[ext];split <;> rfl,LH.out.trans (below_grown aU (by rw[Rp.out];omega) (fun g hg=>(bG hT.out.1 hg).1))⟩⟩
         ·rw[mV,List.map_append,← List.append_assoc,mH,← LJ.out]
          have e:kK (List.map (fun n=>ext s 0 n) [nv])=[int i64 nv,int i64 (z 1),int i64 (z 2)]:=by
           rw[List.map_singleton,← HZ.out];rfl
          rw[e]
          exact hown5
         ·rw[← HZ.out]
          exact oT.out.grown aU (fun e=>by exact absurd rfl (hT.out.2.1 _ e.symm))
        case measure=>have:=HC.out;have:=LJ.out;simp[intOf];omega
       ·have hsc:(wr.setCell ⟨wj.heap.size,1,none⟩ (int i64 nv)).heap.size=wr.heap.size:=by simp[World.setCell]
        have hbk:((wr.setCell ⟨wj.heap.size,1,none⟩ (int i64 nv)).alloc (.cells #[int i64 (z 0),int i64 nv,int i64 (z 2)] 75)).heap[wr.heap.size]? =some (.cells #[int i64 (z 0),int i64 nv,int i64 (z 2)] 75):=by
         have:=heap_alloc_new (wr.setCell ⟨wj.heap.size,1,none⟩ (int i64 nv)) (.cells #[int i64 (z 0),int i64 nv,int i64 (z 2)] 75)
         rwa[hsc] at this
        have nB:=hid hbk
        have hs5:((wr.setCell ⟨wj.heap.size,1,none⟩ (int i64 nv)).alloc (.cells #[int i64 (z 0),int i64 nv,int i64 (z 2)] 75)).heap.size=wr.heap.size+1:=by rw[World.size_alloc,hsc]
        have Rp:=hid hs5
        have oy:=hid (HO.out (.cells #[int i64 (z 0),int i64 nv,int i64 (z 2)] 75) (int i64 nv))
        have LH:Hid (Below wg.heap.size wg ((wr.setCell ⟨wj.heap.size,1,none⟩ (int i64 nv)).alloc (.cells #[int i64 (z 0),int i64 nv,int i64 (z 2)] 75))):=hid ((hT.out.2.2.2.2.setCell (p:=⟨wj.heap.size,1,none⟩) hsj _).alloc (by rw[hsc];omega) _)
        have oT:Hid (Whole ((wr.setCell ⟨wj.heap.size,1,none⟩ (int i64 nv)).alloc (.cells #[int i64 (z 0),int i64 nv,int i64 (z 2)] 75)) wj.heap.size 75 #[int i64 (z 0),int i64 nv,int i64 (z 2)]):=hid ((hT.out.2.2.1.set 1 (int i64 nv)).alloc _)
        clear hsc hbk hs5
        gi_wp2_with (gi_at_builtin;refine aF rfl rfl rfl fun K5 jK=>?_;refine wp_append_lies _ _ _ _ rfl wg.heap.size 75 iS _ 3 24 underlying153 Fi.out hm0 hm1 hm2 rfl zo (.slice A3 n3 p3) (q * cnt+i) _ rfl oy.out ⟨wr.heap.size,0,none⟩ 1 1 [int i64 (z 0),int i64 nv,int i64 (z 2)] rfl rfl (World.news_of_block nB.out) (by simp[Value.oneCell']) zo zu zo (by rw[Rp.out];omega) (wr.heap.size+1) Rp.out ?_;intro rV qJ w5 hown5 aU nI qO;refine jK _ _ ?_;clear jK K5)
        go_roundw
        case rel=>
         refine⟨_,_,_,_,_,_,_,_,_,_,_,_,_,_,_,_,?_,rfl⟩
         have hgg:rV≠wj.heap.size:=by
          rcases nI with h|h
          ·exact hT.out.2.1 rV h
          ·omega
         refine⟨i+1,zo,by(first|rw[E1.out] |skip);rw[LJ.out];congr 1;push_cast;omega,ext s 1 nv,hid ⟨?_,fun g hg=>by cases hg;exact hgg,?_,fun x=>by funext y;simp only[ext];split <;> rfl,LH.out.trans (below_grown aU (by rw[Rp.out];omega) (fun g hg=>(bG hT.out.1 hg).1))⟩⟩
         ·rw[mV,List.map_append,← List.append_assoc,mH,← LJ.out]
          have e:kK (List.map (fun n=>ext s 1 n) [nv])=[int i64 (z 0),int i64 nv,int i64 (z 2)]:=by
           rw[List.map_singleton,← HZ.out];rfl
          rw[e]
          exact hown5
         ·rw[← HZ.out]
          exact oT.out.grown aU (fun e=>by exact absurd rfl (hT.out.2.1 _ e.symm))
        case measure=>have:=HC.out;have:=LJ.out;simp[intOf];omega
       ·have hsc:(wr.setCell ⟨wj.heap.size,2,none⟩ (int i64 nv)).heap.size=wr.heap.size:=by simp[World.setCell]
        have hbk:((wr.setCell ⟨wj.heap.size,2,none⟩ (int i64 nv)).alloc (.cells #[int i64 (z 0),int i64 (z 1),int i64 nv] 75)).heap[wr.heap.size]? =some (.cells #[int i64 (z 0),int i64 (z 1),int i64 nv] 75):=by
         have:=heap_alloc_new (wr.setCell ⟨wj.heap.size,2,none⟩ (int i64 nv)) (.cells #[int i64 (z 0),int i64 (z 1),int i64 nv] 75)
         rwa[hsc] at this
        have nB:=hid hbk
        have hs5:((wr.setCell ⟨wj.heap.size,2,none⟩ (int i64 nv)).alloc (.cells #[int i64 (z 0),int i64 (z 1),int i64 nv] 75)).heap.size=wr.heap.size+1:=by rw[World.size_alloc,hsc]
        have Rp:=hid hs5
        have oy:=hid (HO.out (.cells #[int i64 (z 0),int i64 (z 1),int i64 nv] 75) (int i64 nv))
        have LH:Hid (Below wg.heap.size wg ((wr.setCell ⟨wj.heap.size,2,none⟩ (int i64 nv)).alloc (.cells #[int i64 (z 0),int i64 (z 1),int i64 nv] 75))):=hid ((hT.out.2.2.2.2.setCell (p:=⟨wj.heap.size,2,none⟩) hsj _).alloc (by rw[hsc];omega) _)
        have oT:Hid (Whole ((wr.setCell ⟨wj.heap.size,2,none⟩ (int i64 nv)).alloc (.cells #[int i64 (z 0),int i64 (z 1),int i64 nv] 75)) wj.heap.size 75 #[int i64 (z 0),int i64 (z 1),int i64 nv]):=hid ((hT.out.2.2.1.set 2 (int i64 nv)).alloc _)
        clear hsc hbk hs5
        gi_wp2_with (gi_at_builtin;refine aF rfl rfl rfl fun K5 jK=>?_;refine wp_append_lies _ _ _ _ rfl wg.heap.size 75 iS _ 3 24 underlying153 Fi.out hm0 hm1 hm2 rfl zo (.slice A3 n3 p3) (q * cnt+i) _ rfl oy.out ⟨wr.heap.size,0,none⟩ 1 1 [int i64 (z 0),int i64 (z 1),int i64 nv] rfl rfl (World.news_of_block nB.out) (by simp[Value.oneCell']) zo zu zo (by rw[Rp.out];omega) (wr.heap.size+1) Rp.out ?_;intro rV qJ w5 hown5 aU nI qO;refine jK _ _ ?_;clear jK K5)
        go_roundw
        case rel=>
         refine⟨_,_,_,_,_,_,_,_,_,_,_,_,_,_,_,_,?_,rfl⟩
         have hgg:rV≠wj.heap.size:=by
          rcases nI with h|h
          ·exact hT.out.2.1 rV h
          ·omega
         refine⟨i+1,zo,by(first|rw[E1.out] |skip);rw[LJ.out];congr 1;push_cast;omega,ext s 2 nv,hid ⟨?_,fun g hg=>by cases hg;exact hgg,?_,fun x=>by funext y;simp only[ext];split <;> rfl,LH.out.trans (below_grown aU (by rw[Rp.out];omega) (fun g hg=>(bG hT.out.1 hg).1))⟩⟩
         ·rw[mV,List.map_append,← List.append_assoc,mH,← LJ.out]
          have e:kK (List.map (fun n=>ext s 2 n) [nv])=[int i64 (z 0),int i64 (z 1),int i64 nv]:=by
           rw[List.map_singleton,← HZ.out];rfl
          rw[e]
          exact hown5
         ·rw[← HZ.out]
          exact oT.out.grown aU (fun e=>by exact absurd rfl (hT.out.2.1 _ e.symm))
        case measure=>have:=HC.out;have:=LJ.out;simp[intOf];omega
      ·obtain rfl:i=cnt:=zo
       have hd:decide (lo+(i:Int)≤hi)=false:=decide_eq_false (by have:=HC.out;omega)
       gi_wp2
       go_roundw
       case rel=>
        refine⟨q+1,zo,by go_num,hid ⟨?_,hT.out.2.2.2.2⟩⟩
        have e:(l0.take (q+1)).flatMap f=(l0.take q).flatMap f ++ (bM lo i).map fun n=>ext s k n:=by
         rw[List.take_add_one,List.flatMap_append]
         congr 1
         rw[show l0[q]? =some s by rw[HS.out];simp[show q<l0.length by rw[← HN.out];exact hq2],HFF.out]
         simp
        rw[e,Nat.succ_mul]
        exact hT.out.1
       case measure=>simp[intOf];omega
    ·obtain rfl:q=N:=zo
     obtain⟨A2,p2,h29⟩:=dD hS.out.1
     obtain⟨rfl,rfl,rfl⟩:A2=A9∧n9=q * cnt∧p2=p9:=by injection h29 with a b c;exact⟨a.symm,b,c.symm⟩
     gi_wp2
     go_roundw
     case rel=>
      have e:(l0.take q).flatMap f=L (k+1):=by
       rw[HL1.out,← od.out,List.take_of_length_le (by rw[← HN.out];exact Nat.le_refl _)]
      have el:q * cnt=(L (k+1)).length:=by
       rw[← e,HFN.out,List.length_take,← HN.out,Nat.min_self]
      refine⟨k+1,zo,by go_num,A2,p2,by rw[el],hid ⟨?_,hR.out.2.1.trans ((GB.out.mono zo).trans (hS.out.2.mono zo)),fun ad8 h8=>by
       subst h8
       have:=(bG hS.out.1 (g:=ad8.block) rfl).1
       omega⟩⟩
      rw[← el]
      intro hn0
      obtain⟨gb,cp,hv,_,Lq⟩:=hS.out.1.form hn0
      have hA8:A2=some ⟨gb,0,none⟩:=by injection hv
      subst hA8
      refine⟨_,rfl,Lq,fun i j hi hj=>?_⟩
      have hc:=hS.out.1.cells (g:=gb) rfl (i * 3+j) (int i64 ((L (k+1)).getD i (fun _=>0) j)) (by rw[e];exact Gf _ (by rw[← el];exact hi) hj)
      exact hc
     case measure=>simp[intOf];omega
  ·obtain rfl:k=ng:=zo
   gi_wp2
   go_ret
   exact⟨A,p,rfl,hR.out.1,hR.out.2.2,((Below.refl _ _).alloc (Nat.le_refl _) _).trans (hR.out.2.1.mono zs)⟩
end
end Go.Proofs.YtmjjocnfidnelaaGreat
