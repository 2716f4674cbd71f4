/- P19 P20 WA WB WC -/
import Derived.Test.YthaelabgfnnebaaGreatA5
set_option maxRecDepth 100000
set_option maxHeartbeats 16000000
set_option linter.unusedVariables false
set_option linter.unusedSectionVars false
open Go.IntKind(i64)
open Go.Lib(hid)
open Go.Proofs.Tryz
open Go.Value(int)
namespace Go.Proofs.YthaelabgfnnebaaGreat
section
open Go.RowKit
section
variable{w w':World}{b B n:Nat}{t:TypeId}{cs:Array Value}{x y z x' y' z':Value}
theorem Whole.bQ(h:Whole w b t cs)(hb:b≠B):Whole (((w.setCell ⟨B,0,none⟩ x).setCell ⟨B,1,none⟩ y).setCell ⟨B,2,none⟩ z) b t cs:=
 ((h.other (p:=⟨B,0,none⟩) hb x).other (p:=⟨B,1,none⟩) hb y).other (p:=⟨B,2,none⟩) hb z
theorem Whole.iG(h:Whole w B t #[x',y',z']):Whole (((w.setCell ⟨B,0,none⟩ x).setCell ⟨B,1,none⟩ y).setCell ⟨B,2,none⟩ z) B t #[x,y,z]:=
 ((h.set 0 x).set 1 y).set 2 z
theorem aC(h:Below n w w')(hB:n≤B):Below n w (((w'.setCell ⟨B,0,none⟩ x).setCell ⟨B,1,none⟩ y).setCell ⟨B,2,none⟩ z):=
 ((h.setCell (p:=⟨B,0,none⟩) hB x).setCell (p:=⟨B,1,none⟩) hB y).setCell (p:=⟨B,2,none⟩) hB z
end
structure oM(h:Ht):Prop where
 f:∀i,i<3→0≤h.f i∧h.f i≤99
 m:∀i,i<6→0≤h.m i∧h.m i≤99
 lies:h.lies<64
theorem oM.real{h:Ht}(ok:oM h){k:Nat}(hk:k<6):0≤h.real k∧h.real k≤99:=by
 unfold Ht.real
 have:=ok.m k hk
 split <;> omega
def stk(b:Bk)(h:Ht)(d:Int):Nat→Nat→Int
 | 0=>h.f
 | Nat.succ k=>if (b.m k).day≤d then uU b (stk b h d k) h k else stk b h d k
theorem Ui{b:Bk}{h:Ht}(ok:oM h)(d:Int):∀k:Nat,k≤6→∀g:Nat,g<3→-99 * (k:Int)≤stk b h d k g∧stk b h d k g≤99 * ((k:Int)+1)
 | 0,_,g,hg=>by have:=ok.f g hg;simp only[stk];omega
 | k+1,hk,g,hg=>by
   have ih:=Ui (b:=b) ok d k zo g hg
   have hr:=ok.real (k:=k) zo
   simp only[stk]
   split
   ·unfold uU Zl
    split <;> (try split) <;> (push_cast;omega)
   ·push_cast;omega
theorem gD(b:Bk)(h:Ht)(d:Int)(w:World)(hA:b.At w w.heap.size)(ok:kr b)(BK:b.ng≤3)(hok:oM h):
 CallsIn FF 0 prog 42 #[b.val,h.val,int i64 d] w fun e w'=>e=.returned (lY (stk b h d b.nm))∧Below w.heap.size w w':=by
 have DD:∀ (s:Nat→Int) (k:Nat) (w:World),b.At w w.heap.size→k<b.nm→(∀g,g<3→-100000≤s g∧s g≤100000)→CallsIn FF 0 prog 79 #[b.val,lY s,h.val,int i64 k] w fun e w'=>e=.returned (lY (uU b s h k))∧Below w.heap.size w w':=fun s k w hA hk hs=>
  vE b s h k w hA hk (ok.2 k hk) BK (Nat.lt_of_lt_of_le hk ok.1) hok.lies hs (by have:=hok.real (k:=k) (Nat.lt_of_lt_of_le hk ok.1);omega)
 have hst:Hid (∀k:Nat,k≤b.nm→∀g:Nat,g<3→-100000≤stk b h d k g∧stk b h d k g≤100000):=hid fun k hk g hg=>by
  have:=Ui (b:=b) hok d k (Nat.le_trans hk ok.1) g hg
  have:=ok.1
  omega
 have Sv:=ok.1
 obtain⟨days,most,gA,ng,gc,g,mA,nm,mc,m,cA,nc,cc,c⟩:=b
 obtain⟨hf,hmm,lies⟩:=h
 simp only[Bk.val,Bk.cells,Ht.val,Ht.cells,lY] at DD⊢
 simp only at BK Sv
 obtain⟨S,hS⟩:∃S,S=stk (⟨days,most,gA,ng,gc,g,mA,nm,mc,m,cA,nc,cc,c⟩:Bk) ⟨hf,hmm,lies⟩ d:=⟨_,rfl⟩
 have hS0:S 0=hf:=by rw[hS];rfl
 have S5:∀k,S (k+1)=if (m k).day≤d then uU (⟨days,most,gA,ng,gc,g,mA,nm,mc,m,cA,nc,cc,c⟩:Bk) (S k) ⟨hf,hmm,lies⟩ k else S k:=fun k=>by rw[hS];rfl
 rw[← hS] at hst⊢
 clear hS ok hok
 have HA:=hid hA
 have xT:=hid DD
 have Pc:=hid S5
 clear hA DD S5
 obtain⟨w4,hw4⟩:∃w4,w4=(((w.alloc (.cells #[int i64 days,int i64 most,.slice gA ng gc,.slice mA nm mc,.slice cA nc cc] 74)).alloc (.cells #[int i64 (hf 0),int i64 (hf 1),int i64 (hf 2),int i64 (hmm 0),int i64 (hmm 1),int i64 (hmm 2),int i64 (hmm 3),int i64 (hmm 4),int i64 (hmm 5),int i64 lies] 88)).alloc (.cells #[int i64 0,int i64 0,int i64 0] 85)).alloc (.cells #[int i64 (hf 0),int i64 (hf 1),int i64 (hf 2)] 85):=⟨_,rfl⟩
 have W0:Hid (Whole w4 w.heap.size 74 #[int i64 days,int i64 most,.slice gA ng gc,.slice mA nm mc,.slice cA nc cc]):=hid (by rw[hw4];exact(((Whole.new w _ _).alloc _).alloc _).alloc _)
 have W1:Hid (Whole w4 (w.heap.size+1) 88 #[int i64 (hf 0),int i64 (hf 1),int i64 (hf 2),int i64 (hmm 0),int i64 (hmm 1),int i64 (hmm 2),int i64 (hmm 3),int i64 (hmm 4),int i64 (hmm 5),int i64 lies]):=hid (by
  have:=((Whole.new (w.alloc (.cells #[int i64 days,int i64 most,.slice gA ng gc,.slice mA nm mc,.slice cA nc cc] 74)) 88 #[int i64 (hf 0),int i64 (hf 1),int i64 (hf 2),int i64 (hmm 0),int i64 (hmm 1),int i64 (hmm 2),int i64 (hmm 3),int i64 (hmm 4),int i64 (hmm 5),int i64 lies]).alloc (.cells #[int i64 0,int i64 0,int i64 0] 85)).alloc (.cells #[int i64 (hf 0),int i64 (hf 1),int i64 (hf 2)] 85)
  rw[World.size_alloc] at this;rw[hw4];exact this)
 have W2:Hid (Whole w4 (w.heap.size+1+1) 85 #[int i64 0,int i64 0,int i64 0]):=hid (by
  have:=(Whole.new ((w.alloc (.cells #[int i64 days,int i64 most,.slice gA ng gc,.slice mA nm mc,.slice cA nc cc] 74)).alloc (.cells #[int i64 (hf 0),int i64 (hf 1),int i64 (hf 2),int i64 (hmm 0),int i64 (hmm 1),int i64 (hmm 2),int i64 (hmm 3),int i64 (hmm 4),int i64 (hmm 5),int i64 lies] 88)) 85 #[int i64 0,int i64 0,int i64 0]).alloc (.cells #[int i64 (hf 0),int i64 (hf 1),int i64 (hf 2)] 85)
  rw[World.size_alloc,World.size_alloc] at this;rw[hw4];exact this)
 have W3:Hid (Whole w4 (w.heap.size+1+1+1) 85 #[int i64 (S 0 0),int i64 (S 0 1),int i64 (S 0 2)]):=hid (by
  have:=Whole.new (((w.alloc (.cells #[int i64 days,int i64 most,.slice gA ng gc,.slice mA nm mc,.slice cA nc cc] 74)).alloc (.cells #[int i64 (hf 0),int i64 (hf 1),int i64 (hf 2),int i64 (hmm 0),int i64 (hmm 1),int i64 (hmm 2),int i64 (hmm 3),int i64 (hmm 4),int i64 (hmm 5),int i64 lies] 88)).alloc (.cells #[int i64 0,int i64 0,int i64 0] 85)) 85 #[int i64 (hf 0),int i64 (hf 1),int i64 (hf 2)]
  rw[World.size_alloc,World.size_alloc,World.size_alloc] at this;rw[hw4,hS0];exact this)
 have WB:Hid (Below w.heap.size w w4):=hid (by rw[hw4];exact bw)
 have nb:=hid hw4
 clear hw4 hS0
 gi_enter func42,ntmps42
 gi_wp2
 rw[← nb.out]
 clear nb
 gi_loopw [16] (fun i wr=>∃k:Nat,k≤nm∧i=int i64 k∧Hid (Whole wr w.heap.size 74 #[int i64 days,int i64 most,.slice gA ng gc,.slice mA nm mc,.slice cA nc cc]∧Whole wr (w.heap.size+1) 88 #[int i64 (hf 0),int i64 (hf 1),int i64 (hf 2),int i64 (hmm 0),int i64 (hmm 1),int i64 (hmm 2),int i64 (hmm 3),int i64 (hmm 4),int i64 (hmm 5),int i64 lies]∧Whole wr (w.heap.size+1+1) 85 #[int i64 0,int i64 0,int i64 0]∧Whole wr (w.heap.size+1+1+1) 85 #[int i64 (S k 0),int i64 (S k 1),int i64 (S k 2)]∧Below w.heap.size w wr)) (fun i _=>nm - (intOf i).toNat)
 case atStart=>exact⟨0,Nat.zero_le _,rfl,hid ⟨W0.out,W1.out,W2.out,W3.out,WB.out⟩⟩
 case round=>
  obtain⟨k,hk,rfl,hR⟩:=hrel
  clear W0 W1 W2 W3 WB
  by_cases hlt:k<nm
  ·obtain⟨wo,rfl⟩:∃wo:World,wo=wr:=⟨_,rfl⟩
   have hs3:=hR.out.2.2.2.1.lt
   have hsz:w.heap.size≤wo.heap.size:=zo
   obtain⟨ad,hA',hbl,-⟩:=HA.out.m (show 0<nm by omega)
   simp only at hA'
   subst hA'
   have hr:=(HA.out.m.below hR.out.2.2.2.2).row hlt
   have c0:wo.cell? (ad.add (k * 5))=some (int i64 (m k).kind):=hr.2 0 zD
   have c1:wo.cell? ⟨(ad.add (k * 5)).block,(ad.add (k * 5)).off+1,none⟩=some (int i64 (m k).good):=hr.2 1 zD
   have c2:wo.cell? ⟨(ad.add (k * 5)).block,(ad.add (k * 5)).off+2,none⟩=some (int i64 (m k).day):=hr.2 2 zD
   have c3:wo.cell? ⟨(ad.add (k * 5)).block,(ad.add (k * 5)).off+3,none⟩=some (int i64 (m k).lo):=hr.2 3 zD
   have c4:wo.cell? ⟨(ad.add (k * 5)).block,(ad.add (k * 5)).off+4,none⟩=some (int i64 (m k).hi):=hr.2 4 zD
   clear hr
   have q0:=hR.out.1.cell
   have q1:=hR.out.2.1.cell
   have q3:=hR.out.2.2.2.1.cell
   have t0:w.heap.size<wo.heap.size:=zo
   have t1:w.heap.size+1<wo.heap.size:=zo
   have t2:w.heap.size+1+1<wo.heap.size:=zo
   by_cases JK:(m k).day≤d
   ·have hdd:decide ((m k).day≤d)=true:=decide_eq_true JK
    have F8:=Pc.out k
    rw[if_pos JK] at F8
    have ig:=hid F8
    clear F8
    gi_wp2_with (gi_at_call 79;refine(xT.out (S k) k _ ((HA.out.below (hR.out.2.2.2.2.trans (bw))).more zm) hlt (hst.out k zo)).mono ?_;rintro e w2 ⟨rfl,hb2⟩;have HB2:Hid (Below wo.heap.size wo w2):=hid ((bw:Below wo.heap.size wo _).trans (hb2.mono zs));clear hb2;have y3:=hR.out.2.2.2.1.below HB2.out hs3;have yc:=y3.cell;have yf:=y3.thaw)
    go_roundw
    case rel=>
     refine⟨k+1,zo,by go_num,hid ⟨(hR.out.1.below HB2.out t0).bQ zo,(hR.out.2.1.below HB2.out t1).bQ zo,(hR.out.2.2.1.below HB2.out t2).bQ zo,?_,aC (hR.out.2.2.2.2.trans (HB2.out.mono hsz)) zo⟩⟩
     rw[ig.out]
     exact y3.iG
    case measure=>simp[intOf];omega
   ·have hdd:decide ((m k).day≤d)=false:=decide_eq_false JK
    have F8:=Pc.out k
    rw[if_neg JK] at F8
    have ig:=hid F8
    clear F8
    gi_wp2
    go_roundw
    case rel=>exact⟨k+1,zo,by go_num,hid ⟨hR.out.1.alloc _,hR.out.2.1.alloc _,hR.out.2.2.1.alloc _,by rw[ig.out];exact hR.out.2.2.2.1.alloc _,hR.out.2.2.2.2.alloc hsz _⟩⟩
    case measure=>simp[intOf];omega
  ·obtain rfl:k=nm:=zo
   have q3:=hR.out.2.2.2.1.cell
   have q2:=hR.out.2.2.1.cell
   have Kf:=hR.out.2.2.1.thaw
   gi_wp2
   have U:=(hR.out.2.2.1.iG (x:=int i64 (S k 0)) (y:=int i64 (S k 1)) (z:=int i64 (S k 2)))
   have u0:=U.cell 0
   have u1:=U.cell 1
   have u2:=U.cell 2
   clear q3 q2 Kf
   refine bodyPost_ret (v:=.agg #[int i64 (S k 0),int i64 (S k 1),int i64 (S k 2)]) (by simp[results,results42,go_sem,u0,u1,u2]) rfl ⟨rfl,aC hR.out.2.2.2.2 zo⟩
def Ee(b:Bk)(h:Ht):Nat→Nat→Int
 | 0=>h.f
 | Nat.succ k=>fun g=>min (Ee b h k g) (stk b h k b.nm g)
theorem sf(b:Bk)(h:Ht)(w:World)(hA:b.At w w.heap.size)(ok:kr b)(hd:1≤b.days∧b.days≤99)(BK:b.ng≤3)(hok:oM h):
 CallsIn FF 0 prog 53 #[b.val,h.val] w fun e w'=>e=.returned (lY (Ee b h (b.days.toNat+1)))∧Below w.heap.size w w':=by
 have hSt:∀ (d:Nat) (w:World),b.At w w.heap.size→CallsIn FF 0 prog 42 #[b.val,h.val,int i64 d] w fun e w'=>e=.returned (lY (stk b h d b.nm))∧Below w.heap.size w w':=fun d w hA=>gD b h d w hA ok BK hok
 obtain⟨days,most,gA,ng,gc,g,mA,nm,mc,m,cA,nc,cc,c⟩:=b
 obtain⟨hf,hmm,lies⟩:=h
 simp only[Bk.val,Bk.cells,Ht.val,Ht.cells,lY] at hSt⊢
 simp only at hd
 obtain⟨D,rfl⟩:∃D:Nat,days=(D:Int):=⟨days.toNat,zo⟩
 obtain⟨T,hT⟩:∃T:Nat→Nat→Int,T=fun(d:Nat)=>stk (⟨D,most,gA,ng,gc,g,mA,nm,mc,m,cA,nc,cc,c⟩:Bk) ⟨hf,hmm,lies⟩ d nm:=⟨_,rfl⟩
 obtain⟨L,hL⟩:∃L,L=Ee (⟨D,most,gA,ng,gc,g,mA,nm,mc,m,cA,nc,cc,c⟩:Bk) ⟨hf,hmm,lies⟩:=⟨_,rfl⟩
 have hL0:L 0=hf:=by rw[hL];rfl
 have oY:∀k q,L (k+1) q=min (L k q) (T k q):=fun k q=>by rw[hL,hT];rfl
 have hTe:∀d:Nat,stk (⟨D,most,gA,ng,gc,g,mA,nm,mc,m,cA,nc,cc,c⟩:Bk) ⟨hf,hmm,lies⟩ d nm=T d:=fun d=>by rw[hT]
 simp only[hTe] at hSt
 rw[show(D:Int).toNat+1=D+1 by simp,← hL]
 clear hL hT hTe ok hok
 have HA:=hid hA
 have HSt:=hid hSt
 have QW:=hid oY
 clear hA hSt oY
 obtain⟨w4,hw4⟩:∃w4,w4=(((w.alloc (.cells #[int i64 D,int i64 most,.slice gA ng gc,.slice mA nm mc,.slice cA nc cc] 74)).alloc (.cells #[int i64 (hf 0),int i64 (hf 1),int i64 (hf 2),int i64 (hmm 0),int i64 (hmm 1),int i64 (hmm 2),int i64 (hmm 3),int i64 (hmm 4),int i64 (hmm 5),int i64 lies] 88)).alloc (.cells #[int i64 0,int i64 0,int i64 0] 85)).alloc (.cells #[int i64 (hf 0),int i64 (hf 1),int i64 (hf 2)] 85):=⟨_,rfl⟩
 have W0:Hid (Whole w4 w.heap.size 74 #[int i64 D,int i64 most,.slice gA ng gc,.slice mA nm mc,.slice cA nc cc]):=hid (by rw[hw4];exact(((Whole.new w _ _).alloc _).alloc _).alloc _)
 have W1:Hid (Whole w4 (w.heap.size+1) 88 #[int i64 (hf 0),int i64 (hf 1),int i64 (hf 2),int i64 (hmm 0),int i64 (hmm 1),int i64 (hmm 2),int i64 (hmm 3),int i64 (hmm 4),int i64 (hmm 5),int i64 lies]):=hid (by
  have:=((Whole.new (w.alloc (.cells #[int i64 D,int i64 most,.slice gA ng gc,.slice mA nm mc,.slice cA nc cc] 74)) 88 #[int i64 (hf 0),int i64 (hf 1),int i64 (hf 2),int i64 (hmm 0),int i64 (hmm 1),int i64 (hmm 2),int i64 (hmm 3),int i64 (hmm 4),int i64 (hmm 5),int i64 lies]).alloc (.cells #[int i64 0,int i64 0,int i64 0] 85)).alloc (.cells #[int i64 (hf 0),int i64 (hf 1),int i64 (hf 2)] 85)
  rw[World.size_alloc] at this;rw[hw4];exact this)
 have W2:Hid (Whole w4 (w.heap.size+1+1) 85 #[int i64 0,int i64 0,int i64 0]):=hid (by
  have:=(Whole.new ((w.alloc (.cells #[int i64 D,int i64 most,.slice gA ng gc,.slice mA nm mc,.slice cA nc cc] 74)).alloc (.cells #[int i64 (hf 0),int i64 (hf 1),int i64 (hf 2),int i64 (hmm 0),int i64 (hmm 1),int i64 (hmm 2),int i64 (hmm 3),int i64 (hmm 4),int i64 (hmm 5),int i64 lies] 88)) 85 #[int i64 0,int i64 0,int i64 0]).alloc (.cells #[int i64 (hf 0),int i64 (hf 1),int i64 (hf 2)] 85)
  rw[World.size_alloc,World.size_alloc] at this;rw[hw4];exact this)
 have W3:Hid (Whole w4 (w.heap.size+1+1+1) 85 #[int i64 (L 0 0),int i64 (L 0 1),int i64 (L 0 2)]):=hid (by
  have:=Whole.new (((w.alloc (.cells #[int i64 D,int i64 most,.slice gA ng gc,.slice mA nm mc,.slice cA nc cc] 74)).alloc (.cells #[int i64 (hf 0),int i64 (hf 1),int i64 (hf 2),int i64 (hmm 0),int i64 (hmm 1),int i64 (hmm 2),int i64 (hmm 3),int i64 (hmm 4),int i64 (hmm 5),int i64 lies] 88)).alloc (.cells #[int i64 0,int i64 0,int i64 0] 85)) 85 #[int i64 (hf 0),int i64 (hf 1),int i64 (hf 2)]
  rw[World.size_alloc,World.size_alloc,World.size_alloc] at this;rw[hw4,hL0];exact this)
 have WB:Hid (Below w.heap.size w w4):=hid (by rw[hw4];exact bw)
 have nb:=hid hw4
 clear hw4 hL0
 have eD:wrap64 ((D:Int)+1)=(D:Int)+1:=IntWalk.wrap64_in _ zo
 gi_enter func53,ntmps53
 gi_wp2
 rw[← nb.out]
 try rw[eD]
 clear nb eD
 gi_loopw [15] (fun i wr=>∃k:Nat,k≤D+1∧i=int i64 k∧Hid (Whole wr w.heap.size 74 #[int i64 D,int i64 most,.slice gA ng gc,.slice mA nm mc,.slice cA nc cc]∧Whole wr (w.heap.size+1) 88 #[int i64 (hf 0),int i64 (hf 1),int i64 (hf 2),int i64 (hmm 0),int i64 (hmm 1),int i64 (hmm 2),int i64 (hmm 3),int i64 (hmm 4),int i64 (hmm 5),int i64 lies]∧Whole wr (w.heap.size+1+1) 85 #[int i64 0,int i64 0,int i64 0]∧Whole wr (w.heap.size+1+1+1) 85 #[int i64 (L k 0),int i64 (L k 1),int i64 (L k 2)]∧Below w.heap.size w wr)) (fun i _=>D+1 - (intOf i).toNat)
 case atStart=>exact⟨0,Nat.zero_le _,rfl,hid ⟨W0.out,W1.out,W2.out,W3.out,WB.out⟩⟩
 case round=>
  obtain⟨k,hk,rfl,hR⟩:=hrel
  clear W0 W1 W2 W3 WB
  have q0:=hR.out.1.cell
  have q1:=hR.out.2.1.cell
  have hs3:=hR.out.2.2.2.1.lt
  by_cases hlt:k<D+1
  ·have hdd:decide ((k:Int)<(D:Int)+1)=true:=decide_eq_true zo
   obtain⟨wo,rfl⟩:∃wo:World,wo=wr:=⟨_,rfl⟩
   have hsz:w.heap.size≤wo.heap.size:=zo
   gi_wp2_with (gi_at_call 42;refine(HSt.out k _ ((HA.out.below hR.out.2.2.2.2).more hsz)).mono ?_;rintro e w2 ⟨rfl,hb2⟩;have HB2:Hid (Below wo.heap.size wo w2):=hid hb2;clear hb2)
   have V3:=hid (hR.out.2.2.2.1.below HB2.out hs3)
   have WI:∀w,(Instr.index 85 (.agg #[int i64 (T k 0),int i64 (T k 1),int i64 (T k 2)]) (int i64 0)).run prog w=.ok (int i64 (T k 0)) w:=fun _=>zk
   have aar:∀w,(Instr.index 85 (.agg #[int i64 (T k 0),int i64 (T k 1),int i64 (T k 2)]) (int i64 1)).run prog w=.ok (int i64 (T k 1)) w:=fun _=>zk
   have aas:∀w,(Instr.index 85 (.agg #[int i64 (T k 0),int i64 (T k 1),int i64 (T k 2)]) (int i64 2)).run prog w=.ok (int i64 (T k 2)) w:=fun _=>zk
   gi_loopw [22] (fun j wj=>∃q:Nat,q≤3∧j=int i64 q∧Hid (Below (w.heap.size+1+1+1) w2 wj∧Whole wj (w.heap.size+1+1+1) 85 #[int i64 (if 0<q then L (k+1) 0 else L k 0),int i64 (if 1<q then L (k+1) 1 else L k 1),int i64 (if 2<q then L (k+1) 2 else L k 2)])) (fun j _=>3 - (intOf j).toNat)
   case atStart=>exact⟨0,zo,rfl,hid ⟨Below.refl _ _,V3.out⟩⟩
   case round=>
    obtain⟨q,hq,rfl,hS⟩:=hrel
    have hsw:=hS.out.2.lt
    by_cases hq3:q<3
    ·rcases(show q=0∨q=1∨q=2 by omega) with rfl|rfl|rfl
     ·have x0:wr.cell? ⟨w.heap.size+1+1+1,0,none⟩=some (int i64 (L k 0)):=hS.out.2.cell 0
      have xf:=hS.out.2.thaw 0
      have e:=QW.out k 0
      have E:=hid e
      clear e
      gi_wp2
      exact⟨⟨0+1,zo,by go_num,hid ⟨hS.out.1.setCell (p:=⟨w.heap.size+1+1+1,0,none⟩) (Nat.le_refl _) _,by have:=hS.out.2.set 0 (int i64 (min (L k 0) (T k 0)));rw[← E.out] at this⊢;exact this⟩⟩,by simp[intOf]⟩
     ·have x0:wr.cell? ⟨w.heap.size+1+1+1,1,none⟩=some (int i64 (L k 1)):=hS.out.2.cell 1
      have xf:=hS.out.2.thaw 1
      have e:=QW.out k 1
      have E:=hid e
      clear e
      gi_wp2
      exact⟨⟨1+1,zo,by go_num,hid ⟨hS.out.1.setCell (p:=⟨w.heap.size+1+1+1,1,none⟩) (Nat.le_refl _) _,by have:=hS.out.2.set 1 (int i64 (min (L k 1) (T k 1)));rw[← E.out] at this⊢;exact this⟩⟩,by simp[intOf]⟩
     ·have x0:wr.cell? ⟨w.heap.size+1+1+1,2,none⟩=some (int i64 (L k 2)):=hS.out.2.cell 2
      have xf:=hS.out.2.thaw 2
      have e:=QW.out k 2
      have E:=hid e
      clear e
      gi_wp2
      exact⟨⟨2+1,zo,by go_num,hid ⟨hS.out.1.setCell (p:=⟨w.heap.size+1+1+1,2,none⟩) (Nat.le_refl _) _,by have:=hS.out.2.set 2 (int i64 (min (L k 2) (T k 2)));rw[← E.out] at this⊢;exact this⟩⟩,by simp[intOf]⟩
    ·obtain rfl:q=3:=zo
     gi_wp2
     have Wl:Below w.heap.size w wr:=hR.out.2.2.2.2.trans ((HB2.out.mono hsz).trans (hS.out.1.mono zo))
     exact⟨⟨k+1,zo,by go_num,hid ⟨(hR.out.1.below HB2.out zo).below hS.out.1 zo,(hR.out.2.1.below HB2.out zo).below hS.out.1 zo,(hR.out.2.2.1.below HB2.out zo).below hS.out.1 zo,hS.out.2,Wl⟩⟩,by simp[intOf];omega⟩
  ·obtain rfl:k=D+1:=zo
   have hdd:decide (((D+1:Nat):Int)<(D:Int)+1)=false:=decide_eq_false zo
   have q3:=hR.out.2.2.2.1.cell
   have q2:=hR.out.2.2.1.cell
   have Kf:=hR.out.2.2.1.thaw
   gi_wp2
   have U:=(hR.out.2.2.1.iG (x:=int i64 (L (D+1) 0)) (y:=int i64 (L (D+1) 1)) (z:=int i64 (L (D+1) 2)))
   have u0:=U.cell 0
   have u1:=U.cell 1
   have u2:=U.cell 2
   clear q3 q2 Kf
   refine bodyPost_ret (v:=.agg #[int i64 (L (D+1) 0),int i64 (L (D+1) 1),int i64 (L (D+1) 2)]) (by simp[results,results53,go_sem,u0,u1,u2]) rfl ⟨rfl,aC hR.out.2.2.2.2 zo⟩
end
section
open Go.RowKit
open Go.Sort (grow)
def eu(b:Bk)(k:Nat):Int:=if 0<k then(b.m (k - 1)).day else 0
def fK(b:Bk)(k:Nat):Int:=if k<b.nm then(b.m k).day - 1 else b.days
theorem Zv(a b n:Int)(w:World):CallsIn SF 0 prog 91 #[.agg #[int i64 a,int i64 b],int i64 n] w fun e w'=>e=.returned (.bool (fU n a b))∧Below w.heap.size w w':=by
 gi_enter func91,ntmps91
 gi_wp2_with (gi_at_call 35;refine(W.dh _ _ _ _).mono ?_;rintro e w' ⟨rfl,rfl⟩)
 go_ret
 exact⟨rfl,bw⟩
theorem si(x y z:Int)(B:Nat)(w:World)(h:Whole w B 85 #[int i64 x,int i64 y,int i64 z]):CallsIn SF 0 prog 129 #[.slice (some ⟨B,0,none⟩) 3 3] w fun e w'=>e=.returned (int i64 (min x (min y z)))∧Below w.heap.size w w':=by
 have c0:w.cell? ⟨B,0,none⟩=some (int i64 x):=h.cell 0
 have c1:w.cell? ⟨B,1,none⟩=some (int i64 y):=h.cell 1
 have c2:w.cell? ⟨B,2,none⟩=some (int i64 z):=h.cell 2
 clear h
 gi_enter func129,ntmps129
 gi_wp2
 refine wpIn_loop_rounds 4 ?_
 repeat (rw[roundsIn_succ];gi_wp2)
 all_goals first
  | (go_ret;exact⟨rfl,Below.refl _ _⟩)
  | trace_state
theorem Cv(b:Bk)(k:Nat)(w:World)(h:b.At w w.heap.size)(hk:k≤b.nm)(hn:b.nm≤6)(hd:∀i,i<b.nm→1≤(b.m i).day∧(b.m i).day≤1000):CallsIn SF 0 prog 104 #[b.val,int i64 k] w fun e w'=>e=.returned (.agg #[int i64 (eu b k),int i64 (fK b k)])∧Below w.heap.size w w':=by
 obtain⟨days,most,gA,ng,gc,g,mA,nm,mc,m,cA,nc,cc,c⟩:=b
 simp only at hk hn hd
 simp only[Bk.val,Bk.cells]
 obtain⟨lo,hlo⟩:∃lo,lo=eu (⟨days,most,gA,ng,gc,g,mA,nm,mc,m,cA,nc,cc,c⟩:Bk) k:=⟨_,rfl⟩
 obtain⟨hi,hhi⟩:∃hi,hi=fK (⟨days,most,gA,ng,gc,g,mA,nm,mc,m,cA,nc,cc,c⟩:Bk) k:=⟨_,rfl⟩
 rw[← hlo,← hhi]
 unfold eu at hlo
 unfold fK at hhi
 simp only at hlo hhi
 have row:∀i,i<nm→∃ad,mA=some ad∧(ad.add (i * 5)).block<w.heap.size∧w.cell? ⟨(ad.add (i * 5)).block,(ad.add (i * 5)).off+2,none⟩=some (int i64 (m i).day):=fun i hi=>by
  obtain⟨ad,hA',hbl,-⟩:=h.m (show 0<nm by omega)
  simp only at hA'
  subst hA'
  exact⟨ad,rfl,(by rw[aH];exact(h.m.row hi).1),(h.m.row hi).2 2 zD⟩
 have Row:=hid row
 clear row h
 have X:Hid (∀ (mA:Option Addr),Below w.heap.size w (((w.alloc (.cells #[int i64 days,int i64 most,.slice gA ng gc,.slice mA nm mc,.slice cA nc cc] 74)).alloc (.cells #[int i64 0,int i64 0] 38)).alloc (.cells #[int i64 0,int i64 days] 38))):=hid fun mA=>bw
 by_cases h0:0<k
 ·have hd0:decide (0<(k:Int))=true:=zm
  rw[if_pos h0] at hlo
  obtain⟨ad,rfl,rb,r1⟩:=Row.out (k - 1) zo
  have s1:=((X.out (some ad)).cell (p:=⟨(ad.add ((k - 1) * 5)).block,(ad.add ((k - 1) * 5)).off+2,none⟩) rb).trans r1
  rw[← hlo] at s1
  have e2:0≤(k:Int) - 1:=zo
  have e2':1≤(k:Int):=zo
  have e4:(k:Int) - 1<nm:=zo
  have e3:((k:Int) - 1).toNat=k - 1:=zo
  have e1:IntKind.i64.wrap ((k:Int) - 1)=(k:Int) - 1:=IntWalk.i64_in _ zo
  by_cases hkn:k<nm
  ·have hd1:decide ((k:Int)<(nm:Int))=true:=decide_eq_true zo
   rw[if_pos hkn] at hhi
   obtain⟨B5,ha,Ks,r2⟩:=Row.out k hkn
   cases ha
   have s2:=(((bw:Below w.heap.size w (((w.alloc (.cells #[int i64 days,int i64 most,.slice gA ng gc,.slice (some ad) nm mc,.slice cA nc cc] 74)).alloc (.cells #[int i64 0,int i64 0] 38)).alloc (.cells #[int i64 lo,int i64 days] 38))).cell (p:=⟨(ad.add (k * 5)).block,(ad.add (k * 5)).off+2,none⟩) Ks).trans r2)
   obtain⟨dk,hdk⟩:∃dk,dk=(m k).day:=⟨_,rfl⟩
   have dC:=hd k hkn
   rw[← hdk] at s2 hhi dC
   have e5:wrap64 (dk - 1)=dk - 1:=IntWalk.wrap64_in _ zo
   subst hhi
   clear hlo r1 r2 hdk
   gi_enter func104,ntmps104
   gi_wp2
   refine bodyPost_ret (v:=.agg #[int i64 lo,int i64 (dk - 1)]) (by simp[results,results104,go_sem]) rfl ⟨rfl,bw⟩
  ·have hd1:decide ((k:Int)<(nm:Int))=false:=decide_eq_false zo
   rw[if_neg hkn] at hhi
   subst hhi
   clear hlo r1
   gi_enter func104,ntmps104
   gi_wp2
   refine bodyPost_ret (v:=.agg #[int i64 lo,int i64 hi]) (by simp[results,results104,go_sem]) rfl ⟨rfl,bw⟩
 ·obtain rfl:k=0:=zo
  rw[if_neg h0] at hlo
  subst hlo
  by_cases hkn:0<nm
  ·have hd1:decide (((0:Nat):Int)<(nm:Int))=true:=decide_eq_true zo
   have hd2:decide ((0:Int)<(nm:Int))=true:=decide_eq_true zo
   rw[if_pos hkn] at hhi
   obtain⟨ad,rfl,Ks,r2⟩:=Row.out 0 hkn
   have s2:=((X.out (some ad)).cell (p:=⟨(ad.add (0 * 5)).block,(ad.add (0 * 5)).off+2,none⟩) Ks).trans r2
   have s2':(((w.alloc (.cells #[int i64 days,int i64 most,.slice gA ng gc,.slice (some ad) nm mc,.slice cA nc cc] 74)).alloc (.cells #[int i64 0,int i64 0] 38)).alloc (.cells #[int i64 0,int i64 days] 38)).cell? ⟨ad.block,ad.off+2,none⟩=some (int i64 (m 0).day):=by simpa [add_zero'] using s2
   obtain⟨dk,hdk⟩:∃dk,dk=(m 0).day:=⟨_,rfl⟩
   have dC:=hd 0 hkn
   rw[← hdk] at s2' hhi dC
   have e5:wrap64 (dk - 1)=dk - 1:=IntWalk.wrap64_in _ zo
   subst hhi
   clear r2 s2 hdk
   gi_enter func104,ntmps104
   gi_wp2
   refine bodyPost_ret (v:=.agg #[int i64 0,int i64 (dk - 1)]) (by simp[results,results104,go_sem]) rfl ⟨rfl,bw⟩
  ·obtain rfl:nm=0:=zo
   rw[if_neg hkn] at hhi
   subst hhi
   gi_enter func104,ntmps104
   gi_wp2
   refine bodyPost_ret (v:=.agg #[int i64 0,int i64 hi]) (by simp[results,results104,go_sem]) rfl ⟨rfl,bw⟩
def Ac(b:Bk)(s:Nat→Int)(lo hi:Int)(i:Nat):Bool:=!(fU (b.c i).day lo hi) || fU (s (b.c i).good.toNat) (b.c i).lo (b.c i).hi
def iF(b:Bk)(s:Nat→Int)(lo hi:Int):Bool:=decide (hi<lo) || ((List.range b.nc).all (Ac b s lo hi) && decide (0≤min (s 0) (min (s 1) (s 2))))
theorem BQ(b:Bk)(s:Nat→Int)(lo hi:Int)(w:World)(h:b.At w w.heap.size)(hn:b.nc≤4)(hg:∀i,i<b.nc→0≤(b.c i).good∧(b.c i).good≤2):
 CallsIn SF 0 prog 103 #[b.val,lY s,.agg #[int i64 lo,int i64 hi]] w fun e w'=>e=.returned (.bool (iF b s lo hi))∧Below w.heap.size w w':=by
 obtain⟨days,most,gA,ng,gc,g,mA,nm,mc,m,cA,nc,cc,c⟩:=b
 simp only at hn hg
 simp only[Bk.val,Bk.cells,lY]
 obtain⟨z0,hz0⟩:∃z,z=s 0:=⟨_,rfl⟩
 obtain⟨z1,hz1⟩:∃z,z=s 1:=⟨_,rfl⟩
 obtain⟨z2,hz2⟩:∃z,z=s 2:=⟨_,rfl⟩
 have Z0:=hid hz0
 have Z1:=hid hz1
 have Z2:=hid hz2
 rw[← hz0,← hz1,← hz2]
 clear hz0 hz1 hz2
 by_cases hlh:hi<lo
 ·have hd:decide (hi<lo)=true:=decide_eq_true hlh
  have hr:iF (⟨days,most,gA,ng,gc,g,mA,nm,mc,m,cA,nc,cc,c⟩:Bk) s lo hi=true:=by unfold iF;rw[hd];rfl
  rw[hr]
  gi_enter func103,ntmps103
  gi_wp2
  go_ret
  exact⟨rfl,bw⟩
 ·have hd:decide (hi<lo)=false:=decide_eq_false hlh
  have hr:iF (⟨days,most,gA,ng,gc,g,mA,nm,mc,m,cA,nc,cc,c⟩:Bk) s lo hi=((List.range nc).all (Ac (⟨days,most,gA,ng,gc,g,mA,nm,mc,m,cA,nc,cc,c⟩:Bk) s lo hi) && decide (0≤min (s 0) (min (s 1) (s 2)))):=by unfold iF;rw[hd];rfl
  rw[hr]
  have Hh:=hid h
  clear h hr
  obtain⟨w3,hw3⟩:∃w3,w3=((w.alloc (.cells #[int i64 days,int i64 most,.slice gA ng gc,.slice mA nm mc,.slice cA nc cc] 74)).alloc (.cells #[int i64 z0,int i64 z1,int i64 z2] 85)).alloc (.cells #[int i64 lo,int i64 hi] 38):=⟨_,rfl⟩
  have W1:Hid (Whole w3 (w.heap.size+1) 85 #[int i64 z0,int i64 z1,int i64 z2]):=hid (by
   have:=(Whole.new (w.alloc (.cells #[int i64 days,int i64 most,.slice gA ng gc,.slice mA nm mc,.slice cA nc cc] 74)) 85 #[int i64 z0,int i64 z1,int i64 z2]).alloc (.cells #[int i64 lo,int i64 hi] 38)
   rw[World.size_alloc] at this;rw[hw3];exact this)
  have W2:Hid (Whole w3 (w.heap.size+1+1) 38 #[int i64 lo,int i64 hi]):=hid (by
   have:=Whole.new ((w.alloc (.cells #[int i64 days,int i64 most,.slice gA ng gc,.slice mA nm mc,.slice cA nc cc] 74)).alloc (.cells #[int i64 z0,int i64 z1,int i64 z2] 85)) 38 #[int i64 lo,int i64 hi]
   rw[World.size_alloc,World.size_alloc] at this;rw[hw3];exact this)
  have WB:Hid (Below w.heap.size w w3):=hid (by rw[hw3];exact bw)
  have ki:=hid hw3
  clear hw3
  gi_enter func103,ntmps103
  gi_wp2
  rw[← ki.out]
  clear ki
  gi_loopw [18] (fun i wr=>∃k:Nat,k≤nc∧i=int i64 k∧Hid ((∀i,i<k→Ac (⟨days,most,gA,ng,gc,g,mA,nm,mc,m,cA,nc,cc,c⟩:Bk) s lo hi i=true)∧Below w3.heap.size w3 wr)) (fun i _=>nc - (intOf i).toNat)
  case atStart=>exact⟨0,Nat.zero_le _,rfl,hid ⟨fun i hi=>absurd hi (Nat.not_lt_zero i),Below.refl _ _⟩⟩
  case round=>
   obtain⟨k,hk,rfl,hR⟩:=hrel
   have X1:=hid (W1.out.below hR.out.2 W1.out.lt)
   have X2:=hid (W2.out.below hR.out.2 W2.out.lt)
   have XB:=hid (WB.out.trans (hR.out.2.mono WB.out.size))
   by_cases hlt:k<nc
   ·obtain⟨wo,rfl⟩:∃wo:World,wo=wr:=⟨_,rfl⟩
    obtain⟨ad,hA',hbl,-⟩:=Hh.out.c (show 0<nc by omega)
    simp only at hA'
    subst hA'
    obtain⟨ck,hck⟩:∃ck,ck=c k:=⟨_,rfl⟩
    have hr:∀j,j<4→wo.cell? ((ad.add (k * 4)).add j)=some (ck.cell j):=by rw[hck];exact((Hh.out.c.below XB.out).row hlt).2
    have D5:=hg k hlt
    have hcn:Ac ⟨days,most,gA,ng,gc,g,mA,nm,mc,m,some ad,nc,cc,c⟩ s lo hi k=(!(fU ck.day lo hi) || fU (s ck.good.toNat) ck.lo ck.hi):=by rw[hck];rfl
    rw[← hck] at D5
    have Qf:=hid hcn
    clear hcn hck
    obtain⟨gd,dy,l,u⟩:=ck
    simp only at D5
    have c0:wo.cell? (ad.add (k * 4))=some (int i64 gd):=hr 0 zD
    have c1:wo.cell? ⟨(ad.add (k * 4)).block,(ad.add (k * 4)).off+1,none⟩=some (int i64 dy):=hr 1 zD
    have c2:wo.cell? ⟨(ad.add (k * 4)).block,(ad.add (k * 4)).off+2,none⟩=some (int i64 l):=hr 2 zD
    have c3:wo.cell? ⟨(ad.add (k * 4)).block,(ad.add (k * 4)).off+3,none⟩=some (int i64 u):=hr 3 zD
    clear hr
    gi_wp2
    obtain⟨w5,wZ⟩:∃w5,w5=wo.alloc (.cells #[int i64 gd,int i64 dy,int i64 l,int i64 u] 99):=⟨_,rfl⟩
    rw[← wZ]
    have Y0:Whole w5 wo.heap.size 99 #[int i64 gd,int i64 dy,int i64 l,int i64 u]:=by rw[wZ];exact Whole.new _ _ _
    have Y1:Whole w5 (w.heap.size+1) 85 #[int i64 z0,int i64 z1,int i64 z2]:=by rw[wZ];exact X1.out.alloc _
    have Y2:Whole w5 (w.heap.size+1+1) 38 #[int i64 lo,int i64 hi]:=by rw[wZ];exact X2.out.alloc _
    have YB:Hid (Below w3.heap.size w3 w5):=hid (by rw[wZ];exact hR.out.2.alloc hR.out.2.size _)
    have k0:=cell_regrown (Y0.cell 0)
    have k1:=cell_regrown (Y0.cell 1)
    have k2:=cell_regrown (Y0.cell 2)
    have k3:=cell_regrown (Y0.cell 3)
    have j0:=cell_regrown (Y1.cell 0)
    have j1:=cell_regrown (Y1.cell 1)
    have j2:=cell_regrown (Y1.cell 2)
    have i0:=cell_regrown (Y2.cell 0)
    have i1:=cell_regrown (Y2.cell 1)
    clear wZ Y0 Y1 Y2 c0 c1 c2 c3
    have cH:∀a b n d os,CallsIn SF 0 prog 91 #[.agg #[int i64 a,int i64 b],int i64 n] (grow (redrawn w5 d) os) fun e w''=>e=.returned (.bool (fU n a b))∧∃p:Regrown,w''=grow (redrawn w5 p.d) p.os:=fun a b n d os=>CallsIn.regrown_of (Zv a b n _)
    cases JK:fU dy lo hi with
    | false=>
      have hT:Ac ⟨days,most,gA,ng,gc,g,mA,nm,mc,m,some ad,nc,cc,c⟩ s lo hi k=true:=by rw[Qf.out,JK];rfl
      refine wpIn_region_quiet_below rfl zk zk ?_
      repeat (quiet_step_in (exact cH _ _ _ _ _))
      refine wpQuietIn_nil ?_
      rintro w' ⟨⟨dq,osq⟩,rfl⟩
      have bD:=below_regrown w5 dq osq
      clear k0 k1 k2 k3 j0 j1 j2 i0 i1 cH
      generalize grow (redrawn w5 dq) osq=w9 at bD⊢
      gi_wp2
      go_roundw
      case rel=>exact⟨k+1,zo,by go_num,hid ⟨eG hR.out.1 hT,YB.out.trans (bD.mono YB.out.size)⟩⟩
      case measure=>simp[intOf];omega
    | true=>
      obtain⟨sg,hsg⟩:∃sg,sg=s gd.toNat:=⟨_,rfl⟩
      have hT:Ac ⟨days,most,gA,ng,gc,g,mA,nm,mc,m,some ad,nc,cc,c⟩ s lo hi k=fU sg l u:=by rw[Qf.out,JK,hsg];rfl
      obtain⟨bs,hbs⟩:∃bs,bs=fU sg l u:=⟨_,rfl⟩
      rw[← hbs] at hT
      have HT:=hid hT
      replace hbs:=hbs.symm
      clear hT Qf
      have Hj:(gd=0∧sg=z0)∨(gd=1∧sg=z1)∨(gd=2∧sg=z2):=by
       rcases(show gd=0∨gd=1∨gd=2 by omega) with rfl|rfl|rfl
       ·exact .inl ⟨rfl,by rw[hsg,Z0.out];rfl⟩
       ·exact .inr (.inl ⟨rfl,by rw[hsg,Z1.out];rfl⟩)
       ·exact .inr (.inr ⟨rfl,by rw[hsg,Z2.out];rfl⟩)
      clear hsg D5
      rcases Hj with⟨rfl,rfl⟩|⟨rfl,rfl⟩|⟨rfl,rfl⟩
      all_goals cases bs
      all_goals
       refine wpIn_region_quiet_below rfl zk zk ?_
       repeat (quiet_step_in (exact cH _ _ _ _ _))
       refine wpQuietIn_nil ?_
       rintro w' ⟨⟨dq,osq⟩,rfl⟩
       have bD:=below_regrown w5 dq osq
       clear k0 k1 k2 k3 j0 j1 j2 i0 i1 cH
       generalize grow (redrawn w5 dq) osq=w9 at bD⊢
       have tZ:=hid bD
       clear bD
       gi_wp2
       first
        | (go_roundw
           case rel=>exact⟨k+1,zo,by go_num,hid ⟨eG hR.out.1 HT.out,YB.out.trans (tZ.out.mono YB.out.size)⟩⟩
           case measure=>simp[intOf];omega)
        | (go_ret
           refine⟨?_,(WB.out.trans ((YB.out.trans (tZ.out.mono YB.out.size)).mono WB.out.size))⟩
           have hf:(List.range nc).all (Ac ⟨days,most,gA,ng,gc,g,mA,nm,mc,m,some ad,nc,cc,c⟩ s lo hi)=false:=by
            rw[List.all_eq_false]
            exact⟨k,List.mem_range.2 hlt,by rw[HT.out];decide⟩
           rw[hf];rfl)
   ·obtain rfl:k=nc:=zo
    have cM:=si z0 z1 z2 (w.heap.size+1) wr X1.out
    have hall:(List.range k).all (Ac (⟨days,most,gA,ng,gc,g,mA,nm,mc,m,cA,k,cc,c⟩:Bk) s lo hi)=true:=List.all_eq_true.2 fun i hi=>hR.out.1 i (List.mem_range.1 hi)
    have CM:=hid cM
    have HA:=hid hall
    clear cM hall
    gi_wp2_with (gi_at_call 129;refine CM.out.mono ?_;rintro e w8 ⟨rfl,LW⟩)
    go_ret
    exact⟨by rw[HA.out,← Z0.out,← Z1.out,← Z2.out];simp,XB.out.trans (LW.mono XB.out.size)⟩
def dN(s:Nat):Prop:=s<64
def pop(s:Nat):Int:=(((List.range 6).filter fun k=>s / 2 ^ k % 2 == 1).length:Nat)
theorem OI:∃R:Int→Int,(∀ (x:Int) (w:World),0≤x∧x<64→CallsIn SF 0 prog 128 #[.int .u64 x] w fun e w'=>e=.returned (int i64 (R x))∧Below w.heap.size w w')∧∀s,s<64→R (s:Nat)=pop s:=by
 refine⟨?R,fun x w hx=>?a,?b⟩
 case a=>
  gi_enter func128,ntmps128
  gi_wp2
  go_ret
  refine⟨?_,Below.refl _ _⟩
  simp
  rfl
 case b=>
  refine of_decide_eq_true ?_
  kernel_rfl
theorem TA(s:Nat)(h:dN s)(w:World):CallsIn SF 0 prog 128 #[.int .u64 s] w fun e w'=>e=.returned (int i64 (pop s))∧Below w.heap.size w w':=by
 obtain⟨R,h1,h2⟩:=OI
 unfold dN at h
 rw[← h2 s h]
 exact h1 s w zo
theorem fv(s:Nat)(h:dN s)(w:World):CallsIn SF 0 prog 100 #[.int .u64 s] w fun e w'=>e=.returned (int i64 (pop s))∧Below w.heap.size w w':=by
 have H:=fun w=>TA s h w
 gi_enter func100,ntmps100
 gi_wp2_with (gi_at_call 128;refine(H _).mono ?_;rintro e w2 ⟨rfl,hb2⟩)
 go_ret
 exact⟨rfl,hb2⟩
theorem RD(b:Bk)(s:Nat)(h:dN s)(w:World):CallsIn SF 0 prog 77 #[b.val,int i64 s] w fun e w'=>e=.returned (.bool (decide (pop s≤b.most)))∧Below w.heap.size w w':=by
 obtain⟨days,most,gA,ng,gc,g,mA,nm,mc,m,cA,nc,cc,c⟩:=b
 simp only[Bk.val,Bk.cells]
 obtain⟨w1,hw1⟩:∃w1,w1=w.alloc (.cells #[int i64 days,int i64 most,.slice gA ng gc,.slice mA nm mc,.slice cA nc cc] 74):=⟨_,rfl⟩
 have W0:Whole w1 w.heap.size 74 #[int i64 days,int i64 most,.slice gA ng gc,.slice mA nm mc,.slice cA nc cc]:=by rw[hw1];exact Whole.new _ _ _
 have WB:Below w.heap.size w w1:=by rw[hw1];exact bw
 have k1:=cell_regrown (W0.cell 1)
 have cH:∀d os,CallsIn SF 0 prog 100 #[.int .u64 s] (grow (redrawn w1 d) os) fun e w''=>e=.returned (int i64 (pop s))∧∃p:Regrown,w''=grow (redrawn w1 p.d) p.os:=fun d os=>CallsIn.regrown_of (fv s h _)
 have hs:s<64:=h
 have eU:IntKind.u64.wrap (s:Int)=s:=by
  have:∀s:Nat,s<64→IntKind.u64.wrap (s:Int)=s:=of_decide_eq_true zk
  exact this s hs
 have mX:=hid hw1
 clear hw1
 gi_enter func77,ntmps77
 gi_wp2
 rw[← mX.out]
 refine wpIn_region_quiet_below rfl zk zk ?_
 repeat (quiet_step_in (exact cH _ _))
 refine wpQuietIn_nil ?_
 rintro w' ⟨⟨dq,osq⟩,rfl⟩
 have bD:=below_regrown w1 dq osq
 clear k1 cH
 generalize grow (redrawn w1 dq) osq=w9 at bD⊢
 gi_wp2
 go_ret
 exact⟨by first|rfl|simp,WB.trans (bD.mono WB.size)⟩
end
end Go.Proofs.YthaelabgfnnebaaGreat
