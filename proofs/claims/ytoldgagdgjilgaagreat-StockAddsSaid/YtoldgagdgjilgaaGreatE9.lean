/- ST AD4 -/
import Derived.Test.YtoldgagdgjilgaaGreatE8
set_option maxRecDepth 100000
set_option maxHeartbeats 16000000
set_option linter.unusedVariables false
set_option linter.unusedSectionVars false
set_option linter.unusedSimpArgs false
open Go.IntKind(i64)
open Go.Lib(hid)
open Go.Proofs.Tryz
open Go.Value(int)
namespace Go.Proofs.YtoldgagdgjilgaaGreat
section
open Go Go.Conc Go.ConcN Go.bV Go.Conc.Lib Go.aM Go.RowKit
open Go.Sort (grow)
attribute [local go_sem] Oper.semAt_some
variable[Inhabited aS]
theorem gP(m:Int)(G M C:Nat):(Tb m G M C).val=.agg #[int i64 10,int i64 m,.slice (some ⟨G,0,none⟩) 2 2,.slice (some ⟨M,0,none⟩) 4 4,.slice (some ⟨C,0,none⟩) 2 2]:=rfl
structure Sk(w W:World)(B G M C:Nat):Prop where
 at_:(Tb 1 G M C).At W W.heap.size
 tb:TV W G M C
 box:Whole W B 26 #[int i64 10,int i64 1,.slice (some ⟨G,0,none⟩) 2 2,.slice (some ⟨M,0,none⟩) 4 4,.slice (some ⟨C,0,none⟩) 2 2]
 past:Below w.heap.size w W
theorem Sk.below{w W W':World}{B G M C:Nat}(h:Sk w W B G M C)(hb:Below W.heap.size W W'):Sk w W' B G M C:=
 ⟨h.at_.up hb,h.tb.of (fun b hl=>hb.block b hl),h.box.below hb h.box.lt,Below.next h.past hb⟩
section
variable{w:World}{B:Nat}{t:TypeId}{a b c d:Int}
theorem uQ(h:Whole w B t #[int i64 a]):Ints w w.heap.size (some ⟨B,0,none⟩) 1 (fun i=>[a].getD i 0):=bQ h fun i j hi hj=>by
 obtain rfl:i=0:=zo
 obtain rfl:j=0:=zo
 rfl
theorem qP(h:Whole w B t #[int i64 a,int i64 b]):Ints w w.heap.size (some ⟨B,0,none⟩) 2 (fun i=>[a,b].getD i 0):=bQ h fun i j hi hj=>by
 obtain rfl:j=0:=zo
 rcases(show i=0∨i=1 by omega) with rfl|rfl <;> rfl
theorem Vu(h:Whole w B t #[int i64 a,int i64 b,int i64 c,int i64 d]):Ints w w.heap.size (some ⟨B,0,none⟩) 4 (fun i=>[a,b,c,d].getD i 0):=bQ h fun i j hi hj=>by
 obtain rfl:j=0:=zo
 rcases(show i=0∨i=1∨i=2∨i=3 by omega) with rfl|rfl|rfl|rfl <;> rfl
theorem Ja(h:Whole w B t #[int i64 2,int i64 3]):Ints w w.heap.size (some ⟨B,0,none⟩) 2 rates:=bQ h fun i j hi hj=>by
 obtain rfl:j=0:=zo
 rcases(show i=0∨i=1 by omega) with rfl|rfl <;> rfl
end
theorem SV.set1{W:World}{v x:Value}{l:List Int}{B:Nat}{t:TypeId}{cs:Array Value}(h:SV W v l)(hB:Whole W B t cs)(hne:∀o,∃i,i<l.length∧cs[o+i]?≠some (int i64 (l.getD i 0))):SV (W.setCell ⟨B,1,none⟩ x) v l:=by
 obtain⟨A,p,rfl,hi⟩:=h
 refine⟨A,p,rfl,fun hn=>?_⟩
 obtain⟨ad,rfl,hlt,hc⟩:=hi hn
 have hs:(W.setCell ⟨B,1,none⟩ x).heap.size=W.heap.size:=by simp[World.setCell]
 have hb:ad.block≠B:=fun e=>by
  obtain⟨blk,off,spot⟩:=ad
  simp only at e
  subst e
  obtain⟨i,hil,hx⟩:=hne off
  have h1:=hc i 0 hil zD
  rw[Nat.mul_one,Nat.add_zero] at h1
  cases spot with
  | none=>
    have h2:(⟨blk,off,none⟩:Addr).add i=⟨blk,off+i,none⟩:=by unfold Addr.add;split <;> simp_all
    rw[h2,hB.cell] at h1
    exact hx h1
  | some s=>
    unfold Whole at hB
    have h2:=hc 0 0 hn zD
    rw[Nat.mul_one,Nat.add_zero] at h2
    have h3:(⟨blk,off,some s⟩:Addr).add 0=⟨blk,off,some s⟩:=by unfold Addr.add;simp
    rw[h3] at h2
    unfold World.cell? at h2
    simp only[hB] at h2
    simp at h2
 refine⟨ad,rfl,by rw[hs];exact hlt,fun i j hi hj=>?_⟩
 refine Eq.trans (World.cell?_of_block (Below.heap_setCell _ _ _ _ ?_)) (hc i j hi hj)
 rw[aJ]
 exact hb
def lT(w:World)(x:Value)(w':World):Prop:=x=.bool true∧Past w w'
theorem iN(w:World):iH 5 #[] w (lT w):=by
 have HE:=hid IQ
 refine jV func5 rfl zs ?_
 simp only[ntmps5,List.size_toArray,List.length_cons,List.length_nil,Nat.reduceAdd,Nat.reduceSub,Array.replicate_succ,Array.replicate_zero,List.push_toArray,List.append_toArray,List.nil_append,List.cons_append]
 repeat refine aj.seq ?_
 refine aj.item ?_
 gi_wp2
 repeat refine aj.seq ?_
 refine aj.item ?_
 gi_wp2_with (gi_at_call 10;refine(HE.out w).mono ?_;rintro e w1 ⟨G,M,C,rfl,hA1,hb1,hT1⟩;rw[gP])
 obtain⟨W2,hW2⟩:∃W,W=w1.alloc (.cells #[int i64 10,int i64 1,.slice (some ⟨G,0,none⟩) 2 2,.slice (some ⟨M,0,none⟩) 4 4,.slice (some ⟨C,0,none⟩) 2 2] 26):=⟨_,rfl⟩
 have b12:Below w1.heap.size w1 W2:=by rw[hW2];exact bw
 have K2:Hid (Sk w W2 w1.heap.size G M C):=hid ⟨hA1.up b12,hT1.of (fun b hl=>b12.block b hl),by rw[hW2];exact Whole.new _ _ _,Below.next hb1 b12⟩
 have HG:Hid (G<w1.heap.size∧M<w1.heap.size∧C<w1.heap.size):=hid ⟨hT1.1.lt,hT1.2.1.lt,hT1.2.2.lt⟩
 have HB:Hid (w.heap.size≤w1.heap.size):=hid hb1.size
 rw[← hW2]
 obtain⟨B,hB⟩:∃B,B=w1.heap.size:=⟨_,rfl⟩
 rw[← hB] at K2 HG HB⊢
 clear hW2 b12 hA1 hb1 hT1 hB
 have c0:W2.cell? ⟨B,0,none⟩=some (int i64 10):=K2.out.box.cell 0
 have c1:W2.cell? ⟨B,1,none⟩=some (int i64 1):=K2.out.box.cell 1
 have c2:W2.cell? ⟨B,2,none⟩=some (.slice (some ⟨G,0,none⟩) 2 2):=K2.out.box.cell 2
 have c3:W2.cell? ⟨B,3,none⟩=some (.slice (some ⟨M,0,none⟩) 4 4):=K2.out.box.cell 3
 have c4:W2.cell? ⟨B,4,none⟩=some (.slice (some ⟨C,0,none⟩) 2 2):=K2.out.box.cell 4
 repeat refine aj.seq ?_
 refine aj.item ?_
 obtain⟨Wa,hWa⟩:∃Wa,Wa=((W2.alloc (.cells #[int i64 3,int i64 5] 3)).alloc (.cells #[int i64 4,int i64 2,int i64 0,int i64 10] 3)).alloc (.cells #[int i64 3] 3):=⟨_,rfl⟩
 have ba:Below W2.heap.size W2 Wa:=by rw[hWa];exact bw
 have a1:Whole Wa W2.heap.size 3 #[int i64 3,int i64 5]:=by rw[hWa];exact((Whole.new W2 _ _).alloc _).alloc _
 have a2:Whole Wa (W2.heap.size+1) 3 #[int i64 4,int i64 2,int i64 0,int i64 10]:=by rw[hWa];exact(aO zs).alloc _
 have a3:Whole Wa (W2.heap.size+1+1) 3 #[int i64 3]:=by rw[hWa];exact aO zs
 have tB:=hid (cg G M C Wa (K2.out.at_.up ba) (some ⟨W2.heap.size,0,none⟩) (some ⟨W2.heap.size+1,0,none⟩) (some ⟨W2.heap.size+1+1,0,none⟩) 2 4 1 (qP a1) (Vu a2) (uQ a3))
 rw[gP] at tB
 have ij:=hid hWa
 have im:=hid ba
 clear hWa ba a1 a2 a3
 gi_wp2_with (gi_at_call 11;rw[← ij.out];refine tB.out.mono ?_;rintro e W3 ⟨vx,vy,rfl,sx,sy,hb3⟩)
 have OT:Below W2.heap.size W2 W3:=Below.next im.out hb3
 have K3:=hid (K2.out.below OT)
 have X3:=hid sx
 have Y3:=hid sy
 clear sx sy hb3 OT K2 tB ij im
 clear c0 c1 c2 c3 c4
 have c0:W3.cell? ⟨B,0,none⟩=some (int i64 10):=K3.out.box.cell 0
 have c1:W3.cell? ⟨B,1,none⟩=some (int i64 1):=K3.out.box.cell 1
 have c2:W3.cell? ⟨B,2,none⟩=some (.slice (some ⟨G,0,none⟩) 2 2):=K3.out.box.cell 2
 have c3:W3.cell? ⟨B,3,none⟩=some (.slice (some ⟨M,0,none⟩) 4 4):=K3.out.box.cell 3
 have c4:W3.cell? ⟨B,4,none⟩=some (.slice (some ⟨C,0,none⟩) 2 2):=K3.out.box.cell 4
 repeat refine aj.seq ?_
 refine aj.item ?_
 have HC:=hid (Z6 G M C W3 K3.out.at_)
 rw[gP] at HC
 gi_wp2_with (gi_at_call 12;refine HC.out.mono ?_;rintro e Wn ⟨rfl,hbn⟩)
 obtain⟨W4,hW⟩:∃W,W=Wn:=⟨_,rfl⟩
 subst hW
 have dh:=hbn
 have K4:=hid (K3.out.below dh)
 have X4:=hid (X3.out.below dh)
 have Y4:=hid (Y3.out.below dh)
 clear dh HC K3 X3 Y3
 clear c0 c1 c2 c3 c4
 have c0:W4.cell? ⟨B,0,none⟩=some (int i64 10):=K4.out.box.cell 0
 have c1:W4.cell? ⟨B,1,none⟩=some (int i64 1):=K4.out.box.cell 1
 have c2:W4.cell? ⟨B,2,none⟩=some (.slice (some ⟨G,0,none⟩) 2 2):=K4.out.box.cell 2
 have c3:W4.cell? ⟨B,3,none⟩=some (.slice (some ⟨M,0,none⟩) 4 4):=K4.out.box.cell 3
 have c4:W4.cell? ⟨B,4,none⟩=some (.slice (some ⟨C,0,none⟩) 2 2):=K4.out.box.cell 4
 repeat refine aj.seq ?_
 refine aj.item ?_
 have HC:=hid (bj G M C W4 K4.out.at_)
 rw[gP] at HC
 gi_wp2_with (gi_at_call 13;refine HC.out.mono ?_;rintro e Wn ⟨vu,rfl,su,hbn⟩)
 obtain⟨W5,hW⟩:∃W,W=Wn:=⟨_,rfl⟩
 subst hW
 have dh:=hbn
 have K5:=hid (K4.out.below dh)
 have X5:=hid (X4.out.below dh)
 have Y5:=hid (Y4.out.below dh)
 have U5:=hid su
 clear dh HC K4 X4 Y4 su
 clear c0 c1 c2 c3 c4
 have c0:W5.cell? ⟨B,0,none⟩=some (int i64 10):=K5.out.box.cell 0
 have c1:W5.cell? ⟨B,1,none⟩=some (int i64 1):=K5.out.box.cell 1
 have c2:W5.cell? ⟨B,2,none⟩=some (.slice (some ⟨G,0,none⟩) 2 2):=K5.out.box.cell 2
 have c3:W5.cell? ⟨B,3,none⟩=some (.slice (some ⟨M,0,none⟩) 4 4):=K5.out.box.cell 3
 have c4:W5.cell? ⟨B,4,none⟩=some (.slice (some ⟨C,0,none⟩) 2 2):=K5.out.box.cell 4
 repeat refine aj.seq ?_
 refine aj.item ?_
 have HC:=hid (ot G M C W5 K5.out.at_)
 rw[gP] at HC
 gi_wp2_with (gi_at_call 14;refine HC.out.mono ?_;rintro e Wn ⟨vv,rfl,sv,hbn⟩)
 obtain⟨W6,hW⟩:∃W,W=Wn:=⟨_,rfl⟩
 subst hW
 have dh:=hbn
 have K6:=hid (K5.out.below dh)
 have X6:=hid (X5.out.below dh)
 have Y6:=hid (Y5.out.below dh)
 have U6:=hid (U5.out.below dh)
 have V6:=hid sv
 clear dh HC K5 X5 Y5 U5 sv
 clear c0 c1 c2 c3 c4
 have c0:W6.cell? ⟨B,0,none⟩=some (int i64 10):=K6.out.box.cell 0
 have c1:W6.cell? ⟨B,1,none⟩=some (int i64 1):=K6.out.box.cell 1
 have c2:W6.cell? ⟨B,2,none⟩=some (.slice (some ⟨G,0,none⟩) 2 2):=K6.out.box.cell 2
 have c3:W6.cell? ⟨B,3,none⟩=some (.slice (some ⟨M,0,none⟩) 4 4):=K6.out.box.cell 3
 have c4:W6.cell? ⟨B,4,none⟩=some (.slice (some ⟨C,0,none⟩) 2 2):=K6.out.box.cell 4
 repeat refine aj.seq ?_
 refine aj.item ?_
 have HC:=hid (QE G M C W6 K6.out.at_)
 rw[gP] at HC
 gi_wp2_with (gi_at_call 15;refine HC.out.mono ?_;rintro e Wn ⟨rfl,hbn⟩)
 obtain⟨W7,hW⟩:∃W,W=Wn:=⟨_,rfl⟩
 subst hW
 have dh:=hbn
 have K7:=hid (K6.out.below dh)
 have X7:=hid (X6.out.below dh)
 have Y7:=hid (Y6.out.below dh)
 have U7:=hid (U6.out.below dh)
 have V7:=hid (V6.out.below dh)
 clear dh HC K6 X6 Y6 U6 V6
 clear c0 c1 c2 c3 c4
 have c0:W7.cell? ⟨B,0,none⟩=some (int i64 10):=K7.out.box.cell 0
 have c1:W7.cell? ⟨B,1,none⟩=some (int i64 1):=K7.out.box.cell 1
 have c2:W7.cell? ⟨B,2,none⟩=some (.slice (some ⟨G,0,none⟩) 2 2):=K7.out.box.cell 2
 have c3:W7.cell? ⟨B,3,none⟩=some (.slice (some ⟨M,0,none⟩) 4 4):=K7.out.box.cell 3
 have c4:W7.cell? ⟨B,4,none⟩=some (.slice (some ⟨C,0,none⟩) 2 2):=K7.out.box.cell 4
 repeat refine aj.seq ?_
 refine aj.item ?_
 have HC:=hid (QC G M C W7 K7.out.at_)
 rw[gP] at HC
 gi_wp2_with (gi_at_call 15;refine HC.out.mono ?_;rintro e Wn ⟨rfl,hbn⟩)
 obtain⟨W8,hW⟩:∃W,W=Wn:=⟨_,rfl⟩
 subst hW
 have dh:=hbn
 have K8:=hid (K7.out.below dh)
 have X8:=hid (X7.out.below dh)
 have Y8:=hid (Y7.out.below dh)
 have U8:=hid (U7.out.below dh)
 have V8:=hid (V7.out.below dh)
 clear dh HC K7 X7 Y7 U7 V7
 clear c0 c1 c2 c3 c4
 have c0:W8.cell? ⟨B,0,none⟩=some (int i64 10):=K8.out.box.cell 0
 have c1:W8.cell? ⟨B,1,none⟩=some (int i64 1):=K8.out.box.cell 1
 have c2:W8.cell? ⟨B,2,none⟩=some (.slice (some ⟨G,0,none⟩) 2 2):=K8.out.box.cell 2
 have c3:W8.cell? ⟨B,3,none⟩=some (.slice (some ⟨M,0,none⟩) 4 4):=K8.out.box.cell 3
 have c4:W8.cell? ⟨B,4,none⟩=some (.slice (some ⟨C,0,none⟩) 2 2):=K8.out.box.cell 4
 repeat refine aj.seq ?_
 refine aj.item ?_
 have HC:=hid (bm G M C W8 K8.out.at_)
 rw[gP] at HC
 gi_wp2_with (gi_at_call 6;refine HC.out.mono ?_;rintro e Wn ⟨rfl,hbn⟩)
 obtain⟨W9,hW⟩:∃W,W=Wn.alloc (.cells #[int i64 0,int i64 1] 30):=⟨_,rfl⟩
 have dh:Below W8.heap.size W8 W9:=by rw[hW];exact Below.al hbn _
 have qA:Hid (Whole W9 Wn.heap.size 30 #[int i64 0,int i64 1]):=hid (by rw[hW];exact Whole.new _ _ _)
 obtain⟨BA,nO⟩:∃B,B=Wn.heap.size:=⟨_,rfl⟩
 rw[← hW,← nO]
 rw[← nO] at qA
 have A9:=qA
 clear hW hbn nO qA
 have K9:=hid (K8.out.below dh)
 have X9:=hid (X8.out.below dh)
 have Y9:=hid (Y8.out.below dh)
 have U9:=hid (U8.out.below dh)
 have V9:=hid (V8.out.below dh)
 clear dh HC K8 X8 Y8 U8 V8
 clear c0 c1 c2 c3 c4
 have c0:W9.cell? ⟨B,0,none⟩=some (int i64 10):=K9.out.box.cell 0
 have c1:W9.cell? ⟨B,1,none⟩=some (int i64 1):=K9.out.box.cell 1
 have c2:W9.cell? ⟨B,2,none⟩=some (.slice (some ⟨G,0,none⟩) 2 2):=K9.out.box.cell 2
 have c3:W9.cell? ⟨B,3,none⟩=some (.slice (some ⟨M,0,none⟩) 4 4):=K9.out.box.cell 3
 have c4:W9.cell? ⟨B,4,none⟩=some (.slice (some ⟨C,0,none⟩) 2 2):=K9.out.box.cell 4
 repeat refine aj.seq ?_
 refine aj.item ?_
 have HC:=hid (XH G M C W9 K9.out.at_)
 rw[gP] at HC
 gi_wp2_with (gi_at_call 16;refine HC.out.mono ?_;rintro e Wn ⟨rfl,hbn⟩)
 obtain⟨TW,hW⟩:∃W,W=Wn.alloc (.cells #[int i64 30,int i64 35] 30):=⟨_,rfl⟩
 have dh:Below W9.heap.size W9 TW:=by rw[hW];exact Below.al hbn _
 have Cd:Hid (Whole TW Wn.heap.size 30 #[int i64 30,int i64 35]):=hid (by rw[hW];exact Whole.new _ _ _)
 obtain⟨D4,ZR⟩:∃B,B=Wn.heap.size:=⟨_,rfl⟩
 rw[← hW,← ZR]
 rw[← ZR] at Cd
 have Zt:=Cd
 clear hW hbn ZR Cd
 have XR:=hid (K9.out.below dh)
 have H5:=hid (X9.out.below dh)
 have Iv:=hid (Y9.out.below dh)
 have Ha:=hid (U9.out.below dh)
 have Hp:=hid (V9.out.below dh)
 have rN:=hid (A9.out.below dh A9.out.lt)
 clear dh HC K9 X9 Y9 U9 V9 A9
 clear c0 c1 c2 c3 c4
 have c0:TW.cell? ⟨B,0,none⟩=some (int i64 10):=XR.out.box.cell 0
 have c1:TW.cell? ⟨B,1,none⟩=some (int i64 1):=XR.out.box.cell 1
 have c2:TW.cell? ⟨B,2,none⟩=some (.slice (some ⟨G,0,none⟩) 2 2):=XR.out.box.cell 2
 have c3:TW.cell? ⟨B,3,none⟩=some (.slice (some ⟨M,0,none⟩) 4 4):=XR.out.box.cell 3
 have c4:TW.cell? ⟨B,4,none⟩=some (.slice (some ⟨C,0,none⟩) 2 2):=XR.out.box.cell 4
 repeat refine aj.seq ?_
 refine aj.item ?_
 have HC:=hid (Vx G M C TW XR.out.at_)
 rw[gP] at HC
 gi_wp2_with (gi_at_call 17;refine HC.out.mono ?_;rintro e Wn ⟨rfl,hbn⟩)
 obtain⟨Ej,hW⟩:∃W,W=Wn.alloc (.cells #[int i64 2,int i64 2] 30):=⟨_,rfl⟩
 have dh:Below TW.heap.size TW Ej:=by rw[hW];exact Below.al hbn _
 have qD:Hid (Whole Ej Wn.heap.size 30 #[int i64 2,int i64 2]):=hid (by rw[hW];exact Whole.new _ _ _)
 obtain⟨BD,wi⟩:∃B,B=Wn.heap.size:=⟨_,rfl⟩
 rw[← hW,← wi]
 rw[← wi] at qD
 have sr:=qD
 clear hW hbn wi qD
 have XT:=hid (XR.out.below dh)
 have Ic:=hid (H5.out.below dh)
 have qq:=hid (Iv.out.below dh)
 have Hd:=hid (Ha.out.below dh)
 have Hs:=hid (Hp.out.below dh)
 have rS:=hid (rN.out.below dh rN.out.lt)
 have Zu:=hid (Zt.out.below dh Zt.out.lt)
 clear dh HC XR H5 Iv Ha Hp rN Zt
 clear c0 c1 c2 c3 c4
 have c0:Ej.cell? ⟨B,0,none⟩=some (int i64 10):=XT.out.box.cell 0
 have c1:Ej.cell? ⟨B,1,none⟩=some (int i64 1):=XT.out.box.cell 1
 have c2:Ej.cell? ⟨B,2,none⟩=some (.slice (some ⟨G,0,none⟩) 2 2):=XT.out.box.cell 2
 have c3:Ej.cell? ⟨B,3,none⟩=some (.slice (some ⟨M,0,none⟩) 4 4):=XT.out.box.cell 3
 have c4:Ej.cell? ⟨B,4,none⟩=some (.slice (some ⟨C,0,none⟩) 2 2):=XT.out.box.cell 4
 repeat refine aj.seq ?_
 refine aj.item ?_
 obtain⟨Wa,hWa⟩:∃Wa,Wa=Ej.alloc (.cells #[int i64 2,int i64 3] 3):=⟨_,rfl⟩
 have ba:Below Ej.heap.size Ej Wa:=by rw[hWa];exact bw
 have a1:Whole Wa Ej.heap.size 3 #[int i64 2,int i64 3]:=by rw[hWa];exact Whole.new _ _ _
 have HC:=hid (jb G M C Wa (XT.out.at_.up ba) (some ⟨Ej.heap.size,0,none⟩) 2 (Ja a1))
 rw[gP] at HC
 have ij:=hid hWa
 have im:=hid ba
 clear hWa ba a1
 gi_wp2_with (gi_at_call 18;rw[← ij.out];refine HC.out.mono ?_;rintro e TY ⟨vp,rfl,sp,I4⟩)
 have dh:Below Ej.heap.size Ej TY:=Below.next im.out I4
 have XU:=hid (XT.out.below dh)
 have vk:=hid (Ic.out.below dh)
 have IA:=hid (qq.out.below dh)
 have Hi:=hid (Hd.out.below dh)
 have Hv:=hid (Hs.out.below dh)
 have sd:=hid (rS.out.below dh rS.out.lt)
 have Zv:=hid (Zu.out.below dh Zu.out.lt)
 have sz:=hid (sr.out.below dh sr.out.lt)
 have GS:=hid sp
 clear dh I4 sp HC ij im XT Ic qq Hd Hs rS Zu sr
 clear c0 c1 c2 c3 c4
 have c0:TY.cell? ⟨B,0,none⟩=some (int i64 10):=XU.out.box.cell 0
 have c1:TY.cell? ⟨B,1,none⟩=some (int i64 1):=XU.out.box.cell 1
 have c2:TY.cell? ⟨B,2,none⟩=some (.slice (some ⟨G,0,none⟩) 2 2):=XU.out.box.cell 2
 have c3:TY.cell? ⟨B,3,none⟩=some (.slice (some ⟨M,0,none⟩) 4 4):=XU.out.box.cell 3
 have c4:TY.cell? ⟨B,4,none⟩=some (.slice (some ⟨C,0,none⟩) 2 2):=XU.out.box.cell 4
 repeat refine aj.seq ?_
 refine aj.item ?_
 have HC:=hid (UA G M C TY XU.out.at_)
 rw[gP] at HC
 gi_wp2_with (gi_at_call 19;refine HC.out.mono ?_;rintro e Wn ⟨ve,rfl,se,hbn⟩)
 obtain⟨fj,hW⟩:∃W,W=Wn:=⟨_,rfl⟩
 subst hW
 have dh:=hbn
 have XV:=hid (XU.out.below dh)
 have H':=hid (vk.out.below dh)
 have ID:=hid (IA.out.below dh)
 have Hj:=hid (Hi.out.below dh)
 have i6:=hid (Hv.out.below dh)
 have sf:=hid (sd.out.below dh sd.out.lt)
 have Zw:=hid (Zv.out.below dh Zv.out.lt)
 have sA:=hid (sz.out.below dh sz.out.lt)
 have GW:=hid (GS.out.below dh)
 have Eg:=hid se
 clear dh HC XU vk IA Hi Hv sd Zv sz GS se
 clear c0 c1 c2 c3 c4
 have c0:fj.cell? ⟨B,0,none⟩=some (int i64 10):=XV.out.box.cell 0
 have c1:fj.cell? ⟨B,1,none⟩=some (int i64 1):=XV.out.box.cell 1
 have c2:fj.cell? ⟨B,2,none⟩=some (.slice (some ⟨G,0,none⟩) 2 2):=XV.out.box.cell 2
 have c3:fj.cell? ⟨B,3,none⟩=some (.slice (some ⟨M,0,none⟩) 4 4):=XV.out.box.cell 3
 have c4:fj.cell? ⟨B,4,none⟩=some (.slice (some ⟨C,0,none⟩) 2 2):=XV.out.box.cell 4
 repeat refine aj.seq ?_
 refine aj.item ?_
 have HC:=hid (NT G M C fj XV.out.at_)
 rw[gP] at HC
 gi_wp2_with (gi_at_call 20;refine HC.out.mono ?_;rintro e Wn ⟨rfl,hbn⟩)
 obtain⟨T9,hW⟩:∃W,W=Wn:=⟨_,rfl⟩
 subst hW
 have dh:=hbn
 have GM:=hid (XV.out.below dh)
 have Is:=hid (H'.out.below dh)
 have IF:=hid (ID.out.below dh)
 have Hk:=hid (Hj.out.below dh)
 have fi:=hid (i6.out.below dh)
 have si:=hid (sf.out.below dh sf.out.lt)
 have Zx:=hid (Zw.out.below dh Zw.out.lt)
 have sB:=hid (sA.out.below dh sA.out.lt)
 have G4:=hid (GW.out.below dh)
 have Ek:=hid (Eg.out.below dh)
 clear dh HC XV H' ID Hj i6 sf Zw sA GW Eg
 clear c0 c1 c2 c3 c4
 repeat refine aj.seq ?_
 refine aj.item ?_
 gi_wp2
 repeat refine aj.seq ?_
 refine aj.cond_false rfl ?_
 refine aj.skip ?_
 repeat refine aj.seq ?_
 refine aj.item ?_
 have qa0:∀d os,(grow (redrawn T9 d) os).cell? ⟨BA,0,none⟩=some (int i64 0):=cell_regrown (si.out.cell 0)
 have qa1:∀d os,(grow (redrawn T9 d) os).cell? ⟨BA,1,none⟩=some (int i64 1):=cell_regrown (si.out.cell 1)
 have qw0:∀d os,(grow (redrawn T9 d) os).cell? ⟨D4,0,none⟩=some (int i64 30):=cell_regrown (Zx.out.cell 0)
 have qw1:∀d os,(grow (redrawn T9 d) os).cell? ⟨D4,1,none⟩=some (int i64 35):=cell_regrown (Zx.out.cell 1)
 have qd0:∀d os,(grow (redrawn T9 d) os).cell? ⟨BD,0,none⟩=some (int i64 2):=cell_regrown (sB.out.cell 0)
 have qd1:∀d os,(grow (redrawn T9 d) os).cell? ⟨BD,1,none⟩=some (int i64 2):=cell_regrown (sB.out.cell 1)
 have IP:∀ (a b:Int) d os,CallsIn FF 0 prog 7 #[int i64 a,int i64 b] (grow (redrawn T9 d) os) fun e w''=>e=.returned (.agg #[int i64 a,int i64 b])∧∃p:Regrown,w''=grow (redrawn T9 p.d) p.os:=fun a b d os=>CallsIn.regrown_of (py a b _)
 gi_wp2
 refine wpIn_region_quiet_below rfl zk zk ?_
 repeat (quiet_step_in (exact IP _ _ _ _))
 refine wpQuietIn_nil ?_
 rintro w' ⟨⟨dq,osq⟩,rfl⟩
 have dh:=below_regrown T9 dq osq
 have xS:=hid (GM.out.below dh)
 have qn:=hid (Is.out.below dh)
 have qu:=hid (IF.out.below dh)
 have qf:=hid (Hk.out.below dh)
 have qi:=hid (fi.out.below dh)
 have qa:=hid (G4.out.below dh)
 have pL:=hid (Ek.out.below dh)
 clear dh GM Is IF Hk fi G4 Ek si Zx sB qa0 qa1 qw0 qw1 qd0 qd1 IP
 simp only at xS qn qu qf qi qa pL⊢
 generalize grow (redrawn T9 dq) osq=XY at xS qn qu qf qi qa pL⊢
 have c0:XY.cell? ⟨B,0,none⟩=some (int i64 10):=xS.out.box.cell 0
 have c1:XY.cell? ⟨B,1,none⟩=some (int i64 1):=xS.out.box.cell 1
 have c2:XY.cell? ⟨B,2,none⟩=some (.slice (some ⟨G,0,none⟩) 2 2):=xS.out.box.cell 2
 have c3:XY.cell? ⟨B,3,none⟩=some (.slice (some ⟨M,0,none⟩) 4 4):=xS.out.box.cell 3
 have c4:XY.cell? ⟨B,4,none⟩=some (.slice (some ⟨C,0,none⟩) 2 2):=xS.out.box.cell 4
 have f1:=xS.out.box.thaw
 show aj _ _ _ _ _
 repeat refine aj.seq ?_
 refine aj.cond_false rfl ?_
 refine aj.skip ?_
 repeat refine aj.seq ?_
 refine aj.item ?_
 gi_wp2
 obtain⟨Kk,rY⟩:∃W,W=XY.setCell ⟨B,1,none⟩ (int i64 0):=⟨_,rfl⟩
 have mS:Kk.heap.size=XY.heap.size:=by rw[rY];simp[World.setCell]
 have LW:Whole Kk B 26 #[int i64 10,int i64 0,.slice (some ⟨G,0,none⟩) 2 2,.slice (some ⟨M,0,none⟩) 4 4,.slice (some ⟨C,0,none⟩) 2 2]:=by rw[rY];exact xS.out.box.set 1 (int i64 0)
 have hne:∀ {q:Nat},q<B→q≠B:=fun h=>zo
 have kv:(Tb 0 G M C).At Kk Kk.heap.size:=by
  have hk:=xS.out.at_
  have no:∀ (q:Nat) (ad:Addr),some (⟨q,0,none⟩:Addr)=some ad→q<B→ad.block≠B:=fun q ad e hq=>by cases e;exact hne hq
  rw[mS,rY]
  exact⟨hk.g.bP (p:=⟨B,1,none⟩) (fun ad e _=>no G ad e HG.out.1) _,hk.m.bP (p:=⟨B,1,none⟩) (fun ad e _=>no M ad e HG.out.2.1) _,hk.c.bP (p:=⟨B,1,none⟩) (fun ad e _=>no C ad e HG.out.2.2) _,hk.ng,hk.nm,hk.nc,hk.name⟩
 have hT16:TV Kk G M C:=by rw[rY];exact⟨xS.out.tb.1.other (hne HG.out.1) _,xS.out.tb.2.1.other (hne HG.out.2.1) _,xS.out.tb.2.2.other (hne HG.out.2.2) _⟩
 have hB0:B<XY.heap.size:=xS.out.box.lt
 have ob:∀o,∃i,i<([5,5]:List Int).length∧(#[int i64 10,int i64 1,.slice (some ⟨G,0,none⟩) 2 2,.slice (some ⟨M,0,none⟩) 4 4,.slice (some ⟨C,0,none⟩) 2 2]:Array Value)[o+i]?≠some (int i64 (([5,5]:List Int).getD i 0)):=fun o=>by
  rcases o with _|_|_|_|_|o <;> exact⟨0,zD,zs⟩
 have It:=hid (by rw[rY];exact qn.out.set1 xS.out.box ob:SV Kk vx [5,5])
 clear ob
 have oc:∀o,∃i,i<([3,5]:List Int).length∧(#[int i64 10,int i64 1,.slice (some ⟨G,0,none⟩) 2 2,.slice (some ⟨M,0,none⟩) 4 4,.slice (some ⟨C,0,none⟩) 2 2]:Array Value)[o+i]?≠some (int i64 (([3,5]:List Int).getD i 0)):=fun o=>by
  rcases o with _|_|_|_|_|o <;> exact⟨0,zD,zs⟩
 have IH:=hid (by rw[rY];exact qu.out.set1 xS.out.box oc:SV Kk vy [3,5])
 clear oc
 have n8:∀o,∃i,i<([4,5]:List Int).length∧(#[int i64 10,int i64 1,.slice (some ⟨G,0,none⟩) 2 2,.slice (some ⟨M,0,none⟩) 4 4,.slice (some ⟨C,0,none⟩) 2 2]:Array Value)[o+i]?≠some (int i64 (([4,5]:List Int).getD i 0)):=fun o=>by
  rcases o with _|_|_|_|_|o <;> exact⟨0,zD,zs⟩
 have Hm:=hid (by rw[rY];exact qf.out.set1 xS.out.box n8:SV Kk vu [4,5])
 clear n8
 have oa:∀o,∃i,i<([0]:List Int).length∧(#[int i64 10,int i64 1,.slice (some ⟨G,0,none⟩) 2 2,.slice (some ⟨M,0,none⟩) 4 4,.slice (some ⟨C,0,none⟩) 2 2]:Array Value)[o+i]?≠some (int i64 (([0]:List Int).getD i 0)):=fun o=>by
  rcases o with _|_|_|_|_|o <;> exact⟨0,zD,zs⟩
 have HD:=hid (by rw[rY];exact qi.out.set1 xS.out.box oa:SV Kk vv [0])
 clear oa
 have n4:∀o,∃i,i<([1,1]:List Int).length∧(#[int i64 10,int i64 1,.slice (some ⟨G,0,none⟩) 2 2,.slice (some ⟨M,0,none⟩) 4 4,.slice (some ⟨C,0,none⟩) 2 2]:Array Value)[o+i]?≠some (int i64 (([1,1]:List Int).getD i 0)):=fun o=>by
  rcases o with _|_|_|_|_|o
  ·exact⟨0,zD,zs⟩
  ·exact⟨1,zD,zs⟩
  all_goals exact⟨0,zD,zs⟩
 have G':=hid (by rw[rY];exact qa.out.set1 xS.out.box n4:SV Kk vp [1,1])
 clear n4
 have nF:∀o,∃i,i<([3]:List Int).length∧(#[int i64 10,int i64 1,.slice (some ⟨G,0,none⟩) 2 2,.slice (some ⟨M,0,none⟩) 4 4,.slice (some ⟨C,0,none⟩) 2 2]:Array Value)[o+i]?≠some (int i64 (([3]:List Int).getD i 0)):=fun o=>by
  rcases o with _|_|_|_|_|o <;> exact⟨0,zD,zs⟩
 have Ex:=hid (by rw[rY];exact pL.out.set1 xS.out.box nF:SV Kk ve [3])
 clear nF
 have ia:Hid (Below w.heap.size w Kk):=hid (by rw[rY];exact xS.out.past.setCell HB.out _)
 have gw:=hid (yG G M C Kk hT16 kv)
 rw[gP] at gw
 have d0:=LW.cell 0
 have d1:=LW.cell 1
 have d2:=LW.cell 2
 have d3:=LW.cell 3
 have d4:=LW.cell 4
 rw[← rY]
 clear rY mS hne kv hT16 hB0 xS f1 c0 c1 c2 c3 c4 LW qn qu qf qi qa pL
 repeat refine aj.seq ?_
 refine aj.ig 1 zD ?_
 simp only[List.take_succ_cons,List.take_zero]
 gi_wp2
 refine fT rfl rfl rfl (enters_of func21 zk rfl) (Rc:=Pf Kk) (args:=#[.agg #[int i64 10,int i64 0,.slice (some ⟨G,0,none⟩) 2 2,.slice (some ⟨M,0,none⟩) 4 4,.slice (some ⟨C,0,none⟩) 2 2]]) (by simp only[List.map_toArray,List.map_cons,List.map_nil];rfl) gw.out ?_
 rintro x w4 ⟨vc,rfl,hown,hpast⟩
 have C4:Hid (SV w4 vc [1]):=hid (SV.own hown)
 have tz:Hid (Past w w4):=hid (Past.of ia.out hpast)
 have X4:=hid (It.out.past hpast)
 have Y4:=hid (IH.out.past hpast)
 have U4:=hid (Hm.out.past hpast)
 have V4:=hid (HD.out.past hpast)
 have P4:=hid (G'.out.past hpast)
 have E4:=hid (Ex.out.past hpast)
 clear hown hpast d0 d1 d2 d3 d4 gw ia It IH Hm HD G' Ex
 obtain⟨AX,pX,rfl,hX⟩:=X4.out
 obtain⟨AY,pY,rfl,hY⟩:=Y4.out
 obtain⟨AU,pU,rfl,hU⟩:=U4.out
 obtain⟨AV,pV,rfl,hV⟩:=V4.out
 obtain⟨AP,pP,rfl,hP⟩:=P4.out
 obtain⟨AE,pE,rfl,hE⟩:=E4.out
 obtain⟨AC,pC,rfl,hC⟩:=C4.out
 simp only[List.length_cons,List.length_nil,Nat.zero_add,Nat.reduceAdd] at hX hY hU hV hP hE hC
 obtain⟨Wc,hWc⟩:∃Wc,Wc=((((((((w4.alloc (.cells #[.slice AX 2 pX,.slice AY 2 pY,.slice AU 2 pU,.slice AV 1 pV,.slice AP 2 pP,.slice AE 1 pE,.slice AC 1 pC] 38)).alloc (.cells #[int i64 5,int i64 5] 3)).alloc (.cells #[int i64 3,int i64 5] 3)).alloc (.cells #[int i64 4,int i64 5] 3)).alloc (.cells #[int i64 0] 3)).alloc (.cells #[int i64 1,int i64 1] 3)).alloc (.cells #[int i64 3] 3)).alloc (.cells #[int i64 1] 3)).alloc (.cells #[.slice (some ⟨w4.heap.size+1,0,none⟩) 2 2,.slice (some ⟨w4.heap.size+1+1,0,none⟩) 2 2,.slice (some ⟨w4.heap.size+1+1+1,0,none⟩) 2 2,.slice (some ⟨w4.heap.size+1+1+1+1,0,none⟩) 1 1,.slice (some ⟨w4.heap.size+1+1+1+1+1,0,none⟩) 2 2,.slice (some ⟨w4.heap.size+1+1+1+1+1+1,0,none⟩) 1 1,.slice (some ⟨w4.heap.size+1+1+1+1+1+1+1,0,none⟩) 1 1] 38):=⟨_,rfl⟩
 have bc:Below w4.heap.size w4 Wc:=by rw[hWc];exact bw
 have r1:Whole Wc w4.heap.size 38 #[.slice AX 2 pX,.slice AY 2 pY,.slice AU 2 pU,.slice AV 1 pV,.slice AP 2 pP,.slice AE 1 pE,.slice AC 1 pC]:=by rw[hWc];exact((((((((Whole.new w4 _ _).alloc _).alloc _).alloc _).alloc _).alloc _).alloc _).alloc _).alloc _
 have s1:Whole Wc (w4.heap.size+1) 3 #[int i64 5,int i64 5]:=by rw[hWc];exact(((((((aO zs).alloc _).alloc _).alloc _).alloc _).alloc _).alloc _).alloc _
 have s2:Whole Wc (w4.heap.size+1+1) 3 #[int i64 3,int i64 5]:=by rw[hWc];exact((((((aO zs).alloc _).alloc _).alloc _).alloc _).alloc _).alloc _
 have s3:Whole Wc (w4.heap.size+1+1+1) 3 #[int i64 4,int i64 5]:=by rw[hWc];exact(((((aO zs).alloc _).alloc _).alloc _).alloc _).alloc _
 have s4:Whole Wc (w4.heap.size+1+1+1+1) 3 #[int i64 0]:=by rw[hWc];exact((((aO zs).alloc _).alloc _).alloc _).alloc _
 have s5:Whole Wc (w4.heap.size+1+1+1+1+1) 3 #[int i64 1,int i64 1]:=by rw[hWc];exact(((aO zs).alloc _).alloc _).alloc _
 have s6:Whole Wc (w4.heap.size+1+1+1+1+1+1) 3 #[int i64 3]:=by rw[hWc];exact((aO zs).alloc _).alloc _
 have s7:Whole Wc (w4.heap.size+1+1+1+1+1+1+1) 3 #[int i64 1]:=by rw[hWc];exact(aO zs).alloc _
 have r2:Whole Wc (w4.heap.size+1+1+1+1+1+1+1+1) 38 #[.slice (some ⟨w4.heap.size+1,0,none⟩) 2 2,.slice (some ⟨w4.heap.size+1+1,0,none⟩) 2 2,.slice (some ⟨w4.heap.size+1+1+1,0,none⟩) 2 2,.slice (some ⟨w4.heap.size+1+1+1+1,0,none⟩) 1 1,.slice (some ⟨w4.heap.size+1+1+1+1+1,0,none⟩) 2 2,.slice (some ⟨w4.heap.size+1+1+1+1+1+1,0,none⟩) 1 1,.slice (some ⟨w4.heap.size+1+1+1+1+1+1+1,0,none⟩) 1 1]:=by rw[hWc];exact aO zs
 have hl1:Lists Wc Wc.heap.size (some ⟨w4.heap.size,0,none⟩) 7 (fun i=>[AX,AY,AU,AV,AP,AE,AC].getD i none) (fun i=>[2,2,2,1,2,1,1].getD i 0) (fun i=>[pX,pY,pU,pV,pP,pE,pC].getD i 0):=bQ r1 fun i j hi hj=>by
  obtain rfl:j=0:=zo
  rcases(show i=0∨i=1∨i=2∨i=3∨i=4∨i=5∨i=6 by omega) with rfl|rfl|rfl|rfl|rfl|rfl|rfl <;> rfl
 have hl2:Lists Wc Wc.heap.size (some ⟨w4.heap.size+1+1+1+1+1+1+1+1,0,none⟩) 7 (fun i=>[some ⟨w4.heap.size+1,0,none⟩,some ⟨w4.heap.size+1+1,0,none⟩,some ⟨w4.heap.size+1+1+1,0,none⟩,some ⟨w4.heap.size+1+1+1+1,0,none⟩,some ⟨w4.heap.size+1+1+1+1+1,0,none⟩,some ⟨w4.heap.size+1+1+1+1+1+1,0,none⟩,some ⟨w4.heap.size+1+1+1+1+1+1+1,0,none⟩].getD i none) (fun i=>[2,2,2,1,2,1,1].getD i 0) (fun i=>[2,2,2,1,2,1,1].getD i 0):=bQ r2 fun i j hi hj=>by
  obtain rfl:j=0:=zo
  rcases(show i=0∨i=1∨i=2∨i=3∨i=4∨i=5∨i=6 by omega) with rfl|rfl|rfl|rfl|rfl|rfl|rfl <;> rfl
 have Yi:=NC (some ⟨w4.heap.size,0,none⟩) (some ⟨w4.heap.size+1+1+1+1+1+1+1+1,0,none⟩) 7 7 7 _ _ _ _ _ (fun i j=>([[5,5],[3,5],[4,5],[0],[1,1],[3],[1]].getD i []).getD j 0) Wc.heap.size Wc hl1 hl2 zD (fun i hi=>by
  rcases(show i=0∨i=1∨i=2∨i=3∨i=4∨i=5∨i=6 by omega) with rfl|rfl|rfl|rfl|rfl|rfl|rfl
  ·exact(hX.below bc).more bc.size
  ·exact(hY.below bc).more bc.size
  ·exact(hU.below bc).more bc.size
  ·exact(hV.below bc).more bc.size
  ·exact(hP.below bc).more bc.size
  ·exact(hE.below bc).more bc.size
  ·exact(hC.below bc).more bc.size) (fun i hi=>by
  rcases(show i=0∨i=1∨i=2∨i=3∨i=4∨i=5∨i=6 by omega) with rfl|rfl|rfl|rfl|rfl|rfl|rfl
  ·exact qP s1
  ·exact qP s2
  ·exact qP s3
  ·exact uQ s4
  ·exact qP s5
  ·exact uQ s6
  ·exact uQ s7) (fun i hi=>by
  rcases(show i=0∨i=1∨i=2∨i=3∨i=4∨i=5∨i=6 by omega) with rfl|rfl|rfl|rfl|rfl|rfl|rfl <;> (show _≤maxLen) <;> decide)
 have HSame:=hid Yi
 have Re:=hid hWc
 have PT:=hid (tz.out.below bc)
 clear Yi hWc bc hl1 hl2 r1 r2 s1 s2 s3 s4 s5 s6 s7 hX hY hU hV hP hE hC
 simp only[List.drop_succ_cons,List.drop_zero,Act.put,List.setIfInBounds_toArray,List.set_cons_succ,List.set_cons_zero]
 gi_wp2
 simp only[sP]
 gi_wp2_with (gi_at_call 22;rw[← Re.out];refine HSame.out.mono ?_;rintro e w5 ⟨rfl,q,rfl⟩)
 exact⟨rfl,_,results_tmp rfl _ _ _,_,rfl,rfl,PT.out.below (below_drewN (Below.refl _ _) q)⟩
end
section
open Go.RowKit
attribute [local go_sem] Oper.semAt_some
theorem CH(a b:Int)(w:World):CallsIn FF 0 prog 7 #[int i64 a,int i64 b] w fun e w'=>e=.returned (.agg #[int i64 a,int i64 b])∧Below w.heap.size w w':=by
 gi_enter func7,ntmps7
 gi_wp2
 refine bodyPost_ret (v:=.agg #[int i64 a,int i64 b]) (by simp[results,results7,go_sem]) rfl ⟨rfl,bw⟩
theorem WH(p q r s:Int)(w:World)(h1:p=r)(h2:q=s):(binOp BinOp.eql 30 (.agg #[int i64 p,int i64 q]) (.agg #[int i64 r,int i64 s])).run prog w=Result.ok (.bool true) w:=by
 subst h1;subst h2
 simp[go_sem]
end
end Go.Proofs.YtoldgagdgjilgaaGreat
