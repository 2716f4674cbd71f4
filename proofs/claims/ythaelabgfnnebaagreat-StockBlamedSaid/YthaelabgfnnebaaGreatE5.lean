/- ST AG9 -/
import Derived.Test.YthaelabgfnnebaaGreatE4
import Derived.Test.YthaelabgfnnebaaGreatB4
set_option maxRecDepth 100000
set_option maxHeartbeats 16000000
set_option linter.unusedVariables false
set_option linter.unusedSectionVars false
set_option linter.unusedSimpArgs false
open Go.IntKind(i64)
open Go.Lib(hid)
open Go.Proofs.Tryz
open Go.Value(int)
namespace Go.Proofs.YthaelabgfnnebaaGreat
section
open Go Go.Conc Go.ConcN Go.cu Go.Conc.Lib Go.aO Go.RowKit
open Go.Sort (grow)
attribute [local go_sem] Oper.semAt_some
variable[Inhabited aV]
theorem gX(m:Int)(G M C:Nat):(Tb m G M C).val=.agg #[int i64 10,int i64 m,.slice (some ⟨G,0,none⟩) 2 2,.slice (some ⟨M,0,none⟩) 4 4,.slice (some ⟨C,0,none⟩) 2 2]:=rfl
structure Sk(w W:World)(B G M C:Nat):Prop where
 at_:(Tb 1 G M C).At W W.heap.size
 tb:Vj W G M C
 box:Whole W B 26 #[int i64 10,int i64 1,.slice (some ⟨G,0,none⟩) 2 2,.slice (some ⟨M,0,none⟩) 4 4,.slice (some ⟨C,0,none⟩) 2 2]
 past:Below w.heap.size w W
theorem Sk.below{w W W':World}{B G M C:Nat}(h:Sk w W B G M C)(hb:Below W.heap.size W W'):Sk w W' B G M C:=
 ⟨h.at_.up hb,h.tb.of (fun b hl=>hb.block b hl),h.box.below hb h.box.lt,Below.next h.past hb⟩
section
variable{w:World}{B:Nat}{t:TypeId}{a b c d:Int}
theorem vI(h:Whole w B t #[int i64 a]):Ints w w.heap.size (some ⟨B,0,none⟩) 1 (fun i=>[a].getD i 0):=bU h fun i j hi hj=>by
 obtain rfl:i=0:=zo
 obtain rfl:j=0:=zo
 rfl
theorem rE(h:Whole w B t #[int i64 a,int i64 b]):Ints w w.heap.size (some ⟨B,0,none⟩) 2 (fun i=>[a,b].getD i 0):=bU h fun i j hi hj=>by
 obtain rfl:j=0:=zo
 rcases(show i=0∨i=1 by omega) with rfl|rfl <;> rfl
theorem WT(h:Whole w B t #[int i64 a,int i64 b,int i64 c,int i64 d]):Ints w w.heap.size (some ⟨B,0,none⟩) 4 (fun i=>[a,b,c,d].getD i 0):=bU h fun i j hi hj=>by
 obtain rfl:j=0:=zo
 rcases(show i=0∨i=1∨i=2∨i=3 by omega) with rfl|rfl|rfl|rfl <;> rfl
theorem JR(h:Whole w B t #[int i64 2,int i64 3]):Ints w w.heap.size (some ⟨B,0,none⟩) 2 rates:=bU h fun i j hi hj=>by
 obtain rfl:j=0:=zo
 rcases(show i=0∨i=1 by omega) with rfl|rfl <;> rfl
end
theorem SV.set1{W:World}{v x:Value}{l:List Int}{B:Nat}{t:TypeId}{cs:Array Value}(h:SV W v l)(hB:Whole W B t cs)(hne:∀o,∃i,i<l.length∧cs[o+i]?≠some (int i64 (l.getD i 0))):SV (W.setCell ⟨B,1,none⟩ x) v l:=by
 obtain⟨A,p,rfl,hi⟩:=h
 refine⟨A,p,rfl,fun hn=>?_⟩
 obtain⟨ad,rfl,hlt,hc⟩:=hi hn
 have hs:(W.setCell ⟨B,1,none⟩ x).heap.size=W.heap.size:=by simp[World.setCell]
 have hb:ad.block≠B:=fun e=>by
  obtain⟨blk,off,spot⟩:=ad
  simp only at e
  subst e
  obtain⟨i,hil,hx⟩:=hne off
  have h1:=hc i 0 hil zD
  rw[Nat.mul_one,Nat.add_zero] at h1
  cases spot with
  | none=>
    have h2:(⟨blk,off,none⟩:Addr).add i=⟨blk,off+i,none⟩:=by unfold Addr.add;split <;> simp_all
    rw[h2,hB.cell] at h1
    exact hx h1
  | some s=>
    unfold Whole at hB
    have h2:=hc 0 0 hn zD
    rw[Nat.mul_one,Nat.add_zero] at h2
    have h3:(⟨blk,off,some s⟩:Addr).add 0=⟨blk,off,some s⟩:=by unfold Addr.add;simp
    rw[h3] at h2
    unfold World.cell? at h2
    simp only[hB] at h2
    simp at h2
 refine⟨ad,rfl,by rw[hs];exact hlt,fun i j hi hj=>?_⟩
 refine Eq.trans (World.cell?_of_block (Below.heap_setCell _ _ _ _ ?_)) (hc i j hi hj)
 rw[aH]
 exact hb
def vW(w:World)(x:Value)(w':World):Prop:=x=.bool true∧Past w w'
theorem nU(w:World):iR 8 #[] w (vW w):=by
 have HE:=hid JE
 refine kE func8 rfl zs ?_
 simp only[ntmps8,List.size_toArray,List.length_cons,List.length_nil,Nat.reduceAdd,Nat.reduceSub,Array.replicate_succ,Array.replicate_zero,List.push_toArray,List.append_toArray,List.nil_append,List.cons_append]
 repeat refine aj.seq ?_
 refine aj.item ?_
 gi_wp2
 repeat refine aj.seq ?_
 refine aj.item ?_
 gi_wp2_with (gi_at_call 24;refine(HE.out w).mono ?_;rintro e w1 ⟨G,M,C,rfl,hA1,hb1,hT1⟩;rw[gX])
 obtain⟨W2,hW2⟩:∃W,W=w1.alloc (.cells #[int i64 10,int i64 1,.slice (some ⟨G,0,none⟩) 2 2,.slice (some ⟨M,0,none⟩) 4 4,.slice (some ⟨C,0,none⟩) 2 2] 26):=⟨_,rfl⟩
 have b12:Below w1.heap.size w1 W2:=by rw[hW2];exact bw
 have K2:Hid (Sk w W2 w1.heap.size G M C):=hid ⟨hA1.up b12,hT1.of (fun b hl=>b12.block b hl),by rw[hW2];exact Whole.new _ _ _,Below.next hb1 b12⟩
 have HG:Hid (G<w1.heap.size∧M<w1.heap.size∧C<w1.heap.size):=hid ⟨hT1.1.lt,hT1.2.1.lt,hT1.2.2.lt⟩
 have HB:Hid (w.heap.size≤w1.heap.size):=hid hb1.size
 rw[← hW2]
 obtain⟨B,hB⟩:∃B,B=w1.heap.size:=⟨_,rfl⟩
 rw[← hB] at K2 HG HB⊢
 clear hW2 b12 hA1 hb1 hT1 hB
 have c0:W2.cell? ⟨B,0,none⟩=some (int i64 10):=K2.out.box.cell 0
 have c1:W2.cell? ⟨B,1,none⟩=some (int i64 1):=K2.out.box.cell 1
 have c2:W2.cell? ⟨B,2,none⟩=some (.slice (some ⟨G,0,none⟩) 2 2):=K2.out.box.cell 2
 have c3:W2.cell? ⟨B,3,none⟩=some (.slice (some ⟨M,0,none⟩) 4 4):=K2.out.box.cell 3
 have c4:W2.cell? ⟨B,4,none⟩=some (.slice (some ⟨C,0,none⟩) 2 2):=K2.out.box.cell 4
 repeat refine aj.seq ?_
 refine aj.item ?_
 obtain⟨Wa,hWa⟩:∃Wa,Wa=((W2.alloc (.cells #[int i64 3,int i64 5] 3)).alloc (.cells #[int i64 4,int i64 2,int i64 0,int i64 10] 3)).alloc (.cells #[int i64 3] 3):=⟨_,rfl⟩
 have ba:Below W2.heap.size W2 Wa:=by rw[hWa];exact bw
 have a1:Whole Wa W2.heap.size 3 #[int i64 3,int i64 5]:=by rw[hWa];exact((Whole.new W2 _ _).alloc _).alloc _
 have a2:Whole Wa (W2.heap.size+1) 3 #[int i64 4,int i64 2,int i64 0,int i64 10]:=by rw[hWa];exact(aP zs).alloc _
 have a3:Whole Wa (W2.heap.size+1+1) 3 #[int i64 3]:=by rw[hWa];exact aP zs
 have AK:=hid (fw G M C Wa (K2.out.at_.up ba) (some ⟨W2.heap.size,0,none⟩) (some ⟨W2.heap.size+1,0,none⟩) (some ⟨W2.heap.size+1+1,0,none⟩) 2 4 1 (rE a1) (WT a2) (vI a3))
 rw[gX] at AK
 have m4:=hid hWa
 have m9:=hid ba
 clear hWa ba a1 a2 a3
 gi_wp2_with (gi_at_call 25;rw[← m4.out];refine AK.out.mono ?_;rintro e W3 ⟨vx,vy,rfl,sx,sy,hb3⟩)
 have Qk:Below W2.heap.size W2 W3:=Below.next m9.out hb3
 have K3:=hid (K2.out.below Qk)
 have X3:=hid sx
 have Y3:=hid sy
 clear sx sy hb3 Qk K2 AK m4 m9
 clear c0 c1 c2 c3 c4
 have c0:W3.cell? ⟨B,0,none⟩=some (int i64 10):=K3.out.box.cell 0
 have c1:W3.cell? ⟨B,1,none⟩=some (int i64 1):=K3.out.box.cell 1
 have c2:W3.cell? ⟨B,2,none⟩=some (.slice (some ⟨G,0,none⟩) 2 2):=K3.out.box.cell 2
 have c3:W3.cell? ⟨B,3,none⟩=some (.slice (some ⟨M,0,none⟩) 4 4):=K3.out.box.cell 3
 have c4:W3.cell? ⟨B,4,none⟩=some (.slice (some ⟨C,0,none⟩) 2 2):=K3.out.box.cell 4
 repeat refine aj.seq ?_
 refine aj.item ?_
 have HC:=hid (ee G M C W3 K3.out.at_)
 rw[gX] at HC
 gi_wp2_with (gi_at_call 14;refine HC.out.mono ?_;rintro e Wn ⟨rfl,hbn⟩)
 obtain⟨W4,hW⟩:∃W,W=Wn:=⟨_,rfl⟩
 subst hW
 have dH:=hbn
 have K4:=hid (K3.out.below dH)
 have X4:=hid (X3.out.below dH)
 have Y4:=hid (Y3.out.below dH)
 clear dH HC K3 X3 Y3
 clear c0 c1 c2 c3 c4
 have c0:W4.cell? ⟨B,0,none⟩=some (int i64 10):=K4.out.box.cell 0
 have c1:W4.cell? ⟨B,1,none⟩=some (int i64 1):=K4.out.box.cell 1
 have c2:W4.cell? ⟨B,2,none⟩=some (.slice (some ⟨G,0,none⟩) 2 2):=K4.out.box.cell 2
 have c3:W4.cell? ⟨B,3,none⟩=some (.slice (some ⟨M,0,none⟩) 4 4):=K4.out.box.cell 3
 have c4:W4.cell? ⟨B,4,none⟩=some (.slice (some ⟨C,0,none⟩) 2 2):=K4.out.box.cell 4
 repeat refine aj.seq ?_
 refine aj.item ?_
 have HC:=hid (eR G M C W4 K4.out.at_)
 rw[gX] at HC
 gi_wp2_with (gi_at_call 10;refine HC.out.mono ?_;rintro e Wn ⟨vu,rfl,su,hbn⟩)
 obtain⟨W5,hW⟩:∃W,W=Wn:=⟨_,rfl⟩
 subst hW
 have dH:=hbn
 have K5:=hid (K4.out.below dH)
 have X5:=hid (X4.out.below dH)
 have Y5:=hid (Y4.out.below dH)
 have U5:=hid su
 clear dH HC K4 X4 Y4 su
 clear c0 c1 c2 c3 c4
 have c0:W5.cell? ⟨B,0,none⟩=some (int i64 10):=K5.out.box.cell 0
 have c1:W5.cell? ⟨B,1,none⟩=some (int i64 1):=K5.out.box.cell 1
 have c2:W5.cell? ⟨B,2,none⟩=some (.slice (some ⟨G,0,none⟩) 2 2):=K5.out.box.cell 2
 have c3:W5.cell? ⟨B,3,none⟩=some (.slice (some ⟨M,0,none⟩) 4 4):=K5.out.box.cell 3
 have c4:W5.cell? ⟨B,4,none⟩=some (.slice (some ⟨C,0,none⟩) 2 2):=K5.out.box.cell 4
 repeat refine aj.seq ?_
 refine aj.item ?_
 have HC:=hid (sY G M C W5 K5.out.at_)
 rw[gX] at HC
 gi_wp2_with (gi_at_call 26;refine HC.out.mono ?_;rintro e Wn ⟨vv,rfl,sv,hbn⟩)
 obtain⟨W6,hW⟩:∃W,W=Wn:=⟨_,rfl⟩
 subst hW
 have dH:=hbn
 have K6:=hid (K5.out.below dH)
 have X6:=hid (X5.out.below dH)
 have Y6:=hid (Y5.out.below dH)
 have U6:=hid (U5.out.below dH)
 have V6:=hid sv
 clear dH HC K5 X5 Y5 U5 sv
 clear c0 c1 c2 c3 c4
 have c0:W6.cell? ⟨B,0,none⟩=some (int i64 10):=K6.out.box.cell 0
 have c1:W6.cell? ⟨B,1,none⟩=some (int i64 1):=K6.out.box.cell 1
 have c2:W6.cell? ⟨B,2,none⟩=some (.slice (some ⟨G,0,none⟩) 2 2):=K6.out.box.cell 2
 have c3:W6.cell? ⟨B,3,none⟩=some (.slice (some ⟨M,0,none⟩) 4 4):=K6.out.box.cell 3
 have c4:W6.cell? ⟨B,4,none⟩=some (.slice (some ⟨C,0,none⟩) 2 2):=K6.out.box.cell 4
 repeat refine aj.seq ?_
 refine aj.item ?_
 have HC:=hid (RO G M C W6 K6.out.at_)
 rw[gX] at HC
 gi_wp2_with (gi_at_call 27;refine HC.out.mono ?_;rintro e Wn ⟨rfl,hbn⟩)
 obtain⟨W7,hW⟩:∃W,W=Wn:=⟨_,rfl⟩
 subst hW
 have dH:=hbn
 have K7:=hid (K6.out.below dH)
 have X7:=hid (X6.out.below dH)
 have Y7:=hid (Y6.out.below dH)
 have U7:=hid (U6.out.below dH)
 have V7:=hid (V6.out.below dH)
 clear dH HC K6 X6 Y6 U6 V6
 clear c0 c1 c2 c3 c4
 have c0:W7.cell? ⟨B,0,none⟩=some (int i64 10):=K7.out.box.cell 0
 have c1:W7.cell? ⟨B,1,none⟩=some (int i64 1):=K7.out.box.cell 1
 have c2:W7.cell? ⟨B,2,none⟩=some (.slice (some ⟨G,0,none⟩) 2 2):=K7.out.box.cell 2
 have c3:W7.cell? ⟨B,3,none⟩=some (.slice (some ⟨M,0,none⟩) 4 4):=K7.out.box.cell 3
 have c4:W7.cell? ⟨B,4,none⟩=some (.slice (some ⟨C,0,none⟩) 2 2):=K7.out.box.cell 4
 repeat refine aj.seq ?_
 refine aj.item ?_
 have HC:=hid (RJ G M C W7 K7.out.at_)
 rw[gX] at HC
 gi_wp2_with (gi_at_call 27;refine HC.out.mono ?_;rintro e Wn ⟨rfl,hbn⟩)
 obtain⟨W8,hW⟩:∃W,W=Wn:=⟨_,rfl⟩
 subst hW
 have dH:=hbn
 have K8:=hid (K7.out.below dH)
 have X8:=hid (X7.out.below dH)
 have Y8:=hid (Y7.out.below dH)
 have U8:=hid (U7.out.below dH)
 have V8:=hid (V7.out.below dH)
 clear dH HC K7 X7 Y7 U7 V7
 clear c0 c1 c2 c3 c4
 have c0:W8.cell? ⟨B,0,none⟩=some (int i64 10):=K8.out.box.cell 0
 have c1:W8.cell? ⟨B,1,none⟩=some (int i64 1):=K8.out.box.cell 1
 have c2:W8.cell? ⟨B,2,none⟩=some (.slice (some ⟨G,0,none⟩) 2 2):=K8.out.box.cell 2
 have c3:W8.cell? ⟨B,3,none⟩=some (.slice (some ⟨M,0,none⟩) 4 4):=K8.out.box.cell 3
 have c4:W8.cell? ⟨B,4,none⟩=some (.slice (some ⟨C,0,none⟩) 2 2):=K8.out.box.cell 4
 repeat refine aj.seq ?_
 refine aj.item ?_
 have HC:=hid (e9 G M C W8 K8.out.at_)
 rw[gX] at HC
 gi_wp2_with (gi_at_call 28;refine HC.out.mono ?_;rintro e Wn ⟨rfl,hbn⟩)
 obtain⟨W9,hW⟩:∃W,W=Wn.alloc (.cells #[int i64 0,int i64 1] 38):=⟨_,rfl⟩
 have dH:Below W8.heap.size W8 W9:=by rw[hW];exact Below.al hbn _
 have qA:Hid (Whole W9 Wn.heap.size 38 #[int i64 0,int i64 1]):=hid (by rw[hW];exact Whole.new _ _ _)
 obtain⟨BA,ow⟩:∃B,B=Wn.heap.size:=⟨_,rfl⟩
 rw[← hW,← ow]
 rw[← ow] at qA
 have A9:=qA
 clear hW hbn ow qA
 have K9:=hid (K8.out.below dH)
 have X9:=hid (X8.out.below dH)
 have Y9:=hid (Y8.out.below dH)
 have U9:=hid (U8.out.below dH)
 have V9:=hid (V8.out.below dH)
 clear dH HC K8 X8 Y8 U8 V8
 clear c0 c1 c2 c3 c4
 have c0:W9.cell? ⟨B,0,none⟩=some (int i64 10):=K9.out.box.cell 0
 have c1:W9.cell? ⟨B,1,none⟩=some (int i64 1):=K9.out.box.cell 1
 have c2:W9.cell? ⟨B,2,none⟩=some (.slice (some ⟨G,0,none⟩) 2 2):=K9.out.box.cell 2
 have c3:W9.cell? ⟨B,3,none⟩=some (.slice (some ⟨M,0,none⟩) 4 4):=K9.out.box.cell 3
 have c4:W9.cell? ⟨B,4,none⟩=some (.slice (some ⟨C,0,none⟩) 2 2):=K9.out.box.cell 4
 repeat refine aj.seq ?_
 refine aj.item ?_
 have HC:=hid (YR G M C W9 K9.out.at_)
 rw[gX] at HC
 gi_wp2_with (gi_at_call 29;refine HC.out.mono ?_;rintro e Wn ⟨rfl,hbn⟩)
 obtain⟨Vk,hW⟩:∃W,W=Wn.alloc (.cells #[int i64 30,int i64 35] 38):=⟨_,rfl⟩
 have dH:Below W9.heap.size W9 Vk:=by rw[hW];exact Below.al hbn _
 have Kp:Hid (Whole Vk Wn.heap.size 38 #[int i64 30,int i64 35]):=hid (by rw[hW];exact Whole.new _ _ _)
 obtain⟨Mm,df⟩:∃B,B=Wn.heap.size:=⟨_,rfl⟩
 rw[← hW,← df]
 rw[← df] at Kp
 have b9:=Kp
 clear hW hbn df Kp
 have Zc:=hid (K9.out.below dH)
 have Rg:=hid (X9.out.below dH)
 have R0:=hid (Y9.out.below dH)
 have PT:=hid (U9.out.below dH)
 have QQ:=hid (V9.out.below dH)
 have xl:=hid (A9.out.below dH A9.out.lt)
 clear dH HC K9 X9 Y9 U9 V9 A9
 clear c0 c1 c2 c3 c4
 have c0:Vk.cell? ⟨B,0,none⟩=some (int i64 10):=Zc.out.box.cell 0
 have c1:Vk.cell? ⟨B,1,none⟩=some (int i64 1):=Zc.out.box.cell 1
 have c2:Vk.cell? ⟨B,2,none⟩=some (.slice (some ⟨G,0,none⟩) 2 2):=Zc.out.box.cell 2
 have c3:Vk.cell? ⟨B,3,none⟩=some (.slice (some ⟨M,0,none⟩) 4 4):=Zc.out.box.cell 3
 have c4:Vk.cell? ⟨B,4,none⟩=some (.slice (some ⟨C,0,none⟩) 2 2):=Zc.out.box.cell 4
 repeat refine aj.seq ?_
 refine aj.item ?_
 have HC:=hid (WZ G M C Vk Zc.out.at_)
 rw[gX] at HC
 gi_wp2_with (gi_at_call 12;refine HC.out.mono ?_;rintro e Wn ⟨rfl,hbn⟩)
 obtain⟨Fa,hW⟩:∃W,W=Wn.alloc (.cells #[int i64 2,int i64 2] 38):=⟨_,rfl⟩
 have dH:Below Vk.heap.size Vk Fa:=by rw[hW];exact Below.al hbn _
 have qD:Hid (Whole Fa Wn.heap.size 38 #[int i64 2,int i64 2]):=hid (by rw[hW];exact Whole.new _ _ _)
 obtain⟨BD,DH⟩:∃B,B=Wn.heap.size:=⟨_,rfl⟩
 rw[← hW,← DH]
 rw[← DH] at qD
 have xx:=qD
 clear hW hbn DH qD
 have Zd:=hid (Zc.out.below dH)
 have Jb:=hid (Rg.out.below dH)
 have vi:=hid (R0.out.below dH)
 have P0:=hid (PT.out.below dH)
 have QR:=hid (QQ.out.below dH)
 have xm:=hid (xl.out.below dH xl.out.lt)
 have ca:=hid (b9.out.below dH b9.out.lt)
 clear dH HC Zc Rg R0 PT QQ xl b9
 clear c0 c1 c2 c3 c4
 have c0:Fa.cell? ⟨B,0,none⟩=some (int i64 10):=Zd.out.box.cell 0
 have c1:Fa.cell? ⟨B,1,none⟩=some (int i64 1):=Zd.out.box.cell 1
 have c2:Fa.cell? ⟨B,2,none⟩=some (.slice (some ⟨G,0,none⟩) 2 2):=Zd.out.box.cell 2
 have c3:Fa.cell? ⟨B,3,none⟩=some (.slice (some ⟨M,0,none⟩) 4 4):=Zd.out.box.cell 3
 have c4:Fa.cell? ⟨B,4,none⟩=some (.slice (some ⟨C,0,none⟩) 2 2):=Zd.out.box.cell 4
 repeat refine aj.seq ?_
 refine aj.item ?_
 obtain⟨Wa,hWa⟩:∃Wa,Wa=Fa.alloc (.cells #[int i64 2,int i64 3] 3):=⟨_,rfl⟩
 have ba:Below Fa.heap.size Fa Wa:=by rw[hWa];exact bw
 have a1:Whole Wa Fa.heap.size 3 #[int i64 2,int i64 3]:=by rw[hWa];exact Whole.new _ _ _
 have HC:=hid (n8 G M C Wa (Zd.out.at_.up ba) (some ⟨Fa.heap.size,0,none⟩) 2 (JR a1))
 rw[gX] at HC
 have m4:=hid hWa
 have m9:=hid ba
 clear hWa ba a1
 gi_wp2_with (gi_at_call 9;rw[← m4.out];refine HC.out.mono ?_;rintro e Lj ⟨vp,rfl,sp,Ag⟩)
 have dH:Below Fa.heap.size Fa Lj:=Below.next m9.out Ag
 have Ze:=hid (Zd.out.below dH)
 have vY:=hid (Jb.out.below dH)
 have R':=hid (vi.out.below dH)
 have P1:=hid (P0.out.below dH)
 have Q4:=hid (QR.out.below dH)
 have xn:=hid (xm.out.below dH xm.out.lt)
 have cd:=hid (ca.out.below dH ca.out.lt)
 have xy:=hid (xx.out.below dH xx.out.lt)
 have PH:=hid sp
 clear dH Ag sp HC m4 m9 Zd Jb vi P0 QR xm ca xx
 clear c0 c1 c2 c3 c4
 have c0:Lj.cell? ⟨B,0,none⟩=some (int i64 10):=Ze.out.box.cell 0
 have c1:Lj.cell? ⟨B,1,none⟩=some (int i64 1):=Ze.out.box.cell 1
 have c2:Lj.cell? ⟨B,2,none⟩=some (.slice (some ⟨G,0,none⟩) 2 2):=Ze.out.box.cell 2
 have c3:Lj.cell? ⟨B,3,none⟩=some (.slice (some ⟨M,0,none⟩) 4 4):=Ze.out.box.cell 3
 have c4:Lj.cell? ⟨B,4,none⟩=some (.slice (some ⟨C,0,none⟩) 2 2):=Ze.out.box.cell 4
 repeat refine aj.seq ?_
 refine aj.item ?_
 have HC:=hid (VP G M C Lj Ze.out.at_)
 rw[gX] at HC
 gi_wp2_with (gi_at_call 13;refine HC.out.mono ?_;rintro e Wn ⟨ve,rfl,se,hbn⟩)
 obtain⟨VJ,hW⟩:∃W,W=Wn:=⟨_,rfl⟩
 subst hW
 have dH:=hbn
 have Zf:=hid (Ze.out.below dH)
 have Rr:=hid (vY.out.below dH)
 have Sa:=hid (R'.out.below dH)
 have P2:=hid (P1.out.below dH)
 have nw:=hid (Q4.out.below dH)
 have xo:=hid (xn.out.below dH xn.out.lt)
 have cg:=hid (cd.out.below dH cd.out.lt)
 have xz:=hid (xy.out.below dH xy.out.lt)
 have PM:=hid (PH.out.below dH)
 have Mn:=hid se
 clear dH HC Ze vY R' P1 Q4 xn cd xy PH se
 clear c0 c1 c2 c3 c4
 have c0:VJ.cell? ⟨B,0,none⟩=some (int i64 10):=Zf.out.box.cell 0
 have c1:VJ.cell? ⟨B,1,none⟩=some (int i64 1):=Zf.out.box.cell 1
 have c2:VJ.cell? ⟨B,2,none⟩=some (.slice (some ⟨G,0,none⟩) 2 2):=Zf.out.box.cell 2
 have c3:VJ.cell? ⟨B,3,none⟩=some (.slice (some ⟨M,0,none⟩) 4 4):=Zf.out.box.cell 3
 have c4:VJ.cell? ⟨B,4,none⟩=some (.slice (some ⟨C,0,none⟩) 2 2):=Zf.out.box.cell 4
 repeat refine aj.seq ?_
 refine aj.item ?_
 have HC:=hid (Pk G M C VJ Zf.out.at_)
 rw[gX] at HC
 gi_wp2_with (gi_at_call 30;refine HC.out.mono ?_;rintro e Wn ⟨rfl,hbn⟩)
 obtain⟨Vm,hW⟩:∃W,W=Wn:=⟨_,rfl⟩
 subst hW
 have dH:=hbn
 have Pl:=hid (Zf.out.below dH)
 have RM:=hid (Rr.out.below dH)
 have Se:=hid (Sa.out.below dH)
 have P3:=hid (P2.out.below dH)
 have ks:=hid (nw.out.below dH)
 have xp:=hid (xo.out.below dH xo.out.lt)
 have cm:=hid (cg.out.below dH cg.out.lt)
 have xF:=hid (xz.out.below dH xz.out.lt)
 have PQ:=hid (PM.out.below dH)
 have Mo:=hid (Mn.out.below dH)
 clear dH HC Zf Rr Sa P2 nw xo cg xz PM Mn
 clear c0 c1 c2 c3 c4
 repeat refine aj.seq ?_
 refine aj.item ?_
 gi_wp2
 repeat refine aj.seq ?_
 refine aj.cond_false rfl ?_
 refine aj.skip ?_
 repeat refine aj.seq ?_
 refine aj.item ?_
 have qa0:∀d os,(grow (redrawn Vm d) os).cell? ⟨BA,0,none⟩=some (int i64 0):=cell_regrown (xp.out.cell 0)
 have qa1:∀d os,(grow (redrawn Vm d) os).cell? ⟨BA,1,none⟩=some (int i64 1):=cell_regrown (xp.out.cell 1)
 have qw0:∀d os,(grow (redrawn Vm d) os).cell? ⟨Mm,0,none⟩=some (int i64 30):=cell_regrown (cm.out.cell 0)
 have qw1:∀d os,(grow (redrawn Vm d) os).cell? ⟨Mm,1,none⟩=some (int i64 35):=cell_regrown (cm.out.cell 1)
 have qd0:∀d os,(grow (redrawn Vm d) os).cell? ⟨BD,0,none⟩=some (int i64 2):=cell_regrown (xF.out.cell 0)
 have qd1:∀d os,(grow (redrawn Vm d) os).cell? ⟨BD,1,none⟩=some (int i64 2):=cell_regrown (xF.out.cell 1)
 have Ss:∀ (a b:Int) d os,CallsIn FF 0 prog 31 #[int i64 a,int i64 b] (grow (redrawn Vm d) os) fun e w''=>e=.returned (.agg #[int i64 a,int i64 b])∧∃p:Regrown,w''=grow (redrawn Vm p.d) p.os:=fun a b d os=>CallsIn.regrown_of (tU a b _)
 gi_wp2
 refine wpIn_region_quiet_below rfl zk zk ?_
 repeat (quiet_step_in (exact Ss _ _ _ _))
 refine wpQuietIn_nil ?_
 rintro w' ⟨⟨dq,osq⟩,rfl⟩
 have dH:=below_regrown Vm dq osq
 have yT:=hid (Pl.out.below dH)
 have vf:=hid (RM.out.below dH)
 have vj:=hid (Se.out.below dH)
 have vb:=hid (P3.out.below dH)
 have vd:=hid (ks.out.below dH)
 have uB:=hid (PQ.out.below dH)
 have ub:=hid (Mo.out.below dH)
 clear dH Pl RM Se P3 ks PQ Mo xp cm xF qa0 qa1 qw0 qw1 qd0 qd1 Ss
 simp only at yT vf vj vb vd uB ub⊢
 generalize grow (redrawn Vm dq) osq=Zh at yT vf vj vb vd uB ub⊢
 have c0:Zh.cell? ⟨B,0,none⟩=some (int i64 10):=yT.out.box.cell 0
 have c1:Zh.cell? ⟨B,1,none⟩=some (int i64 1):=yT.out.box.cell 1
 have c2:Zh.cell? ⟨B,2,none⟩=some (.slice (some ⟨G,0,none⟩) 2 2):=yT.out.box.cell 2
 have c3:Zh.cell? ⟨B,3,none⟩=some (.slice (some ⟨M,0,none⟩) 4 4):=yT.out.box.cell 3
 have c4:Zh.cell? ⟨B,4,none⟩=some (.slice (some ⟨C,0,none⟩) 2 2):=yT.out.box.cell 4
 have f1:=yT.out.box.thaw
 show aj _ _ _ _ _
 repeat refine aj.seq ?_
 refine aj.cond_false rfl ?_
 refine aj.skip ?_
 repeat refine aj.seq ?_
 refine aj.item ?_
 gi_wp2
 obtain⟨Ll,sU⟩:∃W,W=Zh.setCell ⟨B,1,none⟩ (int i64 0):=⟨_,rfl⟩
 have ri:Ll.heap.size=Zh.heap.size:=by rw[sU];simp[World.setCell]
 have Nb:Whole Ll B 26 #[int i64 10,int i64 0,.slice (some ⟨G,0,none⟩) 2 2,.slice (some ⟨M,0,none⟩) 4 4,.slice (some ⟨C,0,none⟩) 2 2]:=by rw[sU];exact yT.out.box.set 1 (int i64 0)
 have hne:∀ {q:Nat},q<B→q≠B:=fun h=>zo
 have oE:(Tb 0 G M C).At Ll Ll.heap.size:=by
  have hk:=yT.out.at_
  have no:∀ (q:Nat) (ad:Addr),some (⟨q,0,none⟩:Addr)=some ad→q<B→ad.block≠B:=fun q ad e hq=>by cases e;exact hne hq
  rw[ri,sU]
  exact⟨hk.g.bT (p:=⟨B,1,none⟩) (fun ad e _=>no G ad e HG.out.1) _,hk.m.bT (p:=⟨B,1,none⟩) (fun ad e _=>no M ad e HG.out.2.1) _,hk.c.bT (p:=⟨B,1,none⟩) (fun ad e _=>no C ad e HG.out.2.2) _,hk.ng,hk.nm,hk.nc,hk.name⟩
 have hT16:Vj Ll G M C:=by rw[sU];exact⟨yT.out.tb.1.other (hne HG.out.1) _,yT.out.tb.2.1.other (hne HG.out.2.1) _,yT.out.tb.2.2.other (hne HG.out.2.2) _⟩
 have hB0:B<Zh.heap.size:=yT.out.box.lt
 have sE:∀o,∃i,i<([5,5]:List Int).length∧(#[int i64 10,int i64 1,.slice (some ⟨G,0,none⟩) 2 2,.slice (some ⟨M,0,none⟩) 4 4,.slice (some ⟨C,0,none⟩) 2 2]:Array Value)[o+i]?≠some (int i64 (([5,5]:List Int).getD i 0)):=fun o=>by
  rcases o with _|_|_|_|_|o <;> exact⟨0,zD,zs⟩
 have RR:=hid (by rw[sU];exact vf.out.set1 yT.out.box sE:SV Ll vx [5,5])
 clear sE
 have sL:∀o,∃i,i<([3,5]:List Int).length∧(#[int i64 10,int i64 1,.slice (some ⟨G,0,none⟩) 2 2,.slice (some ⟨M,0,none⟩) 4 4,.slice (some ⟨C,0,none⟩) 2 2]:Array Value)[o+i]?≠some (int i64 (([3,5]:List Int).getD i 0)):=fun o=>by
  rcases o with _|_|_|_|_|o <;> exact⟨0,zD,zs⟩
 have Sf:=hid (by rw[sU];exact vj.out.set1 yT.out.box sL:SV Ll vy [3,5])
 clear sL
 have sB:∀o,∃i,i<([4,5]:List Int).length∧(#[int i64 10,int i64 1,.slice (some ⟨G,0,none⟩) 2 2,.slice (some ⟨M,0,none⟩) 4 4,.slice (some ⟨C,0,none⟩) 2 2]:Array Value)[o+i]?≠some (int i64 (([4,5]:List Int).getD i 0)):=fun o=>by
  rcases o with _|_|_|_|_|o <;> exact⟨0,zD,zs⟩
 have QP:=hid (by rw[sU];exact vb.out.set1 yT.out.box sB:SV Ll vu [4,5])
 clear sB
 have sC:∀o,∃i,i<([0]:List Int).length∧(#[int i64 10,int i64 1,.slice (some ⟨G,0,none⟩) 2 2,.slice (some ⟨M,0,none⟩) 4 4,.slice (some ⟨C,0,none⟩) 2 2]:Array Value)[o+i]?≠some (int i64 (([0]:List Int).getD i 0)):=fun o=>by
  rcases o with _|_|_|_|_|o <;> exact⟨0,zD,zs⟩
 have Re:=hid (by rw[sU];exact vd.out.set1 yT.out.box sC:SV Ll vv [0])
 clear sC
 have sz:∀o,∃i,i<([1,1]:List Int).length∧(#[int i64 10,int i64 1,.slice (some ⟨G,0,none⟩) 2 2,.slice (some ⟨M,0,none⟩) 4 4,.slice (some ⟨C,0,none⟩) 2 2]:Array Value)[o+i]?≠some (int i64 (([1,1]:List Int).getD i 0)):=fun o=>by
  rcases o with _|_|_|_|_|o
  ·exact⟨0,zD,zs⟩
  ·exact⟨1,zD,zs⟩
  all_goals exact⟨0,zD,zs⟩
 have PR:=hid (by rw[sU];exact uB.out.set1 yT.out.box sz:SV Ll vp [1,1])
 clear sz
 have sr:∀o,∃i,i<([3]:List Int).length∧(#[int i64 10,int i64 1,.slice (some ⟨G,0,none⟩) 2 2,.slice (some ⟨M,0,none⟩) 4 4,.slice (some ⟨C,0,none⟩) 2 2]:Array Value)[o+i]?≠some (int i64 (([3]:List Int).getD i 0)):=fun o=>by
  rcases o with _|_|_|_|_|o <;> exact⟨0,zD,zs⟩
 have Mu:=hid (by rw[sU];exact ub.out.set1 yT.out.box sr:SV Ll ve [3])
 clear sr
 have mC:Hid (Below w.heap.size w Ll):=hid (by rw[sU];exact yT.out.past.setCell HB.out _)
 have an:=hid (Aq G M C Ll hT16 oE)
 rw[gX] at an
 have d0:=Nb.cell 0
 have d1:=Nb.cell 1
 have d2:=Nb.cell 2
 have d3:=Nb.cell 3
 have d4:=Nb.cell 4
 rw[← sU]
 clear sU ri hne oE hT16 hB0 yT f1 c0 c1 c2 c3 c4 Nb vf vj vb vd uB ub
 repeat refine aj.seq ?_
 refine aj.iD 1 zD ?_
 simp only[List.take_succ_cons,List.take_zero]
 gi_wp2
 refine jv rfl rfl rfl (enters_of func17 zk rfl) (Rc:=Qt Ll) (args:=#[.agg #[int i64 10,int i64 0,.slice (some ⟨G,0,none⟩) 2 2,.slice (some ⟨M,0,none⟩) 4 4,.slice (some ⟨C,0,none⟩) 2 2]]) (by simp only[List.map_toArray,List.map_cons,List.map_nil];rfl) an.out ?_
 rintro x w4 ⟨vc,rfl,hown,hpast⟩
 have C4:Hid (SV w4 vc [1]):=hid (SV.own hown)
 have AH:Hid (Past w w4):=hid (Past.of mC.out hpast)
 have X4:=hid (RR.out.past hpast)
 have Y4:=hid (Sf.out.past hpast)
 have U4:=hid (QP.out.past hpast)
 have V4:=hid (Re.out.past hpast)
 have P4:=hid (PR.out.past hpast)
 have E4:=hid (Mu.out.past hpast)
 clear hown hpast d0 d1 d2 d3 d4 an mC RR Sf QP Re PR Mu
 obtain⟨AX,pX,rfl,hX⟩:=X4.out
 obtain⟨AY,pY,rfl,hY⟩:=Y4.out
 obtain⟨AU,pU,rfl,hU⟩:=U4.out
 obtain⟨AV,pV,rfl,hV⟩:=V4.out
 obtain⟨AP,pP,rfl,hP⟩:=P4.out
 obtain⟨AE,pE,rfl,hE⟩:=E4.out
 obtain⟨AC,pC,rfl,hC⟩:=C4.out
 simp only[List.length_cons,List.length_nil,Nat.zero_add,Nat.reduceAdd] at hX hY hU hV hP hE hC
 obtain⟨Wc,hWc⟩:∃Wc,Wc=((((((((w4.alloc (.cells #[.slice AX 2 pX,.slice AY 2 pY,.slice AU 2 pU,.slice AV 1 pV,.slice AP 2 pP,.slice AE 1 pE,.slice AC 1 pC] 30)).alloc (.cells #[int i64 5,int i64 5] 3)).alloc (.cells #[int i64 3,int i64 5] 3)).alloc (.cells #[int i64 4,int i64 5] 3)).alloc (.cells #[int i64 0] 3)).alloc (.cells #[int i64 1,int i64 1] 3)).alloc (.cells #[int i64 3] 3)).alloc (.cells #[int i64 1] 3)).alloc (.cells #[.slice (some ⟨w4.heap.size+1,0,none⟩) 2 2,.slice (some ⟨w4.heap.size+1+1,0,none⟩) 2 2,.slice (some ⟨w4.heap.size+1+1+1,0,none⟩) 2 2,.slice (some ⟨w4.heap.size+1+1+1+1,0,none⟩) 1 1,.slice (some ⟨w4.heap.size+1+1+1+1+1,0,none⟩) 2 2,.slice (some ⟨w4.heap.size+1+1+1+1+1+1,0,none⟩) 1 1,.slice (some ⟨w4.heap.size+1+1+1+1+1+1+1,0,none⟩) 1 1] 30):=⟨_,rfl⟩
 have bc:Below w4.heap.size w4 Wc:=by rw[hWc];exact bw
 have r1:Whole Wc w4.heap.size 30 #[.slice AX 2 pX,.slice AY 2 pY,.slice AU 2 pU,.slice AV 1 pV,.slice AP 2 pP,.slice AE 1 pE,.slice AC 1 pC]:=by rw[hWc];exact((((((((Whole.new w4 _ _).alloc _).alloc _).alloc _).alloc _).alloc _).alloc _).alloc _).alloc _
 have s1:Whole Wc (w4.heap.size+1) 3 #[int i64 5,int i64 5]:=by rw[hWc];exact(((((((aP zs).alloc _).alloc _).alloc _).alloc _).alloc _).alloc _).alloc _
 have s2:Whole Wc (w4.heap.size+1+1) 3 #[int i64 3,int i64 5]:=by rw[hWc];exact((((((aP zs).alloc _).alloc _).alloc _).alloc _).alloc _).alloc _
 have s3:Whole Wc (w4.heap.size+1+1+1) 3 #[int i64 4,int i64 5]:=by rw[hWc];exact(((((aP zs).alloc _).alloc _).alloc _).alloc _).alloc _
 have s4:Whole Wc (w4.heap.size+1+1+1+1) 3 #[int i64 0]:=by rw[hWc];exact((((aP zs).alloc _).alloc _).alloc _).alloc _
 have s5:Whole Wc (w4.heap.size+1+1+1+1+1) 3 #[int i64 1,int i64 1]:=by rw[hWc];exact(((aP zs).alloc _).alloc _).alloc _
 have s6:Whole Wc (w4.heap.size+1+1+1+1+1+1) 3 #[int i64 3]:=by rw[hWc];exact((aP zs).alloc _).alloc _
 have s7:Whole Wc (w4.heap.size+1+1+1+1+1+1+1) 3 #[int i64 1]:=by rw[hWc];exact(aP zs).alloc _
 have r2:Whole Wc (w4.heap.size+1+1+1+1+1+1+1+1) 30 #[.slice (some ⟨w4.heap.size+1,0,none⟩) 2 2,.slice (some ⟨w4.heap.size+1+1,0,none⟩) 2 2,.slice (some ⟨w4.heap.size+1+1+1,0,none⟩) 2 2,.slice (some ⟨w4.heap.size+1+1+1+1,0,none⟩) 1 1,.slice (some ⟨w4.heap.size+1+1+1+1+1,0,none⟩) 2 2,.slice (some ⟨w4.heap.size+1+1+1+1+1+1,0,none⟩) 1 1,.slice (some ⟨w4.heap.size+1+1+1+1+1+1+1,0,none⟩) 1 1]:=by rw[hWc];exact aP zs
 have hl1:Lists Wc Wc.heap.size (some ⟨w4.heap.size,0,none⟩) 7 (fun i=>[AX,AY,AU,AV,AP,AE,AC].getD i none) (fun i=>[2,2,2,1,2,1,1].getD i 0) (fun i=>[pX,pY,pU,pV,pP,pE,pC].getD i 0):=bU r1 fun i j hi hj=>by
  obtain rfl:j=0:=zo
  rcases(show i=0∨i=1∨i=2∨i=3∨i=4∨i=5∨i=6 by omega) with rfl|rfl|rfl|rfl|rfl|rfl|rfl <;> rfl
 have hl2:Lists Wc Wc.heap.size (some ⟨w4.heap.size+1+1+1+1+1+1+1+1,0,none⟩) 7 (fun i=>[some ⟨w4.heap.size+1,0,none⟩,some ⟨w4.heap.size+1+1,0,none⟩,some ⟨w4.heap.size+1+1+1,0,none⟩,some ⟨w4.heap.size+1+1+1+1,0,none⟩,some ⟨w4.heap.size+1+1+1+1+1,0,none⟩,some ⟨w4.heap.size+1+1+1+1+1+1,0,none⟩,some ⟨w4.heap.size+1+1+1+1+1+1+1,0,none⟩].getD i none) (fun i=>[2,2,2,1,2,1,1].getD i 0) (fun i=>[2,2,2,1,2,1,1].getD i 0):=bU r2 fun i j hi hj=>by
  obtain rfl:j=0:=zo
  rcases(show i=0∨i=1∨i=2∨i=3∨i=4∨i=5∨i=6 by omega) with rfl|rfl|rfl|rfl|rfl|rfl|rfl <;> rfl
 have Zq:=OT (some ⟨w4.heap.size,0,none⟩) (some ⟨w4.heap.size+1+1+1+1+1+1+1+1,0,none⟩) 7 7 7 _ _ _ _ _ (fun i j=>([[5,5],[3,5],[4,5],[0],[1,1],[3],[1]].getD i []).getD j 0) Wc.heap.size Wc hl1 hl2 zD (fun i hi=>by
  rcases(show i=0∨i=1∨i=2∨i=3∨i=4∨i=5∨i=6 by omega) with rfl|rfl|rfl|rfl|rfl|rfl|rfl
  ·exact(hX.below bc).more bc.size
  ·exact(hY.below bc).more bc.size
  ·exact(hU.below bc).more bc.size
  ·exact(hV.below bc).more bc.size
  ·exact(hP.below bc).more bc.size
  ·exact(hE.below bc).more bc.size
  ·exact(hC.below bc).more bc.size) (fun i hi=>by
  rcases(show i=0∨i=1∨i=2∨i=3∨i=4∨i=5∨i=6 by omega) with rfl|rfl|rfl|rfl|rfl|rfl|rfl
  ·exact rE s1
  ·exact rE s2
  ·exact rE s3
  ·exact vI s4
  ·exact rE s5
  ·exact vI s6
  ·exact vI s7) (fun i hi=>by
  rcases(show i=0∨i=1∨i=2∨i=3∨i=4∨i=5∨i=6 by omega) with rfl|rfl|rfl|rfl|rfl|rfl|rfl <;> (show _≤maxLen) <;> decide)
 have HSame:=hid Zq
 have HWc:=hid hWc
 have HPc:=hid (AH.out.below bc)
 clear Zq hWc bc hl1 hl2 r1 r2 s1 s2 s3 s4 s5 s6 s7 hX hY hU hV hP hE hC
 simp only[List.drop_succ_cons,List.drop_zero,Act.put,List.setIfInBounds_toArray,List.set_cons_succ,List.set_cons_zero]
 gi_wp2
 simp only[yR]
 gi_wp2_with (gi_at_call 32;rw[← HWc.out];refine HSame.out.mono ?_;rintro e w5 ⟨rfl,q,rfl⟩)
 exact⟨rfl,_,results_tmp rfl _ _ _,_,rfl,rfl,HPc.out.below (below_drewN (Below.refl _ _) q)⟩
end
section
open Go.RowKit
structure dn(b:Bk)(l3:List Int)(X:Nat)(wx wl:World)(vB vM:Value)(k1:Nat):Prop where
 box:Whole wl X 26 #[int i64 b.days,int i64 0,.slice b.gA b.ng b.gc,vB,.slice b.cA b.nc b.cc]
 rM:wl.ownsRow (X+1) 52 5 vM (kept l3 k1).length ((kept l3 k1).flatMap fun i=>(b.m i).flat)
 below:Below X wx wl
section
variable{b:Bk}{l3:List Int}{X:Nat}{wx wl w':World}{vB vM:Value}{k k1 gg cap:Nat}
theorem dn.alloc(h:dn b l3 X wx wl vB vM k1)(o:Obj):dn b l3 X wx (wl.alloc o) vB vM k1:=
 ⟨h.box.alloc o,aQ h.rM o,h.below.alloc (Nat.le_of_lt h.box.lt) o⟩
theorem dn.drew(h:dn b l3 X wx wl vB vM k1):dn b l3 X wx wl.drew vB vM k1:=⟨h.box,h.rM,fG h.below⟩
theorem dn.T5(h:dn b l3 X wx wl vB vM k1){g:Nat}(e:vM.ownBlock=some g):X<g∧g<wl.heap.size:=by have:=bR h.rM e;omega
theorem dn.start(b:Bk)(l3:List Int){X:Nat}{w1 wx:World}(hb:Below X w1 wx)(jM:Whole wx X 26 #[int i64 b.days,int i64 0,.slice b.gA b.ng b.gc,.slice none 0 0,.slice b.cA b.nc b.cc]):
 dn b l3 X w1 wx (.slice none 0 0) (.slice none 0 0) 0:=
 ⟨jM,⟨by simp[kept],.inl ⟨rfl,by simp[kept]⟩⟩,hb⟩
theorem dn.skip(h:dn b l3 X wx wl vB vM k)(hk:(k:Int)∈l3):dn b l3 X wx wl vB vM (k+1):=by
 have e:kept l3 (k+1)=kept l3 k:=by rw[jG,if_pos hk]
 exact⟨h.box,by rw[e];exact h.rM,h.below⟩
theorem dn.grow(h:dn b l3 X wx wl vB vM k)(hk:¬ (k:Int)∈l3)(hg:wl.grownBy w' vM.ownBlock)
 (hown:w'.ownsRow (X+1) 52 5 (.slice (some ⟨gg,0,none⟩) ((kept l3 k).length+1) cap) ((kept l3 k).length+1) (((kept l3 k).flatMap fun i=>(b.m i).flat) ++ (b.m k).flat)):
 dn b l3 X wx w' vB (.slice (some ⟨gg,0,none⟩) ((kept l3 k).length+1) cap) (k+1):=by
 have hX:=h.box.lt
 refine⟨h.box.grown hg fun e=>?_,?_,h.below.grown hg zo fun g e=>by have:=h.T5 e;omega⟩
 ·have:=h.T5 e.symm;omega
 ·rw[jG,if_neg hk]
  simpa using hown
theorem dn.store(h:dn b l3 X wx wl vB vM k1):dn b l3 X wx (wl.setCell ⟨X,3,none⟩ vM) vM vM k1:=
 ⟨by simpa using h.box.set 3 vM,iN h.rM (by show X<X+1;omega) _,h.below.setCell (by show X≤X;omega) _⟩
theorem dn.at_(h:dn b l3 X wx wl vB vM b.nm)(hb:b.At wx X):∃A c,vM=.slice A (kept l3 b.nm).length c∧(b.less l3 A c).At wl wl.heap.size:=by
 obtain⟨A,c,e⟩:=dF h.rM
 refine⟨A,c,e,?_⟩
 have hX:=h.box.lt
 have hw:=(hb.below h.below).more (Nat.le_of_lt hX)
 refine⟨hw.g,fun hn=>?_,hw.c,hw.ng,Nat.le_trans (nK _ _) hw.nm,hw.nc,hw.name⟩
 have hn':0<(kept l3 b.nm).length:=hn
 obtain⟨g,cap,hv,_,hlt⟩:=h.rM.form hn'
 have hA:A=some ⟨g,0,none⟩:=by rw[e] at hv;injection hv
 refine⟨⟨g,0,none⟩,hA,hlt,fun i j hi hj=>?_⟩
 refine h.rM.cells (g:=g) (by rw[e,hA];rfl) (i * 5+j) _ ?_
 exact LD (kept l3 b.nm) i j hi hj
end
end
end Go.Proofs.YthaelabgfnnebaaGreat
