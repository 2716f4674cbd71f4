/- ST -/
import Derived.Test.YthaelabgfnnebaaGreatE9
set_option maxRecDepth 100000
set_option maxHeartbeats 16000000
set_option linter.unusedVariables false
set_option linter.unusedSectionVars false
set_option linter.unusedSimpArgs false
open Go.IntKind(i64)
open Go.Lib(hid)
open Go.Proofs.Tryz
open Go.Value(int)
namespace Go.Proofs.YthaelabgfnnebaaGreat
section
open Go Go.Conc Go.ConcN Go.bX Go.Conc.Lib Go.aO Go.RowKit
open Go.Sort (grow)
attribute [local go_sem] Oper.semAt_some
variable[Inhabited aR]
theorem gQ(m:Int)(G M C:Nat):(Tb m G M C).val=.agg #[int i64 10,int i64 m,.slice (some ⟨G,0,none⟩) 2 2,.slice (some ⟨M,0,none⟩) 4 4,.slice (some ⟨C,0,none⟩) 2 2]:=rfl
structure Sk(w W:World)(B G M C:Nat):Prop where
 at_:(Tb 1 G M C).At W W.heap.size
 tb:Uh W G M C
 box:Whole W B 26 #[int i64 10,int i64 1,.slice (some ⟨G,0,none⟩) 2 2,.slice (some ⟨M,0,none⟩) 4 4,.slice (some ⟨C,0,none⟩) 2 2]
 past:Below w.heap.size w W
theorem Sk.below{w W W':World}{B G M C:Nat}(h:Sk w W B G M C)(hb:Below W.heap.size W W'):Sk w W' B G M C:=
 ⟨h.at_.up hb,h.tb.of (fun b hl=>hb.block b hl),h.box.below hb h.box.lt,Below.next h.past hb⟩
section
variable{w:World}{B:Nat}{t:TypeId}{a b c d:Int}
theorem uV(h:Whole w B t #[int i64 a]):Ints w w.heap.size (some ⟨B,0,none⟩) 1 (fun i=>[a].getD i 0):=bQ h fun i j hi hj=>by
 obtain rfl:i=0:=zo
 obtain rfl:j=0:=zo
 rfl
theorem qY(h:Whole w B t #[int i64 a,int i64 b]):Ints w w.heap.size (some ⟨B,0,none⟩) 2 (fun i=>[a,b].getD i 0):=bQ h fun i j hi hj=>by
 obtain rfl:j=0:=zo
 rcases(show i=0∨i=1 by omega) with rfl|rfl <;> rfl
theorem VD(h:Whole w B t #[int i64 a,int i64 b,int i64 c,int i64 d]):Ints w w.heap.size (some ⟨B,0,none⟩) 4 (fun i=>[a,b,c,d].getD i 0):=bQ h fun i j hi hj=>by
 obtain rfl:j=0:=zo
 rcases(show i=0∨i=1∨i=2∨i=3 by omega) with rfl|rfl|rfl|rfl <;> rfl
theorem Jh(h:Whole w B t #[int i64 2,int i64 3]):Ints w w.heap.size (some ⟨B,0,none⟩) 2 rates:=bQ h fun i j hi hj=>by
 obtain rfl:j=0:=zo
 rcases(show i=0∨i=1 by omega) with rfl|rfl <;> rfl
end
theorem SV.set1{W:World}{v x:Value}{l:List Int}{B:Nat}{t:TypeId}{cs:Array Value}(h:SV W v l)(hB:Whole W B t cs)(hne:∀o,∃i,i<l.length∧cs[o+i]?≠some (int i64 (l.getD i 0))):SV (W.setCell ⟨B,1,none⟩ x) v l:=by
 obtain⟨A,p,rfl,hi⟩:=h
 refine⟨A,p,rfl,fun hn=>?_⟩
 obtain⟨ad,rfl,hlt,hc⟩:=hi hn
 have hs:(W.setCell ⟨B,1,none⟩ x).heap.size=W.heap.size:=by simp[World.setCell]
 have hb:ad.block≠B:=fun e=>by
  obtain⟨blk,off,spot⟩:=ad
  simp only at e
  subst e
  obtain⟨i,hil,hx⟩:=hne off
  have h1:=hc i 0 hil zD
  rw[Nat.mul_one,Nat.add_zero] at h1
  cases spot with
  | none=>
    have h2:(⟨blk,off,none⟩:Addr).add i=⟨blk,off+i,none⟩:=by unfold Addr.add;split <;> simp_all
    rw[h2,hB.cell] at h1
    exact hx h1
  | some s=>
    unfold Whole at hB
    have h2:=hc 0 0 hn zD
    rw[Nat.mul_one,Nat.add_zero] at h2
    have h3:(⟨blk,off,some s⟩:Addr).add 0=⟨blk,off,some s⟩:=by unfold Addr.add;simp
    rw[h3] at h2
    unfold World.cell? at h2
    simp only[hB] at h2
    simp at h2
 refine⟨ad,rfl,by rw[hs];exact hlt,fun i j hi hj=>?_⟩
 refine Eq.trans (World.cell?_of_block (Below.heap_setCell _ _ _ _ ?_)) (hc i j hi hj)
 rw[aJ]
 exact hb
def rX(w:World)(x:Value)(w':World):Prop:=x=.bool true∧Past w w'
theorem kE(w:World):iK 8 #[] w (rX w):=by
 have HE:=hid IX
 refine jY func8 rfl zs ?_
 simp only[ntmps8,List.size_toArray,List.length_cons,List.length_nil,Nat.reduceAdd,Nat.reduceSub,Array.replicate_succ,Array.replicate_zero,List.push_toArray,List.append_toArray,List.nil_append,List.cons_append]
 repeat refine aj.seq ?_
 refine aj.item ?_
 gi_wp2
 repeat refine aj.seq ?_
 refine aj.item ?_
 gi_wp2_with (gi_at_call 24;refine(HE.out w).mono ?_;rintro e w1 ⟨G,M,C,rfl,hA1,hb1,hT1⟩;rw[gQ])
 obtain⟨W2,hW2⟩:∃W,W=w1.alloc (.cells #[int i64 10,int i64 1,.slice (some ⟨G,0,none⟩) 2 2,.slice (some ⟨M,0,none⟩) 4 4,.slice (some ⟨C,0,none⟩) 2 2] 26):=⟨_,rfl⟩
 have b12:Below w1.heap.size w1 W2:=by rw[hW2];exact bw
 have K2:Hid (Sk w W2 w1.heap.size G M C):=hid ⟨hA1.up b12,hT1.of (fun b hl=>b12.block b hl),by rw[hW2];exact Whole.new _ _ _,Below.next hb1 b12⟩
 have HG:Hid (G<w1.heap.size∧M<w1.heap.size∧C<w1.heap.size):=hid ⟨hT1.1.lt,hT1.2.1.lt,hT1.2.2.lt⟩
 have HB:Hid (w.heap.size≤w1.heap.size):=hid hb1.size
 rw[← hW2]
 obtain⟨B,hB⟩:∃B,B=w1.heap.size:=⟨_,rfl⟩
 rw[← hB] at K2 HG HB⊢
 clear hW2 b12 hA1 hb1 hT1 hB
 have c0:W2.cell? ⟨B,0,none⟩=some (int i64 10):=K2.out.box.cell 0
 have c1:W2.cell? ⟨B,1,none⟩=some (int i64 1):=K2.out.box.cell 1
 have c2:W2.cell? ⟨B,2,none⟩=some (.slice (some ⟨G,0,none⟩) 2 2):=K2.out.box.cell 2
 have c3:W2.cell? ⟨B,3,none⟩=some (.slice (some ⟨M,0,none⟩) 4 4):=K2.out.box.cell 3
 have c4:W2.cell? ⟨B,4,none⟩=some (.slice (some ⟨C,0,none⟩) 2 2):=K2.out.box.cell 4
 repeat refine aj.seq ?_
 refine aj.item ?_
 obtain⟨Wa,hWa⟩:∃Wa,Wa=((W2.alloc (.cells #[int i64 3,int i64 5] 3)).alloc (.cells #[int i64 4,int i64 2,int i64 0,int i64 10] 3)).alloc (.cells #[int i64 3] 3):=⟨_,rfl⟩
 have ba:Below W2.heap.size W2 Wa:=by rw[hWa];exact bw
 have a1:Whole Wa W2.heap.size 3 #[int i64 3,int i64 5]:=by rw[hWa];exact((Whole.new W2 _ _).alloc _).alloc _
 have a2:Whole Wa (W2.heap.size+1) 3 #[int i64 4,int i64 2,int i64 0,int i64 10]:=by rw[hWa];exact(aM zs).alloc _
 have a3:Whole Wa (W2.heap.size+1+1) 3 #[int i64 3]:=by rw[hWa];exact aM zs
 have ua:=hid (cz G M C Wa (K2.out.at_.up ba) (some ⟨W2.heap.size,0,none⟩) (some ⟨W2.heap.size+1,0,none⟩) (some ⟨W2.heap.size+1+1,0,none⟩) 2 4 1 (qY a1) (VD a2) (uV a3))
 rw[gQ] at ua
 have i5:=hid hWa
 have i7:=hid ba
 clear hWa ba a1 a2 a3
 gi_wp2_with (gi_at_call 25;rw[← i5.out];refine ua.out.mono ?_;rintro e W3 ⟨vx,vy,rfl,sx,sy,hb3⟩)
 have Pg:Below W2.heap.size W2 W3:=Below.next i7.out hb3
 have K3:=hid (K2.out.below Pg)
 have X3:=hid sx
 have Y3:=hid sy
 clear sx sy hb3 Pg K2 ua i5 i7
 clear c0 c1 c2 c3 c4
 have c0:W3.cell? ⟨B,0,none⟩=some (int i64 10):=K3.out.box.cell 0
 have c1:W3.cell? ⟨B,1,none⟩=some (int i64 1):=K3.out.box.cell 1
 have c2:W3.cell? ⟨B,2,none⟩=some (.slice (some ⟨G,0,none⟩) 2 2):=K3.out.box.cell 2
 have c3:W3.cell? ⟨B,3,none⟩=some (.slice (some ⟨M,0,none⟩) 4 4):=K3.out.box.cell 3
 have c4:W3.cell? ⟨B,4,none⟩=some (.slice (some ⟨C,0,none⟩) 2 2):=K3.out.box.cell 4
 repeat refine aj.seq ?_
 refine aj.item ?_
 have HC:=hid (an G M C W3 K3.out.at_)
 rw[gQ] at HC
 gi_wp2_with (gi_at_call 14;refine HC.out.mono ?_;rintro e Wn ⟨rfl,hbn⟩)
 obtain⟨W4,hW⟩:∃W,W=Wn:=⟨_,rfl⟩
 subst hW
 have dA:=hbn
 have K4:=hid (K3.out.below dA)
 have X4:=hid (X3.out.below dA)
 have Y4:=hid (Y3.out.below dA)
 clear dA HC K3 X3 Y3
 clear c0 c1 c2 c3 c4
 have c0:W4.cell? ⟨B,0,none⟩=some (int i64 10):=K4.out.box.cell 0
 have c1:W4.cell? ⟨B,1,none⟩=some (int i64 1):=K4.out.box.cell 1
 have c2:W4.cell? ⟨B,2,none⟩=some (.slice (some ⟨G,0,none⟩) 2 2):=K4.out.box.cell 2
 have c3:W4.cell? ⟨B,3,none⟩=some (.slice (some ⟨M,0,none⟩) 4 4):=K4.out.box.cell 3
 have c4:W4.cell? ⟨B,4,none⟩=some (.slice (some ⟨C,0,none⟩) 2 2):=K4.out.box.cell 4
 repeat refine aj.seq ?_
 refine aj.item ?_
 have HC:=hid (bt G M C W4 K4.out.at_)
 rw[gQ] at HC
 gi_wp2_with (gi_at_call 10;refine HC.out.mono ?_;rintro e Wn ⟨vu,rfl,su,hbn⟩)
 obtain⟨W5,hW⟩:∃W,W=Wn:=⟨_,rfl⟩
 subst hW
 have dA:=hbn
 have K5:=hid (K4.out.below dA)
 have X5:=hid (X4.out.below dA)
 have Y5:=hid (Y4.out.below dA)
 have U5:=hid su
 clear dA HC K4 X4 Y4 su
 clear c0 c1 c2 c3 c4
 have c0:W5.cell? ⟨B,0,none⟩=some (int i64 10):=K5.out.box.cell 0
 have c1:W5.cell? ⟨B,1,none⟩=some (int i64 1):=K5.out.box.cell 1
 have c2:W5.cell? ⟨B,2,none⟩=some (.slice (some ⟨G,0,none⟩) 2 2):=K5.out.box.cell 2
 have c3:W5.cell? ⟨B,3,none⟩=some (.slice (some ⟨M,0,none⟩) 4 4):=K5.out.box.cell 3
 have c4:W5.cell? ⟨B,4,none⟩=some (.slice (some ⟨C,0,none⟩) 2 2):=K5.out.box.cell 4
 repeat refine aj.seq ?_
 refine aj.item ?_
 have HC:=hid (oR G M C W5 K5.out.at_)
 rw[gQ] at HC
 gi_wp2_with (gi_at_call 26;refine HC.out.mono ?_;rintro e Wn ⟨vv,rfl,sv,hbn⟩)
 obtain⟨W6,hW⟩:∃W,W=Wn:=⟨_,rfl⟩
 subst hW
 have dA:=hbn
 have K6:=hid (K5.out.below dA)
 have X6:=hid (X5.out.below dA)
 have Y6:=hid (Y5.out.below dA)
 have U6:=hid (U5.out.below dA)
 have V6:=hid sv
 clear dA HC K5 X5 Y5 U5 sv
 clear c0 c1 c2 c3 c4
 have c0:W6.cell? ⟨B,0,none⟩=some (int i64 10):=K6.out.box.cell 0
 have c1:W6.cell? ⟨B,1,none⟩=some (int i64 1):=K6.out.box.cell 1
 have c2:W6.cell? ⟨B,2,none⟩=some (.slice (some ⟨G,0,none⟩) 2 2):=K6.out.box.cell 2
 have c3:W6.cell? ⟨B,3,none⟩=some (.slice (some ⟨M,0,none⟩) 4 4):=K6.out.box.cell 3
 have c4:W6.cell? ⟨B,4,none⟩=some (.slice (some ⟨C,0,none⟩) 2 2):=K6.out.box.cell 4
 repeat refine aj.seq ?_
 refine aj.item ?_
 have HC:=hid (QM G M C W6 K6.out.at_)
 rw[gQ] at HC
 gi_wp2_with (gi_at_call 27;refine HC.out.mono ?_;rintro e Wn ⟨rfl,hbn⟩)
 obtain⟨W7,hW⟩:∃W,W=Wn:=⟨_,rfl⟩
 subst hW
 have dA:=hbn
 have K7:=hid (K6.out.below dA)
 have X7:=hid (X6.out.below dA)
 have Y7:=hid (Y6.out.below dA)
 have U7:=hid (U6.out.below dA)
 have V7:=hid (V6.out.below dA)
 clear dA HC K6 X6 Y6 U6 V6
 clear c0 c1 c2 c3 c4
 have c0:W7.cell? ⟨B,0,none⟩=some (int i64 10):=K7.out.box.cell 0
 have c1:W7.cell? ⟨B,1,none⟩=some (int i64 1):=K7.out.box.cell 1
 have c2:W7.cell? ⟨B,2,none⟩=some (.slice (some ⟨G,0,none⟩) 2 2):=K7.out.box.cell 2
 have c3:W7.cell? ⟨B,3,none⟩=some (.slice (some ⟨M,0,none⟩) 4 4):=K7.out.box.cell 3
 have c4:W7.cell? ⟨B,4,none⟩=some (.slice (some ⟨C,0,none⟩) 2 2):=K7.out.box.cell 4
 repeat refine aj.seq ?_
 refine aj.item ?_
 have HC:=hid (QK G M C W7 K7.out.at_)
 rw[gQ] at HC
 gi_wp2_with (gi_at_call 27;refine HC.out.mono ?_;rintro e Wn ⟨rfl,hbn⟩)
 obtain⟨W8,hW⟩:∃W,W=Wn:=⟨_,rfl⟩
 subst hW
 have dA:=hbn
 have K8:=hid (K7.out.below dA)
 have X8:=hid (X7.out.below dA)
 have Y8:=hid (Y7.out.below dA)
 have U8:=hid (U7.out.below dA)
 have V8:=hid (V7.out.below dA)
 clear dA HC K7 X7 Y7 U7 V7
 clear c0 c1 c2 c3 c4
 have c0:W8.cell? ⟨B,0,none⟩=some (int i64 10):=K8.out.box.cell 0
 have c1:W8.cell? ⟨B,1,none⟩=some (int i64 1):=K8.out.box.cell 1
 have c2:W8.cell? ⟨B,2,none⟩=some (.slice (some ⟨G,0,none⟩) 2 2):=K8.out.box.cell 2
 have c3:W8.cell? ⟨B,3,none⟩=some (.slice (some ⟨M,0,none⟩) 4 4):=K8.out.box.cell 3
 have c4:W8.cell? ⟨B,4,none⟩=some (.slice (some ⟨C,0,none⟩) 2 2):=K8.out.box.cell 4
 repeat refine aj.seq ?_
 refine aj.item ?_
 have HC:=hid (bz G M C W8 K8.out.at_)
 rw[gQ] at HC
 gi_wp2_with (gi_at_call 28;refine HC.out.mono ?_;rintro e Wn ⟨rfl,hbn⟩)
 obtain⟨W9,hW⟩:∃W,W=Wn.alloc (.cells #[int i64 0,int i64 1] 38):=⟨_,rfl⟩
 have dA:Below W8.heap.size W8 W9:=by rw[hW];exact Below.al hbn _
 have qA:Hid (Whole W9 Wn.heap.size 38 #[int i64 0,int i64 1]):=hid (by rw[hW];exact Whole.new _ _ _)
 obtain⟨BA,nU⟩:∃B,B=Wn.heap.size:=⟨_,rfl⟩
 rw[← hW,← nU]
 rw[← nU] at qA
 have A9:=qA
 clear hW hbn nU qA
 have K9:=hid (K8.out.below dA)
 have X9:=hid (X8.out.below dA)
 have Y9:=hid (Y8.out.below dA)
 have U9:=hid (U8.out.below dA)
 have V9:=hid (V8.out.below dA)
 clear dA HC K8 X8 Y8 U8 V8
 clear c0 c1 c2 c3 c4
 have c0:W9.cell? ⟨B,0,none⟩=some (int i64 10):=K9.out.box.cell 0
 have c1:W9.cell? ⟨B,1,none⟩=some (int i64 1):=K9.out.box.cell 1
 have c2:W9.cell? ⟨B,2,none⟩=some (.slice (some ⟨G,0,none⟩) 2 2):=K9.out.box.cell 2
 have c3:W9.cell? ⟨B,3,none⟩=some (.slice (some ⟨M,0,none⟩) 4 4):=K9.out.box.cell 3
 have c4:W9.cell? ⟨B,4,none⟩=some (.slice (some ⟨C,0,none⟩) 2 2):=K9.out.box.cell 4
 repeat refine aj.seq ?_
 refine aj.item ?_
 have HC:=hid (XL G M C W9 K9.out.at_)
 rw[gQ] at HC
 gi_wp2_with (gi_at_call 29;refine HC.out.mono ?_;rintro e Wn ⟨rfl,hbn⟩)
 obtain⟨Mf,hW⟩:∃W,W=Wn.alloc (.cells #[int i64 30,int i64 35] 38):=⟨_,rfl⟩
 have dA:Below W9.heap.size W9 Mf:=by rw[hW];exact Below.al hbn _
 have Cp:Hid (Whole Mf Wn.heap.size 38 #[int i64 30,int i64 35]):=hid (by rw[hW];exact Whole.new _ _ _)
 obtain⟨Eg,ZY⟩:∃B,B=Wn.heap.size:=⟨_,rfl⟩
 rw[← hW,← ZY]
 rw[← ZY] at Cp
 have Zz:=Cp
 clear hW hbn ZY Cp
 have XW:=hid (K9.out.below dA)
 have kh:=hid (X9.out.below dA)
 have IA:=hid (Y9.out.below dA)
 have Hi:=hid (U9.out.below dA)
 have Hv:=hid (V9.out.below dA)
 have sB:=hid (A9.out.below dA A9.out.lt)
 clear dA HC K9 X9 Y9 U9 V9 A9
 clear c0 c1 c2 c3 c4
 have c0:Mf.cell? ⟨B,0,none⟩=some (int i64 10):=XW.out.box.cell 0
 have c1:Mf.cell? ⟨B,1,none⟩=some (int i64 1):=XW.out.box.cell 1
 have c2:Mf.cell? ⟨B,2,none⟩=some (.slice (some ⟨G,0,none⟩) 2 2):=XW.out.box.cell 2
 have c3:Mf.cell? ⟨B,3,none⟩=some (.slice (some ⟨M,0,none⟩) 4 4):=XW.out.box.cell 3
 have c4:Mf.cell? ⟨B,4,none⟩=some (.slice (some ⟨C,0,none⟩) 2 2):=XW.out.box.cell 4
 repeat refine aj.seq ?_
 refine aj.item ?_
 have HC:=hid (VG G M C Mf XW.out.at_)
 rw[gQ] at HC
 gi_wp2_with (gi_at_call 12;refine HC.out.mono ?_;rintro e Wn ⟨rfl,hbn⟩)
 obtain⟨Ew,hW⟩:∃W,W=Wn.alloc (.cells #[int i64 2,int i64 2] 38):=⟨_,rfl⟩
 have dA:Below Mf.heap.size Mf Ew:=by rw[hW];exact Below.al hbn _
 have qD:Hid (Whole Ew Wn.heap.size 38 #[int i64 2,int i64 2]):=hid (by rw[hW];exact Whole.new _ _ _)
 obtain⟨BD,xd⟩:∃B,B=Wn.heap.size:=⟨_,rfl⟩
 rw[← hW,← xd]
 rw[← xd] at qD
 have s9:=qD
 clear hW hbn xd qD
 have XY:=hid (XW.out.below dA)
 have Ih:=hid (kh.out.below dA)
 have re:=hid (IA.out.below dA)
 have Hj:=hid (Hi.out.below dA)
 have HD:=hid (Hv.out.below dA)
 have sC:=hid (sB.out.below dA sB.out.lt)
 have ZA:=hid (Zz.out.below dA Zz.out.lt)
 clear dA HC XW kh IA Hi Hv sB Zz
 clear c0 c1 c2 c3 c4
 have c0:Ew.cell? ⟨B,0,none⟩=some (int i64 10):=XY.out.box.cell 0
 have c1:Ew.cell? ⟨B,1,none⟩=some (int i64 1):=XY.out.box.cell 1
 have c2:Ew.cell? ⟨B,2,none⟩=some (.slice (some ⟨G,0,none⟩) 2 2):=XY.out.box.cell 2
 have c3:Ew.cell? ⟨B,3,none⟩=some (.slice (some ⟨M,0,none⟩) 4 4):=XY.out.box.cell 3
 have c4:Ew.cell? ⟨B,4,none⟩=some (.slice (some ⟨C,0,none⟩) 2 2):=XY.out.box.cell 4
 repeat refine aj.seq ?_
 refine aj.item ?_
 obtain⟨Wa,hWa⟩:∃Wa,Wa=Ew.alloc (.cells #[int i64 2,int i64 3] 3):=⟨_,rfl⟩
 have ba:Below Ew.heap.size Ew Wa:=by rw[hWa];exact bw
 have a1:Whole Wa Ew.heap.size 3 #[int i64 2,int i64 3]:=by rw[hWa];exact Whole.new _ _ _
 have HC:=hid (km G M C Wa (XY.out.at_.up ba) (some ⟨Ew.heap.size,0,none⟩) 2 (Jh a1))
 rw[gQ] at HC
 have i5:=hid hWa
 have i7:=hid ba
 clear hWa ba a1
 gi_wp2_with (gi_at_call 9;rw[← i5.out];refine HC.out.mono ?_;rintro e Ui ⟨vp,rfl,sp,Jb⟩)
 have dA:Below Ew.heap.size Ew Ui:=Below.next i7.out Jb
 have XZ:=hid (XY.out.below dA)
 have vF:=hid (Ih.out.below dA)
 have ID:=hid (re.out.below dA)
 have Hk:=hid (Hj.out.below dA)
 have H5:=hid (HD.out.below dA)
 have sE:=hid (sC.out.below dA sC.out.lt)
 have ZB:=hid (ZA.out.below dA ZA.out.lt)
 have ta:=hid (s9.out.below dA s9.out.lt)
 have G4:=hid sp
 clear dA Jb sp HC i5 i7 XY Ih re Hj HD sC ZA s9
 clear c0 c1 c2 c3 c4
 have c0:Ui.cell? ⟨B,0,none⟩=some (int i64 10):=XZ.out.box.cell 0
 have c1:Ui.cell? ⟨B,1,none⟩=some (int i64 1):=XZ.out.box.cell 1
 have c2:Ui.cell? ⟨B,2,none⟩=some (.slice (some ⟨G,0,none⟩) 2 2):=XZ.out.box.cell 2
 have c3:Ui.cell? ⟨B,3,none⟩=some (.slice (some ⟨M,0,none⟩) 4 4):=XZ.out.box.cell 3
 have c4:Ui.cell? ⟨B,4,none⟩=some (.slice (some ⟨C,0,none⟩) 2 2):=XZ.out.box.cell 4
 repeat refine aj.seq ?_
 refine aj.item ?_
 have HC:=hid (UL G M C Ui XZ.out.at_)
 rw[gQ] at HC
 gi_wp2_with (gi_at_call 13;refine HC.out.mono ?_;rintro e Wn ⟨ve,rfl,se,hbn⟩)
 obtain⟨fx,hW⟩:∃W,W=Wn:=⟨_,rfl⟩
 subst hW
 have dA:=hbn
 have Ya:=hid (XZ.out.below dA)
 have Is:=hid (vF.out.below dA)
 have IF:=hid (ID.out.below dA)
 have Hm:=hid (Hk.out.below dA)
 have jx:=hid (H5.out.below dA)
 have sL:=hid (sE.out.below dA sE.out.lt)
 have ZC:=hid (ZB.out.below dA ZB.out.lt)
 have te:=hid (ta.out.below dA ta.out.lt)
 have G':=hid (G4.out.below dA)
 have Ek:=hid se
 clear dA HC XZ vF ID Hk H5 sE ZB ta G4 se
 clear c0 c1 c2 c3 c4
 have c0:fx.cell? ⟨B,0,none⟩=some (int i64 10):=Ya.out.box.cell 0
 have c1:fx.cell? ⟨B,1,none⟩=some (int i64 1):=Ya.out.box.cell 1
 have c2:fx.cell? ⟨B,2,none⟩=some (.slice (some ⟨G,0,none⟩) 2 2):=Ya.out.box.cell 2
 have c3:fx.cell? ⟨B,3,none⟩=some (.slice (some ⟨M,0,none⟩) 4 4):=Ya.out.box.cell 3
 have c4:fx.cell? ⟨B,4,none⟩=some (.slice (some ⟨C,0,none⟩) 2 2):=Ya.out.box.cell 4
 repeat refine aj.seq ?_
 refine aj.item ?_
 have HC:=hid (Oh G M C fx Ya.out.at_)
 rw[gQ] at HC
 gi_wp2_with (gi_at_call 30;refine HC.out.mono ?_;rintro e Wn ⟨rfl,hbn⟩)
 obtain⟨Uj,hW⟩:∃W,W=Wn:=⟨_,rfl⟩
 subst hW
 have dA:=hbn
 have GP:=hid (Ya.out.below dA)
 have It:=hid (Is.out.below dA)
 have IH:=hid (IF.out.below dA)
 have Hp:=hid (Hm.out.below dA)
 have fw:=hid (jx.out.below dA)
 have sR:=hid (sL.out.below dA sL.out.lt)
 have ZE:=hid (ZC.out.below dA ZC.out.lt)
 have tf:=hid (te.out.below dA te.out.lt)
 have Ha:=hid (G'.out.below dA)
 have Ex:=hid (Ek.out.below dA)
 clear dA HC Ya Is IF Hm jx sL ZC te G' Ek
 clear c0 c1 c2 c3 c4
 repeat refine aj.seq ?_
 refine aj.item ?_
 gi_wp2
 repeat refine aj.seq ?_
 refine aj.cond_false rfl ?_
 refine aj.skip ?_
 repeat refine aj.seq ?_
 refine aj.item ?_
 have qa0:∀d os,(grow (redrawn Uj d) os).cell? ⟨BA,0,none⟩=some (int i64 0):=cell_regrown (sR.out.cell 0)
 have qa1:∀d os,(grow (redrawn Uj d) os).cell? ⟨BA,1,none⟩=some (int i64 1):=cell_regrown (sR.out.cell 1)
 have qw0:∀d os,(grow (redrawn Uj d) os).cell? ⟨Eg,0,none⟩=some (int i64 30):=cell_regrown (ZE.out.cell 0)
 have qw1:∀d os,(grow (redrawn Uj d) os).cell? ⟨Eg,1,none⟩=some (int i64 35):=cell_regrown (ZE.out.cell 1)
 have qd0:∀d os,(grow (redrawn Uj d) os).cell? ⟨BD,0,none⟩=some (int i64 2):=cell_regrown (tf.out.cell 0)
 have qd1:∀d os,(grow (redrawn Uj d) os).cell? ⟨BD,1,none⟩=some (int i64 2):=cell_regrown (tf.out.cell 1)
 have IS:∀ (a b:Int) d os,CallsIn FF 0 prog 31 #[int i64 a,int i64 b] (grow (redrawn Uj d) os) fun e w''=>e=.returned (.agg #[int i64 a,int i64 b])∧∃p:Regrown,w''=grow (redrawn Uj p.d) p.os:=fun a b d os=>CallsIn.regrown_of (pT a b _)
 gi_wp2
 refine wpIn_region_quiet_below rfl zk zk ?_
 repeat (quiet_step_in (exact IS _ _ _ _))
 refine wpQuietIn_nil ?_
 rintro w' ⟨⟨dq,osq⟩,rfl⟩
 have dA:=below_regrown Uj dq osq
 have xZ:=hid (GP.out.below dA)
 have q7:=hid (It.out.below dA)
 have rf:=hid (IH.out.below dA)
 have qS:=hid (Hp.out.below dA)
 have qT:=hid (fw.out.below dA)
 have qu:=hid (Ha.out.below dA)
 have p6:=hid (Ex.out.below dA)
 clear dA GP It IH Hp fw Ha Ex sR ZE tf qa0 qa1 qw0 qw1 qd0 qd1 IS
 simp only at xZ q7 rf qS qT qu p6⊢
 generalize grow (redrawn Uj dq) osq=Yd at xZ q7 rf qS qT qu p6⊢
 have c0:Yd.cell? ⟨B,0,none⟩=some (int i64 10):=xZ.out.box.cell 0
 have c1:Yd.cell? ⟨B,1,none⟩=some (int i64 1):=xZ.out.box.cell 1
 have c2:Yd.cell? ⟨B,2,none⟩=some (.slice (some ⟨G,0,none⟩) 2 2):=xZ.out.box.cell 2
 have c3:Yd.cell? ⟨B,3,none⟩=some (.slice (some ⟨M,0,none⟩) 4 4):=xZ.out.box.cell 3
 have c4:Yd.cell? ⟨B,4,none⟩=some (.slice (some ⟨C,0,none⟩) 2 2):=xZ.out.box.cell 4
 have f1:=xZ.out.box.thaw
 show aj _ _ _ _ _
 repeat refine aj.seq ?_
 refine aj.cond_false rfl ?_
 refine aj.skip ?_
 repeat refine aj.seq ?_
 refine aj.item ?_
 gi_wp2
 obtain⟨Kw,sG⟩:∃W,W=Yd.setCell ⟨B,1,none⟩ (int i64 0):=⟨_,rfl⟩
 have nb:Kw.heap.size=Yd.heap.size:=by rw[sG];simp[World.setCell]
 have Md:Whole Kw B 26 #[int i64 10,int i64 0,.slice (some ⟨G,0,none⟩) 2 2,.slice (some ⟨M,0,none⟩) 4 4,.slice (some ⟨C,0,none⟩) 2 2]:=by rw[sG];exact xZ.out.box.set 1 (int i64 0)
 have hne:∀ {q:Nat},q<B→q≠B:=fun h=>zo
 have lf:(Tb 0 G M C).At Kw Kw.heap.size:=by
  have hk:=xZ.out.at_
  have no:∀ (q:Nat) (ad:Addr),some (⟨q,0,none⟩:Addr)=some ad→q<B→ad.block≠B:=fun q ad e hq=>by cases e;exact hne hq
  rw[nb,sG]
  exact⟨hk.g.bP (p:=⟨B,1,none⟩) (fun ad e _=>no G ad e HG.out.1) _,hk.m.bP (p:=⟨B,1,none⟩) (fun ad e _=>no M ad e HG.out.2.1) _,hk.c.bP (p:=⟨B,1,none⟩) (fun ad e _=>no C ad e HG.out.2.2) _,hk.ng,hk.nm,hk.nc,hk.name⟩
 have hT16:Uh Kw G M C:=by rw[sG];exact⟨xZ.out.tb.1.other (hne HG.out.1) _,xZ.out.tb.2.1.other (hne HG.out.2.1) _,xZ.out.tb.2.2.other (hne HG.out.2.2) _⟩
 have hB0:B<Yd.heap.size:=xZ.out.box.lt
 have oy:∀o,∃i,i<([5,5]:List Int).length∧(#[int i64 10,int i64 1,.slice (some ⟨G,0,none⟩) 2 2,.slice (some ⟨M,0,none⟩) 4 4,.slice (some ⟨C,0,none⟩) 2 2]:Array Value)[o+i]?≠some (int i64 (([5,5]:List Int).getD i 0)):=fun o=>by
  rcases o with _|_|_|_|_|o <;> exact⟨0,zD,zs⟩
 have Iv:=hid (by rw[sG];exact q7.out.set1 xZ.out.box oy:SV Kw vx [5,5])
 clear oy
 have oA:∀o,∃i,i<([3,5]:List Int).length∧(#[int i64 10,int i64 1,.slice (some ⟨G,0,none⟩) 2 2,.slice (some ⟨M,0,none⟩) 4 4,.slice (some ⟨C,0,none⟩) 2 2]:Array Value)[o+i]?≠some (int i64 (([3,5]:List Int).getD i 0)):=fun o=>by
  rcases o with _|_|_|_|_|o <;> exact⟨0,zD,zs⟩
 have IM:=hid (by rw[sG];exact rf.out.set1 xZ.out.box oA:SV Kw vy [3,5])
 clear oA
 have ov:∀o,∃i,i<([4,5]:List Int).length∧(#[int i64 10,int i64 1,.slice (some ⟨G,0,none⟩) 2 2,.slice (some ⟨M,0,none⟩) 4 4,.slice (some ⟨C,0,none⟩) 2 2]:Array Value)[o+i]?≠some (int i64 (([4,5]:List Int).getD i 0)):=fun o=>by
  rcases o with _|_|_|_|_|o <;> exact⟨0,zD,zs⟩
 have Hs:=hid (by rw[sG];exact qS.out.set1 xZ.out.box ov:SV Kw vu [4,5])
 clear ov
 have ox:∀o,∃i,i<([0]:List Int).length∧(#[int i64 10,int i64 1,.slice (some ⟨G,0,none⟩) 2 2,.slice (some ⟨M,0,none⟩) 4 4,.slice (some ⟨C,0,none⟩) 2 2]:Array Value)[o+i]?≠some (int i64 (([0]:List Int).getD i 0)):=fun o=>by
  rcases o with _|_|_|_|_|o <;> exact⟨0,zD,zs⟩
 have H':=hid (by rw[sG];exact qT.out.set1 xZ.out.box ox:SV Kw vv [0])
 clear ox
 have ot:∀o,∃i,i<([1,1]:List Int).length∧(#[int i64 10,int i64 1,.slice (some ⟨G,0,none⟩) 2 2,.slice (some ⟨M,0,none⟩) 4 4,.slice (some ⟨C,0,none⟩) 2 2]:Array Value)[o+i]?≠some (int i64 (([1,1]:List Int).getD i 0)):=fun o=>by
  rcases o with _|_|_|_|_|o
  ·exact⟨0,zD,zs⟩
  ·exact⟨1,zD,zs⟩
  all_goals exact⟨0,zD,zs⟩
 have Hd:=hid (by rw[sG];exact qu.out.set1 xZ.out.box ot:SV Kw vp [1,1])
 clear ot
 have oe:∀o,∃i,i<([3]:List Int).length∧(#[int i64 10,int i64 1,.slice (some ⟨G,0,none⟩) 2 2,.slice (some ⟨M,0,none⟩) 4 4,.slice (some ⟨C,0,none⟩) 2 2]:Array Value)[o+i]?≠some (int i64 (([3]:List Int).getD i 0)):=fun o=>by
  rcases o with _|_|_|_|_|o <;> exact⟨0,zD,zs⟩
 have EE:=hid (by rw[sG];exact p6.out.set1 xZ.out.box oe:SV Kw ve [3])
 clear oe
 have iv:Hid (Below w.heap.size w Kw):=hid (by rw[sG];exact xZ.out.past.setCell HB.out _)
 have gS:=hid (yP G M C Kw hT16 lf)
 rw[gQ] at gS
 have d0:=Md.cell 0
 have d1:=Md.cell 1
 have d2:=Md.cell 2
 have d3:=Md.cell 3
 have d4:=Md.cell 4
 rw[← sG]
 clear sG nb hne lf hT16 hB0 xZ f1 c0 c1 c2 c3 c4 Md q7 rf qS qT qu p6
 repeat refine aj.seq ?_
 refine aj.fU 1 zD ?_
 simp only[List.take_succ_cons,List.take_zero]
 gi_wp2
 refine gW rfl rfl rfl (enters_of func17 zk rfl) (Rc:=Pq Kw) (args:=#[.agg #[int i64 10,int i64 0,.slice (some ⟨G,0,none⟩) 2 2,.slice (some ⟨M,0,none⟩) 4 4,.slice (some ⟨C,0,none⟩) 2 2]]) (by simp only[List.map_toArray,List.map_cons,List.map_nil];rfl) gS.out ?_
 rintro x w4 ⟨vc,rfl,hown,hpast⟩
 have C4:Hid (SV w4 vc [1]):=hid (SV.own hown)
 have tU:Hid (Past w w4):=hid (Past.of iv.out hpast)
 have X4:=hid (Iv.out.past hpast)
 have Y4:=hid (IM.out.past hpast)
 have U4:=hid (Hs.out.past hpast)
 have V4:=hid (H'.out.past hpast)
 have P4:=hid (Hd.out.past hpast)
 have E4:=hid (EE.out.past hpast)
 clear hown hpast d0 d1 d2 d3 d4 gS iv Iv IM Hs H' Hd EE
 obtain⟨AX,pX,rfl,hX⟩:=X4.out
 obtain⟨AY,pY,rfl,hY⟩:=Y4.out
 obtain⟨AU,pU,rfl,hU⟩:=U4.out
 obtain⟨AV,pV,rfl,hV⟩:=V4.out
 obtain⟨AP,pP,rfl,hP⟩:=P4.out
 obtain⟨AE,pE,rfl,hE⟩:=E4.out
 obtain⟨AC,pC,rfl,hC⟩:=C4.out
 simp only[List.length_cons,List.length_nil,Nat.zero_add,Nat.reduceAdd] at hX hY hU hV hP hE hC
 obtain⟨Wc,hWc⟩:∃Wc,Wc=((((((((w4.alloc (.cells #[.slice AX 2 pX,.slice AY 2 pY,.slice AU 2 pU,.slice AV 1 pV,.slice AP 2 pP,.slice AE 1 pE,.slice AC 1 pC] 30)).alloc (.cells #[int i64 5,int i64 5] 3)).alloc (.cells #[int i64 3,int i64 5] 3)).alloc (.cells #[int i64 4,int i64 5] 3)).alloc (.cells #[int i64 0] 3)).alloc (.cells #[int i64 1,int i64 1] 3)).alloc (.cells #[int i64 3] 3)).alloc (.cells #[int i64 1] 3)).alloc (.cells #[.slice (some ⟨w4.heap.size+1,0,none⟩) 2 2,.slice (some ⟨w4.heap.size+1+1,0,none⟩) 2 2,.slice (some ⟨w4.heap.size+1+1+1,0,none⟩) 2 2,.slice (some ⟨w4.heap.size+1+1+1+1,0,none⟩) 1 1,.slice (some ⟨w4.heap.size+1+1+1+1+1,0,none⟩) 2 2,.slice (some ⟨w4.heap.size+1+1+1+1+1+1,0,none⟩) 1 1,.slice (some ⟨w4.heap.size+1+1+1+1+1+1+1,0,none⟩) 1 1] 30):=⟨_,rfl⟩
 have bc:Below w4.heap.size w4 Wc:=by rw[hWc];exact bw
 have r1:Whole Wc w4.heap.size 30 #[.slice AX 2 pX,.slice AY 2 pY,.slice AU 2 pU,.slice AV 1 pV,.slice AP 2 pP,.slice AE 1 pE,.slice AC 1 pC]:=by rw[hWc];exact((((((((Whole.new w4 _ _).alloc _).alloc _).alloc _).alloc _).alloc _).alloc _).alloc _).alloc _
 have s1:Whole Wc (w4.heap.size+1) 3 #[int i64 5,int i64 5]:=by rw[hWc];exact(((((((aM zs).alloc _).alloc _).alloc _).alloc _).alloc _).alloc _).alloc _
 have s2:Whole Wc (w4.heap.size+1+1) 3 #[int i64 3,int i64 5]:=by rw[hWc];exact((((((aM zs).alloc _).alloc _).alloc _).alloc _).alloc _).alloc _
 have s3:Whole Wc (w4.heap.size+1+1+1) 3 #[int i64 4,int i64 5]:=by rw[hWc];exact(((((aM zs).alloc _).alloc _).alloc _).alloc _).alloc _
 have s4:Whole Wc (w4.heap.size+1+1+1+1) 3 #[int i64 0]:=by rw[hWc];exact((((aM zs).alloc _).alloc _).alloc _).alloc _
 have s5:Whole Wc (w4.heap.size+1+1+1+1+1) 3 #[int i64 1,int i64 1]:=by rw[hWc];exact(((aM zs).alloc _).alloc _).alloc _
 have s6:Whole Wc (w4.heap.size+1+1+1+1+1+1) 3 #[int i64 3]:=by rw[hWc];exact((aM zs).alloc _).alloc _
 have s7:Whole Wc (w4.heap.size+1+1+1+1+1+1+1) 3 #[int i64 1]:=by rw[hWc];exact(aM zs).alloc _
 have r2:Whole Wc (w4.heap.size+1+1+1+1+1+1+1+1) 30 #[.slice (some ⟨w4.heap.size+1,0,none⟩) 2 2,.slice (some ⟨w4.heap.size+1+1,0,none⟩) 2 2,.slice (some ⟨w4.heap.size+1+1+1,0,none⟩) 2 2,.slice (some ⟨w4.heap.size+1+1+1+1,0,none⟩) 1 1,.slice (some ⟨w4.heap.size+1+1+1+1+1,0,none⟩) 2 2,.slice (some ⟨w4.heap.size+1+1+1+1+1+1,0,none⟩) 1 1,.slice (some ⟨w4.heap.size+1+1+1+1+1+1+1,0,none⟩) 1 1]:=by rw[hWc];exact aM zs
 have hl1:Lists Wc Wc.heap.size (some ⟨w4.heap.size,0,none⟩) 7 (fun i=>[AX,AY,AU,AV,AP,AE,AC].getD i none) (fun i=>[2,2,2,1,2,1,1].getD i 0) (fun i=>[pX,pY,pU,pV,pP,pE,pC].getD i 0):=bQ r1 fun i j hi hj=>by
  obtain rfl:j=0:=zo
  rcases(show i=0∨i=1∨i=2∨i=3∨i=4∨i=5∨i=6 by omega) with rfl|rfl|rfl|rfl|rfl|rfl|rfl <;> rfl
 have hl2:Lists Wc Wc.heap.size (some ⟨w4.heap.size+1+1+1+1+1+1+1+1,0,none⟩) 7 (fun i=>[some ⟨w4.heap.size+1,0,none⟩,some ⟨w4.heap.size+1+1,0,none⟩,some ⟨w4.heap.size+1+1+1,0,none⟩,some ⟨w4.heap.size+1+1+1+1,0,none⟩,some ⟨w4.heap.size+1+1+1+1+1,0,none⟩,some ⟨w4.heap.size+1+1+1+1+1+1,0,none⟩,some ⟨w4.heap.size+1+1+1+1+1+1+1,0,none⟩].getD i none) (fun i=>[2,2,2,1,2,1,1].getD i 0) (fun i=>[2,2,2,1,2,1,1].getD i 0):=bQ r2 fun i j hi hj=>by
  obtain rfl:j=0:=zo
  rcases(show i=0∨i=1∨i=2∨i=3∨i=4∨i=5∨i=6 by omega) with rfl|rfl|rfl|rfl|rfl|rfl|rfl <;> rfl
 have Yo:=NS (some ⟨w4.heap.size,0,none⟩) (some ⟨w4.heap.size+1+1+1+1+1+1+1+1,0,none⟩) 7 7 7 _ _ _ _ _ (fun i j=>([[5,5],[3,5],[4,5],[0],[1,1],[3],[1]].getD i []).getD j 0) Wc.heap.size Wc hl1 hl2 zD (fun i hi=>by
  rcases(show i=0∨i=1∨i=2∨i=3∨i=4∨i=5∨i=6 by omega) with rfl|rfl|rfl|rfl|rfl|rfl|rfl
  ·exact(hX.below bc).more bc.size
  ·exact(hY.below bc).more bc.size
  ·exact(hU.below bc).more bc.size
  ·exact(hV.below bc).more bc.size
  ·exact(hP.below bc).more bc.size
  ·exact(hE.below bc).more bc.size
  ·exact(hC.below bc).more bc.size) (fun i hi=>by
  rcases(show i=0∨i=1∨i=2∨i=3∨i=4∨i=5∨i=6 by omega) with rfl|rfl|rfl|rfl|rfl|rfl|rfl
  ·exact qY s1
  ·exact qY s2
  ·exact qY s3
  ·exact uV s4
  ·exact qY s5
  ·exact uV s6
  ·exact uV s7) (fun i hi=>by
  rcases(show i=0∨i=1∨i=2∨i=3∨i=4∨i=5∨i=6 by omega) with rfl|rfl|rfl|rfl|rfl|rfl|rfl <;> (show _≤maxLen) <;> decide)
 have HSame:=hid Yo
 have Rr:=hid hWc
 have P1:=hid (tU.out.below bc)
 clear Yo hWc bc hl1 hl2 r1 r2 s1 s2 s3 s4 s5 s6 s7 hX hY hU hV hP hE hC
 simp only[List.drop_succ_cons,List.drop_zero,Act.put,List.setIfInBounds_toArray,List.set_cons_succ,List.set_cons_zero]
 gi_wp2
 simp only[uP]
 gi_wp2_with (gi_at_call 32;rw[← Rr.out];refine HSame.out.mono ?_;rintro e w5 ⟨rfl,q,rfl⟩)
 exact⟨rfl,_,results_tmp rfl _ _ _,_,rfl,rfl,P1.out.below (below_drewN (Below.refl _ _) q)⟩
end
end Go.Proofs.YthaelabgfnnebaaGreat
