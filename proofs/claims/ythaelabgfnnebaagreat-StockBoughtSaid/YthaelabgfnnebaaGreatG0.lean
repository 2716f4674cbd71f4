/- ST -/
import Derived.Test.YthaelabgfnnebaaGreatE9
set_option maxRecDepth 100000
set_option maxHeartbeats 16000000
set_option linter.unusedVariables false
set_option linter.unusedSectionVars false
set_option linter.unusedSimpArgs false
open Go.IntKind(i64)
open Go.Lib(hid)
open Go.Proofs.Tryz
open Go.Value(int)
namespace Go.Proofs.YthaelabgfnnebaaGreat
section
open Go Go.Conc Go.ConcN Go.cu Go.Conc.Lib Go.aO Go.RowKit
open Go.Sort (grow)
attribute [local go_sem] Oper.semAt_some
variable[Inhabited aS]
theorem gV(m:Int)(G M C:Nat):(Tb m G M C).val=.agg #[int i64 10,int i64 m,.slice (some ⟨G,0,none⟩) 2 2,.slice (some ⟨M,0,none⟩) 4 4,.slice (some ⟨C,0,none⟩) 2 2]:=rfl
structure Sk(w W:World)(B G M C:Nat):Prop where
 at_:(Tb 1 G M C).At W W.heap.size
 tb:Ut W G M C
 box:Whole W B 26 #[int i64 10,int i64 1,.slice (some ⟨G,0,none⟩) 2 2,.slice (some ⟨M,0,none⟩) 4 4,.slice (some ⟨C,0,none⟩) 2 2]
 past:Below w.heap.size w W
theorem Sk.below{w W W':World}{B G M C:Nat}(h:Sk w W B G M C)(hb:Below W.heap.size W W'):Sk w W' B G M C:=
 ⟨h.at_.up hb,h.tb.of (fun b hl=>hb.block b hl),h.box.below hb h.box.lt,Below.next h.past hb⟩
section
variable{w:World}{B:Nat}{t:TypeId}{a b c d:Int}
theorem uX(h:Whole w B t #[int i64 a]):Ints w w.heap.size (some ⟨B,0,none⟩) 1 (fun i=>[a].getD i 0):=bT h fun i j hi hj=>by
 obtain rfl:i=0:=zo
 obtain rfl:j=0:=zo
 rfl
theorem q9(h:Whole w B t #[int i64 a,int i64 b]):Ints w w.heap.size (some ⟨B,0,none⟩) 2 (fun i=>[a,b].getD i 0):=bT h fun i j hi hj=>by
 obtain rfl:j=0:=zo
 rcases(show i=0∨i=1 by omega) with rfl|rfl <;> rfl
theorem VO(h:Whole w B t #[int i64 a,int i64 b,int i64 c,int i64 d]):Ints w w.heap.size (some ⟨B,0,none⟩) 4 (fun i=>[a,b,c,d].getD i 0):=bT h fun i j hi hj=>by
 obtain rfl:j=0:=zo
 rcases(show i=0∨i=1∨i=2∨i=3 by omega) with rfl|rfl|rfl|rfl <;> rfl
theorem Js(h:Whole w B t #[int i64 2,int i64 3]):Ints w w.heap.size (some ⟨B,0,none⟩) 2 rates:=bT h fun i j hi hj=>by
 obtain rfl:j=0:=zo
 rcases(show i=0∨i=1 by omega) with rfl|rfl <;> rfl
end
theorem SV.set1{W:World}{v x:Value}{l:List Int}{B:Nat}{t:TypeId}{cs:Array Value}(h:SV W v l)(hB:Whole W B t cs)(hne:∀o,∃i,i<l.length∧cs[o+i]?≠some (int i64 (l.getD i 0))):SV (W.setCell ⟨B,1,none⟩ x) v l:=by
 obtain⟨A,p,rfl,hi⟩:=h
 refine⟨A,p,rfl,fun hn=>?_⟩
 obtain⟨ad,rfl,hlt,hc⟩:=hi hn
 have hs:(W.setCell ⟨B,1,none⟩ x).heap.size=W.heap.size:=by simp[World.setCell]
 have hb:ad.block≠B:=fun e=>by
  obtain⟨blk,off,spot⟩:=ad
  simp only at e
  subst e
  obtain⟨i,hil,hx⟩:=hne off
  have h1:=hc i 0 hil zD
  rw[Nat.mul_one,Nat.add_zero] at h1
  cases spot with
  | none=>
    have h2:(⟨blk,off,none⟩:Addr).add i=⟨blk,off+i,none⟩:=by unfold Addr.add;split <;> simp_all
    rw[h2,hB.cell] at h1
    exact hx h1
  | some s=>
    unfold Whole at hB
    have h2:=hc 0 0 hn zD
    rw[Nat.mul_one,Nat.add_zero] at h2
    have h3:(⟨blk,off,some s⟩:Addr).add 0=⟨blk,off,some s⟩:=by unfold Addr.add;simp
    rw[h3] at h2
    unfold World.cell? at h2
    simp only[hB] at h2
    simp at h2
 refine⟨ad,rfl,by rw[hs];exact hlt,fun i j hi hj=>?_⟩
 refine Eq.trans (World.cell?_of_block (Below.heap_setCell _ _ _ _ ?_)) (hc i j hi hj)
 rw[aH]
 exact hb
def rZ(w:World)(x:Value)(w':World):Prop:=x=.bool true∧Past w w'
theorem kH(w:World):iM 8 #[] w (rZ w):=by
 have HE:=hid Jd
 refine ko func8 rfl zs ?_
 simp only[ntmps8,List.size_toArray,List.length_cons,List.length_nil,Nat.reduceAdd,Nat.reduceSub,Array.replicate_succ,Array.replicate_zero,List.push_toArray,List.append_toArray,List.nil_append,List.cons_append]
 repeat refine aj.seq ?_
 refine aj.item ?_
 gi_wp2
 repeat refine aj.seq ?_
 refine aj.item ?_
 gi_wp2_with (gi_at_call 24;refine(HE.out w).mono ?_;rintro e w1 ⟨G,M,C,rfl,hA1,hb1,hT1⟩;rw[gV])
 obtain⟨W2,hW2⟩:∃W,W=w1.alloc (.cells #[int i64 10,int i64 1,.slice (some ⟨G,0,none⟩) 2 2,.slice (some ⟨M,0,none⟩) 4 4,.slice (some ⟨C,0,none⟩) 2 2] 26):=⟨_,rfl⟩
 have b12:Below w1.heap.size w1 W2:=by rw[hW2];exact bw
 have K2:Hid (Sk w W2 w1.heap.size G M C):=hid ⟨hA1.up b12,hT1.of (fun b hl=>b12.block b hl),by rw[hW2];exact Whole.new _ _ _,Below.next hb1 b12⟩
 have HG:Hid (G<w1.heap.size∧M<w1.heap.size∧C<w1.heap.size):=hid ⟨hT1.1.lt,hT1.2.1.lt,hT1.2.2.lt⟩
 have HB:Hid (w.heap.size≤w1.heap.size):=hid hb1.size
 rw[← hW2]
 obtain⟨B,hB⟩:∃B,B=w1.heap.size:=⟨_,rfl⟩
 rw[← hB] at K2 HG HB⊢
 clear hW2 b12 hA1 hb1 hT1 hB
 have c0:W2.cell? ⟨B,0,none⟩=some (int i64 10):=K2.out.box.cell 0
 have c1:W2.cell? ⟨B,1,none⟩=some (int i64 1):=K2.out.box.cell 1
 have c2:W2.cell? ⟨B,2,none⟩=some (.slice (some ⟨G,0,none⟩) 2 2):=K2.out.box.cell 2
 have c3:W2.cell? ⟨B,3,none⟩=some (.slice (some ⟨M,0,none⟩) 4 4):=K2.out.box.cell 3
 have c4:W2.cell? ⟨B,4,none⟩=some (.slice (some ⟨C,0,none⟩) 2 2):=K2.out.box.cell 4
 repeat refine aj.seq ?_
 refine aj.item ?_
 obtain⟨Wa,hWa⟩:∃Wa,Wa=((W2.alloc (.cells #[int i64 3,int i64 5] 3)).alloc (.cells #[int i64 4,int i64 2,int i64 0,int i64 10] 3)).alloc (.cells #[int i64 3] 3):=⟨_,rfl⟩
 have ba:Below W2.heap.size W2 Wa:=by rw[hWa];exact bw
 have a1:Whole Wa W2.heap.size 3 #[int i64 3,int i64 5]:=by rw[hWa];exact((Whole.new W2 _ _).alloc _).alloc _
 have a2:Whole Wa (W2.heap.size+1) 3 #[int i64 4,int i64 2,int i64 0,int i64 10]:=by rw[hWa];exact(aM zs).alloc _
 have a3:Whole Wa (W2.heap.size+1+1) 3 #[int i64 3]:=by rw[hWa];exact aM zs
 have vb:=hid (db G M C Wa (K2.out.at_.up ba) (some ⟨W2.heap.size,0,none⟩) (some ⟨W2.heap.size+1,0,none⟩) (some ⟨W2.heap.size+1+1,0,none⟩) 2 4 1 (q9 a1) (VO a2) (uX a3))
 rw[gV] at vb
 have ki:=hid hWa
 have km:=hid ba
 clear hWa ba a1 a2 a3
 gi_wp2_with (gi_at_call 25;rw[← ki.out];refine vb.out.mono ?_;rintro e W3 ⟨vx,vy,rfl,sx,sy,hb3⟩)
 have Pp:Below W2.heap.size W2 W3:=Below.next km.out hb3
 have K3:=hid (K2.out.below Pp)
 have X3:=hid sx
 have Y3:=hid sy
 clear sx sy hb3 Pp K2 vb ki km
 clear c0 c1 c2 c3 c4
 have c0:W3.cell? ⟨B,0,none⟩=some (int i64 10):=K3.out.box.cell 0
 have c1:W3.cell? ⟨B,1,none⟩=some (int i64 1):=K3.out.box.cell 1
 have c2:W3.cell? ⟨B,2,none⟩=some (.slice (some ⟨G,0,none⟩) 2 2):=K3.out.box.cell 2
 have c3:W3.cell? ⟨B,3,none⟩=some (.slice (some ⟨M,0,none⟩) 4 4):=K3.out.box.cell 3
 have c4:W3.cell? ⟨B,4,none⟩=some (.slice (some ⟨C,0,none⟩) 2 2):=K3.out.box.cell 4
 repeat refine aj.seq ?_
 refine aj.item ?_
 have HC:=hid (bk G M C W3 K3.out.at_)
 rw[gV] at HC
 gi_wp2_with (gi_at_call 14;refine HC.out.mono ?_;rintro e Wn ⟨rfl,hbn⟩)
 obtain⟨W4,hW⟩:∃W,W=Wn:=⟨_,rfl⟩
 subst hW
 have dD:=hbn
 have K4:=hid (K3.out.below dD)
 have X4:=hid (X3.out.below dD)
 have Y4:=hid (Y3.out.below dD)
 clear dD HC K3 X3 Y3
 clear c0 c1 c2 c3 c4
 have c0:W4.cell? ⟨B,0,none⟩=some (int i64 10):=K4.out.box.cell 0
 have c1:W4.cell? ⟨B,1,none⟩=some (int i64 1):=K4.out.box.cell 1
 have c2:W4.cell? ⟨B,2,none⟩=some (.slice (some ⟨G,0,none⟩) 2 2):=K4.out.box.cell 2
 have c3:W4.cell? ⟨B,3,none⟩=some (.slice (some ⟨M,0,none⟩) 4 4):=K4.out.box.cell 3
 have c4:W4.cell? ⟨B,4,none⟩=some (.slice (some ⟨C,0,none⟩) 2 2):=K4.out.box.cell 4
 repeat refine aj.seq ?_
 refine aj.item ?_
 have HC:=hid (cr G M C W4 K4.out.at_)
 rw[gV] at HC
 gi_wp2_with (gi_at_call 10;refine HC.out.mono ?_;rintro e Wn ⟨vu,rfl,su,hbn⟩)
 obtain⟨W5,hW⟩:∃W,W=Wn:=⟨_,rfl⟩
 subst hW
 have dD:=hbn
 have K5:=hid (K4.out.below dD)
 have X5:=hid (X4.out.below dD)
 have Y5:=hid (Y4.out.below dD)
 have U5:=hid su
 clear dD HC K4 X4 Y4 su
 clear c0 c1 c2 c3 c4
 have c0:W5.cell? ⟨B,0,none⟩=some (int i64 10):=K5.out.box.cell 0
 have c1:W5.cell? ⟨B,1,none⟩=some (int i64 1):=K5.out.box.cell 1
 have c2:W5.cell? ⟨B,2,none⟩=some (.slice (some ⟨G,0,none⟩) 2 2):=K5.out.box.cell 2
 have c3:W5.cell? ⟨B,3,none⟩=some (.slice (some ⟨M,0,none⟩) 4 4):=K5.out.box.cell 3
 have c4:W5.cell? ⟨B,4,none⟩=some (.slice (some ⟨C,0,none⟩) 2 2):=K5.out.box.cell 4
 repeat refine aj.seq ?_
 refine aj.item ?_
 have HC:=hid (px G M C W5 K5.out.at_)
 rw[gV] at HC
 gi_wp2_with (gi_at_call 26;refine HC.out.mono ?_;rintro e Wn ⟨vv,rfl,sv,hbn⟩)
 obtain⟨W6,hW⟩:∃W,W=Wn:=⟨_,rfl⟩
 subst hW
 have dD:=hbn
 have K6:=hid (K5.out.below dD)
 have X6:=hid (X5.out.below dD)
 have Y6:=hid (Y5.out.below dD)
 have U6:=hid (U5.out.below dD)
 have V6:=hid sv
 clear dD HC K5 X5 Y5 U5 sv
 clear c0 c1 c2 c3 c4
 have c0:W6.cell? ⟨B,0,none⟩=some (int i64 10):=K6.out.box.cell 0
 have c1:W6.cell? ⟨B,1,none⟩=some (int i64 1):=K6.out.box.cell 1
 have c2:W6.cell? ⟨B,2,none⟩=some (.slice (some ⟨G,0,none⟩) 2 2):=K6.out.box.cell 2
 have c3:W6.cell? ⟨B,3,none⟩=some (.slice (some ⟨M,0,none⟩) 4 4):=K6.out.box.cell 3
 have c4:W6.cell? ⟨B,4,none⟩=some (.slice (some ⟨C,0,none⟩) 2 2):=K6.out.box.cell 4
 repeat refine aj.seq ?_
 refine aj.item ?_
 have HC:=hid (Q5 G M C W6 K6.out.at_)
 rw[gV] at HC
 gi_wp2_with (gi_at_call 27;refine HC.out.mono ?_;rintro e Wn ⟨rfl,hbn⟩)
 obtain⟨W7,hW⟩:∃W,W=Wn:=⟨_,rfl⟩
 subst hW
 have dD:=hbn
 have K7:=hid (K6.out.below dD)
 have X7:=hid (X6.out.below dD)
 have Y7:=hid (Y6.out.below dD)
 have U7:=hid (U6.out.below dD)
 have V7:=hid (V6.out.below dD)
 clear dD HC K6 X6 Y6 U6 V6
 clear c0 c1 c2 c3 c4
 have c0:W7.cell? ⟨B,0,none⟩=some (int i64 10):=K7.out.box.cell 0
 have c1:W7.cell? ⟨B,1,none⟩=some (int i64 1):=K7.out.box.cell 1
 have c2:W7.cell? ⟨B,2,none⟩=some (.slice (some ⟨G,0,none⟩) 2 2):=K7.out.box.cell 2
 have c3:W7.cell? ⟨B,3,none⟩=some (.slice (some ⟨M,0,none⟩) 4 4):=K7.out.box.cell 3
 have c4:W7.cell? ⟨B,4,none⟩=some (.slice (some ⟨C,0,none⟩) 2 2):=K7.out.box.cell 4
 repeat refine aj.seq ?_
 refine aj.item ?_
 have HC:=hid (QZ G M C W7 K7.out.at_)
 rw[gV] at HC
 gi_wp2_with (gi_at_call 27;refine HC.out.mono ?_;rintro e Wn ⟨rfl,hbn⟩)
 obtain⟨W8,hW⟩:∃W,W=Wn:=⟨_,rfl⟩
 subst hW
 have dD:=hbn
 have K8:=hid (K7.out.below dD)
 have X8:=hid (X7.out.below dD)
 have Y8:=hid (Y7.out.below dD)
 have U8:=hid (U7.out.below dD)
 have V8:=hid (V7.out.below dD)
 clear dD HC K7 X7 Y7 U7 V7
 clear c0 c1 c2 c3 c4
 have c0:W8.cell? ⟨B,0,none⟩=some (int i64 10):=K8.out.box.cell 0
 have c1:W8.cell? ⟨B,1,none⟩=some (int i64 1):=K8.out.box.cell 1
 have c2:W8.cell? ⟨B,2,none⟩=some (.slice (some ⟨G,0,none⟩) 2 2):=K8.out.box.cell 2
 have c3:W8.cell? ⟨B,3,none⟩=some (.slice (some ⟨M,0,none⟩) 4 4):=K8.out.box.cell 3
 have c4:W8.cell? ⟨B,4,none⟩=some (.slice (some ⟨C,0,none⟩) 2 2):=K8.out.box.cell 4
 repeat refine aj.seq ?_
 refine aj.item ?_
 have HC:=hid (cw G M C W8 K8.out.at_)
 rw[gV] at HC
 gi_wp2_with (gi_at_call 28;refine HC.out.mono ?_;rintro e Wn ⟨rfl,hbn⟩)
 obtain⟨W9,hW⟩:∃W,W=Wn.alloc (.cells #[int i64 0,int i64 1] 38):=⟨_,rfl⟩
 have dD:Below W8.heap.size W8 W9:=by rw[hW];exact Below.al hbn _
 have qA:Hid (Whole W9 Wn.heap.size 38 #[int i64 0,int i64 1]):=hid (by rw[hW];exact Whole.new _ _ _)
 obtain⟨BA,nZ⟩:∃B,B=Wn.heap.size:=⟨_,rfl⟩
 rw[← hW,← nZ]
 rw[← nZ] at qA
 have A9:=qA
 clear hW hbn nZ qA
 have K9:=hid (K8.out.below dD)
 have X9:=hid (X8.out.below dD)
 have Y9:=hid (Y8.out.below dD)
 have U9:=hid (U8.out.below dD)
 have V9:=hid (V8.out.below dD)
 clear dD HC K8 X8 Y8 U8 V8
 clear c0 c1 c2 c3 c4
 have c0:W9.cell? ⟨B,0,none⟩=some (int i64 10):=K9.out.box.cell 0
 have c1:W9.cell? ⟨B,1,none⟩=some (int i64 1):=K9.out.box.cell 1
 have c2:W9.cell? ⟨B,2,none⟩=some (.slice (some ⟨G,0,none⟩) 2 2):=K9.out.box.cell 2
 have c3:W9.cell? ⟨B,3,none⟩=some (.slice (some ⟨M,0,none⟩) 4 4):=K9.out.box.cell 3
 have c4:W9.cell? ⟨B,4,none⟩=some (.slice (some ⟨C,0,none⟩) 2 2):=K9.out.box.cell 4
 repeat refine aj.seq ?_
 refine aj.item ?_
 have HC:=hid (Yb G M C W9 K9.out.at_)
 rw[gV] at HC
 gi_wp2_with (gi_at_call 29;refine HC.out.mono ?_;rintro e Wn ⟨rfl,hbn⟩)
 obtain⟨Uu,hW⟩:∃W,W=Wn.alloc (.cells #[int i64 30,int i64 35] 38):=⟨_,rfl⟩
 have dD:Below W9.heap.size W9 Uu:=by rw[hW];exact Below.al hbn _
 have DS:Hid (Whole Uu Wn.heap.size 38 #[int i64 30,int i64 35]):=hid (by rw[hW];exact Whole.new _ _ _)
 obtain⟨FG,aw⟩:∃B,B=Wn.heap.size:=⟨_,rfl⟩
 rw[← hW,← aw]
 rw[← aw] at DS
 have ZL:=DS
 clear hW hbn aw DS
 have Yk:=hid (K9.out.below dD)
 have Kf:=hid (X9.out.below dD)
 have KB:=hid (Y9.out.below dD)
 have IT:=hid (U9.out.below dD)
 have J1:=hid (V9.out.below dD)
 have tj:=hid (A9.out.below dD A9.out.lt)
 clear dD HC K9 X9 Y9 U9 V9 A9
 clear c0 c1 c2 c3 c4
 have c0:Uu.cell? ⟨B,0,none⟩=some (int i64 10):=Yk.out.box.cell 0
 have c1:Uu.cell? ⟨B,1,none⟩=some (int i64 1):=Yk.out.box.cell 1
 have c2:Uu.cell? ⟨B,2,none⟩=some (.slice (some ⟨G,0,none⟩) 2 2):=Yk.out.box.cell 2
 have c3:Uu.cell? ⟨B,3,none⟩=some (.slice (some ⟨M,0,none⟩) 4 4):=Yk.out.box.cell 3
 have c4:Uu.cell? ⟨B,4,none⟩=some (.slice (some ⟨C,0,none⟩) 2 2):=Yk.out.box.cell 4
 repeat refine aj.seq ?_
 refine aj.item ?_
 have HC:=hid (VT G M C Uu Yk.out.at_)
 rw[gV] at HC
 gi_wp2_with (gi_at_call 12;refine HC.out.mono ?_;rintro e Wn ⟨rfl,hbn⟩)
 obtain⟨EA,hW⟩:∃W,W=Wn.alloc (.cells #[int i64 2,int i64 2] 38):=⟨_,rfl⟩
 have dD:Below Uu.heap.size Uu EA:=by rw[hW];exact Below.al hbn _
 have qD:Hid (Whole EA Wn.heap.size 38 #[int i64 2,int i64 2]):=hid (by rw[hW];exact Whole.new _ _ _)
 obtain⟨BD,xF⟩:∃B,B=Wn.heap.size:=⟨_,rfl⟩
 rw[← hW,← xF]
 rw[← xF] at qD
 have tA:=qD
 clear hW hbn xF qD
 have Yl:=hid (Yk.out.below dD)
 have Ir:=hid (Kf.out.below dD)
 have si:=hid (KB.out.below dD)
 have I0:=hid (IT.out.below dD)
 have J':=hid (J1.out.below dD)
 have tk:=hid (tj.out.below dD tj.out.lt)
 have ZM:=hid (ZL.out.below dD ZL.out.lt)
 clear dD HC Yk Kf KB IT J1 tj ZL
 clear c0 c1 c2 c3 c4
 have c0:EA.cell? ⟨B,0,none⟩=some (int i64 10):=Yl.out.box.cell 0
 have c1:EA.cell? ⟨B,1,none⟩=some (int i64 1):=Yl.out.box.cell 1
 have c2:EA.cell? ⟨B,2,none⟩=some (.slice (some ⟨G,0,none⟩) 2 2):=Yl.out.box.cell 2
 have c3:EA.cell? ⟨B,3,none⟩=some (.slice (some ⟨M,0,none⟩) 4 4):=Yl.out.box.cell 3
 have c4:EA.cell? ⟨B,4,none⟩=some (.slice (some ⟨C,0,none⟩) 2 2):=Yl.out.box.cell 4
 repeat refine aj.seq ?_
 refine aj.item ?_
 obtain⟨Wa,hWa⟩:∃Wa,Wa=EA.alloc (.cells #[int i64 2,int i64 3] 3):=⟨_,rfl⟩
 have ba:Below EA.heap.size EA Wa:=by rw[hWa];exact bw
 have a1:Whole Wa EA.heap.size 3 #[int i64 2,int i64 3]:=by rw[hWa];exact Whole.new _ _ _
 have HC:=hid (lf G M C Wa (Yl.out.at_.up ba) (some ⟨EA.heap.size,0,none⟩) 2 (Js a1))
 rw[gV] at HC
 have ki:=hid hWa
 have km:=hid ba
 clear hWa ba a1
 gi_wp2_with (gi_at_call 9;rw[← ki.out];refine HC.out.mono ?_;rintro e Uv ⟨vp,rfl,sp,Jl⟩)
 have dD:Below EA.heap.size EA Uv:=Below.next km.out Jl
 have Qq:=hid (Yl.out.below dD)
 have vI:=hid (Ir.out.below dD)
 have Lk:=hid (si.out.below dD)
 have Jn:=hid (I0.out.below dD)
 have Kb:=hid (J'.out.below dD)
 have tl:=hid (tk.out.below dD tk.out.lt)
 have ZN:=hid (ZM.out.below dD ZM.out.lt)
 have tB:=hid (tA.out.below dD tA.out.lt)
 have IM:=hid sp
 clear dD Jl sp HC ki km Yl Ir si I0 J' tk ZM tA
 clear c0 c1 c2 c3 c4
 have c0:Uv.cell? ⟨B,0,none⟩=some (int i64 10):=Qq.out.box.cell 0
 have c1:Uv.cell? ⟨B,1,none⟩=some (int i64 1):=Qq.out.box.cell 1
 have c2:Uv.cell? ⟨B,2,none⟩=some (.slice (some ⟨G,0,none⟩) 2 2):=Qq.out.box.cell 2
 have c3:Uv.cell? ⟨B,3,none⟩=some (.slice (some ⟨M,0,none⟩) 4 4):=Qq.out.box.cell 3
 have c4:Uv.cell? ⟨B,4,none⟩=some (.slice (some ⟨C,0,none⟩) 2 2):=Qq.out.box.cell 4
 repeat refine aj.seq ?_
 refine aj.item ?_
 have HC:=hid (Va G M C Uv Qq.out.at_)
 rw[gV] at HC
 gi_wp2_with (gi_at_call 13;refine HC.out.mono ?_;rintro e Wn ⟨ve,rfl,se,hbn⟩)
 obtain⟨gj,hW⟩:∃W,W=Wn:=⟨_,rfl⟩
 subst hW
 have dD:=hbn
 have Ym:=hid (Qq.out.below dD)
 have Kp:=hid (vI.out.below dD)
 have Ln:=hid (Lk.out.below dD)
 have JP:=hid (Jn.out.below dD)
 have kz:=hid (Kb.out.below dD)
 have tn:=hid (tl.out.below dD tl.out.lt)
 have ZO:=hid (ZN.out.below dD ZN.out.lt)
 have tD:=hid (tB.out.below dD tB.out.lt)
 have IN:=hid (IM.out.below dD)
 have FO:=hid se
 clear dD HC Qq vI Lk Jn Kb tl ZN tB IM se
 clear c0 c1 c2 c3 c4
 have c0:gj.cell? ⟨B,0,none⟩=some (int i64 10):=Ym.out.box.cell 0
 have c1:gj.cell? ⟨B,1,none⟩=some (int i64 1):=Ym.out.box.cell 1
 have c2:gj.cell? ⟨B,2,none⟩=some (.slice (some ⟨G,0,none⟩) 2 2):=Ym.out.box.cell 2
 have c3:gj.cell? ⟨B,3,none⟩=some (.slice (some ⟨M,0,none⟩) 4 4):=Ym.out.box.cell 3
 have c4:gj.cell? ⟨B,4,none⟩=some (.slice (some ⟨C,0,none⟩) 2 2):=Ym.out.box.cell 4
 repeat refine aj.seq ?_
 refine aj.item ?_
 have HC:=hid (Ov G M C gj Ym.out.at_)
 rw[gV] at HC
 gi_wp2_with (gi_at_call 30;refine HC.out.mono ?_;rintro e Wn ⟨rfl,hbn⟩)
 obtain⟨Uw,hW⟩:∃W,W=Wn:=⟨_,rfl⟩
 subst hW
 have dD:=hbn
 have ID:=hid (Ym.out.below dD)
 have Ks:=hid (Kp.out.below dD)
 have Lo:=hid (Ln.out.below dD)
 have JS:=hid (JP.out.below dD)
 have gi:=hid (kz.out.below dD)
 have tp:=hid (tn.out.below dD tn.out.lt)
 have ZP:=hid (ZO.out.below dD ZO.out.lt)
 have tE:=hid (tD.out.below dD tD.out.lt)
 have IP:=hid (IN.out.below dD)
 have Ge:=hid (FO.out.below dD)
 clear dD HC Ym Kp Ln JP kz tn ZO tD IN FO
 clear c0 c1 c2 c3 c4
 repeat refine aj.seq ?_
 refine aj.item ?_
 gi_wp2
 repeat refine aj.seq ?_
 refine aj.cond_false rfl ?_
 refine aj.skip ?_
 repeat refine aj.seq ?_
 refine aj.item ?_
 have qa0:∀d os,(grow (redrawn Uw d) os).cell? ⟨BA,0,none⟩=some (int i64 0):=cell_regrown (tp.out.cell 0)
 have qa1:∀d os,(grow (redrawn Uw d) os).cell? ⟨BA,1,none⟩=some (int i64 1):=cell_regrown (tp.out.cell 1)
 have qw0:∀d os,(grow (redrawn Uw d) os).cell? ⟨FG,0,none⟩=some (int i64 30):=cell_regrown (ZP.out.cell 0)
 have qw1:∀d os,(grow (redrawn Uw d) os).cell? ⟨FG,1,none⟩=some (int i64 35):=cell_regrown (ZP.out.cell 1)
 have qd0:∀d os,(grow (redrawn Uw d) os).cell? ⟨BD,0,none⟩=some (int i64 2):=cell_regrown (tE.out.cell 0)
 have qd1:∀d os,(grow (redrawn Uw d) os).cell? ⟨BD,1,none⟩=some (int i64 2):=cell_regrown (tE.out.cell 1)
 have Lz:∀ (a b:Int) d os,CallsIn FF 0 prog 31 #[int i64 a,int i64 b] (grow (redrawn Uw d) os) fun e w''=>e=.returned (.agg #[int i64 a,int i64 b])∧∃p:Regrown,w''=grow (redrawn Uw p.d) p.os:=fun a b d os=>CallsIn.regrown_of (re a b _)
 gi_wp2
 refine wpIn_region_quiet_below rfl zk zk ?_
 repeat (quiet_step_in (exact Lz _ _ _ _))
 refine wpQuietIn_nil ?_
 rintro w' ⟨⟨dq,osq⟩,rfl⟩
 have dD:=below_regrown Uw dq osq
 have xZ:=hid (ID.out.below dD)
 have sf:=hid (Ks.out.below dD)
 have sk:=hid (Lo.out.below dD)
 have rS:=hid (JS.out.below dD)
 have sd:=hid (gi.out.below dD)
 have rL:=hid (IP.out.below dD)
 have rj:=hid (Ge.out.below dD)
 clear dD ID Ks Lo JS gi IP Ge tp ZP tE qa0 qa1 qw0 qw1 qd0 qd1 Lz
 simp only at xZ sf sk rS sd rL rj⊢
 generalize grow (redrawn Uw dq) osq=Yo at xZ sf sk rS sd rL rj⊢
 have c0:Yo.cell? ⟨B,0,none⟩=some (int i64 10):=xZ.out.box.cell 0
 have c1:Yo.cell? ⟨B,1,none⟩=some (int i64 1):=xZ.out.box.cell 1
 have c2:Yo.cell? ⟨B,2,none⟩=some (.slice (some ⟨G,0,none⟩) 2 2):=xZ.out.box.cell 2
 have c3:Yo.cell? ⟨B,3,none⟩=some (.slice (some ⟨M,0,none⟩) 4 4):=xZ.out.box.cell 3
 have c4:Yo.cell? ⟨B,4,none⟩=some (.slice (some ⟨C,0,none⟩) 2 2):=xZ.out.box.cell 4
 have f1:=xZ.out.box.thaw
 show aj _ _ _ _ _
 repeat refine aj.seq ?_
 refine aj.cond_false rfl ?_
 refine aj.skip ?_
 repeat refine aj.seq ?_
 refine aj.item ?_
 gi_wp2
 obtain⟨KM,sI⟩:∃W,W=Yo.setCell ⟨B,1,none⟩ (int i64 0):=⟨_,rfl⟩
 have oc:KM.heap.size=Yo.heap.size:=by rw[sI];simp[World.setCell]
 have Ms:Whole KM B 26 #[int i64 10,int i64 0,.slice (some ⟨G,0,none⟩) 2 2,.slice (some ⟨M,0,none⟩) 4 4,.slice (some ⟨C,0,none⟩) 2 2]:=by rw[sI];exact xZ.out.box.set 1 (int i64 0)
 have hne:∀ {q:Nat},q<B→q≠B:=fun h=>zo
 have lL:(Tb 0 G M C).At KM KM.heap.size:=by
  have hk:=xZ.out.at_
  have no:∀ (q:Nat) (ad:Addr),some (⟨q,0,none⟩:Addr)=some ad→q<B→ad.block≠B:=fun q ad e hq=>by cases e;exact hne hq
  rw[oc,sI]
  exact⟨hk.g.bQ (p:=⟨B,1,none⟩) (fun ad e _=>no G ad e HG.out.1) _,hk.m.bQ (p:=⟨B,1,none⟩) (fun ad e _=>no M ad e HG.out.2.1) _,hk.c.bQ (p:=⟨B,1,none⟩) (fun ad e _=>no C ad e HG.out.2.2) _,hk.ng,hk.nm,hk.nc,hk.name⟩
 have hT16:Ut KM G M C:=by rw[sI];exact⟨xZ.out.tb.1.other (hne HG.out.1) _,xZ.out.tb.2.1.other (hne HG.out.2.1) _,xZ.out.tb.2.2.other (hne HG.out.2.2) _⟩
 have hB0:B<Yo.heap.size:=xZ.out.box.lt
 have pn:∀o,∃i,i<([5,5]:List Int).length∧(#[int i64 10,int i64 1,.slice (some ⟨G,0,none⟩) 2 2,.slice (some ⟨M,0,none⟩) 4 4,.slice (some ⟨C,0,none⟩) 2 2]:Array Value)[o+i]?≠some (int i64 (([5,5]:List Int).getD i 0)):=fun o=>by
  rcases o with _|_|_|_|_|o <;> exact⟨0,zD,zs⟩
 have Kx:=hid (by rw[sI];exact sf.out.set1 xZ.out.box pn:SV KM vx [5,5])
 clear pn
 have pr:∀o,∃i,i<([3,5]:List Int).length∧(#[int i64 10,int i64 1,.slice (some ⟨G,0,none⟩) 2 2,.slice (some ⟨M,0,none⟩) 4 4,.slice (some ⟨C,0,none⟩) 2 2]:Array Value)[o+i]?≠some (int i64 (([3,5]:List Int).getD i 0)):=fun o=>by
  rcases o with _|_|_|_|_|o <;> exact⟨0,zD,zs⟩
 have Lq:=hid (by rw[sI];exact sk.out.set1 xZ.out.box pr:SV KM vy [3,5])
 clear pr
 have pg:∀o,∃i,i<([4,5]:List Int).length∧(#[int i64 10,int i64 1,.slice (some ⟨G,0,none⟩) 2 2,.slice (some ⟨M,0,none⟩) 4 4,.slice (some ⟨C,0,none⟩) 2 2]:Array Value)[o+i]?≠some (int i64 (([4,5]:List Int).getD i 0)):=fun o=>by
  rcases o with _|_|_|_|_|o <;> exact⟨0,zD,zs⟩
 have J0:=hid (by rw[sI];exact rS.out.set1 xZ.out.box pg:SV KM vu [4,5])
 clear pg
 have pj:∀o,∃i,i<([0]:List Int).length∧(#[int i64 10,int i64 1,.slice (some ⟨G,0,none⟩) 2 2,.slice (some ⟨M,0,none⟩) 4 4,.slice (some ⟨C,0,none⟩) 2 2]:Array Value)[o+i]?≠some (int i64 (([0]:List Int).getD i 0)):=fun o=>by
  rcases o with _|_|_|_|_|o <;> exact⟨0,zD,zs⟩
 have Kd:=hid (by rw[sI];exact sd.out.set1 xZ.out.box pj:SV KM vv [0])
 clear pj
 have pf:∀o,∃i,i<([1,1]:List Int).length∧(#[int i64 10,int i64 1,.slice (some ⟨G,0,none⟩) 2 2,.slice (some ⟨M,0,none⟩) 4 4,.slice (some ⟨C,0,none⟩) 2 2]:Array Value)[o+i]?≠some (int i64 (([1,1]:List Int).getD i 0)):=fun o=>by
  rcases o with _|_|_|_|_|o
  ·exact⟨0,zD,zs⟩
  ·exact⟨1,zD,zs⟩
  all_goals exact⟨0,zD,zs⟩
 have IS:=hid (by rw[sI];exact rL.out.set1 xZ.out.box pf:SV KM vp [1,1])
 clear pf
 have pd:∀o,∃i,i<([3]:List Int).length∧(#[int i64 10,int i64 1,.slice (some ⟨G,0,none⟩) 2 2,.slice (some ⟨M,0,none⟩) 4 4,.slice (some ⟨C,0,none⟩) 2 2]:Array Value)[o+i]?≠some (int i64 (([3]:List Int).getD i 0)):=fun o=>by
  rcases o with _|_|_|_|_|o <;> exact⟨0,zD,zs⟩
 have Gk:=hid (by rw[sI];exact rj.out.set1 xZ.out.box pd:SV KM ve [3])
 clear pd
 have jx:Hid (Below w.heap.size w KM):=hid (by rw[sI];exact xZ.out.past.setCell HB.out _)
 have i6:=hid (yP G M C KM hT16 lL)
 rw[gV] at i6
 have d0:=Ms.cell 0
 have d1:=Ms.cell 1
 have d2:=Ms.cell 2
 have d3:=Ms.cell 3
 have d4:=Ms.cell 4
 rw[← sI]
 clear sI oc hne lL hT16 hB0 xZ f1 c0 c1 c2 c3 c4 Ms sf sk rS sd rL rj
 repeat refine aj.seq ?_
 refine aj.gq 1 zD ?_
 simp only[List.take_succ_cons,List.take_zero]
 gi_wp2
 refine ig rfl rfl rfl (enters_of func17 zk rfl) (Rc:=PE KM) (args:=#[.agg #[int i64 10,int i64 0,.slice (some ⟨G,0,none⟩) 2 2,.slice (some ⟨M,0,none⟩) 4 4,.slice (some ⟨C,0,none⟩) 2 2]]) (by simp only[List.map_toArray,List.map_cons,List.map_nil];rfl) i6.out ?_
 rintro x w4 ⟨vc,rfl,hown,hpast⟩
 have C4:Hid (SV w4 vc [1]):=hid (SV.own hown)
 have uB:Hid (Past w w4):=hid (Past.of jx.out hpast)
 have X4:=hid (Kx.out.past hpast)
 have Y4:=hid (Lq.out.past hpast)
 have U4:=hid (J0.out.past hpast)
 have V4:=hid (Kd.out.past hpast)
 have P4:=hid (IS.out.past hpast)
 have E4:=hid (Gk.out.past hpast)
 clear hown hpast d0 d1 d2 d3 d4 i6 jx Kx Lq J0 Kd IS Gk
 obtain⟨AX,pX,rfl,hX⟩:=X4.out
 obtain⟨AY,pY,rfl,hY⟩:=Y4.out
 obtain⟨AU,pU,rfl,hU⟩:=U4.out
 obtain⟨AV,pV,rfl,hV⟩:=V4.out
 obtain⟨AP,pP,rfl,hP⟩:=P4.out
 obtain⟨AE,pE,rfl,hE⟩:=E4.out
 obtain⟨AC,pC,rfl,hC⟩:=C4.out
 simp only[List.length_cons,List.length_nil,Nat.zero_add,Nat.reduceAdd] at hX hY hU hV hP hE hC
 obtain⟨Wc,hWc⟩:∃Wc,Wc=((((((((w4.alloc (.cells #[.slice AX 2 pX,.slice AY 2 pY,.slice AU 2 pU,.slice AV 1 pV,.slice AP 2 pP,.slice AE 1 pE,.slice AC 1 pC] 30)).alloc (.cells #[int i64 5,int i64 5] 3)).alloc (.cells #[int i64 3,int i64 5] 3)).alloc (.cells #[int i64 4,int i64 5] 3)).alloc (.cells #[int i64 0] 3)).alloc (.cells #[int i64 1,int i64 1] 3)).alloc (.cells #[int i64 3] 3)).alloc (.cells #[int i64 1] 3)).alloc (.cells #[.slice (some ⟨w4.heap.size+1,0,none⟩) 2 2,.slice (some ⟨w4.heap.size+1+1,0,none⟩) 2 2,.slice (some ⟨w4.heap.size+1+1+1,0,none⟩) 2 2,.slice (some ⟨w4.heap.size+1+1+1+1,0,none⟩) 1 1,.slice (some ⟨w4.heap.size+1+1+1+1+1,0,none⟩) 2 2,.slice (some ⟨w4.heap.size+1+1+1+1+1+1,0,none⟩) 1 1,.slice (some ⟨w4.heap.size+1+1+1+1+1+1+1,0,none⟩) 1 1] 30):=⟨_,rfl⟩
 have bc:Below w4.heap.size w4 Wc:=by rw[hWc];exact bw
 have r1:Whole Wc w4.heap.size 30 #[.slice AX 2 pX,.slice AY 2 pY,.slice AU 2 pU,.slice AV 1 pV,.slice AP 2 pP,.slice AE 1 pE,.slice AC 1 pC]:=by rw[hWc];exact((((((((Whole.new w4 _ _).alloc _).alloc _).alloc _).alloc _).alloc _).alloc _).alloc _).alloc _
 have s1:Whole Wc (w4.heap.size+1) 3 #[int i64 5,int i64 5]:=by rw[hWc];exact(((((((aM zs).alloc _).alloc _).alloc _).alloc _).alloc _).alloc _).alloc _
 have s2:Whole Wc (w4.heap.size+1+1) 3 #[int i64 3,int i64 5]:=by rw[hWc];exact((((((aM zs).alloc _).alloc _).alloc _).alloc _).alloc _).alloc _
 have s3:Whole Wc (w4.heap.size+1+1+1) 3 #[int i64 4,int i64 5]:=by rw[hWc];exact(((((aM zs).alloc _).alloc _).alloc _).alloc _).alloc _
 have s4:Whole Wc (w4.heap.size+1+1+1+1) 3 #[int i64 0]:=by rw[hWc];exact((((aM zs).alloc _).alloc _).alloc _).alloc _
 have s5:Whole Wc (w4.heap.size+1+1+1+1+1) 3 #[int i64 1,int i64 1]:=by rw[hWc];exact(((aM zs).alloc _).alloc _).alloc _
 have s6:Whole Wc (w4.heap.size+1+1+1+1+1+1) 3 #[int i64 3]:=by rw[hWc];exact((aM zs).alloc _).alloc _
 have s7:Whole Wc (w4.heap.size+1+1+1+1+1+1+1) 3 #[int i64 1]:=by rw[hWc];exact(aM zs).alloc _
 have r2:Whole Wc (w4.heap.size+1+1+1+1+1+1+1+1) 30 #[.slice (some ⟨w4.heap.size+1,0,none⟩) 2 2,.slice (some ⟨w4.heap.size+1+1,0,none⟩) 2 2,.slice (some ⟨w4.heap.size+1+1+1,0,none⟩) 2 2,.slice (some ⟨w4.heap.size+1+1+1+1,0,none⟩) 1 1,.slice (some ⟨w4.heap.size+1+1+1+1+1,0,none⟩) 2 2,.slice (some ⟨w4.heap.size+1+1+1+1+1+1,0,none⟩) 1 1,.slice (some ⟨w4.heap.size+1+1+1+1+1+1+1,0,none⟩) 1 1]:=by rw[hWc];exact aM zs
 have hl1:Lists Wc Wc.heap.size (some ⟨w4.heap.size,0,none⟩) 7 (fun i=>[AX,AY,AU,AV,AP,AE,AC].getD i none) (fun i=>[2,2,2,1,2,1,1].getD i 0) (fun i=>[pX,pY,pU,pV,pP,pE,pC].getD i 0):=bT r1 fun i j hi hj=>by
  obtain rfl:j=0:=zo
  rcases(show i=0∨i=1∨i=2∨i=3∨i=4∨i=5∨i=6 by omega) with rfl|rfl|rfl|rfl|rfl|rfl|rfl <;> rfl
 have hl2:Lists Wc Wc.heap.size (some ⟨w4.heap.size+1+1+1+1+1+1+1+1,0,none⟩) 7 (fun i=>[some ⟨w4.heap.size+1,0,none⟩,some ⟨w4.heap.size+1+1,0,none⟩,some ⟨w4.heap.size+1+1+1,0,none⟩,some ⟨w4.heap.size+1+1+1+1,0,none⟩,some ⟨w4.heap.size+1+1+1+1+1,0,none⟩,some ⟨w4.heap.size+1+1+1+1+1+1,0,none⟩,some ⟨w4.heap.size+1+1+1+1+1+1+1,0,none⟩].getD i none) (fun i=>[2,2,2,1,2,1,1].getD i 0) (fun i=>[2,2,2,1,2,1,1].getD i 0):=bT r2 fun i j hi hj=>by
  obtain rfl:j=0:=zo
  rcases(show i=0∨i=1∨i=2∨i=3∨i=4∨i=5∨i=6 by omega) with rfl|rfl|rfl|rfl|rfl|rfl|rfl <;> rfl
 have YA:=NZ (some ⟨w4.heap.size,0,none⟩) (some ⟨w4.heap.size+1+1+1+1+1+1+1+1,0,none⟩) 7 7 7 _ _ _ _ _ (fun i j=>([[5,5],[3,5],[4,5],[0],[1,1],[3],[1]].getD i []).getD j 0) Wc.heap.size Wc hl1 hl2 zD (fun i hi=>by
  rcases(show i=0∨i=1∨i=2∨i=3∨i=4∨i=5∨i=6 by omega) with rfl|rfl|rfl|rfl|rfl|rfl|rfl
  ·exact(hX.below bc).more bc.size
  ·exact(hY.below bc).more bc.size
  ·exact(hU.below bc).more bc.size
  ·exact(hV.below bc).more bc.size
  ·exact(hP.below bc).more bc.size
  ·exact(hE.below bc).more bc.size
  ·exact(hC.below bc).more bc.size) (fun i hi=>by
  rcases(show i=0∨i=1∨i=2∨i=3∨i=4∨i=5∨i=6 by omega) with rfl|rfl|rfl|rfl|rfl|rfl|rfl
  ·exact q9 s1
  ·exact q9 s2
  ·exact q9 s3
  ·exact uX s4
  ·exact q9 s5
  ·exact uX s6
  ·exact uX s7) (fun i hi=>by
  rcases(show i=0∨i=1∨i=2∨i=3∨i=4∨i=5∨i=6 by omega) with rfl|rfl|rfl|rfl|rfl|rfl|rfl <;> (show _≤maxLen) <;> decide)
 have HSame:=hid YA
 have S6:=hid hWc
 have SD:=hid (uB.out.below bc)
 clear YA hWc bc hl1 hl2 r1 r2 s1 s2 s3 s4 s5 s6 s7 hX hY hU hV hP hE hC
 simp only[List.drop_succ_cons,List.drop_zero,Act.put,List.setIfInBounds_toArray,List.set_cons_succ,List.set_cons_zero]
 gi_wp2
 simp only[uR]
 gi_wp2_with (gi_at_call 32;rw[← S6.out];refine HSame.out.mono ?_;rintro e w5 ⟨rfl,q,rfl⟩)
 exact⟨rfl,_,results_tmp rfl _ _ _,_,rfl,rfl,SD.out.below (below_drewN (Below.refl _ _) q)⟩
end
end Go.Proofs.YthaelabgfnnebaaGreat
