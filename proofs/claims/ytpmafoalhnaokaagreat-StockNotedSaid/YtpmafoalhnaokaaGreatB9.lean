/- ST TN8 LW LE LV TN9 -/
import Derived.Test.YtpmafoalhnaokaaGreatB8
set_option maxRecDepth 100000
set_option maxHeartbeats 16000000
set_option linter.unusedVariables false
set_option linter.unusedSectionVars false
set_option linter.unusedSimpArgs false
open Go.IntKind(i64)
open Go.Lib(hid)
open Go.Proofs.Tryz
open Go.Value(int)
namespace Go.Proofs.YtpmafoalhnaokaaGreat
section
open Go Go.Conc Go.ConcN Go.cu Go.Conc.Lib Go.aP Go.RowKit
open Go.Sort (grow)
attribute [local go_sem] Oper.semAt_some
variable[Inhabited aV]
theorem iD(m:Int)(G M C:Nat):(Tb m G M C).val=.agg #[int i64 10,int i64 m,.slice (some ⟨G,0,none⟩) 2 2,.slice (some ⟨M,0,none⟩) 4 4,.slice (some ⟨C,0,none⟩) 2 2]:=rfl
structure Sk(w W:World)(B G M C:Nat):Prop where
 at_:(Tb 1 G M C).At W W.heap.size
 tb:Xj W G M C
 box:Whole W B 26 #[int i64 10,int i64 1,.slice (some ⟨G,0,none⟩) 2 2,.slice (some ⟨M,0,none⟩) 4 4,.slice (some ⟨C,0,none⟩) 2 2]
 past:Below w.heap.size w W
theorem Sk.below{w W W':World}{B G M C:Nat}(h:Sk w W B G M C)(hb:Below W.heap.size W W'):Sk w W' B G M C:=
 ⟨h.at_.up hb,h.tb.of (fun b hl=>hb.block b hl),h.box.below hb h.box.lt,Below.next h.past hb⟩
section
variable{w:World}{B:Nat}{t:TypeId}{a b c d:Int}
theorem wN(h:Whole w B t #[int i64 a]):Ints w w.heap.size (some ⟨B,0,none⟩) 1 (fun i=>[a].getD i 0):=bV h fun i j hi hj=>by
 obtain rfl:i=0:=zo
 obtain rfl:j=0:=zo
 rfl
theorem sF(h:Whole w B t #[int i64 a,int i64 b]):Ints w w.heap.size (some ⟨B,0,none⟩) 2 (fun i=>[a,b].getD i 0):=bV h fun i j hi hj=>by
 obtain rfl:j=0:=zo
 rcases(show i=0∨i=1 by omega) with rfl|rfl <;> rfl
theorem YE(h:Whole w B t #[int i64 a,int i64 b,int i64 c,int i64 d]):Ints w w.heap.size (some ⟨B,0,none⟩) 4 (fun i=>[a,b,c,d].getD i 0):=bV h fun i j hi hj=>by
 obtain rfl:j=0:=zo
 rcases(show i=0∨i=1∨i=2∨i=3 by omega) with rfl|rfl|rfl|rfl <;> rfl
theorem Ll(h:Whole w B t #[int i64 2,int i64 3]):Ints w w.heap.size (some ⟨B,0,none⟩) 2 rates:=bV h fun i j hi hj=>by
 obtain rfl:j=0:=zo
 rcases(show i=0∨i=1 by omega) with rfl|rfl <;> rfl
end
theorem SV.set1{W:World}{v x:Value}{l:List Int}{B:Nat}{t:TypeId}{cs:Array Value}(h:SV W v l)(hB:Whole W B t cs)(hne:∀o,∃i,i<l.length∧cs[o+i]?≠some (int i64 (l.getD i 0))):SV (W.setCell ⟨B,1,none⟩ x) v l:=by
 obtain⟨A,p,rfl,hi⟩:=h
 refine⟨A,p,rfl,fun hn=>?_⟩
 obtain⟨ad,rfl,hlt,hc⟩:=hi hn
 have hs:(W.setCell ⟨B,1,none⟩ x).heap.size=W.heap.size:=by simp[World.setCell]
 have hb:ad.block≠B:=fun e=>by
  obtain⟨blk,off,spot⟩:=ad
  simp only at e
  subst e
  obtain⟨i,hil,hx⟩:=hne off
  have h1:=hc i 0 hil zD
  rw[Nat.mul_one,Nat.add_zero] at h1
  cases spot with
  | none=>
    have h2:(⟨blk,off,none⟩:Addr).add i=⟨blk,off+i,none⟩:=by unfold Addr.add;split <;> simp_all
    rw[h2,hB.cell] at h1
    exact hx h1
  | some s=>
    unfold Whole at hB
    have h2:=hc 0 0 hn zD
    rw[Nat.mul_one,Nat.add_zero] at h2
    have h3:(⟨blk,off,some s⟩:Addr).add 0=⟨blk,off,some s⟩:=by unfold Addr.add;simp
    rw[h3] at h2
    unfold World.cell? at h2
    simp only[hB] at h2
    simp at h2
 refine⟨ad,rfl,by rw[hs];exact hlt,fun i j hi hj=>?_⟩
 refine Eq.trans (World.cell?_of_block (Below.heap_setCell _ _ _ _ ?_)) (hc i j hi hj)
 rw[aH]
 exact hb
def uj(w:World)(x:Value)(w':World):Prop:=x=.bool true∧Past w w'
theorem kT(w:World):jc 6 #[] w (uj w):=by
 have HE:=hid KP
 refine kM func6 rfl zs ?_
 simp only[ntmps6,List.size_toArray,List.length_cons,List.length_nil,Nat.reduceAdd,Nat.reduceSub,Array.replicate_succ,Array.replicate_zero,List.push_toArray,List.append_toArray,List.nil_append,List.cons_append]
 repeat refine aj.seq ?_
 refine aj.item ?_
 gi_wp2
 repeat refine aj.seq ?_
 refine aj.item ?_
 gi_wp2_with (gi_at_call 17;refine(HE.out w).mono ?_;rintro e w1 ⟨G,M,C,rfl,hA1,hb1,hT1⟩;rw[iD])
 obtain⟨W2,hW2⟩:∃W,W=w1.alloc (.cells #[int i64 10,int i64 1,.slice (some ⟨G,0,none⟩) 2 2,.slice (some ⟨M,0,none⟩) 4 4,.slice (some ⟨C,0,none⟩) 2 2] 26):=zE
 have b12:Below w1.heap.size w1 W2:=by rw[hW2];exact bw
 have K2:Hid (Sk w W2 w1.heap.size G M C):=hid ⟨hA1.up b12,hT1.of (fun b hl=>b12.block b hl),by rw[hW2];exact Whole.new _ _ _,Below.next hb1 b12⟩
 have HG:Hid (G<w1.heap.size∧M<w1.heap.size∧C<w1.heap.size):=hid ⟨hT1.1.lt,hT1.2.1.lt,hT1.2.2.lt⟩
 have HB:Hid (w.heap.size≤w1.heap.size):=hid hb1.size
 rw[← hW2]
 obtain⟨B,hB⟩:∃B,B=w1.heap.size:=zE
 rw[← hB] at K2 HG HB⊢
 clear hW2 b12 hA1 hb1 hT1 hB
 have c0:W2.cell? ⟨B,0,none⟩=some (int i64 10):=K2.out.box.cell 0
 have c1:W2.cell? ⟨B,1,none⟩=some (int i64 1):=K2.out.box.cell 1
 have c2:W2.cell? ⟨B,2,none⟩=some (.slice (some ⟨G,0,none⟩) 2 2):=K2.out.box.cell 2
 have c3:W2.cell? ⟨B,3,none⟩=some (.slice (some ⟨M,0,none⟩) 4 4):=K2.out.box.cell 3
 have c4:W2.cell? ⟨B,4,none⟩=some (.slice (some ⟨C,0,none⟩) 2 2):=K2.out.box.cell 4
 repeat refine aj.seq ?_
 refine aj.item ?_
 obtain⟨Wa,hWa⟩:∃Wa,Wa=((W2.alloc (.cells #[int i64 3,int i64 5] 3)).alloc (.cells #[int i64 4,int i64 2,int i64 0,int i64 10] 3)).alloc (.cells #[int i64 3] 3):=zE
 have ba:Below W2.heap.size W2 Wa:=by rw[hWa];exact bw
 have a1:Whole Wa W2.heap.size 3 #[int i64 3,int i64 5]:=by rw[hWa];exact((Whole.new W2 _ _).alloc _).alloc _
 have a2:Whole Wa (W2.heap.size+1) 3 #[int i64 4,int i64 2,int i64 0,int i64 10]:=by rw[hWa];exact(aK zs).alloc _
 have a3:Whole Wa (W2.heap.size+1+1) 3 #[int i64 3]:=by rw[hWa];exact aK zs
 have My:=hid (m3 G M C Wa (K2.out.at_.up ba) (some ⟨W2.heap.size,0,none⟩) (some ⟨W2.heap.size+1,0,none⟩) (some ⟨W2.heap.size+1+1,0,none⟩) 2 4 1 (sF a1) (YE a2) (wN a3))
 rw[iD] at My
 have tt:=hid hWa
 have tz:=hid ba
 clear hWa ba a1 a2 a3
 gi_wp2_with (gi_at_call 18;rw[← tt.out];refine My.out.mono ?_;rintro e W3 ⟨vx,vy,rfl,sx,sy,hb3⟩)
 have NU:Below W2.heap.size W2 W3:=Below.next tz.out hb3
 have K3:=hid (K2.out.below NU)
 have X3:=hid sx
 have Y3:=hid sy
 clear sx sy hb3 NU K2 My tt tz
 clear c0 c1 c2 c3 c4
 have c0:W3.cell? ⟨B,0,none⟩=some (int i64 10):=K3.out.box.cell 0
 have c1:W3.cell? ⟨B,1,none⟩=some (int i64 1):=K3.out.box.cell 1
 have c2:W3.cell? ⟨B,2,none⟩=some (.slice (some ⟨G,0,none⟩) 2 2):=K3.out.box.cell 2
 have c3:W3.cell? ⟨B,3,none⟩=some (.slice (some ⟨M,0,none⟩) 4 4):=K3.out.box.cell 3
 have c4:W3.cell? ⟨B,4,none⟩=some (.slice (some ⟨C,0,none⟩) 2 2):=K3.out.box.cell 4
 repeat refine aj.seq ?_
 refine aj.item ?_
 have HC:=hid (lh G M C W3 K3.out.at_)
 rw[iD] at HC
 gi_wp2_with (gi_at_call 11;refine HC.out.mono ?_;rintro e Wn ⟨rfl,hbn⟩)
 obtain⟨W4,hW⟩:∃W,W=Wn:=zE
 subst hW
 have dF:=hbn
 have K4:=hid (K3.out.below dF)
 have X4:=hid (X3.out.below dF)
 have Y4:=hid (Y3.out.below dF)
 clear dF HC K3 X3 Y3
 clear c0 c1 c2 c3 c4
 have c0:W4.cell? ⟨B,0,none⟩=some (int i64 10):=K4.out.box.cell 0
 have c1:W4.cell? ⟨B,1,none⟩=some (int i64 1):=K4.out.box.cell 1
 have c2:W4.cell? ⟨B,2,none⟩=some (.slice (some ⟨G,0,none⟩) 2 2):=K4.out.box.cell 2
 have c3:W4.cell? ⟨B,3,none⟩=some (.slice (some ⟨M,0,none⟩) 4 4):=K4.out.box.cell 3
 have c4:W4.cell? ⟨B,4,none⟩=some (.slice (some ⟨C,0,none⟩) 2 2):=K4.out.box.cell 4
 repeat refine aj.seq ?_
 refine aj.item ?_
 have HC:=hid (mf G M C W4 K4.out.at_)
 rw[iD] at HC
 gi_wp2_with (gi_at_call 19;refine HC.out.mono ?_;rintro e Wn ⟨vu,rfl,su,hbn⟩)
 obtain⟨W5,hW⟩:∃W,W=Wn:=zE
 subst hW
 have dF:=hbn
 have K5:=hid (K4.out.below dF)
 have X5:=hid (X4.out.below dF)
 have Y5:=hid (Y4.out.below dF)
 have U5:=hid su
 clear dF HC K4 X4 Y4 su
 clear c0 c1 c2 c3 c4
 have c0:W5.cell? ⟨B,0,none⟩=some (int i64 10):=K5.out.box.cell 0
 have c1:W5.cell? ⟨B,1,none⟩=some (int i64 1):=K5.out.box.cell 1
 have c2:W5.cell? ⟨B,2,none⟩=some (.slice (some ⟨G,0,none⟩) 2 2):=K5.out.box.cell 2
 have c3:W5.cell? ⟨B,3,none⟩=some (.slice (some ⟨M,0,none⟩) 4 4):=K5.out.box.cell 3
 have c4:W5.cell? ⟨B,4,none⟩=some (.slice (some ⟨C,0,none⟩) 2 2):=K5.out.box.cell 4
 repeat refine aj.seq ?_
 refine aj.item ?_
 have HC:=hid (BV G M C W5 K5.out.at_)
 rw[iD] at HC
 gi_wp2_with (gi_at_call 20;refine HC.out.mono ?_;rintro e Wn ⟨vv,rfl,sv,hbn⟩)
 obtain⟨W6,hW⟩:∃W,W=Wn:=zE
 subst hW
 have dF:=hbn
 have K6:=hid (K5.out.below dF)
 have X6:=hid (X5.out.below dF)
 have Y6:=hid (Y5.out.below dF)
 have U6:=hid (U5.out.below dF)
 have V6:=hid sv
 clear dF HC K5 X5 Y5 U5 sv
 clear c0 c1 c2 c3 c4
 have c0:W6.cell? ⟨B,0,none⟩=some (int i64 10):=K6.out.box.cell 0
 have c1:W6.cell? ⟨B,1,none⟩=some (int i64 1):=K6.out.box.cell 1
 have c2:W6.cell? ⟨B,2,none⟩=some (.slice (some ⟨G,0,none⟩) 2 2):=K6.out.box.cell 2
 have c3:W6.cell? ⟨B,3,none⟩=some (.slice (some ⟨M,0,none⟩) 4 4):=K6.out.box.cell 3
 have c4:W6.cell? ⟨B,4,none⟩=some (.slice (some ⟨C,0,none⟩) 2 2):=K6.out.box.cell 4
 repeat refine aj.seq ?_
 refine aj.item ?_
 have HC:=hid (TV G M C W6 K6.out.at_)
 rw[iD] at HC
 gi_wp2_with (gi_at_call 21;refine HC.out.mono ?_;rintro e Wn ⟨rfl,hbn⟩)
 obtain⟨W7,hW⟩:∃W,W=Wn:=zE
 subst hW
 have dF:=hbn
 have K7:=hid (K6.out.below dF)
 have X7:=hid (X6.out.below dF)
 have Y7:=hid (Y6.out.below dF)
 have U7:=hid (U6.out.below dF)
 have V7:=hid (V6.out.below dF)
 clear dF HC K6 X6 Y6 U6 V6
 clear c0 c1 c2 c3 c4
 have c0:W7.cell? ⟨B,0,none⟩=some (int i64 10):=K7.out.box.cell 0
 have c1:W7.cell? ⟨B,1,none⟩=some (int i64 1):=K7.out.box.cell 1
 have c2:W7.cell? ⟨B,2,none⟩=some (.slice (some ⟨G,0,none⟩) 2 2):=K7.out.box.cell 2
 have c3:W7.cell? ⟨B,3,none⟩=some (.slice (some ⟨M,0,none⟩) 4 4):=K7.out.box.cell 3
 have c4:W7.cell? ⟨B,4,none⟩=some (.slice (some ⟨C,0,none⟩) 2 2):=K7.out.box.cell 4
 repeat refine aj.seq ?_
 refine aj.item ?_
 have HC:=hid (TT G M C W7 K7.out.at_)
 rw[iD] at HC
 gi_wp2_with (gi_at_call 21;refine HC.out.mono ?_;rintro e Wn ⟨rfl,hbn⟩)
 obtain⟨W8,hW⟩:∃W,W=Wn:=zE
 subst hW
 have dF:=hbn
 have K8:=hid (K7.out.below dF)
 have X8:=hid (X7.out.below dF)
 have Y8:=hid (Y7.out.below dF)
 have U8:=hid (U7.out.below dF)
 have V8:=hid (V7.out.below dF)
 clear dF HC K7 X7 Y7 U7 V7
 clear c0 c1 c2 c3 c4
 have c0:W8.cell? ⟨B,0,none⟩=some (int i64 10):=K8.out.box.cell 0
 have c1:W8.cell? ⟨B,1,none⟩=some (int i64 1):=K8.out.box.cell 1
 have c2:W8.cell? ⟨B,2,none⟩=some (.slice (some ⟨G,0,none⟩) 2 2):=K8.out.box.cell 2
 have c3:W8.cell? ⟨B,3,none⟩=some (.slice (some ⟨M,0,none⟩) 4 4):=K8.out.box.cell 3
 have c4:W8.cell? ⟨B,4,none⟩=some (.slice (some ⟨C,0,none⟩) 2 2):=K8.out.box.cell 4
 repeat refine aj.seq ?_
 refine aj.item ?_
 have HC:=hid (mj G M C W8 K8.out.at_)
 rw[iD] at HC
 gi_wp2_with (gi_at_call 22;refine HC.out.mono ?_;rintro e Wn ⟨rfl,hbn⟩)
 obtain⟨W9,hW⟩:∃W,W=Wn.alloc (.cells #[int i64 0,int i64 1] 28):=zE
 have dF:Below W8.heap.size W8 W9:=by rw[hW];exact Below.al hbn _
 have qA:Hid (Whole W9 Wn.heap.size 28 #[int i64 0,int i64 1]):=hid (by rw[hW];exact Whole.new _ _ _)
 obtain⟨BA,oP⟩:∃B,B=Wn.heap.size:=zE
 rw[← hW,← oP]
 rw[← oP] at qA
 have A9:=qA
 clear hW hbn oP qA
 have K9:=hid (K8.out.below dF)
 have X9:=hid (X8.out.below dF)
 have Y9:=hid (Y8.out.below dF)
 have U9:=hid (U8.out.below dF)
 have V9:=hid (V8.out.below dF)
 clear dF HC K8 X8 Y8 U8 V8
 clear c0 c1 c2 c3 c4
 have c0:W9.cell? ⟨B,0,none⟩=some (int i64 10):=K9.out.box.cell 0
 have c1:W9.cell? ⟨B,1,none⟩=some (int i64 1):=K9.out.box.cell 1
 have c2:W9.cell? ⟨B,2,none⟩=some (.slice (some ⟨G,0,none⟩) 2 2):=K9.out.box.cell 2
 have c3:W9.cell? ⟨B,3,none⟩=some (.slice (some ⟨M,0,none⟩) 4 4):=K9.out.box.cell 3
 have c4:W9.cell? ⟨B,4,none⟩=some (.slice (some ⟨C,0,none⟩) 2 2):=K9.out.box.cell 4
 repeat refine aj.seq ?_
 refine aj.item ?_
 have HC:=hid (b7 G M C W9 K9.out.at_)
 rw[iD] at HC
 gi_wp2_with (gi_at_call 23;refine HC.out.mono ?_;rintro e Wn ⟨rfl,hbn⟩)
 obtain⟨Xk,hW⟩:∃W,W=Wn.alloc (.cells #[int i64 30,int i64 35] 28):=zE
 have dF:Below W9.heap.size W9 Xk:=by rw[hW];exact Below.al hbn _
 have XS:Hid (Whole Xk Wn.heap.size 28 #[int i64 30,int i64 35]):=hid (by rw[hW];exact Whole.new _ _ _)
 obtain⟨BWt,kv⟩:∃B,B=Wn.heap.size:=zE
 rw[← hW,← kv]
 rw[← kv] at XS
 have im:=XS
 clear hW hbn kv XS
 have cz:=hid (K9.out.below dF)
 have X10:=hid (X9.out.below dF)
 have Y10:=hid (Y9.out.below dF)
 have U10:=hid (U9.out.below dF)
 have V10:=hid (V9.out.below dF)
 have IH:=hid (A9.out.below dF A9.out.lt)
 clear dF HC K9 X9 Y9 U9 V9 A9
 clear c0 c1 c2 c3 c4
 have c0:Xk.cell? ⟨B,0,none⟩=some (int i64 10):=cz.out.box.cell 0
 have c1:Xk.cell? ⟨B,1,none⟩=some (int i64 1):=cz.out.box.cell 1
 have c2:Xk.cell? ⟨B,2,none⟩=some (.slice (some ⟨G,0,none⟩) 2 2):=cz.out.box.cell 2
 have c3:Xk.cell? ⟨B,3,none⟩=some (.slice (some ⟨M,0,none⟩) 4 4):=cz.out.box.cell 3
 have c4:Xk.cell? ⟨B,4,none⟩=some (.slice (some ⟨C,0,none⟩) 2 2):=cz.out.box.cell 4
 repeat refine aj.seq ?_
 refine aj.item ?_
 have HC:=hid (YH G M C Xk cz.out.at_)
 rw[iD] at HC
 gi_wp2_with (gi_at_call 24;refine HC.out.mono ?_;rintro e Wn ⟨rfl,hbn⟩)
 obtain⟨Gu,hW⟩:∃W,W=Wn.alloc (.cells #[int i64 2,int i64 2] 28):=zE
 have dF:Below Xk.heap.size Xk Gu:=by rw[hW];exact Below.al hbn _
 have qD:Hid (Whole Gu Wn.heap.size 28 #[int i64 2,int i64 2]):=hid (by rw[hW];exact Whole.new _ _ _)
 obtain⟨BD,QP⟩:∃B,B=Wn.heap.size:=zE
 rw[← hW,← QP]
 rw[← QP] at qD
 have J0:=qD
 clear hW hbn QP qD
 have cD:=hid (cz.out.below dF)
 have Kh:=hid (X10.out.below dF)
 have GW:=hid (Y10.out.below dF)
 have U11:=hid (U10.out.below dF)
 have V11:=hid (V10.out.below dF)
 have IM:=hid (IH.out.below dF IH.out.lt)
 have ir:=hid (im.out.below dF im.out.lt)
 clear dF HC cz X10 Y10 U10 V10 IH im
 clear c0 c1 c2 c3 c4
 have c0:Gu.cell? ⟨B,0,none⟩=some (int i64 10):=cD.out.box.cell 0
 have c1:Gu.cell? ⟨B,1,none⟩=some (int i64 1):=cD.out.box.cell 1
 have c2:Gu.cell? ⟨B,2,none⟩=some (.slice (some ⟨G,0,none⟩) 2 2):=cD.out.box.cell 2
 have c3:Gu.cell? ⟨B,3,none⟩=some (.slice (some ⟨M,0,none⟩) 4 4):=cD.out.box.cell 3
 have c4:Gu.cell? ⟨B,4,none⟩=some (.slice (some ⟨C,0,none⟩) 2 2):=cD.out.box.cell 4
 repeat refine aj.seq ?_
 refine aj.item ?_
 obtain⟨Wa,hWa⟩:∃Wa,Wa=Gu.alloc (.cells #[int i64 2,int i64 3] 3):=zE
 have ba:Below Gu.heap.size Gu Wa:=by rw[hWa];exact bw
 have a1:Whole Wa Gu.heap.size 3 #[int i64 2,int i64 3]:=by rw[hWa];exact Whole.new _ _ _
 have HC:=hid (ub G M C Wa (cD.out.at_.up ba) (some ⟨Gu.heap.size,0,none⟩) 2 (Ll a1))
 rw[iD] at HC
 have tt:=hid hWa
 have tz:=hid ba
 clear hWa ba a1
 gi_wp2_with (gi_at_call 25;rw[← tt.out];refine HC.out.mono ?_;rintro e Xl ⟨vp,rfl,sp,La⟩)
 have dF:Below Gu.heap.size Gu Xl:=Below.next tz.out La
 have cE:=hid (cD.out.below dF)
 have xu:=hid (Kh.out.below dF)
 have Y12:=hid (GW.out.below dF)
 have U12:=hid (U11.out.below dF)
 have V12:=hid (V11.out.below dF)
 have IN:=hid (IM.out.below dF IM.out.lt)
 have iu:=hid (ir.out.below dF ir.out.lt)
 have J1:=hid (J0.out.below dF J0.out.lt)
 have P12:=hid sp
 clear dF La sp HC tt tz cD Kh GW U11 V11 IM ir J0
 clear c0 c1 c2 c3 c4
 have c0:Xl.cell? ⟨B,0,none⟩=some (int i64 10):=cE.out.box.cell 0
 have c1:Xl.cell? ⟨B,1,none⟩=some (int i64 1):=cE.out.box.cell 1
 have c2:Xl.cell? ⟨B,2,none⟩=some (.slice (some ⟨G,0,none⟩) 2 2):=cE.out.box.cell 2
 have c3:Xl.cell? ⟨B,3,none⟩=some (.slice (some ⟨M,0,none⟩) 4 4):=cE.out.box.cell 3
 have c4:Xl.cell? ⟨B,4,none⟩=some (.slice (some ⟨C,0,none⟩) 2 2):=cE.out.box.cell 4
 repeat refine aj.seq ?_
 refine aj.item ?_
 have HC:=hid (XQ G M C Xl cE.out.at_)
 rw[iD] at HC
 gi_wp2_with (gi_at_call 26;refine HC.out.mono ?_;rintro e Wn ⟨ve,rfl,se,hbn⟩)
 obtain⟨qi,hW⟩:∃W,W=Wn:=zE
 subst hW
 have dF:=hbn
 have cF:=hid (cE.out.below dF)
 have X13:=hid (xu.out.below dF)
 have Y13:=hid (Y12.out.below dF)
 have U13:=hid (U12.out.below dF)
 have tR:=hid (V12.out.below dF)
 have IP:=hid (IN.out.below dF IN.out.lt)
 have iv:=hid (iu.out.below dF iu.out.lt)
 have J':=hid (J1.out.below dF J1.out.lt)
 have P13:=hid (P12.out.below dF)
 have E13:=hid se
 clear dF HC cE xu Y12 U12 V12 IN iu J1 P12 se
 clear c0 c1 c2 c3 c4
 have c0:qi.cell? ⟨B,0,none⟩=some (int i64 10):=cF.out.box.cell 0
 have c1:qi.cell? ⟨B,1,none⟩=some (int i64 1):=cF.out.box.cell 1
 have c2:qi.cell? ⟨B,2,none⟩=some (.slice (some ⟨G,0,none⟩) 2 2):=cF.out.box.cell 2
 have c3:qi.cell? ⟨B,3,none⟩=some (.slice (some ⟨M,0,none⟩) 4 4):=cF.out.box.cell 3
 have c4:qi.cell? ⟨B,4,none⟩=some (.slice (some ⟨C,0,none⟩) 2 2):=cF.out.box.cell 4
 repeat refine aj.seq ?_
 refine aj.item ?_
 have HC:=hid (QU G M C qi cF.out.at_)
 rw[iD] at HC
 gi_wp2_with (gi_at_call 27;refine HC.out.mono ?_;rintro e Wn ⟨rfl,hbn⟩)
 obtain⟨GO,hW⟩:∃W,W=Wn:=zE
 subst hW
 have dF:=hbn
 have K14:=hid (cF.out.below dF)
 have X14:=hid (X13.out.below dF)
 have Y14:=hid (Y13.out.below dF)
 have U14:=hid (U13.out.below dF)
 have qf:=hid (tR.out.below dF)
 have IS:=hid (IP.out.below dF IP.out.lt)
 have iz:=hid (iv.out.below dF iv.out.lt)
 have Kb:=hid (J'.out.below dF J'.out.lt)
 have P14:=hid (P13.out.below dF)
 have E14:=hid (E13.out.below dF)
 clear dF HC cF X13 Y13 U13 tR IP iv J' P13 E13
 clear c0 c1 c2 c3 c4
 repeat refine aj.seq ?_
 refine aj.item ?_
 gi_wp2
 repeat refine aj.seq ?_
 refine aj.cond_false rfl ?_
 refine aj.skip ?_
 repeat refine aj.seq ?_
 refine aj.item ?_
 have qa0:=cell_regrown (IS.out.cell 0)
 have qa1:=cell_regrown (IS.out.cell 1)
 have qw0:=cell_regrown (iz.out.cell 0)
 have qw1:=cell_regrown (iz.out.cell 1)
 have qd0:=cell_regrown (Kb.out.cell 0)
 have qd1:=cell_regrown (Kb.out.cell 1)
 have cTo:∀ (a b:Int) d os,CallsIn FF 0 prog 28 #[int i64 a,int i64 b] (grow (redrawn GO d) os) fun e w''=>e=.returned (.agg #[int i64 a,int i64 b])∧∃p:Regrown,w''=grow (redrawn GO p.d) p.os:=fun a b d os=>CallsIn.regrown_of (Ex a b _)
 gi_wp2
 refine wpIn_region_quiet_below rfl zk zk ?_
 repeat (quiet_step_in (exact cTo _ _ _ _))
 refine wpQuietIn_nil ?_
 rintro w' ⟨⟨dq,osq⟩,rfl⟩
 have dF:=below_regrown GO dq osq
 have Bh:=hid (K14.out.below dF)
 have GP:=hid (X14.out.below dF)
 have G4:=hid (Y14.out.below dF)
 have GC:=hid (U14.out.below dF)
 have GM:=hid (qf.out.below dF)
 have Gk:=hid (P14.out.below dF)
 have E0:=hid (E14.out.below dF)
 clear dF K14 X14 Y14 U14 qf P14 E14 IS iz Kb qa0 qa1 qw0 qw1 qd0 qd1 cTo
 simp only at Bh GP G4 GC GM Gk E0⊢
 generalize grow (redrawn GO dq) osq=cN at Bh GP G4 GC GM Gk E0⊢
 have c0:cN.cell? ⟨B,0,none⟩=some (int i64 10):=Bh.out.box.cell 0
 have c1:cN.cell? ⟨B,1,none⟩=some (int i64 1):=Bh.out.box.cell 1
 have c2:cN.cell? ⟨B,2,none⟩=some (.slice (some ⟨G,0,none⟩) 2 2):=Bh.out.box.cell 2
 have c3:cN.cell? ⟨B,3,none⟩=some (.slice (some ⟨M,0,none⟩) 4 4):=Bh.out.box.cell 3
 have c4:cN.cell? ⟨B,4,none⟩=some (.slice (some ⟨C,0,none⟩) 2 2):=Bh.out.box.cell 4
 have f1:=Bh.out.box.thaw
 show aj _ _ _ _ _
 repeat refine aj.seq ?_
 refine aj.cond_false rfl ?_
 refine aj.skip ?_
 repeat refine aj.seq ?_
 refine aj.item ?_
 gi_wp2
 obtain⟨Nb,uF⟩:∃W,W=cN.setCell ⟨B,1,none⟩ (int i64 0):=zE
 have yy:Nb.heap.size=cN.heap.size:=by rw[uF];simp[World.setCell]
 have OT:Whole Nb B 26 #[int i64 10,int i64 0,.slice (some ⟨G,0,none⟩) 2 2,.slice (some ⟨M,0,none⟩) 4 4,.slice (some ⟨C,0,none⟩) 2 2]:=by rw[uF];exact Bh.out.box.set 1 (int i64 0)
 have hne:∀ {q:Nat},q<B→q≠B:=fun h=>zo
 have vb:(Tb 0 G M C).At Nb Nb.heap.size:=by
  have hk:=Bh.out.at_
  have no:∀ (q:Nat) (ad:Addr),some (⟨q,0,none⟩:Addr)=some ad→q<B→ad.block≠B:=fun q ad e hq=>by cases e;exact hne hq
  rw[yy,uF]
  exact⟨hk.g.bC (p:=⟨B,1,none⟩) (fun ad e _=>no G ad e HG.out.1) _,hk.m.bC (p:=⟨B,1,none⟩) (fun ad e _=>no M ad e HG.out.2.1) _,hk.c.bC (p:=⟨B,1,none⟩) (fun ad e _=>no C ad e HG.out.2.2) _,hk.ng,hk.nm,hk.nc,hk.name⟩
 have hT16:Xj Nb G M C:=by rw[uF];exact⟨Bh.out.tb.1.other (hne HG.out.1) _,Bh.out.tb.2.1.other (hne HG.out.2.1) _,Bh.out.tb.2.2.other (hne HG.out.2.2) _⟩
 have hB0:B<cN.heap.size:=Bh.out.box.lt
 have BB:∀o,∃i,i<([5,5]:List Int).length∧(#[int i64 10,int i64 1,.slice (some ⟨G,0,none⟩) 2 2,.slice (some ⟨M,0,none⟩) 4 4,.slice (some ⟨C,0,none⟩) 2 2]:Array Value)[o+i]?≠some (int i64 (([5,5]:List Int).getD i 0)):=fun o=>by
  rcases o with _|_|_|_|_|o <;> exact⟨0,zD,zs⟩
 have X16:=hid (by rw[uF];exact GP.out.set1 Bh.out.box BB:SV Nb vx [5,5])
 clear BB
 have BC:∀o,∃i,i<([3,5]:List Int).length∧(#[int i64 10,int i64 1,.slice (some ⟨G,0,none⟩) 2 2,.slice (some ⟨M,0,none⟩) 4 4,.slice (some ⟨C,0,none⟩) 2 2]:Array Value)[o+i]?≠some (int i64 (([3,5]:List Int).getD i 0)):=fun o=>by
  rcases o with _|_|_|_|_|o <;> exact⟨0,zD,zs⟩
 have Y16:=hid (by rw[uF];exact G4.out.set1 Bh.out.box BC:SV Nb vy [3,5])
 clear BC
 have Bs:∀o,∃i,i<([4,5]:List Int).length∧(#[int i64 10,int i64 1,.slice (some ⟨G,0,none⟩) 2 2,.slice (some ⟨M,0,none⟩) 4 4,.slice (some ⟨C,0,none⟩) 2 2]:Array Value)[o+i]?≠some (int i64 (([4,5]:List Int).getD i 0)):=fun o=>by
  rcases o with _|_|_|_|_|o <;> exact⟨0,zD,zs⟩
 have U16:=hid (by rw[uF];exact GC.out.set1 Bh.out.box Bs:SV Nb vu [4,5])
 clear Bs
 have Bx:∀o,∃i,i<([0]:List Int).length∧(#[int i64 10,int i64 1,.slice (some ⟨G,0,none⟩) 2 2,.slice (some ⟨M,0,none⟩) 4 4,.slice (some ⟨C,0,none⟩) 2 2]:Array Value)[o+i]?≠some (int i64 (([0]:List Int).getD i 0)):=fun o=>by
  rcases o with _|_|_|_|_|o <;> exact⟨0,zD,zs⟩
 have V16:=hid (by rw[uF];exact GM.out.set1 Bh.out.box Bx:SV Nb vv [0])
 clear Bx
 have Bm:∀o,∃i,i<([1,1]:List Int).length∧(#[int i64 10,int i64 1,.slice (some ⟨G,0,none⟩) 2 2,.slice (some ⟨M,0,none⟩) 4 4,.slice (some ⟨C,0,none⟩) 2 2]:Array Value)[o+i]?≠some (int i64 (([1,1]:List Int).getD i 0)):=fun o=>by
  rcases o with _|_|_|_|_|o
  ·exact⟨0,zD,zs⟩
  ·exact⟨1,zD,zs⟩
  all_goals exact⟨0,zD,zs⟩
 have P16:=hid (by rw[uF];exact Gk.out.set1 Bh.out.box Bm:SV Nb vp [1,1])
 clear Bm
 have Bi:∀o,∃i,i<([3]:List Int).length∧(#[int i64 10,int i64 1,.slice (some ⟨G,0,none⟩) 2 2,.slice (some ⟨M,0,none⟩) 4 4,.slice (some ⟨C,0,none⟩) 2 2]:Array Value)[o+i]?≠some (int i64 (([3]:List Int).getD i 0)):=fun o=>by
  rcases o with _|_|_|_|_|o <;> exact⟨0,zD,zs⟩
 have E16:=hid (by rw[uF];exact E0.out.set1 Bh.out.box Bi:SV Nb ve [3])
 clear Bi
 have tl:Hid (Below w.heap.size w Nb):=hid (by rw[uF];exact Bh.out.past.setCell HB.out _)
 have sY:=hid (BR G M C Nb hT16 vb)
 rw[iD] at sY
 have d0:=OT.cell 0
 have d1:=OT.cell 1
 have d2:=OT.cell 2
 have d3:=OT.cell 3
 have d4:=OT.cell 4
 rw[← uF]
 clear uF yy hne vb hT16 hB0 Bh f1 c0 c1 c2 c3 c4 OT GP G4 GC GM Gk E0
 repeat refine aj.seq ?_
 refine aj.gJ 1 zD ?_
 simp only[List.take_succ_cons,List.take_zero]
 gi_wp2
 refine iJ rfl rfl rfl (enters_of func29 zk rfl) (Rc:=R6 Nb) (args:=#[.agg #[int i64 10,int i64 0,.slice (some ⟨G,0,none⟩) 2 2,.slice (some ⟨M,0,none⟩) 4 4,.slice (some ⟨C,0,none⟩) 2 2]]) (by simp only[List.map_toArray,List.map_cons,List.map_nil];rfl) sY.out ?_
 rintro x w4 ⟨vc,rfl,hown,hpast⟩
 have C4:Hid (SV w4 vc [1]):=hid (SV.own hown)
 have Mo:Hid (Past w w4):=hid (Past.of tl.out hpast)
 have X4:=hid (X16.out.past hpast)
 have Y4:=hid (Y16.out.past hpast)
 have U4:=hid (U16.out.past hpast)
 have V4:=hid (V16.out.past hpast)
 have P4:=hid (P16.out.past hpast)
 have E4:=hid (E16.out.past hpast)
 clear hown hpast d0 d1 d2 d3 d4 sY tl X16 Y16 U16 V16 P16 E16
 obtain⟨AX,pX,rfl,hX⟩:=X4.out
 obtain⟨AY,pY,rfl,hY⟩:=Y4.out
 obtain⟨AU,pU,rfl,hU⟩:=U4.out
 obtain⟨AV,pV,rfl,hV⟩:=V4.out
 obtain⟨AP,pP,rfl,hP⟩:=P4.out
 obtain⟨AE,pE,rfl,hE⟩:=E4.out
 obtain⟨AC,pC,rfl,hC⟩:=C4.out
 simp only[List.length_cons,List.length_nil,Nat.zero_add,Nat.reduceAdd] at hX hY hU hV hP hE hC
 obtain⟨Wc,hWc⟩:∃Wc,Wc=((((((((w4.alloc (.cells #[.slice AX 2 pX,.slice AY 2 pY,.slice AU 2 pU,.slice AV 1 pV,.slice AP 2 pP,.slice AE 1 pE,.slice AC 1 pC] 51)).alloc (.cells #[int i64 5,int i64 5] 3)).alloc (.cells #[int i64 3,int i64 5] 3)).alloc (.cells #[int i64 4,int i64 5] 3)).alloc (.cells #[int i64 0] 3)).alloc (.cells #[int i64 1,int i64 1] 3)).alloc (.cells #[int i64 3] 3)).alloc (.cells #[int i64 1] 3)).alloc (.cells #[.slice (some ⟨w4.heap.size+1,0,none⟩) 2 2,.slice (some ⟨w4.heap.size+1+1,0,none⟩) 2 2,.slice (some ⟨w4.heap.size+1+1+1,0,none⟩) 2 2,.slice (some ⟨w4.heap.size+1+1+1+1,0,none⟩) 1 1,.slice (some ⟨w4.heap.size+1+1+1+1+1,0,none⟩) 2 2,.slice (some ⟨w4.heap.size+1+1+1+1+1+1,0,none⟩) 1 1,.slice (some ⟨w4.heap.size+1+1+1+1+1+1+1,0,none⟩) 1 1] 51):=zE
 have bc:Below w4.heap.size w4 Wc:=by rw[hWc];exact bw
 have r1:Whole Wc w4.heap.size 51 #[.slice AX 2 pX,.slice AY 2 pY,.slice AU 2 pU,.slice AV 1 pV,.slice AP 2 pP,.slice AE 1 pE,.slice AC 1 pC]:=by rw[hWc];exact((((((((Whole.new w4 _ _).alloc _).alloc _).alloc _).alloc _).alloc _).alloc _).alloc _).alloc _
 have s1:Whole Wc (w4.heap.size+1) 3 #[int i64 5,int i64 5]:=by rw[hWc];exact(((((((aK zs).alloc _).alloc _).alloc _).alloc _).alloc _).alloc _).alloc _
 have s2:Whole Wc (w4.heap.size+1+1) 3 #[int i64 3,int i64 5]:=by rw[hWc];exact((((((aK zs).alloc _).alloc _).alloc _).alloc _).alloc _).alloc _
 have s3:Whole Wc (w4.heap.size+1+1+1) 3 #[int i64 4,int i64 5]:=by rw[hWc];exact(((((aK zs).alloc _).alloc _).alloc _).alloc _).alloc _
 have s4:Whole Wc (w4.heap.size+1+1+1+1) 3 #[int i64 0]:=by rw[hWc];exact((((aK zs).alloc _).alloc _).alloc _).alloc _
 have s5:Whole Wc (w4.heap.size+1+1+1+1+1) 3 #[int i64 1,int i64 1]:=by rw[hWc];exact(((aK zs).alloc _).alloc _).alloc _
 have s6:Whole Wc (w4.heap.size+1+1+1+1+1+1) 3 #[int i64 3]:=by rw[hWc];exact((aK zs).alloc _).alloc _
 have s7:Whole Wc (w4.heap.size+1+1+1+1+1+1+1) 3 #[int i64 1]:=by rw[hWc];exact(aK zs).alloc _
 have r2:Whole Wc (w4.heap.size+1+1+1+1+1+1+1+1) 51 #[.slice (some ⟨w4.heap.size+1,0,none⟩) 2 2,.slice (some ⟨w4.heap.size+1+1,0,none⟩) 2 2,.slice (some ⟨w4.heap.size+1+1+1,0,none⟩) 2 2,.slice (some ⟨w4.heap.size+1+1+1+1,0,none⟩) 1 1,.slice (some ⟨w4.heap.size+1+1+1+1+1,0,none⟩) 2 2,.slice (some ⟨w4.heap.size+1+1+1+1+1+1,0,none⟩) 1 1,.slice (some ⟨w4.heap.size+1+1+1+1+1+1+1,0,none⟩) 1 1]:=by rw[hWc];exact aK zs
 have hl1:Lists Wc Wc.heap.size (some ⟨w4.heap.size,0,none⟩) 7 (fun i=>[AX,AY,AU,AV,AP,AE,AC].getD i none) (fun i=>[2,2,2,1,2,1,1].getD i 0) (fun i=>[pX,pY,pU,pV,pP,pE,pC].getD i 0):=bV r1 fun i j hi hj=>by
  obtain rfl:j=0:=zo
  rcases(show i=0∨i=1∨i=2∨i=3∨i=4∨i=5∨i=6 by omega) with rfl|rfl|rfl|rfl|rfl|rfl|rfl <;> rfl
 have hl2:Lists Wc Wc.heap.size (some ⟨w4.heap.size+1+1+1+1+1+1+1+1,0,none⟩) 7 (fun i=>[some ⟨w4.heap.size+1,0,none⟩,some ⟨w4.heap.size+1+1,0,none⟩,some ⟨w4.heap.size+1+1+1,0,none⟩,some ⟨w4.heap.size+1+1+1+1,0,none⟩,some ⟨w4.heap.size+1+1+1+1+1,0,none⟩,some ⟨w4.heap.size+1+1+1+1+1+1,0,none⟩,some ⟨w4.heap.size+1+1+1+1+1+1+1,0,none⟩].getD i none) (fun i=>[2,2,2,1,2,1,1].getD i 0) (fun i=>[2,2,2,1,2,1,1].getD i 0):=bV r2 fun i j hi hj=>by
  obtain rfl:j=0:=zo
  rcases(show i=0∨i=1∨i=2∨i=3∨i=4∨i=5∨i=6 by omega) with rfl|rfl|rfl|rfl|rfl|rfl|rfl <;> rfl
 have dt:=QF (some ⟨w4.heap.size,0,none⟩) (some ⟨w4.heap.size+1+1+1+1+1+1+1+1,0,none⟩) 7 7 7 _ _ _ _ _ (fun i j=>([[5,5],[3,5],[4,5],[0],[1,1],[3],[1]].getD i []).getD j 0) Wc.heap.size Wc hl1 hl2 zD (fun i hi=>by
  rcases(show i=0∨i=1∨i=2∨i=3∨i=4∨i=5∨i=6 by omega) with rfl|rfl|rfl|rfl|rfl|rfl|rfl
  ·exact(hX.below bc).more bc.size
  ·exact(hY.below bc).more bc.size
  ·exact(hU.below bc).more bc.size
  ·exact(hV.below bc).more bc.size
  ·exact(hP.below bc).more bc.size
  ·exact(hE.below bc).more bc.size
  ·exact(hC.below bc).more bc.size) (fun i hi=>by
  rcases(show i=0∨i=1∨i=2∨i=3∨i=4∨i=5∨i=6 by omega) with rfl|rfl|rfl|rfl|rfl|rfl|rfl
  ·exact sF s1
  ·exact sF s2
  ·exact sF s3
  ·exact wN s4
  ·exact sF s5
  ·exact wN s6
  ·exact wN s7) (fun i hi=>by
  rcases(show i=0∨i=1∨i=2∨i=3∨i=4∨i=5∨i=6 by omega) with rfl|rfl|rfl|rfl|rfl|rfl|rfl <;> (show _≤maxLen) <;> decide)
 have HSame:=hid dt
 have HWc:=hid hWc
 have HPc:=hid (Mo.out.below bc)
 clear dt hWc bc hl1 hl2 r1 r2 s1 s2 s3 s4 s5 s6 s7 hX hY hU hV hP hE hC
 simp only[List.drop_succ_cons,List.drop_zero,Act.put,List.setIfInBounds_toArray,List.set_cons_succ,List.set_cons_zero]
 gi_wp2
 simp only[wH]
 gi_wp2_with (gi_at_call 30;rw[← HWc.out];refine HSame.out.mono ?_;rintro e w5 ⟨rfl,q,rfl⟩)
 exact⟨rfl,_,results_tmp rfl _ _ _,_,rfl,rfl,HPc.out.below (below_drewN zB q)⟩
end
section
open Go Go.Conc Go.ConcN Go.cu Go.Conc.Lib Go.aP Go.RowKit
attribute [local go_sem] Oper.semAt_some
variable[Inhabited aV]
def Cv(b:Bk)(x:Ct)(r:Int)(w':World)(vs:Array Value)(l:Int):Prop:=
 (r≠0∧vs=#[int i64 0,int i64 0,.slice none 0 0,.slice none 0 0,.slice none 0 0]∧l=r)∨(r=0∧b.nM x=true∧vs=#[int i64 0,int i64 0,.slice none 0 0,.slice none 0 0,.slice none 0 0]∧l=9)∨
 (r=0∧b.nM x=false∧l=0∧∃G gc A c C cc,b.ng≤gc∧(b.noted x G gc A c C cc).At w' w'.heap.size∧vs=#[int i64 b.dY,int i64 b.mO,.slice G b.ng gc,.slice A b.nm c,.slice C (b.nc+1) cc])
theorem Cv.zero{b:Bk}{x:Ct}{r:Int}{w':World}{a0 a1:Int}{A2:Option Addr}{x2 y2:Nat}{A3:Option Addr}{x3 y3:Nat}{A4:Option Addr}{x4 y4:Nat}{l m:Int}(h:Cv b x r w' #[int i64 a0,int i64 a1,.slice A2 x2 y2,.slice A3 x3 y3,.slice A4 x4 y4] l)(hn:r≠0∧m=r∨r=0∧b.nM x=true∧m=9):
 (0=a0∧0=a1∧(none=A2∧0=x2∧0=y2)∧(none=A3∧0=x3∧0=y3)∧none=A4∧0=x4∧0=y4)∧l=m:=by
 rcases h with⟨h1,h,rfl⟩|⟨h1,-,h,rfl⟩|⟨h1,h2,-⟩ <;> rcases hn with⟨hn,rfl⟩|⟨hn,h3,rfl⟩
 ·exact⟨by simpa using h.symm,rfl⟩
 ·exact absurd hn h1
 ·exact absurd h1 hn
 ·exact⟨by simpa using h.symm,rfl⟩
 ·exact absurd h1 hn
 ·rw[h2] at h3;cases h3
theorem Cv.up{b:Bk}{x:Ct}{r:Int}{w w':World}{vs:Array Value}{l:Int}(h:Cv b x r w vs l)(hb:Below w.heap.size w w'):Cv b x r w' vs l:=
 h.imp id (Or.imp id fun⟨h1,h2,h4,G,gc,A,c,C,cc,h5,h6,h7⟩=>⟨h1,h2,h4,G,gc,A,c,C,cc,h5,h6.up hb,h7⟩)
theorem Qu(w:World)(b:Bk)(h:b.At w w.heap.size)(hgc:b.ng≤b.gc)(hd:-9223372036854775808≤b.dY∧b.dY≤9223372036854775807)(x:Ct)(good day:Int)(hg:0≤good∧good≤255)(hdy:0≤day∧day≤255):
 jc 4 #[b.val,.agg #[int i64 x.good,int i64 x.day,int i64 x.lo,int i64 x.hi],.int .u8 good,.int .u8 day] w (uj w):=by
 obtain⟨xg,xd,xl,xh⟩:=x
 obtain⟨dY,mO,gA,ng,gc,g,mA,nm,mc,m,cA,nc,cc,c⟩:=b
 simp only[Bk.val,Bk.cells]
 refine kM func4 rfl zs ?_
 simp only[show Tryz.f4.ntmps=79 from rfl,List.size_toArray,List.length_cons,List.length_nil,Nat.reduceAdd,Nat.reduceSub,Array.replicate_succ,Array.replicate_zero,List.push_toArray,List.append_toArray,List.nil_append,List.cons_append]
 repeat refine aj.seq ?_
 refine aj.item ?_
 gi_wp2
 repeat refine aj.seq ?_
 refine aj.item ?_
 have Hh:=hid h
 have E7:=hid hgc
 obtain⟨w1,hw1⟩:∃x,x=(w.alloc (.cells #[int i64 dY,int i64 mO,.slice gA ng gc,.slice mA nm mc,.slice cA nc cc] 26)).alloc (.cells #[int i64 xg,int i64 xd,int i64 xl,int i64 xh] 45):=zE
 rw[← hw1]
 have hB1:Below w.heap.size w w1:=by rw[hw1];exact bw
 have hs1:w.heap.size<w1.heap.size:=by rw[hw1];simp;omega
 have hbx:Whole w1 w.heap.size 26 (#[int i64 dY,int i64 mO,.slice gA ng gc,.slice mA nm mc,.slice cA nc cc]:Array Value):=by rw[hw1];exact(Whole.new _ _ _).alloc _
 have V1:=hid (show Whole w1 (w.heap.size+1) 45 #[int i64 xg,int i64 xd,int i64 xl,int i64 xh] by rw[hw1];exact aK zs)
 have W1:=hid (h.up hB1)
 clear h hgc hw1
 have c1:∀o,w1.cell? ⟨w.heap.size,o,none⟩=(#[int i64 dY,int i64 mO,.slice gA ng gc,.slice mA nm mc,.slice cA nc cc]:Array Value)[o]?:=fun o=>hbx.cell o
 have Hbx:=hid hbx
 clear hbx
 gi_wp2_with (gi_at_call 5;refine(Yi w1 W1.out hd).mono ?_;rintro e w2 ⟨t,rfl,ht,hb2⟩;have HT:=hid ht;clear ht)
 all_goals have W2:=hid ((W1.out.below hb2).more hb2.size)
 all_goals have hB2:=hid (hB1.trans (hb2.mono (Nat.le_of_lt hs1)))
 all_goals have V2:=hid (V1.out.below hb2 V1.out.lt)
 all_goals have BG:=hid (Hbx.out.below hb2 hs1)
 all_goals clear c1 V1 W1 Hbx hB1 hb2 hs1
 cases t
 ·refine aj.cond_true (by simp[Act.eval]) ?_
  repeat refine aj.seq ?_
  refine aj.gJ 0 zD ?_
  simp only[List.take_zero]
  have HV:=hid (kT w2)
  refine iJ rfl rfl rfl (enters_of func6 zk rfl) (Rc:=uj w2) (args:=#[]) (by simp only[List.map_toArray,List.map_cons,List.map_nil]) HV.out ?_
  rintro x wz ⟨rfl,hp⟩
  simp only[List.drop_succ_cons,List.drop_zero,Act.put,List.setIfInBounds_toArray,List.set_cons_succ,List.set_cons_zero]
  gi_wp2
  simp only[wH]
  gi_wp2
  exact⟨rfl,_,results_tmp rfl _ _ _,_,rfl,rfl,Past.of (hB2.out) hp⟩
 refine aj.cond_false (by simp[Act.eval]) ?_
 refine aj.skip ?_
 have ok:=HT.out rfl
 clear HT
 have L5:=hid fun w h=>YT (⟨dY,mO,gA,ng,gc,g,mA,nm,mc,m,cA,nc,cc,c⟩:Bk) ok.counts.1 (⟨xg,xd,xl,xh⟩:Ct) w h
 have Mb:=hid fun w h=>YS (⟨dY,mO,gA,ng,gc,g,mA,nm,mc,m,cA,nc,cc,c⟩:Bk) ok E7.out (⟨xg,xd,xl,xh⟩:Ct) w h
 have fR:=hid fun A k w h=>Kq (⟨dY,mO,gA,ng,gc,g,mA,nm,mc,m,cA,nc,cc,c⟩:Bk) ok (⟨xg,xd,xl,xh⟩:Ct) A k w h
 have Fi:=hid fun h0=>Lg (⟨dY,mO,gA,ng,gc,g,mA,nm,mc,m,cA,nc,cc,c⟩:Bk) ok E7.out (⟨xg,xd,xl,xh⟩:Ct) h0
 have Fo:=hid fun h0 ht G mD A k C mH hq w h h'=>yB (⟨dY,mO,gA,ng,gc,g,mA,nm,mc,m,cA,nc,cc,c⟩:Bk) ok E7.out (⟨xg,xd,xl,xh⟩:Ct) h0 ht good day hg hdy G mD A k C mH hq w h h'
 simp only[Bk.cells] at L5 Mb fR Fi Fo
 have B2:=hB2
 have X2:=BG
 clear hB2 BG ok E7
 repeat refine aj.seq ?_
 refine aj.item ?_
 have c0:∀o,w2.cell? ⟨w.heap.size,o,none⟩=(#[int i64 dY,int i64 mO,.slice gA ng gc,.slice mA nm mc,.slice cA nc cc]:Array Value)[o]?:=fun o=>X2.out.cell o
 have s0:∀o,w2.cell? ⟨w.heap.size+1,o,none⟩=(#[int i64 xg,int i64 xd,int i64 xl,int i64 xh]:Array Value)[o]?:=fun o=>V2.out.cell o
 gi_wp2_with (gi_at_call 13;refine(L5.out _ W2.out).mono ?_;rintro e w3 ⟨A,k,rfl,wv,hb3⟩)
 have M3:=hid wv
 clear wv c0 s0 L5
 have B3:=hid (B2.out.trans (hb3.mono B2.out.size))
 have W3:=hid (W2.out.up hb3)
 have X3:=hid (X2.out.below hb3 X2.out.lt)
 have V3:=hid (V2.out.below hb3 V2.out.lt)
 clear B2 W2 X2 V2 hb3
 obtain⟨w4,hw4⟩:∃x,x=w3.alloc (.cells #[int i64 dY,int i64 mO,.slice gA ng gc,.slice mA nm mc,.slice A (nc+1) k] 26):=zE
 rw[← hw4]
 have hb4:Below w3.heap.size w3 w4:=by rw[hw4];exact Below.al zB _
 have N4:=hid (show Whole w4 w3.heap.size 26 #[int i64 dY,int i64 mO,.slice gA ng gc,.slice mA nm mc,.slice A (nc+1) k] by rw[hw4];exact Whole.new _ _ _)
 clear hw4
 obtain⟨p6,hp6⟩:∃x,x=w3.heap.size:=zE
 have ne1:w.heap.size≠w3.heap.size:=Nat.ne_of_lt X3.out.lt
 have Wl:w.heap.size+1≠w3.heap.size:=Nat.ne_of_lt V3.out.lt
 rw[← hp6] at N4 ne1 Wl⊢
 have B4:=hid (B3.out.trans (hb4.mono B3.out.size))
 have W4:=hid (W3.out.up hb4)
 have X4:=hid (X3.out.below hb4 X3.out.lt)
 have V4:=hid (V3.out.below hb4 V3.out.lt)
 have M4:=hid (M3.out.up hb4)
 clear hp6 B3 W3 X3 V3 M3 hb4
 repeat refine aj.seq ?_
 refine aj.item ?_
 have c0:∀o,w4.cell? ⟨w.heap.size,o,none⟩=(#[int i64 dY,int i64 mO,.slice gA ng gc,.slice mA nm mc,.slice cA nc cc]:Array Value)[o]?:=fun o=>X4.out.cell o
 have s0:∀o,w4.cell? ⟨w.heap.size+1,o,none⟩=(#[int i64 xg,int i64 xd,int i64 xl,int i64 xh]:Array Value)[o]?:=fun o=>V4.out.cell o
 gi_wp2_with (gi_at_call 14;refine(Mb.out _ W4.out).mono ?_;rintro e w5 ⟨a0,a1,A2,x2,y2,A3,x3,y3,A4,x4,y4,l,rfl,hti,hb5⟩)
 have Q5:Hid (Cv (⟨dY,mO,gA,ng,gc,g,mA,nm,mc,m,cA,nc,cc,c⟩:Bk) (⟨xg,xd,xl,xh⟩:Ct) (jX (⟨dY,mO,gA,ng,gc,g,mA,nm,mc,m,cA,nc,cc,c⟩:Bk) (⟨xg,xd,xl,xh⟩:Ct)) w5 #[int i64 a0,int i64 a1,.slice A2 x2 y2,.slice A3 x3 y3,.slice A4 x4 y4] l):=hid hti
 clear hti c0 s0 Mb
 have B5:=hid (B4.out.trans (hb5.mono B4.out.size))
 have W5:=hid (W4.out.up hb5)
 have X5:=hid (X4.out.below hb5 X4.out.lt)
 have V5:=hid (V4.out.below hb5 V4.out.lt)
 have M5:=hid (M4.out.up hb5)
 have N5:=hid (N4.out.below hb5 N4.out.lt)
 clear B4 W4 X4 V4 M4 N4 hb5
 obtain⟨w6,wC⟩:∃x,x=w5.alloc (.cells #[int i64 a0,int i64 a1,.slice A2 x2 y2,.slice A3 x3 y3,.slice A4 x4 y4] 26):=zE
 rw[← wC]
 have hb6:Below w5.heap.size w5 w6:=by rw[wC];exact Below.al zB _
 have O6:=hid (show Whole w6 w5.heap.size 26 #[int i64 a0,int i64 a1,.slice A2 x2 y2,.slice A3 x3 y3,.slice A4 x4 y4] by rw[wC];exact Whole.new _ _ _)
 have Q6:=hid (Q5.out.up hb6)
 clear wC Q5
 obtain⟨p3,hp3⟩:∃x,x=w5.heap.size:=zE
 have ne2:w.heap.size≠w5.heap.size:=Nat.ne_of_lt X5.out.lt
 have ne3:p6≠w5.heap.size:=Nat.ne_of_lt N5.out.lt
 rw[← hp3] at O6 ne2 ne3⊢
 have B6:=hid (B5.out.trans (hb6.mono B5.out.size))
 have W6:=hid (W5.out.up hb6)
 have X6:=hid (X5.out.below hb6 X5.out.lt)
 have M6:=hid (M5.out.up hb6)
 have N6:=hid (N5.out.below hb6 N5.out.lt)
 clear hp3 V5 B5 W5 X5 M5 N5 hb6
 repeat refine aj.seq ?_
 refine aj.item ?_
 have n6:∀o,w6.cell? ⟨p6,o,none⟩=(#[int i64 dY,int i64 mO,.slice gA ng gc,.slice mA nm mc,.slice A (nc+1) k]:Array Value)[o]?:=fun o=>N6.out.cell o
 gi_wp2_with (gi_at_call 15;refine(fR.out _ _ _ M6.out).mono ?_;rintro e w7 ⟨rfl,xZ⟩)
 clear n6 fR
 have Q7:=hid (Q6.out.up xZ)
 clear Q6
 have B7:=hid (B6.out.trans (xZ.mono B6.out.size))
 have W7:=hid (W6.out.up xZ)
 have X7:=hid (X6.out.below xZ X6.out.lt)
 have M7:=hid (M6.out.up xZ)
 have N7:=hid (N6.out.below xZ N6.out.lt)
 have O7:=hid (O6.out.below xZ O6.out.lt)
 clear B6 W6 X6 M6 N6 O6 xZ
 obtain⟨r,hr⟩:∃r,r=jX (⟨dY,mO,gA,ng,gc,g,mA,nm,mc,m,cA,nc,cc,c⟩:Bk) (⟨xg,xd,xl,xh⟩:Ct):=zE
 rw[← hr] at Fi Fo⊢
 rw[← hr] at Q7
 clear hr
 repeat refine aj.seq ?_
 refine aj.item ?_
 by_cases hr0:r=0
 rotate_left 1
 ·have hne:(r != 0)=true:=by simpa using hr0
  gi_wp2
  refine aj.cond_true (by simp[Act.eval]) ?_
  obtain⟨⟨rfl,rfl,⟨rfl,rfl,rfl⟩,⟨rfl,rfl,rfl⟩,rfl,rfl,rfl⟩,rfl⟩:=Q7.out.zero (.inl ⟨hr0,rfl⟩)
  have o9:∀o,w7.cell? ⟨p3,o,none⟩=(#[int i64 0,int i64 0,.slice none 0 0,.slice none 0 0,.slice none 0 0]:Array Value)[o]?:=fun o=>O7.out.cell o
  repeat refine aj.seq ?_
  refine aj.gJ 9 zD ?_
  simp only[List.take_succ_cons,List.take_zero]
  gi_wp2_with (gi_at_call 9;refine(Dy _).mono ?_;rintro e ws ⟨rfl,hbs⟩)
  have HV:=hid (kT ws)
  refine iJ rfl rfl rfl (enters_of func6 zk rfl) (Rc:=uj ws) (args:=#[]) (by simp only[List.map_toArray,List.map_cons,List.map_nil]) HV.out ?_
  rintro x wz ⟨rfl,hp⟩
  simp only[List.drop_succ_cons,List.drop_zero,Act.put,List.setIfInBounds_toArray,List.set_cons_succ,List.set_cons_zero]
  gi_wp2
  simp only[wH]
  gi_wp2
  exact⟨rfl,_,results_tmp rfl _ _ _,_,rfl,rfl,Past.of (Below.next B7.out hbs) hp⟩
 have hne:(r != 0)=false:=by simp[hr0]
 have Fs:=hid hr0
 clear hr0
 gi_wp2
 refine aj.cond_false (by simp[Act.eval]) ?_
 refine aj.skip ?_
 obtain⟨nH,Ts,hhi⟩:=Fi.out Fs.out
 have HH:=hid hhi
 clear hhi Fi
 repeat refine aj.seq ?_
 refine aj.item ?_
 have n7:∀o,w7.cell? ⟨p6,o,none⟩=(#[int i64 dY,int i64 mO,.slice gA ng gc,.slice mA nm mc,.slice A (nc+1) k]:Array Value)[o]?:=fun o=>N7.out.cell o
 gi_wp2_with (gi_at_call 11;refine(HH.out _ _ _ M7.out).mono ?_;rintro e w9 ⟨rfl,bn⟩)
 clear n7 HH
 have Q9:=hid (Q7.out.up bn)
 clear Q7
 have B9:=hid (B7.out.trans (bn.mono B7.out.size))
 have W9:=hid (W7.out.up bn)
 have X9:=hid (X7.out.below bn X7.out.lt)
 have O9:=hid (O7.out.below bn O7.out.lt)
 have M9:=hid (M7.out.up bn)
 have N9:=hid (N7.out.below bn N7.out.lt)
 clear B7 W7 X7 O7 M7 N7 bn
 repeat refine aj.seq ?_
 refine aj.item ?_
 gi_wp2
 refine aj.cond_false (by simp[Act.eval]) ?_
 refine aj.skip ?_
 repeat refine aj.seq ?_
 refine aj.item ?_
 gi_wp2
 by_cases hz0:nH=0
 ·refine aj.cond_true (by simp[Act.eval,hz0]) ?_
  obtain⟨⟨rfl,rfl,⟨rfl,rfl,rfl⟩,⟨rfl,rfl,rfl⟩,rfl,rfl,rfl⟩,rfl⟩:=Q9.out.zero (.inr ⟨Fs.out,Ts.2 hz0,rfl⟩)
  have o9:∀o,w9.cell? ⟨p3,o,none⟩=(#[int i64 0,int i64 0,.slice none 0 0,.slice none 0 0,.slice none 0 0]:Array Value)[o]?:=fun o=>O9.out.cell o
  repeat refine aj.seq ?_
  refine aj.gJ 8 zD ?_
  simp only[List.take_succ_cons,List.take_zero]
  gi_wp2_with (gi_at_call 9;refine(Dy _).mono ?_;rintro e ws ⟨rfl,hbs⟩)
  have HV:=hid (kT ws)
  refine iJ rfl rfl rfl (enters_of func6 zk rfl) (Rc:=uj ws) (args:=#[]) (by simp only[List.map_toArray,List.map_cons,List.map_nil]) HV.out ?_
  rintro x wz ⟨rfl,hp⟩
  simp only[List.drop_succ_cons,List.drop_zero,Act.put,List.setIfInBounds_toArray,List.set_cons_succ,List.set_cons_zero]
  gi_wp2
  simp only[wH]
  gi_wp2
  exact⟨rfl,_,results_tmp rfl _ _ _,_,rfl,rfl,Past.of (Below.next B9.out hbs) hp⟩
 refine aj.cond_false (by simp[Act.eval];omega) ?_
 refine aj.skip ?_
 have htf:(⟨dY,mO,gA,ng,gc,g,mA,nm,mc,m,cA,nc,cc,c⟩:Bk).nM (⟨xg,xd,xl,xh⟩:Ct)=false:=by
  cases hh:(⟨dY,mO,gA,ng,gc,g,mA,nm,mc,m,cA,nc,cc,c⟩:Bk).nM (⟨xg,xd,xl,xh⟩:Ct) with
  | false=>rfl
  | true=>exact absurd (Ts.1 hh) hz0
 rcases Q9.out with⟨h0,-⟩|⟨-,h0,-⟩|⟨-,-,rfl,G,mD,A5,k2,C2,mH,hg2,wA,hvs⟩
 ·exact absurd Fs.out h0
 ·rw[htf] at h0;cases h0
 replace hvs:=hvs.symm
 simp only[Array.mk.injEq,List.cons.injEq,Value.int.injEq,Value.slice.injEq,true_and,and_true] at hvs
 obtain⟨rfl,rfl,⟨rfl,rfl,rfl⟩,⟨rfl,rfl,rfl⟩,rfl,rfl,rfl⟩:=hvs
 have T9:=hid wA
 have HNR:=hid fun w h h'=>Fo.out Fs.out htf G mD A5 k2 C2 mH hg2 w h h'
 have HSM:=hid fun w h h'=>Mj (⟨dY,mO,gA,ng,gc,g,mA,nm,mc,m,cA,nc,cc,c⟩:Bk) (⟨xg,xd,xl,xh⟩:Ct) G mD A5 k2 C2 mH A k w h h'
 simp only at HSM
 have o9:∀o,w9.cell? ⟨p3,o,none⟩=(#[int i64 dY,int i64 mO,.slice G ng mD,.slice A5 nm k2,.slice C2 (nc+1) mH]:Array Value)[o]?:=fun o=>O9.out.cell o
 have n9:∀o,w9.cell? ⟨p6,o,none⟩=(#[int i64 dY,int i64 mO,.slice gA ng gc,.slice mA nm mc,.slice A (nc+1) k]:Array Value)[o]?:=fun o=>N9.out.cell o
 clear wA Q9 Fo Ts
 repeat refine aj.seq ?_
 refine aj.gJ 15 zD ?_
 simp only[List.take_succ_cons,List.take_zero]
 gi_wp2_with (first
  | (gi_at_call 9;refine(HSM.out _ T9.out M9.out).mono ?_;rintro e ws ⟨rfl,hbs⟩;have c9:∀o,ws.cell? ⟨w.heap.size,o,none⟩=(#[int i64 dY,int i64 mO,.slice gA ng gc,.slice mA nm mc,.slice cA nc cc]:Array Value)[o]?:=fun o=>(X9.out.below hbs X9.out.lt).cell o;have o9s:∀o,ws.cell? ⟨p3,o,none⟩=(#[int i64 dY,int i64 mO,.slice G ng mD,.slice A5 nm k2,.slice C2 (nc+1) mH]:Array Value)[o]?:=fun o=>(O9.out.below hbs O9.out.lt).cell o;clear o9 n9)
  | (gi_at_call 12;refine(HNR.out _ (W9.out.up hbs) (T9.out.up hbs)).mono ?_;rintro e wt ⟨rfl,hbt⟩;clear c9 o9s))
 have HV:=hid (kT wt)
 refine iJ rfl rfl rfl (enters_of func6 zk rfl) (Rc:=uj wt) (args:=#[]) (by simp only[List.map_toArray,List.map_cons,List.map_nil]) HV.out ?_
 rintro x wz ⟨rfl,hp⟩
 simp only[List.drop_succ_cons,List.drop_zero,Act.put,List.setIfInBounds_toArray,List.set_cons_succ,List.set_cons_zero]
 gi_wp2
 simp only[wH]
 gi_wp2
 exact⟨rfl,_,results_tmp rfl _ _ _,_,rfl,rfl,Past.of (Below.next (Below.next B9.out hbs) hbt) hp⟩
end
section
open Go Go.Conc Go.ConcN Go.cu Go.Conc.Lib Go.aP
variable[Inhabited aV]
def El(W:World)(x:Value)(u:World):Prop:=x=.bool true∧u.os=W.os∧u.output=W.output∧W.heap.size≤u.heap.size∧∀q,q<W.heap.size→u.heap[q]? =W.heap[q]?
theorem Rows.lift{W W0:World}(hc:∀p x,W.cell? p=some x→W0.cell? p=some x){B size n:Nat}{A:Option Addr}{f:Nat→Nat→Value}(h:Rows W B size A n f):Rows W0 B size A n f:=fun hn=>by
 obtain⟨ad,e,hb,k⟩:=h hn
 exact⟨ad,e,hb,fun i j hi hj=>hc _ _ (k i j hi hj)⟩
theorem Zk(n:Nat):SF.room n:=fun d h=>by cases h
def Odd(W:World)(q:Nat):Prop:=∃o,W.heap[q]? =some o∧¬ dP.Plain ⟨fun _=>False,wD⟩ o
open Classical in
noncomputable def bare(Z:Nat→Prop)(W:World):World:={W with heap:=W.heap.mapIdx fun q o=>if Z q then dP.X0 q else o }
theorem OZ(Z:Nat→Prop)(W:World):(bare Z W).heap.size=W.heap.size:=by show(W.heap.mapIdx _).size=_;simp
theorem XM{Z:Nat→Prop}{W:World}{q:Nat}(hq:¬ Z q):(bare Z W).heap[q]? =W.heap[q]?:=by
 simp only[bare,Array.getElem?_mapIdx]
 cases W.heap[q]? <;> simp[hq]
theorem Tx{Z:Nat→Prop}{W:World}{q:Nat}{o:Obj}(hq:Z q)(ho:W.heap[q]? =some o):(bare Z W).heap[q]? =some (dP.X0 q):=by
 simp only[bare,Array.getElem?_mapIdx,ho]
 simp[hq]
theorem wE(hSF:gP prog SF.fn)(W:World)(b:Bk)(h:b.At W W.heap.size)(hgc:b.ng≤b.gc)(hd:-9223372036854775808≤b.dY∧b.dY≤9223372036854775807)(x:Ct)(good:Int)(KY:0≤good∧good≤255)(day:Int)(Ue:0≤day∧day≤255):
 ∃M last o w' t',runNT prog (M+1) (solo (G (Frame.enter prog 4 #[b.val,.agg #[int i64 x.good,int i64 x.day,int i64 x.lo,int i64 x.hi],.int .u8 good,.int .u8 day] .normal) []) W) #[]=(.ended o w',t')∧
  runN prog M (solo (G (Frame.enter prog 4 #[b.val,.agg #[int i64 x.good,int i64 x.day,int i64 x.lo,int i64 x.hi],.int .u8 good,.int .u8 day] .normal) []) W)=.next last∧step prog last=.ended o w'∧Conc.Good prog (El W) last o w' t':=by
 obtain⟨Z0,hZ0⟩:∃Z:Nat→Prop,Z=Odd W:=⟨_,rfl⟩
 have hz:∀ {q},Z0 q↔∃o,W.heap[q]? =some o∧¬ dP.Plain ⟨fun _=>False,wD⟩ o:=fun{q}=>by rw[hZ0];exact Iff.rfl
 have hs0:(bare Z0 W).heap.size=W.heap.size:=OZ Z0 W
 have hin:∀q,¬ Z0 q→(bare Z0 W).heap[q]? =W.heap[q]?:=fun q hq=>XM hq
 have hout:∀q,Z0 q→(bare Z0 W).heap[q]? =some (dP.X0 q):=fun q hq=>by
  obtain⟨o,ho,_⟩:=hz.1 hq
  exact Tx hq ho
 have hos:(bare Z0 W).os=W.os∧(bare Z0 W).output=W.output∧(bare Z0 W).drawn=W.drawn∧(bare Z0 W).tape=W.tape:=⟨rfl,rfl,rfl,rfl⟩
 clear hZ0
 obtain⟨W0,hW0⟩:∃w,w=bare Z0 W:=zE
 rw[← hW0] at hs0 hin hout hos
 clear hW0
 have hcell:∀p x,W.cell? p=some x→W0.cell? p=some x:=fun p x hx=>by
  have hnz:¬ Z0 p.block:=by
   intro hzz
   obtain⟨o,ho,hno⟩:=hz.1 hzz
   unfold World.cell? at hx
   rw[ho] at hx
   cases o <;> first|exact hno trivial|cases hx
  rw[← hx]
  simp only[World.cell?,hin _ hnz]
 have hb0:b.At W0 W0.heap.size:=by
  rw[hs0]
  exact⟨h.g.lift hcell,h.m.lift hcell,h.c.lift hcell,h.ng,h.nm,h.nc,h.name⟩
 obtain⟨hF,TX⟩:=Qu W0 b hb0 hgc hd x good day KY Ue
 obtain⟨n,cb,cs,w1,bit,UK,⟨hn,D,hcl,hcb,m,hcall⟩,hback⟩:=TX []
 have ok:(⟨Frame.enter prog 4 #[b.val,.agg #[int i64 x.good,int i64 x.day,int i64 x.lo,int i64 x.hi],.int .u8 good,.int .u8 day] .normal,[],W0⟩:dP.Pt).Ok prog FF.fn ⟨Z0,wD⟩:=by
  refine⟨dP.Fr.enter Nq hF _,fun c hc=>by simp at hc,⟨fun q hq=>hout q hq,fun q o hq ho=>?_⟩⟩
  rw[show(⟨Frame.enter prog 4 #[b.val,.agg #[int i64 x.good,int i64 x.day,int i64 x.lo,int i64 x.hi],.int .u8 good,.int .u8 day] .normal,[],W0⟩:dP.Pt).w=W0 from rfl,hin q hq] at ho
  have h1:dP.Plain ⟨fun _=>False,wD⟩ o:=Classical.byContradiction fun hno=>hq (hz.2 ⟨o,ho,hno⟩)
  cases o <;> exact h1
 have hva:dP.Gq ⟨Z0,wD⟩ (fun q=>W.heap[q]?) W0 W:=⟨⟨hs0.symm,fun q hq=>(hin q hq).symm,hos.1.symm,hos.2.1.symm,fun q o _ hk _=>hk⟩,hos.2.2.1.symm,hos.2.2.2.symm⟩
 have hcells:∀q o,Z0 q→W.heap[q]? =some o→∀c t f,o≠.cells c t f:=by
  rintro q o hzz ho c t f rfl
  obtain⟨o',ho',hno⟩:=hz.1 hzz
  rw[ho] at ho'
  cases ho'
  exact hno trivial
 obtain⟨_,_,_,_,_,_,_,hsz⟩:=dP.Db (EG _) rZ (fun _ h=>h) UK (a:=⟨_,[],W0⟩) (b:=⟨kU n cb,cs,w1⟩) rfl rfl ok W hva #[] (dP.iH.nil _)
 have hsz1:W0.heap.size≤w1.heap.size:=hsz
 refine bo hn ok hva hcells UK hSF (fun g hg=>lS (Je hg)) rfl (Zk _) hcl hcb hcall (PV:=El W) fun ac hac v hv σ=>?_
 obtain⟨m',hs,x,w',fr,⟨hx,τ,hpast⟩,rfl,hfn,hmode,hdef,hkind,fnn,xv,hres⟩:=hback ac hac v hv σ
 refine⟨⟨fr,[],w'⟩,hs,⟨rfl,(by unfold Td;first|exact hfn|exact .inl hfn|exact .inr (.inl hfn)|exact .inr (.inr hfn)|exact .inr hfn),hmode,hdef,hkind⟩,fun u hus hu1 hu2 hu3 hu4=>?_⟩
 have hf3:fnn=Tryz.f4:=by
  rw[hfn,func4] at xv
  exact(Option.some.inj xv).symm
 subst hf3
 have hr2:=results_tmp (fn:=Tryz.f4) rfl fr.tmps prog w'
 rw[hr2] at hres
 have hv2:nX fr=x:=by
  unfold nX
  rw[hfn]
  exact(Result.ok.inj hres).1
 have hp2:=hpast.size
 have hp3:=hpast.os
 have hp4:=hpast.output
 have hp5:=hpast.block
 refine⟨hv2.trans hx,(hu3.trans hp3).trans hos.1,(hu4.trans hp4).trans hos.2.1,?_,fun q hq=>?_⟩
 ·have:u.heap.size=w'.heap.size:=hus
  have e:(on W0 τ).heap.size=W0.heap.size:=rfl
  omega
 ·by_cases hzz:Z0 q
  ·exact hu2 q hzz
  ·have hq0:q<W0.heap.size:=zo
   exact((hu1 q zo hzz).trans (hp5 q hq0)).trans (hin q hzz)
end
end Go.Proofs.YtpmafoalhnaokaaGreat
