/- P15 P16 P17 -/
import Derived.Test.YthaelabgfnnebaaGreatE4
import Derived.Laws.CopyOwn
set_option maxRecDepth 100000
set_option maxHeartbeats 16000000
set_option linter.unusedVariables false
set_option linter.unusedSectionVars false
open Go.IntKind(i64)
open Go.Lib(hid)
open Go.Proofs.Tryz
open Go.Value(int)
namespace Go.Proofs.YthaelabgfnnebaaGreat
section
open Go.RowKit
theorem rG(p:Nat→Bool)(k:Nat):(((List.range k).filter p).map fun(n:Nat)=>(n:Int)).Pairwise (· < ·):=by
 rw[List.pairwise_map]
 exact(List.pairwise_lt_range.filter _).imp fun h=>by exact_mod_cast h
theorem Sn(b:Bk)(k:Nat):(dV b k).Pairwise (· < ·):=rG _ _
theorem NQ{b:Bk}{k:Nat}{i:Nat}(hi:i<k)(hz:(b.m i).kind=0):(i:Int)∈dV b k:=by
 unfold dV
 exact List.mem_map.2 ⟨i,List.mem_filter.2 ⟨List.mem_range.2 hi,by simp[hz]⟩,rfl⟩
theorem VL{l:List Int}{x:Int}(h:x∈l):l.getD (l.idxOf x) 0=x:=by
 have:=List.idxOf_lt_length_iff.2 h
 simp[this]
theorem b9{l:List Int}{x y:Int}(hl:l.Pairwise (· < ·))(hx:x∈l)(hy:y∈l)(h:x<y):l.idxOf x<l.idxOf y:=by
 have h1:=List.idxOf_lt_length_iff.2 hx
 have h2:=List.idxOf_lt_length_iff.2 hy
 have e1:l[l.idxOf x]=x:=zs
 have e2:l[l.idxOf y]=y:=zs
 rcases Nat.lt_trichotomy (l.idxOf x) (l.idxOf y) with h3|h3|h3
 ·exact h3
 ·exfalso;have:x=y:=by rw[← e1,← e2];simp[h3]
  omega
 ·exfalso;have:=List.pairwise_iff_getElem.1 hl _ _ h2 h1 h3
  rw[e1,e2] at this;omega
theorem ca{l:List Int}{x:Int}(hl:l.Pairwise (· < ·))(hx:x∈l):∀i,i<l.idxOf x→l.getD i 0≠l.getD (l.idxOf x) 0:=fun i hi=>by
 have h1:=List.idxOf_lt_length_iff.2 hx
 have:=List.pairwise_iff_getElem.1 hl i _ zo h1 hi
 rw[show l.getD i 0=l[i] by simp[show i<l.length by omega],show l.getD (l.idxOf x) 0=l[l.idxOf x] by simp[h1]]
 omega
def fQ(nt l3:List Int)(k:Nat):List Int:=(l3.take k).map fun x=>((nt.idxOf x:Nat):Int)
theorem yJ(nt l3:List Int){k:Nat}(hk:k<l3.length):fQ nt l3 (k+1)=fQ nt l3 k ++ [((nt.idxOf (l3.getD k 0):Nat):Int)]:=by
 unfold fQ
 rw[List.take_add_one,List.map_append]
 simp[hk]
theorem rH(nt l3:List Int){k:Nat}(hk:k≤l3.length):(fQ nt l3 k).length=k:=by
 unfold fQ;simp;omega
theorem sP:∀ (a b:List Nat),a.Nodup→a ⊆ b→a.length≤b.length
 | [],_,_,_=>Nat.zero_le _
 | x :: a,b,h,hs=>by
   have h1:=(List.nodup_cons.1 h)
   have hx:x∈b:=hs (List.mem_cons_self)
   have:=sP a (b.erase x) h1.2 (fun y hy=>(List.mem_erase_of_ne (by rintro rfl;exact h1.1 hy)).2 (hs (List.mem_cons_of_mem _ hy)))
   rw[List.length_erase_of_mem hx] at this
   have hp:0<b.length:=List.length_pos_of_mem hx
   simp only[List.length_cons]
   omega
theorem EN(b:Bk)(l1 l2 l3:List Int)(w:World)(h:b.At w w.heap.size)(ok:b.Ok)(hp:vG b l1 l2 l3)(A1 A2 A3:Option Addr)(p1 p2 p3:Nat)
 (i1:Ints w w.heap.size A1 l1.length (fun i=>l1.getD i 0))(i2:Ints w w.heap.size A2 l2.length (fun i=>l2.getD i 0))(i3:Ints w w.heap.size A3 l3.length (fun i=>l3.getD i 0)):
 CallsIn FF 0 prog 88 #[b.val,.slice A1 l1.length p1,.slice A2 l2.length p2,.slice A3 l3.length p3] w fun e w'=>e=.returned (int i64 0)∧Below w.heap.size w w':=by
 obtain⟨days,most,gA,ng,gc,g,mA,nm,mc,m,cA,nc,cc,c⟩:=b
 have hN:∀w,(⟨days,most,gA,ng,gc,g,mA,nm,mc,m,cA,nc,cc,c⟩:Bk).At w w.heap.size→CallsIn FF 0 prog 115 #[.agg #[int i64 days,int i64 most,.slice gA ng gc,.slice mA nm mc,.slice cA nc cc]] w fun e w'=>∃v,e=.returned v∧w'.ownsRow w.heap.size 3 1 v (dV (⟨days,most,gA,ng,gc,g,mA,nm,mc,m,cA,nc,cc,c⟩:Bk) nm).length ((dV (⟨days,most,gA,ng,gc,g,mA,nm,mc,m,cA,nc,cc,c⟩:Bk) nm).map (int i64))∧Below w.heap.size w w':=fun w h=>Wm ⟨days,most,gA,ng,gc,g,mA,nm,mc,m,cA,nc,cc,c⟩ w h ok.moves.1
 obtain⟨nt,hnt⟩:∃nt,nt=dV (⟨days,most,gA,ng,gc,g,mA,nm,mc,m,cA,nc,cc,c⟩:Bk) nm:=⟨_,rfl⟩
 rw[← hnt] at hN
 have hup:Hid (nt.Pairwise (· < ·)):=hid (by rw[hnt];exact Sn _ _)
 have hin:Hid (∀x∈l3,x∈nt):=hid (fun x hx=>by
  obtain⟨i,rfl,h1,h2⟩:=hp.came x hx
  rw[hnt];exact NQ h1 h2)
 have hnl:nt.length≤6:=by rw[hnt];exact Nat.le_trans (ug _ _) ok.moves.1
 have hl3:l3.length≤6:=by
  have h6:(l3.map Int.toNat).Nodup:=by
   rw[List.nodup_iff_pairwise_ne,List.pairwise_map]
   refine hp.up.imp_of_mem ?_
   intro x y hx hy hxy e
   obtain⟨i,rfl,_,_⟩:=hp.came x hx
   obtain⟨j,rfl,_,_⟩:=hp.came y hy
   simp at e
   omega
  have h7:(l3.map Int.toNat) ⊆ List.range nm:=fun x hx=>by
   obtain⟨y,hy,rfl⟩:=List.mem_map.1 hx
   obtain⟨i,rfl,h8,_⟩:=hp.came y hy
   simpa using h8
  have h9:(l3.map Int.toNat).length≤(List.range nm).length:=sP _ _ h6 h7
  have:=ok.moves.1
  simp at h9 this
  omega
 have e1:=hp.n1
 have e2:=hp.n2
 simp only at e1 e2
 have Ay:ng≤3:=ok.bn.1.2
 have hnm:nm≤6:=ok.moves.1
 rw[e1] at i1⊢
 rw[e2] at i2⊢
 have b1:∀i,i<ng→0≤l1.getD i 0∧l1.getD i 0≤99:=fun i hi=>hp.b1 _ (by rw[show l1.getD i 0=l1[i]'zo by simp[show i<l1.length by omega]];exact List.getElem_mem _)
 have b2:∀i,i<nm→0≤l2.getD i 0∧l2.getD i 0≤99:=fun i hi=>hp.b2 _ (by rw[show l2.getD i 0=l2[i]'zo by simp[show i<l2.length by omega]];exact List.getElem_mem _)
 have B1:=hid b1
 have B2:=hid b2
 have HU:=hid hp.up
 have Hh:=hid h
 have I1:=hid i1
 have I2:=hid i2
 have I3:=hid i3
 clear h ok hp i1 i2 i3 hnt b1 b2 e1 e2
 simp only[Bk.val,Bk.cells]
 obtain⟨i0,hi,hz0,hz1,hz2⟩:=info_parts info3
 have hi0:=hid hi
 clear hi
 gi_enter func88,ntmps88
 gi_wp2_with (gi_at_call 115;refine(hN _ (Hh.out.below (bw) |>.more zm)).mono ?_;rintro e w4 ⟨v4,rfl,RD,hb4⟩;obtain⟨A4,c4,rfl⟩:=dY RD;have Cr:=hid hb4;have uA:=hid RD;clear hb4 RD)
 have Wl:Hid (Below w.heap.size w w4):=hid ((bw:Below w.heap.size w _).trans (Cr.out.mono zm))
 have hs4:w.heap.size+3≤w4.heap.size:=by have:=Cr.out.size;simp at this;omega
 have kA:Whole (((w.alloc (.cells #[int i64 days,int i64 most,.slice gA ng gc,.slice mA nm mc,.slice cA nc cc] 74)).alloc (.cells #[.slice A1 ng p1] 30)).alloc (.cells #[.slice A2 nm p2] 30)) w.heap.size 74 #[int i64 days,int i64 most,.slice gA ng gc,.slice mA nm mc,.slice cA nc cc]:=((Whole.new w 74 _).alloc _).alloc _
 have kB:Whole (((w.alloc (.cells #[int i64 days,int i64 most,.slice gA ng gc,.slice mA nm mc,.slice cA nc cc] 74)).alloc (.cells #[.slice A1 ng p1] 30)).alloc (.cells #[.slice A2 nm p2] 30)) (w.heap.size+1) 30 #[.slice A1 ng p1]:=by
  have:=(Whole.new (w.alloc (.cells #[int i64 days,int i64 most,.slice gA ng gc,.slice mA nm mc,.slice cA nc cc] 74)) 30 #[.slice A1 ng p1]).alloc (.cells #[.slice A2 nm p2] 30)
  rwa[World.size_alloc] at this
 have kC:Whole (((w.alloc (.cells #[int i64 days,int i64 most,.slice gA ng gc,.slice mA nm mc,.slice cA nc cc] 74)).alloc (.cells #[.slice A1 ng p1] 30)).alloc (.cells #[.slice A2 nm p2] 30)) (w.heap.size+1+1) 30 #[.slice A2 nm p2]:=by
  have:=Whole.new ((w.alloc (.cells #[int i64 days,int i64 most,.slice gA ng gc,.slice mA nm mc,.slice cA nc cc] 74)).alloc (.cells #[.slice A1 ng p1] 30)) 30 #[.slice A2 nm p2]
  rwa[World.size_alloc,World.size_alloc] at this
 have jA:=hid (kA.below Cr.out kA.lt)
 have jB:=hid (kB.below Cr.out kB.lt)
 have jC:=hid (kC.below Cr.out kC.lt)
 clear kA kB kC
 obtain⟨w5,Em⟩:∃w5,w5=(w4.alloc (.cells #[.slice A4 nt.length c4] 30)).alloc (.cells #[.slice none 0 0] 30):=⟨_,rfl⟩
 have mX:Hid (Below w4.heap.size w4 w5):=hid (by rw[Em];exact bw)
 have hs5:w5.heap.size=w4.heap.size+2:=by rw[Em];simp
 have n5:Hid (Whole w5 w4.heap.size 30 #[.slice A4 nt.length c4]):=hid (by rw[Em];exact(Whole.new w4 30 _).alloc _)
 have x5:Hid (Whole w5 (w4.heap.size+1) 30 #[.slice none 0 0]):=hid (by
  have:=Whole.new (w4.alloc (.cells #[.slice A4 nt.length c4] 30)) 30 #[.slice none 0 0]
  rw[Em];rwa[World.size_alloc] at this)
 rw[← Em]
 clear Em
 gi_wp2
 gi_loopw [17] (fun i wr=>∃k:Nat,k≤l3.length∧i=int i64 k∧∃v,Hid (Whole wr (w4.heap.size+1) 30 #[v]∧wr.ownsRow (w4.heap.size+2) 3 1 v k ((fQ nt l3 k).map (int i64))∧Below (w4.heap.size+1) w5 wr)) (fun i _=>l3.length - (intOf i).toNat)
 case atStart=>exact⟨0,Nat.zero_le _,rfl,_,hid ⟨x5.out,mG _ _ _,Below.refl _ _⟩⟩
 case round=>
  obtain⟨k,hk,rfl,v,hR⟩:=hrel
  have hbw:Hid (Below w.heap.size w wr):=hid ((Wl.out.trans (mX.out.mono zo)).trans (hR.out.2.2.mono zo))
  have hsr:=hR.out.2.2.size
  by_cases hlt:k<l3.length
  ·have HI3:=hid (bK I3.out hbw.out)
   obtain⟨T0,rfl,-⟩:=HI3.out (show 0<l3.length by omega)
   have ck:=Ints.at_ HI3.out hlt
   have hmem:l3.getD k 0∈nt:=hin.out _ (by rw[show l3.getD k 0=l3[k] by simp[hlt]];exact List.getElem_mem _)
   have hX:Hid (∀w',Below w4.heap.size w4 w'→CallsIn FF 0 prog 116 #[.slice A4 nt.length c4,int i64 (l3.getD k 0)] w' fun e w2=>e=.returned (int i64 ((nt.idxOf (l3.getD k 0):Nat):Int))∧Below w'.heap.size w' w2):=hid fun w' hb=>by
    have:=Nr (fun i=>nt.getD i 0) A4 nt.length c4 (nt.idxOf (l3.getD k 0)) w' (bK (dw uA.out) hb) zU (List.idxOf_lt_length_iff.2 hmem) (ca hup.out hmem)
    rwa[VL hmem] at this
   obtain⟨x,hx⟩:∃x,x=l3.getD k 0:=⟨_,rfl⟩
   have HX:=hid hx
   rw[← hx] at ck hX
   clear hx hmem
   have q1:=hR.out.1.cell 0
   have q2:=(n5.out.below hR.out.2.2 (Nat.lt_succ_self _)).cell 0
   have hlen:=rH nt l3 hk
   gi_wp2
   refine iK 6 (fun w'=>w'.cell? ⟨w4.heap.size+1,0,none⟩=some v∧w'.cell? ⟨w4.heap.size,0,none⟩=some (.slice A4 nt.length c4)) zk ?_
   have hS:wr.drew.cell? ⟨w4.heap.size+1,0,none⟩=some v∧wr.drew.cell? ⟨w4.heap.size,0,none⟩=some (.slice A4 nt.length c4):=⟨q1,q2⟩
   have hs1:w4.heap.size+1<wr.heap.size:=hR.out.1.lt
   have Lf:∀w':World,w'.heap[w4.heap.size+1]? =wr.heap[w4.heap.size+1]?→w'.heap[w4.heap.size]? =wr.heap[w4.heap.size]?→(w'.cell? ⟨w4.heap.size+1,0,none⟩=some v∧w'.cell? ⟨w4.heap.size,0,none⟩=some (.slice A4 nt.length c4)):=fun w' e1 e2=>
    ⟨(World.cell?_of_block (a:=⟨w4.heap.size+1,0,none⟩) e1).trans q1,(World.cell?_of_block (a:=⟨w4.heap.size,0,none⟩) e2).trans q2⟩
   have hown:=hR.out.2.1
   have hge:∀g,v.ownBlock=some g→w4.heap.size+1<g:=fun g hg=>(dF hown hg).1
   have Hg:=hid hge
   clear hge
   refine yX (i:=0) (some 21) hS ?_
   simp only[Act.put,List.setIfInBounds_toArray,List.set]
   refine yX (i:=1) (some 22) hS ?_
   simp only[Act.put,List.setIfInBounds_toArray,List.set]
   refine yX (i:=2) (some 23) hS ?_
   simp only[Act.put,List.setIfInBounds_toArray,List.set]
   refine aY 3 fun K hK=>?_
   go_simp
   refine(hX.out _ (fZ (mX.out.trans (hR.out.2.2.mono zo)))).mono ?_
   rintro e w1 ⟨rfl,hb1⟩
   have x1:w1.heap[w4.heap.size+1]? =wr.heap[w4.heap.size+1]?:=hb1.block _ hs1
   have x2:w1.heap[w4.heap.size]? =wr.heap[w4.heap.size]?:=hb1.block _ (by show w4.heap.size<wr.heap.size;omega)
   have aan:wr.heap.size≤w1.heap.size:=hb1.size
   refine hK.out _ _ (fun _=>Lf _ x1 x2) ?_
   clear hK K
   refine aY 4 fun K hK=>?_
   go_simp
   have y1:=(Below.heap_alloc w1 (.cells #[int i64 ((nt.idxOf (l3.getD k 0):Nat):Int)] 3) (w4.heap.size+1) zo).trans x1
   have y2:=(Below.heap_alloc w1 (.cells #[int i64 ((nt.idxOf (l3.getD k 0):Nat):Int)] 3) w4.heap.size zo).trans x2
   rw[← HX.out] at y1 y2
   refine hK.out _ _ (fun _=>Lf _ y1 y2) ?_
   clear hK K
   refine aY 5 fun K hK=>?_
   refine uL rfl zr zr (step_append_lies (E:=True) _ zr _ _ _ zr (w4.heap.size+2) 3 i0 _ 1 8 underlying30 hi0.out hz0 hz1 hz2 rfl zo v k _ zr (aX (own_below (w:=wr.drew) hown hb1) _) ⟨w1.heap.size,0,none⟩ 1 1 [_] zr zr (World.news_of_block (heap_alloc_new w1 _)) (by simp[Value.oneCell']) zo zU zo zm (w1.heap.size+1) zs ?_)
   intro gg cap w2 hown2 hgrow hat hlt2
   have z1:=(hgrow.block (w4.heap.size+1) zm (fun e=>by have:=Hg.out _ e.symm;omega)).trans y1
   have z2:=(hgrow.block w4.heap.size zm (fun e=>by have:=Hg.out _ e.symm;omega)).trans y2
   refine hK.out _ _ (fun _=>Lf _ z1 z2) ?_
   clear hK K
   have zW:Whole w2 (w4.heap.size+1) 30 #[v]:=hR.out.1.of z1
   have zc:=zW.cell 0
   have zf:=zW.thaw 0
   refine aY 6 fun K hK=>?_
   go_simp
   refine hK.out _ _ (fun h=>absurd rfl h) ?_
   clear hK K
   refine aG zk ?_ _
   gi_wp2
   go_roundw
   case rel=>
    refine⟨k+1,zo,by go_num,_,hid ⟨zW.set 0 _,?_,?_⟩⟩
    ·refine jk ?_ (by show w4.heap.size+1<w4.heap.size+2;omega) _
     rw[yJ nt l3 hlt,List.map_append,← HX.out]
     exact hown2
    ·refine Below.setCell ?_ (by show w4.heap.size+1≤w4.heap.size+1;omega) _
     exact((hR.out.2.2.trans ((EH hb1).mono (by show w4.heap.size+1≤wr.heap.size;omega))).alloc zo _).trans (below_grown hgrow zm (fun g hg=>by have:=Hg.out _ hg;omega))
   case measure=>simp[intOf];omega
  ·obtain rfl:k=l3.length:=zo
   obtain⟨A7,c7,rfl⟩:=dY hR.out.2.1
   have hpl:=rH nt l3 (Nat.le_refl l3.length)
   have aak:w4.heap.size+1<wr.heap.size:=hR.out.1.lt
   have MA:∀w',Below wr.heap.size wr w'→CallsIn FF 0 prog 118 #[.pointer (some ⟨w.heap.size+1,0,none⟩),.pointer (some ⟨w.heap.size,0,none⟩)] w' fun e w2=>e=.returned (int i64 0)∧Below w'.heap.size w' w2:=fun w' hb=>
    Wu (fun i=>l1.getD i 0) A1 ng p1 gA gc (w.heap.size+1) w.heap.size w' (bK I1.out (hbw.out.trans (hb.mono hbw.out.size))) zU B1.out
     ((((jB.out.below mX.out zo).below hR.out.2.2 zo).below hb zo).cell 0) ((((jA.out.below mX.out zo).below hR.out.2.2 zo).below hb zo).cell 2)
   have MD:∀w',Below wr.heap.size wr w'→CallsIn FF 0 prog 119 #[.pointer (some ⟨w.heap.size+1+1,0,none⟩),.pointer (some ⟨w.heap.size,0,none⟩)] w' fun e w2=>e=.returned (int i64 0)∧Below w'.heap.size w' w2:=fun w' hb=>
    Wv (fun i=>l2.getD i 0) A2 nm p2 mA mc (w.heap.size+1+1) w.heap.size w' (bK I2.out (hbw.out.trans (hb.mono hbw.out.size))) zU B2.out
     ((((jC.out.below mX.out zo).below hR.out.2.2 zo).below hb zo).cell 0) ((((jA.out.below mX.out zo).below hR.out.2.2 zo).below hb zo).cell 3)
   have hpi:∀i,i<l3.length→(fQ nt l3 l3.length).getD i 0=((nt.idxOf (l3.getD i 0):Nat):Int):=fun i hi=>by
    unfold fQ
    simp[hi]
   have hmem:∀i,i<l3.length→l3.getD i 0∈nt:=fun i hi=>hin.out _ (by rw[show l3.getD i 0=l3[i] by simp[hi]];exact List.getElem_mem _)
   have hh3:∀w',Below wr.heap.size wr w'→CallsIn FF 0 prog 120 #[.pointer (some ⟨w4.heap.size+1,0,none⟩),.pointer (some ⟨w4.heap.size,0,none⟩)] w' fun e w2=>e=.returned (int i64 0)∧Below w'.heap.size w' w2:=fun w' hb=>
    Ww (fun i=>(fQ nt l3 l3.length).getD i 0) A7 l3.length c7 nt.length A4 c4 (w4.heap.size+1) w4.heap.size w' (bK (by have:=dw (l:=fQ nt l3 l3.length) (w:=wr) (A:=A7) (c:=c7) (base:=w4.heap.size+2) (e:=3) (by rw[hpl];exact hR.out.2.1);rwa[hpl] at this) hb) zU zU
     (fun i hi=>by have h1:=List.idxOf_lt_length_iff.2 (hmem i hi);rw[hpi i hi];omega)
     (fun i hi=>by
      have h1:=hpi i zo
      have h2:=hpi (i+1) hi
      rw[h1,h2]
      have h3:l3.getD i 0<l3.getD (i+1) 0:=by
       have:=List.pairwise_iff_getElem.1 HU.out i (i+1) zo hi zo
       rwa[show l3.getD i 0=l3[i] by simp[show i<l3.length by omega],show l3.getD (i+1) 0=l3[i+1] by simp[hi]]
      exact_mod_cast b9 hup.out (hmem i zo) (hmem (i+1) hi) h3)
     ((hR.out.1.below hb zo).cell 0) (((n5.out.below hR.out.2.2 zo).below hb zo).cell 0)
   have To:=hid MA
   have Tr:=hid MD
   have Ts:=hid hh3
   clear MA MD hh3 hpi hmem
   gi_wp2_with (gi_at_call 117;refine(RS wr.heap.size (w.heap.size+1) w.heap.size (w.heap.size+1+1) (w4.heap.size+1) w4.heap.size _ zs zs zs zs (fun w' hb=>To.out w' (((Below.refl _ _).alloc (Nat.le_refl _) _).trans (hb.mono zs))) (fun w' hb=>Tr.out w' (((Below.refl _ _).alloc (Nat.le_refl _) _).trans (hb.mono zs))) (fun w' hb=>Ts.out w' (((Below.refl _ _).alloc (Nat.le_refl _) _).trans (hb.mono zs)))).mono ?_;rintro e wz ⟨rfl,hbz⟩)
   go_ret
   exact⟨rfl,hbw.out.trans ((((Below.refl _ wr).alloc (Nat.le_refl _) _).trans (hbz.mono zs)).mono hbw.out.size)⟩
end
section
open Go.RowKit Go.Sort
section
variable{F:Fence}{n:Nat}{P:Program}
theorem pK{ops:Array Oper}{rest:List Oper}{o:Oper}{a:Act}{w:World}{Q:Exit→Act→World→Prop}(hro:F.round=none)(hgd:o.guard=none)(d s:Operand)(dT sT:TypeId)
 (ho:o.op=.call {callee:=.builtin .copy,args:=#[d,s],argTypes:=#[dT,sT] })(elem:TypeId)(hu:P.underlying dT=some (.slice elem))(hsz:(P.info? elem).map (·.size)=some 1)
 (dp sp:Option Addr)(dLen dCap sLen sCap:Nat)(hd:a.eval d=.slice dp dLen dCap)(hs:a.eval s=.slice sp sLen sCap)
 (g off:Nat)(cur:List Value)(t:TypeId)(hg:w.heap[g]? =some (.cells cur.toArray t (0,0)))(cs:List Value)(hn:cs.length=Nat.min sLen dLen)
 (hpos:0<cs.length→dp=some ⟨g,off,none⟩∧∃ad,sp=some ad∧∀j v,cs[j]? =some v→w.cell? (ad.add j)=some v)
 (hfit:off+cs.length≤cur.length)(h1:∀v∈cs,v.oneCell'=true)
 (h:∀w',w'.heap[g]? =some (.cells (splice cur off cs).toArray t (0,0))→Below g w w'→(∀b,b≠g→w'.heap[b]? =w.heap[b]?)→w'.heap.size=w.heap.size→wpListIn F n P ops Q rest (a.put o.dst (goInt cs.length)) w'):
 wpListIn F n P ops Q (o :: rest) a w:=by
 refine wpListIn_plain hgd fun K hK=>?_
 refine⟨fun f hf=>(by rw[oL ho] at hf;cases hf),?_⟩
 rw[hro,Oper.semAt_none]
 by_cases h0:cs.length=0
 ·obtain rfl:cs=[]:=List.eq_nil_of_length_eq_zero h0
  have hrun:=run_copy_none (P:=P) w dT sT o.type elem dp sp dLen dCap sLen sCap hu hsz (by simpa using hn.symm)
  have:=hK _ _ (h w (show _=_ by simpa [splice] using hg) (Below.refl _ _) (fun _ _=>rfl) rfl)
  simp[execOp,ho,resolve,invoke,builtin,hd,hs,hrun,Result.andThen,Oper.uponIn]
  exact this
 ·obtain⟨rfl,ad,rfl,hsrc⟩:=hpos zo
  have hrun:=run_copy_row (P:=P) w dT sT o.type elem g off dLen dCap ad sLen sCap cur.toArray t cs hu hsz hg hn hsrc (by simpa using hfit) h1
  have:=hK _ _ (h _ (show _=_ by simpa [splice] using setRow_heap w g _ _ t _ hg) (below_setRow (Below.refl _ _) (Nat.le_refl _) _) (fun b hb=>setRow_other w g b _ hb) (by simp[World.setRow]))
  simp[execOp,ho,resolve,invoke,builtin,hd,hs,hrun,Result.andThen,Oper.uponIn]
  exact this
end
def gL(l:List Int):Nat:=l.foldl (fun s x=>s |||2 ^ x.toNat) 0
def iy(l1 l2 l3:List Int):Ht:=⟨fun i=>l1.getD i 0,fun i=>l2.getD i 0,gL l3⟩
theorem DN(l:List Int)(h:l.length≤3):splice [int i64 0,int i64 0,int i64 0,int i64 0,int i64 0,int i64 0,int i64 0,int i64 0,int i64 0,int i64 0] 0 (l.map (int i64))=
 [int i64 (l.getD 0 0),int i64 (l.getD 1 0),int i64 (l.getD 2 0),int i64 0,int i64 0,int i64 0,int i64 0,int i64 0,int i64 0,int i64 0]:=by
 match l,h with
 | [],_=>rfl
 | [_],_=>rfl
 | [_,_],_=>rfl
 | [_,_,_],_=>rfl
theorem Gs(a b c:Value)(l:List Int)(h:l.length≤6):splice [a,b,c,int i64 0,int i64 0,int i64 0,int i64 0,int i64 0,int i64 0,int i64 0] 3 (l.map (int i64))=
 [a,b,c,int i64 (l.getD 0 0),int i64 (l.getD 1 0),int i64 (l.getD 2 0),int i64 (l.getD 3 0),int i64 (l.getD 4 0),int i64 (l.getD 5 0),int i64 0]:=by
 match l,h with
 | [],_=>rfl
 | [_],_=>rfl
 | [_,_],_=>rfl
 | [_,_,_],_=>rfl
 | [_,_,_,_],_=>rfl
 | [_,_,_,_,_],_=>rfl
 | [_,_,_,_,_,_],_=>rfl
theorem or_bit:∀ (s:Fin 64) (m:Fin 6),bits BinOp.or IntKind.i64 ((s.val:Nat):Int) ((2:Int) ^ m.val)=((s.val |||2 ^ m.val:Nat):Int):=by decide+kernel
theorem Dt:∀ (l:List Int) (s:Nat),s<64→(∀x∈l,x.toNat<6)→l.foldl (fun s x=>s |||2 ^ x.toNat) s<64
 | [],s,h,_=>h
 | x :: l,s,h,hx=>Dt l _ (Nat.or_lt_two_pow (n:=6) h (by have:=hx x List.mem_cons_self;exact Nat.pow_lt_pow_right zD this)) (fun y hy=>hx y (List.mem_cons_of_mem _ hy))
theorem FU(l:List Int){k:Nat}(hk:k<l.length):gL (l.take (k+1))=gL (l.take k) |||2 ^ (l.getD k 0).toNat:=by
 unfold gL
 rw[List.take_add_one,List.foldl_append]
 simp[hk]
theorem FD(l1 l2 l3:List Int)(w:World)(A1 A2 A3:Option Addr)(p1 p2 p3:Nat)(hl1:l1.length≤3)(hl2:l2.length≤6)(hl3:l3.length≤6)(h3:∀x∈l3,0≤x∧x<6)
 (i1:Ints w w.heap.size A1 l1.length (fun i=>l1.getD i 0))(i2:Ints w w.heap.size A2 l2.length (fun i=>l2.getD i 0))(i3:Ints w w.heap.size A3 l3.length (fun i=>l3.getD i 0)):
 CallsIn FF 0 prog 89 #[.slice A1 l1.length p1,.slice A2 l2.length p2,.slice A3 l3.length p3] w fun e w'=>e=.returned (iy l1 l2 l3).val∧Below w.heap.size w w':=by
 have I1:=hid i1
 have I2:=hid i2
 have I3:=hid i3
 have H3:=hid h3
 obtain⟨i0,hi,hz0,hz1,hz2'⟩:=info_parts info3
 have hi0:=hid hi
 clear hi
 clear i1 i2 i3 h3
 have Z0:Whole ((w.alloc (.cells #[int i64 0,int i64 0,int i64 0,int i64 0,int i64 0,int i64 0,int i64 0,int i64 0,int i64 0,int i64 0] 88)).alloc (.cells #[int i64 0,int i64 0,int i64 0,int i64 0,int i64 0,int i64 0,int i64 0,int i64 0,int i64 0,int i64 0] 88)) (w.heap.size+1) 88 #[int i64 0,int i64 0,int i64 0,int i64 0,int i64 0,int i64 0,int i64 0,int i64 0,int i64 0,int i64 0]:=by
  have:=Whole.new (w.alloc (.cells #[int i64 0,int i64 0,int i64 0,int i64 0,int i64 0,int i64 0,int i64 0,int i64 0,int i64 0,int i64 0] 88)) 88 #[int i64 0,int i64 0,int i64 0,int i64 0,int i64 0,int i64 0,int i64 0,int i64 0,int i64 0,int i64 0]
  rwa[World.size_alloc] at this
 have Zr:Hid (Whole ((w.alloc (.cells #[int i64 0,int i64 0,int i64 0,int i64 0,int i64 0,int i64 0,int i64 0,int i64 0,int i64 0,int i64 0] 88)).alloc (.cells #[int i64 0,int i64 0,int i64 0,int i64 0,int i64 0,int i64 0,int i64 0,int i64 0,int i64 0,int i64 0] 88)) w.heap.size 88 #[int i64 0,int i64 0,int i64 0,int i64 0,int i64 0,int i64 0,int i64 0,int i64 0,int i64 0,int i64 0]):=hid ((Whole.new w 88 #[int i64 0,int i64 0,int i64 0,int i64 0,int i64 0,int i64 0,int i64 0,int i64 0,int i64 0,int i64 0]).alloc _)
 have ic:∀ (xs:List Int) (A:Option Addr) (W:World) (B:Nat),Ints W B A xs.length (fun i=>xs.getD i 0)→0<(xs.map (int i64)).length→∃ad,A=some ad∧∀j v,(xs.map (int i64))[j]? =some v→W.cell? (ad.add j)=some v:=fun xs A W B h hn=>by
  obtain⟨ad,rfl,-⟩:=h (by simpa using hn)
  refine⟨ad,rfl,fun j v hv=>?_⟩
  have hj:j<xs.length:=by
   have:=(List.getElem?_eq_some_iff.1 hv).1
   simpa using this
  rw[Ints.at_ h hj]
  simp[hj] at hv⊢
  exact hv
 have b6:(Tryz.prog.info? 3).map (·.size)=some 1:=by rw[hi0.out];simp[hz1]
 gi_enter func89,ntmps89
 gi_wp2_with (first
  | (refine pK rfl rfl _ _ _ _ rfl 3 underlying30 b6 _ _ _ _ _ _ rfl rfl (w.heap.size+1) 0 [int i64 0,int i64 0,int i64 0,int i64 0,int i64 0,int i64 0,int i64 0,int i64 0,int i64 0,int i64 0] 88 Z0 (l1.map (int i64)) (by rw[List.length_map];exact(Nat.min_eq_left hl1).symm) (fun h=>⟨rfl,ic l1 A1 _ _ (bK I1.out (bw)) h⟩) zm (by simp[Value.oneCell']) ?_;intro w2 hg2 hb2 ho2 hs2;rw[DN l1 hl1] at hg2;have hz2:=hs2;simp at hz2;have hW2:Below w.heap.size w w2:=(bw:Below w.heap.size w _).trans (hb2.mono (Nat.le_succ _)))
  | (refine pK rfl rfl _ _ _ _ rfl 3 underlying30 b6 _ _ _ _ _ _ rfl rfl (w.heap.size+1) 3 _ 88 hg2 (l2.map (int i64)) (by rw[List.length_map];exact(Nat.min_eq_left hl2).symm) (fun h=>⟨rfl,ic l2 A2 _ _ (bK I2.out hW2) h⟩) zm (by simp[Value.oneCell']) ?_;intro w3 hg3 hb3 ho3 hs3;rw[Gs _ _ _ l2 hl2] at hg3))
 have hzz:Whole w3 w.heap.size 88 #[int i64 0,int i64 0,int i64 0,int i64 0,int i64 0,int i64 0,int i64 0,int i64 0,int i64 0,int i64 0]:=(Zr.out.of (ho2 _ zo)).of (ho3 _ zo)
 have hW3:Below w.heap.size w w3:=hW2.trans (hb3.mono (Nat.le_succ _))
 obtain⟨fA,hfA⟩:∃fA:Nat→Int,fA=fun i=>l1.getD i 0:=⟨_,rfl⟩
 obtain⟨fM,An⟩:∃fM:Nat→Int,fM=fun i=>l2.getD i 0:=⟨_,rfl⟩
 have hg3':Whole w3 (w.heap.size+1) 88 (⟨fA,fM,gL (l3.take 0)⟩:Ht).cells:=by rw[hfA,An];exact hg3
 have P1:=hid hfA
 have QP:=hid An
 clear hfA An
 have G3:=hid hg3'
 have ZZ:=hid hzz
 have HW3:=hid hW3
 clear hg3' hzz hW3 hg3 hg2 hb2 hb3 hW2 ho2 ho3 Zr Z0 ic
 gi_loopw [20] (fun i wr=>∃k:Nat,k≤l3.length∧i=int i64 k∧Hid (Whole wr (w.heap.size+1) 88 (⟨fA,fM,gL (l3.take k)⟩:Ht).cells∧Whole wr w.heap.size 88 #[int i64 0,int i64 0,int i64 0,int i64 0,int i64 0,int i64 0,int i64 0,int i64 0,int i64 0,int i64 0]∧Below w.heap.size w wr)) (fun i _=>l3.length - (intOf i).toNat)
 case atStart=>exact⟨0,Nat.zero_le _,rfl,hid ⟨G3.out,ZZ.out,HW3.out⟩⟩
 case round=>
  obtain⟨k,hk,rfl,hR⟩:=hrel
  by_cases hlt:k<l3.length
  ·have HI3:=hid (bK I3.out hR.out.2.2)
   obtain⟨T0,rfl,-⟩:=HI3.out (show 0<l3.length by omega)
   have ck:=Ints.at_ HI3.out hlt
   obtain⟨mv,hmv,A6⟩:∃mv:Nat,l3.getD k 0=(mv:Int)∧mv<6:=by
    have:=H3.out (l3.getD k 0) (by rw[show l3.getD k 0=l3[k] by simp[hlt]];exact List.getElem_mem _)
    exact⟨(l3.getD k 0).toNat,zo,zo⟩
   rw[hmv] at ck
   have aaj:gL (l3.take k)<64:=Dt _ 0 zD (fun x hx=>by have:=H3.out x (List.mem_of_mem_take hx);omega)
   have hnx:gL (l3.take (k+1))=gL (l3.take k) |||2 ^ mv:=by rw[FU l3 hlt,hmv];rfl
   have HN:=hid hnx
   clear hnx
   obtain⟨sv,hsv⟩:∃sv,sv=gL (l3.take k):=⟨_,rfl⟩
   have hor:=or_bit ⟨sv,zo⟩ ⟨mv,A6⟩
   simp only at hor
   have hq:wr.cell? ⟨w.heap.size+1,9,none⟩=some (int i64 sv):=by rw[hsv];exact hR.out.1.cell 9
   have kq:=cell_regrown hq
   have hlt1:=hR.out.1.lt
   have key:∀M:Nat,M≤64→IntKind.i64.wrap (M:Int)=(M:Int):=fun M h=>IntWalk.i64_in _ zo
   have hw2:IntKind.i64.wrap ((2:Int) ^ mv)=(2:Int) ^ mv:=by
    have e:(2:Int) ^ mv=((2 ^ mv:Nat):Int):=by push_cast;rfl
    rw[e]
    exact key _ (Nat.le_trans (Nat.pow_le_pow_right zD (show mv≤6 by omega)) zD)
   clear key
   have em:min mv 64=mv:=Nat.min_eq_left zo
   have H5:=hid hsv
   clear hsv hq
   gi_wp2
   refine aJ 6 rfl zk zk ?_
   simp only[List.take_succ_cons,List.take_zero,List.drop_succ_cons,List.drop_zero]
   repeat (quiet_step_in (fail))
   refine wpQuietIn_nil ?_
   rintro w' ⟨⟨dq,osq⟩,rfl⟩
   have bg:=below_regrown wr dq osq
   clear kq
   generalize grow (redrawn wr dq) osq=w9 at bg⊢
   have V1:=hid (hR.out.1.below bg hR.out.1.lt)
   have V0:=hid (hR.out.2.1.below bg hR.out.2.1.lt)
   have hq:w9.cell? ⟨w.heap.size+1,9,none⟩=some (int i64 sv):=by rw[H5.out];exact V1.out.cell 9
   have hqf:w9.frozen? ⟨w.heap.size+1,9,none⟩=false:=V1.out.thaw 9
   have tH:=hid bg
   clear bg
   gi_wp2
   go_roundw
   case rel=>
    refine⟨k+1,zo,by go_num,hid ⟨?_,V0.out.other (p:=⟨w.heap.size+1,9,none⟩) zs _,(hR.out.2.2.trans (tH.out.mono zo)).setCell (p:=⟨w.heap.size+1,9,none⟩) (Nat.le_succ _) _⟩⟩
    rw[HN.out,← H5.out]
    exact V1.out.set 9 _
   case measure=>simp[intOf];omega
  ·obtain rfl:k=l3.length:=zo
   have q:∀i,wr.cell? ⟨w.heap.size+1,i,none⟩=(#[int i64 (fA 0),int i64 (fA 1),int i64 (fA 2),int i64 (fM 0),int i64 (fM 1),int i64 (fM 2),int i64 (fM 3),int i64 (fM 4),int i64 (fM 5),int i64 (gL l3:Nat)]:Array Value)[i]?:=by
    have:=hR.out.1
    rw[List.take_length] at this
    exact this.cell
   have z:=hR.out.2.1.cell
   have zf:=hR.out.2.1.thaw
   have hl0:=hR.out.2.1.lt
   gi_wp2
   have U:=((((((((((hR.out.2.1.set 0 (int i64 (fA 0))).set 1 (int i64 (fA 1))).set 2 (int i64 (fA 2))).set 3 (int i64 (fM 0))).set 4 (int i64 (fM 1))).set 5 (int i64 (fM 2))).set 6 (int i64 (fM 3))).set 7 (int i64 (fM 4))).set 8 (int i64 (fM 5))).set 9 (int i64 (gL l3:Nat)))
   have u0:=U.cell 0
   have u1:=U.cell 1
   have u2:=U.cell 2
   have u3:=U.cell 3
   have u4:=U.cell 4
   have u5:=U.cell 5
   have u6:=U.cell 6
   have u7:=U.cell 7
   have u8:=U.cell 8
   have u9:=U.cell 9
   clear q z zf
   refine bodyPost_ret (v:=.agg #[int i64 (fA 0),int i64 (fA 1),int i64 (fA 2),int i64 (fM 0),int i64 (fM 1),int i64 (fM 2),int i64 (fM 3),int i64 (fM 4),int i64 (fM 5),int i64 (gL l3:Nat)]) (by simp[results,results89,go_sem,u0,u1,u2,u3,u4,u5,u6,u7,u8,u9]) rfl ⟨by unfold iy;rw[← P1.out,← QP.out];rfl,((((((((((hR.out.2.2.setCell (p:=⟨w.heap.size,0,none⟩) (Nat.le_refl _) _).setCell (p:=⟨w.heap.size,1,none⟩) (Nat.le_refl _) _).setCell (p:=⟨w.heap.size,2,none⟩) (Nat.le_refl _) _).setCell (p:=⟨w.heap.size,3,none⟩) (Nat.le_refl _) _).setCell (p:=⟨w.heap.size,4,none⟩) (Nat.le_refl _) _).setCell (p:=⟨w.heap.size,5,none⟩) (Nat.le_refl _) _).setCell (p:=⟨w.heap.size,6,none⟩) (Nat.le_refl _) _).setCell (p:=⟨w.heap.size,7,none⟩) (Nat.le_refl _) _).setCell (p:=⟨w.heap.size,8,none⟩) (Nat.le_refl _) _).setCell (p:=⟨w.heap.size,9,none⟩) (Nat.le_refl _) _)⟩
end
section
open Go.RowKit
theorem FV:∀ (l:List Int) (s k:Nat),(∀x∈l,0≤x)→(l.foldl (fun s x=>s |||2 ^ x.toNat) s).testBit k=(s.testBit k || decide ((k:Int)∈l))
 | [],s,k,_=>zs
 | x :: l,s,k,h=>by
   have hx:=h x List.mem_cons_self
   rw[List.foldl_cons,FV l _ k (fun y hy=>h y (List.mem_cons_of_mem _ hy)),Nat.testBit_or,Nat.testBit_two_pow,Bool.or_assoc]
   congr 1
   by_cases hk:x.toNat=k
   ·have:(k:Int)=x:=zo
    simp[hk,this]
   ·have:¬ (k:Int)=x:=zo
    simp[hk,this]
theorem b7(l1 l2 l3:List Int)(k:Nat)(h:∀x∈l3,0≤x):(iy l1 l2 l3).FQ k=decide ((k:Int)∈l3):=by
 have:=FV l3 0 k h
 unfold Ht.FQ iy gL
 rw[Nat.testBit_eq_decide_div_mod_eq] at this
 rw[this]
 simp
open Classical in
theorem BJ(b:Bk)(l1 l2 l3:List Int)(h:∀x∈l3,0≤x)(d:Int)(g:Nat):∀k,stk b (iy l1 l2 l3) d k g=l1.getD g 0+((List.range k).map fun i=>if (b.m i).day≤d∧¬ (i:Int)∈l3 then xr b l2 g i else 0).sum
 | 0=>by simp[stk,iy]
 | Nat.succ k=>by
   have ih:=BJ b l1 l2 l3 h d g k
   rw[List.range_succ,List.map_append,List.sum_append,← Int.add_assoc,← ih]
   simp only[stk,List.map_cons,List.map_nil,List.sum_cons,List.sum_nil,Int.add_zero]
   by_cases hd:(b.m k).day≤d
   ·have hr:(iy l1 l2 l3).real k=if (k:Int)∈l3 then 0 else l2.getD k 0:=by
     unfold Ht.real
     rw[b7 l1 l2 l3 k h]
     by_cases hm:(k:Int)∈l3 <;> simp[hm,iy]
    rw[if_pos hd]
    unfold yA Yv
    rw[hr]
    by_cases hm:(k:Int)∈l3
    ·simp[hm]
    ·simp only[hm,if_false,not_false_eq_true,and_true,hd,if_true]
     unfold xr
     by_cases hg:(b.m k).good=(g:Int) <;> simp[hg]
   ·simp[hd]
theorem Gx(b:Bk)(l1 l2 l3:List Int)(h:∀x∈l3,0≤x)(d:Int)(g:Nat):stk b (iy l1 l2 l3) d b.nm g=vw b l1 l2 l3 g d:=BJ b l1 l2 l3 h d g b.nm
theorem F4(b:Bk)(l1 l2 l3:List Int)(h:∀x∈l3,0≤x)(g:Nat):∀k,Dw b (iy l1 l2 l3) k g=(List.range k).foldl (fun x (d:Nat)=>min x (vw b l1 l2 l3 g d)) (l1.getD g 0)
 | 0=>by simp[Dw,iy]
 | Nat.succ k=>by
   rw[List.range_succ,List.foldl_append,← F4 b l1 l2 l3 h g k]
   simp only[Dw,List.foldl_cons,List.foldl_nil]
   rw[Gx b l1 l2 l3 h]
theorem LQ{b:Bk}{l1 l2 l3:List Int}(ok:b.Ok)(hp:vG b l1 l2 l3):oD (iy l1 l2 l3)∧(∀x∈l3,0≤x∧x<6)∧l3.length≤6:=by
 have h3:∀x∈l3,0≤x∧x<6:=fun x hx=>by
  obtain⟨i,rfl,hi,_⟩:=hp.came x hx
  have:=ok.moves.1
  omega
 have hl:l3.length≤6:=by
  have h6:(l3.map Int.toNat).Nodup:=by
   rw[List.nodup_iff_pairwise_ne,List.pairwise_map]
   refine hp.up.imp_of_mem ?_
   intro x y hx hy hxy e
   have:=h3 x hx
   have:=h3 y hy
   omega
  have h7:(l3.map Int.toNat) ⊆ List.range 6:=fun x hx=>by
   obtain⟨y,hy,rfl⟩:=List.mem_map.1 hx
   have:=h3 y hy
   simp;omega
  have:=sP _ _ h6 h7
  simpa using this
 refine⟨⟨fun i _=>?_,fun i _=>?_,Dt l3 0 zD fun x hx=>by have:=h3 x hx;omega⟩,h3,hl⟩
 ·show 0≤l1.getD i 0∧l1.getD i 0≤99
  by_cases h:i<l1.length
  ·rw[show l1.getD i 0=l1[i] by simp[h]];exact hp.b1 _ (List.getElem_mem _)
  ·rw[show l1.getD i 0=0 by simp[show l1.length≤i by omega]];decide
 ·show 0≤l2.getD i 0∧l2.getD i 0≤99
  by_cases h:i<l2.length
  ·rw[show l2.getD i 0=l2[i] by simp[h]];exact hp.b2 _ (List.getElem_mem _)
  ·rw[show l2.getD i 0=0 by simp[show l2.length≤i by omega]];decide
end
end Go.Proofs.YthaelabgfnnebaaGreat
