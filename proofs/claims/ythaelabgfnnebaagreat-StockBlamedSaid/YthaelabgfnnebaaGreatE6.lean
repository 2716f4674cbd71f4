/- AG4 S9 LW LE LV AG5 OP -/
import Derived.Test.YthaelabgfnnebaaGreatE5
import Derived.Carry
import Derived.SizedLaws
import Derived.WideShapes
import Derived.ChangeShapes
import Derived.ChangeSlices
set_option maxRecDepth 100000
set_option maxHeartbeats 16000000
set_option linter.unusedVariables false
set_option linter.unusedSectionVars false
set_option linter.unusedSimpArgs false
open Go.IntKind(i64)
open Go.Lib(hid)
open Go.Proofs.Tryz
open Go.Value(int)
namespace Go.Proofs.YthaelabgfnnebaaGreat
section
open Go Go.Conc Go.ConcN Go.cu Go.Conc.Lib Go.aO Go.RowKit
attribute [local go_sem] Oper.semAt_some
variable[Inhabited aV]
theorem Jm(w:World)(b:Bk)(h:b.At w w.heap.size)(hgc:b.ng≤b.gc)(hd:-9223372036854775808≤b.days∧b.days≤9223372036854775807):
 iR 5 #[b.val] w (vW w):=by
 obtain⟨days,most,gA,ng,gc,g,mA,nm,mc,m,cA,nc,cc,c⟩:=b
 simp only[Bk.val,Bk.cells]
 refine kE func5 rfl zs ?_
 simp only[show Tryz.f5.ntmps=169 from rfl,List.size_toArray,List.length_cons,List.length_nil,Nat.reduceAdd,Nat.reduceSub,Array.replicate_succ,Array.replicate_zero,List.push_toArray,List.append_toArray,List.nil_append,List.cons_append]
 repeat refine aj.seq ?_
 refine aj.item ?_
 gi_wp2
 repeat refine aj.seq ?_
 refine aj.item ?_
 have Hh:=hid h
 have ZD:=hid hgc
 have W1:=hid ((h.alloc (Nat.le_refl _) (.cells #[int i64 days,int i64 most,.slice gA ng gc,.slice mA nm mc,.slice cA nc cc] 26)).more (show w.heap.size≤_ by simp):(⟨days,most,gA,ng,gc,g,mA,nm,mc,m,cA,nc,cc,c⟩:Bk).At (w.alloc (.cells #[int i64 days,int i64 most,.slice gA ng gc,.slice mA nm mc,.slice cA nc cc] 26)) (w.alloc (.cells #[int i64 days,int i64 most,.slice gA ng gc,.slice mA nm mc,.slice cA nc cc] 26)).heap.size)
 have hbx:=Whole.new w 26 #[int i64 days,int i64 most,.slice gA ng gc,.slice mA nm mc,.slice cA nc cc]
 have hB1:Below w.heap.size w (w.alloc (.cells #[int i64 days,int i64 most,.slice gA ng gc,.slice mA nm mc,.slice cA nc cc] 26)):=(Below.refl _ _).alloc (Nat.le_refl _) _
 have hs1:w.heap.size<(w.alloc (.cells #[int i64 days,int i64 most,.slice gA ng gc,.slice mA nm mc,.slice cA nc cc] 26)).heap.size:=zs
 clear h hgc
 generalize w.alloc (.cells #[int i64 days,int i64 most,.slice gA ng gc,.slice mA nm mc,.slice cA nc cc] 26)=w1 at *
 have c1:∀o,w1.cell? ⟨w.heap.size,o,none⟩=(#[int i64 days,int i64 most,.slice gA ng gc,.slice mA nm mc,.slice cA nc cc]:Array Value)[o]?:=fun o=>hbx.cell o
 have Bx:=hid hbx
 clear hbx
 gi_wp2_with (gi_at_call 7;refine(Wu w1 W1.out hd).mono ?_;rintro e w2 ⟨t,rfl,ht,hb2⟩;have HT:=hid ht;clear ht;have c2:w2.cell? ⟨w.heap.size,0,none⟩=some (int i64 days):=(Bx.out.below hb2 hs1).cell 0)
 all_goals have W2:=hid ((W1.out.below hb2).more hb2.size)
 all_goals have hB2:=hid (hB1.trans (hb2.mono (Nat.le_of_lt hs1)))
 all_goals have Ah:=hid (Bx.out.below hb2 hs1)
 all_goals clear c1 W1 Bx hB1 hb2 hs1
 cases t
 ·refine aj.cond_true (by simp[Act.eval]) ?_
  have HV:=hid (nU w2)
  repeat refine aj.seq ?_
  refine aj.iD 0 zD ?_
  simp only[List.take_zero]
  refine jv rfl rfl rfl (enters_of func8 zk rfl) (Rc:=vW w2) (args:=#[]) (by simp only[List.map_toArray,List.map_cons,List.map_nil]) HV.out ?_
  rintro x wz ⟨rfl,hp⟩
  simp only[List.drop_succ_cons,List.drop_zero,Act.put,List.setIfInBounds_toArray,List.set_cons_succ,List.set_cons_zero]
  gi_wp2
  simp only[yR]
  gi_wp2
  exact⟨rfl,_,results_tmp rfl _ _ _,_,rfl,rfl,Past.of hB2.out hp⟩
 ·refine aj.cond_false (by simp[Act.eval]) ?_
  refine aj.skip ?_
  have ok:=HT.out rfl
  clear HT
  have o1:1≤days∧days≤99:=ok.days
  have o2:1≤ng∧ng≤3:=ok.bM.1
  have o3:0≤most∧most≤2:=ok.most
  have o4:nm≤6:=ok.moves.1
  obtain⟨n,m',hn0,hnm,qq,qu,hbl⟩:=Jl ⟨days,most,gA,ng,gc,g,mA,nm,mc,m,cA,nc,cc,c⟩ ok ZD.out
  have No:=hid qq
  have Nx:=hid qu
  have Wb:=hid hbl
  clear qq qu hbl
  have B2:=hB2
  have X2:=Ah
  clear hB2 Ah c2
  repeat refine aj.seq ?_
  refine aj.item ?_
  have c0:∀o,w2.cell? ⟨w.heap.size,o,none⟩=(#[int i64 days,int i64 most,.slice gA ng gc,.slice mA nm mc,.slice cA nc cc]:Array Value)[o]?:=fun o=>X2.out.cell o
  gi_wp2_with (gi_at_call 13;refine(Wb.out _ W2.out).mono ?_;rintro e w3 ⟨hres,hb3⟩;obtain⟨vl,sb,rfl,hvl⟩:∃ (vl:Value) (sb:Int),e=.returned (.tuple #[vl,int i64 sb])∧((n=0∧vl=.slice none 0 0∧sb=9)∨∃ (L:List Int) (A:Option Addr) (c0:Nat),ZU ⟨days,most,gA,ng,gc,g,mA,nm,mc,m,cA,nc,cc,c⟩ n L∧vl=.slice A L.length c0∧sb=0∧Ints w3 w3.heap.size A L.length (fun i=>L.getD i 0)):=(by rcases hres with⟨h1,h2⟩|⟨L,A,c0,h1,h2,h3⟩;exact⟨_,_,h2,.inl ⟨h1,rfl,rfl⟩⟩;exact⟨_,_,h2,.inr ⟨L,A,c0,h1,rfl,rfl,h3⟩⟩))
  have Pe:=hid hvl
  clear hvl hres
  have B3:=hid (B2.out.trans (hb3.mono B2.out.size))
  have W3:=hid ((W2.out.below hb3).more hb3.size)
  have X3:=hid (X2.out.below hb3 X2.out.lt)
  clear c0 B2 W2 X2
  repeat refine aj.seq ?_
  refine aj.item ?_
  have c0:∀o,w3.cell? ⟨w.heap.size,o,none⟩=(#[int i64 days,int i64 most,.slice gA ng gc,.slice mA nm mc,.slice cA nc cc]:Array Value)[o]?:=fun o=>X3.out.cell o
  gi_wp2_with (gi_at_call 14;refine(No.out _ W3.out).mono ?_;rintro e w4 ⟨rfl,hb4⟩)
  have B4:=hid (B3.out.trans (hb4.mono B3.out.size))
  have W4:=hid ((W3.out.below hb4).more hb4.size)
  have X4:=hid (X3.out.below hb4 X3.out.lt)
  clear c0 B3 W3 X3 No
  repeat refine aj.seq ?_
  refine aj.item ?_
  have c0:∀o,w4.cell? ⟨w.heap.size,o,none⟩=(#[int i64 days,int i64 most,.slice gA ng gc,.slice mA nm mc,.slice cA nc cc]:Array Value)[o]?:=fun o=>X4.out.cell o
  gi_wp2
  obtain⟨w5,wZ⟩:∃x,x=w4.alloc (.cells (#[int i64 days,int i64 most,.slice gA ng gc,.slice mA nm mc,.slice cA nc cc]:Array Value) 26):=⟨_,rfl⟩
  rw[← wZ]
  have hb5:Below w4.heap.size w4 w5:=by rw[wZ];exact(Below.refl _ _).alloc (Nat.le_refl _) _
  have M5:Whole w5 w4.heap.size 26 (#[int i64 days,int i64 most,.slice gA ng gc,.slice mA nm mc,.slice cA nc cc]:Array Value):=by rw[wZ];exact Whole.new _ _ _
  have X5:=hid (X4.out.below hb5 X4.out.lt)
  have hne:w.heap.size≠w4.heap.size:=Nat.ne_of_lt X4.out.lt
  have Hi:=hb5.size
  repeat refine aj.seq ?_
  refine aj.item ?_
  clear c0 wZ
  have c1:w5.cell? ⟨w.heap.size,1,none⟩=some (int i64 most):=X5.out.cell 1
  have mc1:w5.cell? ⟨w4.heap.size,1,none⟩=some (int i64 most):=M5.cell 1
  have mt1:=M5.thaw 1
  have u1:IntKind.i64.wrap (most+1)=most+1:=IntWalk.i64_in _ zo
  gi_wp2
  obtain⟨w6,Gj⟩:∃x,x=w5.setCell ⟨w4.heap.size,1,none⟩ (int i64 (min (most+1) 2)):=⟨_,rfl⟩
  rw[← Gj]
  have hb6:Below w4.heap.size w4 w6:=by rw[Gj];exact hb5.setCell (Nat.le_refl _) _
  have M6:=hid (show Whole w6 w4.heap.size 26 #[int i64 days,int i64 (min (most+1) 2),.slice gA ng gc,.slice mA nm mc,.slice cA nc cc] by rw[Gj];exact M5.set 1 _)
  have B6:=hid (B4.out.trans (hb6.mono B4.out.size))
  have W6:=hid ((W4.out.below hb6).more hb6.size)
  have X6:=hid (X4.out.below hb6 X4.out.lt)
  clear c1 mc1 mt1 u1 Gj M5 hb5 X5 B4 W4 X4 Hi hne
  repeat refine aj.seq ?_
  refine aj.item ?_
  have c0:∀o,w6.cell? ⟨w4.heap.size,o,none⟩=(#[int i64 days,int i64 (min (most+1) 2),.slice gA ng gc,.slice mA nm mc,.slice cA nc cc]:Array Value)[o]?:=fun o=>M6.out.cell o
  gi_wp2_with (gi_at_call 14;refine(Nx.out _ W6.out).mono ?_;rintro e w7 ⟨rfl,DX⟩)
  have B7:=hid (B6.out.trans (DX.mono B6.out.size))
  have W7:=hid ((W6.out.below DX).more DX.size)
  have X7:=hid (X6.out.below DX X6.out.lt)
  have To:w4.heap.size<w7.heap.size:=Nat.lt_of_lt_of_le M6.out.lt DX.size
  have Pd:Hid ((n=0∧vl=.slice none 0 0∧sb=9)∨∃ (L:List Int) (A:Option Addr) (c0:Nat),ZU ⟨days,most,gA,ng,gc,g,mA,nm,mc,m,cA,nc,cc,c⟩ n L∧vl=.slice A L.length c0∧sb=0∧Ints w7 w7.heap.size A L.length (fun i=>L.getD i 0)):=hid (Pe.out.imp (fun h=>h) fun⟨L,A,c0,h1,h2,h3,h4⟩=>⟨L,A,c0,h1,h2,h3,aT (aT (aT h4 hb4) hb6) DX⟩)
  clear c0 B6 W6 X6 Nx Pe M6 hb4 hb6 DX
  have d1:decide (n<0)=false:=decide_eq_false zo
  have d2:decide (m'<n)=false:=decide_eq_false zo
  repeat refine aj.seq ?_
  refine aj.item ?_
  rcases Pd.out with⟨rfl,rfl,rfl⟩|⟨L,AL,cL,hL,rfl,rfl,SP⟩
  ·gi_wp2
   all_goals refine aj.cond_false (by simp[Act.eval];try omega) ?_
   all_goals refine aj.skip ?_
   all_goals repeat refine aj.seq ?_
   all_goals refine aj.item ?_
   gi_wp2
   refine aj.cond_true (by simp[Act.eval]) ?_
   have HV:=hid (nU w7)
   repeat refine aj.seq ?_
   refine aj.iD 8 zD ?_
   simp only[List.take_succ_cons,List.take_zero]
   gi_wp2
   refine jv rfl rfl rfl (enters_of func8 zk rfl) (Rc:=vW w7) (args:=#[]) (by simp only[List.map_toArray,List.map_cons,List.map_nil]) HV.out ?_
   rintro x wz ⟨rfl,hp⟩
   simp only[List.drop_succ_cons,List.drop_zero,Act.put,List.setIfInBounds_toArray,List.set_cons_succ,List.set_cons_zero]
   gi_wp2
   simp only[yR]
   gi_wp2
   exact⟨rfl,_,results_tmp rfl _ _ _,_,rfl,rfl,Past.of B7.out hp⟩
  ·have HL:=hid hL
   have NN:=hid SP
   clear hL SP Pd
   gi_wp2
   all_goals refine aj.cond_false (by simp[Act.eval];try omega) ?_
   all_goals refine aj.skip ?_
   all_goals repeat refine aj.seq ?_
   all_goals refine aj.item ?_
   gi_wp2
   refine aj.cond_false (by simp[Act.eval]) ?_
   refine aj.skip ?_
   repeat refine aj.seq ?_
   refine aj.item ?_
   have c0:∀o,w7.cell? ⟨w.heap.size,o,none⟩=(#[int i64 days,int i64 most,.slice gA ng gc,.slice mA nm mc,.slice cA nc cc]:Array Value)[o]?:=fun o=>X7.out.cell o
   obtain⟨NT,xb⟩:∃NT,NT=bn ⟨days,most,gA,ng,gc,g,mA,nm,mc,m,cA,nc,cc,c⟩ nm:=⟨_,rfl⟩
   have MM:Hid (CallsIn FF 0 prog 15 #[.agg (#[int i64 days,int i64 most,.slice gA ng gc,.slice mA nm mc,.slice cA nc cc]:Array Value)] w7 fun e w'=>∃v,e=.returned v∧w'.ownsRow w7.heap.size 3 1 v NT.length (NT.map (int i64))∧Below w7.heap.size w7 w'):=hid (by rw[xb];exact RA ⟨days,most,gA,ng,gc,g,mA,nm,mc,m,cA,nc,cc,c⟩ w7 W7.out o4)
   have M':Hid (∀i,i<L.length→hasB NT.length (fun i=>NT.getD i 0) (L.getD i 0)=true):=hid (by rw[xb];exact HL.out.came)
   have lnt:NT.length≤6:=by rw[xb];exact Nat.le_trans (kJ _ _) o4
   clear xb
   gi_wp2_with (gi_at_call 15;refine MM.out.mono ?_;rintro e w8 ⟨vc,rfl,hown,LW⟩;obtain⟨AC,cC,rfl⟩:=dF hown;have SO:=hid (dA hown);clear hown)
   have B8:=hid (B7.out.trans (LW.mono B7.out.size))
   have W8:=hid ((W7.out.below LW).more LW.size)
   have X8:=hid (X7.out.below LW X7.out.lt)
   have nd:=hid (aT NN.out LW)
   clear c0 B7 W7 X7 NN MM LW
   have l10:=HL.out.len
   repeat refine aj.seq ?_
   refine aj.item ?_
   gi_wp2
   repeat refine aj.seq ?_
   refine aj.item ?_
   gi_wp2
   gi_loopw [11] (fun i wr=>∃k:Nat,k≤L.length∧i=int i64 k∧Hid (Below w8.heap.size w8 wr)) (fun i _=>L.length - (intOf i).toNat)
   case atStart=>exact⟨0,Nat.zero_le _,rfl,hid (Below.refl _ _)⟩
   case round=>
    obtain⟨k,hk,rfl,hT⟩:=hrel
    obtain⟨wo,rfl⟩:∃wo:World,wo=wr:=⟨_,rfl⟩
    by_cases hlt:k<L.length
    ·obtain⟨al,eal,hab,-⟩:=nd.out (show 0<L.length by omega)
     subst eal
     have cV:∀ {p:Addr} {v:Value},p.block<w8.heap.size→w8.cell? p=some v→wo.cell? p=some v:=fun hp h=>(hT.out.cell hp).trans h
     have d0:wo.cell? (al.add k)=some (int i64 (L.getD k 0)):=cV (by rw[aH];exact hab) (nd.out.at_ hlt)
     have hhas:=M'.out k hlt
     obtain⟨x,hx⟩:∃x,x=L.getD k 0:=⟨_,rfl⟩
     rw[← hx] at d0 hhas
     have BE:=aT SO.out hT.out
     have HH:Hid (∀q,CallsIn FF 0 prog 16 #[.slice AC NT.length cC,int i64 x] (wo.drewN q) fun e w'=>e=.returned (.bool true)∧w'=wo.drewN q):=hid fun q=>by
      have h1:Ints (wo.drewN q) wo.heap.size AC NT.length (fun i=>NT.getD i 0):=fun hn=>by
       obtain⟨ad,e,hb,hc⟩:=BE hn
       exact⟨ad,e,hb,fun i j hi hj=>hc i j hi hj⟩
      have:=LQ AC NT.length cC (fun i=>NT.getD i 0) x wo.heap.size (wo.drewN q) h1 zU
      rw[hhas] at this
      exact this.mono fun e w' h=>⟨h.1,h.2.symm⟩
     have e5:(k:Int)<(L.length:Int):=zo
     by_cases hk0:0<k
     ·have hd0:decide (0<(k:Int))=true:=zm
      have d9:wo.cell? (al.add (k - 1))=some (int i64 (L.getD (k - 1) 0)):=cV (by rw[aH];exact hab) (nd.out.at_ (show k - 1<L.length by omega))
      have hu:=HL.out.up k hk0 hlt
      rw[← hx] at hu
      generalize L.getD (k - 1) 0=y at d9 hu
      have hd2:decide (x≤y)=false:=decide_eq_false zo
      have e2:0≤(k:Int) - 1:=zo
      have e2':1≤(k:Int):=zo
      have e4:(k:Int) - 1<L.length:=zo
      have e3:((k:Int) - 1).toNat=k - 1:=zo
      have e1:IntKind.i64.wrap ((k:Int) - 1)=(k:Int) - 1:=IntWalk.i64_in _ zo
      clear hx hhas BE cV
      gi_wp2
      gi_quiet ((gi_at_call 16;exact CallsIn.quiet_of_same (HH.out _)))
      gi_wp2
      exact⟨⟨k+1,hlt,by push_cast;rfl,hid (below_drewN hT.out _)⟩,by simp[intOf];omega⟩
     ·have hd0:decide (0<(k:Int))=false:=zm
      clear hx hhas BE cV
      gi_wp2
      gi_quiet ((gi_at_call 16;exact CallsIn.quiet_of_same (HH.out _)))
      gi_wp2
      exact⟨⟨k+1,hlt,by push_cast;rfl,hid (below_drewN hT.out _)⟩,by simp[intOf];omega⟩
    ·obtain rfl:L.length=k:=zo
     gi_wp2
     have B9:=hid (B8.out.trans (hT.out.mono B8.out.size))
     have W9:=hid ((W8.out.below hT.out).more hT.out.size)
     have X9:=hid (X8.out.below hT.out X8.out.lt)
     have IL9:=hid (aT nd.out hT.out)
     clear hT B8 W8 X8 nd M' SO
     repeat refine aj.seq ?_
     refine aj.item ?_
     have c1:wo.cell? ⟨w.heap.size,1,none⟩=some (int i64 most):=X9.out.cell 1
     gi_wp2
     refine aj.cond_false (by simp[Act.eval];exact HL.out.most) ?_
     refine aj.skip ?_
     clear c1
     repeat refine aj.seq ?_
     refine aj.item ?_
     have c0:∀o,wo.cell? ⟨w.heap.size,o,none⟩=(#[int i64 days,int i64 most,.slice gA ng gc,.slice mA nm mc,.slice cA nc cc]:Array Value)[o]?:=fun o=>X9.out.cell o
     gi_wp2
     obtain⟨w10,Aj⟩:∃x,x=wo.alloc (.cells (#[int i64 days,int i64 most,.slice gA ng gc,.slice mA nm mc,.slice cA nc cc]:Array Value) 26):=⟨_,rfl⟩
     rw[← Aj]
     have Ga:Below wo.heap.size wo w10:=by rw[Aj];exact(Below.refl _ _).alloc (Nat.le_refl _) _
     have kp:Whole w10 wo.heap.size 26 (#[int i64 days,int i64 most,.slice gA ng gc,.slice mA nm mc,.slice cA nc cc]:Array Value):=by rw[Aj];exact Whole.new _ _ _
     have oc1:w10.cell? ⟨wo.heap.size,1,none⟩=some (int i64 most):=kp.cell 1
     have oc3:w10.cell? ⟨wo.heap.size,3,none⟩=some (.slice mA nm mc):=kp.cell 3
     have of1:=kp.thaw 1
     have of3:=kp.thaw 3
     clear Aj c0
     repeat refine aj.seq ?_
     refine aj.item ?_
     gi_wp2
     obtain⟨w11,Sy⟩:∃x,x=(w10.setCell ⟨wo.heap.size,1,none⟩ (int i64 0)).setCell ⟨wo.heap.size,3,none⟩ (.slice none 0 0):=⟨_,rfl⟩
     rw[← Sy]
     have pr:Below wo.heap.size wo w11:=by rw[Sy];exact(Ga.setCell (p:=⟨wo.heap.size,1,none⟩) (Nat.le_refl _) _).setCell (p:=⟨wo.heap.size,3,none⟩) (Nat.le_refl _) _
     have PF:Whole w11 wo.heap.size 26 #[int i64 days,int i64 0,.slice gA ng gc,.slice none 0 0,.slice cA nc cc]:=by rw[Sy];exact(kp.set 1 _).set 3 _
     have Wr:=hid (dn.start ⟨days,most,gA,ng,gc,g,mA,nm,mc,m,cA,nc,cc,c⟩ L (X:=wo.heap.size) pr PF)
     clear Sy Ga kp oc1 oc3 of1 of3 pr PF
     repeat refine aj.seq ?_
     refine aj.item ?_
     gi_wp2
     repeat refine aj.seq ?_
     refine aj.item ?_
     gi_wp2
     have z1:=X9.out.lt
     gi_loopw [13] (fun i wl=>∃ (kk:Nat) (vM:Value),kk≤nm∧i=int i64 kk∧Hid (dn ⟨days,most,gA,ng,gc,g,mA,nm,mc,m,cA,nc,cc,c⟩ L wo.heap.size wo wl vM vM kk)) (fun i _=>nm - (intOf i).toNat)
     case atStart=>exact⟨0,_,Nat.zero_le _,rfl,Wr⟩
     case round=>
      obtain⟨kk,vM,hkk,rfl,hC⟩:=hrel
      obtain⟨wl,rfl⟩:∃wl:World,wl=wr:=⟨_,rfl⟩
      have hlX:=hC.out.box.lt
      have c3:wl.cell? ⟨w.heap.size,3,none⟩=some (.slice mA nm mc):=(hC.out.below.cell (p:=⟨w.heap.size,3,none⟩) z1).trans (X9.out.cell 3)
      have y1:w.heap.size<wl.heap.size:=zo
      by_cases hlt:kk<nm
      ·have hH:CallsIn FF 0 prog 16 #[.slice AL L.length cL,int i64 kk] wl fun e w'=>e=.returned (.bool (hasB L.length (fun i=>L.getD i 0) kk))∧wl=w':=LQ AL L.length cL (fun i=>L.getD i 0) kk wo.heap.size wl (IL9.out.below hC.out.below) zU
       by_cases hin:(kk:Int)∈L
       ·rw[(wU L kk).2 hin] at hH
        have HH:=hid hH
        clear hH
        gi_wp2_with (gi_at_call 16;refine HH.out.mono ?_;rintro e w' ⟨rfl,rfl⟩)
        refine⟨⟨kk+1,vM,hlt,by push_cast;rfl,hid (hC.out.skip hin)⟩,by simp[intOf];omega⟩
       ·rw[show hasB L.length (fun i=>L.getD i 0) kk=false by
         cases h:hasB L.length (fun i=>L.getD i 0) kk with
         | false=>rfl
         | true=>exact absurd ((wU L kk).1 h) hin] at hH
        have HH:=hid hH
        clear hH
        obtain⟨am,oR,aah,-⟩:=W9.out.m (show 0<nm by omega)
        simp only at oR
        subst oR
        have hr:=W9.out.m.row hlt
        have c0:wo.cell? (am.add (kk * 5))=some (int i64 (m kk).kind):=hr.2 0 zD
        have c1:wo.cell? ⟨(am.add (kk * 5)).block,(am.add (kk * 5)).off+1,none⟩=some (int i64 (m kk).good):=hr.2 1 zD
        have c2:wo.cell? ⟨(am.add (kk * 5)).block,(am.add (kk * 5)).off+2,none⟩=some (int i64 (m kk).day):=hr.2 2 zD
        have c3w:wo.cell? ⟨(am.add (kk * 5)).block,(am.add (kk * 5)).off+3,none⟩=some (int i64 (m kk).lo):=hr.2 3 zD
        have c4:wo.cell? ⟨(am.add (kk * 5)).block,(am.add (kk * 5)).off+4,none⟩=some (int i64 (m kk).hi):=hr.2 4 zD
        have hab:(am.add (kk * 5)).block<wo.heap.size:=by rw[aH];exact hr.1
        clear hr
        have x3:=X9.out.cell 3
        have e3:(0:Int)≤(kk:Int):=Int.natCast_nonneg _
        have e4:(kk:Int)<(nm:Int):=zo
        have hlen:=nK L kk
        have F8:∀ (w':World) (UP:Value) (k1:Nat),dn ⟨days,most,gA,ng,gc,g,some am,nm,mc,m,cA,nc,cc,c⟩ L wo.heap.size wo w' vM UP k1→w'.cell? ⟨wo.heap.size,3,none⟩=some vM∧w'.cell? ⟨w.heap.size,3,none⟩=some (.slice (some am) nm mc)∧w'.cell? (am.add (kk * 5))=some (int i64 (m kk).kind)∧w'.cell? ⟨(am.add (kk * 5)).block,(am.add (kk * 5)).off+1,none⟩=some (int i64 (m kk).good)∧w'.cell? ⟨(am.add (kk * 5)).block,(am.add (kk * 5)).off+2,none⟩=some (int i64 (m kk).day)∧w'.cell? ⟨(am.add (kk * 5)).block,(am.add (kk * 5)).off+3,none⟩=some (int i64 (m kk).lo)∧w'.cell? ⟨(am.add (kk * 5)).block,(am.add (kk * 5)).off+4,none⟩=some (int i64 (m kk).hi):=fun w' UP k1 h=>
         ⟨h.box.cell 3,(h.below.cell (p:=⟨w.heap.size,3,none⟩) z1).trans x3,(h.below.cell hab).trans c0,(h.below.cell (p:=⟨(am.add (kk * 5)).block,(am.add (kk * 5)).off+1,none⟩) hab).trans c1,(h.below.cell (p:=⟨(am.add (kk * 5)).block,(am.add (kk * 5)).off+2,none⟩) hab).trans c2,(h.below.cell (p:=⟨(am.add (kk * 5)).block,(am.add (kk * 5)).off+3,none⟩) hab).trans c3w,(h.below.cell (p:=⟨(am.add (kk * 5)).block,(am.add (kk * 5)).off+4,none⟩) hab).trans c4⟩
        have ig:=hid F8
        clear F8
        have WN:=hid hC.out.drew
        obtain⟨iM,hiM,hm0,hm1,hm2⟩:=info_parts Tryz.infoM
        gi_wp2_with (gi_at_call 16;refine HH.out.mono ?_;rintro e w' ⟨rfl,rfl⟩)
        refine AZ [10] (fun w'=>w'.cell? ⟨wo.heap.size,3,none⟩=some vM∧w'.cell? ⟨w.heap.size,3,none⟩=some (.slice (some am) nm mc)∧w'.cell? (am.add (kk * 5))=some (int i64 (m kk).kind)∧w'.cell? ⟨(am.add (kk * 5)).block,(am.add (kk * 5)).off+1,none⟩=some (int i64 (m kk).good)∧w'.cell? ⟨(am.add (kk * 5)).block,(am.add (kk * 5)).off+2,none⟩=some (int i64 (m kk).day)∧w'.cell? ⟨(am.add (kk * 5)).block,(am.add (kk * 5)).off+3,none⟩=some (int i64 (m kk).lo)∧w'.cell? ⟨(am.add (kk * 5)).block,(am.add (kk * 5)).off+4,none⟩=some (int i64 (m kk).hi)) zk ?_
        have hS:=ig.out _ _ _ WN.out
        refine ZR (i:=0) (some 131) hS ?_
        simp only[Act.put,List.setIfInBounds_toArray,List.set]
        refine ZR (i:=1) (some 132) hS ?_
        simp only[Act.put,List.setIfInBounds_toArray,List.set]
        refine ZR (i:=2) (some 133) hS ?_
        simp only[Act.put,List.setIfInBounds_toArray,List.set]
        refine ZR (i:=3) (some 134) hS ?_
        simp only[Act.put,List.setIfInBounds_toArray,List.set]
        refine ZR (i:=4) (some 135) hS ?_
        simp only[Act.put,List.setIfInBounds_toArray,List.set]
        refine ZR (i:=5) (some 136) hS ?_
        simp only[Act.put,List.setIfInBounds_toArray,List.set]
        refine ZR (i:=6) (some 137) hS ?_
        simp only[Act.put,List.setIfInBounds_toArray,List.set]
        refine fp 7 fun K hK=>?_
        go_simp
        have hA:=(hC.out.alloc (.cells #[int i64 (m kk).kind,int i64 (m kk).good,int i64 (m kk).day,int i64 (m kk).lo,int i64 (m kk).hi] 52)).drew
        have bA:(wl.alloc (.cells #[int i64 (m kk).kind,int i64 (m kk).good,int i64 (m kk).day,int i64 (m kk).lo,int i64 (m kk).hi] 52)).drew.heap[wl.heap.size]? =some (.cells #[int i64 (m kk).kind,int i64 (m kk).good,int i64 (m kk).day,int i64 (m kk).lo,int i64 (m kk).hi] 52):=heap_alloc_new wl _
        have sA:(wl.alloc (.cells #[int i64 (m kk).kind,int i64 (m kk).good,int i64 (m kk).day,int i64 (m kk).lo,int i64 (m kk).hi] 52)).drew.heap.size=wl.heap.size+1:=zs
        refine hK.out _ _ (fun _=>ig.out _ _ _ hA) ?_
        clear hK K
        generalize (wl.alloc (.cells #[int i64 (m kk).kind,int i64 (m kk).good,int i64 (m kk).day,int i64 (m kk).lo,int i64 (m kk).hi] 52)).drew=wA at *
        have HA:=hid hA
        clear hA
        refine fp 8 fun K hK=>?_
        refine nk rfl zr zr (step_append_lies (E:=True) _ zr _ _ _ zr (wo.heap.size+1) 52 iM _ 5 40 underlying23 hiM hm0 hm1 hm2 rfl zo vM (kept L kk).length _ zr HA.out.rM ⟨wl.heap.size,0,none⟩ 1 1 ((m kk).flat) zr zr (World.news_of_block bA) (by simp[Mv.flat,Value.oneCell']) zo zU zo zo _ rfl ?_)
        intro gg cap wB hown hgrow hat aat
        change K (Act.put _ (some 139) _) wB
        have hB:=HA.out.grow hin hgrow hown
        refine hK.out _ _ (fun _=>ig.out _ _ _ hB) ?_
        clear hK K
        have zf:=hB.box.thaw 3
        have zc:wB.cell? ⟨wo.heap.size,3,none⟩=some vM:=hB.box.cell 3
        have HB:=hid hB
        clear hB
        simp only[Act.put,List.setIfInBounds_toArray,List.set]
        have DS:=ig.out _ _ _ HB.out
        refine ZR (i:=9) (some 140) DS ?_
        simp only[Act.put,List.setIfInBounds_toArray,List.set]
        refine fp 10 fun K hK=>?_
        go_simp
        refine hK.out _ _ (fun h=>absurd zD h) ?_
        clear hK K
        refine AJ zk ?_ _
        gi_wp2
        go_roundw
        case rel=>exact⟨kk+1,_,zo,rfl,hid HB.out.store⟩
        case measure=>simp[intOf];omega
      ·obtain rfl:nm=kk:=zo
       gi_wp2
       obtain⟨A',c',eM,dm⟩:=hC.out.at_ W9.out
       have hBx:=hC.out.box
       simp only at hBx eM dm
       subst eM
       have xr:=hid (B9.out.trans (hC.out.below.mono B9.out.size))
       have Lj:=hid dm
       have uA:=hid hBx
       obtain⟨k1,hk1,hh⟩:=HL.out.hist A' c'
       have NF:=hid hh
       have MD:=hid (HL.out.none A' c')
       clear hh dm hBx hC
       repeat refine aj.seq ?_
       refine aj.item ?_
       have c0:∀o,wl.cell? ⟨wo.heap.size,o,none⟩=(#[int i64 days,int i64 0,.slice gA ng gc,.slice A' (kept L nm).length c',.slice cA nc cc]:Array Value)[o]?:=fun o=>uA.out.cell o
       gi_wp2_with (gi_at_call 14;refine(NF.out _ Lj.out).mono ?_;rintro e w13 ⟨rfl,uZ⟩)
       have ZT:=hid (xr.out.trans (uZ.mono xr.out.size))
       have VJ:=hid ((Lj.out.below uZ).more uZ.size)
       have PC:=hid (uA.out.below uZ uA.out.lt)
       clear c0 uZ xr Lj uA NF
       repeat refine aj.seq ?_
       refine aj.item ?_
       have c0:∀o,w13.cell? ⟨wo.heap.size,o,none⟩=(#[int i64 days,int i64 0,.slice gA ng gc,.slice A' (kept L nm).length c',.slice cA nc cc]:Array Value)[o]?:=fun o=>PC.out.cell o
       gi_wp2_with (gi_at_call 13;refine(MD.out _ VJ.out).mono ?_;rintro e w14 ⟨⟨A5,c5,rfl⟩,pv⟩)
       have lE:=hid (ZT.out.trans (pv.mono ZT.out.size))
       clear c0 pv ZT VJ PC MD
       have d9:decide (0<k1)=true:=decide_eq_true hk1
       have HV:=hid (nU w14)
       repeat refine aj.seq ?_
       refine aj.iD 16 zD ?_
       simp only[List.take_succ_cons,List.take_zero]
       gi_wp2
       refine jv rfl rfl rfl (enters_of func8 zk rfl) (Rc:=vW w14) (args:=#[]) (by simp only[List.map_toArray,List.map_cons,List.map_nil]) HV.out ?_
       rintro x wz ⟨rfl,hp⟩
       simp only[List.drop_succ_cons,List.drop_zero,Act.put,List.setIfInBounds_toArray,List.set_cons_succ,List.set_cons_zero]
       gi_wp2
       simp only[yR]
       gi_wp2
       exact⟨rfl,_,results_tmp rfl _ _ _,_,rfl,rfl,Past.of lE.out hp⟩
end
section
open Go.RowKit
section
variable{days most:Int}{gA mA cA:Option Addr}{ng gc nm mc nc cc:Nat}{g:Nat→Good}{m:Nat→Mv}{c:Nat→Ct}
end
end
section
open Go Go.Conc Go.ConcN Go.cu Go.Conc.Lib Go.aO Go.RowKit
attribute [local go_sem] Oper.semAt_some
variable[Inhabited aV]
end
section
open Go Go.Conc Go.ConcN Go.cu Go.Conc.Lib Go.aO
variable[Inhabited aV]
def Dj(W:World)(x:Value)(u:World):Prop:=x=.bool true∧u.os=W.os∧u.output=W.output∧W.heap.size≤u.heap.size∧∀q,q<W.heap.size→u.heap[q]? =W.heap[q]?
theorem Rows.lift{W W0:World}(hc:∀p x,W.cell? p=some x→W0.cell? p=some x){B size n:Nat}{A:Option Addr}{f:Nat→Nat→Value}(h:Rows W B size A n f):Rows W0 B size A n f:=fun hn=>by
 obtain⟨ad,e,hb,k⟩:=h hn
 exact⟨ad,e,hb,fun i j hi hj=>hc _ _ (k i j hi hj)⟩
theorem XA(n:Nat):SF.room n:=fun d h=>by cases h
def Odd(W:World)(q:Nat):Prop:=∃o,W.heap[q]? =some o∧¬ dS.Plain ⟨fun _=>False,vk⟩ o
open Classical in
noncomputable def bare(Z:Nat→Prop)(W:World):World:={W with heap:=W.heap.mapIdx fun q o=>if Z q then dS.X0 q else o }
theorem Nk(Z:Nat→Prop)(W:World):(bare Z W).heap.size=W.heap.size:=by show(W.heap.mapIdx _).size=_;simp
theorem VL{Z:Nat→Prop}{W:World}{q:Nat}(hq:¬ Z q):(bare Z W).heap[q]? =W.heap[q]?:=by
 simp only[bare,Array.getElem?_mapIdx]
 cases W.heap[q]? <;> simp[hq]
theorem Rm{Z:Nat→Prop}{W:World}{q:Nat}{o:Obj}(hq:Z q)(ho:W.heap[q]? =some o):(bare Z W).heap[q]? =some (dS.X0 q):=by
 simp only[bare,Array.getElem?_mapIdx,ho]
 simp[hq]
theorem tQ(hSF:gJ prog SF.fn)(W:World)(b:Bk)(h:b.At W W.heap.size)(hgc:b.ng≤b.gc)(hd:-9223372036854775808≤b.days∧b.days≤9223372036854775807):
 ∃M last o w' t',runNT prog (M+1) (solo (G (Frame.enter prog 5 #[b.val] .normal) []) W) #[]=(.ended o w',t')∧
  runN prog M (solo (G (Frame.enter prog 5 #[b.val] .normal) []) W)=.next last∧step prog last=.ended o w'∧Conc.Good prog (Dj W) last o w' t':=by
 obtain⟨Z0,S6⟩:∃Z:Nat→Prop,Z=Odd W:=⟨_,rfl⟩
 have hz:∀ {q},Z0 q↔∃o,W.heap[q]? =some o∧¬ dS.Plain ⟨fun _=>False,vk⟩ o:=fun{q}=>by rw[S6];exact Iff.rfl
 have hs0:(bare Z0 W).heap.size=W.heap.size:=Nk Z0 W
 have hin:∀q,¬ Z0 q→(bare Z0 W).heap[q]? =W.heap[q]?:=fun q hq=>VL hq
 have hout:∀q,Z0 q→(bare Z0 W).heap[q]? =some (dS.X0 q):=fun q hq=>by
  obtain⟨o,ho,_⟩:=hz.1 hq
  exact Rm hq ho
 have hos:(bare Z0 W).os=W.os∧(bare Z0 W).output=W.output∧(bare Z0 W).drawn=W.drawn∧(bare Z0 W).tape=W.tape:=⟨rfl,rfl,rfl,rfl⟩
 clear S6
 obtain⟨W0,hW0⟩:∃w,w=bare Z0 W:=⟨_,rfl⟩
 rw[← hW0] at hs0 hin hout hos
 clear hW0
 have hcell:∀p x,W.cell? p=some x→W0.cell? p=some x:=fun p x hx=>by
  have hnz:¬ Z0 p.block:=by
   intro hzz
   obtain⟨o,ho,hno⟩:=hz.1 hzz
   unfold World.cell? at hx
   rw[ho] at hx
   cases o <;> first|exact hno trivial|cases hx
  rw[← hx]
  simp only[World.cell?,hin _ hnz]
 have hb0:b.At W0 W0.heap.size:=by
  rw[hs0]
  exact⟨h.g.lift hcell,h.m.lift hcell,h.c.lift hcell,h.ng,h.nm,h.nc,h.name⟩
 obtain⟨hF,Hp⟩:=Jm W0 b hb0 hgc hd
 obtain⟨n,cb,cs,w1,bit,SK,⟨hn,D,hcl,hcb,m,hcall⟩,hback⟩:=Hp []
 have ok:(⟨Frame.enter prog 5 #[b.val] .normal,[],W0⟩:dS.Pt).Ok prog FF.fn ⟨Z0,vk⟩:=by
  refine⟨dS.Fr.enter LB hF _,fun c hc=>by simp at hc,⟨fun q hq=>hout q hq,fun q o hq ho=>?_⟩⟩
  rw[show(⟨Frame.enter prog 5 #[b.val] .normal,[],W0⟩:dS.Pt).w=W0 from rfl,hin q hq] at ho
  have h1:dS.Plain ⟨fun _=>False,vk⟩ o:=Classical.byContradiction fun hno=>hq (hz.2 ⟨o,ho,hno⟩)
  cases o <;> exact h1
 have hva:dS.E5 ⟨Z0,vk⟩ (fun q=>W.heap[q]?) W0 W:=⟨⟨hs0.symm,fun q hq=>(hin q hq).symm,hos.1.symm,hos.2.1.symm,fun q o _ hk _=>hk⟩,hos.2.2.1.symm,hos.2.2.2.symm⟩
 have hcells:∀q o,Z0 q→W.heap[q]? =some o→∀c t f,o≠.cells c t f:=by
  rintro q o hzz ho c t f rfl
  obtain⟨o',ho',hno⟩:=hz.1 hzz
  rw[ho] at ho'
  cases ho'
  exact hno trivial
 obtain⟨_,_,_,_,_,_,_,hsz⟩:=dS.BU (DL _) rC (fun _ h=>h) SK (a:=⟨_,[],W0⟩) (b:=⟨kN n cb,cs,w1⟩) rfl rfl ok W hva #[] (dS.iq.nil _)
 have hsz1:W0.heap.size≤w1.heap.size:=hsz
 refine YL hn ok hva hcells SK hSF (fun g hg=>iU (He hg)) rfl (XA _) hcl hcb hcall (PV:=Dj W) fun ac hac v hv σ=>?_
 obtain⟨m',hs,x,w',fr,⟨hx,τ,hpast⟩,rfl,hfn,hmode,hdef,hkind,fnn,p0,hres⟩:=hback ac hac v hv σ
 refine⟨⟨fr,[],w'⟩,hs,⟨rfl,(by unfold Q0;first|exact hfn|exact .inl hfn|exact .inr (.inl hfn)|exact .inr (.inr hfn)),hmode,hdef,hkind⟩,fun u hus hu1 hu2 hu3 hu4=>?_⟩
 have hf3:fnn=Tryz.f5:=by
  rw[hfn,func5] at p0
  exact(Option.some.inj p0).symm
 subst hf3
 have hr2:=results_tmp (fn:=Tryz.f5) rfl fr.tmps prog w'
 rw[hr2] at hres
 have hv2:nL fr=x:=by
  unfold nL
  rw[hfn]
  exact(Result.ok.inj hres).1
 have hp2:=hpast.size
 have hp3:=hpast.os
 have hp4:=hpast.output
 have hp5:=hpast.block
 refine⟨hv2.trans hx,(hu3.trans hp3).trans hos.1,(hu4.trans hp4).trans hos.2.1,?_,fun q hq=>?_⟩
 ·have:u.heap.size=w'.heap.size:=hus
  have e:(on W0 τ).heap.size=W0.heap.size:=rfl
  omega
 ·by_cases hzz:Z0 q
  ·exact hu2 q hzz
  ·have hq0:q<W0.heap.size:=zo
   exact((hu1 q zo hzz).trans (hp5 q hq0)).trans (hin q hzz)
end
section
open Go
section
variable{H:Type}{enc:TypeId × Value→H}{w:World}{fuel:Nat}
noncomputable abbrev TR (enc:TypeId × Value→H) (w:World):Nat→TypeId→List Value→Option (DataW H × List MemPlace):=DataW.trod enc prog w 0 (fun _=>true) true
theorem c3:Tryz.prog.cellsOf 3=1:=zk
theorem c37:Tryz.prog.cellsOf 50=1:=zk
theorem c9:Tryz.prog.cellsOf 9=1:=zk
theorem c39:Tryz.prog.cellsOf 38=2:=zk
theorem c68:Tryz.prog.cellsOf 40=5:=zk
theorem c41:Tryz.prog.cellsOf 52=5:=zk
theorem c88:Tryz.prog.cellsOf 99=4:=zk
theorem c22:Tryz.prog.cellsOf 22=1:=zk
theorem c23:Tryz.prog.cellsOf 23=1:=zk
theorem c24:Tryz.prog.cellsOf 24=1:=zk
theorem c26:Tryz.prog.cellsOf 26=5:=zk
theorem gL{t:TypeId}{k:IntKind}(ht:Tryz.prog.underlying t=some (.int k)){cs:List Value}{o:Nat}{y:DataW H × List MemPlace}(h:TR enc w fuel t ((cs.drop o).take 1)=some y):∃n,cs[o]? =some (.int k n)∧(Lit.int k n).wf=true:=by
 obtain⟨n,e,_,hw⟩:=DataW.trod_int ht h
 exact⟨n,WideShapes.cell_of_cut e,hw⟩
theorem Wv{t:TypeId}(ht:Tryz.prog.underlying t=some .string){cs:List Value}{o:Nat}{y:DataW H × List MemPlace}(h:TR enc w fuel t ((cs.drop o).take 1)=some y):∃s,cs[o]? =some (.string s)∧s.size≤maxLen:=by
 obtain⟨n,e,_,hw⟩:=DataW.trod_string ht h
 exact⟨n,WideShapes.cell_of_cut e,hw⟩
theorem LA{cs:List Value}{o j n:Nat}{v:Value}(h:((cs.drop o).take n)[j]? =some v):cs[o+j]? =some v:=by
 rw[List.getElem?_take] at h
 split at h
 ·rwa[List.getElem?_drop] at h
 ·cases h
theorem wR{cs:List Value}{o:Nat}{y:DataW H × List MemPlace}(h:TR enc w fuel 38 ((cs.drop o).take 2)=some y):∃a b,cs[o]? =some (int i64 a)∧cs[o+1]? =some (int i64 b):=by
 obtain⟨xs,n,rfl,rfl,hl,hx,hf⟩:=DataW.trod_struct underlying38 h
 have f0:TR enc w n 3 ((((cs.drop o).take 2).drop 0).take (Tryz.prog.cellsOf 3))=xs[0]?:=hf 0 _ rfl
 have f1:TR enc w n 3 ((((cs.drop o).take 2).drop 1).take (Tryz.prog.cellsOf 3))=xs[1]?:=hf 1 _ rfl
 rw[c3] at f0
 rw[c3] at f1
 have hx:xs.length=2:=hx
 rw[List.getElem?_eq_getElem zo] at f0 f1
 obtain⟨a,h0,_⟩:=gL underlying3 f0
 obtain⟨b,h1,_⟩:=gL underlying3 f1
 exact⟨a,b,LA h0,LA h1⟩
theorem TN{cs:List Value}{y:DataW H × List MemPlace}(h:TR enc w fuel 40 cs=some y):∃g:Good,(∀j,j<5→cs[j]? =some (g.cell j))∧g.name.size≤maxLen:=by
 obtain⟨xs,n,rfl,rfl,hl,hx,hf⟩:=DataW.trod_struct underlying40 h
 have f0:TR enc w n 9 ((cs.drop 0).take (Tryz.prog.cellsOf 9))=xs[0]?:=hf 0 _ rfl
 have f1:TR enc w n 3 ((cs.drop 1).take (Tryz.prog.cellsOf 3))=xs[1]?:=hf 1 _ rfl
 have f2:TR enc w n 3 ((cs.drop 2).take (Tryz.prog.cellsOf 3))=xs[2]?:=hf 2 _ rfl
 have f3:TR enc w n 38 ((cs.drop 3).take (Tryz.prog.cellsOf 38))=xs[3]?:=hf 3 _ rfl
 rw[c9] at f0
 rw[c3] at f1
 rw[c3] at f2
 rw[c39] at f3
 have hx:xs.length=4:=hx
 rw[List.getElem?_eq_getElem zo] at f0 f1 f2 f3
 obtain⟨s,h0,hs⟩:=Wv underlying9 f0
 obtain⟨c,h1,_⟩:=gL underlying3 f1
 obtain⟨p,h2,_⟩:=gL underlying3 f2
 obtain⟨lo,hi,h3,h4⟩:=wR f3
 refine⟨⟨s,c,p,lo,hi⟩,fun j hj=>?_,hs⟩
 rcases(by omega:j=0∨j=1∨j=2∨j=3∨j=4) with rfl|rfl|rfl|rfl|rfl <;> assumption
theorem fz{cs:List Value}{y:DataW H × List MemPlace}(h:TR enc w fuel 52 cs=some y):∃g:Mv,(∀j,j<5→cs[j]? =some (g.cell j))∧True:=by
 obtain⟨xs,n,rfl,rfl,hl,hx,hf⟩:=DataW.trod_struct underlying52 h
 have f0:TR enc w n 50 ((cs.drop 0).take (Tryz.prog.cellsOf 50))=xs[0]?:=hf 0 _ rfl
 have f1:TR enc w n 3 ((cs.drop 1).take (Tryz.prog.cellsOf 3))=xs[1]?:=hf 1 _ rfl
 have f2:TR enc w n 3 ((cs.drop 2).take (Tryz.prog.cellsOf 3))=xs[2]?:=hf 2 _ rfl
 have f3:TR enc w n 38 ((cs.drop 3).take (Tryz.prog.cellsOf 38))=xs[3]?:=hf 3 _ rfl
 rw[c37] at f0
 rw[c3] at f1
 rw[c3] at f2
 rw[c39] at f3
 have hx:xs.length=4:=hx
 rw[List.getElem?_eq_getElem zo] at f0 f1 f2 f3
 obtain⟨s,h0,_⟩:=gL underlying50 f0
 obtain⟨c,h1,_⟩:=gL underlying3 f1
 obtain⟨p,h2,_⟩:=gL underlying3 f2
 obtain⟨lo,hi,h3,h4⟩:=wR f3
 refine⟨⟨s,c,p,lo,hi⟩,fun j hj=>?_,trivial⟩
 rcases(by omega:j=0∨j=1∨j=2∨j=3∨j=4) with rfl|rfl|rfl|rfl|rfl <;> assumption
theorem fy{cs:List Value}{y:DataW H × List MemPlace}(h:TR enc w fuel 99 cs=some y):∃g:Ct,(∀j,j<4→cs[j]? =some (g.cell j))∧True:=by
 obtain⟨xs,n,rfl,rfl,hl,hx,hf⟩:=DataW.trod_struct underlying99 h
 have f0:TR enc w n 3 ((cs.drop 0).take (Tryz.prog.cellsOf 3))=xs[0]?:=hf 0 _ rfl
 have f1:TR enc w n 3 ((cs.drop 1).take (Tryz.prog.cellsOf 3))=xs[1]?:=hf 1 _ rfl
 have f2:TR enc w n 38 ((cs.drop 2).take (Tryz.prog.cellsOf 38))=xs[2]?:=hf 2 _ rfl
 rw[c3] at f0
 rw[c3] at f1
 rw[c39] at f2
 have hx:xs.length=3:=hx
 rw[List.getElem?_eq_getElem zo] at f0 f1 f2
 obtain⟨s,h0,_⟩:=gL underlying3 f0
 obtain⟨c,h1,_⟩:=gL underlying3 f1
 obtain⟨lo,hi,h3,h4⟩:=wR f2
 refine⟨⟨s,c,lo,hi⟩,fun j hj=>?_,trivial⟩
 rcases(by omega:j=0∨j=1∨j=2∨j=3) with rfl|rfl|rfl|rfl <;> assumption
theorem OL{α:Type}[Inhabited α]{t e:TypeId}{size:Nat}(ht:Tryz.prog.underlying t=some (.slice e))(hc:Tryz.prog.cellsOf e=size)(hpos:0<size)(cell:α→Nat→Value)(Q:α→Prop)
 (hel:∀ (n:Nat) (cs:List Value) (y:DataW H × List MemPlace),TR enc w n e cs=some y→∃a,(∀j,j<size→cs[j]? =some (cell a j))∧Q a){cs:List Value}{x:DataW H × List MemPlace}(h:TR enc w fuel t cs=some x):
 ∃ (A:Option Addr) (len cap:Nat) (f:Nat→α),cs=[.slice A len cap]∧len≤cap∧cap≤maxLen∧Rows w w.heap.size size A len (fun i=>cell (f i))∧∀i,i<len→Q (f i):=by
 rcases DataW.trod_slice ht h with⟨rfl,_⟩|⟨a,len,cap,elems,rest,n,_,rfl,rfl,hb,hl,hm,hlen,E7,_,_⟩
 ·exact⟨none,0,0,fun _=>default,rfl,Nat.le_refl _,Nat.zero_le _,fun h=>absurd h zo,fun i hi=>absurd hi zo⟩
 have each:∀i,∃b:α,i<len→(a.block<w.heap.size∧∀j,j<size→w.cell? (a.add (i * size+j))=some (cell b j))∧Q b:=fun i=>by
  by_cases hi:i<len
  ·have h1:=E7 i hi
   rw[List.getElem?_eq_getElem zo,Option.bind_eq_some_iff,hc] at h1
   obtain⟨cs',h2,h3⟩:=h1
   obtain⟨b,h4,h5⟩:=hel n cs' _ h3
   have hblk:=World.cells?_block h2 hpos
   obtain⟨_,_,h6⟩:=World.cells?_some h2
   refine⟨b,fun _=>⟨⟨by rwa[aH] at hblk,fun j hj=>?_⟩,h5⟩⟩
   rw[← qo,h6 j hj,h4 j hj]
  ·exact⟨default,fun h=>absurd h hi⟩
 obtain⟨f,hf⟩:=Classical.axiomOfChoice each
 exact⟨some a,len,cap,f,rfl,hl,hm,fun hn=>⟨a,rfl,(hf 0 hn).1.1,fun i j hi hj=>(hf i hi).1.2 j hj⟩,fun i hi=>(hf i hi).2⟩
instance:Inhabited Good:=⟨⟨.empty,0,0,0,0⟩⟩
instance:Inhabited Mv:=⟨⟨0,0,0,0,0⟩⟩
instance:Inhabited Ct:=⟨⟨0,0,0,0⟩⟩
theorem Ln{n:Int}(h:(Lit.int .i64 n).wf=true):-9223372036854775808≤n∧n≤9223372036854775807:=by
 simp[Lit.wf,IntKind.min,IntKind.max,IntKind.signed,IntKind.bits] at h
 omega
theorem wQ{α:Type}[Inhabited α]{t e:TypeId}{size:Nat}(ht:Tryz.prog.underlying t=some (.slice e))(hc:Tryz.prog.cellsOf e=size)(hpos:0<size)(cell:α→Nat→Value)(Q:α→Prop)
 (hel:∀ (n:Nat) (cs:List Value) (y:DataW H × List MemPlace),TR enc w n e cs=some y→∃a,(∀j,j<size→cs[j]? =some (cell a j))∧Q a){cs:List Value}{o:Nat}{x:DataW H × List MemPlace}(h:TR enc w fuel t ((cs.drop o).take 1)=some x):
 ∃ (A:Option Addr) (len cap:Nat) (f:Nat→α),cs[o]? =some (.slice A len cap)∧len≤cap∧cap≤maxLen∧Rows w w.heap.size size A len (fun i=>cell (f i))∧∀i,i<len→Q (f i):=by
 obtain⟨A,len,cap,f,e1,h1⟩:=OL ht hc hpos cell Q hel h
 exact⟨A,len,cap,f,WideShapes.cell_of_cut e1,h1⟩
theorem OJ{v:Value}{d:DataW H}{ps:List MemPlace}{base:Nat}(hv:Value.okWide prog w .any base 26 v)(h:DataW.Trod enc prog w 0 (fun _=>true) true 26 v d ps):
 ∃b:Bk,v=b.val∧b.At w w.heap.size∧b.ng≤b.gc∧-9223372036854775808≤b.days∧b.days≤9223372036854775807:=by
 obtain⟨cs,rfl,hsz⟩:=WideShapes.okWide_struct underlying26 hv
 rw[c26] at hsz
 obtain⟨fuel,h⟩:=h
 obtain⟨xs,n,rfl,hx2,hl,hx,hf⟩:=DataW.trod_struct underlying26 h
 have f0:TR enc w n 3 ((cs.toList.drop 0).take (Tryz.prog.cellsOf 3))=xs[0]?:=hf 0 _ rfl
 have f1:TR enc w n 3 ((cs.toList.drop 1).take (Tryz.prog.cellsOf 3))=xs[1]?:=hf 1 _ rfl
 have f2:TR enc w n 22 ((cs.toList.drop 2).take (Tryz.prog.cellsOf 22))=xs[2]?:=hf 2 _ rfl
 have f3:TR enc w n 23 ((cs.toList.drop 3).take (Tryz.prog.cellsOf 23))=xs[3]?:=hf 3 _ rfl
 have f4:TR enc w n 24 ((cs.toList.drop 4).take (Tryz.prog.cellsOf 24))=xs[4]?:=hf 4 _ rfl
 rw[c3] at f0
 rw[c3] at f1
 rw[c22] at f2
 rw[c23] at f3
 rw[c24] at f4
 have hx:xs.length=5:=hx
 rw[List.getElem?_eq_getElem zo] at f0 f1 f2 f3 f4
 obtain⟨days,h0,hd⟩:=gL underlying3 f0
 obtain⟨most,h1,_⟩:=gL underlying3 f1
 obtain⟨gA,ng,gc,g,h2,hgc,hgm,hg,hgn⟩:=wQ underlying22 c68 zD Good.cell (fun g=>g.name.size≤maxLen) (fun _ _ _ h=>TN h) f2
 obtain⟨mA,nm,mc,m,h3,hmc,hmm,hm,_⟩:=wQ underlying23 c41 zD Mv.cell (fun _=>True) (fun _ _ _ h=>fz h) f3
 obtain⟨cA,nc,cc,c,h4,hcc,hcm,hc,_⟩:=wQ underlying24 c88 zD Ct.cell (fun _=>True) (fun _ _ _ h=>fy h) f4
 refine⟨⟨days,most,gA,ng,gc,g,mA,nm,mc,m,cA,nc,cc,c⟩,?_,⟨hg,hm,hc,by show ng≤maxLen;omega,by show nm≤maxLen;omega,by show nc≤maxLen;omega,hgn⟩,hgc,Ln hd⟩
 obtain⟨L⟩:=cs
 simp only[List.size_toArray] at hsz
 match L,hsz with
 | [a0,a1,a2,a3,a4],_=>
   simp only[List.getElem?_cons_zero,List.getElem?_cons_succ,Option.some.injEq] at h0 h1 h2 h3 h4
   subst h0;subst h1;subst h2;subst h3;subst h4
   rfl
end
end
end Go.Proofs.YthaelabgfnnebaaGreat
