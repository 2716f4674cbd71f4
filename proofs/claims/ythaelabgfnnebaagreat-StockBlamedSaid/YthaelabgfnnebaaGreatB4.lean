/- AG2 AG3 AG7 AD6 AG8 -/
import Derived.Test.YthaelabgfnnebaaGreatB3
set_option maxRecDepth 100000
set_option maxHeartbeats 16000000
set_option linter.unusedVariables false
set_option linter.unusedSectionVars false
open Go.IntKind(i64)
open Go.Lib(hid)
open Go.Proofs.Tryz
open Go.Value(int)
namespace Go.Proofs.YthaelabgfnnebaaGreat
section
open Go.RowKit
open Go.Sort (grow)
attribute [local go_sem] Oper.semAt_some
def qx(b:Bk):List Nat:=(ak b).filter fun s=>!(dD b s).isEmpty
theorem RB(b:Bk):uX b (ak b).length=(qx b).map fun(n:Nat)=>(n:Int):=by
 unfold uX qx
 rw[List.take_length]
theorem VT(b:Bk)(A:Option Addr)(p:Nat)(w:World)(hc:om b A w)(ok:b.Ok)(hl:∀s∈ak b,dN s):
 CallsIn FF 0 prog 45 #[.agg (aA b A (ak b).length p)] w fun e w'=>((qx b=[]∧e=.returned (.tuple #[.slice none 0 0,.bool false]))∨∃ (s:Nat) (A:Option Addr) (c:Nat),s∈qx b∧(∀t∈qx b,(aB s 10).length≤(aB t 10).length)∧e=.returned (.tuple #[.slice A (aB s 10).length c,.bool true])∧Ints w' w'.heap.size A (aB s 10).length (fun i=>(aB s 10).getD i 0))∧Below w.heap.size w w':=by
 have HT:=hid fun k (w':World) (hk:k<(ak b).length) (hA:b.At w' w'.heap.size)=>CP b ok ((ak b).getD k 0) (hl _ (by rw[List.getD_eq_getElem?_getD,List.getElem?_eq_getElem hk];exact List.getElem_mem hk)) w' hA
 have HY:=hid fun k lb (w':World) h=>Rh (p:=FF.fn) 101 lb (dD b ((ak b).getD k 0)) w' h
 obtain⟨CN,IE⟩:∃CN,CN=qx b:=⟨_,rfl⟩
 have Qf:Hid (∀s∈CN,s<64):=hid fun s hs=>by rw[IE] at hs;exact hl s (List.mem_filter.1 hs).1
 have an:Hid (CN.length≤64):=hid (by rw[IE];exact Nat.le_trans (List.length_filter_le _ _) (gF b ok))
 rw[← IE]
 have HC:=hid hc
 have HR:=hid hc.row
 have me:=hid hc.at_
 obtain⟨n,hn⟩:∃n,n=(ak b).length:=⟨_,rfl⟩
 obtain⟨LN,WE⟩:∃LN:Nat→Nat,LN=fun k=>(ak b).getD k 0:=⟨_,rfl⟩
 obtain⟨T,hT⟩:∃T:Nat→List Ht,T=fun k=>dD b ((ak b).getD k 0):=⟨_,rfl⟩
 obtain⟨F,hF⟩:∃F:Nat→List Int,F=uX b:=⟨_,rfl⟩
 have mT:Hid (∀k (w':World),k<n→b.At w' w'.heap.size→CallsIn FF 0 prog 78 #[b.val,int i64 (LN k)] w' fun e w''=>∃lb,e=.returned (.func (.func 101) #[] lb)∧ny FF 101 lb (T k) w''∧Below w'.heap.size w' w''):=hid fun k w' hk hA=>by rw[WE,hT];rw[hn] at hk;exact HT.out k w' hk hA
 have Be:Hid (∀k lb (w':World),ny FF 101 lb (T k) w'→CallsIn FF 0 prog 80 #[.func (.func 101) #[] lb] w' fun e w''=>e=.returned (.bool (!(T k).isEmpty))∧Below w'.heap.size w' w''):=hid fun k lb w' h=>by rw[hT] at h⊢;exact HY.out k lb w' h
 have HR':Hid (Rows w w.heap.size 1 A n (fun i _=>int i64 ((LN i:Nat):Int))):=hid (by rw[WE,hn];exact HR.out)
 have yr:Hid (F 0=[]):=hid (by rw[hF];rfl)
 have mn:Hid (∀k,k<n→F (k+1)=F k ++ if (!(T k).isEmpty)=true then[((LN k:Nat):Int)] else[]):=hid fun k hk=>by rw[hF,hT,WE];rw[hn] at hk;exact Bv b k hk
 have yW:Hid (F n=CN.map fun(n:Nat)=>(n:Int)):=hid (by rw[hF,hn,IE];exact RB b)
 have yz:Hid (∀k,(F k).length≤64):=hid fun k=>by rw[hF];exact Nat.le_trans (Fv b k) (gF b ok)
 have G':n≤64:=by rw[hn];exact gF b ok
 rw[← hn]
 obtain⟨i0,hi,hz0,hz1,hz2⟩:=info_parts info3
 have hi0:=hid hi
 clear hi hn WE hT hF HT HY HR hl ok hc HC IE
 obtain⟨days,most,gA,ng,gc,g,mA,nm,mc,m,cA,nc,cc,c⟩:=b
 simp only[Bk.val,Bk.cells,aA] at mT⊢
 obtain⟨w1,hw1⟩:∃w1,w1=w.alloc (.cells #[int i64 days,int i64 most,.slice gA ng gc,.slice mA nm mc,.slice cA nc cc,.slice A n p] 76):=⟨_,rfl⟩
 have B1:Hid (Below w.heap.size w w1):=hid (by rw[hw1];exact bw)
 have X1:Hid (Whole w1 w.heap.size 76 #[int i64 days,int i64 most,.slice gA ng gc,.slice mA nm mc,.slice cA nc cc,.slice A n p]):=hid (by rw[hw1];exact Whole.new _ _ _)
 have hs1:w1.heap.size=w.heap.size+1:=by rw[hw1];simp
 have mX:=hid hw1
 clear hw1
 gi_enter func45,ntmps45
 gi_wp2
 rw[← mX.out]
 clear mX
 gi_loopw [4,10] (fun l i wr=>∃k:Nat,k≤n∧i=int i64 k∧Hid (wr.ownsRow (w.heap.size+1) 3 1 l (F k).length ((F k).map (int i64))∧Below (w.heap.size+1) w1 wr)) (fun _ i _=>n - (intOf i).toNat)
 case atStart=>exact⟨0,Nat.zero_le _,rfl,hid ⟨by rw[yr.out];exact jl _ (w.heap.size+1) 3,Below.refl _ _⟩⟩
 case round=>
  obtain⟨k,hk,rfl,hT⟩:=hrel
  obtain⟨A9,n9,p9,rfl⟩:=eX hT.out.1
  obtain⟨wo,rfl⟩:∃wo:World,wo=wr:=⟨_,rfl⟩
  have hso:w.heap.size+1≤wo.heap.size:=by have:=hT.out.2.size;omega
  have BO:Hid (Below w.heap.size w wo):=hid (B1.out.trans (hT.out.2.mono zo))
  by_cases hlt:k<n
  ·obtain⟨ad,hA',hbl,-⟩:=HR'.out (show 0<n by omega)
   subst hA'
   obtain⟨s,hs⟩:∃s,s=LN k:=⟨_,rfl⟩
   have d0:wo.cell? (ad.add k)=some (int i64 s):=by
    rw[hs]
    refine(BO.out.cell (by rw[aH];exact hbl)).trans ?_
    have:=(HR'.out.row hlt).2 0 zD
    rwa[Nat.mul_one,add_zero'] at this
   have dj:=mT.out k wo hlt (me.out.up BO.out)
   have WC:=mn.out k hlt
   have hFl:=yz.out k
   rw[← hs] at dj WC
   obtain⟨t,ht⟩:∃t,t=!(T k).isEmpty:=⟨_,rfl⟩
   have dr:=fun lb w' h=>Be.out k lb w' h
   rw[← ht] at dr WC
   have X2:=hid (X1.out.below hT.out.2 zo)
   have x0:wo.cell? ⟨w.heap.size,0,none⟩=some (int i64 days):=X2.out.cell 0
   have x1:wo.cell? ⟨w.heap.size,1,none⟩=some (int i64 most):=X2.out.cell 1
   have x2:wo.cell? ⟨w.heap.size,2,none⟩=some (.slice gA ng gc):=X2.out.cell 2
   have x3:wo.cell? ⟨w.heap.size,3,none⟩=some (.slice mA nm mc):=X2.out.cell 3
   have x4:wo.cell? ⟨w.heap.size,4,none⟩=some (.slice cA nc cc):=X2.out.cell 4
   have m3:=hid dj
   have m5:=hid dr
   have ml:=hid WC
   clear dj dr WC hs ht
   cases t
   ·gi_wp2_with (first
     | (gi_at_call 78;refine m3.out.mono ?_;rintro e w4 ⟨lb,rfl,hs4,hb4⟩)
     | (gi_at_call 80;refine(m5.out lb _ hs4).mono ?_;rintro e w5 ⟨rfl,hb5⟩))
    have sZ:=hb4.trans (hb5.mono hb4.size)
    exact⟨⟨k+1,hlt,by push_cast;rfl,hid ⟨by rw[ml.out];simpa using own_below hT.out.1 sZ,hT.out.2.trans (sZ.mono hso)⟩⟩,by simp[intOf];omega⟩
   ·gi_wp2_with (first
     | (gi_at_call 78;refine m3.out.mono ?_;rintro e w4 ⟨lb,rfl,hs4,hb4⟩)
     | (gi_at_call 80;refine(m5.out lb _ hs4).mono ?_;rintro e w5 ⟨rfl,hb5⟩;have sZ:=hb4.trans (hb5.mono hb4.size);have Ho:=hid (own_below hT.out.1 sZ);have hs5:=sZ.size)
     | (gi_at_builtin;refine aF rfl rfl rfl fun K5 iX=>?_;refine wp_append_lies _ _ _ _ rfl (w.heap.size+1) 3 i0 _ 1 8 underlying30 hi0.out hz0 hz1 hz2 rfl zo (.slice A9 n9 p9) (F k).length _ rfl (aQ Ho.out _) ⟨w5.heap.size,0,none⟩ 1 1 [_] rfl rfl (World.news_of_block (heap_alloc_new w5 _)) (by simp[Value.oneCell']) zo zU zo zm (w5.heap.size+1) zs ?_;intro pz nD w10 hown5 aM lG nI;refine iX _ _ ?_;clear iX K5))
    exact⟨⟨k+1,hlt,by push_cast;rfl,hid ⟨by rw[ml.out];simpa using hown5,((hT.out.2.trans (sZ.mono hso)).alloc zo _).trans (below_grown aM zm (fun g hg=>(bR Ho.out hg).1))⟩⟩,by simp[intOf];omega⟩
  ·obtain rfl:k=n:=zo
   have hown:=hT.out.1
   rw[yW.out] at hown
   obtain⟨A',c',e'⟩:=dF hown
   injection e' with e1 e2 e3
   subst e2
   subst e1
   subst e3
   have hI:=dA (l:=CN.map fun(n:Nat)=>(n:Int)) hown
   rw[List.length_map] at hI
   have hI2:Ints wo wo.heap.size A9 CN.length (fun i=>((CN.getD i 0:Nat):Int)):=fun hn=>by
    obtain⟨ad,e,hb,hc⟩:=hI hn
    refine⟨ad,e,hb,fun i j hi hj=>?_⟩
    rw[hc i j hi hj]
    show some (int i64 ((CN.map fun(n:Nat)=>(n:Int)).getD i 0))=some (int i64 ((CN.getD i 0:Nat):Int))
    simp[List.getD,hi]
   have HL:Hid (CallsIn FF 0 prog 81 #[.slice A9 CN.length p9] wo fun e w'=>((CN=[]∧e=.returned (.tuple #[.slice none 0 0,.bool false]))∨∃ (s:Nat) (A:Option Addr) (c:Nat),s∈CN∧(∀t∈CN,(aB s 10).length≤(aB t 10).length)∧e=.returned (.tuple #[.slice A (aB s 10).length c,.bool true])∧Ints w' w'.heap.size A (aB s 10).length (fun i=>(aB s 10).getD i 0))∧Below wo.heap.size wo w'):=hid ((Oq CN.length (fun i=>CN.getD i 0) A9 p9 wo hI2 (fun i hi=>by
    have:=Qf.out (CN.getD i 0) (by rw[List.getD_eq_getElem?_getD,List.getElem?_eq_getElem hi];exact List.getElem_mem hi)
    omega) an.out).mono fun e w' h=>⟨by
     rcases h.1 with⟨hz,he⟩|⟨j,A,c,hj,he,dg,hmin⟩
     ·exact .inl ⟨List.length_eq_zero_iff.1 hz,he⟩
     ·refine .inr ⟨CN.getD j 0,A,c,?_,fun t ht=>?_,he,dg⟩
      ·rw[List.getD_eq_getElem?_getD,List.getElem?_eq_getElem hj];exact List.getElem_mem hj
      ·obtain⟨i,hi,rfl⟩:=List.mem_iff_getElem.1 ht
       have:=hmin i hi
       simp only[List.getD_eq_getElem?_getD,List.getElem?_eq_getElem hi,Option.getD_some] at this
       simpa [List.getD_eq_getElem?_getD] using this,h.2⟩)
   have hln:((CN.map fun(n:Nat)=>(n:Int)).length)=CN.length:=List.length_map _
   rw[hln]
   clear hI hI2 hown hln
   gi_wp2_with (gi_at_call 81;refine HL.out.mono ?_;rintro e w12 ⟨hres,Ag⟩;rcases hres with⟨hz,rfl⟩|⟨s,A4,c4,hs,hmin,rfl,dg⟩)
   ·go_ret2
    exact⟨.inl ⟨hz,rfl⟩,Below.next BO.out Ag⟩
   ·go_ret2
    exact⟨.inr ⟨s,A4,c4,hs,hmin,rfl,dg⟩,Below.next BO.out Ag⟩
theorem uM(b:Bk)(w:World)(h:b.At w w.heap.size)(ok:b.Ok)(hcap:b.ng≤b.gc)(hl:∀s∈ak b,dN s):CallsIn FF 0 prog 13 #[b.val] w fun e w'=>((qx b=[]∧e=.returned (.tuple #[.slice none 0 0,int i64 9]))∨∃ (s:Nat) (A:Option Addr) (c:Nat),s∈qx b∧(∀t∈qx b,(aB s 10).length≤(aB t 10).length)∧e=.returned (.tuple #[.slice A (aB s 10).length c,int i64 0])∧Ints w' w'.heap.size A (aB s 10).length (fun i=>(aB s 10).getD i 0))∧Below w.heap.size w w':=by
 have HO:=hid fun w h=>mF b w h ok hcap
 have HB:=hid fun A p w hc=>VT b A p w hc ok hl
 have HA:=hid h
 obtain⟨n,hn⟩:∃n,n=(ak b).length:=⟨_,rfl⟩
 rw[← hn] at HO HB
 obtain⟨CN,IE⟩:∃CN,CN=qx b:=⟨_,rfl⟩
 rw[← IE] at HB⊢
 clear hn h hcap hl ok IE
 obtain⟨days,most,gA,ng,gc,g,mA,nm,mc,m,cA,nc,cc,c⟩:=b
 simp only[Bk.val,Bk.cells,aA] at HO HB⊢
 gi_enter func13,ntmps13
 gi_wp2_with (first
  | (gi_at_call 33;refine(HO.out _ (HA.out.up (bw))).mono ?_;rintro e w2 ⟨A,p,rfl,hc2,hb2,-⟩)
  | (gi_at_call 45;refine(HB.out A p _ (hc2.below (bw))).mono ?_;rintro e w4 ⟨hres,hb4⟩;rcases hres with⟨hz,rfl⟩|⟨s,A4,c4,hs,hmin,rfl,hI⟩))
 ·go_ret2
  have DY:=Below.al (Below.next (show Below w.heap.size w (w.alloc (.cells #[int i64 days,int i64 most,.slice gA ng gc,.slice mA nm mc,.slice cA nc cc] 26)) from bw) hb2) (.cells #[int i64 days,int i64 most,.slice gA ng gc,.slice mA nm mc,.slice cA nc cc,.slice A n p] 76)
  exact⟨.inl ⟨hz,rfl⟩,Below.next DY hb4⟩
 ·go_ret2
  have DY:=Below.al (Below.next (show Below w.heap.size w (w.alloc (.cells #[int i64 days,int i64 most,.slice gA ng gc,.slice mA nm mc,.slice cA nc cc] 26)) from bw) hb2) (.cells #[int i64 days,int i64 most,.slice gA ng gc,.slice mA nm mc,.slice cA nc cc,.slice A n p] 76)
  exact⟨.inr ⟨s,A4,c4,hs,hmin,rfl,hI⟩,Below.next DY hb4⟩
end
section
open Go.RowKit
noncomputable def Bk.less(b:Bk)(l3:List Int)(A:Option Addr)(c:Nat):Bk:={b with most:=0,mA:=A,nm:=(kept l3 b.nm).length,mc:=c,m:=fun j=>b.m ((kept l3 b.nm).getD j 0) }
theorem Mw{b:Bk}(h:b.Ok)(l3:List Int)(A:Option Addr)(c:Nat):(b.less l3 A c).Ok:=by
 have hw:=Km h l3 A c
 refine⟨h.days,by show(0:Int)≤0∧(0:Int)≤2;omega,⟨h.bM.1,fun i hi=>?_⟩,⟨hw.moves.1,fun i hi=>?_⟩,h.counts.1,fun i hi=>?_⟩
 ·obtain⟨h1,h2,h3,h4,h5⟩:=h.bM.2 i hi
  exact⟨h1,h2,h3,h4,h5⟩
 ·obtain⟨h1,h2,h3,h4,h5⟩:=hw.moves.2 i hi
  exact⟨h1,h2,h3,h4,h5⟩
 ·obtain⟨h1,h2,h3⟩:=h.counts.2 i hi
  exact⟨h1,h2,h3⟩
def Bk.more'(b:Bk):Bk:={b with most:=min (b.most+1) 2 }
theorem Ej{b:Bk}(h:b.Ok):b.more'.Ok:=by
 have hm:=h.most
 refine⟨h.days,by show 0≤min (b.most+1) 2∧min (b.most+1) 2≤2;omega,⟨h.bM.1,fun i hi=>?_⟩,⟨h.moves.1,fun i hi=>?_⟩,h.counts.1,fun i hi=>?_⟩
 ·obtain⟨h1,h2,h3,h4,h5⟩:=h.bM.2 i hi
  exact⟨h1,h2,h3,h4,h5⟩
 ·obtain⟨h1,h2,h3,h4,h5⟩:=h.moves.2 i hi
  exact⟨h1,h2,h3,h4,h5⟩
 ·obtain⟨h1,h2,h3⟩:=h.counts.2 i hi
  exact⟨h1,h2,h3⟩
def GK(b:Bk)(s:Nat→Int)(d:Int):Prop:=0≤min (s 0) (min (s 1) (s 2))∧∀i,i<b.nc→(b.c i).day=d→fU (s (b.c i).good.toNat) (b.c i).lo (b.c i).hi=true
theorem oF(b:Bk)(s:Nat→Int)(lo hi:Int):iF b s lo hi=true↔∀d,lo≤d→d≤hi→GK b s d:=by
 unfold iF
 rw[Bool.or_eq_true,Bool.and_eq_true,decide_eq_true_eq,decide_eq_true_eq,List.all_eq_true]
 constructor
 ·rintro(h|⟨h1,h2⟩) d hd1 hd2
  ·omega
  ·refine⟨h2,fun i hj hd=>?_⟩
   have:=h1 i (List.mem_range.2 hj)
   unfold Ac at this
   have e:fU (b.c i).day lo hi=true:=by unfold fU;simp;omega
   rw[e] at this
   simpa using this
 ·intro h
  by_cases hl:hi<lo
  ·exact .inl hl
  ·refine .inr ⟨fun i hi'=>?_,(h lo (Int.le_refl _) zo).1⟩
   unfold Ac
   cases e:fU (b.c i).day lo hi with
   | false=>rfl
   | true=>
     unfold fU at e
     simp only[Bool.and_eq_true,decide_eq_true_eq] at e
     rw[(h _ e.1 e.2).2 i (List.mem_range.1 hi') rfl]
     rfl
theorem Mi(l3:List Int)(k:Nat)(hk:¬ (k:Int)∈l3):∀n,(kept l3 (k+1+n)).getD (kept l3 k).length 0=k∧(kept l3 k).length<(kept l3 (k+1+n)).length
 | 0=>by
   rw[Nat.add_zero,jG,if_neg hk]
   simp
 | Nat.succ n=>by
   obtain⟨h1,h2⟩:=Mi l3 k hk n
   have e:k+1+Nat.succ n=(k+1+n)+1:=zo
   rw[e,jG]
   split
   ·exact⟨h1,h2⟩
   ·refine⟨?_,by rw[List.length_append];omega⟩
    rw[List.getD_eq_getElem?_getD,List.getElem?_append_left h2,← List.getD_eq_getElem?_getD]
    exact h1
theorem TV{b:Bk}(ok:b.Ok){k:Nat}(hk:k<b.nm):eu b k≤(b.m k).day:=by
 unfold eu
 split
 ·exact(ok.moves.2 k hk).order ‹_›
 ·have:=(ok.moves.2 k hk).day.1;omega
theorem Ng(b:Bk)(s:Nat→Int)(h:Ht)(k:Nat)(hf:h.BP k=true):uU b s h k=s:=by
 funext g
 have e:Zl b h k=0:=by unfold Zl Ht.real;rw[if_pos hf];split <;> rfl
 unfold uU
 rw[e]
 split <;> omega
theorem sQ(b:Bk)(ok:b.Ok)(s0:Nat)(l3:List Int)(hl3:∀i,i<b.nm→((i:Int)∈l3↔s0 / 2 ^ i % 2=1))(A:Option Addr)(c:Nat):∀ (n k:Nat) (h h':Ht) (s:Nat→Int) (L:Int),k+n=b.nm→h.lies=s0→h'.lies=0→L=eu (b.less l3 A c) (kept l3 k).length→L≤eu b k→
 (∀d,L≤d→d<eu b k→GK b s d)→(∃x,x∈dO b n k h s)→∃y,y∈dO (b.less l3 A c) ((b.less l3 A c).nm - (kept l3 k).length) (kept l3 k).length h' s
 | 0,k,h,h',s,L,hk,hs,hs',hL,hLk,hd,⟨x,hx⟩=>by
   obtain rfl:k=b.nm:=zo
   simp only[dO] at hx
   split at hx
   ·rename_i hr
    have hr:=(oF b s _ _).1 hr
    have e:(b.less l3 A c).nm - (kept l3 b.nm).length=0:=by show(kept l3 b.nm).length - (kept l3 b.nm).length=0;omega
    rw[e]
    refine⟨h',?_⟩
    simp only[dO]
    have hi:fK (b.less l3 A c) (kept l3 b.nm).length=b.days:=by
     unfold fK
     rw[if_neg (by show ¬ (kept l3 b.nm).length<(kept l3 b.nm).length;omega)]
     rfl
    have hi2:fK b b.nm=b.days:=by unfold fK;rw[if_neg zo]
    rw[hi2] at hr
    rw[if_pos]
    ·simp
    ·rw[← hL,hi]
     refine(oF (b.less l3 A c) s _ _).2 fun d h1 h2=>?_
     show GK b s d
     rcases Int.lt_or_le d (eu b b.nm) with h3|h3
     ·exact hd d h1 h3
     ·exact hr d h3 h2
   ·cases hx
 | Nat.succ n,k,h,h',s,L,hk,hs,hs',hL,hLk,hd,⟨x,hx⟩=>by
   have hkm:k<b.nm:=zo
   simp only[dO] at hx
   split at hx
   ·rename_i hr
    have hr:=(oF b s _ _).1 hr
    obtain⟨z,hz,hx⟩:=List.mem_flatMap.1 hx
    have hi2:fK b k=(b.m k).day - 1:=by unfold fK;rw[if_pos hkm]
    rw[hi2] at hr
    have hsl:=TV ok hkm
    have hlo:eu b (k+1)=(b.m k).day:=by unfold eu;rw[if_pos zo];rfl
    have hall:∀d,L≤d→d<(b.m k).day→GK b s d:=fun d h1 h2=>by
     rcases Int.lt_or_le d (eu b k) with h3|h3
     ·exact hd d h1 h3
     ·exact hr d h3 zo
    by_cases hm:(k:Int)∈l3
    ·have hb:=(hl3 k hkm).1 hm
     have ha:uU b s (bH h k z) k=s:=Ng b s _ k (by unfold Ht.BP bH;simp only;rw[hs,hb];rfl)
     rw[ha] at hx
     have e:kept l3 (k+1)=kept l3 k:=by rw[jG,if_pos hm]
     have:=sQ b ok s0 l3 hl3 A c n (k+1) (bH h k z) h' s L zo hs hs' (by rw[e];exact hL) (by rw[hlo];omega) (by rw[hlo];exact hall) ⟨x,hx⟩
     rwa[e] at this
    ·have hb:¬ s0 / 2 ^ k % 2=1:=fun h=>hm ((hl3 k hkm).2 h)
     have hat:=Mi l3 k hm (b.nm - (k+1))
     rw[show k+1+(b.nm - (k+1))=b.nm by omega] at hat
     obtain⟨Ex,DV⟩:=hat
     have em:(b.less l3 A c).m (kept l3 k).length=b.m k:=by show b.m ((kept l3 b.nm).getD (kept l3 k).length 0)=_;rw[Ex]
     have e:(kept l3 (k+1)).length=(kept l3 k).length+1:=by rw[jG,if_neg hm];simp
     have en:(b.less l3 A c).nm - (kept l3 k).length=((b.less l3 A c).nm - (kept l3 (k+1)).length)+1:=by
      show(kept l3 b.nm).length - _=((kept l3 b.nm).length - _)+1
      omega
     have ehi:fK (b.less l3 A c) (kept l3 k).length=(b.m k).day - 1:=by
      unfold fK
      rw[if_pos (by exact DV),em]
     have elo:eu (b.less l3 A c) (kept l3 (k+1)).length=(b.m k).day:=by
      unfold eu
      rw[e,if_pos zo,Nat.add_sub_cancel,em]
     have ea:uU (b.less l3 A c) s (bH h' (kept l3 k).length z) (kept l3 k).length=uU b s (bH h k z) k:=by
      have r1:(bH h k z).real k=z:=by
       unfold Ht.real Ht.BP bH
       simp only[hs,if_true]
       rw[if_neg (by simpa using hb)]
      have r2:(bH h' (kept l3 k).length z).real (kept l3 k).length=z:=by
       unfold Ht.real Ht.BP bH
       simp only[hs',if_true,Nat.zero_div,Nat.zero_mod]
       rw[if_neg zD]
      funext g
      unfold uU Zl
      rw[em,r1,r2]
     obtain⟨y,hy⟩:=sQ b ok s0 l3 hl3 A c n (k+1) (bH h k z) (bH h' (kept l3 k).length z) (uU b s (bH h k z) k) (b.m k).day zo hs hs' elo.symm (by rw[hlo];exact Int.le_refl _) (fun d h1 h2=>by rw[hlo] at h2;omega) ⟨x,hx⟩
     refine⟨y,?_⟩
     rw[en]
     simp only[dO]
     rw[if_pos,em]
     ·refine List.mem_flatMap.2 ⟨z,hz,?_⟩
      rw[e] at hy
      rw[e,ea]
      exact hy
     ·rw[← hL,ehi]
      refine(oF (b.less l3 A c) s _ _).2 fun d h1 h2=>?_
      show GK b s d
      exact hall d h1 zo
   ·cases hx
theorem uq(b:Bk)(l3:List Int)(A:Option Addr)(c:Nat):∀k:Nat,aS (b.less l3 A c) k=aS b k
 | 0=>rfl
 | Nat.succ k=>by
   unfold aS
   rw[uq b l3 A c k]
   rfl
theorem Ca(s:Nat)(i:Nat):((i:Int)∈aB s 10)↔i<10∧s / 2 ^ i % 2=1:=by
 unfold aB
 simp only[List.mem_map,List.mem_filter,List.mem_range,beq_iff_eq]
 constructor
 ·rintro⟨j,⟨h1,h2⟩,h3⟩
  obtain rfl:j=i:=zo
  exact⟨h1,h2⟩
 ·rintro⟨h1,h2⟩
  exact⟨i,⟨h1,h2⟩,rfl⟩
theorem tO:∀s,s<64→((aB s 10).length:Int)=pop s:=zD
theorem xP:(aB 0 10).length=0:=zD
theorem rS(b:Bk):0∈ak b:=List.mem_filter.2 ⟨List.mem_range.2 (Nat.pow_pos zD),decide_eq_true fun i _ h=>by simp at h⟩
theorem PY(b:Bk)(ok:b.Ok)(s0:Nat)(h:dD b s0≠[])(A:Option Addr)(c:Nat):dD (b.less (aB s0 10) A c) 0≠[]:=by
 obtain⟨x,hx⟩:=List.exists_mem_of_ne_nil _ h
 unfold dD at hx
 obtain⟨f,hf,hx⟩:=List.mem_flatMap.1 hx
 have hm:=ok.moves.1
 obtain⟨y,hy⟩:=sQ b ok s0 (aB s0 10) (fun i hi=>by rw[Ca];exact⟨fun h=>h.2,fun h=>⟨zo,h⟩⟩) A c b.nm 0 ⟨f,fun _=>0,s0⟩ ⟨f,fun _=>0,0⟩ f 0 zo rfl rfl rfl (Int.le_refl _) (fun d h1 h2=>by unfold eu at h2;rw[if_neg zo] at h2;omega) ⟨x,hx⟩
 refine List.ne_nil_of_mem (a:=y) ?_
 unfold dD
 rw[uq]
 refine List.mem_flatMap.2 ⟨f,hf,?_⟩
 have e:(kept (aB s0 10) 0).length=0:=rfl
 rw[e,Nat.sub_zero] at hy
 exact hy
theorem wX(b:Bk):0<(aG b (ak b)).length↔∃s∈ak b,pop s≤b.most∧dD b s≠[]:=by
 rw[List.length_pos_iff_exists_mem]
 unfold aG
 constructor
 ·rintro⟨x,hx⟩
  obtain⟨s,hs,hx⟩:=List.mem_flatMap.1 hx
  obtain⟨h1,h2⟩:=List.mem_filter.1 hs
  exact⟨s,h1,of_decide_eq_true h2,List.ne_nil_of_mem hx⟩
 ·rintro⟨s,h1,h2,h3⟩
  obtain⟨x,hx⟩:=List.exists_mem_of_ne_nil _ h3
  exact⟨x,List.mem_flatMap.2 ⟨s,List.mem_filter.2 ⟨h1,decide_eq_true h2⟩,hx⟩⟩
theorem nC(b:Bk)(s:Nat):s∈qx b↔s∈ak b∧dD b s≠[]:=by
 unfold qx
 rw[List.mem_filter]
 cases dD b s <;> simp
theorem BF(b:Bk):∀ (n k:Nat) (h:Ht) (s:Nat→Int),dO b.more' n k h s=dO b n k h s
 | 0,k,h,s=>by simp only[dO];rfl
 | Nat.succ n,k,h,s=>by
   simp only[dO,BF b n]
   rfl
theorem uw(b:Bk):∀k:Nat,aS b.more' k=aS b k
 | 0=>rfl
 | Nat.succ k=>by
   unfold aS
   rw[uw b k]
   rfl
theorem PZ(b:Bk)(s:Nat):dD b.more' s=dD b s:=by
 unfold dD
 rw[uw]
 simp only[BF]
 rfl
theorem F4{α β:Type}(f:α→List β)(p q:α→Bool)(hpq:∀x,p x=true→q x=true):∀l:List α,((l.filter p).flatMap f).length≤((l.filter q).flatMap f).length
 | []=>Nat.le_refl _
 | x :: l=>by
   have ih:=F4 f p q hpq l
   cases hp:p x with
   | true=>
     rw[List.filter_cons_of_pos hp,List.filter_cons_of_pos (hpq x hp),List.flatMap_cons,List.flatMap_cons,List.length_append,List.length_append]
     omega
   | false=>
     rw[List.filter_cons_of_neg (by simp[hp])]
     cases hq:q x with
     | true=>rw[List.filter_cons_of_pos hq,List.flatMap_cons,List.length_append];omega
     | false=>rw[List.filter_cons_of_neg (by simp[hq])];exact ih
theorem Ob(b:Bk)(ok:b.Ok):(aG b (ak b)).length≤(aG b.more' (ak b.more')).length:=by
 have hm:=ok.most
 unfold aG
 simp only[PZ]
 exact F4 (fun s=>dD b s) (fun s=>decide (pop s≤b.most)) (fun s=>decide (pop s≤min (b.most+1) 2)) (fun s h=>by simp only[decide_eq_true_eq] at h⊢;omega) (ak b)
theorem Dx(b:Bk)(ok:b.Ok)(s:Nat)(hs:s∈qx b)(hmin:∀t∈qx b,(aB s 10).length≤(aB t 10).length):
 s<64∧(0<(aG b (ak b)).length↔((aB s 10).length:Int)≤b.most)∧(∀A c,0<(aG (b.less (aB s 10) A c) (ak (b.less (aB s 10) A c))).length∧0∈qx (b.less (aB s 10) A c)):=by
 obtain⟨h1,h2⟩:=(nC b s).1 hs
 have h64:∀t∈ak b,t<64:=lH b ok
 refine⟨h64 s h1,?_,fun A c=>?_⟩
 ·rw[wX]
  constructor
  ·rintro⟨t,ht1,ht2,ht3⟩
   have:=hmin t ((nC b t).2 ⟨ht1,ht3⟩)
   have e:=tO t (h64 t ht1)
   omega
  ·intro h
   exact⟨s,h1,by rw[← tO s (h64 s h1)];exact h,h2⟩
 ·have ht:=PY b ok s h2 A c
  refine⟨(wX _).2 ⟨0,rS _,?_,ht⟩,(nC _ _).2 ⟨rS _,ht⟩⟩
  show pop 0≤0
  rw[← tO 0 zD,xP]
  decide
end
section
open Go.RowKit
attribute [local go_sem] Oper.semAt_some
theorem RA(b:Bk)(w:World)(h:b.At w w.heap.size)(hm:b.nm≤6):CallsIn FF 0 prog 15 #[b.val] w fun e w'=>∃v,e=.returned v∧w'.ownsRow w.heap.size 3 1 v (bn b b.nm).length ((bn b b.nm).map (int i64))∧Below w.heap.size w w':=by
 obtain⟨days,most,gA,ng,gc,g,mA,nm,mc,m,cA,nc,cc,c⟩:=b
 simp only[Bk.val,Bk.cells]
 simp only at hm
 have Hh:=hid h
 clear h
 obtain⟨i0,hi,hz0,hz1,hz2⟩:=info_parts info3
 have hi0:=hid hi
 clear hi
 gi_enter func15,ntmps15
 gi_wp2
 gi_loopw [3,4] (fun l i wr=>∃k:Nat,k≤nm∧i=int i64 k∧Hid (wr.ownsRow (w.heap.size+1) 3 1 l (bn ⟨days,most,gA,ng,gc,g,mA,nm,mc,m,cA,nc,cc,c⟩ k).length ((bn ⟨days,most,gA,ng,gc,g,mA,nm,mc,m,cA,nc,cc,c⟩ k).map (int i64))∧Below (w.heap.size+1) (w.alloc (.cells #[int i64 days,int i64 most,.slice gA ng gc,.slice mA nm mc,.slice cA nc cc] 26)) wr)) (fun _ i _=>nm - (intOf i).toNat)
 case atStart=>exact⟨0,Nat.zero_le _,rfl,hid ⟨jl _ (w.heap.size+1) 3,Below.refl _ _⟩⟩
 case round=>
  obtain⟨k,hk,rfl,hR⟩:=hrel
  obtain⟨A,n,cp,rfl⟩:=eX hR.out.1
  have hsz:w.heap.size+1≤wr.heap.size:=by have:=hR.out.2.size;simpa using this
  have Sq:w.heap.size<wr.heap.size:=hsz
  have hbx:∀o,wr.cell? ⟨w.heap.size,o,none⟩=(w.alloc (.cells #[int i64 days,int i64 most,.slice gA ng gc,.slice mA nm mc,.slice cA nc cc] 26)).cell? ⟨w.heap.size,o,none⟩:=fun o=>hR.out.2.cell (p:=⟨w.heap.size,o,none⟩) zs
  by_cases hlt:k<nm
  ·obtain⟨wo,rfl⟩:∃wo:World,wo=wr:=⟨_,rfl⟩
   have e4:=rP ⟨days,most,gA,ng,gc,g,mA,nm,mc,m,cA,nc,cc,c⟩ k
   have hle:=kJ ⟨days,most,gA,ng,gc,g,mA,nm,mc,m,cA,nc,cc,c⟩ k
   simp only at e4
   obtain⟨am,oR,-⟩:=Hh.out.m (show 0<nm by omega)
   simp only at oR
   subst oR
   have hBO:Below w.heap.size w wo:=((Below.refl _ _).alloc (Nat.le_refl _) _).trans (hR.out.2.mono zo)
   have c0:wo.cell? (am.add (k * 5))=some (int i64 (m k).kind):=((Hh.out.m.below hBO).row hlt).2 0 zD
   have c3:wo.cell? ⟨w.heap.size,3,none⟩=some (.slice (some am) nm mc):=by rw[hbx];simp
   by_cases hz:(m k).kind=0
   ·have hz9:((m k).kind == 0)=true:=by simpa using hz
    rw[if_pos hz] at e4
    have E4:=hid e4
    clear e4
    have Ho:=hid hR.out.1
    gi_wp2_with (first
     | (gi_at_builtin;refine aF rfl rfl rfl fun K5 iX=>?_;refine wp_append_lies _ _ _ _ rfl (w.heap.size+1) 3 i0 _ 1 8 underlying30 hi0.out hz0 hz1 hz2 rfl zo (.slice A n cp) (bn ⟨days,most,gA,ng,gc,g,some am,nm,mc,m,cA,nc,cc,c⟩ k).length _ rfl (aQ Ho.out _) ⟨wo.heap.size,0,none⟩ 1 1 [_] rfl rfl (World.news_of_block (heap_alloc_new wo _)) (by simp[Value.oneCell']) zo zU zo zm (wo.heap.size+1) zs ?_;intro pz nD w5 hown5 aM lG nI;refine iX _ _ ?_;clear iX K5))
    go_roundw
    case rel=>exact⟨k+1,zo,by go_num,hid ⟨by rw[E4.out,List.length_append,List.map_append];exact hown5,(hR.out.2.alloc zo _).trans (below_grown aM zm (fun g hg=>(bR Ho.out hg).1))⟩⟩
    case measure=>simp[intOf];omega
   ·have hz9:((m k).kind == 0)=false:=by simpa using hz
    rw[if_neg hz,List.append_nil] at e4
    gi_wp2
    go_roundw
    case rel=>exact⟨k+1,zo,by go_num,hid ⟨by rw[e4];exact hR.out.1,hR.out.2⟩⟩
    case measure=>simp[intOf];omega
  ·obtain rfl:k=nm:=zo
   gi_wp2
   go_ret
   exact⟨_,rfl,dP hR.out.1 (Nat.le_succ _),((Below.refl _ _).alloc (Nat.le_refl _) _).trans (hR.out.2.mono zs)⟩
end
section
open Go.RowKit
theorem mh{α β:Type}{f:α→List β}{c:Nat}:∀ (l:List α),(∀x∈l,(f x).length≤c)→(l.flatMap f).length≤l.length * c
 | [],_=>zs
 | x :: l,h=>by
   have h1:=h x List.mem_cons_self
   have h2:=mh l fun y hy=>h y (List.mem_cons_of_mem _ hy)
   rw[List.flatMap_cons,List.length_append,List.length_cons,Nat.add_mul,Nat.one_mul]
   omega
theorem Pg(lo:Int)(k:Nat):(bC lo k).length=k:=by unfold bC;simp
theorem FY(b:Bk)(ok:b.Ok):∀ (n k:Nat) (h:Ht) (s:Nat→Int),k+n≤b.nm→(dO b n k h s).length≤3 ^ n
 | 0,k,h,s,_=>by unfold dO;split <;> simp
 | Nat.succ n,k,h,s,hk=>by
   unfold dO
   split
   ·have hf:=jK (ok.moves.2 k zo).few
    have:=mh (f:=fun x=>dO b n (k+1) (bH h k x) (uU b s (bH h k x) k)) (c:=3 ^ n) (bC (b.m k).lo ((b.m k).hi - (b.m k).lo+1).toNat) fun x _=>FY b ok n (k+1) _ _ zo
    rw[Pg] at this
    refine Nat.le_trans this ?_
    rw[Nat.pow_succ,Nat.mul_comm]
    exact Nat.mul_le_mul_left _ zo
   ·exact Nat.zero_le _
theorem UG(b:Bk)(ok:b.Ok)(s:Nat):(dD b s).length≤19683:=by
 unfold dD
 have h1:=mh (f:=fun f=>dO b b.nm 0 ⟨f,fun _=>0,s⟩ f) (c:=3 ^ b.nm) (aS b b.ng) fun f _=>FY b ok b.nm 0 _ _ zo
 have h2:=l9 b ok.bM b.ng (Nat.le_refl _)
 have h3:3 ^ b.nm≤3 ^ 6:=Nat.pow_le_pow_right zD ok.moves.1
 have h4:3 ^ b.ng≤3 ^ 3:=Nat.pow_le_pow_right zD ok.bM.1.2
 exact Nat.le_trans h1 (Nat.le_trans (Nat.mul_le_mul (Nat.le_trans h2 h4) h3) zD)
theorem wW(b:Bk)(ok:b.Ok):(aG b (ak b)).length<2 ^ 40:=by
 unfold aG
 have h1:=mh (f:=fun s=>dD b s) (c:=19683) ((ak b).filter fun s=>decide (pop s≤b.most)) fun s _=>UG b ok s
 have h2:((ak b).filter fun s=>decide (pop s≤b.most)).length≤64:=by
  refine Nat.le_trans (List.length_filter_le _ _) ?_
  unfold ak
  refine Nat.le_trans (List.length_filter_le _ _) ?_
  rw[List.length_range]
  exact Nat.le_trans (Nat.pow_le_pow_right zD ok.moves.1) zD
 exact Nat.lt_of_le_of_lt (Nat.le_trans h1 (Nat.mul_le_mul_right _ h2)) zD
theorem TW(s:Nat):(aB s 10).Pairwise (· < ·):=by
 unfold aB
 rw[List.pairwise_map]
 exact(List.pairwise_lt_range.filter _).imp fun h=>zo
theorem getD_at{l:List Int}{i:Nat}(h:i<l.length):l.getD i 0=l[i]:=by rw[List.getD_eq_getElem?_getD,List.getElem?_eq_getElem h];rfl
theorem nF{s n:Nat}(hs:s<2 ^ n){j:Nat}(hj:s / 2 ^ j % 2=1):j<n:=by
 rcases Nat.lt_or_ge j n with h|h
 ·exact h
 ·have:s<2 ^ j:=Nat.lt_of_lt_of_le hs (Nat.pow_le_pow_right zD h)
  rw[Nat.div_eq_of_lt this] at hj
  cases hj
structure ZU(b:Bk)(n:Int)(L:List Int):Prop where
 len:L.length≤10
 most:0<n↔(L.length:Int)≤b.most
 came:∀i,i<L.length→hasB (bn b b.nm).length (fun i=>(bn b b.nm).getD i 0) (L.getD i 0)=true
 up:∀i,0<i→i<L.length→L.getD (i - 1) 0<L.getD i 0
 bd:∀i,i<L.length→0≤L.getD i 0∧L.getD i 0≤9
 hist:∀A c,∃k:Int,0<k∧∀w,(b.less L A c).At w w.heap.size→CallsIn FF 0 prog 14 #[.agg (b.less L A c).cells] w fun e w'=>e=.returned (.tuple #[int i64 k,int i64 0])∧Below w.heap.size w w'
 none:∀A c,∀w,(b.less L A c).At w w.heap.size→CallsIn FF 0 prog 13 #[.agg (b.less L A c).cells] w fun e w'=>(∃A' c',e=.returned (.tuple #[.slice A' 0 c',int i64 0]))∧Below w.heap.size w w'
theorem Jl(b:Bk)(ok:b.Ok)(hcap:b.ng≤b.gc):∃n m:Int,0≤n∧n≤m∧
 (∀w,b.At w w.heap.size→CallsIn FF 0 prog 14 #[.agg b.cells] w fun e w'=>e=.returned (.tuple #[int i64 n,int i64 0])∧Below w.heap.size w w')∧
 (∀w,b.At w w.heap.size→CallsIn FF 0 prog 14 #[.agg b.more'.cells] w fun e w'=>e=.returned (.tuple #[int i64 m,int i64 0])∧Below w.heap.size w w')∧
 (∀w,b.At w w.heap.size→CallsIn FF 0 prog 13 #[.agg b.cells] w fun e w'=>((n=0∧e=.returned (.tuple #[.slice none 0 0,int i64 9]))∨∃ (L:List Int) (A:Option Addr) (c:Nat),ZU b n L∧e=.returned (.tuple #[.slice A L.length c,int i64 0])∧Ints w' w'.heap.size A L.length (fun i=>L.getD i 0))∧Below w.heap.size w w'):=by
 refine⟨((aG b (ak b)).length:Nat),((aG b.more' (ak b.more')).length:Nat),zo,by have:=Ob b ok;omega,fun w hA=>gu b w hA ok hcap (lH b ok) (wW b ok),fun w hA=>?_,fun w hA=>?_⟩
 ·exact gu b.more' w ⟨hA.g,hA.m,hA.c,hA.ng,hA.nm,hA.nc,hA.name⟩ (Ej ok) hcap (lH _ (Ej ok)) (wW _ (Ej ok))
 ·refine(uM b w hA ok hcap (lH b ok)).mono fun e w' h=>⟨?_,h.2⟩
  rcases h.1 with⟨hz,he⟩|⟨s,A,c,hs,hmin,he,hI⟩
  ·refine .inl ⟨?_,he⟩
   rcases Nat.eq_zero_or_pos (aG b (ak b)).length with h0|h0
   ·rw[h0];rfl
   ·obtain⟨s,h1,_,h3⟩:=(wX b).1 h0
    have:=(nC b s).2 ⟨h1,h3⟩
    rw[hz] at this
    cases this
  ·obtain⟨h64,hm,hl⟩:=Dx b ok s hs hmin
   have hlen:(aB s 10).length≤10:=by
    unfold aB
    rw[List.length_map]
    exact Nat.le_trans (List.length_filter_le _ _) zs
   have hin:∀i,i<(aB s 10).length→∃j:Nat,(aB s 10).getD i 0=j∧j<10∧s / 2 ^ j % 2=1:=fun i hi=>by
    have h1:=List.getElem_mem hi
    have h2:∃j:Nat,(aB s 10)[i]=(j:Int):=by
     unfold aB at h1⊢
     obtain⟨j,_,hj⟩:=List.mem_map.1 h1
     exact⟨j,hj.symm⟩
    obtain⟨j,hj⟩:=h2
    rw[hj] at h1
    obtain⟨h3,h4⟩:=(Ca s j).1 h1
    exact⟨j,by rw[getD_at hi,hj],h3,h4⟩
   obtain⟨hls,_⟩:=(nC b s).1 hs
   have hs2:=List.mem_range.1 (List.mem_filter.1 hls).1
   have hlb:∀i,i<b.nm→s / 2 ^ i % 2=1→(b.m i).kind=0:=of_decide_eq_true (List.mem_filter.1 hls).2
   refine .inr ⟨aB s 10,A,c,⟨hlen,?_,fun i hi=>?_,fun i h0 hi=>?_,fun i hi=>?_,fun A c=>?_,fun A c w hA2=>?_⟩,he,hI⟩
   ·rw[← hm];omega
   ·obtain⟨j,hj,Ge,hjb⟩:=hin i hi
    have hjn:=nF hs2 hjb
    have hmem:(j:Int)∈bn b b.nm:=by
     unfold bn
     exact List.mem_map.2 ⟨j,List.mem_filter.2 ⟨List.mem_range.2 hjn,decide_eq_true (hlb j hjn hjb)⟩,rfl⟩
    exact(wU _ _).2 (by rw[hj];exact hmem)
   ·rw[getD_at hi,getD_at zo]
    exact List.pairwise_iff_getElem.1 (TW s) (i - 1) i zo hi zo
   ·obtain⟨j,hj,Ge,hjb⟩:=hin i hi
    rw[hj];omega
   ·have lj:=Mw ok (aB s 10) A c
    exact⟨((aG (b.less (aB s 10) A c) (ak (b.less (aB s 10) A c))).length:Nat),by have:=(hl A c).1;omega,fun w hA2=>gu _ w hA2 lj hcap (lH _ lj) (wW _ lj)⟩
   ·have lj:=Mw ok (aB s 10) A c
    refine(uM _ w hA2 lj hcap (lH _ lj)).mono fun e w' h=>⟨?_,h.2⟩
    rcases h.1 with⟨hz,_⟩|⟨s',A',c',hs',hmin',he',_⟩
    ·have:=(hl A c).2
     rw[hz] at this
     cases this
    ·have h0:=hmin' 0 (hl A c).2
     rw[xP] at h0
     have e0:(aB s' 10).length=0:=zo
     rw[e0] at he'
     exact⟨A',c',he'⟩
end
end Go.Proofs.YthaelabgfnnebaaGreat
