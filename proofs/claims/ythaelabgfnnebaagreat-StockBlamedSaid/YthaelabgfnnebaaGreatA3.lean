/- P4 P5 P6 P7a Qt W0 WP1 WP7 P7 -/
import Derived.Test.YthaelabgfnnebaaGreatA2
import Derived.Lib.RabinKarpLaws
import Derived.StillTail
import Derived.Lib.QuietBelowIn
set_option maxRecDepth 100000
set_option maxHeartbeats 16000000
set_option linter.unusedVariables false
set_option linter.unusedSectionVars false
open Go.IntKind(i64)
open Go.Lib(hid)
open Go.Proofs.Tryz
open Go.Value(int)
namespace Go.Proofs.YthaelabgfnnebaaGreat
section
open Go.RowKit
theorem Rows.less{w:World}{B size n k:Nat}{A:Option Addr}{f:Nat→Nat→Value}(h:Rows w B size A n f)(hk:k≤n):Rows w B size A k f:=fun h0=>by
 obtain⟨a,e,hb,hc⟩:=h zo
 exact⟨a,e,hb,fun i j hi hj=>hc i j zo hj⟩
theorem Fx(b:Bk)(k:Nat)(w:World)(h:b.At w w.heap.size)(hk:k<b.ng)(hcap:b.ng≤b.gc)(ok:Good.ok b k):CallsIn FF 0 prog 154 #[b.val,int i64 k] w fun e w'=>e=.returned (int i64 0)∧Below w.heap.size w w':=by
 obtain⟨days,most,gA,ng,gc,g,mA,nm,mc,m,cA,nc,cc,c⟩:=b
 simp only at hk hcap
 obtain⟨o1,o2,o3,o4,o5⟩:=ok
 simp only at o1 o2 o3 o4 o5
 have BK:=h.ng
 simp only at BK
 unfold maxLen at BK
 obtain⟨ad,hA,hbl,-⟩:=h.g (show 0<ng by omega)
 simp only at hA
 subst hA
 simp only[Bk.val,Bk.cells]
 have Hg:=hid (h.g.alloc (Nat.le_refl _) (.cells #[int i64 days,int i64 most,.slice (some ad) ng gc,.slice mA nm mc,.slice cA nc cc] 74))
 have hr:=(h.g.alloc (Nat.le_refl _) (.cells #[int i64 days,int i64 most,.slice (some ad) ng gc,.slice mA nm mc,.slice cA nc cc] 74)).row hk
 have c0:(w.alloc (.cells #[int i64 days,int i64 most,.slice (some ad) ng gc,.slice mA nm mc,.slice cA nc cc] 74)).cell? (ad.add (k * 5))=some (.string (g k).name):=hr.2 0 zD
 have c1:(w.alloc (.cells #[int i64 days,int i64 most,.slice (some ad) ng gc,.slice mA nm mc,.slice cA nc cc] 74)).cell? ⟨(ad.add (k * 5)).block,(ad.add (k * 5)).off+1,none⟩=some (int i64 (g k).cost):=hr.2 1 zD
 have c2:(w.alloc (.cells #[int i64 days,int i64 most,.slice (some ad) ng gc,.slice mA nm mc,.slice cA nc cc] 74)).cell? ⟨(ad.add (k * 5)).block,(ad.add (k * 5)).off+2,none⟩=some (int i64 (g k).pack):=hr.2 2 zD
 have c3:(w.alloc (.cells #[int i64 days,int i64 most,.slice (some ad) ng gc,.slice mA nm mc,.slice cA nc cc] 74)).cell? ⟨(ad.add (k * 5)).block,(ad.add (k * 5)).off+3,none⟩=some (int i64 (g k).lo):=hr.2 3 zD
 have c4:(w.alloc (.cells #[int i64 days,int i64 most,.slice (some ad) ng gc,.slice mA nm mc,.slice cA nc cc] 74)).cell? ⟨(ad.add (k * 5)).block,(ad.add (k * 5)).off+4,none⟩=some (int i64 (g k).hi):=hr.2 4 zD
 clear hr h
 have i1:=hid (bI.2 o3)
 have i2:=hid (bI.2 o4)
 gi_enter func154,ntmps154
 gi_wp2_with (first
  | (gi_at_call 176;refine(fh _ _ o1).mono ?_;rintro e w' ⟨rfl,rfl⟩)
  | (gi_at_call 177;refine(Jw g (some ad) k gc (g k).name (w.heap.size+1) _ (((Hg.out.alloc zs _).more zm).less zo) zU zs zs o2).mono ?_;rintro e w2 ⟨rfl,hb2⟩;obtain⟨hc2,hf2⟩:=fF hb2;have hs2:=hb2.size)
  | (gi_at_call 35;refine(dh _ _ _ _).mono ?_;rintro e w' ⟨he,rfl⟩;(first|rw[i1.out] at he|rw[i2.out] at he);subst he)
  | (gi_at_call 179;refine(tF _ _ _ o5).mono ?_;rintro e w3 ⟨rfl,hb3⟩))
 go_ret
 exact⟨rfl,((((Below.refl _ _).alloc (Nat.le_refl _) _).alloc zs _).trans (hb2.mono zm)).trans (hb3.mono (by simp at hs2;omega))⟩
theorem Fy(b:Bk)(k:Nat)(w:World)(h:b.At w w.heap.size)(hk:k<b.nm)(ok:Mv.ok b k):CallsIn FF 0 prog 156 #[b.val,int i64 k] w fun e w'=>e=.returned (int i64 0)∧Below w.heap.size w w':=by
 obtain⟨days,most,gA,ng,gc,g,mA,nm,mc,m,cA,nc,cc,c⟩:=b
 simp only at hk
 obtain⟨o1,o2,o3,o4,o5⟩:=ok
 simp only at o1 o2 o3 o4 o5
 have hnm:=h.nm
 simp only at hnm
 unfold maxLen at hnm
 have hG:∀i w,CallsIn FF 0 prog 73 #[.agg #[int i64 days,int i64 most,.slice gA ng gc,.slice mA nm mc,.slice cA nc cc],int i64 i] w fun e w'=>e=.returned (.bool (fU i 0 ((ng:Int) - 1)))∧Below w.heap.size w w':=fun i w=>sV ⟨days,most,gA,ng,gc,g,mA,nm,mc,m,cA,nc,cc,c⟩ i w h.ng
 obtain⟨ad,hA,hbl,-⟩:=h.m (show 0<nm by omega)
 simp only at hA
 subst hA
 simp only[Bk.val,Bk.cells]
 have Hg:=hid (h.m.alloc (Nat.le_refl _) (.cells #[int i64 days,int i64 most,.slice gA ng gc,.slice (some ad) nm mc,.slice cA nc cc] 74))
 have hr:=Hg.out.row hk
 have c0:(w.alloc (.cells #[int i64 days,int i64 most,.slice gA ng gc,.slice (some ad) nm mc,.slice cA nc cc] 74)).cell? (ad.add (k * 5))=some (int i64 (m k).kind):=hr.2 0 zD
 have c1:(w.alloc (.cells #[int i64 days,int i64 most,.slice gA ng gc,.slice (some ad) nm mc,.slice cA nc cc] 74)).cell? ⟨(ad.add (k * 5)).block,(ad.add (k * 5)).off+1,none⟩=some (int i64 (m k).good):=hr.2 1 zD
 have c2:(w.alloc (.cells #[int i64 days,int i64 most,.slice gA ng gc,.slice (some ad) nm mc,.slice cA nc cc] 74)).cell? ⟨(ad.add (k * 5)).block,(ad.add (k * 5)).off+2,none⟩=some (int i64 (m k).day):=hr.2 2 zD
 have c3:(w.alloc (.cells #[int i64 days,int i64 most,.slice gA ng gc,.slice (some ad) nm mc,.slice cA nc cc] 74)).cell? ⟨(ad.add (k * 5)).block,(ad.add (k * 5)).off+3,none⟩=some (int i64 (m k).lo):=hr.2 3 zD
 have c4:(w.alloc (.cells #[int i64 days,int i64 most,.slice gA ng gc,.slice (some ad) nm mc,.slice cA nc cc] 74)).cell? ⟨(ad.add (k * 5)).block,(ad.add (k * 5)).off+4,none⟩=some (int i64 (m k).hi):=hr.2 4 zD
 clear hr h
 have i1:=hid (bI.2 o1)
 have i2:=hid (bI.2 o2)
 have i3:=hid (bI.2 o3)
 gi_enter func156,ntmps156
 gi_wp2_with (first
  | (gi_at_call 35;refine(dh _ _ _ _).mono ?_;rintro e w' ⟨he,rfl⟩;(first|rw[i1.out] at he|rw[i3.out] at he);subst he)
  | (gi_at_call 73;refine(hG _ _).mono ?_;rintro e w2 ⟨he,hb2⟩;rw[i2.out] at he;subst he;obtain⟨hc2,hf2⟩:=fF hb2;have hs2:=hb2.size))
 clear c0 c1 c2 c3 c4
 have hbx:∀o,w2.cell? ⟨w.heap.size,o,none⟩=(w.alloc (.cells #[int i64 days,int i64 most,.slice gA ng gc,.slice (some ad) nm mc,.slice cA nc cc] 74)).cell? ⟨w.heap.size,o,none⟩:=fun o=>(hc2 _ o zm).trans (World.cell?_alloc_lt _ _ _ zs)
 have hmx:∀o,w2.cell? ⟨w.heap.size+1,o,none⟩=((w.alloc (.cells #[int i64 days,int i64 most,.slice gA ng gc,.slice (some ad) nm mc,.slice cA nc cc] 74)).alloc (.cells #[int i64 (m k).kind,int i64 (m k).good,int i64 (m k).day,int i64 (m k).lo,int i64 (m k).hi] 52)).cell? ⟨w.heap.size+1,o,none⟩:=fun o=>(hc2 _ o zs)
 have hB:Below w.heap.size w w2:=(((Below.refl _ _).alloc (Nat.le_refl _) _).alloc zs _).trans (hb2.mono zm)
 have hs:w.heap.size+1<w2.heap.size:=by simp at hs2;omega
 by_cases hk0:0<k
 ·have hd:decide (0<(k:Int))=true:=zm
  have hr:=(((Hg.out.more (Nat.le_succ _)).alloc zs (.cells #[int i64 (m k).kind,int i64 (m k).good,int i64 (m k).day,int i64 (m k).lo,int i64 (m k).hi] 52)).below (hb2.mono zs)).row (show k - 1<nm by omega)
  have d2:w2.cell? ⟨(ad.add ((k - 1) * 5)).block,(ad.add ((k - 1) * 5)).off+2,none⟩=some (int i64 (m (k - 1)).day):=hr.2 2 zD
  have hl2:(ad.add ((k - 1) * 5)).block<w2.heap.size:=by rw[aH];have:=hr.1;omega
  clear hr
  clear hc2 hf2 hs2
  have hd2:decide ((m k).day<(m (k - 1)).day)=false:=decide_eq_false (by have:=o4 hk0;omega)
  have e2:0≤(k:Int) - 1:=zo
  have e2':1≤(k:Int):=zo
  have e4:(k:Int) - 1<nm:=zo
  have e3:((k:Int) - 1).toNat=k - 1:=zo
  have e1:IntKind.i64.wrap ((k:Int) - 1)=(k:Int) - 1:=IntWalk.i64_in _ zo
  gi_quiet (fail)
  clear e1 e3
  gi_wp2_with (gi_at_call 179;refine(tF _ _ _ o5).mono ?_;rintro e w3 ⟨rfl,hb3⟩)
  go_ret
  exact⟨rfl,hB.trans ((bw:Below w.heap.size w2 _).trans (hb3.mono zm))⟩
 ·have hd:decide (0<(k:Int))=false:=zm
  clear hc2 hf2 hs2
  gi_quiet (fail)
  gi_wp2_with (gi_at_call 179;refine(tF _ _ _ o5).mono ?_;rintro e w3 ⟨rfl,hb3⟩)
  go_ret
  exact⟨rfl,hB.trans ((bw:Below w.heap.size w2 _).trans (hb3.mono zm))⟩
theorem Dz(b:Bk)(k:Nat)(w:World)(h:b.At w w.heap.size)(hk:k<b.nc)(ok:Ct.ok b (b.c k)):CallsIn FF 0 prog 158 #[b.val,int i64 k] w fun e w'=>e=.returned (int i64 0)∧Below w.heap.size w w':=by
 obtain⟨days,most,gA,ng,gc,g,mA,nm,mc,m,cA,nc,cc,c⟩:=b
 simp only at hk
 obtain⟨o1,o2,o3⟩:=ok
 simp only at o1 o2 o3
 have hnc:=h.nc
 simp only at hnc
 unfold maxLen at hnc
 have hG:∀i w,CallsIn FF 0 prog 73 #[.agg #[int i64 days,int i64 most,.slice gA ng gc,.slice mA nm mc,.slice cA nc cc],int i64 i] w fun e w'=>e=.returned (.bool (fU i 0 ((ng:Int) - 1)))∧Below w.heap.size w w':=fun i w=>sV ⟨days,most,gA,ng,gc,g,mA,nm,mc,m,cA,nc,cc,c⟩ i w h.ng
 have hE:∀i w,CallsIn FF 0 prog 38 #[.agg #[int i64 days,int i64 most,.slice gA ng gc,.slice mA nm mc,.slice cA nc cc],int i64 i] w fun e w'=>e=.returned (.bool (fU i 0 days))∧Below w.heap.size w w':=fun i w=>wV ⟨days,most,gA,ng,gc,g,mA,nm,mc,m,cA,nc,cc,c⟩ i w
 obtain⟨ad,hA,hbl,-⟩:=h.c (show 0<nc by omega)
 simp only at hA
 subst hA
 simp only[Bk.val,Bk.cells]
 have hr:=(h.c.alloc (Nat.le_refl _) (.cells #[int i64 days,int i64 most,.slice gA ng gc,.slice mA nm mc,.slice (some ad) nc cc] 74)).row hk
 have c0:(w.alloc (.cells #[int i64 days,int i64 most,.slice gA ng gc,.slice mA nm mc,.slice (some ad) nc cc] 74)).cell? (ad.add (k * 4))=some (int i64 (c k).good):=hr.2 0 zD
 have c1:(w.alloc (.cells #[int i64 days,int i64 most,.slice gA ng gc,.slice mA nm mc,.slice (some ad) nc cc] 74)).cell? ⟨(ad.add (k * 4)).block,(ad.add (k * 4)).off+1,none⟩=some (int i64 (c k).day):=hr.2 1 zD
 have c2:(w.alloc (.cells #[int i64 days,int i64 most,.slice gA ng gc,.slice mA nm mc,.slice (some ad) nc cc] 74)).cell? ⟨(ad.add (k * 4)).block,(ad.add (k * 4)).off+2,none⟩=some (int i64 (c k).lo):=hr.2 2 zD
 have c3:(w.alloc (.cells #[int i64 days,int i64 most,.slice gA ng gc,.slice mA nm mc,.slice (some ad) nc cc] 74)).cell? ⟨(ad.add (k * 4)).block,(ad.add (k * 4)).off+3,none⟩=some (int i64 (c k).hi):=hr.2 3 zD
 clear hr h
 have i1:=hid (bI.2 o1)
 have i2:=hid (bI.2 o2)
 have i3:Hid (uy (c k).lo (c k).hi 0 999=true):=hid (by unfold uy fU;simp;omega)
 gi_enter func158,ntmps158
 gi_wp2_with (first
  | (gi_at_call 73;refine(hG _ _).mono ?_;rintro e w2 ⟨he,hb2⟩;rw[i1.out] at he;subst he;obtain⟨hc2,hf2⟩:=fF hb2;have hs2:w.heap.size+1<w2.heap.size:=by have:=hb2.size;simp at this;omega)
  | (gi_at_call 38;refine(hE _ _).mono ?_;rintro e w3 ⟨he,hb3⟩;rw[i2.out] at he;subst he;obtain⟨hc3,hf3⟩:=fF hb3;have hs3:=hb3.size)
  | (gi_at_call 62;refine(xq _ _ _ _ _).mono ?_;rintro e w4 ⟨he,hb4⟩;rw[i3.out] at he;subst he))
 go_ret
 exact⟨rfl,(((((Below.refl _ _).alloc (Nat.le_refl _) _).alloc zs _).trans (hb2.mono zm)).trans (hb3.mono zo)).trans (hb4.mono zo)⟩
@[go_sem] theorem Qn (P:Program) (w:World) (a:Addr) (m:Mode) (f:Fn) (x y:Array Value):Sem.run P (store a (.func f x y) m) w=stored P w a (.func f x y) m:=run_store P w a _ m rfl
def BS:Array Value:=#[.func (.func 153) #[] #[],.func (.func 154) #[] #[],.func (.func 155) #[] #[],.func (.func 156) #[] #[],.func (.func 157) #[] #[],.func (.func 158) #[] #[]]
theorem Wt(b:Bk)(B:Nat)(w:World)(h:b.At w w.heap.size)(ok:b.Ok)(hcap:b.ng≤b.gc)(hB:B<w.heap.size)(hl:∀o,w.cell? ⟨B,o,none⟩=BS[o]?):
 CallsIn FF 0 prog 122 #[b.val,.slice (some ⟨B,0,none⟩) 3 3] w fun e w'=>e=.returned (int i64 0)∧Below w.heap.size w w':=by
 obtain⟨days,most,gA,ng,gc,g,mA,nm,mc,m,cA,nc,cc,c⟩:=b
 obtain⟨-,-,lh,T7,jh⟩:=ok
 simp only[Bk.val,Bk.cells]
 simp only at hcap jh
 have Hh:=hid h
 have Og:=hid lh
 have Om:=hid T7
 have Oc:=hid jh
 clear h lh T7 jh
 gi_enter func122,ntmps122
 gi_wp2
 gi_loopw [13] (fun i wr=>∃k:Nat,k≤3∧i=int i64 k∧Below (w.heap.size+1) (w.alloc (.cells #[int i64 days,int i64 most,.slice gA ng gc,.slice mA nm mc,.slice cA nc cc] 74)) wr) (fun i _=>3 - (intOf i).toNat)
 case atStart=>exact⟨0,zo,rfl,Below.refl _ _⟩
 case round=>
  obtain⟨k,hk,rfl,hb⟩:=hrel
  have hsz:w.heap.size+1≤wr.heap.size:=by have:=hb.size;simpa using this
  have jM:∀o,wr.cell? ⟨w.heap.size,o,none⟩=(w.alloc (.cells #[int i64 days,int i64 most,.slice gA ng gc,.slice mA nm mc,.slice cA nc cc] 74)).cell? ⟨w.heap.size,o,none⟩:=fun o=>hb.cell (p:=⟨w.heap.size,o,none⟩) zs
  have hls:∀o,wr.cell? ⟨B,o,none⟩=BS[o]?:=fun o=>((hb.cell (p:=⟨B,o,none⟩) zm).trans (World.cell?_alloc_lt w _ _ zm)).trans (hl o)
  have hat:Hid ((⟨days,most,gA,ng,gc,g,mA,nm,mc,m,cA,nc,cc,c⟩:Bk).At wr (w.heap.size+1)):=hid (((Hh.out.alloc (Nat.le_refl _) _).more (Nat.le_succ _)).below hb)
  have Sq:w.heap.size<wr.heap.size:=hsz
  by_cases hlt:k<3
  ·rcases(show k=0∨k=1∨k=2 by omega) with rfl|rfl|rfl
   ·have l0:wr.cell? ⟨B,0,none⟩=some (.func (.func 153) #[] #[]):=hls 0
    have l1:wr.cell? ⟨B,1,none⟩=some (.func (.func 154) #[] #[]):=hls 1
    clear hls
    obtain⟨wo,rfl⟩:∃wo:World,wo=wr:=⟨_,rfl⟩
    have hL:∀w,CallsIn FF 0 prog 153 #[.agg #[int i64 days,int i64 most,.slice gA ng gc,.slice mA nm mc,.slice cA nc cc]] w fun e w'=>e=.returned (.tuple #[int i64 ng,.bool true])∧Below w.heap.size w w':=fun w=>Gx ⟨days,most,gA,ng,gc,g,mA,nm,mc,m,cA,nc,cc,c⟩ w Og.out.1
    gi_wp2_with (gi_at_call 153;refine(hL _).mono ?_;rintro e w2 ⟨rfl,hb2⟩;obtain⟨hc2,hf2⟩:=fF hb2;have hs2:wo.heap.size<w2.heap.size:=by have:=hb2.size;simp at this;omega)
    have Ah:∀o,w2.cell? ⟨w.heap.size,o,none⟩=(w.alloc (.cells #[int i64 days,int i64 most,.slice gA ng gc,.slice mA nm mc,.slice cA nc cc] 74)).cell? ⟨w.heap.size,o,none⟩:=fun o=>((hc2 _ o zm).trans (World.cell?_alloc_lt _ _ _ zm)).trans (jM o)
    have Si:w2.cell? ⟨wo.heap.size,1,none⟩=some (.func (.func 154) #[] #[]):=(hc2 _ 1 zs).trans zs
    have DV:Hid ((⟨days,most,gA,ng,gc,g,mA,nm,mc,m,cA,nc,cc,c⟩:Bk).At w2 (w.heap.size+1)):=hid ((hat.out.alloc hsz _).below (hb2.mono zm))
    have hB2:Below (w.heap.size+1) wo w2:=((Below.refl _ _).alloc hsz _).trans (hb2.mono zm)
    clear hc2 hf2 jM l0 l1 hL
    have hnn:ng≤2 ^ 63 - 1:=Hh.out.ng
    gi_loopw [27] (fun j wj=>∃q:Nat,q≤ng∧j=int i64 q∧Below w2.heap.size w2 wj) (fun j _=>ng - (intOf j).toNat)
    case atStart=>exact⟨0,Nat.zero_le _,rfl,Below.refl _ _⟩
    case round=>
     obtain⟨q,hq,rfl,hbj⟩:=hrel
     have hs:=hbj.size
     have hx:∀o,wr.cell? ⟨w.heap.size,o,none⟩=(w.alloc (.cells #[int i64 days,int i64 most,.slice gA ng gc,.slice mA nm mc,.slice cA nc cc] 74)).cell? ⟨w.heap.size,o,none⟩:=fun o=>(hbj.cell (p:=⟨w.heap.size,o,none⟩) zm).trans (Ah o)
     have hf:wr.cell? ⟨wo.heap.size,1,none⟩=some (.func (.func 154) #[] #[]):=(hbj.cell (p:=⟨wo.heap.size,1,none⟩) zm).trans Si
     have hlt1:w.heap.size<wr.heap.size:=zo
     have hlt2:wo.heap.size<wr.heap.size:=zo
     by_cases hq2:q<ng
     ·have hC:CallsIn FF 0 prog 154 #[.agg #[int i64 days,int i64 most,.slice gA ng gc,.slice mA nm mc,.slice cA nc cc],int i64 q] wr fun e w'=>e=.returned (int i64 0)∧Below wr.heap.size wr w':=Fx ⟨days,most,gA,ng,gc,g,mA,nm,mc,m,cA,nc,cc,c⟩ q wr ((DV.out.below (hbj.mono zo)).more zo) hq2 hcap (Og.out.2 q hq2)
      gi_wp2_with (gi_at_call 154;refine hC.mono ?_;rintro e w3 ⟨rfl,hb3⟩)
      go_roundw
      case rel=>exact⟨q+1,zo,by go_num,hbj.trans (hb3.mono hs)⟩
      case measure=>simp[intOf];omega
     ·obtain rfl:q=ng:=zo
      gi_wp2
      go_roundw
      case rel=>exact⟨0+1,zo,by go_num,(hb.trans hB2).trans (hbj.mono zo)⟩
      case measure=>simp[intOf]
   ·have l0:wr.cell? ⟨B,2,none⟩=some (.func (.func 155) #[] #[]):=hls 2
    have l1:wr.cell? ⟨B,3,none⟩=some (.func (.func 156) #[] #[]):=hls 3
    clear hls
    obtain⟨wo,rfl⟩:∃wo:World,wo=wr:=⟨_,rfl⟩
    have hL:∀w,CallsIn FF 0 prog 155 #[.agg #[int i64 days,int i64 most,.slice gA ng gc,.slice mA nm mc,.slice cA nc cc]] w fun e w'=>e=.returned (.tuple #[int i64 nm,.bool true])∧Below w.heap.size w w':=fun w=>Gy ⟨days,most,gA,ng,gc,g,mA,nm,mc,m,cA,nc,cc,c⟩ w Om.out.1
    gi_wp2_with (gi_at_call 155;refine(hL _).mono ?_;rintro e w2 ⟨rfl,hb2⟩;obtain⟨hc2,hf2⟩:=fF hb2;have hs2:wo.heap.size<w2.heap.size:=by have:=hb2.size;simp at this;omega)
    have Ah:∀o,w2.cell? ⟨w.heap.size,o,none⟩=(w.alloc (.cells #[int i64 days,int i64 most,.slice gA ng gc,.slice mA nm mc,.slice cA nc cc] 74)).cell? ⟨w.heap.size,o,none⟩:=fun o=>((hc2 _ o zm).trans (World.cell?_alloc_lt _ _ _ zm)).trans (jM o)
    have Si:w2.cell? ⟨wo.heap.size,1,none⟩=some (.func (.func 156) #[] #[]):=(hc2 _ 1 zs).trans zs
    have DV:Hid ((⟨days,most,gA,ng,gc,g,mA,nm,mc,m,cA,nc,cc,c⟩:Bk).At w2 (w.heap.size+1)):=hid ((hat.out.alloc hsz _).below (hb2.mono zm))
    have hB2:Below (w.heap.size+1) wo w2:=((Below.refl _ _).alloc hsz _).trans (hb2.mono zm)
    clear hc2 hf2 jM l0 l1 hL
    have hnn:nm≤2 ^ 63 - 1:=Hh.out.nm
    gi_loopw [27] (fun j wj=>∃q:Nat,q≤nm∧j=int i64 q∧Below w2.heap.size w2 wj) (fun j _=>nm - (intOf j).toNat)
    case atStart=>exact⟨0,Nat.zero_le _,rfl,Below.refl _ _⟩
    case round=>
     obtain⟨q,hq,rfl,hbj⟩:=hrel
     have hs:=hbj.size
     have hx:∀o,wr.cell? ⟨w.heap.size,o,none⟩=(w.alloc (.cells #[int i64 days,int i64 most,.slice gA ng gc,.slice mA nm mc,.slice cA nc cc] 74)).cell? ⟨w.heap.size,o,none⟩:=fun o=>(hbj.cell (p:=⟨w.heap.size,o,none⟩) zm).trans (Ah o)
     have hf:wr.cell? ⟨wo.heap.size,1,none⟩=some (.func (.func 156) #[] #[]):=(hbj.cell (p:=⟨wo.heap.size,1,none⟩) zm).trans Si
     have hlt1:w.heap.size<wr.heap.size:=zo
     have hlt2:wo.heap.size<wr.heap.size:=zo
     by_cases hq2:q<nm
     ·have hC:CallsIn FF 0 prog 156 #[.agg #[int i64 days,int i64 most,.slice gA ng gc,.slice mA nm mc,.slice cA nc cc],int i64 q] wr fun e w'=>e=.returned (int i64 0)∧Below wr.heap.size wr w':=Fy ⟨days,most,gA,ng,gc,g,mA,nm,mc,m,cA,nc,cc,c⟩ q wr ((DV.out.below (hbj.mono zo)).more zo) hq2 (Om.out.2 q hq2)
      gi_wp2_with (gi_at_call 156;refine hC.mono ?_;rintro e w3 ⟨rfl,hb3⟩)
      go_roundw
      case rel=>exact⟨q+1,zo,by go_num,hbj.trans (hb3.mono hs)⟩
      case measure=>simp[intOf];omega
     ·obtain rfl:q=nm:=zo
      gi_wp2
      go_roundw
      case rel=>exact⟨1+1,zo,by go_num,(hb.trans hB2).trans (hbj.mono zo)⟩
      case measure=>simp[intOf]
   ·have l0:wr.cell? ⟨B,4,none⟩=some (.func (.func 157) #[] #[]):=hls 4
    have l1:wr.cell? ⟨B,5,none⟩=some (.func (.func 158) #[] #[]):=hls 5
    clear hls
    obtain⟨wo,rfl⟩:∃wo:World,wo=wr:=⟨_,rfl⟩
    have hL:∀w,CallsIn FF 0 prog 157 #[.agg #[int i64 days,int i64 most,.slice gA ng gc,.slice mA nm mc,.slice cA nc cc]] w fun e w'=>e=.returned (.tuple #[int i64 nc,.bool true])∧Below w.heap.size w w':=fun w=>Ec ⟨days,most,gA,ng,gc,g,mA,nm,mc,m,cA,nc,cc,c⟩ w Oc.out.1
    gi_wp2_with (gi_at_call 157;refine(hL _).mono ?_;rintro e w2 ⟨rfl,hb2⟩;obtain⟨hc2,hf2⟩:=fF hb2;have hs2:wo.heap.size<w2.heap.size:=by have:=hb2.size;simp at this;omega)
    have Ah:∀o,w2.cell? ⟨w.heap.size,o,none⟩=(w.alloc (.cells #[int i64 days,int i64 most,.slice gA ng gc,.slice mA nm mc,.slice cA nc cc] 74)).cell? ⟨w.heap.size,o,none⟩:=fun o=>((hc2 _ o zm).trans (World.cell?_alloc_lt _ _ _ zm)).trans (jM o)
    have Si:w2.cell? ⟨wo.heap.size,1,none⟩=some (.func (.func 158) #[] #[]):=(hc2 _ 1 zs).trans zs
    have DV:Hid ((⟨days,most,gA,ng,gc,g,mA,nm,mc,m,cA,nc,cc,c⟩:Bk).At w2 (w.heap.size+1)):=hid ((hat.out.alloc hsz _).below (hb2.mono zm))
    have hB2:Below (w.heap.size+1) wo w2:=((Below.refl _ _).alloc hsz _).trans (hb2.mono zm)
    clear hc2 hf2 jM l0 l1 hL
    have hnn:nc≤2 ^ 63 - 1:=Hh.out.nc
    gi_loopw [27] (fun j wj=>∃q:Nat,q≤nc∧j=int i64 q∧Below w2.heap.size w2 wj) (fun j _=>nc - (intOf j).toNat)
    case atStart=>exact⟨0,Nat.zero_le _,rfl,Below.refl _ _⟩
    case round=>
     obtain⟨q,hq,rfl,hbj⟩:=hrel
     have hs:=hbj.size
     have hx:∀o,wr.cell? ⟨w.heap.size,o,none⟩=(w.alloc (.cells #[int i64 days,int i64 most,.slice gA ng gc,.slice mA nm mc,.slice cA nc cc] 74)).cell? ⟨w.heap.size,o,none⟩:=fun o=>(hbj.cell (p:=⟨w.heap.size,o,none⟩) zm).trans (Ah o)
     have hf:wr.cell? ⟨wo.heap.size,1,none⟩=some (.func (.func 158) #[] #[]):=(hbj.cell (p:=⟨wo.heap.size,1,none⟩) zm).trans Si
     have hlt1:w.heap.size<wr.heap.size:=zo
     have hlt2:wo.heap.size<wr.heap.size:=zo
     by_cases hq2:q<nc
     ·have hC:CallsIn FF 0 prog 158 #[.agg #[int i64 days,int i64 most,.slice gA ng gc,.slice mA nm mc,.slice cA nc cc],int i64 q] wr fun e w'=>e=.returned (int i64 0)∧Below wr.heap.size wr w':=Dz ⟨days,most,gA,ng,gc,g,mA,nm,mc,m,cA,nc,cc,c⟩ q wr ((DV.out.below (hbj.mono zo)).more zo) hq2 (Oc.out.2 q hq2)
      gi_wp2_with (gi_at_call 158;refine hC.mono ?_;rintro e w3 ⟨rfl,hb3⟩)
      go_roundw
      case rel=>exact⟨q+1,zo,by go_num,hbj.trans (hb3.mono hs)⟩
      case measure=>simp[intOf];omega
     ·obtain rfl:q=nc:=zo
      gi_wp2
      go_roundw
      case rel=>exact⟨2+1,zo,by go_num,(hb.trans hB2).trans (hbj.mono zo)⟩
      case measure=>simp[intOf]
  ·obtain rfl:k=3:=zo
   gi_wp2
   go_ret
   exact⟨rfl,(((Below.refl _ _).alloc (Nat.le_refl _) _).trans (hb.mono zs))⟩
theorem Xf(b:Bk)(w:World):CallsIn FF 0 prog 123 #[b.val] w fun e w'=>∃B,e=.returned (.slice (some ⟨B,0,none⟩) 3 3)∧w.heap.size≤B∧B<w'.heap.size∧(∀o,w'.cell? ⟨B,o,none⟩=BS[o]?)∧Below w.heap.size w w':=by
 obtain⟨days,most,gA,ng,gc,g,mA,nm,mc,m,cA,nc,cc,c⟩:=b
 simp only[Bk.val,Bk.cells]
 gi_enter func123,ntmps123
 gi_wp2
 go_ret
 refine⟨w.heap.size+1,rfl,zo,zs,fun o=>?_,bw⟩
 have e:=(Whole.new (w.alloc (.cells #[int i64 days,int i64 most,.slice gA ng gc,.slice mA nm mc,.slice cA nc cc] 74)) 197 BS).cell o
 rw[show(w.alloc (.cells #[int i64 days,int i64 most,.slice gA ng gc,.slice mA nm mc,.slice cA nc cc] 74)).heap.size=w.heap.size+1 by simp] at e
 exact e
theorem cv(b:Bk)(w:World)(h:b.At w w.heap.size)(ok:b.Ok)(hcap:b.ng≤b.gc):CallsIn FF 0 prog 95 #[b.val] w fun e w'=>e=.returned (int i64 0)∧Below w.heap.size w w':=by
 have i1:=hid (bI.2 ok.days)
 have i2:=hid (bI.2 ok.most)
 obtain⟨days,most,gA,ng,gc,g,mA,nm,mc,m,cA,nc,cc,c⟩:=b
 have hL:∀w,CallsIn FF 0 prog 123 #[.agg #[int i64 days,int i64 most,.slice gA ng gc,.slice mA nm mc,.slice cA nc cc]] w fun e w'=>∃B,e=.returned (.slice (some ⟨B,0,none⟩) 3 3)∧w.heap.size≤B∧B<w'.heap.size∧(∀o,w'.cell? ⟨B,o,none⟩=BS[o]?)∧Below w.heap.size w w':=fun w=>Xf ⟨days,most,gA,ng,gc,g,mA,nm,mc,m,cA,nc,cc,c⟩ w
 have hF:∀B w,(⟨days,most,gA,ng,gc,g,mA,nm,mc,m,cA,nc,cc,c⟩:Bk).At w w.heap.size→B<w.heap.size→(∀o,w.cell? ⟨B,o,none⟩=BS[o]?)→CallsIn FF 0 prog 122 #[.agg #[int i64 days,int i64 most,.slice gA ng gc,.slice mA nm mc,.slice cA nc cc],.slice (some ⟨B,0,none⟩) 3 3] w fun e w'=>e=.returned (int i64 0)∧Below w.heap.size w w':=fun B w hA hB hl=>Wt ⟨days,most,gA,ng,gc,g,mA,nm,mc,m,cA,nc,cc,c⟩ B w hA ok hcap hB hl
 simp only[Bk.val,Bk.cells]
 have Hh:=hid h
 clear h ok hcap
 simp only at i1 i2
 gi_enter func95,ntmps95
 gi_wp2_with (gi_at_call 35;refine(dh _ _ _ _).mono ?_;rintro e w' ⟨he,rfl⟩;(first|rw[i1.out] at he|rw[i2.out] at he);subst he)
 gi_region_with (first
  | (gi_at_call 123;refine(hL _).mono ?_;rintro e w2 ⟨B,rfl,hB1,hB2,hl2,hb2⟩;have hW:Below w.heap.size w w2:=(bw:Below w.heap.size w _).trans (hb2.mono zs);obtain⟨hc2,hf2⟩:=fF hb2;have hs2:w.heap.size<w2.heap.size:=by have:=hb2.size;simp at this;omega)
  | (gi_at_call 122;refine(hF B _ ((Hh.out.below hW).more hW.size) hB2 hl2).mono ?_;rintro e w3 ⟨rfl,hb3⟩))
 all_goals (gi_wp2;go_ret;exact⟨rfl,hW.trans (hb3.mono hW.size)⟩)
theorem VY(b:Bk)(w:World)(h:b.At w w.heap.size)(ok:b.Ok)(hcap:b.ng≤b.gc):CallsIn FF 0 prog 69 #[b.val] w fun e w'=>e=.returned (int i64 0)∧Below w.heap.size w w':=by
 obtain⟨days,most,gA,ng,gc,g,mA,nm,mc,m,cA,nc,cc,c⟩:=b
 have hL:∀w,(⟨days,most,gA,ng,gc,g,mA,nm,mc,m,cA,nc,cc,c⟩:Bk).At w w.heap.size→CallsIn FF 0 prog 95 #[.agg #[int i64 days,int i64 most,.slice gA ng gc,.slice mA nm mc,.slice cA nc cc]] w fun e w'=>e=.returned (int i64 0)∧Below w.heap.size w w':=fun w h=>cv ⟨days,most,gA,ng,gc,g,mA,nm,mc,m,cA,nc,cc,c⟩ w h ok hcap
 simp only[Bk.val,Bk.cells]
 have Hh:=hid h
 clear h ok hcap
 gi_enter func69,ntmps69
 gi_wp2_with (gi_at_call 95;refine(hL _ ((Hh.out.alloc (Nat.le_refl _) _).more zs)).mono ?_;rintro e w2 ⟨rfl,hb2⟩)
 go_ret
 exact⟨rfl,(bw:Below w.heap.size w _).trans (hb2.mono zs)⟩
def aB(s k:Nat):List Int:=((List.range k).filter fun n=>s / 2 ^ n % 2 == 1).map fun(n:Nat)=>(n:Int)
theorem xO(s k:Nat):aB s (k+1)=aB s k ++ if s / 2 ^ k % 2=1 then[(k:Int)] else[]:=by
 unfold aB
 rw[List.range_succ,List.filter_append,List.map_append]
 by_cases h:s / 2 ^ k % 2=1 <;> simp[h]
theorem tN(s k:Nat):(aB s k).length≤k:=by
 unfold aB
 rw[List.length_map]
 exact Nat.le_trans (List.length_filter_le _ _) zs
theorem Cu(s k:Nat)(h:s / 2 ^ k=0):∀j,aB s (k+j)=aB s k
 | 0=>rfl
 | j+1=>by
   rw[← Nat.add_assoc,xO,Cu s k h j,if_neg,List.append_nil]
   rw[Nat.pow_add,← Nat.div_div_eq_div_mul,h,Nat.zero_div]
   decide
end
section
open Go Go.Sort Go.RowKit
section
variable{F:Fence}{n:Nat}{P:Program}{ops:Array Oper}{Q:Exit→Act→World→Prop}{md:Region.Mode}{S:World→Prop}{T:Act→World→Prop}{N:Nat}
def mQ(md:Region.Mode)(ops:Array Oper):Nat→Nat→Array Bool→Bool
 | 0,_,listed=>Region.ready md ops listed == []
 | c+1,t,listed=>Region.ready md ops listed == [t] && mQ md ops c (t+1) (listed.setIfInBounds t true)
theorem ji:∀ (l:List Oper) (t:Nat) (listed:Array Bool) (a:Act) (w:World),(∀j,j<l.length→l[j]? =ops[t+j]?)→mQ md ops l.length t listed=true→wpListIn F n P ops Q l a w→wpAnyIn F n P md ops Q l.length listed a w
 | [],_,_,_,_,_,hB,h=>⟨by simpa [mQ] using hB,h⟩
 | o :: l,t,listed,a,w,hl,hB,h=>by
   have h0:ops[t]? =some o:=by simpa using (hl 0 zs).symm
   simp only[List.length_cons,mQ,Bool.and_eq_true,beq_iff_eq] at hB
   refine⟨(fun h0=>by rw[hB.1] at h0;cases h0),fun i hi=>?_⟩
   rw[hB.1] at hi
   obtain rfl:i=t:=by simpa using hi
   have hK:∀a w,wpListIn F n P ops Q l a w→wpAnyIn F n P md ops Q l.length (listed.setIfInBounds i true) a w:=fun a w h=>ji l (i+1) _ a w (fun j hj=>by have:=hl (j+1) (by simpa using hj);simpa [Nat.add_assoc,Nat.add_comm 1 j] using this) hB.2 h
   refine wpOpIn_mono (fun a' w' hq=>hK a' w' hq) ?_
   unfold wpOpIn
   simp only[h0]
   exact h
def yQ(F:Fence)(n:Nat)(P:Program)(md:Region.Mode)(ops:Array Oper)(S:World→Prop)(T:Act→World→Prop)(N:Nat):Nat→Array Bool→Act→Prop
 | 0,listed,a=>(mQ md ops (ops.size - N) N listed=true∧Region.ready md ops listed=[N])∧∀w,S w→T a w
 | fuel+1,listed,a=>(Region.ready md ops listed≠[]∧∀i∈Region.ready md ops listed,i<N)∧∀i∈Region.ready md ops listed,qOpIn F n P ops S i (yQ F n P md ops S T N fuel (listed.setIfInBounds i true)) a
theorem mU(hro:F.round=none)(hT:∀listed a w,mQ md ops (ops.size - N) N listed=true→T a w→wpAnyIn F n P md ops Q (ops.size - N) listed a w):∀ (fuel:Nat) (listed:Array Bool) (a:Act) (w:World),S w→yQ F n P md ops S T N fuel listed a→wpAnyIn F n P md ops Q (ops.size - N+fuel) listed a w
 | 0,_,a,w,hw,h=>hT _ a w h.1.1 (h.2 w hw)
 | fuel+1,_,_,_,hw,h=>⟨fun h0=>absurd h0 h.1.1,fun i hi=>wpOpIn_of_qOpIn hro hw (fun a' w' hw'=>mU hro hT fuel _ a' w' hw') (h.2 i hi)⟩
theorem EN{i:Nat}{oi:Oper}{v:Value}(hs:Region.sinkB md ops N=true)(hc:Region.chainB md ops N=true)(hN:N<ops.size)(hi:ops[i]? =some oi)(hsel:∀ (j:Nat) (o:Oper) cs b,ops[j]? =some o→o.op≠.select cs b)(S':i<N):
 ∀ (fuel:Nat) (listed:Array Bool) (a:Act),HeadInv md ops N listed→
   (∀j oj,ops[j]? =some oj→j≠i→listed.getD j true=false→(∀e∈oj.after,Region.binds md e=true→e.on≠i)→oi.apart ops oj=true)→
   i∈Region.ready md ops listed→YieldsQuiet F n P ops S oi v a→
   yQ F n P md ops S T N fuel (listed.setIfInBounds i true) (a.put oi.dst v)→yQ F n P md ops S T N (fuel+1) listed a:=by
 intro fuel
 induction fuel with
 | zero=>
   intro listed a inv _ hr hy H
   have hun:=(mem_ready.1 hr).1
   have hlt:∀t∈Region.ready md ops listed,t<N:=fun t ht=>Nat.lt_of_not_le fun h=>tail_waits hs hc hN inv _ i rfl S' hun t h ht
   refine⟨⟨fun h=>(by rw[h] at hr;cases hr),hlt⟩,fun j hj=>?_⟩
   by_cases hji:j=i
   ·subst hji;exact hy.qOpIn hi H
   ·have:=ready_mono hj hji
    rw[H.1.2] at this
    have h1:j=N:=by simpa using this
    have:=hlt j hj
    omega
 | succ fuel ih=>
   intro listed a inv hfree hr hy H
   have hun:=(mem_ready.1 hr).1
   have hlt:∀t∈Region.ready md ops listed,t<N:=fun t ht=>Nat.lt_of_not_le fun h=>tail_waits hs hc hN inv _ i rfl S' hun t h ht
   refine⟨⟨fun h=>(by rw[h] at hr;cases hr),hlt⟩,fun j hj=>?_⟩
   by_cases hji:j=i
   ·subst hji;exact hy.qOpIn hi H
   ·have h1:=H.2 j (ready_mono hj hji)
    obtain⟨hjun,oj,hoj,hall⟩:=mem_ready.1 hj
    have hnot:∀e∈oj.after,Region.binds md e=true→e.on≠i:=fun e he hb heq=>by
     have h1:=hall e he hb
     have h0:=(mem_ready.1 hr).1
     rw[heq] at h1
     rcases Nat.lt_or_ge i listed.size with h'|h'
     ·simp[h'] at h0 h1;rw[h0] at h1;cases h1
     ·simp[Array.getElem?_eq_none h'] at h1
    have h2:=qOpIn_put hoj (hfree j oj hoj hji hjun hnot) (fun cs b=>hsel i oi cs b hi) (fun cs b=>hsel j oj cs b hoj) hy h1
    have hfree':∀k ok,ops[k]? =some ok→k≠i→(listed.setIfInBounds j true).getD k true=false→
     (∀e∈ok.after,Region.binds md e=true→e.on≠i)→oi.apart ops ok=true:=fun k ok hk hki hun hno=>by
     refine hfree k ok hk hki ?_ hno
     by_cases hjk:j=k
     ·subst hjk;exact hjun
     ·rw[getD_set_ne true hjk] at hun;exact hun
    refine qOpIn_mono (fun a' h3=>ih (listed.setIfInBounds j true) a' (inv.set hj (hlt j hj)) hfree' (ready_mono hr (Ne.symm hji)) h3.1 ?_) h2
    rw[Array.setIfInBounds_comm _ _ hji]
    exact h3.2
def nZ(md:Region.Mode)(ops:Array Oper)(N:Nat):Nat→Nat→Array Bool→Bool
 | 0,_,listed=>mQ md ops (ops.size - N) N listed && Region.ready md ops listed == [N]
 | fuel+1,k,listed=>(Region.ready md ops listed).contains k && Region.free md ops listed k && nZ md ops N fuel (k+1) (listed.setIfInBounds k true)
theorem qV(hsel:Region.noSelect ops=true)(hs:Region.sinkB md ops N=true)(hc:Region.chainB md ops N=true)(hN:N<ops.size):∀ (l:List Oper) (k:Nat) (listed:Array Bool) (a:Act),(∀j,j<l.length→l[j]? =ops[k+j]?)→k+l.length=N→HeadInv md ops N listed→
 nZ md ops N l.length k listed=true→wpQuietIn F n P ops S (fun a=>∀w,S w→T a w) l a→yQ F n P md ops S T N l.length listed a
 | [],_,_,_,_,_,_,hB,h=>by
   simp only[List.length_nil,nZ,Bool.and_eq_true,beq_iff_eq] at hB
   exact⟨hB,h⟩
 | o :: l,k,listed,a,hl,hk,inv,hB,h=>by
   have h0:ops[k]? =some o:=by simpa using (hl 0 zs).symm
   simp only[List.length_cons] at hk
   simp only[List.length_cons,nZ,Bool.and_eq_true] at hB
   obtain⟨⟨hr,hf⟩,hB'⟩:=hB
   have hr':k∈Region.ready md ops listed:=by simpa using hr
   have hst:qOpIn F n P ops S k (wpQuietIn F n P ops S (fun a=>∀w,S w→T a w) l) a:=by unfold qOpIn;simp only[h0];exact h
   obtain⟨v,hy,hK⟩:=yieldsQuiet_of_qOpIn h0 hst
   exact EN hs hc hN h0 (Region.noSelect_spec hsel) zo l.length listed a inv (Region.free_spec h0 hf) hr' hy
    (qV hsel hs hc hN l (k+1) _ _ (fun j hj=>by have:=hl (j+1) (by simpa using hj);simpa [Nat.add_assoc,Nat.add_comm 1 j] using this) zo (inv.set hr' zo) hB' hK)
def Ir(ops:Array Oper)(N:Nat):Bool:=Region.noSelect ops && Region.sinkB .any ops N && Region.chainB .any ops N && decide (N<ops.size) && nZ .any ops N N 0 (Array.replicate ops.size false)
theorem aK{id:Nat}{a:Act}{w:World}{l:List Oper}(N:Nat)(hro:F.round=none)(hm:P.follows .mixedOrders=true)(hB:Ir l.toArray N=true)
 (h:wpQuietIn F n P l.toArray (fun w'=>∃p:Regrown,w'=grow (redrawn w p.d) p.os) (fun a'=>∀w',(∃p:Regrown,w'=grow (redrawn w p.d) p.os)→wpListIn F n P l.toArray Q (l.drop N) a' w') (l.take N) a):(Code.region id l.toArray true).wpIn F n P Q a w:=by
 simp only[Ir,Bool.and_eq_true,decide_eq_true_eq] at hB
 obtain⟨⟨⟨⟨h1,h2⟩,h3⟩,h4⟩,h5⟩:=hB
 have hlen:N<l.length:=by simpa using h4
 refine wpIn_region_any hm ?_
 have htl:(l.take N).length=N:=zm
 have inv:HeadInv .any l.toArray N (Array.replicate l.toArray.size false):=⟨zs,fun j oj hj hl=>by rw[getD_replicate_false] at *;simp_all,fun t ht ht'=>getD_in (by simpa using ht') (getD_replicate_false _ _)⟩
 have:=qV (F:=F) (n:=n) (P:=P) (md:=.any) (ops:=l.toArray) (N:=N) (S:=fun w'=>∃p:Regrown,w'=grow (redrawn w p.d) p.os) (T:=wpListIn F n P l.toArray Q (l.drop N)) h1 h2 h3 h4 (l.take N) 0 (Array.replicate l.toArray.size false) a
  (fun j hj=>by rw[htl] at hj;simp[hj]) zo inv (by rw[htl];exact h5) h
 rw[htl] at this
 have h6:=mU (Q:=Q) hro (N:=N) (fun listed a w hB h=>by
  have hd:(l.drop N).length=l.toArray.size - N:=zs
  have:=ji (F:=F) (n:=n) (P:=P) (md:=.any) (ops:=l.toArray) (Q:=Q) (l.drop N) N listed a w (fun j hj=>zs) (by rw[hd];exact hB) h
  rw[hd] at this
  exact this) N _ a {w with drawn:=w.drawn+1 } ⟨⟨w.drawn+1,#[]⟩,by rw[grow_empty];rfl⟩ this
 rw[show l.toArray.size - N+N=l.toArray.size by omega] at h6
 exact h6
end
end
section
open Go
def SF:Fence:={fn:=fun g=>g=83∨g=84∨g=96∨g=40∨g=76∨g=77∨g=100∨g=127∨g=128∨g=78∨g=101∨g=102∨g=103∨g=104∨g=105∨g=129∨g=91∨g=35∨g=79∨g=106∨g=130∨g=131∨g=57∨g=61∨g=80 }
@[simp] theorem TY(g:FuncId):SF.fn g↔g=83∨g=84∨g=96∨g=40∨g=76∨g=77∨g=100∨g=127∨g=128∨g=78∨g=101∨g=102∨g=103∨g=104∨g=105∨g=129∨g=91∨g=35∨g=79∨g=106∨g=130∨g=131∨g=57∨g=61∨g=80:=Iff.rfl
@[simp] theorem tk:SF.depth=none:=rfl
@[simp] theorem tl:SF.round=none:=rfl
theorem He{g:FuncId}(h:SF.fn g):FF.fn g:=by
 rw[qz]
 rcases(TY g).1 h with h|h|h|h|h|h|h|h|h|h|h|h|h|h|h|h|h|h|h|h|h|h|h|h|h <;> subst h <;> simp
theorem fQ{I I':Machine→Prop}(hI:∀m,I m→I' m){P:Program}{m m':Machine}(h:StepsIn I P m m'):StepsIn I' P m m':=by
 induction h with
 | refl=>exact .refl _
 | head h1 h2 h3 ih=>exact .head (hI _ h1) h2 ih
theorem CallsIn.wider{n:Nat}{P:Program}{f:FuncId}{args:Array Value}{w:World}{R:Ending→World→Prop}(h:CallsIn SF n P f args w R):CallsIn FF n P f args w R:=by
 refine⟨He h.1,fun cs _=>?_⟩
 obtain⟨e,w',fr,r,hs,rest⟩:=h.2 cs (fun d hd=>by cases hd)
 have hm:∀m:Machine,m.fenced P SF→m.fenced P FF:=fun m hm g hg=>by
  obtain⟨a,b,c,d⟩:=hm g hg
  exact⟨a,b.imp He id,fun f hf=>He (c f hf),fun d hd=>by cases hd⟩
 refine⟨e,w',fr,r,?_,rest⟩
 cases e with
 | returned v=>exact fQ hm hs
 | panicked c=>exact fQ hm hs
 | outgrown=>exact hs
end
end Go.Proofs.YthaelabgfnnebaaGreat
namespace Go.Proofs.YthaelabgfnnebaaGreat.W
section
open Go.RowKit
theorem dh(n lo hi:Int)(w:World):CallsIn SF 0 prog 35 #[int i64 n,int i64 lo,int i64 hi] w fun e w'=>e=.returned (.bool (fU n lo hi))∧w=w':=by
 gi_enter func35,ntmps35
 gi_wp2
 all_goals (go_ret;refine⟨?_,rfl⟩;congr 2;unfold fU;first|rfl|(simp;omega)|simp_all)
theorem fg(a b:Int)(w:World):CallsIn SF 0 prog 130 #[int i64 a,int i64 b] w fun e w'=>e=.returned (int i64 (wrap64 (a+b)))∧w=w':=by
 gi_enter func130,ntmps130
 gi_wp2
 all_goals (go_ret;refine⟨?_,rfl⟩;rfl)
theorem e8(a b:Int)(w:World):CallsIn SF 0 prog 131 #[int i64 a,int i64 b] w fun e w'=>e=.returned (int i64 (wrap64 (a - b)))∧w=w':=by
 gi_enter func131,ntmps131
 gi_wp2
 all_goals (go_ret;refine⟨?_,rfl⟩;rfl)
theorem kK(s:Nat)(w:World)(hs:s<1024):CallsIn SF 0 prog 96 #[int i64 s] w fun e w'=>∃v,e=.returned v∧w'.ownsRow w.heap.size 3 1 v (aB s 10).length ((aB s 10).map (int i64))∧Below w.heap.size w w':=by
 obtain⟨i0,hi,hz0,hz1,hz2⟩:=info_parts info3
 have hi0:=hid hi
 clear hi
 gi_enter func96,ntmps96
 gi_wp2
 gi_loopw [3,4] (fun l i wr=>∃k:Nat,k≤10∧i=int i64 k∧Hid (wr.ownsRow w.heap.size 3 1 l (aB s k).length ((aB s k).map (int i64))∧Below w.heap.size w wr)) (fun _ i _=>11 - (intOf i).toNat)
 case atStart=>exact⟨0,zo,rfl,hid ⟨jl w w.heap.size 3,Below.refl _ _⟩⟩
 case round=>
  obtain⟨k,hk,rfl,hR⟩:=hrel
  obtain⟨A,n,c,rfl⟩:=eX hR.out.1
  have e1:(s:Int) / 2 ^ k=((s / 2 ^ k:Nat):Int):=by push_cast;rfl
  have e2:bits BinOp.and IntKind.i64 ((s / 2 ^ k:Nat):Int) 1=((s / 2 ^ k % 2:Nat):Int):=and_one _ (by have:=Nat.div_le_self s (2 ^ k);omega)
  by_cases h0:s / 2 ^ k=0
  ·have e3:aB s 10=aB s k:=by have:=Cu s k h0 (10 - k);rwa[show k+(10 - k)=10 by omega] at this
   have c1:decide (0<(s:Int) / 2 ^ k)=false:=by rw[e1,h0];rfl
   clear e1 e2
   gi_wp2
   all_goals first
    | (go_ret
       exact⟨_,rfl,by rw[e3];exact hR.out.1,hR.out.2⟩)
    | trace_state
  ·have hk2:k<10:=by
    rcases Nat.lt_or_ge k 10 with h|h
    ·exact h
    ·exact absurd (Nat.div_eq_of_lt (Nat.lt_of_lt_of_le hs (Nat.pow_le_pow_right (n:=2) zD h))) h0
   have c1:(0:Int)<(s:Int) / 2 ^ k:=by rw[e1];exact Int.natCast_pos.2 (Nat.pos_of_ne_zero h0)
   have c2:bits BinOp.and IntKind.i64 ((s:Int) / 2 ^ k) 1=((s / 2 ^ k % 2:Nat):Int):=by rw[e1];exact e2
   have e4:=xO s k
   have hlen:=tN s k
   have hB:=hR.out.2.size
   clear e1 e2
   by_cases h1:s / 2 ^ k % 2=1
   ·rw[if_pos h1] at e4
    have c3:(bits BinOp.and IntKind.i64 ((s:Int) / 2 ^ k) 1 == 1)=true:=by rw[c2,h1];rfl
    clear c2
    have Hc:=hid e4
    clear e4
    gi_wp2_with (gi_at_builtin;refine aF rfl rfl rfl fun K5 iX=>?_;refine wp_append_lies _ _ _ _ rfl w.heap.size 3 i0 _ 1 8 underlying30 hi0.out hz0 hz1 hz2 rfl zo (.slice A n c) (aB s k).length _ rfl (aQ hR.out.1 _) ⟨wr.heap.size,0,none⟩ 1 1 [_] rfl rfl (World.news_of_block (heap_alloc_new wr _)) (by simp[Value.oneCell']) zo zU zo zm (wr.heap.size+1) zs ?_;intro pz nD w5 hown5 aM lG nI;refine iX _ _ ?_;clear iX K5)
    exact⟨⟨k+1,zo,by go_num,hid ⟨by rw[Hc.out,List.length_append,List.map_append];exact hown5,(hR.out.2.alloc hB _).trans (below_grown aM zm (fun g hg=>(bR hR.out.1 hg).1))⟩⟩,by simp[intOf];omega⟩
   ·rw[if_neg h1,List.append_nil] at e4
    have c3:(bits BinOp.and IntKind.i64 ((s:Int) / 2 ^ k) 1 == 1)=false:=by rw[c2];exact beq_eq_false_iff_ne.2 (fun h=>h1 (by exact_mod_cast h))
    clear c2
    gi_wp2
    go_roundw
    case rel=>exact⟨k+1,zo,by go_num,hid ⟨by rw[e4];exact hR.out.1,hR.out.2⟩⟩
    case measure=>simp[intOf];omega
end
end Go.Proofs.YthaelabgfnnebaaGreat.W
namespace Go.Proofs.YthaelabgfnnebaaGreat
section
open Go.RowKit
theorem sW(b:Bk)(i:Nat)(w:World)(h:b.At w w.heap.size)(hi:i<b.nm):CallsIn FF 0 prog 58 #[b.val,int i64 i] w fun e w'=>e=.returned (.bool (decide ((b.m i).kind=0)))∧Below w.heap.size w w':=by
 obtain⟨days,most,gA,ng,gc,g,mA,nm,mc,m,cA,nc,cc,c⟩:=b
 simp only at hi
 have hnm:=h.nm
 have hM:∀w,CallsIn FF 0 prog 90 #[.agg #[int i64 days,int i64 most,.slice gA ng gc,.slice mA nm mc,.slice cA nc cc],int i64 i] w fun e w'=>e=.returned (.bool true)∧Below w.heap.size w w':=fun w=>by
  have:=BI ⟨days,most,gA,ng,gc,g,mA,nm,mc,m,cA,nc,cc,c⟩ i w hnm
  rwa[show fU (i:Int) 0 ((nm:Int) - 1)=true by unfold fU;simp;omega] at this
 simp only at hnm
 unfold maxLen at hnm
 obtain⟨ad,hA,hbl,-⟩:=h.m (show 0<nm by omega)
 simp only at hA
 subst hA
 simp only[Bk.val,Bk.cells]
 have Hg:=hid (h.m.alloc (Nat.le_refl _) (.cells #[int i64 days,int i64 most,.slice gA ng gc,.slice (some ad) nm mc,.slice cA nc cc] 74))
 clear h
 gi_enter func58,ntmps58
 gi_wp2_with (gi_at_call 90;refine(hM _).mono ?_;rintro e w2 ⟨rfl,hb2⟩;obtain⟨hc2,hf2⟩:=fF hb2;have hs2:w.heap.size<w2.heap.size:=(by have:=hb2.size;simp at this;omega);have c0:w2.cell? (ad.add (i * 5))=some (int i64 (m i).kind):=((Hg.out.below (hb2.mono zs)).row hi).2 0 zD)
 all_goals (go_ret;refine⟨?_,(bw:Below w.heap.size w _).trans (hb2.mono zs)⟩;first|rfl|simp_all)
theorem kK(s:Nat)(w:World)(hs:s<1024):CallsIn FF 0 prog 96 #[int i64 s] w fun e w'=>∃v,e=.returned v∧w'.ownsRow w.heap.size 3 1 v (aB s 10).length ((aB s 10).map (int i64))∧Below w.heap.size w w':=
 CallsIn.wider (Go.Proofs.YthaelabgfnnebaaGreat.W.kK s w hs)
end
end Go.Proofs.YthaelabgfnnebaaGreat
