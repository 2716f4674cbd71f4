/- S4 S5 Reg RegIn S6 S7 StopIn Reg2 Reg2In Cut S8 S9 -/
import Derived.Test.YthaelabgfnnebaaGreatA1
import Derived.Stop.RegionWithIn
import Derived.OrdersHeld
import Derived.Deep.RegionHeld
import Derived.OrdersIn
import Derived.Deep.AppendLies
import Derived.Deep.RegionHeld3
import Derived.Deep.DrawnRows
import Derived.OwnWalk
import Derived.ControlIn
set_option maxRecDepth 100000
set_option maxHeartbeats 16000000
set_option linter.unusedVariables false
set_option linter.unusedSectionVars false
open Go.IntKind(i64)
open Go.Lib(hid)
open Go.Proofs.Tryz
open Go.Value(int)
namespace Go.Proofs.YthaelabgfnnebaaGreat
section
open Go.RowKit
structure Bk.Ok(b:Bk):Prop where
 days:1≤b.days∧b.days≤99
 most:0≤b.most∧b.most≤2
 bn:jX b
 moves:ji b
 counts:b.nc≤4∧∀i,i<b.nc→Ct.ok b (b.c i)
section
variable{days most:Int}{gA mA cA:Option Addr}{ng gc nm mc nc cc:Nat}{g:Nat→Good}{m:Nat→Mv}{c:Nat→Ct}
theorem Lb(w:World)(h:(⟨days,most,gA,ng,gc,g,mA,nm,mc,m,cA,nc,cc,c⟩:Bk).At w w.heap.size):CallsIn FF 0 prog 49 #[.agg #[int i64 days,int i64 most,.slice gA ng gc,.slice mA nm mc,.slice cA nc cc]] w (gF (jX ⟨days,most,gA,ng,gc,g,mA,nm,mc,m,cA,nc,cc,c⟩) w):=Ni _ w h
theorem LH(w:World)(h:(⟨days,most,gA,ng,gc,g,mA,nm,mc,m,cA,nc,cc,c⟩:Bk).At w w.heap.size)(hd:-9223372036854775808≤days∧days≤9223372036854775807):CallsIn FF 0 prog 50 #[.agg #[int i64 days,int i64 most,.slice gA ng gc,.slice mA nm mc,.slice cA nc cc]] w (gF (ji ⟨days,most,gA,ng,gc,g,mA,nm,mc,m,cA,nc,cc,c⟩) w):=NJ _ w h hd
theorem Vo(k:Nat)(w:World)(hn:ng≤maxLen):CallsIn FF 0 prog 51 #[.agg #[int i64 days,int i64 most,.slice gA ng gc,.slice mA nm mc,.slice cA nc cc],.agg #[int i64 (c k).good,int i64 (c k).day,int i64 (c k).lo,int i64 (c k).hi]] w (gF (Ct.ok ⟨days,most,gA,ng,gc,g,mA,nm,mc,m,cA,nc,cc,c⟩ (c k)) w):=MW ⟨days,most,gA,ng,gc,g,mA,nm,mc,m,cA,nc,cc,c⟩ (c k) w hn
theorem IW(w:World)(h:(⟨days,most,gA,ng,gc,g,mA,nm,mc,m,cA,0,cc,c⟩:Bk).At w w.heap.size)(hd:-9223372036854775808≤days∧days≤9223372036854775807):CallsIn FF 0 prog 23 #[.agg #[int i64 days,int i64 most,.slice gA ng gc,.slice mA nm mc,.slice cA 0 cc]] w (gF (Bk.Ok ⟨days,most,gA,ng,gc,g,mA,nm,mc,m,cA,0,cc,c⟩) w):=by
 have Hh:=hid h
 clear h
 gi_enter func23,ntmps23
 gi_wp2_with (first
  | (gi_at_call 11;refine(nG _ _ _ _).mono ?_;rintro e w' ⟨rfl,rfl⟩)
  | (gi_at_call 49;refine(Lb _ ((Hh.out.alloc (Nat.le_refl _) _).more zs)).mono ?_;rintro e w1 ⟨l1,rfl,hl1,hb1⟩;obtain⟨hc1,hf1⟩:=fC hb1;have hs1:=hb1.size;have H1:=hid (((Hh.out.alloc (Nat.le_refl _) _).more zs).below hb1 |>.more hs1);have L1:=hid hl1;clear hl1;simp at hs1;have hlt1:w.heap.size<w1.heap.size:=hs1)
  | (gi_at_call 50;refine(LH _ H1.out hd).mono ?_;rintro e w2 ⟨l2,rfl,hl2,hb2⟩;obtain⟨hc2,hf2⟩:=fC hb2;have hs2:=hb2.size;have L2:=hid hl2;clear hl2))
 ·go_ret
  exact⟨1,rfl,(fun h=>absurd h zD),bw⟩
 ·go_ret
  exact⟨1,rfl,(fun h=>absurd h zD),bw⟩
 ·have hne:(l1 != 0)=true:=zt
  go_ret
  exact⟨l1,rfl,(fun h=>by rw[h] at hne;cases hne),((Below.refl _ _).alloc (Nat.le_refl _) _).trans (hb1.mono zs)⟩
 ·have hne:(l2 != 0)=true:=zt
  go_ret
  exact⟨l2,rfl,(fun h=>by rw[h] at hne;cases hne),(((Below.refl _ _).alloc (Nat.le_refl _) _).trans (hb1.mono zs)).trans (hb2.mono zo)⟩
 ·have k1:fO days 1 99=true:=zt
  have k2:(!fO most 0 2)=false:=zt
  have k3:(l1 != 0)=false:=zt
  have k4:(l2 != 0)=false:=zt
  refine wpIn_loop_rounds 1 ?_
  rw[roundsIn_succ]
  gi_wp2
  go_ret
  exact⟨0,rfl,(fun _=>⟨bF.1 k1,bF.1 (by simpa using k2),L1.out (by simpa using k3),L2.out (by simpa using k4),zs,fun i hi=>absurd hi (Nat.not_lt_zero i)⟩),(((Below.refl _ _).alloc (Nat.le_refl _) _).trans (hb1.mono zs)).trans (hb2.mono zo)⟩
theorem IX(ad:Addr)(w:World)(h:(⟨days,most,gA,ng,gc,g,mA,nm,mc,m,some ad,nc,cc,c⟩:Bk).At w w.heap.size)(hd:-9223372036854775808≤days∧days≤9223372036854775807):CallsIn FF 0 prog 23 #[.agg #[int i64 days,int i64 most,.slice gA ng gc,.slice mA nm mc,.slice (some ad) nc cc]] w (gF (Bk.Ok ⟨days,most,gA,ng,gc,g,mA,nm,mc,m,some ad,nc,cc,c⟩) w):=by
 have Hh:=hid h
 have hnc:=h.nc
 simp only at hnc
 unfold maxLen at hnc
 have Ay:=h.ng
 clear h
 gi_enter func23,ntmps23
 gi_wp2_with (first
  | (gi_at_call 11;refine(nG _ _ _ _).mono ?_;rintro e w' ⟨rfl,rfl⟩)
  | (gi_at_call 49;refine(Lb _ ((Hh.out.alloc (Nat.le_refl _) _).more zs)).mono ?_;rintro e w1 ⟨l1,rfl,hl1,hb1⟩;obtain⟨hc1,hf1⟩:=fC hb1;have hs1:=hb1.size;have H1:=hid (((Hh.out.alloc (Nat.le_refl _) _).more zs).below hb1 |>.more hs1);have L1:=hid hl1;clear hl1;simp at hs1;have hlt1:w.heap.size<w1.heap.size:=hs1)
  | (gi_at_call 50;refine(LH _ H1.out hd).mono ?_;rintro e w2 ⟨l2,rfl,hl2,hb2⟩;obtain⟨hc2,hf2⟩:=fC hb2;have hs2:=hb2.size;have L2:=hid hl2;clear hl2))
 ·go_ret
  exact⟨1,rfl,(fun h=>absurd h zD),bw⟩
 ·go_ret
  exact⟨1,rfl,(fun h=>absurd h zD),bw⟩
 ·have hne:(l1 != 0)=true:=zt
  go_ret
  exact⟨l1,rfl,(fun h=>by rw[h] at hne;cases hne),((Below.refl _ _).alloc (Nat.le_refl _) _).trans (hb1.mono zs)⟩
 ·have hne:(l2 != 0)=true:=zt
  go_ret
  exact⟨l2,rfl,(fun h=>by rw[h] at hne;cases hne),(((Below.refl _ _).alloc (Nat.le_refl _) _).trans (hb1.mono zs)).trans (hb2.mono zo)⟩
 ·go_ret
  exact⟨2,rfl,(fun h=>absurd h zD),(((Below.refl _ _).alloc (Nat.le_refl _) _).trans (hb1.mono zs)).trans (hb2.mono zo)⟩
 have k1:fO days 1 99=true:=zt
 have k2:(!fO most 0 2)=false:=zt
 have k3:(l1 != 0)=false:=zt
 have k4:(l2 != 0)=false:=zt
 have k5:(nc:Int)≤4:=by assumption
 have Rt:∀o,w2.cell? ⟨w.heap.size,o,none⟩=(w.alloc (.cells #[int i64 days,int i64 most,.slice gA ng gc,.slice mA nm mc,.slice (some ad) nc cc] 26)).cell? ⟨w.heap.size,o,none⟩:=fun o=>(hb2.cell (p:=⟨w.heap.size,o,none⟩) hlt1).trans (hb1.cell (p:=⟨w.heap.size,o,none⟩) zs)
 have hB2:Below w.heap.size w w2:=(((Below.refl _ _).alloc (Nat.le_refl _) _).trans (hb1.mono zs)).trans (hb2.mono zo)
 have hsz2:w.heap.size<w2.heap.size:=zo
 have H2:=hid ((H1.out.below hb2).more hs2)
 clear hc1 hf1 hc2 hf2 H1 hb1 hb2 hs1 hs2 hlt1
 simp only[k4]
 gi_loopw [5] (fun i wr=>∃k:Nat,k≤nc∧i=int i64 k∧Below w2.heap.size w2 wr∧Hid (∀i,i<k→Ct.ok ⟨days,most,gA,ng,gc,g,mA,nm,mc,m,some ad,nc,cc,c⟩ (c i))) (fun i _=>nc - (intOf i).toNat)
 case atStart=>exact⟨0,Nat.zero_le _,rfl,Below.refl _ _,hid (fun j hj=>absurd hj (Nat.not_lt_zero j))⟩
 case round=>
  obtain⟨k,hk,rfl,hb,hN⟩:=hrel
  have hsz:w.heap.size<wr.heap.size:=by have:=hb.size;omega
  have kP:∀o,wr.cell? ⟨w.heap.size,o,none⟩=(w.alloc (.cells #[int i64 days,int i64 most,.slice gA ng gc,.slice mA nm mc,.slice (some ad) nc cc] 26)).cell? ⟨w.heap.size,o,none⟩:=fun o=>(hb.cell (p:=⟨w.heap.size,o,none⟩) hsz2).trans (Rt o)
  by_cases hlt:k<nc
  ·have hr:=((H2.out.below hb).c).row hlt
   have c0:wr.cell? (ad.add (k * 4))=some (int i64 (c k).good):=hr.2 0 zD
   have c1:wr.cell? ⟨(ad.add (k * 4)).block,(ad.add (k * 4)).off+1,none⟩=some (int i64 (c k).day):=hr.2 1 zD
   have c2:wr.cell? ⟨(ad.add (k * 4)).block,(ad.add (k * 4)).off+2,none⟩=some (int i64 (c k).lo):=hr.2 2 zD
   have c3:wr.cell? ⟨(ad.add (k * 4)).block,(ad.add (k * 4)).off+3,none⟩=some (int i64 (c k).hi):=hr.2 3 zD
   clear hr Rt
   gi_wp2
   gi_region_with (gi_at_call 51;refine(Vo (g:=g) (m:=m) (c:=c) k _ Ay).mono ?_;rintro e w3 ⟨l3,rfl,hl3,hb3⟩;have L3:=hid hl3;clear hl3)
   all_goals gi_wp2
   all_goals first
    | (have hne:(l3 != 0)=true:=by assumption
       go_ret
       exact⟨l3,rfl,(fun h=>by rw[h] at hne;cases hne),hB2.trans ((fZ (hb.mono zo)).trans (hb3.mono zm))⟩)
    | (have hz:(l3 != 0)=false:=by assumption
       go_roundw
       case rel=>exact⟨k+1,zo,by go_num,(fZ hb).trans (hb3.mono (by have:=hb.size;simpa using this)),hid (eF hN.out (L3.out (by simpa using hz)))⟩
       case measure=>simp[intOf];omega)
  ·obtain rfl:k=nc:=zo
   gi_wp2_with fail
   go_ret
   exact⟨0,rfl,(fun _=>⟨bF.1 k1,bF.1 (by simpa using k2),L1.out (by simpa using k3),L2.out (by simpa using k4),zn,hN.out⟩),hB2.trans (hb.mono zo)⟩
end
theorem MQ(b:Bk)(w:World)(h:b.At w w.heap.size)(hd:-9223372036854775808≤b.days∧b.days≤9223372036854775807):CallsIn FF 0 prog 23 #[b.val] w (gF b.Ok w):=by
 obtain⟨days,most,gA,ng,gc,g,mA,nm,mc,m,cA,nc,cc,c⟩:=b
 by_cases hn:nc=0
 ·subst hn
  exact IW w h hd
 ·obtain⟨ad,hA,_⟩:=h.c zn
  simp only at hA
  subst hA
  exact IX ad w h hd
def Ey(Q:Bool→Prop)(w:World)(e:Ending)(w':World):Prop:=∃t:Bool,e=.returned (.bool t)∧Q t∧Below w.heap.size w w'
section
variable{days most:Int}{gA mA cA:Option Addr}{ng gc nm mc nc cc:Nat}{g:Nat→Good}{m:Nat→Mv}{c:Nat→Ct}
theorem Nk(w:World)(h:(⟨days,most,gA,ng,gc,g,mA,nm,mc,m,cA,nc,cc,c⟩:Bk).At w w.heap.size):CallsIn FF 0 prog 22 #[.agg #[int i64 days,int i64 most,.slice gA ng gc,.slice mA nm mc,.slice cA nc cc]] w (Ey (fun _=>True) w):=by
 have Hh:=hid h
 have h1:=h.ng
 have h2:=h.nm
 have h3:=h.nc
 simp only at h1 h2 h3
 unfold maxLen at h1 h2 h3
 clear h
 gi_enter func22,ntmps22
 gi_wp2
 ·go_ret
  exact⟨true,rfl,trivial,bw⟩
 ·go_ret
  exact⟨true,rfl,trivial,bw⟩
 ·go_ret
  exact⟨true,rfl,trivial,bw⟩
 gi_loop [3] (fun i=>∃k:Nat,k≤ng∧i=int i64 k) (fun i=>ng - (intOf i).toNat)
 case atStart=>exact⟨0,Nat.zero_le _,rfl⟩
 case round=>
  obtain⟨k,hk,rfl⟩:=hrel
  by_cases hlt:k<ng
  ·obtain⟨ad,hA,hblk,hc⟩:=Hh.out.g (show 0<ng by omega)
   simp only at hA hc
   subst hA
   have hr:=(Hh.out.g.alloc (Nat.le_refl _) (.cells #[int i64 days,int i64 most,.slice (some ad) ng gc,.slice mA nm mc,.slice cA nc cc] 26)).row hlt
   have c0:(w.alloc (.cells #[int i64 days,int i64 most,.slice (some ad) ng gc,.slice mA nm mc,.slice cA nc cc] 26)).cell? (ad.add (k * 5))=some (.string (g k).name):=hr.2 0 zD
   have hnm:(g k).name.size≤maxLen:=Hh.out.name k hlt
   unfold maxLen at hnm
   clear hr hc
   gi_wp2
   ·go_ret
    exact⟨true,rfl,trivial,bw⟩
   ·go_round
    case rel=>exact⟨k+1,zo,by go_num⟩
    case measure=>simp[intOf];omega
  ·gi_wp2
   go_ret
   exact⟨false,rfl,trivial,bw⟩
theorem Vg(w:World)(h:(⟨days,most,gA,ng,gc,g,mA,nm,mc,m,cA,nc,cc,c⟩:Bk).At w w.heap.size)(hd:-9223372036854775808≤days∧days≤9223372036854775807):CallsIn FF 0 prog 23 #[.agg #[int i64 days,int i64 most,.slice gA ng gc,.slice mA nm mc,.slice cA nc cc]] w (gF (Bk.Ok ⟨days,most,gA,ng,gc,g,mA,nm,mc,m,cA,nc,cc,c⟩) w):=MQ _ w h hd
theorem Vt(w:World)(h:(⟨days,most,gA,ng,gc,g,mA,nm,mc,m,cA,nc,cc,c⟩:Bk).At w w.heap.size)(hd:-9223372036854775808≤days∧days≤9223372036854775807):CallsIn FF 0 prog 7 #[.agg #[int i64 days,int i64 most,.slice gA ng gc,.slice mA nm mc,.slice cA nc cc]] w
 (Ey (fun t=>t=true→Bk.Ok ⟨days,most,gA,ng,gc,g,mA,nm,mc,m,cA,nc,cc,c⟩) w):=by
 have Hh:=hid h
 clear h
 gi_enter func7,ntmps7
 gi_wp2_with (first
  | (gi_at_call 22;refine(Nk _ ((Hh.out.alloc (Nat.le_refl _) _).more zs)).mono ?_;rintro e w1 ⟨t1,rfl,_,hb1⟩;obtain⟨hc1,hf1⟩:=fC hb1;have hs1:=hb1.size;have H1:=hid (((Hh.out.alloc (Nat.le_refl _) _).more zs).below hb1 |>.more hs1);simp at hs1;have hlt1:w.heap.size<w1.heap.size:=hs1)
  | (gi_at_call 23;refine(Vg _ H1.out hd).mono ?_;rintro e w2 ⟨l2,rfl,hl2,hb2⟩;have L2:=hid hl2;clear hl2))
 ·go_ret
  exact⟨_,rfl,(fun h=>L2.out (by simpa using h)),(((Below.refl _ _).alloc (Nat.le_refl _) _).trans (hb1.mono zs)).trans (hb2.mono zo)⟩
 ·go_ret
  exact⟨_,rfl,(fun h=>by cases h),(((Below.refl _ _).alloc (Nat.le_refl _) _).trans (hb1.mono zs))⟩
end
def Ints(w:World)(B:Nat)(A:Option Addr)(n:Nat)(xs:Nat→Int):Prop:=Rows w B 1 A n (fun i _=>int i64 (xs i))
theorem Ints.at_{w:World}{B n:Nat}{ad:Addr}{xs:Nat→Int}(h:Ints w B (some ad) n xs){k:Nat}(hk:k<n):w.cell? (ad.add k)=some (int i64 (xs k)):=by
 have:=(Rows.row h hk).2 0 zD
 rwa[Nat.mul_one,add_zero'] at this
def hasB(n:Nat)(xs:Nat→Int)(v:Int):Bool:=decide (∃i,i<n∧xs i=v)
theorem s8(A:Option Addr)(n cap:Nat)(xs:Nat→Int)(v:Int)(B:Nat)(w:World)(h:Ints w B A n xs)(hn:n≤maxLen):
 CallsIn FF 0 prog 16 #[.slice A n cap,int i64 v] w fun e w'=>e=.returned (.bool (hasB n xs v))∧w=w':=by
 have Hh:=hid h
 clear h
 unfold maxLen at hn
 gi_enter func16,ntmps16
 gi_wp2
 gi_loop [5] (fun i=>∃k:Nat,k≤n∧i=int i64 k∧Hid (∀j,j<k→xs j≠v)) (fun i=>n - (intOf i).toNat)
 case atStart=>exact⟨0,Nat.zero_le _,rfl,hid (fun j hj=>absurd hj (Nat.not_lt_zero j))⟩
 case round=>
  obtain⟨k,hk,rfl,hN⟩:=hrel
  by_cases hlt:k<n
  ·obtain⟨ad,hA,-⟩:=Hh.out (show 0<n by omega)
   subst hA
   have c0:=Ints.at_ Hh.out hlt
   gi_wp2
   ·have he':(xs k == v)=true:=zt
    have he:xs k=v:=by simpa using he'
    go_ret
    exact⟨by rw[show hasB n xs v=true from decide_eq_true ⟨k,hlt,he⟩];rfl,rfl⟩
   ·have he':(xs k == v)=false:=zt
    have he:¬ xs k=v:=by simpa using he'
    go_round
    case rel=>exact⟨k+1,zo,by go_num,hid (eF hN.out he)⟩
    case measure=>simp[intOf];omega
  ·obtain rfl:k=n:=zo
   gi_wp2
   go_ret
   exact⟨by rw[show hasB k xs v=false from decide_eq_false (fun⟨i,hi,e⟩=>hN.out i hi e)];rfl,rfl⟩
theorem Tc(A A':Option Addr)(n cap cap':Nat)(xs:Nat→Int)(B:Nat)(w:World)(h:Ints w B A n xs)(h':Ints w B A' n xs)(hn:n≤maxLen):
 CallsIn FF 0 prog 68 #[.slice A n cap,.slice A' n cap'] w fun e w'=>e=.returned (.bool true)∧∃q,w'=w.drewN q:=by
 have Hh:=hid h
 have kn:=hid h'
 clear h h'
 unfold maxLen at hn
 gi_enter func68,ntmps68
 gi_wp2
 gi_loopw [5] (fun i wr=>∃k q:Nat,k≤n∧i=int i64 k∧wr=w.drewN q) (fun i _=>n - (intOf i).toNat)
 case atStart=>exact⟨0,0,Nat.zero_le _,rfl,rfl⟩
 case round=>
  obtain⟨k,q,hk,rfl,rfl⟩:=hrel
  by_cases hlt:k<n
  ·obtain⟨ad,hA,-⟩:=Hh.out (show 0<n by omega)
   obtain⟨Lt,hA',-⟩:=kn.out (show 0<n by omega)
   subst hA
   subst hA'
   have c0:=Ints.at_ Hh.out hlt
   have c0':=Ints.at_ kn.out hlt
   gi_wp2
   gi_quiet (fail)
   gi_wp2
   go_roundw
   case rel=>exact⟨k+1,_,zo,by go_num,rfl⟩
   case measure=>simp[intOf];omega
  ·obtain rfl:k=n:=zo
   gi_wp2
   go_ret
   exact⟨rfl,q,rfl⟩
def Lists(w:World)(B:Nat)(A:Option Addr)(n:Nat)(P:Nat→Option Addr)(len cap:Nat→Nat):Prop:=Rows w B 1 A n (fun i _=>.slice (P i) (len i) (cap i))
theorem Lists.at_{w:World}{B n:Nat}{ad:Addr}{P:Nat→Option Addr}{len cap:Nat→Nat}(h:Lists w B (some ad) n P len cap){k:Nat}(hk:k<n):w.cell? (ad.add k)=some (.slice (P k) (len k) (cap k)):=by
 have:=(Rows.row h hk).2 0 zD
 rwa[Nat.mul_one,add_zero'] at this
theorem NZ(A A':Option Addr)(n cap cap':Nat)(P P':Nat→Option Addr)(len c1 c2:Nat→Nat)(xs:Nat→Nat→Int)(B:Nat)(w:World)(h:Lists w B A n P len c1)(h':Lists w B A' n P' len c2)(hn:n≤maxLen)
 (hx:∀i,i<n→Ints w B (P i) (len i) (xs i))(hx':∀i,i<n→Ints w B (P' i) (len i) (xs i))(hl:∀i,i<n→len i≤maxLen):
 CallsIn FF 0 prog 32 #[.slice A n cap,.slice A' n cap'] w fun e w'=>e=.returned (.bool true)∧∃q,w'=w.drewN q:=by
 have Hh:=hid h
 have kn:=hid h'
 have Hx:=hid hx
 have TE:=hid hx'
 have Hl:=hid hl
 clear h h' hx hx' hl
 unfold maxLen at hn
 gi_enter func32,ntmps32
 gi_wp2
 gi_loopw [5] (fun i wr=>∃k:Nat,k≤n∧i=int i64 k∧Hid (∃q,wr=w.drewN q)) (fun i _=>n - (intOf i).toNat)
 case atStart=>exact⟨0,Nat.zero_le _,rfl,hid ⟨0,rfl⟩⟩
 case round=>
  obtain⟨k,hk,rfl,hq⟩:=hrel
  have hcl:∀p,wr.cell? p=w.cell? p:=fun p=>by obtain⟨q,rfl⟩:=hq.out;rfl
  by_cases hlt:k<n
  ·obtain⟨ad,hA,-⟩:=Hh.out (show 0<n by omega)
   obtain⟨Lt,hA',-⟩:=kn.out (show 0<n by omega)
   subst hA
   subst hA'
   have c0:=(hcl _).trans (Lists.at_ Hh.out hlt)
   have c0':=(hcl _).trans (Lists.at_ kn.out hlt)
   have hS:∀q2,CallsIn FF 0 prog 68 #[.slice (P k) (len k) (c1 k),.slice (P' k) (len k) (c2 k)] (wr.drewN q2) fun e w2=>e=.returned (.bool true)∧∃m,w2=(wr.drewN q2).drewN m:=fun q2=>
    Tc _ _ _ _ _ _ B _ ((Hx.out k hlt).keep fun p _=>hcl p) ((TE.out k hlt).keep fun p _=>hcl p) (Hl.out k hlt)
   clear hcl
   gi_wp2
   gi_quiet ((gi_at_call 68;exact CallsIn.quiet_of (hS _)))
   gi_wp2
   go_roundw
   case rel=>exact⟨k+1,zo,by go_num,hid (by obtain⟨q,rfl⟩:=hq.out;exact⟨_,World.drewN_drewN _ _ _⟩)⟩
   case measure=>simp[intOf];omega
  ·obtain rfl:k=n:=zo
   gi_wp2
   go_ret
   exact⟨rfl,hq.out⟩
end
section
open Go
section
variable{P:Program}{ops:Array Oper}{Q:Exit→Act→World→Prop}{md:Region.Mode}{S:World→Prop}{L:Nat}
def waits(md:Region.Mode)(ops:Array Oper)(L i:Nat):Bool:=match ops[L]? with
 | some o=>o.after.any fun e=>Region.binds md e && e.on == i
 | none=>false
theorem qy{i:Nat}{listed:Array Bool}(h:waits md ops L i=true)(hi:listed.getD i true=false):L∉Region.ready md ops listed:=fun hr=>by
 obtain⟨_,o,ho,hall⟩:=mem_ready.1 hr
 unfold waits at h
 rw[ho] at h
 obtain⟨k,hk,he⟩:=Array.any_eq_true.1 h
 simp only[Bool.and_eq_true,beq_iff_eq] at he
 have:=hall _ (Array.getElem_mem hk) he.1
 rw[he.2] at this
 rcases Nat.lt_or_ge i listed.size with h'|h'
 ·simp[h'] at hi this;rw[hi] at this;cases this
 ·simp[Array.getElem?_eq_none h'] at this
end
section
variable{F:Fence}{n:Nat}{P:Program}{ops:Array Oper}{Q:Exit→Act→World→Prop}{md:Region.Mode}{S:World→Prop}{L:Nat}
structure dP(P:Program)(ops:Array Oper)(S:World→Prop)(o:Oper)(v:Value)(a:Act):Prop where
 y:YieldsIf P ops S o v a
 quiet:∀w,o.about P w a.eval=none
theorem dP.wpOpIn{i:Nat}{o:Oper}{v:Value}{a:Act}(hro:F.round=none)(hi:ops[i]? =some o)(hy:dP P ops S o v a){K:Act→World→Prop}{w:World}(hS:S w)(h:K (a.put o.dst v) w):wpOpIn F n P ops Q i K a w:=by
 have hab:∀f,o.about P w a.eval=some f→F.fn f:=fun f hf=>by rw[hy.quiet w] at hf;cases hf
 unfold Go.wpOpIn
 simp only[hi]
 rcases hy.y with⟨hw,hv⟩|⟨hw,rfl⟩
 ·rw[if_pos hw]
  refine⟨hab,?_⟩
  rw[hro,Oper.semAt_none,hv w hS]
  exact h
 ·rw[if_neg (by rw[hw];simp)]
  exact⟨hab,h⟩
theorem OZ{o:Oper}{r:Result Next}{a b:Act}{K K':Act→World→Prop}(hv:∀u w,K (b.put o.dst u) w→K' (a.put o.dst u) w)(hd:∀d w,K (Act.put {b with defers:=d :: b.defers } o.dst undef) w→K' (Act.put {a with defers:=d :: a.defers } o.dst undef) w)
 (hQ:∀c w,Q (.panic c) b w→Q (.panic c) a w)(h:o.uponIn F n P b K Q r):o.uponIn F n P a K' Q r:=by
 have both:∀e w,(match (e:Ending),(w:World) with
  | .returned v,w=>K (b.put o.dst v) w
  | .panicked c,w=>Q (.panic c) b w
  | .outgrown,_=>LetsOut Q)→(match e,w with
  | .returned v,w=>K' (a.put o.dst v) w
  | .panicked c,w=>Q (.panic c) a w
  | .outgrown,_=>LetsOut Q):=fun e w h=>by
  cases e with
  | returned v=>exact hv v w h
  | panicked c=>exact hQ c w h
  | outgrown=>exact h
 cases r with
 | halt x w=>
   cases x with
   | panic v=>exact hQ _ w h
   | _=>exact h
 | ok x w=>
   cases x with
   | value v=>exact hv v w h
   | skip=>exact hv undef w h
   | defer d=>exact hd d w h
   | enter f args=>exact⟨h.1,h.2.mono both⟩
   | row r args=>exact⟨h.1,h.2.mono fun v w h=>hv v w h⟩
   | round l f t x y=>exact⟨h.1,h.2.mono both⟩
   | _=>exact h
theorem Ei(hro:F.round=none){j:Nat}{oi oj:Oper}{v:Value}(hj:ops[j]? =some oj)(hap:oi.apart ops oj=true)(hsi:∀cs b,oi.op≠.select cs b)(hsj:∀cs b,oj.op≠.select cs b)
 (hQ:∀c a w,Q (.panic c) (a.put oi.dst v) w→Q (.panic c) a w){K:Act→World→Prop}{a:Act}{w:World}(hy:dP P ops S oi v a)(h:wpOpIn F n P ops Q j K (a.put oi.dst v) w):
 wpOpIn F n P ops Q j (fun a' w'=>dP P ops S oi v a'∧K (a'.put oi.dst v) w') a w:=by
 obtain⟨h1,h2,h3⟩:=Oper.apart_spec hap
 have still:∀ (b:Act),dP P ops S oi v b→∀u,dP P ops S oi v (b.put oj.dst u):=fun b hb u=>
  ⟨hb.y.of_same (execOp_put oi hsi b oj.dst u h3) (wanted_put oi b oj.dst u h3),fun w=>(about_put oi w b oj.dst u h3).trans (hb.quiet w)⟩
 unfold wpOpIn at h⊢
 simp only[hj] at h⊢
 rw[wanted_put oj a oi.dst v h1,about_put oj w a oi.dst v h1] at h
 by_cases hw:Region.wanted oj (yielded ops a.tmps)=true
 ·rw[if_pos hw] at h⊢
  obtain⟨h4,h5⟩:=h
  refine⟨by rw[about_put oj w a oi.dst v h1] at h4;exact h4,?_⟩
  rw[hro,Oper.semAt_none] at h5⊢
  rw[execOp_put oj hsj a oi.dst v h1] at h5
  refine OZ (fun u w' hk=>⟨still a hy u,?_⟩) (fun d w' hk=>⟨still {a with defers:=d :: a.defers } ⟨hy.y.of_same rfl rfl,hy.quiet⟩ undef,?_⟩) (fun c w' hq=>hQ c a w' hq) h5
  ·rw[← Act.put_comm a v u h2];exact hk
  ·rw[← Act.put_comm _ v undef h2,← Act.put_defers];exact hk
 ·rw[if_neg hw] at h⊢
  exact⟨h.1,still a hy _,by rw[← Act.put_comm a v undef h2];exact h.2⟩
def aZ(F:Fence)(n:Nat)(P:Program)(md:Region.Mode)(ops:Array Oper)(Q:Exit→Act→World→Prop)(S:World→Prop)(L:Nat):Nat→Array Bool→Act→World→Prop
 | 0,listed,a,w=>Region.ready md ops listed=[]∧Q .normal a w
 | fuel+1,listed,a,w=>
   (Region.ready md ops listed=[]→Q .normal a w)∧
   ∀i∈Region.ready md ops listed,wpOpIn F n P ops Q i (fun a' w'=>(i≠L→S w')∧aZ F n P md ops Q S L fuel (listed.setIfInBounds i true) a' w') a w
theorem mR:∀ (fuel:Nat) (listed:Array Bool) (a:Act) (w:World),aZ F n P md ops Q S L fuel listed a w→wpAnyIn F n P md ops Q fuel listed a w
 | 0,_,_,_,h=>h
 | fuel+1,_,_,_,h=>⟨h.1,fun i hi=>wpOpIn_mono (fun a' w' h'=>mR fuel _ a' w' h'.2) (h.2 i hi)⟩
theorem xV{i:Nat}{oi:Oper}{v:Value}(hro:F.round=none)(hi:ops[i]? =some oi)(hsel:∀ (j:Nat) (o:Oper) cs b,ops[j]? =some o→o.op≠.select cs b)
 (hQ:∀c a w,Q (.panic c) (a.put oi.dst v) w→Q (.panic c) a w)(hL:waits md ops L i=true):
 ∀ (fuel:Nat) (listed:Array Bool) (a:Act) (w:World),
   (∀j oj,ops[j]? =some oj→j≠i→listed.getD j true=false→(∀e∈oj.after,Region.binds md e=true→e.on≠i)→oi.apart ops oj=true)→
   i∈Region.ready md ops listed→dP P ops S oi v a→S w→
   aZ F n P md ops Q S L fuel (listed.setIfInBounds i true) (a.put oi.dst v) w→aZ F n P md ops Q S L (fuel+1) listed a w:=by
 intro fuel
 induction fuel with
 | zero=>
   intro listed a w _ hr hy hS H
   refine⟨fun h=>(by rw[h] at hr;cases hr),fun j hj=>?_⟩
   by_cases hji:j=i
   ·subst hji;exact hy.wpOpIn hro hi hS ⟨fun _=>hS,H⟩
   ·have:=ready_mono hj hji
    rw[H.1] at this
    cases this
 | succ fuel ih=>
   intro listed a w hfree hr hy hS H
   refine⟨fun h=>(by rw[h] at hr;cases hr),fun j hj=>?_⟩
   by_cases hji:j=i
   ·subst hji;exact hy.wpOpIn hro hi hS ⟨fun _=>hS,H⟩
   ·have ZS:j≠L:=fun e=>qy hL (mem_ready.1 hr).1 (e ▸ hj)
    have h1:=H.2 j (ready_mono hj hji)
    obtain⟨hjun,oj,hoj,hall⟩:=mem_ready.1 hj
    have hnot:∀e∈oj.after,Region.binds md e=true→e.on≠i:=fun e he hb heq=>by
     have h1:=hall e he hb
     have h0:=(mem_ready.1 hr).1
     rw[heq] at h1
     rcases Nat.lt_or_ge i listed.size with h'|h'
     ·simp[h'] at h0 h1;rw[h0] at h1;cases h1
     ·simp[Array.getElem?_eq_none h'] at h1
    have h2:=Ei hro hoj (hfree j oj hoj hji hjun hnot) (fun cs b=>hsel i oi cs b hi) (fun cs b=>hsel j oj cs b hoj) hQ hy h1
    have hfree':∀k ok,ops[k]? =some ok→k≠i→(listed.setIfInBounds j true).getD k true=false→
     (∀e∈ok.after,Region.binds md e=true→e.on≠i)→oi.apart ops ok=true:=fun k ok hk hki hun hno=>by
     refine hfree k ok hk hki ?_ hno
     by_cases hjk:j=k
     ·subst hjk;exact hjun
     ·rw[getD_set_ne true hjk] at hun;exact hun
    refine wpOpIn_mono (fun a' w' h3=>⟨h3.2.1,ih (listed.setIfInBounds j true) a' w' hfree' (ready_mono hr (Ne.symm hji)) h3.1 (h3.2.1 ZS) ?_⟩) h2
    rw[Array.setIfInBounds_comm _ _ hji]
    exact h3.2.2
theorem yZ{i:Nat}{oi:Oper}{v:Value}{fuel:Nat}{listed:Array Bool}{a:Act}{w:World}(hro:F.round=none)(hi:ops[i]? =some oi)
 (hs:Region.noSelect ops=true)(hf:Region.free md ops listed i=true)(hr:(Region.ready md ops listed).contains i=true)(hL:waits md ops L i=true)
 (hQ:∀c a w,Q (.panic c) (a.put oi.dst v) w→Q (.panic c) a w)(hy:dP P ops S oi v a)(hS:S w)
 (h:aZ F n P md ops Q S L fuel (listed.setIfInBounds i true) (a.put oi.dst v) w):aZ F n P md ops Q S L (fuel+1) listed a w:=
 xV hro hi (Region.noSelect_spec hs) hQ hL fuel listed a w (Region.free_spec hi hf) (by simpa using hr) hy hS h
theorem xW{i:Nat}(d:Option Tmp){oi:Oper}{v:Value}{fuel:Nat}{listed:Array Bool}{a:Act}{w:World}(hro:F.round=none)(hi:ops[i]? =some oi)
 (hs:Region.noSelect ops=true)(hf:Region.free md ops listed i=true)(hr:(Region.ready md ops listed).contains i=true)(hL:waits md ops L i=true)(hd:oi.dst=d)
 (hQ:∀c a w,Q (.panic c) (a.put d v) w→Q (.panic c) a w)(hy:dP P ops S oi v a)(hS:S w)
 (h:aZ F n P md ops Q S L fuel (listed.setIfInBounds i true) (a.put d v) w):aZ F n P md ops Q S L (fuel+1) listed a w:=by
 subst hd
 exact yZ hro hi hs hf hr hL hQ hy hS h
theorem yX{i:Nat}(d:Option Tmp){oi:Oper}{v:Value}{fuel:Nat}{listed:Array Bool}{a:Act}{w:World}(hS:S w)(h:aZ F n P md ops Q S L fuel (listed.setIfInBounds i true) (a.put d v) w)
 (hro:F.round=none:=by exact rfl)(hi:ops[i]? =some oi:=by exact rfl)(hs:Region.noSelect ops=true:=by kernel_rfl)(hf:Region.free md ops listed i=true:=by kernel_rfl)
 (hr:(Region.ready md ops listed).contains i=true:=by kernel_rfl)(hL:waits md ops L i=true:=by kernel_rfl)(hd:oi.dst=d:=by rfl)(hQ:∀c a w,Q (.panic c) (a.put d v) w→Q (.panic c) a w:=by exact fun _ _ _ h=>h)
 (hy:dP P ops S oi v a:=by exact⟨Or.inl ⟨zr,by intro wq We;(try dsimp only at We);go_simp;all_goals with_reducible rfl⟩,fun _=>rfl⟩):aZ F n P md ops Q S L (fuel+1) listed a w:=
 xW d hro hi hs hf hr hL hd hQ hy hS h
theorem aY(i:Nat){o:Oper}{fuel:Nat}{listed:Array Bool}{a:Act}{w:World}
 (h:∀K':Act→World→Prop,Shut (∀a w,(i≠L→S w)→aZ F n P md ops Q S L fuel (listed.setIfInBounds i true) a w→K' a w)→if Region.wanted o (yielded ops a.tmps)=true then Oper.wpIn F n P o a w K' Q else(∀f,o.about P w a.eval=some f→F.fn f)∧K' (a.put o.dst undef) w)(hr:Region.ready md ops listed=[i]:=by kernel_rfl)(ho:ops[i]? =some o:=by exact rfl):
 aZ F n P md ops Q S L (fuel+1) listed a w:=by
 refine⟨(fun h0=>by rw[hr] at h0;cases h0),fun j hj=>?_⟩
 rw[hr] at hj
 obtain rfl:j=i:=by simpa using hj
 exact wpOpIn_step ho fun K' hK=>h K' fun a w hS hW=>hK a w ⟨hS,hW⟩
theorem aG{listed:Array Bool}{a:Act}{w:World}(hr:Region.ready md ops listed=[])(h:Q .normal a w):∀fuel,aZ F n P md ops Q S L fuel listed a w
 | 0=>⟨hr,h⟩
 | _+1=>⟨fun _=>h,by rw[hr];simp⟩
theorem iK{id:Nat}{a:Act}{w:World}(L:Nat)(S:World→Prop)(hm:P.follows .mixedOrders=true)
 (h:aZ F n P .any ops Q S L ops.size (Array.replicate ops.size false) a w.drew):(Code.region id ops true).wpIn F n P Q a w:=
 wpIn_region_any hm (mR _ _ _ _ h)
theorem oL{o:Oper}{b:Builtin}{args:Array Operand}{ts:Array TypeId}(ho:o.op=.call {callee:=.builtin b,args,argTypes:=ts })(ρ:Operand→Value)(w:World):o.about P w ρ=none:=by
 unfold Oper.about
 rw[ho]
 rfl
theorem CG{o:Oper}{args:Array Operand}{ts:Array TypeId}(ho:o.op=.call {callee:=.builtin .append,args,argTypes:=ts })(ρ:Operand→Value)(w:World):∀x w',(execOp ρ o).run P w=.ok x w'→∃v,x=.value v:=by
 intro x w' h
 have e:execOp ρ o=(Builtin.append_ ts o.type (args.map ρ)) >>= fun v=>pure (.value v):=by unfold execOp;rw[ho];rfl
 rw[e,Sem.run_bind] at h
 cases hr:(Builtin.append_ ts o.type (args.map ρ)).run P w with
 | ok v w1=>rw[hr] at h;cases h;exact⟨v,rfl⟩
 | halt y w1=>rw[hr] at h;cases h
theorem q8{o:Oper}{args:Array Operand}{ts:Array TypeId}(hro:F.round=none)(ho:o.op=.call {callee:=.builtin .append,args,argTypes:=ts }){a:Act}{w:World}{K:Act→World→Prop}(h:o.wp P a w K Q):o.wpIn F n P a w K Q:=by
 refine⟨fun f hf=>(by rw[oL ho] at hf;cases hf),?_⟩
 have hv:=CG (P:=P) ho a.eval w
 unfold Oper.wp at h
 rw[hro,Oper.semAt_none]
 generalize (execOp a.eval o).run P w=r at h hv
 cases r with
 | ok x w'=>
   obtain⟨v,rfl⟩:=hv x w' rfl
   exact h
 | halt x w'=>cases x <;> exact h
theorem uL{o:Oper}{args:Array Operand}{ts:Array TypeId}(hro:F.round=none)(ho:o.op=.call {callee:=.builtin .append,args,argTypes:=ts }){a:Act}{w:World}{K:Act→World→Prop}{E E':Prop}(hg:o.guard=none)
 (h:if Region.wanted o (yielded ops a.tmps)=true then Oper.wp P o a w K Q else E):if Region.wanted o (yielded ops a.tmps)=true then Oper.wpIn F n P o a w K Q else E':=by
 have hw:Region.wanted o (yielded ops a.tmps)=true:=by simp[Region.wanted,hg]
 rw[if_pos hw] at h⊢
 exact q8 hro ho h
theorem aF{o:Oper}{rest:List Oper}{args:Array Operand}{ts:Array TypeId}(hro:F.round=none)(hg:o.guard=none)(ho:o.op=.call {callee:=.builtin .append,args,argTypes:=ts }){a:Act}{w:World}
 (h:∀K:Act→World→Prop,(∀a w,wpListIn F n P ops Q rest a w→K a w)→o.wp P a w K Q):wpListIn F n P ops Q (o :: rest) a w:=
 wpListIn_plain hg fun K hK=>q8 hro ho (h K hK)
end
end
section
open Go.RowKit
def pick(n:Nat)(xs:Nat→Int)(k:Nat):Int:=if k<n then xs k else 0
theorem info3:(Tryz.prog.info? 3).map (fun i=>(i.zero,i.size,i.bytes))=some (some (int i64 0),1,8):=zk
structure vG(b:Bk)(l1 l2 l3:List Int):Prop where
 n1:l1.length=b.ng
 n2:l2.length=b.nm
 b1:∀x∈l1,0≤x∧x≤99
 b2:∀x∈l2,0≤x∧x≤99
 up:l3.Pairwise (· < ·)
 came:∀x∈l3,∃i:Nat,x=i∧i<b.nm∧(b.m i).kind=0
section
variable{w wr w1 w2:World}{bx:Array Value}{v1 v2 v3:Value}{l1 l2 l3:List Int}{x:Int}{o:Obj}{gg cap:Nat}
end
section
variable{days most:Int}{gA mA cA:Option Addr}{ng gc nm mc nc cc:Nat}{g:Nat→Good}{m:Nat→Mv}{c:Nat→Ct}
end
end
def xr(b:Bk)(l2:List Int)(g:Nat)(i:Nat):Int:=if (b.m i).good=g then(if (b.m i).kind=0∨(b.m i).kind=4 then l2.getD i 0 else - l2.getD i 0) else 0
open Classical in
noncomputable def vw(b:Bk)(l1 l2 l3:List Int)(g:Nat)(d:Int):Int:=l1.getD g 0+((List.range b.nm).map fun i=>if (b.m i).day≤d∧¬ (i:Int)∈l3 then xr b l2 g i else 0).sum
noncomputable def Dq(b:Bk)(l1 l2 l3:List Int)(g:Nat):Int:=vw b l1 l2 l3 g b.days
noncomputable def LG(b:Bk)(l1 l2 l3:List Int)(g:Nat):Int:=(List.range (b.days.toNat+1)).foldl (fun x (d:Nat)=>min x (vw b l1 l2 l3 g d)) (l1.getD g 0)
section
open Classical
noncomputable def kept(l3:List Int)(k:Nat):List Nat:=(List.range k).filter fun i=>decide (¬ (i:Int)∈l3)
noncomputable def Bk.without(b:Bk)(l3:List Int)(mA':Option Addr)(mc':Nat):Bk:={b with mA:=mA',nm:=(kept l3 b.nm).length,mc:=mc',m:=fun j=>b.m ((kept l3 b.nm).getD j 0),cA:=none,nc:=0,cc:=0 }
noncomputable def FR(l2 l3:List Int)(k:Nat):List Int:=(kept l3 k).map fun i=>l2.getD i 0
end
section
open Go
def iW(P:Program)(Stop:List Code→Act→World→Prop)(l:List Code)(a:Act)(w:World):Prop:=
 ∀ (b:Frame) (k:List Item) (cs:List Frame),b.roundOf=none→FF.fn b.fn→∃l' a' w',Stop l' a' w'∧StepsIn (Machine.fenced P FF) P (lone (b.atR a (l.map Item.code ++ k)) cs w) (lone (b.atR a' (l'.map Item.code ++ k)) cs w')
section
variable{P:Program}{Stop:List Code→Act→World→Prop}{l:List Code}{a:Act}{w:World}{x y:Code}
theorem iW.of_steps{l':List Code}{a':Act}{w':World}(hs:∀ (b:Frame) (k:List Item) (cs:List Frame),b.roundOf=none→FF.fn b.fn→StepsIn (Machine.fenced P FF) P (lone (b.atR a (l.map Item.code ++ k)) cs w) (lone (b.atR a' (l'.map Item.code ++ k)) cs w'))
 (h:iW P Stop l' a' w'):iW P Stop l a w:=fun b k cs hb hf=>by
 obtain⟨l2,a2,w2,h1,h2⟩:=h b k cs hb hf
 exact⟨l2,a2,w2,h1,(hs b k cs hb hf).trans h2⟩
theorem iW.cond{c:Operand}{t:Bool}(hc:a.eval c=.bool t)(h:iW P Stop ((if t then x else y) :: l) a w):iW P Stop (.cond c x y :: l) a w:=.of_steps (fun _ _ _ _ hf=>.head (fenced_calm (n:=0) hf (bJ _) rfl) (stepR_cond hc) (.refl _)) h
theorem iW.cond_true{c:Operand}(hc:a.eval c=.bool true)(h:iW P Stop (x :: l) a w):iW P Stop (.cond c x y :: l) a w:=.cond hc h
theorem iW.cond_false{c:Operand}(hc:a.eval c=.bool false)(h:iW P Stop (y :: l) a w):iW P Stop (.cond c x y :: l) a w:=.cond hc h
end
section
variable{P:Program}{ops:Array Oper}{Q:Exit→Act→World→Prop}{md:Region.Mode}{S:World→Prop}{E:List Nat}
def before(md:Region.Mode)(ops:Array Oper):Nat→Nat→Nat→Bool
 | 0,_,_=>false
 | n+1,L,i=>match ops[L]? with
   | some o=>o.after.any fun e=>Region.binds md e && (e.on == i || before md ops n e.on i)
   | none=>false
end
section
variable{F:Fence}{n0:Nat}{P:Program}{ops:Array Oper}{Q:Exit→Act→World→Prop}{md:Region.Mode}{S:World→Prop}{E:List Nat}
end
end
section
open Go.RowKit
def Mv.flat(x:Mv):List Value:=[int i64 x.kind,int i64 x.good,int i64 x.day,int i64 x.lo,int i64 x.hi]
structure tF(b:Bk)(l2 l3:List Int)(X:Nat)(wx wl:World)(vB vM mv:Value)(k1 k2:Nat):Prop where
 box:Whole wl X 26 #[int i64 b.days,int i64 b.most,.slice b.gA b.ng b.gc,vB,.slice none 0 0]
 rM:wl.ownsRow (X+1) 52 5 vM (kept l3 k1).length ((kept l3 k1).flatMap fun i=>(b.m i).flat)
 rI:wl.ownsRow (X+1) 3 1 mv (kept l3 k2).length ((FR l2 l3 k2).map (int i64))
 d:∀g,vM.ownBlock=some g→mv.ownBlock≠some g
 below:Below X wx wl
section
variable{b:Bk}{l2 l3:List Int}{X:Nat}{wx wl w':World}{vB vM mv:Value}{k k1 k2 gg cap:Nat}
theorem tF.alloc(h:tF b l2 l3 X wx wl vB vM mv k1 k2)(o:Obj):tF b l2 l3 X wx (wl.alloc o) vB vM mv k1 k2:=
 ⟨h.box.alloc o,aX h.rM o,aX h.rI o,h.d,h.below.alloc (Nat.le_of_lt h.box.lt) o⟩
theorem tF.start(b:Bk)(l2 l3:List Int){X:Nat}{w1 wx:World}(hb:Below X w1 wx)(kP:Whole wx X 26 #[int i64 b.days,int i64 b.most,.slice b.gA b.ng b.gc,.slice none 0 0,.slice none 0 0]):
 tF b l2 l3 X w1 wx (.slice none 0 0) (.slice none 0 0) (.slice none 0 0) 0 0:=
 ⟨kP,⟨by simp[kept],.inl ⟨rfl,by simp[kept]⟩⟩,⟨by simp[kept,FR],.inl ⟨rfl,by simp[kept]⟩⟩,fun g e=>(by cases e),hb⟩
theorem tF.store(h:tF b l2 l3 X wx wl vB vM mv k1 k2):tF b l2 l3 X wx (wl.setCell ⟨X,3,none⟩ vM) vM vM mv k1 k2:=
 ⟨by simpa using h.box.set 3 vM,jk h.rM (by show X<X+1;omega) _,jk h.rI (by show X<X+1;omega) _,h.d,h.below.setCell (by show X≤X;omega) _⟩
end
def Ev(b:Bk)(l1 l2 l3:List Int)(w:World)(e:Ending)(w':World):Prop:=∃A p A' p',e=.returned (.tuple #[.slice A b.ng p,.slice A' b.ng p',int i64 0])∧
 Ints w' w'.heap.size A b.ng (fun i=>Dq b l1 l2 l3 i)∧Ints w' w'.heap.size A' b.ng (fun i=>LG b l1 l2 l3 i)∧Below w.heap.size w w'
def UR:Prop:=∀ (b:Bk) (l1 l2 l3:List Int) (w:World),b.Ok→b.ng≤b.gc→vG b l1 l2 l3→b.At w w.heap.size→∀ (A1 A2 A3:Option Addr) (p1 p2 p3:Nat),
 Ints w w.heap.size A1 l1.length (fun i=>l1.getD i 0)→Ints w w.heap.size A2 l2.length (fun i=>l2.getD i 0)→Ints w w.heap.size A3 l3.length (fun i=>l3.getD i 0)→
 CallsIn FF 0 prog 25 #[b.val,.slice A1 l1.length p1,.slice A2 l2.length p2,.slice A3 l3.length p3] w (Ev b l1 l2 l3 w)
theorem dw{w:World}{base:Nat}{e:TypeId}{A:Option Addr}{c:Nat}{l:List Int}(h:w.ownsRow base e 1 (.slice A l.length c) l.length (l.map (int i64))):Ints w w.heap.size A l.length (fun i=>l.getD i 0):=fun hn=>by
 obtain⟨g,cap,hv,_,hlt⟩:=h.form hn
 have hA:A=some ⟨g,0,none⟩:=by injection hv
 subst hA
 refine⟨_,rfl,hlt,fun i j hi hj=>?_⟩
 obtain rfl:j=0:=zo
 have:=h.cells (g:=g) rfl i (int i64 (l.getD i 0)) (by simp[hi])
 simpa [Addr.add] using this
section
variable{days most:Int}{gA mA cA:Option Addr}{ng gc nm mc nc cc:Nat}{g:Nat→Good}{m:Nat→Mv}{c:Nat→Ct}
end
section
variable{days most:Int}{gA mA cA:Option Addr}{ng gc nm mc nc cc:Nat}{g:Nat→Good}{m:Nat→Mv}{c:Nat→Ct}
end
end
end Go.Proofs.YthaelabgfnnebaaGreat
