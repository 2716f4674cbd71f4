/- P5 P6 P7a Qt W0 WP1 WP7 P7 Scope -/
import Derived.Test.YthaelabgfnnebaaGreatA3
import Derived.Lib.RabinKarpLaws
import Derived.StillTail
import Derived.Lib.QuietBelowIn
import Derived.Scope
set_option maxRecDepth 100000
set_option maxHeartbeats 16000000
set_option linter.unusedVariables false
set_option linter.unusedSectionVars false
open Go.IntKind(i64)
open Go.Lib(hid)
open Go.Proofs.Tryz
open Go.Value(int)
namespace Go.Proofs.YthaelabgfnnebaaGreat
section
open Go.RowKit
@[go_sem] theorem Px (P:Program) (w:World) (a:Addr) (m:Mode) (f:Fn) (x y:Array Value):Sem.run P (store a (.func f x y) m) w=stored P w a (.func f x y) m:=run_store P w a _ m rfl
def AB:Array Value:=#[.func (.func 153) #[] #[],.func (.func 154) #[] #[],.func (.func 155) #[] #[],.func (.func 156) #[] #[],.func (.func 157) #[] #[],.func (.func 158) #[] #[]]
theorem Vs(b:Bk)(B:Nat)(w:World)(h:b.At w w.heap.size)(ok:b.Ok)(hcap:b.ng≤b.gc)(hB:B<w.heap.size)(hl:∀o,w.cell? ⟨B,o,none⟩=AB[o]?):
 CallsIn FF 0 prog 122 #[b.val,.slice (some ⟨B,0,none⟩) 3 3] w fun e w'=>e=.returned (int i64 0)∧Below w.heap.size w w':=by
 obtain⟨days,most,gA,ng,gc,g,mA,nm,mc,m,cA,nc,cc,c⟩:=b
 obtain⟨-,-,gC,OF,jc⟩:=ok
 simp only[Bk.val,Bk.cells]
 simp only at hcap jc
 have Hh:=hid h
 have Og:=hid gC
 have Om:=hid OF
 have Oc:=hid jc
 clear h gC OF jc
 gi_enter func122,ntmps122
 gi_wp2
 gi_loopw [13] (fun i wr=>∃k:Nat,k≤3∧i=int i64 k∧Below (w.heap.size+1) (w.alloc (.cells #[int i64 days,int i64 most,.slice gA ng gc,.slice mA nm mc,.slice cA nc cc] 74)) wr) (fun i _=>3 - (intOf i).toNat)
 case atStart=>exact⟨0,zo,rfl,Below.refl _ _⟩
 case round=>
  obtain⟨k,hk,rfl,hb⟩:=hrel
  have hsz:w.heap.size+1≤wr.heap.size:=by have:=hb.size;simpa using this
  have kP:∀o,wr.cell? ⟨w.heap.size,o,none⟩=(w.alloc (.cells #[int i64 days,int i64 most,.slice gA ng gc,.slice mA nm mc,.slice cA nc cc] 74)).cell? ⟨w.heap.size,o,none⟩:=fun o=>hb.cell (p:=⟨w.heap.size,o,none⟩) zs
  have hls:∀o,wr.cell? ⟨B,o,none⟩=AB[o]?:=fun o=>((hb.cell (p:=⟨B,o,none⟩) zm).trans (World.cell?_alloc_lt w _ _ zm)).trans (hl o)
  have hat:Hid ((⟨days,most,gA,ng,gc,g,mA,nm,mc,m,cA,nc,cc,c⟩:Bk).At wr (w.heap.size+1)):=hid (((Hh.out.alloc (Nat.le_refl _) _).more (Nat.le_succ _)).below hb)
  have VF:w.heap.size<wr.heap.size:=hsz
  by_cases hlt:k<3
  ·rcases(show k=0∨k=1∨k=2 by omega) with rfl|rfl|rfl
   ·have l0:wr.cell? ⟨B,0,none⟩=some (.func (.func 153) #[] #[]):=hls 0
    have l1:wr.cell? ⟨B,1,none⟩=some (.func (.func 154) #[] #[]):=hls 1
    clear hls
    obtain⟨wo,rfl⟩:∃wo:World,wo=wr:=⟨_,rfl⟩
    have hL:∀w,CallsIn FF 0 prog 153 #[.agg #[int i64 days,int i64 most,.slice gA ng gc,.slice mA nm mc,.slice cA nc cc]] w fun e w'=>e=.returned (.tuple #[int i64 ng,.bool true])∧Below w.heap.size w w':=fun w=>FY ⟨days,most,gA,ng,gc,g,mA,nm,mc,m,cA,nc,cc,c⟩ w Og.out.1
    gi_wp2_with (gi_at_call 153;refine(hL _).mono ?_;rintro e w2 ⟨rfl,hb2⟩;obtain⟨hc2,hf2⟩:=fC hb2;have hs2:wo.heap.size<w2.heap.size:=by have:=hb2.size;simp at this;omega)
    have wD:∀o,w2.cell? ⟨w.heap.size,o,none⟩=(w.alloc (.cells #[int i64 days,int i64 most,.slice gA ng gc,.slice mA nm mc,.slice cA nc cc] 74)).cell? ⟨w.heap.size,o,none⟩:=fun o=>((hc2 _ o zm).trans (World.cell?_alloc_lt _ _ _ zm)).trans (kP o)
    have Rw:w2.cell? ⟨wo.heap.size,1,none⟩=some (.func (.func 154) #[] #[]):=(hc2 _ 1 zs).trans zs
    have Jk:Hid ((⟨days,most,gA,ng,gc,g,mA,nm,mc,m,cA,nc,cc,c⟩:Bk).At w2 (w.heap.size+1)):=hid ((hat.out.alloc hsz _).below (hb2.mono zm))
    have hB2:Below (w.heap.size+1) wo w2:=((Below.refl _ _).alloc hsz _).trans (hb2.mono zm)
    clear hc2 hf2 kP l0 l1 hL
    have hnn:ng≤2 ^ 63 - 1:=Hh.out.ng
    gi_loopw [27] (fun j wj=>∃q:Nat,q≤ng∧j=int i64 q∧Below w2.heap.size w2 wj) (fun j _=>ng - (intOf j).toNat)
    case atStart=>exact⟨0,Nat.zero_le _,rfl,Below.refl _ _⟩
    case round=>
     obtain⟨q,hq,rfl,hbj⟩:=hrel
     have hs:=hbj.size
     have hx:∀o,wr.cell? ⟨w.heap.size,o,none⟩=(w.alloc (.cells #[int i64 days,int i64 most,.slice gA ng gc,.slice mA nm mc,.slice cA nc cc] 74)).cell? ⟨w.heap.size,o,none⟩:=fun o=>(hbj.cell (p:=⟨w.heap.size,o,none⟩) zm).trans (wD o)
     have hf:wr.cell? ⟨wo.heap.size,1,none⟩=some (.func (.func 154) #[] #[]):=(hbj.cell (p:=⟨wo.heap.size,1,none⟩) zm).trans Rw
     have hlt1:w.heap.size<wr.heap.size:=zo
     have hlt2:wo.heap.size<wr.heap.size:=zo
     by_cases hq2:q<ng
     ·have hC:CallsIn FF 0 prog 154 #[.agg #[int i64 days,int i64 most,.slice gA ng gc,.slice mA nm mc,.slice cA nc cc],int i64 q] wr fun e w'=>e=.returned (int i64 0)∧Below wr.heap.size wr w':=EL ⟨days,most,gA,ng,gc,g,mA,nm,mc,m,cA,nc,cc,c⟩ q wr ((Jk.out.below (hbj.mono zo)).more zo) hq2 hcap (Og.out.2 q hq2)
      gi_wp2_with (gi_at_call 154;refine hC.mono ?_;rintro e w3 ⟨rfl,hb3⟩)
      go_roundw
      case rel=>exact⟨q+1,zo,by go_num,hbj.trans (hb3.mono hs)⟩
      case measure=>simp[intOf];omega
     ·obtain rfl:q=ng:=zo
      gi_wp2
      go_roundw
      case rel=>exact⟨0+1,zo,by go_num,(hb.trans hB2).trans (hbj.mono zo)⟩
      case measure=>simp[intOf]
   ·have l0:wr.cell? ⟨B,2,none⟩=some (.func (.func 155) #[] #[]):=hls 2
    have l1:wr.cell? ⟨B,3,none⟩=some (.func (.func 156) #[] #[]):=hls 3
    clear hls
    obtain⟨wo,rfl⟩:∃wo:World,wo=wr:=⟨_,rfl⟩
    have hL:∀w,CallsIn FF 0 prog 155 #[.agg #[int i64 days,int i64 most,.slice gA ng gc,.slice mA nm mc,.slice cA nc cc]] w fun e w'=>e=.returned (.tuple #[int i64 nm,.bool true])∧Below w.heap.size w w':=fun w=>FZ ⟨days,most,gA,ng,gc,g,mA,nm,mc,m,cA,nc,cc,c⟩ w Om.out.1
    gi_wp2_with (gi_at_call 155;refine(hL _).mono ?_;rintro e w2 ⟨rfl,hb2⟩;obtain⟨hc2,hf2⟩:=fC hb2;have hs2:wo.heap.size<w2.heap.size:=by have:=hb2.size;simp at this;omega)
    have wD:∀o,w2.cell? ⟨w.heap.size,o,none⟩=(w.alloc (.cells #[int i64 days,int i64 most,.slice gA ng gc,.slice mA nm mc,.slice cA nc cc] 74)).cell? ⟨w.heap.size,o,none⟩:=fun o=>((hc2 _ o zm).trans (World.cell?_alloc_lt _ _ _ zm)).trans (kP o)
    have Rw:w2.cell? ⟨wo.heap.size,1,none⟩=some (.func (.func 156) #[] #[]):=(hc2 _ 1 zs).trans zs
    have Jk:Hid ((⟨days,most,gA,ng,gc,g,mA,nm,mc,m,cA,nc,cc,c⟩:Bk).At w2 (w.heap.size+1)):=hid ((hat.out.alloc hsz _).below (hb2.mono zm))
    have hB2:Below (w.heap.size+1) wo w2:=((Below.refl _ _).alloc hsz _).trans (hb2.mono zm)
    clear hc2 hf2 kP l0 l1 hL
    have hnn:nm≤2 ^ 63 - 1:=Hh.out.nm
    gi_loopw [27] (fun j wj=>∃q:Nat,q≤nm∧j=int i64 q∧Below w2.heap.size w2 wj) (fun j _=>nm - (intOf j).toNat)
    case atStart=>exact⟨0,Nat.zero_le _,rfl,Below.refl _ _⟩
    case round=>
     obtain⟨q,hq,rfl,hbj⟩:=hrel
     have hs:=hbj.size
     have hx:∀o,wr.cell? ⟨w.heap.size,o,none⟩=(w.alloc (.cells #[int i64 days,int i64 most,.slice gA ng gc,.slice mA nm mc,.slice cA nc cc] 74)).cell? ⟨w.heap.size,o,none⟩:=fun o=>(hbj.cell (p:=⟨w.heap.size,o,none⟩) zm).trans (wD o)
     have hf:wr.cell? ⟨wo.heap.size,1,none⟩=some (.func (.func 156) #[] #[]):=(hbj.cell (p:=⟨wo.heap.size,1,none⟩) zm).trans Rw
     have hlt1:w.heap.size<wr.heap.size:=zo
     have hlt2:wo.heap.size<wr.heap.size:=zo
     by_cases hq2:q<nm
     ·have hC:CallsIn FF 0 prog 156 #[.agg #[int i64 days,int i64 most,.slice gA ng gc,.slice mA nm mc,.slice cA nc cc],int i64 q] wr fun e w'=>e=.returned (int i64 0)∧Below wr.heap.size wr w':=EM ⟨days,most,gA,ng,gc,g,mA,nm,mc,m,cA,nc,cc,c⟩ q wr ((Jk.out.below (hbj.mono zo)).more zo) hq2 (Om.out.2 q hq2)
      gi_wp2_with (gi_at_call 156;refine hC.mono ?_;rintro e w3 ⟨rfl,hb3⟩)
      go_roundw
      case rel=>exact⟨q+1,zo,by go_num,hbj.trans (hb3.mono hs)⟩
      case measure=>simp[intOf];omega
     ·obtain rfl:q=nm:=zo
      gi_wp2
      go_roundw
      case rel=>exact⟨1+1,zo,by go_num,(hb.trans hB2).trans (hbj.mono zo)⟩
      case measure=>simp[intOf]
   ·have l0:wr.cell? ⟨B,4,none⟩=some (.func (.func 157) #[] #[]):=hls 4
    have l1:wr.cell? ⟨B,5,none⟩=some (.func (.func 158) #[] #[]):=hls 5
    clear hls
    obtain⟨wo,rfl⟩:∃wo:World,wo=wr:=⟨_,rfl⟩
    have hL:∀w,CallsIn FF 0 prog 157 #[.agg #[int i64 days,int i64 most,.slice gA ng gc,.slice mA nm mc,.slice cA nc cc]] w fun e w'=>e=.returned (.tuple #[int i64 nc,.bool true])∧Below w.heap.size w w':=fun w=>Du ⟨days,most,gA,ng,gc,g,mA,nm,mc,m,cA,nc,cc,c⟩ w Oc.out.1
    gi_wp2_with (gi_at_call 157;refine(hL _).mono ?_;rintro e w2 ⟨rfl,hb2⟩;obtain⟨hc2,hf2⟩:=fC hb2;have hs2:wo.heap.size<w2.heap.size:=by have:=hb2.size;simp at this;omega)
    have wD:∀o,w2.cell? ⟨w.heap.size,o,none⟩=(w.alloc (.cells #[int i64 days,int i64 most,.slice gA ng gc,.slice mA nm mc,.slice cA nc cc] 74)).cell? ⟨w.heap.size,o,none⟩:=fun o=>((hc2 _ o zm).trans (World.cell?_alloc_lt _ _ _ zm)).trans (kP o)
    have Rw:w2.cell? ⟨wo.heap.size,1,none⟩=some (.func (.func 158) #[] #[]):=(hc2 _ 1 zs).trans zs
    have Jk:Hid ((⟨days,most,gA,ng,gc,g,mA,nm,mc,m,cA,nc,cc,c⟩:Bk).At w2 (w.heap.size+1)):=hid ((hat.out.alloc hsz _).below (hb2.mono zm))
    have hB2:Below (w.heap.size+1) wo w2:=((Below.refl _ _).alloc hsz _).trans (hb2.mono zm)
    clear hc2 hf2 kP l0 l1 hL
    have hnn:nc≤2 ^ 63 - 1:=Hh.out.nc
    gi_loopw [27] (fun j wj=>∃q:Nat,q≤nc∧j=int i64 q∧Below w2.heap.size w2 wj) (fun j _=>nc - (intOf j).toNat)
    case atStart=>exact⟨0,Nat.zero_le _,rfl,Below.refl _ _⟩
    case round=>
     obtain⟨q,hq,rfl,hbj⟩:=hrel
     have hs:=hbj.size
     have hx:∀o,wr.cell? ⟨w.heap.size,o,none⟩=(w.alloc (.cells #[int i64 days,int i64 most,.slice gA ng gc,.slice mA nm mc,.slice cA nc cc] 74)).cell? ⟨w.heap.size,o,none⟩:=fun o=>(hbj.cell (p:=⟨w.heap.size,o,none⟩) zm).trans (wD o)
     have hf:wr.cell? ⟨wo.heap.size,1,none⟩=some (.func (.func 158) #[] #[]):=(hbj.cell (p:=⟨wo.heap.size,1,none⟩) zm).trans Rw
     have hlt1:w.heap.size<wr.heap.size:=zo
     have hlt2:wo.heap.size<wr.heap.size:=zo
     by_cases hq2:q<nc
     ·have hC:CallsIn FF 0 prog 158 #[.agg #[int i64 days,int i64 most,.slice gA ng gc,.slice mA nm mc,.slice cA nc cc],int i64 q] wr fun e w'=>e=.returned (int i64 0)∧Below wr.heap.size wr w':=CV ⟨days,most,gA,ng,gc,g,mA,nm,mc,m,cA,nc,cc,c⟩ q wr ((Jk.out.below (hbj.mono zo)).more zo) hq2 (Oc.out.2 q hq2)
      gi_wp2_with (gi_at_call 158;refine hC.mono ?_;rintro e w3 ⟨rfl,hb3⟩)
      go_roundw
      case rel=>exact⟨q+1,zo,by go_num,hbj.trans (hb3.mono hs)⟩
      case measure=>simp[intOf];omega
     ·obtain rfl:q=nc:=zo
      gi_wp2
      go_roundw
      case rel=>exact⟨2+1,zo,by go_num,(hb.trans hB2).trans (hbj.mono zo)⟩
      case measure=>simp[intOf]
  ·obtain rfl:k=3:=zo
   gi_wp2
   go_ret
   exact⟨rfl,(((Below.refl _ _).alloc (Nat.le_refl _) _).trans (hb.mono zs))⟩
theorem VY(b:Bk)(w:World):CallsIn FF 0 prog 123 #[b.val] w fun e w'=>∃B,e=.returned (.slice (some ⟨B,0,none⟩) 3 3)∧w.heap.size≤B∧B<w'.heap.size∧(∀o,w'.cell? ⟨B,o,none⟩=AB[o]?)∧Below w.heap.size w w':=by
 obtain⟨days,most,gA,ng,gc,g,mA,nm,mc,m,cA,nc,cc,c⟩:=b
 simp only[Bk.val,Bk.cells]
 gi_enter func123,ntmps123
 gi_wp2
 go_ret
 refine⟨w.heap.size+1,rfl,zo,zs,fun o=>?_,bw⟩
 have e:=(Whole.new (w.alloc (.cells #[int i64 days,int i64 most,.slice gA ng gc,.slice mA nm mc,.slice cA nc cc] 74)) 197 AB).cell o
 rw[show(w.alloc (.cells #[int i64 days,int i64 most,.slice gA ng gc,.slice mA nm mc,.slice cA nc cc] 74)).heap.size=w.heap.size+1 by simp] at e
 exact e
theorem ZR(b:Bk)(w:World)(h:b.At w w.heap.size)(ok:b.Ok)(hcap:b.ng≤b.gc):CallsIn FF 0 prog 95 #[b.val] w fun e w'=>e=.returned (int i64 0)∧Below w.heap.size w w':=by
 have i1:=hid (bF.2 ok.days)
 have i2:=hid (bF.2 ok.most)
 obtain⟨days,most,gA,ng,gc,g,mA,nm,mc,m,cA,nc,cc,c⟩:=b
 have hL:∀w,CallsIn FF 0 prog 123 #[.agg #[int i64 days,int i64 most,.slice gA ng gc,.slice mA nm mc,.slice cA nc cc]] w fun e w'=>∃B,e=.returned (.slice (some ⟨B,0,none⟩) 3 3)∧w.heap.size≤B∧B<w'.heap.size∧(∀o,w'.cell? ⟨B,o,none⟩=AB[o]?)∧Below w.heap.size w w':=fun w=>VY ⟨days,most,gA,ng,gc,g,mA,nm,mc,m,cA,nc,cc,c⟩ w
 have hF:∀B w,(⟨days,most,gA,ng,gc,g,mA,nm,mc,m,cA,nc,cc,c⟩:Bk).At w w.heap.size→B<w.heap.size→(∀o,w.cell? ⟨B,o,none⟩=AB[o]?)→CallsIn FF 0 prog 122 #[.agg #[int i64 days,int i64 most,.slice gA ng gc,.slice mA nm mc,.slice cA nc cc],.slice (some ⟨B,0,none⟩) 3 3] w fun e w'=>e=.returned (int i64 0)∧Below w.heap.size w w':=fun B w hA hB hl=>Vs ⟨days,most,gA,ng,gc,g,mA,nm,mc,m,cA,nc,cc,c⟩ B w hA ok hcap hB hl
 simp only[Bk.val,Bk.cells]
 have Hh:=hid h
 clear h ok hcap
 simp only at i1 i2
 gi_enter func95,ntmps95
 gi_wp2_with (gi_at_call 35;refine(bZ _ _ _ _).mono ?_;rintro e w' ⟨he,rfl⟩;(first|rw[i1.out] at he|rw[i2.out] at he);subst he)
 gi_region_with (first
  | (gi_at_call 123;refine(hL _).mono ?_;rintro e w2 ⟨B,rfl,hB1,hB2,hl2,hb2⟩;have hW:Below w.heap.size w w2:=(bw:Below w.heap.size w _).trans (hb2.mono zs);obtain⟨hc2,hf2⟩:=fC hb2;have hs2:w.heap.size<w2.heap.size:=by have:=hb2.size;simp at this;omega)
  | (gi_at_call 122;refine(hF B _ ((Hh.out.below hW).more hW.size) hB2 hl2).mono ?_;rintro e w3 ⟨rfl,hb3⟩))
 all_goals (gi_wp2;go_ret;exact⟨rfl,hW.trans (hb3.mono hW.size)⟩)
theorem Vf(b:Bk)(w:World)(h:b.At w w.heap.size)(ok:b.Ok)(hcap:b.ng≤b.gc):CallsIn FF 0 prog 69 #[b.val] w fun e w'=>e=.returned (int i64 0)∧Below w.heap.size w w':=by
 obtain⟨days,most,gA,ng,gc,g,mA,nm,mc,m,cA,nc,cc,c⟩:=b
 have hL:∀w,(⟨days,most,gA,ng,gc,g,mA,nm,mc,m,cA,nc,cc,c⟩:Bk).At w w.heap.size→CallsIn FF 0 prog 95 #[.agg #[int i64 days,int i64 most,.slice gA ng gc,.slice mA nm mc,.slice cA nc cc]] w fun e w'=>e=.returned (int i64 0)∧Below w.heap.size w w':=fun w h=>ZR ⟨days,most,gA,ng,gc,g,mA,nm,mc,m,cA,nc,cc,c⟩ w h ok hcap
 simp only[Bk.val,Bk.cells]
 have Hh:=hid h
 clear h ok hcap
 gi_enter func69,ntmps69
 gi_wp2_with (gi_at_call 95;refine(hL _ ((Hh.out.alloc (Nat.le_refl _) _).more zs)).mono ?_;rintro e w2 ⟨rfl,hb2⟩)
 go_ret
 exact⟨rfl,(bw:Below w.heap.size w _).trans (hb2.mono zs)⟩
def aL(s k:Nat):List Int:=((List.range k).filter fun n=>s / 2 ^ n % 2 == 1).map fun(n:Nat)=>(n:Int)
theorem wV(s k:Nat):aL s (k+1)=aL s k ++ if s / 2 ^ k % 2=1 then[(k:Int)] else[]:=by
 unfold aL
 rw[List.range_succ,List.filter_append,List.map_append]
 by_cases h:s / 2 ^ k % 2=1 <;> simp[h]
theorem sU(s k:Nat):(aL s k).length≤k:=by
 unfold aL
 rw[List.length_map]
 exact Nat.le_trans (List.length_filter_le _ _) zs
theorem Bw(s k:Nat)(h:s / 2 ^ k=0):∀j,aL s (k+j)=aL s k
 | 0=>rfl
 | j+1=>by
   rw[← Nat.add_assoc,wV,Bw s k h j,if_neg,List.append_nil]
   rw[Nat.pow_add,← Nat.div_div_eq_div_mul,h,Nat.zero_div]
   decide
end
section
open Go Go.Sort Go.RowKit
section
variable{F:Fence}{n:Nat}{P:Program}{ops:Array Oper}{Q:Exit→Act→World→Prop}{md:Region.Mode}{S:World→Prop}{T:Act→World→Prop}{N:Nat}
def mQ(md:Region.Mode)(ops:Array Oper):Nat→Nat→Array Bool→Bool
 | 0,_,listed=>Region.ready md ops listed == []
 | c+1,t,listed=>Region.ready md ops listed == [t] && mQ md ops c (t+1) (listed.setIfInBounds t true)
theorem jd:∀ (l:List Oper) (t:Nat) (listed:Array Bool) (a:Act) (w:World),(∀j,j<l.length→l[j]? =ops[t+j]?)→mQ md ops l.length t listed=true→wpListIn F n P ops Q l a w→wpAnyIn F n P md ops Q l.length listed a w
 | [],_,_,_,_,_,hB,h=>⟨by simpa [mQ] using hB,h⟩
 | o :: l,t,listed,a,w,hl,hB,h=>by
   have h0:ops[t]? =some o:=by simpa using (hl 0 zs).symm
   simp only[List.length_cons,mQ,Bool.and_eq_true,beq_iff_eq] at hB
   refine⟨(fun h0=>by rw[hB.1] at h0;cases h0),fun i hi=>?_⟩
   rw[hB.1] at hi
   obtain rfl:i=t:=by simpa using hi
   have hK:∀a w,wpListIn F n P ops Q l a w→wpAnyIn F n P md ops Q l.length (listed.setIfInBounds i true) a w:=fun a w h=>jd l (i+1) _ a w (fun j hj=>by have:=hl (j+1) (by simpa using hj);simpa [Nat.add_assoc,Nat.add_comm 1 j] using this) hB.2 h
   refine wpOpIn_mono (fun a' w' hq=>hK a' w' hq) ?_
   unfold wpOpIn
   simp only[h0]
   exact h
def xX(F:Fence)(n:Nat)(P:Program)(md:Region.Mode)(ops:Array Oper)(S:World→Prop)(T:Act→World→Prop)(N:Nat):Nat→Array Bool→Act→Prop
 | 0,listed,a=>(mQ md ops (ops.size - N) N listed=true∧Region.ready md ops listed=[N])∧∀w,S w→T a w
 | fuel+1,listed,a=>(Region.ready md ops listed≠[]∧∀i∈Region.ready md ops listed,i<N)∧∀i∈Region.ready md ops listed,qOpIn F n P ops S i (xX F n P md ops S T N fuel (listed.setIfInBounds i true)) a
theorem mU(hro:F.round=none)(hT:∀listed a w,mQ md ops (ops.size - N) N listed=true→T a w→wpAnyIn F n P md ops Q (ops.size - N) listed a w):∀ (fuel:Nat) (listed:Array Bool) (a:Act) (w:World),S w→xX F n P md ops S T N fuel listed a→wpAnyIn F n P md ops Q (ops.size - N+fuel) listed a w
 | 0,_,a,w,hw,h=>hT _ a w h.1.1 (h.2 w hw)
 | fuel+1,_,_,_,hw,h=>⟨fun h0=>absurd h0 h.1.1,fun i hi=>wpOpIn_of_qOpIn hro hw (fun a' w' hw'=>mU hro hT fuel _ a' w' hw') (h.2 i hi)⟩
theorem Eh{i:Nat}{oi:Oper}{v:Value}(hs:Region.sinkB md ops N=true)(hc:Region.chainB md ops N=true)(hN:N<ops.size)(hi:ops[i]? =some oi)(hsel:∀ (j:Nat) (o:Oper) cs b,ops[j]? =some o→o.op≠.select cs b)(MM:i<N):
 ∀ (fuel:Nat) (listed:Array Bool) (a:Act),HeadInv md ops N listed→
   (∀j oj,ops[j]? =some oj→j≠i→listed.getD j true=false→(∀e∈oj.after,Region.binds md e=true→e.on≠i)→oi.apart ops oj=true)→
   i∈Region.ready md ops listed→YieldsQuiet F n P ops S oi v a→
   xX F n P md ops S T N fuel (listed.setIfInBounds i true) (a.put oi.dst v)→xX F n P md ops S T N (fuel+1) listed a:=by
 intro fuel
 induction fuel with
 | zero=>
   intro listed a inv _ hr hy H
   have hun:=(mem_ready.1 hr).1
   have hlt:∀t∈Region.ready md ops listed,t<N:=fun t ht=>Nat.lt_of_not_le fun h=>tail_waits hs hc hN inv _ i rfl MM hun t h ht
   refine⟨⟨fun h=>(by rw[h] at hr;cases hr),hlt⟩,fun j hj=>?_⟩
   by_cases hji:j=i
   ·subst hji;exact hy.qOpIn hi H
   ·have:=ready_mono hj hji
    rw[H.1.2] at this
    have h1:j=N:=by simpa using this
    have:=hlt j hj
    omega
 | succ fuel ih=>
   intro listed a inv hfree hr hy H
   have hun:=(mem_ready.1 hr).1
   have hlt:∀t∈Region.ready md ops listed,t<N:=fun t ht=>Nat.lt_of_not_le fun h=>tail_waits hs hc hN inv _ i rfl MM hun t h ht
   refine⟨⟨fun h=>(by rw[h] at hr;cases hr),hlt⟩,fun j hj=>?_⟩
   by_cases hji:j=i
   ·subst hji;exact hy.qOpIn hi H
   ·have h1:=H.2 j (ready_mono hj hji)
    obtain⟨hjun,oj,hoj,hall⟩:=mem_ready.1 hj
    have hnot:∀e∈oj.after,Region.binds md e=true→e.on≠i:=fun e he hb heq=>by
     have h1:=hall e he hb
     have h0:=(mem_ready.1 hr).1
     rw[heq] at h1
     rcases Nat.lt_or_ge i listed.size with h'|h'
     ·simp[h'] at h0 h1;rw[h0] at h1;cases h1
     ·simp[Array.getElem?_eq_none h'] at h1
    have h2:=qOpIn_put hoj (hfree j oj hoj hji hjun hnot) (fun cs b=>hsel i oi cs b hi) (fun cs b=>hsel j oj cs b hoj) hy h1
    have hfree':∀k ok,ops[k]? =some ok→k≠i→(listed.setIfInBounds j true).getD k true=false→
     (∀e∈ok.after,Region.binds md e=true→e.on≠i)→oi.apart ops ok=true:=fun k ok hk hki hun hno=>by
     refine hfree k ok hk hki ?_ hno
     by_cases hjk:j=k
     ·subst hjk;exact hjun
     ·rw[getD_set_ne true hjk] at hun;exact hun
    refine qOpIn_mono (fun a' h3=>ih (listed.setIfInBounds j true) a' (inv.set hj (hlt j hj)) hfree' (ready_mono hr (Ne.symm hji)) h3.1 ?_) h2
    rw[Array.setIfInBounds_comm _ _ hji]
    exact h3.2
def nT(md:Region.Mode)(ops:Array Oper)(N:Nat):Nat→Nat→Array Bool→Bool
 | 0,_,listed=>mQ md ops (ops.size - N) N listed && Region.ready md ops listed == [N]
 | fuel+1,k,listed=>(Region.ready md ops listed).contains k && Region.free md ops listed k && nT md ops N fuel (k+1) (listed.setIfInBounds k true)
theorem qL(hsel:Region.noSelect ops=true)(hs:Region.sinkB md ops N=true)(hc:Region.chainB md ops N=true)(hN:N<ops.size):∀ (l:List Oper) (k:Nat) (listed:Array Bool) (a:Act),(∀j,j<l.length→l[j]? =ops[k+j]?)→k+l.length=N→HeadInv md ops N listed→
 nT md ops N l.length k listed=true→wpQuietIn F n P ops S (fun a=>∀w,S w→T a w) l a→xX F n P md ops S T N l.length listed a
 | [],_,_,_,_,_,_,hB,h=>by
   simp only[List.length_nil,nT,Bool.and_eq_true,beq_iff_eq] at hB
   exact⟨hB,h⟩
 | o :: l,k,listed,a,hl,hk,inv,hB,h=>by
   have h0:ops[k]? =some o:=by simpa using (hl 0 zs).symm
   simp only[List.length_cons] at hk
   simp only[List.length_cons,nT,Bool.and_eq_true] at hB
   obtain⟨⟨hr,hf⟩,hB'⟩:=hB
   have hr':k∈Region.ready md ops listed:=by simpa using hr
   have hst:qOpIn F n P ops S k (wpQuietIn F n P ops S (fun a=>∀w,S w→T a w) l) a:=by unfold qOpIn;simp only[h0];exact h
   obtain⟨v,hy,hK⟩:=yieldsQuiet_of_qOpIn h0 hst
   exact Eh hs hc hN h0 (Region.noSelect_spec hsel) zo l.length listed a inv (Region.free_spec h0 hf) hr' hy
    (qL hsel hs hc hN l (k+1) _ _ (fun j hj=>by have:=hl (j+1) (by simpa using hj);simpa [Nat.add_assoc,Nat.add_comm 1 j] using this) zo (inv.set hr' zo) hB' hK)
def G5(ops:Array Oper)(N:Nat):Bool:=Region.noSelect ops && Region.sinkB .any ops N && Region.chainB .any ops N && decide (N<ops.size) && nT .any ops N N 0 (Array.replicate ops.size false)
theorem aJ{id:Nat}{a:Act}{w:World}{l:List Oper}(N:Nat)(hro:F.round=none)(hm:P.follows .mixedOrders=true)(hB:G5 l.toArray N=true)
 (h:wpQuietIn F n P l.toArray (fun w'=>∃p:Regrown,w'=grow (redrawn w p.d) p.os) (fun a'=>∀w',(∃p:Regrown,w'=grow (redrawn w p.d) p.os)→wpListIn F n P l.toArray Q (l.drop N) a' w') (l.take N) a):(Code.region id l.toArray true).wpIn F n P Q a w:=by
 simp only[G5,Bool.and_eq_true,decide_eq_true_eq] at hB
 obtain⟨⟨⟨⟨h1,h2⟩,h3⟩,h4⟩,h5⟩:=hB
 have hlen:N<l.length:=by simpa using h4
 refine wpIn_region_any hm ?_
 have htl:(l.take N).length=N:=zm
 have inv:HeadInv .any l.toArray N (Array.replicate l.toArray.size false):=⟨zs,fun j oj hj hl=>by rw[getD_replicate_false] at *;simp_all,fun t ht ht'=>getD_in (by simpa using ht') (getD_replicate_false _ _)⟩
 have:=qL (F:=F) (n:=n) (P:=P) (md:=.any) (ops:=l.toArray) (N:=N) (S:=fun w'=>∃p:Regrown,w'=grow (redrawn w p.d) p.os) (T:=wpListIn F n P l.toArray Q (l.drop N)) h1 h2 h3 h4 (l.take N) 0 (Array.replicate l.toArray.size false) a
  (fun j hj=>by rw[htl] at hj;simp[hj]) zo inv (by rw[htl];exact h5) h
 rw[htl] at this
 have h6:=mU (Q:=Q) hro (N:=N) (fun listed a w hB h=>by
  have hd:(l.drop N).length=l.toArray.size - N:=zs
  have:=jd (F:=F) (n:=n) (P:=P) (md:=.any) (ops:=l.toArray) (Q:=Q) (l.drop N) N listed a w (fun j hj=>zs) (by rw[hd];exact hB) h
  rw[hd] at this
  exact this) N _ a {w with drawn:=w.drawn+1 } ⟨⟨w.drawn+1,#[]⟩,by rw[grow_empty];rfl⟩ this
 rw[show l.toArray.size - N+N=l.toArray.size by omega] at h6
 exact h6
end
end
section
open Go
def SF:Fence:={fn:=fun g=>g=83∨g=84∨g=96∨g=40∨g=76∨g=77∨g=100∨g=127∨g=128∨g=78∨g=101∨g=102∨g=103∨g=104∨g=105∨g=129∨g=91∨g=35∨g=79∨g=106∨g=130∨g=131∨g=57∨g=61∨g=80 }
@[simp] theorem Tf(g:FuncId):SF.fn g↔g=83∨g=84∨g=96∨g=40∨g=76∨g=77∨g=100∨g=127∨g=128∨g=78∨g=101∨g=102∨g=103∨g=104∨g=105∨g=129∨g=91∨g=35∨g=79∨g=106∨g=130∨g=131∨g=57∨g=61∨g=80:=Iff.rfl
@[simp] theorem pT:SF.depth=none:=rfl
@[simp] theorem pZ:SF.round=none:=rfl
theorem Gm{g:FuncId}(h:SF.fn g):FF.fn g:=by
 rw[qm]
 rcases(Tf g).1 h with h|h|h|h|h|h|h|h|h|h|h|h|h|h|h|h|h|h|h|h|h|h|h|h|h <;> subst h <;> simp
theorem fI{I I':Machine→Prop}(hI:∀m,I m→I' m){P:Program}{m m':Machine}(h:StepsIn I P m m'):StepsIn I' P m m':=by
 induction h with
 | refl=>exact .refl _
 | head h1 h2 h3 ih=>exact .head (hI _ h1) h2 ih
theorem CallsIn.wider{n:Nat}{P:Program}{f:FuncId}{args:Array Value}{w:World}{R:Ending→World→Prop}(h:CallsIn SF n P f args w R):CallsIn FF n P f args w R:=by
 refine⟨Gm h.1,fun cs _=>?_⟩
 obtain⟨e,w',fr,r,hs,rest⟩:=h.2 cs (fun d hd=>by cases hd)
 have hm:∀m:Machine,m.fenced P SF→m.fenced P FF:=fun m hm g hg=>by
  obtain⟨a,b,c,d⟩:=hm g hg
  exact⟨a,b.imp Gm id,fun f hf=>Gm (c f hf),fun d hd=>by cases hd⟩
 refine⟨e,w',fr,r,?_,rest⟩
 cases e with
 | returned v=>exact fI hm hs
 | panicked c=>exact fI hm hs
 | outgrown=>exact hs
end
end Go.Proofs.YthaelabgfnnebaaGreat
namespace Go.Proofs.YthaelabgfnnebaaGreat.W
section
open Go.RowKit
theorem bZ(n lo hi:Int)(w:World):CallsIn SF 0 prog 35 #[int i64 n,int i64 lo,int i64 hi] w fun e w'=>e=.returned (.bool (fO n lo hi))∧w=w':=by
 gi_enter func35,ntmps35
 gi_wp2
 all_goals (go_ret;refine⟨?_,rfl⟩;congr 2;unfold fO;first|rfl|(simp;omega)|simp_all)
theorem cF(a b:Int)(w:World):CallsIn SF 0 prog 130 #[int i64 a,int i64 b] w fun e w'=>e=.returned (int i64 (wrap64 (a+b)))∧w=w':=by
 gi_enter func130,ntmps130
 gi_wp2
 all_goals (go_ret;refine⟨?_,rfl⟩;rfl)
theorem cv(a b:Int)(w:World):CallsIn SF 0 prog 131 #[int i64 a,int i64 b] w fun e w'=>e=.returned (int i64 (wrap64 (a - b)))∧w=w':=by
 gi_enter func131,ntmps131
 gi_wp2
 all_goals (go_ret;refine⟨?_,rfl⟩;rfl)
theorem mo(s:Nat)(w:World)(hs:s<1024):CallsIn SF 0 prog 96 #[int i64 s] w fun e w'=>∃v,e=.returned v∧w'.ownsRow w.heap.size 3 1 v (aL s 10).length ((aL s 10).map (int i64))∧Below w.heap.size w w':=by
 obtain⟨i0,hi,hz0,hz1,hz2⟩:=info_parts info3
 have hi0:=hid hi
 clear hi
 gi_enter func96,ntmps96
 gi_wp2
 gi_loopw [3,4] (fun l i wr=>∃k:Nat,k≤10∧i=int i64 k∧Hid (wr.ownsRow w.heap.size 3 1 l (aL s k).length ((aL s k).map (int i64))∧Below w.heap.size w wr)) (fun _ i _=>11 - (intOf i).toNat)
 case atStart=>exact⟨0,zo,rfl,hid ⟨mG w w.heap.size 3,Below.refl _ _⟩⟩
 case round=>
  obtain⟨k,hk,rfl,hR⟩:=hrel
  obtain⟨A,n,c,rfl⟩:=fP hR.out.1
  have e1:(s:Int) / 2 ^ k=((s / 2 ^ k:Nat):Int):=by push_cast;rfl
  have e2:bits BinOp.and IntKind.i64 ((s / 2 ^ k:Nat):Int) 1=((s / 2 ^ k % 2:Nat):Int):=and_one _ (by have:=Nat.div_le_self s (2 ^ k);omega)
  by_cases h0:s / 2 ^ k=0
  ·have e3:aL s 10=aL s k:=by have:=Bw s k h0 (10 - k);rwa[show k+(10 - k)=10 by omega] at this
   have c1:decide (0<(s:Int) / 2 ^ k)=false:=by rw[e1,h0];rfl
   clear e1 e2
   gi_wp2
   all_goals first
    | (go_ret
       exact⟨_,rfl,by rw[e3];exact hR.out.1,hR.out.2⟩)
    | trace_state
  ·have hk2:k<10:=by
    rcases Nat.lt_or_ge k 10 with h|h
    ·exact h
    ·exact absurd (Nat.div_eq_of_lt (Nat.lt_of_lt_of_le hs (Nat.pow_le_pow_right (n:=2) zD h))) h0
   have c1:(0:Int)<(s:Int) / 2 ^ k:=by rw[e1];exact Int.natCast_pos.2 (Nat.pos_of_ne_zero h0)
   have c2:bits BinOp.and IntKind.i64 ((s:Int) / 2 ^ k) 1=((s / 2 ^ k % 2:Nat):Int):=by rw[e1];exact e2
   have e4:=wV s k
   have hlen:=sU s k
   have hB:=hR.out.2.size
   clear e1 e2
   by_cases h1:s / 2 ^ k % 2=1
   ·rw[if_pos h1] at e4
    have c3:(bits BinOp.and IntKind.i64 ((s:Int) / 2 ^ k) 1 == 1)=true:=by rw[c2,h1];rfl
    clear c2
    have Hc:=hid e4
    clear e4
    gi_wp2_with (gi_at_builtin;refine aF rfl rfl rfl fun K5 jf=>?_;refine wp_append_lies _ _ _ _ rfl w.heap.size 3 i0 _ 1 8 underlying30 hi0.out hz0 hz1 hz2 rfl zo (.slice A n c) (aL s k).length _ rfl (aX hR.out.1 _) ⟨wr.heap.size,0,none⟩ 1 1 [_] rfl rfl (World.news_of_block (heap_alloc_new wr _)) (by simp[Value.oneCell']) zo zU zo zm (wr.heap.size+1) zs ?_;intro qM oH w5 hown5 aQ ni oI;refine jf _ _ ?_;clear jf K5)
    exact⟨⟨k+1,zo,by go_num,hid ⟨by rw[Hc.out,List.length_append,List.map_append];exact hown5,(hR.out.2.alloc hB _).trans (below_grown aQ zm (fun g hg=>(dF hR.out.1 hg).1))⟩⟩,by simp[intOf];omega⟩
   ·rw[if_neg h1,List.append_nil] at e4
    have c3:(bits BinOp.and IntKind.i64 ((s:Int) / 2 ^ k) 1 == 1)=false:=by rw[c2];exact beq_eq_false_iff_ne.2 (fun h=>h1 (by exact_mod_cast h))
    clear c2
    gi_wp2
    go_roundw
    case rel=>exact⟨k+1,zo,by go_num,hid ⟨by rw[e4];exact hR.out.1,hR.out.2⟩⟩
    case measure=>simp[intOf];omega
end
end Go.Proofs.YthaelabgfnnebaaGreat.W
namespace Go.Proofs.YthaelabgfnnebaaGreat
section
open Go.RowKit
theorem sK(b:Bk)(i:Nat)(w:World)(h:b.At w w.heap.size)(hi:i<b.nm):CallsIn FF 0 prog 58 #[b.val,int i64 i] w fun e w'=>e=.returned (.bool (decide ((b.m i).kind=0)))∧Below w.heap.size w w':=by
 obtain⟨days,most,gA,ng,gc,g,mA,nm,mc,m,cA,nc,cc,c⟩:=b
 simp only at hi
 have hnm:=h.nm
 have hM:∀w,CallsIn FF 0 prog 90 #[.agg #[int i64 days,int i64 most,.slice gA ng gc,.slice mA nm mc,.slice cA nc cc],int i64 i] w fun e w'=>e=.returned (.bool true)∧Below w.heap.size w w':=fun w=>by
  have:=Au ⟨days,most,gA,ng,gc,g,mA,nm,mc,m,cA,nc,cc,c⟩ i w hnm
  rwa[show fO (i:Int) 0 ((nm:Int) - 1)=true by unfold fO;simp;omega] at this
 simp only at hnm
 unfold maxLen at hnm
 obtain⟨ad,hA,hbl,-⟩:=h.m (show 0<nm by omega)
 simp only at hA
 subst hA
 simp only[Bk.val,Bk.cells]
 have Hg:=hid (h.m.alloc (Nat.le_refl _) (.cells #[int i64 days,int i64 most,.slice gA ng gc,.slice (some ad) nm mc,.slice cA nc cc] 74))
 clear h
 gi_enter func58,ntmps58
 gi_wp2_with (gi_at_call 90;refine(hM _).mono ?_;rintro e w2 ⟨rfl,hb2⟩;obtain⟨hc2,hf2⟩:=fC hb2;have hs2:w.heap.size<w2.heap.size:=(by have:=hb2.size;simp at this;omega);have c0:w2.cell? (ad.add (i * 5))=some (int i64 (m i).kind):=((Hg.out.below (hb2.mono zs)).row hi).2 0 zD)
 all_goals (go_ret;refine⟨?_,(bw:Below w.heap.size w _).trans (hb2.mono zs)⟩;first|rfl|simp_all)
theorem mo(s:Nat)(w:World)(hs:s<1024):CallsIn FF 0 prog 96 #[int i64 s] w fun e w'=>∃v,e=.returned v∧w'.ownsRow w.heap.size 3 1 v (aL s 10).length ((aL s 10).map (int i64))∧Below w.heap.size w w':=
 CallsIn.wider (Go.Proofs.YthaelabgfnnebaaGreat.W.mo s w hs)
section
variable{F:Fence}{n:Nat}{P:Program}{b:Frame}{a:Act}{k:List Item}{cs:List Frame}{w:World}{Q:Exit→Act→World→Prop}
theorem gy{c:Code}:step P (lone (b.atR a (.code (.scope c) :: k)) cs w)=.next (lone (b.atR a (.code c :: .inScope c :: k)) cs w):=
 step_lone_go (by simp[stepG,stepG.exec,Frame.atR])
theorem yN{c:Code}:step P (lone (b.atR a (.inScope c :: k)) cs w)=.next (lone (b.atR a k) cs w):=
 step_lone_go (by simp[stepG,stepG.exec,Frame.atR])
theorem KD{c:Code}(h:c.wpIn F n P (Exit.noGoto Q) a w):(Code.scope c).wpIn F n P Q a w:=by
 intro b k cs hro hb hr
 have h0:(lone (b.atR a (.code (.scope c) :: k)) cs w).fenced P F:=fenced_calm hb hr rfl
 obtain⟨e,a₁,w₁,hq,harr⟩:=h b (.inScope c :: k) cs hro hb hr
 cases e with
 | normal=>exact⟨.normal,a₁,w₁,hq,.head h0 gy (StepsIn.trans harr (.one (fenced_calm hb hr rfl) yN))⟩
 | exit id'=>
   have hx:exitTo id' (.inScope c :: k)=exitTo id' k:=by simp[exitTo]
   exact⟨.exit id',a₁,w₁,hq,fun k' hk=>.head h0 gy (harr.1 k' (by rw[hx];exact hk)),
    fun hr' hk=>let ⟨k₁,h1,h2⟩:=harr.2 hr' (by rw[hx];exact hk);⟨k₁,h1,.head h0 gy h2⟩⟩
 | goto l=>exact hq.elim
 | ret=>exact⟨_,a₁,w₁,hq,.of_steps (.one h0 gy) harr⟩
 | panic ch=>exact⟨_,a₁,w₁,hq,.of_steps (.one h0 gy) harr⟩
 | outgrown=>exact⟨_,a₁,w₁,hq,.of_steps (.one h0 gy) harr⟩
end
@[go_sem] theorem noGoto_normal {Q:Exit→Act→World→Prop} {a:Act} {w:World}:Exit.noGoto Q .normal a w=Q .normal a w:=rfl
@[go_sem] theorem noGoto_exit {Q:Exit→Act→World→Prop} {a:Act} {w:World} (id:Nat):Exit.noGoto Q (.exit id) a w=Q (.exit id) a w:=rfl
@[go_sem] theorem noGoto_ret {Q:Exit→Act→World→Prop} {a:Act} {w:World}:Exit.noGoto Q .ret a w=Q .ret a w:=rfl
end
end Go.Proofs.YthaelabgfnnebaaGreat
