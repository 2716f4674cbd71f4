/- P3 P4 P5 P6 P7a WP1 WP7 P7 Scope P8 -/
import Derived.Test.YtmjjocnfidnelaaGreatC4
import Derived.Lib.RabinKarpLaws
import Derived.Scope
set_option maxRecDepth 100000
set_option maxHeartbeats 16000000
set_option linter.unusedVariables false
set_option linter.unusedSectionVars false
open Go.IntKind(i64)
open Go.Lib(hid)
open Go.Proofs.Tryz
open Go.Value(int)
namespace Go.Proofs.YtmjjocnfidnelaaGreat
section
open Go.RowKit
theorem RO(b:ByteArray):∀ (n i:Nat) (r:List UInt8),b.size - i=n→ByteArray.toList.loop b i r=r.reverse ++ b.data.toList.drop i:=by
 have hsz:b.data.toList.length=b.size:=rfl
 intro n
 induction n with
 | zero=>
   intro i r h
   rw[ByteArray.toList.loop.eq_def,if_neg zo]
   rw[List.drop_eq_nil_of_le zo]
   rw[List.append_nil]
 | succ n ih=>
   intro i r h
   have hi:i<b.size:=zo
   rw[ByteArray.toList.loop.eq_def,if_pos hi,ih (i+1) _ zo]
   have hi':i<b.data.toList.length:=zo
   have hi2:i<b.data.size:=hi
   rw[List.drop_eq_getElem_cons hi']
   have:b.get! i=b.data.toList[i]:=by
    cases b with
    | mk d=>exact(getElem!_pos d i hi2).trans (Array.getElem_toList hi2).symm
   rw[this,List.reverse_cons,List.append_assoc]
   rfl
theorem wW(b:ByteArray):b.toList=b.data.toList:=by
 unfold ByteArray.toList
 rw[RO b _ 0 [] rfl]
 rfl
theorem RU{a b:ByteArray}(h:a≠b):(a.toList == b.toList)=false:=by
 rw[Bool.eq_false_iff]
 intro e
 apply h
 have e':=eq_of_beq e
 rw[wW,wW] at e'
 cases a;cases b
 exact congrArg _ (Array.toList_inj.1 e')
abbrev Ci(q:Good):Value:=.agg #[.string q.name,int i64 q.cost,int i64 q.pack,int i64 q.lo,int i64 q.hi]
theorem XV(q:Good)(nm:ByteArray)(B:Nat)(w:World)(hB:B<w.heap.size)(hc:w.cell? ⟨B,0,none⟩=some (.string nm))(hne:q.name≠nm):CallsIn FF 0 prog 172 #[Ci q,.pointer (some ⟨B,0,none⟩)] w fun e w'=>e=.returned (.bool false)∧Below w.heap.size w w':=by
 have hc1:(w.alloc (.cells #[.string q.name,int i64 q.cost,int i64 q.pack,int i64 q.lo,int i64 q.hi] 68)).cell? ⟨B,0,none⟩=some (.string nm):=(World.cell?_alloc_lt w _ _ zm).trans hc
 have hne:=RU hne
 gi_enter func172,ntmps172
 gi_wp2
 go_ret
 exact⟨rfl,bw⟩
theorem Xw(g:Nat→Good)(A:Option Addr)(n cap:Nat)(nm:ByteArray)(B:Nat)(w:World)(hr:Rows w w.heap.size 5 A n (fun i=>(g i).cell))(hn:n≤maxLen)(hB:B<w.heap.size)(hc:w.cell? ⟨B,0,none⟩=some (.string nm))(hne:∀i,i<n→(g i).name≠nm):
 CallsIn FF 0 prog 179 #[.slice A n cap,.func (.func 172) #[] #[.pointer (some ⟨B,0,none⟩)]] w fun e w'=>e=.returned (int i64 (-1))∧Below w.heap.size w w':=by
 unfold maxLen at hn
 have Hr:=hid hr
 have Hn:=hid hne
 clear hr hne
 gi_enter func179,ntmps179
 gi_wp2
 gi_loopw [8] (fun i wr=>∃k:Nat,k≤n∧i=int i64 k∧Below w.heap.size w wr) (fun i _=>n - (intOf i).toNat)
 case atStart=>exact⟨0,Nat.zero_le _,rfl,Below.refl _ _⟩
 case round=>
  obtain⟨k,hk,rfl,hb⟩:=hrel
  by_cases hlt:k<n
  ·obtain⟨ad,rfl,-⟩:=Hr.out (show 0<n by omega)
   have hr:=(Hr.out.below hb).row hlt
   have c0:wr.cell? (ad.add (k * 5))=some (.string (g k).name):=hr.2 0 zD
   have c1:wr.cell? ⟨(ad.add (k * 5)).block,(ad.add (k * 5)).off+1,none⟩=some (int i64 (g k).cost):=hr.2 1 zD
   have c2:wr.cell? ⟨(ad.add (k * 5)).block,(ad.add (k * 5)).off+2,none⟩=some (int i64 (g k).pack):=hr.2 2 zD
   have c3:wr.cell? ⟨(ad.add (k * 5)).block,(ad.add (k * 5)).off+3,none⟩=some (int i64 (g k).lo):=hr.2 3 zD
   have c4:wr.cell? ⟨(ad.add (k * 5)).block,(ad.add (k * 5)).off+4,none⟩=some (int i64 (g k).hi):=hr.2 4 zD
   clear hr
   have hs:=hb.size
   have hO:CallsIn FF 0 prog 172 #[Ci (g k),.pointer (some ⟨B,0,none⟩)] wr fun e w'=>e=.returned (.bool false)∧Below wr.heap.size wr w':=XV (g k) nm B wr zo ((hb.cell (p:=⟨B,0,none⟩) hB).trans hc) (Hn.out k hlt)
   gi_wp2_with (gi_at_call 172;refine hO.mono ?_;rintro e w' ⟨rfl,hb2⟩)
   go_roundw
   case rel=>exact⟨k+1,zo,by go_num,hb.trans (hb2.mono hs)⟩
   case measure=>simp[intOf];omega
  ·gi_wp2
   go_ret
   exact⟨rfl,hb⟩
theorem JF(g:Nat→Good)(A:Option Addr)(n cap:Nat)(nm:ByteArray)(B:Nat)(w:World)(hr:Rows w w.heap.size 5 A n (fun i=>(g i).cell))(hn:n≤maxLen)(hB:B<w.heap.size)(hc:w.cell? ⟨B,0,none⟩=some (.string nm))(hne:∀i,i<n→(g i).name≠nm):
 CallsIn FF 0 prog 171 #[.slice A n cap,.func (.func 172) #[] #[.pointer (some ⟨B,0,none⟩)]] w fun e w'=>e=.returned (.bool false)∧Below w.heap.size w w':=by
 have H:=Xw g A n cap nm B w hr hn hB hc hne
 gi_enter func171,ntmps171
 gi_wp2_with (gi_at_call 179;refine H.mono ?_;rintro e w' ⟨rfl,hb⟩)
 go_ret
 exact⟨rfl,hb⟩
theorem Rows.less{w:World}{B size n k:Nat}{A:Option Addr}{f:Nat→Nat→Value}(h:Rows w B size A n f)(hk:k≤n):Rows w B size A k f:=fun h0=>by
 obtain⟨a,e,hb,hc⟩:=h zo
 exact⟨a,e,hb,fun i j hi hj=>hc i j zo hj⟩
theorem FJ(b:Bk)(k:Nat)(w:World)(h:b.At w w.heap.size)(hk:k<b.ng)(hcap:b.ng≤b.gc)(ok:Good.ok b k):CallsIn FF 0 prog 148 #[b.val,int i64 k] w fun e w'=>e=.returned (int i64 0)∧Below w.heap.size w w':=by
 obtain⟨days,most,gA,ng,gc,g,mA,nm,mc,m,cA,nc,cc,c⟩:=b
 simp only at hk hcap
 obtain⟨o1,o2,o3,o4,o5⟩:=ok
 simp only at o1 o2 o3 o4 o5
 have uU:=h.ng
 simp only at uU
 unfold maxLen at uU
 obtain⟨ad,hA,hbl,-⟩:=h.g (show 0<ng by omega)
 simp only at hA
 subst hA
 simp only[Bk.val,Bk.cells]
 have Hg:=hid (h.g.alloc (Nat.le_refl _) (.cells #[int i64 days,int i64 most,.slice (some ad) ng gc,.slice mA nm mc,.slice cA nc cc] 71))
 have hr:=(h.g.alloc (Nat.le_refl _) (.cells #[int i64 days,int i64 most,.slice (some ad) ng gc,.slice mA nm mc,.slice cA nc cc] 71)).row hk
 have c0:(w.alloc (.cells #[int i64 days,int i64 most,.slice (some ad) ng gc,.slice mA nm mc,.slice cA nc cc] 71)).cell? (ad.add (k * 5))=some (.string (g k).name):=hr.2 0 zD
 have c1:(w.alloc (.cells #[int i64 days,int i64 most,.slice (some ad) ng gc,.slice mA nm mc,.slice cA nc cc] 71)).cell? ⟨(ad.add (k * 5)).block,(ad.add (k * 5)).off+1,none⟩=some (int i64 (g k).cost):=hr.2 1 zD
 have c2:(w.alloc (.cells #[int i64 days,int i64 most,.slice (some ad) ng gc,.slice mA nm mc,.slice cA nc cc] 71)).cell? ⟨(ad.add (k * 5)).block,(ad.add (k * 5)).off+2,none⟩=some (int i64 (g k).pack):=hr.2 2 zD
 have c3:(w.alloc (.cells #[int i64 days,int i64 most,.slice (some ad) ng gc,.slice mA nm mc,.slice cA nc cc] 71)).cell? ⟨(ad.add (k * 5)).block,(ad.add (k * 5)).off+3,none⟩=some (int i64 (g k).lo):=hr.2 3 zD
 have c4:(w.alloc (.cells #[int i64 days,int i64 most,.slice (some ad) ng gc,.slice mA nm mc,.slice cA nc cc] 71)).cell? ⟨(ad.add (k * 5)).block,(ad.add (k * 5)).off+4,none⟩=some (int i64 (g k).hi):=hr.2 4 zD
 clear hr h
 have i1:=hid (bK.2 o3)
 have i2:=hid (bK.2 o4)
 gi_enter func148,ntmps148
 gi_wp2_with (first
  | (gi_at_call 170;refine(gC _ _ o1).mono ?_;rintro e w' ⟨rfl,rfl⟩)
  | (gi_at_call 171;refine(JF g (some ad) k gc (g k).name (w.heap.size+1) _ (((Hg.out.alloc zs _).more zm).less zo) zu zs zs o2).mono ?_;rintro e w2 ⟨rfl,hb2⟩;obtain⟨hc2,hf2⟩:=fJ hb2;have hs2:=hb2.size)
  | (gi_at_call 56;refine(dw _ _ _ _).mono ?_;rintro e w' ⟨he,rfl⟩;(first|rw[i1.out] at he|rw[i2.out] at he);subst he)
  | (gi_at_call 173;refine(uf _ _ _ o5).mono ?_;rintro e w3 ⟨rfl,hb3⟩))
 go_ret
 exact⟨rfl,((((Below.refl _ _).alloc (Nat.le_refl _) _).alloc zs _).trans (hb2.mono zm)).trans (hb3.mono (by simp at hs2;omega))⟩
theorem FK(b:Bk)(k:Nat)(w:World)(h:b.At w w.heap.size)(hk:k<b.nm)(ok:Mv.ok b k):CallsIn FF 0 prog 150 #[b.val,int i64 k] w fun e w'=>e=.returned (int i64 0)∧Below w.heap.size w w':=by
 obtain⟨days,most,gA,ng,gc,g,mA,nm,mc,m,cA,nc,cc,c⟩:=b
 simp only at hk
 obtain⟨o1,o2,o3,o4,o5⟩:=ok
 simp only at o1 o2 o3 o4 o5
 have hnm:=h.nm
 simp only at hnm
 unfold maxLen at hnm
 have hG:∀i w,CallsIn FF 0 prog 74 #[.agg #[int i64 days,int i64 most,.slice gA ng gc,.slice mA nm mc,.slice cA nc cc],int i64 i] w fun e w'=>e=.returned (.bool (gI i 0 ((ng:Int) - 1)))∧Below w.heap.size w w':=fun i w=>tV ⟨days,most,gA,ng,gc,g,mA,nm,mc,m,cA,nc,cc,c⟩ i w h.ng
 obtain⟨ad,hA,hbl,-⟩:=h.m (show 0<nm by omega)
 simp only at hA
 subst hA
 simp only[Bk.val,Bk.cells]
 have Hg:=hid (h.m.alloc (Nat.le_refl _) (.cells #[int i64 days,int i64 most,.slice gA ng gc,.slice (some ad) nm mc,.slice cA nc cc] 71))
 have hr:=Hg.out.row hk
 have c0:(w.alloc (.cells #[int i64 days,int i64 most,.slice gA ng gc,.slice (some ad) nm mc,.slice cA nc cc] 71)).cell? (ad.add (k * 5))=some (int i64 (m k).kind):=hr.2 0 zD
 have c1:(w.alloc (.cells #[int i64 days,int i64 most,.slice gA ng gc,.slice (some ad) nm mc,.slice cA nc cc] 71)).cell? ⟨(ad.add (k * 5)).block,(ad.add (k * 5)).off+1,none⟩=some (int i64 (m k).good):=hr.2 1 zD
 have c2:(w.alloc (.cells #[int i64 days,int i64 most,.slice gA ng gc,.slice (some ad) nm mc,.slice cA nc cc] 71)).cell? ⟨(ad.add (k * 5)).block,(ad.add (k * 5)).off+2,none⟩=some (int i64 (m k).day):=hr.2 2 zD
 have c3:(w.alloc (.cells #[int i64 days,int i64 most,.slice gA ng gc,.slice (some ad) nm mc,.slice cA nc cc] 71)).cell? ⟨(ad.add (k * 5)).block,(ad.add (k * 5)).off+3,none⟩=some (int i64 (m k).lo):=hr.2 3 zD
 have c4:(w.alloc (.cells #[int i64 days,int i64 most,.slice gA ng gc,.slice (some ad) nm mc,.slice cA nc cc] 71)).cell? ⟨(ad.add (k * 5)).block,(ad.add (k * 5)).off+4,none⟩=some (int i64 (m k).hi):=hr.2 4 zD
 clear hr h
 have i1:=hid (bK.2 o1)
 have i2:=hid (bK.2 o2)
 have i3:=hid (bK.2 o3)
 gi_enter func150,ntmps150
 gi_wp2_with (first
  | (gi_at_call 56;refine(dw _ _ _ _).mono ?_;rintro e w' ⟨he,rfl⟩;(first|rw[i1.out] at he|rw[i3.out] at he);subst he)
  | (gi_at_call 74;refine(hG _ _).mono ?_;rintro e w2 ⟨he,hb2⟩;rw[i2.out] at he;subst he;obtain⟨hc2,hf2⟩:=fJ hb2;have hs2:=hb2.size))
 clear c0 c1 c2 c3 c4
 have hbx:∀o,w2.cell? ⟨w.heap.size,o,none⟩=(w.alloc (.cells #[int i64 days,int i64 most,.slice gA ng gc,.slice (some ad) nm mc,.slice cA nc cc] 71)).cell? ⟨w.heap.size,o,none⟩:=fun o=>(hc2 _ o zm).trans (World.cell?_alloc_lt _ _ _ zs)
 have hmx:∀o,w2.cell? ⟨w.heap.size+1,o,none⟩=((w.alloc (.cells #[int i64 days,int i64 most,.slice gA ng gc,.slice (some ad) nm mc,.slice cA nc cc] 71)).alloc (.cells #[int i64 (m k).kind,int i64 (m k).good,int i64 (m k).day,int i64 (m k).lo,int i64 (m k).hi] 41)).cell? ⟨w.heap.size+1,o,none⟩:=fun o=>(hc2 _ o zs)
 have hB:Below w.heap.size w w2:=(((Below.refl _ _).alloc (Nat.le_refl _) _).alloc zs _).trans (hb2.mono zm)
 have hs:w.heap.size+1<w2.heap.size:=by simp at hs2;omega
 by_cases hk0:0<k
 ·have hd:decide (0<(k:Int))=true:=zm
  have hr:=(((Hg.out.more (Nat.le_succ _)).alloc zs (.cells #[int i64 (m k).kind,int i64 (m k).good,int i64 (m k).day,int i64 (m k).lo,int i64 (m k).hi] 41)).below (hb2.mono zs)).row (show k - 1<nm by omega)
  have d2:w2.cell? ⟨(ad.add ((k - 1) * 5)).block,(ad.add ((k - 1) * 5)).off+2,none⟩=some (int i64 (m (k - 1)).day):=hr.2 2 zD
  have hl2:(ad.add ((k - 1) * 5)).block<w2.heap.size:=by rw[aD];have:=hr.1;omega
  clear hr
  clear hc2 hf2 hs2
  have hd2:decide ((m k).day<(m (k - 1)).day)=false:=decide_eq_false (by have:=o4 hk0;omega)
  have e2:0≤(k:Int) - 1:=zo
  have e2':1≤(k:Int):=zo
  have e4:(k:Int) - 1<nm:=zo
  have e3:((k:Int) - 1).toNat=k - 1:=zo
  have e1:IntKind.i64.wrap ((k:Int) - 1)=(k:Int) - 1:=IntWalk.i64_in _ zo
  gi_quiet (fail)
  clear e1 e3
  gi_wp2_with (gi_at_call 173;refine(uf _ _ _ o5).mono ?_;rintro e w3 ⟨rfl,hb3⟩)
  go_ret
  exact⟨rfl,hB.trans ((bw:Below w.heap.size w2 _).trans (hb3.mono zm))⟩
 ·have hd:decide (0<(k:Int))=false:=zm
  clear hc2 hf2 hs2
  gi_quiet (fail)
  gi_wp2_with (gi_at_call 173;refine(uf _ _ _ o5).mono ?_;rintro e w3 ⟨rfl,hb3⟩)
  go_ret
  exact⟨rfl,hB.trans ((bw:Below w.heap.size w2 _).trans (hb3.mono zm))⟩
theorem DX(b:Bk)(k:Nat)(w:World)(h:b.At w w.heap.size)(hk:k<b.nc)(ok:Ct.ok b (b.c k)):CallsIn FF 0 prog 152 #[b.val,int i64 k] w fun e w'=>e=.returned (int i64 0)∧Below w.heap.size w w':=by
 obtain⟨days,most,gA,ng,gc,g,mA,nm,mc,m,cA,nc,cc,c⟩:=b
 simp only at hk
 obtain⟨o1,o2,o3⟩:=ok
 simp only at o1 o2 o3
 have hnc:=h.nc
 simp only at hnc
 unfold maxLen at hnc
 have hG:∀i w,CallsIn FF 0 prog 74 #[.agg #[int i64 days,int i64 most,.slice gA ng gc,.slice mA nm mc,.slice cA nc cc],int i64 i] w fun e w'=>e=.returned (.bool (gI i 0 ((ng:Int) - 1)))∧Below w.heap.size w w':=fun i w=>tV ⟨days,most,gA,ng,gc,g,mA,nm,mc,m,cA,nc,cc,c⟩ i w h.ng
 have hE:∀i w,CallsIn FF 0 prog 40 #[.agg #[int i64 days,int i64 most,.slice gA ng gc,.slice mA nm mc,.slice cA nc cc],int i64 i] w fun e w'=>e=.returned (.bool (gI i 0 days))∧Below w.heap.size w w':=fun i w=>xO ⟨days,most,gA,ng,gc,g,mA,nm,mc,m,cA,nc,cc,c⟩ i w
 obtain⟨ad,hA,hbl,-⟩:=h.c (show 0<nc by omega)
 simp only at hA
 subst hA
 simp only[Bk.val,Bk.cells]
 have hr:=(h.c.alloc (Nat.le_refl _) (.cells #[int i64 days,int i64 most,.slice gA ng gc,.slice mA nm mc,.slice (some ad) nc cc] 71)).row hk
 have c0:(w.alloc (.cells #[int i64 days,int i64 most,.slice gA ng gc,.slice mA nm mc,.slice (some ad) nc cc] 71)).cell? (ad.add (k * 4))=some (int i64 (c k).good):=hr.2 0 zD
 have c1:(w.alloc (.cells #[int i64 days,int i64 most,.slice gA ng gc,.slice mA nm mc,.slice (some ad) nc cc] 71)).cell? ⟨(ad.add (k * 4)).block,(ad.add (k * 4)).off+1,none⟩=some (int i64 (c k).day):=hr.2 1 zD
 have c2:(w.alloc (.cells #[int i64 days,int i64 most,.slice gA ng gc,.slice mA nm mc,.slice (some ad) nc cc] 71)).cell? ⟨(ad.add (k * 4)).block,(ad.add (k * 4)).off+2,none⟩=some (int i64 (c k).lo):=hr.2 2 zD
 have c3:(w.alloc (.cells #[int i64 days,int i64 most,.slice gA ng gc,.slice mA nm mc,.slice (some ad) nc cc] 71)).cell? ⟨(ad.add (k * 4)).block,(ad.add (k * 4)).off+3,none⟩=some (int i64 (c k).hi):=hr.2 3 zD
 clear hr h
 have i1:=hid (bK.2 o1)
 have i2:=hid (bK.2 o2)
 have i3:Hid (uR (c k).lo (c k).hi 0 999=true):=hid (by unfold uR gI;simp;omega)
 gi_enter func152,ntmps152
 gi_wp2_with (first
  | (gi_at_call 74;refine(hG _ _).mono ?_;rintro e w2 ⟨he,hb2⟩;rw[i1.out] at he;subst he;obtain⟨hc2,hf2⟩:=fJ hb2;have hs2:w.heap.size+1<w2.heap.size:=by have:=hb2.size;simp at this;omega)
  | (gi_at_call 40;refine(hE _ _).mono ?_;rintro e w3 ⟨he,hb3⟩;rw[i2.out] at he;subst he;obtain⟨hc3,hf3⟩:=fJ hb3;have hs3:=hb3.size)
  | (gi_at_call 50;refine(xS _ _ _ _ _).mono ?_;rintro e w4 ⟨he,hb4⟩;rw[i3.out] at he;subst he))
 go_ret
 exact⟨rfl,(((((Below.refl _ _).alloc (Nat.le_refl _) _).alloc zs _).trans (hb2.mono zm)).trans (hb3.mono zo)).trans (hb4.mono zo)⟩
@[go_sem] theorem QE (P:Program) (w:World) (a:Addr) (m:Mode) (f:Fn) (x y:Array Value):Sem.run P (store a (.func f x y) m) w=stored P w a (.func f x y) m:=run_store P w a _ m rfl
def Cn:Array Value:=#[.func (.func 147) #[] #[],.func (.func 148) #[] #[],.func (.func 149) #[] #[],.func (.func 150) #[] #[],.func (.func 151) #[] #[],.func (.func 152) #[] #[]]
theorem Xc(b:Bk)(B:Nat)(w:World)(h:b.At w w.heap.size)(ok:b.Ok)(hcap:b.ng≤b.gc)(hB:B<w.heap.size)(hl:∀o,w.cell? ⟨B,o,none⟩=Cn[o]?):
 CallsIn FF 0 prog 118 #[b.val,.slice (some ⟨B,0,none⟩) 3 3] w fun e w'=>e=.returned (int i64 0)∧Below w.heap.size w w':=by
 obtain⟨days,most,gA,ng,gc,g,mA,nm,mc,m,cA,nc,cc,c⟩:=b
 obtain⟨-,-,m3,okm,jf⟩:=ok
 simp only[Bk.val,Bk.cells]
 simp only at hcap jf
 have Hh:=hid h
 have Og:=hid m3
 have Om:=hid okm
 have Oc:=hid jf
 clear h m3 okm jf
 gi_enter func118,ntmps118
 gi_wp2
 gi_loopw [13] (fun i wr=>∃k:Nat,k≤3∧i=int i64 k∧Below (w.heap.size+1) (w.alloc (.cells #[int i64 days,int i64 most,.slice gA ng gc,.slice mA nm mc,.slice cA nc cc] 71)) wr) (fun i _=>3 - (intOf i).toNat)
 case atStart=>exact⟨0,zo,rfl,Below.refl _ _⟩
 case round=>
  obtain⟨k,hk,rfl,hb⟩:=hrel
  have hsz:w.heap.size+1≤wr.heap.size:=by have:=hb.size;simpa using this
  have iW:∀o,wr.cell? ⟨w.heap.size,o,none⟩=(w.alloc (.cells #[int i64 days,int i64 most,.slice gA ng gc,.slice mA nm mc,.slice cA nc cc] 71)).cell? ⟨w.heap.size,o,none⟩:=fun o=>hb.cell (p:=⟨w.heap.size,o,none⟩) zs
  have hls:∀o,wr.cell? ⟨B,o,none⟩=Cn[o]?:=fun o=>((hb.cell (p:=⟨B,o,none⟩) zm).trans (World.cell?_alloc_lt w _ _ zm)).trans (hl o)
  have hat:Hid ((⟨days,most,gA,ng,gc,g,mA,nm,mc,m,cA,nc,cc,c⟩:Bk).At wr (w.heap.size+1)):=hid (((Hh.out.alloc (Nat.le_refl _) _).more (Nat.le_succ _)).below hb)
  have Xo:w.heap.size<wr.heap.size:=hsz
  by_cases hlt:k<3
  ·rcases(show k=0∨k=1∨k=2 by omega) with rfl|rfl|rfl
   ·have l0:wr.cell? ⟨B,0,none⟩=some (.func (.func 147) #[] #[]):=hls 0
    have l1:wr.cell? ⟨B,1,none⟩=some (.func (.func 148) #[] #[]):=hls 1
    clear hls
    obtain⟨wo,rfl⟩:∃wo:World,wo=wr:=⟨_,rfl⟩
    have hL:∀w,CallsIn FF 0 prog 147 #[.agg #[int i64 days,int i64 most,.slice gA ng gc,.slice mA nm mc,.slice cA nc cc]] w fun e w'=>e=.returned (.tuple #[int i64 ng,.bool true])∧Below w.heap.size w w':=fun w=>GJ ⟨days,most,gA,ng,gc,g,mA,nm,mc,m,cA,nc,cc,c⟩ w Og.out.1
    gi_wp2_with (gi_at_call 147;refine(hL _).mono ?_;rintro e w2 ⟨rfl,hb2⟩;obtain⟨hc2,hf2⟩:=fJ hb2;have hs2:wo.heap.size<w2.heap.size:=by have:=hb2.size;simp at this;omega)
    have JY:∀o,w2.cell? ⟨w.heap.size,o,none⟩=(w.alloc (.cells #[int i64 days,int i64 most,.slice gA ng gc,.slice mA nm mc,.slice cA nc cc] 71)).cell? ⟨w.heap.size,o,none⟩:=fun o=>((hc2 _ o zm).trans (World.cell?_alloc_lt _ _ _ zm)).trans (iW o)
    have SX:w2.cell? ⟨wo.heap.size,1,none⟩=some (.func (.func 148) #[] #[]):=(hc2 _ 1 zs).trans zs
    have tY:Hid ((⟨days,most,gA,ng,gc,g,mA,nm,mc,m,cA,nc,cc,c⟩:Bk).At w2 (w.heap.size+1)):=hid ((hat.out.alloc hsz _).below (hb2.mono zm))
    have hB2:Below (w.heap.size+1) wo w2:=((Below.refl _ _).alloc hsz _).trans (hb2.mono zm)
    clear hc2 hf2 iW l0 l1 hL
    have hnn:ng≤2 ^ 63 - 1:=Hh.out.ng
    gi_loopw [27] (fun j wj=>∃q:Nat,q≤ng∧j=int i64 q∧Below w2.heap.size w2 wj) (fun j _=>ng - (intOf j).toNat)
    case atStart=>exact⟨0,Nat.zero_le _,rfl,Below.refl _ _⟩
    case round=>
     obtain⟨q,hq,rfl,hbj⟩:=hrel
     have hs:=hbj.size
     have hx:∀o,wr.cell? ⟨w.heap.size,o,none⟩=(w.alloc (.cells #[int i64 days,int i64 most,.slice gA ng gc,.slice mA nm mc,.slice cA nc cc] 71)).cell? ⟨w.heap.size,o,none⟩:=fun o=>(hbj.cell (p:=⟨w.heap.size,o,none⟩) zm).trans (JY o)
     have hf:wr.cell? ⟨wo.heap.size,1,none⟩=some (.func (.func 148) #[] #[]):=(hbj.cell (p:=⟨wo.heap.size,1,none⟩) zm).trans SX
     have hlt1:w.heap.size<wr.heap.size:=zo
     have hlt2:wo.heap.size<wr.heap.size:=zo
     by_cases hq2:q<ng
     ·have hC:CallsIn FF 0 prog 148 #[.agg #[int i64 days,int i64 most,.slice gA ng gc,.slice mA nm mc,.slice cA nc cc],int i64 q] wr fun e w'=>e=.returned (int i64 0)∧Below wr.heap.size wr w':=FJ ⟨days,most,gA,ng,gc,g,mA,nm,mc,m,cA,nc,cc,c⟩ q wr ((tY.out.below (hbj.mono zo)).more zo) hq2 hcap (Og.out.2 q hq2)
      gi_wp2_with (gi_at_call 148;refine hC.mono ?_;rintro e w3 ⟨rfl,hb3⟩)
      go_roundw
      case rel=>exact⟨q+1,zo,by go_num,hbj.trans (hb3.mono hs)⟩
      case measure=>simp[intOf];omega
     ·obtain rfl:q=ng:=zo
      gi_wp2
      go_roundw
      case rel=>exact⟨0+1,zo,by go_num,(hb.trans hB2).trans (hbj.mono zo)⟩
      case measure=>simp[intOf]
   ·have l0:wr.cell? ⟨B,2,none⟩=some (.func (.func 149) #[] #[]):=hls 2
    have l1:wr.cell? ⟨B,3,none⟩=some (.func (.func 150) #[] #[]):=hls 3
    clear hls
    obtain⟨wo,rfl⟩:∃wo:World,wo=wr:=⟨_,rfl⟩
    have hL:∀w,CallsIn FF 0 prog 149 #[.agg #[int i64 days,int i64 most,.slice gA ng gc,.slice mA nm mc,.slice cA nc cc]] w fun e w'=>e=.returned (.tuple #[int i64 nm,.bool true])∧Below w.heap.size w w':=fun w=>GK ⟨days,most,gA,ng,gc,g,mA,nm,mc,m,cA,nc,cc,c⟩ w Om.out.1
    gi_wp2_with (gi_at_call 149;refine(hL _).mono ?_;rintro e w2 ⟨rfl,hb2⟩;obtain⟨hc2,hf2⟩:=fJ hb2;have hs2:wo.heap.size<w2.heap.size:=by have:=hb2.size;simp at this;omega)
    have JY:∀o,w2.cell? ⟨w.heap.size,o,none⟩=(w.alloc (.cells #[int i64 days,int i64 most,.slice gA ng gc,.slice mA nm mc,.slice cA nc cc] 71)).cell? ⟨w.heap.size,o,none⟩:=fun o=>((hc2 _ o zm).trans (World.cell?_alloc_lt _ _ _ zm)).trans (iW o)
    have SX:w2.cell? ⟨wo.heap.size,1,none⟩=some (.func (.func 150) #[] #[]):=(hc2 _ 1 zs).trans zs
    have tY:Hid ((⟨days,most,gA,ng,gc,g,mA,nm,mc,m,cA,nc,cc,c⟩:Bk).At w2 (w.heap.size+1)):=hid ((hat.out.alloc hsz _).below (hb2.mono zm))
    have hB2:Below (w.heap.size+1) wo w2:=((Below.refl _ _).alloc hsz _).trans (hb2.mono zm)
    clear hc2 hf2 iW l0 l1 hL
    have hnn:nm≤2 ^ 63 - 1:=Hh.out.nm
    gi_loopw [27] (fun j wj=>∃q:Nat,q≤nm∧j=int i64 q∧Below w2.heap.size w2 wj) (fun j _=>nm - (intOf j).toNat)
    case atStart=>exact⟨0,Nat.zero_le _,rfl,Below.refl _ _⟩
    case round=>
     obtain⟨q,hq,rfl,hbj⟩:=hrel
     have hs:=hbj.size
     have hx:∀o,wr.cell? ⟨w.heap.size,o,none⟩=(w.alloc (.cells #[int i64 days,int i64 most,.slice gA ng gc,.slice mA nm mc,.slice cA nc cc] 71)).cell? ⟨w.heap.size,o,none⟩:=fun o=>(hbj.cell (p:=⟨w.heap.size,o,none⟩) zm).trans (JY o)
     have hf:wr.cell? ⟨wo.heap.size,1,none⟩=some (.func (.func 150) #[] #[]):=(hbj.cell (p:=⟨wo.heap.size,1,none⟩) zm).trans SX
     have hlt1:w.heap.size<wr.heap.size:=zo
     have hlt2:wo.heap.size<wr.heap.size:=zo
     by_cases hq2:q<nm
     ·have hC:CallsIn FF 0 prog 150 #[.agg #[int i64 days,int i64 most,.slice gA ng gc,.slice mA nm mc,.slice cA nc cc],int i64 q] wr fun e w'=>e=.returned (int i64 0)∧Below wr.heap.size wr w':=FK ⟨days,most,gA,ng,gc,g,mA,nm,mc,m,cA,nc,cc,c⟩ q wr ((tY.out.below (hbj.mono zo)).more zo) hq2 (Om.out.2 q hq2)
      gi_wp2_with (gi_at_call 150;refine hC.mono ?_;rintro e w3 ⟨rfl,hb3⟩)
      go_roundw
      case rel=>exact⟨q+1,zo,by go_num,hbj.trans (hb3.mono hs)⟩
      case measure=>simp[intOf];omega
     ·obtain rfl:q=nm:=zo
      gi_wp2
      go_roundw
      case rel=>exact⟨1+1,zo,by go_num,(hb.trans hB2).trans (hbj.mono zo)⟩
      case measure=>simp[intOf]
   ·have l0:wr.cell? ⟨B,4,none⟩=some (.func (.func 151) #[] #[]):=hls 4
    have l1:wr.cell? ⟨B,5,none⟩=some (.func (.func 152) #[] #[]):=hls 5
    clear hls
    obtain⟨wo,rfl⟩:∃wo:World,wo=wr:=⟨_,rfl⟩
    have hL:∀w,CallsIn FF 0 prog 151 #[.agg #[int i64 days,int i64 most,.slice gA ng gc,.slice mA nm mc,.slice cA nc cc]] w fun e w'=>e=.returned (.tuple #[int i64 nc,.bool true])∧Below w.heap.size w w':=fun w=>Eo ⟨days,most,gA,ng,gc,g,mA,nm,mc,m,cA,nc,cc,c⟩ w Oc.out.1
    gi_wp2_with (gi_at_call 151;refine(hL _).mono ?_;rintro e w2 ⟨rfl,hb2⟩;obtain⟨hc2,hf2⟩:=fJ hb2;have hs2:wo.heap.size<w2.heap.size:=by have:=hb2.size;simp at this;omega)
    have JY:∀o,w2.cell? ⟨w.heap.size,o,none⟩=(w.alloc (.cells #[int i64 days,int i64 most,.slice gA ng gc,.slice mA nm mc,.slice cA nc cc] 71)).cell? ⟨w.heap.size,o,none⟩:=fun o=>((hc2 _ o zm).trans (World.cell?_alloc_lt _ _ _ zm)).trans (iW o)
    have SX:w2.cell? ⟨wo.heap.size,1,none⟩=some (.func (.func 152) #[] #[]):=(hc2 _ 1 zs).trans zs
    have tY:Hid ((⟨days,most,gA,ng,gc,g,mA,nm,mc,m,cA,nc,cc,c⟩:Bk).At w2 (w.heap.size+1)):=hid ((hat.out.alloc hsz _).below (hb2.mono zm))
    have hB2:Below (w.heap.size+1) wo w2:=((Below.refl _ _).alloc hsz _).trans (hb2.mono zm)
    clear hc2 hf2 iW l0 l1 hL
    have hnn:nc≤2 ^ 63 - 1:=Hh.out.nc
    gi_loopw [27] (fun j wj=>∃q:Nat,q≤nc∧j=int i64 q∧Below w2.heap.size w2 wj) (fun j _=>nc - (intOf j).toNat)
    case atStart=>exact⟨0,Nat.zero_le _,rfl,Below.refl _ _⟩
    case round=>
     obtain⟨q,hq,rfl,hbj⟩:=hrel
     have hs:=hbj.size
     have hx:∀o,wr.cell? ⟨w.heap.size,o,none⟩=(w.alloc (.cells #[int i64 days,int i64 most,.slice gA ng gc,.slice mA nm mc,.slice cA nc cc] 71)).cell? ⟨w.heap.size,o,none⟩:=fun o=>(hbj.cell (p:=⟨w.heap.size,o,none⟩) zm).trans (JY o)
     have hf:wr.cell? ⟨wo.heap.size,1,none⟩=some (.func (.func 152) #[] #[]):=(hbj.cell (p:=⟨wo.heap.size,1,none⟩) zm).trans SX
     have hlt1:w.heap.size<wr.heap.size:=zo
     have hlt2:wo.heap.size<wr.heap.size:=zo
     by_cases hq2:q<nc
     ·have hC:CallsIn FF 0 prog 152 #[.agg #[int i64 days,int i64 most,.slice gA ng gc,.slice mA nm mc,.slice cA nc cc],int i64 q] wr fun e w'=>e=.returned (int i64 0)∧Below wr.heap.size wr w':=DX ⟨days,most,gA,ng,gc,g,mA,nm,mc,m,cA,nc,cc,c⟩ q wr ((tY.out.below (hbj.mono zo)).more zo) hq2 (Oc.out.2 q hq2)
      gi_wp2_with (gi_at_call 152;refine hC.mono ?_;rintro e w3 ⟨rfl,hb3⟩)
      go_roundw
      case rel=>exact⟨q+1,zo,by go_num,hbj.trans (hb3.mono hs)⟩
      case measure=>simp[intOf];omega
     ·obtain rfl:q=nc:=zo
      gi_wp2
      go_roundw
      case rel=>exact⟨2+1,zo,by go_num,(hb.trans hB2).trans (hbj.mono zo)⟩
      case measure=>simp[intOf]
  ·obtain rfl:k=3:=zo
   gi_wp2
   go_ret
   exact⟨rfl,(((Below.refl _ _).alloc (Nat.le_refl _) _).trans (hb.mono zs))⟩
theorem XI(b:Bk)(w:World):CallsIn FF 0 prog 119 #[b.val] w fun e w'=>∃B,e=.returned (.slice (some ⟨B,0,none⟩) 3 3)∧w.heap.size≤B∧B<w'.heap.size∧(∀o,w'.cell? ⟨B,o,none⟩=Cn[o]?)∧Below w.heap.size w w':=by
 obtain⟨days,most,gA,ng,gc,g,mA,nm,mc,m,cA,nc,cc,c⟩:=b
 simp only[Bk.val,Bk.cells]
 gi_enter func119,ntmps119
 gi_wp2
 go_ret
 refine⟨w.heap.size+1,rfl,zo,zs,fun o=>?_,bw⟩
 have e:=(Whole.new (w.alloc (.cells #[int i64 days,int i64 most,.slice gA ng gc,.slice mA nm mc,.slice cA nc cc] 71)) 198 Cn).cell o
 rw[show(w.alloc (.cells #[int i64 days,int i64 most,.slice gA ng gc,.slice mA nm mc,.slice cA nc cc] 71)).heap.size=w.heap.size+1 by simp] at e
 exact e
theorem ej(b:Bk)(w:World)(h:b.At w w.heap.size)(ok:b.Ok)(hcap:b.ng≤b.gc):CallsIn FF 0 prog 99 #[b.val] w fun e w'=>e=.returned (int i64 0)∧Below w.heap.size w w':=by
 have i1:=hid (bK.2 ok.days)
 have i2:=hid (bK.2 ok.most)
 obtain⟨days,most,gA,ng,gc,g,mA,nm,mc,m,cA,nc,cc,c⟩:=b
 have hL:∀w,CallsIn FF 0 prog 119 #[.agg #[int i64 days,int i64 most,.slice gA ng gc,.slice mA nm mc,.slice cA nc cc]] w fun e w'=>∃B,e=.returned (.slice (some ⟨B,0,none⟩) 3 3)∧w.heap.size≤B∧B<w'.heap.size∧(∀o,w'.cell? ⟨B,o,none⟩=Cn[o]?)∧Below w.heap.size w w':=fun w=>XI ⟨days,most,gA,ng,gc,g,mA,nm,mc,m,cA,nc,cc,c⟩ w
 have hF:∀B w,(⟨days,most,gA,ng,gc,g,mA,nm,mc,m,cA,nc,cc,c⟩:Bk).At w w.heap.size→B<w.heap.size→(∀o,w.cell? ⟨B,o,none⟩=Cn[o]?)→CallsIn FF 0 prog 118 #[.agg #[int i64 days,int i64 most,.slice gA ng gc,.slice mA nm mc,.slice cA nc cc],.slice (some ⟨B,0,none⟩) 3 3] w fun e w'=>e=.returned (int i64 0)∧Below w.heap.size w w':=fun B w hA hB hl=>Xc ⟨days,most,gA,ng,gc,g,mA,nm,mc,m,cA,nc,cc,c⟩ B w hA ok hcap hB hl
 simp only[Bk.val,Bk.cells]
 have Hh:=hid h
 clear h ok hcap
 simp only at i1 i2
 gi_enter func99,ntmps99
 gi_wp2_with (gi_at_call 56;refine(dw _ _ _ _).mono ?_;rintro e w' ⟨he,rfl⟩;(first|rw[i1.out] at he|rw[i2.out] at he);subst he)
 gi_region_with (first
  | (gi_at_call 119;refine(hL _).mono ?_;rintro e w2 ⟨B,rfl,hB1,hB2,hl2,hb2⟩;have hW:Below w.heap.size w w2:=(bw:Below w.heap.size w _).trans (hb2.mono zs);obtain⟨hc2,hf2⟩:=fJ hb2;have hs2:w.heap.size<w2.heap.size:=by have:=hb2.size;simp at this;omega)
  | (gi_at_call 118;refine(hF B _ ((Hh.out.below hW).more hW.size) hB2 hl2).mono ?_;rintro e w3 ⟨rfl,hb3⟩))
 all_goals (gi_wp2;go_ret;exact⟨rfl,hW.trans (hb3.mono hW.size)⟩)
theorem WJ(b:Bk)(w:World)(h:b.At w w.heap.size)(ok:b.Ok)(hcap:b.ng≤b.gc):CallsIn FF 0 prog 69 #[b.val] w fun e w'=>e=.returned (int i64 0)∧Below w.heap.size w w':=by
 obtain⟨days,most,gA,ng,gc,g,mA,nm,mc,m,cA,nc,cc,c⟩:=b
 have hL:∀w,(⟨days,most,gA,ng,gc,g,mA,nm,mc,m,cA,nc,cc,c⟩:Bk).At w w.heap.size→CallsIn FF 0 prog 99 #[.agg #[int i64 days,int i64 most,.slice gA ng gc,.slice mA nm mc,.slice cA nc cc]] w fun e w'=>e=.returned (int i64 0)∧Below w.heap.size w w':=fun w h=>ej ⟨days,most,gA,ng,gc,g,mA,nm,mc,m,cA,nc,cc,c⟩ w h ok hcap
 simp only[Bk.val,Bk.cells]
 have Hh:=hid h
 clear h ok hcap
 gi_enter func69,ntmps69
 gi_wp2_with (gi_at_call 99;refine(hL _ ((Hh.out.alloc (Nat.le_refl _) _).more zs)).mono ?_;rintro e w2 ⟨rfl,hb2⟩)
 go_ret
 exact⟨rfl,(bw:Below w.heap.size w _).trans (hb2.mono zs)⟩
def aM(s k:Nat):List Int:=((List.range k).filter fun n=>s / 2 ^ n % 2 == 1).map fun(n:Nat)=>(n:Int)
theorem yE(s k:Nat):aM s (k+1)=aM s k ++ if s / 2 ^ k % 2=1 then[(k:Int)] else[]:=by
 unfold aM
 rw[List.range_succ,List.filter_append,List.map_append]
 by_cases h:s / 2 ^ k % 2=1 <;> simp[h]
theorem uz(s k:Nat):(aM s k).length≤k:=by
 unfold aM
 rw[List.length_map]
 exact Nat.le_trans (List.length_filter_le _ _) zs
theorem CS(s k:Nat)(h:s / 2 ^ k=0):∀j,aM s (k+j)=aM s k
 | 0=>rfl
 | j+1=>by
   rw[← Nat.add_assoc,yE,CS s k h j,if_neg,List.append_nil]
   rw[Nat.pow_add,← Nat.div_div_eq_div_mul,h,Nat.zero_div]
   decide
end
end Go.Proofs.YtmjjocnfidnelaaGreat
namespace Go.Proofs.YtmjjocnfidnelaaGreat.W
section
open Go.RowKit
theorem dw(n lo hi:Int)(w:World):CallsIn SF 0 prog 56 #[int i64 n,int i64 lo,int i64 hi] w fun e w'=>e=.returned (.bool (gI n lo hi))∧w=w':=by
 gi_enter func56,ntmps56
 gi_wp2
 all_goals (go_ret;refine⟨?_,rfl⟩;congr 2;unfold gI;first|rfl|(simp;omega)|simp_all)
theorem gz(a b:Int)(w:World):CallsIn SF 0 prog 116 #[int i64 a,int i64 b] w fun e w'=>e=.returned (int i64 (wrap64 (a+b)))∧w=w':=by
 gi_enter func116,ntmps116
 gi_wp2
 all_goals (go_ret;refine⟨?_,rfl⟩;rfl)
theorem gn(a b:Int)(w:World):CallsIn SF 0 prog 117 #[int i64 a,int i64 b] w fun e w'=>e=.returned (int i64 (wrap64 (a - b)))∧w=w':=by
 gi_enter func117,ntmps117
 gi_wp2
 all_goals (go_ret;refine⟨?_,rfl⟩;rfl)
theorem mO(s:Nat)(w:World)(hs:s<1024):CallsIn SF 0 prog 100 #[int i64 s] w fun e w'=>∃v,e=.returned v∧w'.ownsRow w.heap.size 3 1 v (aM s 10).length ((aM s 10).map (int i64))∧Below w.heap.size w w':=by
 obtain⟨i0,hi,hz0,hz1,hz2⟩:=info_parts info3
 have hi0:=hid hi
 clear hi
 gi_enter func100,ntmps100
 gi_wp2
 gi_loopw [3,4] (fun l i wr=>∃k:Nat,k≤10∧i=int i64 k∧Hid (wr.ownsRow w.heap.size 3 1 l (aM s k).length ((aM s k).map (int i64))∧Below w.heap.size w wr)) (fun _ i _=>11 - (intOf i).toNat)
 case atStart=>exact⟨0,zo,rfl,hid ⟨ji w w.heap.size 3,Below.refl _ _⟩⟩
 case round=>
  obtain⟨k,hk,rfl,hR⟩:=hrel
  obtain⟨A,n,c,rfl⟩:=fO hR.out.1
  have e1:(s:Int) / 2 ^ k=((s / 2 ^ k:Nat):Int):=by push_cast;rfl
  have e2:bits BinOp.and IntKind.i64 ((s / 2 ^ k:Nat):Int) 1=((s / 2 ^ k % 2:Nat):Int):=and_one _ (by have:=Nat.div_le_self s (2 ^ k);omega)
  by_cases h0:s / 2 ^ k=0
  ·have e3:aM s 10=aM s k:=by have:=CS s k h0 (10 - k);rwa[show k+(10 - k)=10 by omega] at this
   have c1:decide (0<(s:Int) / 2 ^ k)=false:=by rw[e1,h0];rfl
   clear e1 e2
   gi_wp2
   all_goals first
    | (go_ret
       exact⟨_,rfl,by rw[e3];exact hR.out.1,hR.out.2⟩)
    | trace_state
  ·have hk2:k<10:=by
    rcases Nat.lt_or_ge k 10 with h|h
    ·exact h
    ·exact absurd (Nat.div_eq_of_lt (Nat.lt_of_lt_of_le hs (Nat.pow_le_pow_right (n:=2) zD h))) h0
   have c1:(0:Int)<(s:Int) / 2 ^ k:=by rw[e1];exact Int.natCast_pos.2 (Nat.pos_of_ne_zero h0)
   have c2:bits BinOp.and IntKind.i64 ((s:Int) / 2 ^ k) 1=((s / 2 ^ k % 2:Nat):Int):=by rw[e1];exact e2
   have e4:=yE s k
   have hlen:=uz s k
   have hB:=hR.out.2.size
   clear e1 e2
   by_cases h1:s / 2 ^ k % 2=1
   ·rw[if_pos h1] at e4
    have c3:(bits BinOp.and IntKind.i64 ((s:Int) / 2 ^ k) 1 == 1)=true:=by rw[c2,h1];rfl
    clear c2
    have Hc:=hid e4
    clear e4
    gi_wp2_with (gi_at_builtin;refine aF rfl rfl rfl fun K5 jK=>?_;refine wp_append_lies _ _ _ _ rfl w.heap.size 3 i0 _ 1 8 underlying30 hi0.out hz0 hz1 hz2 rfl zo (.slice A n c) (aM s k).length _ rfl (aL hR.out.1 _) ⟨wr.heap.size,0,none⟩ 1 1 [_] rfl rfl (World.news_of_block (heap_alloc_new wr _)) (by simp[Value.oneCell']) zo zu zo zm (wr.heap.size+1) zs ?_;intro rV qJ w5 hown5 aU nI qO;refine jK _ _ ?_;clear jK K5)
    exact⟨⟨k+1,zo,by go_num,hid ⟨by rw[Hc.out,List.length_append,List.map_append];exact hown5,(hR.out.2.alloc hB _).trans (below_grown aU zm (fun g hg=>(bG hR.out.1 hg).1))⟩⟩,by simp[intOf];omega⟩
   ·rw[if_neg h1,List.append_nil] at e4
    have c3:(bits BinOp.and IntKind.i64 ((s:Int) / 2 ^ k) 1 == 1)=false:=by rw[c2];exact beq_eq_false_iff_ne.2 (fun h=>h1 (by exact_mod_cast h))
    clear c2
    gi_wp2
    go_roundw
    case rel=>exact⟨k+1,zo,by go_num,hid ⟨by rw[e4];exact hR.out.1,hR.out.2⟩⟩
    case measure=>simp[intOf];omega
end
end Go.Proofs.YtmjjocnfidnelaaGreat.W
namespace Go.Proofs.YtmjjocnfidnelaaGreat
section
open Go.RowKit
theorem tX(b:Bk)(i:Nat)(w:World)(h:b.At w w.heap.size)(hi:i<b.nm):CallsIn FF 0 prog 46 #[b.val,int i64 i] w fun e w'=>e=.returned (.bool (decide ((b.m i).kind=0)))∧Below w.heap.size w w':=by
 obtain⟨days,most,gA,ng,gc,g,mA,nm,mc,m,cA,nc,cc,c⟩:=b
 simp only at hi
 have hnm:=h.nm
 have hM:∀w,CallsIn FF 0 prog 77 #[.agg #[int i64 days,int i64 most,.slice gA ng gc,.slice mA nm mc,.slice cA nc cc],int i64 i] w fun e w'=>e=.returned (.bool true)∧Below w.heap.size w w':=fun w=>by
  have:=Cj ⟨days,most,gA,ng,gc,g,mA,nm,mc,m,cA,nc,cc,c⟩ i w hnm
  rwa[show gI (i:Int) 0 ((nm:Int) - 1)=true by unfold gI;simp;omega] at this
 simp only at hnm
 unfold maxLen at hnm
 obtain⟨ad,hA,hbl,-⟩:=h.m (show 0<nm by omega)
 simp only at hA
 subst hA
 simp only[Bk.val,Bk.cells]
 have Hg:=hid (h.m.alloc (Nat.le_refl _) (.cells #[int i64 days,int i64 most,.slice gA ng gc,.slice (some ad) nm mc,.slice cA nc cc] 71))
 clear h
 gi_enter func46,ntmps46
 gi_wp2_with (gi_at_call 77;refine(hM _).mono ?_;rintro e w2 ⟨rfl,hb2⟩;obtain⟨hc2,hf2⟩:=fJ hb2;have hs2:w.heap.size<w2.heap.size:=(by have:=hb2.size;simp at this;omega);have c0:w2.cell? (ad.add (i * 5))=some (int i64 (m i).kind):=((Hg.out.below (hb2.mono zs)).row hi).2 0 zD)
 all_goals (go_ret;refine⟨?_,(bw:Below w.heap.size w _).trans (hb2.mono zs)⟩;first|rfl|simp_all)
theorem mO(s:Nat)(w:World)(hs:s<1024):CallsIn FF 0 prog 100 #[int i64 s] w fun e w'=>∃v,e=.returned v∧w'.ownsRow w.heap.size 3 1 v (aM s 10).length ((aM s 10).map (int i64))∧Below w.heap.size w w':=
 CallsIn.wider (Go.Proofs.YtmjjocnfidnelaaGreat.W.mO s w hs)
section
variable{F:Fence}{n:Nat}{P:Program}{b:Frame}{a:Act}{k:List Item}{cs:List Frame}{w:World}{Q:Exit→Act→World→Prop}
theorem gG{c:Code}:step P (lone (b.atR a (.code (.scope c) :: k)) cs w)=.next (lone (b.atR a (.code c :: .inScope c :: k)) cs w):=
 step_lone_go (by simp[stepG,stepG.exec,Frame.atR])
theorem Bo{c:Code}:step P (lone (b.atR a (.inScope c :: k)) cs w)=.next (lone (b.atR a k) cs w):=
 step_lone_go (by simp[stepG,stepG.exec,Frame.atR])
theorem LA{c:Code}(h:c.wpIn F n P (Exit.noGoto Q) a w):(Code.scope c).wpIn F n P Q a w:=by
 intro b k cs hro hb hr
 have h0:(lone (b.atR a (.code (.scope c) :: k)) cs w).fenced P F:=fenced_calm hb hr rfl
 obtain⟨e,a₁,w₁,hq,harr⟩:=h b (.inScope c :: k) cs hro hb hr
 cases e with
 | normal=>exact⟨.normal,a₁,w₁,hq,.head h0 gG (StepsIn.trans harr (.one (fenced_calm hb hr rfl) Bo))⟩
 | exit id'=>
   have hx:exitTo id' (.inScope c :: k)=exitTo id' k:=by simp[exitTo]
   exact⟨.exit id',a₁,w₁,hq,fun k' hk=>.head h0 gG (harr.1 k' (by rw[hx];exact hk)),
    fun hr' hk=>let ⟨k₁,h1,h2⟩:=harr.2 hr' (by rw[hx];exact hk);⟨k₁,h1,.head h0 gG h2⟩⟩
 | goto l=>exact hq.elim
 | ret=>exact⟨_,a₁,w₁,hq,.of_steps (.one h0 gG) harr⟩
 | panic ch=>exact⟨_,a₁,w₁,hq,.of_steps (.one h0 gG) harr⟩
 | outgrown=>exact⟨_,a₁,w₁,hq,.of_steps (.one h0 gG) harr⟩
end
@[go_sem] theorem noGoto_normal {Q:Exit→Act→World→Prop} {a:Act} {w:World}:Exit.noGoto Q .normal a w=Q .normal a w:=rfl
@[go_sem] theorem noGoto_exit {Q:Exit→Act→World→Prop} {a:Act} {w:World} (id:Nat):Exit.noGoto Q (.exit id) a w=Q (.exit id) a w:=rfl
@[go_sem] theorem noGoto_ret {Q:Exit→Act→World→Prop} {a:Act} {w:World}:Exit.noGoto Q .ret a w=Q .ret a w:=rfl
def OQ(b:Bk)(s:Nat):Bool:=decide (∀i,i<b.nm→s / 2 ^ i % 2=1→(b.m i).kind=0)
def bP(b:Bk)(k:Nat):List Int:=((List.range k).filter fun s=>OQ b s).map fun(n:Nat)=>(n:Int)
theorem uW(b:Bk)(k:Nat):bP b (k+1)=bP b k ++ if OQ b k=true then[(k:Int)] else[]:=by
 unfold bP
 rw[List.range_succ,List.filter_append,List.map_append]
 by_cases h:OQ b k=true <;> simp[h]
theorem Km(b:Bk)(k:Nat):(bP b k).length≤k:=by
 unfold bP
 rw[List.length_map]
 exact Nat.le_trans (List.length_filter_le _ _) zs
theorem Py{s k:Nat}{x:Int}(h:x∈aM s k):∃i:Nat,x=i∧i<k∧s / 2 ^ i % 2=1:=by
 unfold aM at h
 obtain⟨i,hi,rfl⟩:=List.mem_map.1 h
 obtain⟨h1,h2⟩:=List.mem_filter.1 hi
 exact⟨i,rfl,List.mem_range.1 h1,by simpa using h2⟩
theorem Px{s k i:Nat}(hi:i<k)(h:s / 2 ^ i % 2=1):(i:Int)∈aM s k:=by
 unfold aM
 exact List.mem_map.2 ⟨i,List.mem_filter.2 ⟨List.mem_range.2 hi,by simp[h]⟩,rfl⟩
theorem en{s n i:Nat}(hs:s<2 ^ n)(h:s / 2 ^ i % 2=1):i<n:=by
 rcases Nat.lt_or_ge i n with h1|h1
 ·exact h1
 ·rw[Nat.div_eq_of_lt (Nat.lt_of_lt_of_le hs (Nat.pow_le_pow_right (n:=2) zD h1))] at h
  cases h
def jH(w:World)(v:Value):Prop:=∀g,v.ownBlock=some g→∃c e,w.heap[g]? =some (.cells c e (0,0))∧∀x∈c.toList,∃n,x=int i64 n
section
variable{w w':World}{v v':Value}
theorem jH.nil(w:World):jH w (.slice none 0 0):=fun g h=>by cases h
theorem jH.of(h:jH w v)(hk:∀g,v.ownBlock=some g→g<w.heap.size→w'.heap[g]? =w.heap[g]?):jH w' v:=fun g hg=>by
 obtain⟨c,e,h1,h2⟩:=h g hg
 exact⟨c,e,(hk g hg (Array.getElem?_eq_some_iff.1 h1).1).trans h1,h2⟩
theorem jH.below(h:jH w v)(hb:Below w.heap.size w w'):jH w' v:=h.of fun _ _ hl=>hb.block _ hl
theorem jH.alloc(h:jH w v)(o:Obj):jH (w.alloc o) v:=h.of fun _ _ hl=>Below.heap_alloc _ _ _ hl
theorem jH.other{p:Addr}(h:jH w v)(hne:∀g,v.ownBlock=some g→g≠p.block)(x:Value):jH (w.setCell p x) v:=h.of fun g hg _=>Below.heap_setCell _ _ _ _ (hne g hg)
theorem Dl(k:Nat):∀x∈(Builtin.zeroCells (int i64 0).cells k).toList,∃n,x=int i64 n:=fun x hx=>by
 unfold Builtin.zeroCells at hx
 rw[Array.toList_map] at hx
 obtain⟨i,hi,rfl⟩:=List.mem_map.1 hx
 exact⟨0,by simp[Value.cells,Nat.mod_one]⟩
theorem Bj{base n m c:Nat}{xs news:List Value}{ad:Addr}{ty:TypeId}{i:TypeInfo}(hi:Tryz.prog.info? 3=some i)(hz:i.zero=some (int i64 0))(hs:i.size=1)(hby:i.bytes=8)(hown:w.ownsRow base 3 1 v n xs)(hib:jH w v)
 (hl:news.length=m)(hnews:∀j u,news[j]? =some u→w.cell? (ad.add j)=some u)(hint:∀u∈news,∃k,u=int i64 k)(hm:0<m)(h63:n+m≤maxLen)(hbytes:(n+m) * 8≤140737488355328)
 (hr:(Builtin.append_ #[30,30] ty #[v,.slice (some ad) m c]).run prog w=.ok v' w'):jH w' v':=by
 have hsmall:n+m≤9223372036854775807:=by simp only[maxLen] at h63;omega
 have h1:∀u∈news,u.oneCell'=true:=fun u hu=>by obtain⟨k,rfl⟩:=hint u hu;rfl
 have hl':news.length=m * i.size:=by rw[hs,hl];omega
 rcases hown.2 with⟨rfl,rfl⟩|⟨g,cap,cur,rfl,hbg,hg,hnc,hcm,hcs,htake⟩
 ·have hr':=run_append_nil (P:=prog) w 30 ty 3 i _ underlying30 hi hz ad m c news hl' hnews hm zo (by rw[hby];omega)
  rw[hr] at hr'
  injection hr' with e1 e2
  subst e1
  subst e2
  intro g hg
  cases hg
  refine⟨_,_,heap_alloc_new w.drew _,fun x hx=>?_⟩
  simp only[Array.toList_append,List.mem_append] at hx
  rcases hx with hx|hx
  ·exact hint x hx
  ·exact Dl _ x hx
 ·obtain⟨c2,e2,h2,h3⟩:=hib g rfl
  rw[hg] at h2
  cases h2
  by_cases hroom:n+m≤cap
  ·have hr':=run_append_room (P:=prog) w 30 ty 3 i underlying30 hi g n cap cur hg ad m c news hl' hnews h1 hroom (by rw[hl',hs,hcs];omega)
   rw[hr] at hr'
   injection hr' with e1 e2
   subst e1
   subst e2
   intro g' hg'
   cases hg'
   refine⟨_,_,setRow_heap w g cur _ _ _ hg,fun x hx=>?_⟩
   simp only[List.mem_append] at hx
   rcases hx with(hx|hx)|hx
   ·exact h3 x (List.mem_of_mem_take hx)
   ·exact hint x hx
   ·exact h3 x (List.mem_of_mem_drop hx)
  ·have holds:∀j u,xs[j]? =some u→w.cell? ((⟨g,0,none⟩:Addr).add j)=some u:=hown.cells (g:=g) rfl
   have hr':=run_append_grow (P:=prog) w 30 ty 3 i _ underlying30 hi hz ⟨g,0,none⟩ n cap xs (by rw[hs];exact hown.1) holds ad m c news hl' hnews zo zo (by rw[hby];exact growslice_fits zo hbytes)
   rw[hr] at hr'
   injection hr' with e1 e2
   subst e1
   subst e2
   intro g' hg'
   cases hg'
   refine⟨_,_,heap_alloc_new w.drew _,fun x hx=>?_⟩
   simp only[Array.toList_append,List.mem_append] at hx
   rcases hx with(hx|hx)|hx
   ·rw[← htake] at hx
    exact h3 x (List.mem_of_mem_take hx)
   ·exact hint x hx
   ·exact Dl _ x hx
theorem E5{o:Oper}{a:Act}{K:Act→World→Prop}{Q:Exit→Act→World→Prop}{s x:Operand}{i:TypeInfo}(ho:o.op=.call {callee:=.builtin .append,args:=#[s,x],argTypes:=#[30,30] })
 (base:Nat)(hi:Tryz.prog.info? 3=some i)(hz:i.zero=some (int i64 0))(hs:i.size=1)(hby:i.bytes=8)(v:Value)(n:Nat)(xs:List Value)(hv:a.eval s=v)(hown:w.ownsRow base 3 1 v n xs)(hib:jH w v)
 (ad:Addr)(m c:Nat)(news:List Value)(hx:a.eval x=.slice (some ad) m c)(hl:news.length=m)(hnews:∀j u,news[j]? =some u→w.cell? (ad.add j)=some u)(hint:∀u∈news,∃k,u=int i64 k)(hm:0<m)(h63:n+m≤maxLen)(hbytes:(n+m) * 8≤140737488355328)(hbase:base≤w.heap.size)(H:Nat)(hH:w.heap.size=H)
 (h:∀g cap w',w'.ownsRow base 3 1 (.slice (some ⟨g,0,none⟩) (n+m) cap) (n+m) (xs ++ news)→w.grownBy w' v.ownBlock→(v.ownBlock=some g∨g=H)→g<w'.heap.size→jH w' (.slice (some ⟨g,0,none⟩) (n+m) cap)→K (a.put o.dst (.slice (some ⟨g,0,none⟩) (n+m) cap)) w'):o.wp prog a w K Q:=by
 have h1:∀u∈news,u.oneCell'=true:=fun u hu=>by obtain⟨k,rfl⟩:=hint u hu;rfl
 obtain⟨g,cap,w',hr,h2,h3,h4,h5⟩:=run_append_lies (P:=prog) w 30 o.type base 3 i _ 1 8 underlying30 hi hz hs hby rfl zo v n xs hown ad m c news zo hnews h1 hm h63 hbytes hbase H hH
 have h6:=Bj hi hz hs hby hown hib hl hnews hint hm h63 hbytes hr
 unfold Oper.wp execOp
 simp only[ho,resolve,invoke,builtin,Sem.run_bind,Sem.run_pure,Result.andThen_ok,List.map_toArray,List.map_cons,List.map_nil,hv,hx,hr]
 exact h g cap w' h2 h3 h4 h5 h6
end
theorem NC(b:Bk)(w:World)(h:b.At w w.heap.size)(hm:b.nm≤6):CallsIn FF 0 prog 70 #[b.val] w fun e w'=>∃v,e=.returned v∧w'.ownsRow w.heap.size 3 1 v (bP b (2 ^ b.nm)).length ((bP b (2 ^ b.nm)).map (int i64))∧Below w.heap.size w w'∧jH w' v:=by
 obtain⟨days,most,gA,ng,gc,g,mA,nm,mc,m,cA,nc,cc,c⟩:=b
 simp only[Bk.val,Bk.cells]
 simp only at hm
 have qv:2 ^ nm≤64:=Nat.le_trans (Nat.pow_le_pow_right zD hm) zD
 have eW:wrap64 ((2:Int) ^ nm)=((2 ^ nm:Nat):Int):=by
  have e:((2:Int) ^ nm)=((2 ^ nm:Nat):Int):=by push_cast;rfl
  have key:∀M:Nat,M≤64→wrap64 (M:Int)=(M:Int):=fun M h=>IntWalk.wrap64_in _ zo
  rw[e];exact key _ qv
 have Hh:=hid h
 clear h
 obtain⟨i0,hi,hz0,hz1,hz2⟩:=info_parts info3
 have hi0:=hid hi
 clear hi
 gi_enter func70,ntmps70
 gi_wp2
 apply LA
 gi_wp2
 apply wpIn_label
 gi_wp2
 rw[eW]
 clear eW
 obtain⟨M,hM⟩:∃M:Nat,M=2 ^ nm:=⟨_,rfl⟩
 rw[← hM] at qv⊢
 have HM:=hid hM
 clear hM
 gi_loopw [3,12] (fun l i wr=>∃k:Nat,k≤M∧i=int i64 k∧Hid (wr.ownsRow (w.heap.size+1) 3 1 l (bP (⟨days,most,gA,ng,gc,g,mA,nm,mc,m,cA,nc,cc,c⟩:Bk) k).length ((bP (⟨days,most,gA,ng,gc,g,mA,nm,mc,m,cA,nc,cc,c⟩:Bk) k).map (int i64))∧Below (w.heap.size+1) (w.alloc (.cells #[int i64 days,int i64 most,.slice gA ng gc,.slice mA nm mc,.slice cA nc cc] 71)) wr∧jH wr l)) (fun _ i _=>M - (intOf i).toNat)
 case atStart=>exact⟨0,Nat.zero_le _,rfl,hid ⟨ji _ (w.heap.size+1) 3,Below.refl _ _,jH.nil _⟩⟩
 case round=>
  obtain⟨k,hk,rfl,hR⟩:=hrel
  obtain⟨A,n,cp,rfl⟩:=fO hR.out.1
  have hsz:w.heap.size+1≤wr.heap.size:=by have:=hR.out.2.1.size;simpa using this
  by_cases hlt:k<M
  ·obtain⟨wo,rfl⟩:∃wo:World,wo=wr:=⟨_,rfl⟩
   gi_wp2_with (gi_at_call 100;refine(mO k wo zo).mono ?_;rintro e w2 ⟨v2,rfl,hown2,hb2⟩;obtain⟨A2,c2,rfl⟩:=dD hown2;have HB2:=hid hb2;have HO2:=hid hown2;clear hb2 hown2)
   have Lk:k<2 ^ nm:=by have:=HM.out;omega
   have hs2:wo.heap.size≤w2.heap.size:=HB2.out.size
   have tY:Hid ((⟨days,most,gA,ng,gc,g,mA,nm,mc,m,cA,nc,cc,c⟩:Bk).At w2 (w.heap.size+1)):=hid (((Hh.out.alloc (Nat.le_refl _) (.cells #[int i64 days,int i64 most,.slice gA ng gc,.slice mA nm mc,.slice cA nc cc] 71)).more (Nat.le_succ _)).below (hR.out.2.1.trans (HB2.out.mono hsz)))
   have JY:Hid (∀o,w2.cell? ⟨w.heap.size,o,none⟩=(w.alloc (.cells #[int i64 days,int i64 most,.slice gA ng gc,.slice mA nm mc,.slice cA nc cc] 71)).cell? ⟨w.heap.size,o,none⟩):=hid fun o=>(HB2.out.cell (p:=⟨w.heap.size,o,none⟩) zm).trans (hR.out.2.1.cell (p:=⟨w.heap.size,o,none⟩) zs)
   have hI2:Hid (Ints w2 w2.heap.size A2 (aM k 10).length (fun i=>(aM k 10).getD i 0)):=hid (aT HO2.out)
   have hll:=uz k 10
   obtain⟨L,hL⟩:∃L:List Int,L=aM k 10:=⟨_,rfl⟩
   have HL:=hid hL
   rw[← hL] at hI2 hll⊢
   clear hL
   gi_loopw [18] (fun j wj=>∃q:Nat,q≤L.length∧j=int i64 q∧Hid (Below w2.heap.size w2 wj∧∀i,i<q→(m (L.getD i 0).toNat).kind=0)) (fun j _=>L.length - (intOf j).toNat)
   case atStart=>exact⟨0,Nat.zero_le _,rfl,hid ⟨Below.refl _ _,fun i hi=>absurd hi (Nat.not_lt_zero i)⟩⟩
   case round=>
    obtain⟨q,hq,rfl,hS⟩:=hrel
    have hs3:w2.heap.size≤wr.heap.size:=hS.out.1.size
    have Xo:w.heap.size<wr.heap.size:=zo
    have hbx:∀o,wr.cell? ⟨w.heap.size,o,none⟩=(w.alloc (.cells #[int i64 days,int i64 most,.slice gA ng gc,.slice mA nm mc,.slice cA nc cc] 71)).cell? ⟨w.heap.size,o,none⟩:=fun o=>(hS.out.1.cell (p:=⟨w.heap.size,o,none⟩) zm).trans (JY.out o)
    have HB3:Hid (Below (w.heap.size+1) wo wr):=hid ((HB2.out.mono hsz).trans (hS.out.1.mono zo))
    by_cases hq2:q<L.length
    ·obtain⟨ad,rfl,hbl,hcl⟩:=hI2.out (show 0<L.length by omega)
     obtain⟨i,hi,aaC,hib⟩:=Py (s:=k) (k:=10) (x:=L[q]) (by rw[← HL.out];exact List.getElem_mem hq2)
     have hig:L.getD q 0=(i:Int):=by rw[← hi];simp[hq2]
     have hin:i<nm:=en Lk hib
     have cq:wr.cell? (ad.add q)=some (int i64 i):=by
      have e:=Ints.at_ hI2.out hq2
      rw[hig] at e
      exact(hS.out.1.cell (by rw[aD];exact hbl)).trans e
     have hN:CallsIn FF 0 prog 46 #[.agg #[int i64 days,int i64 most,.slice gA ng gc,.slice mA nm mc,.slice cA nc cc],int i64 i] wr fun e w'=>e=.returned (.bool (decide ((m i).kind=0)))∧Below wr.heap.size wr w':=tX ⟨days,most,gA,ng,gc,g,mA,nm,mc,m,cA,nc,cc,c⟩ i wr ((tY.out.below (hS.out.1.mono zo)).more zo) hin
     clear hcl hi
     by_cases hz:(m i).kind=0
     ·rw[decide_eq_true hz] at hN
      gi_wp2_with (gi_at_call 46;refine hN.mono ?_;rintro e w3 ⟨rfl,hb3⟩)
      go_roundw
      case rel=>exact⟨q+1,zo,by go_num,hid ⟨hS.out.1.trans (hb3.mono hs3),eX hS.out.2 (by rw[hig];exact hz)⟩⟩
      case measure=>simp[intOf];omega
     ·rw[decide_eq_false hz] at hN
      gi_wp2_with (gi_at_call 46;refine hN.mono ?_;rintro e w3 ⟨rfl,hb3⟩)
      have hw3:Below wo.heap.size wo w3:=HB2.out.trans ((hS.out.1.trans (hb3.mono hs3)).mono hs2)
      have e4:=uW ⟨days,most,gA,ng,gc,g,mA,nm,mc,m,cA,nc,cc,c⟩ k
      rw[if_neg (by unfold OQ;rw[decide_eq_false (fun h=>hz (h i hin hib))];decide),List.append_nil] at e4
      exact⟨⟨k+1,zo,by go_num,hid ⟨by rw[e4];exact own_below hR.out.1 hw3,hR.out.2.1.trans (hw3.mono hsz),hR.out.2.2.below hw3⟩⟩,by simp[intOf];omega⟩
    ·obtain rfl:q=L.length:=zo
     have sE:OQ ⟨days,most,gA,ng,gc,g,mA,nm,mc,m,cA,nc,cc,c⟩ k=true:=decide_eq_true (fun i hi hib=>by
      have hmem:(i:Int)∈L:=by rw[HL.out];exact Px (by simp only at hi;omega) hib
      obtain⟨j,hj,mS⟩:=List.mem_iff_getElem.1 hmem
      have:=hS.out.2 j hj
      rwa[show L.getD j 0=(i:Int) by rw[← mS];simp[hj]] at this)
     have e4:=uW ⟨days,most,gA,ng,gc,g,mA,nm,mc,m,cA,nc,cc,c⟩ k
     rw[if_pos sE] at e4
     have E4:=hid e4
     have hle:=Km ⟨days,most,gA,ng,gc,g,mA,nm,mc,m,cA,nc,cc,c⟩ k
     have hw3:Below wo.heap.size wo wr:=HB2.out.trans (hS.out.1.mono hs2)
     have hown:=own_below hR.out.1 hw3
     have Ho:=hid hown
     have HI9:=hid (hR.out.2.2.below hw3)
     have Wt:=hid hw3
     clear e4 hown hw3 sE
     gi_wp2_with (gi_at_builtin;refine aF rfl rfl rfl fun K5 jK=>?_;refine E5 rfl (w.heap.size+1) hi0.out hz0 hz1 hz2 (.slice A n cp) (bP ⟨days,most,gA,ng,gc,g,mA,nm,mc,m,cA,nc,cc,c⟩ k).length _ rfl (aL Ho.out _) (HI9.out.alloc _) ⟨wr.heap.size,0,none⟩ 1 1 [_] rfl rfl (World.news_of_block (heap_alloc_new wr _)) zs zo zu zo zm (wr.heap.size+1) zs ?_;intro rV qJ w5 hown5 aU nI qO Kx;refine jK _ _ ?_;clear jK K5)
     exact⟨⟨k+1,zo,by go_num,hid ⟨by rw[E4.out,List.length_append,List.map_append];exact hown5,((hR.out.2.1.trans (Wt.out.mono hsz)).alloc zo _).trans (below_grown aU zm (fun g hg=>(bG Ho.out hg).1)),Kx⟩⟩,by simp[intOf];omega⟩
  ·obtain rfl:k=M:=zo
   have HM2:=HM.out
   gi_wp2
   rw[Exit.noGoto_ret]
   go_ret
   exact⟨_,rfl,by rw[← HM2];exact⟨hR.out.1.1,hR.out.1.2.imp id (fun⟨g,cap,cur,h1,h2,h3⟩=>⟨g,cap,cur,h1,zo,h3⟩)⟩,((Below.refl _ _).alloc (Nat.le_refl _) _).trans (hR.out.2.1.mono zs),hR.out.2.2⟩
end
end Go.Proofs.YtmjjocnfidnelaaGreat
