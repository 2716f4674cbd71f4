/- P6 P7a Qt W0 WP1 WP7 P7 Scope P8 P9 P10 P11 P12 P13 P21 TK1 P18 WP12 WP13 WP18 P19 P20 WA WB WC -/
import Derived.Test.YtpmafoalhnaokaaGreatA1
import Derived.Lib.RabinKarpLaws
import Derived.StillTail
import Derived.Lib.QuietBelowIn
import Derived.Scope
set_option maxRecDepth 100000
set_option maxHeartbeats 16000000
set_option linter.unusedVariables false
set_option linter.unusedSectionVars false
open Go.IntKind(i64)
open Go.Lib(hid)
open Go.Proofs.Tryz
open Go.Value(int)
namespace Go.Proofs.YtpmafoalhnaokaaGreat
section
open Go.RowKit
theorem YL(b:Bk)(w:World):CallsIn FF 0 prog 110 #[b.val] w fun e w'=>∃B,e=.returned (.slice (some ⟨B,0,none⟩) 3 3)∧w.heap.size≤B∧B<w'.heap.size∧(∀o,w'.cell? ⟨B,o,none⟩=Da[o]?)∧Below w.heap.size w w':=by
 obtain⟨dY,mO,gA,ng,gc,g,mA,nm,mc,m,cA,nc,cc,c⟩:=b
 simp only[Bk.val,Bk.cells]
 gi_enter func110,ntmps110
 gi_wp2
 go_ret
 refine⟨w.heap.size+1,rfl,zo,zs,fun o=>?_,bw⟩
 have e:=(Whole.new (w.alloc (.cells #[int i64 dY,int i64 mO,.slice gA ng gc,.slice mA nm mc,.slice cA nc cc] 73)) 188 Da).cell o
 rw[show(w.alloc (.cells #[int i64 dY,int i64 mO,.slice gA ng gc,.slice mA nm mc,.slice cA nc cc] 73)).heap.size=w.heap.size+1 by simp] at e
 exact e
structure Bk.But(b:Bk)(r:Int):Prop where
 dY:1≤b.dY∧b.dY≤99
 mO:0≤b.mO∧b.mO≤2
 bE:gQ b
 moves:gT b
 nc:b.nc≤6
 counts:∀i,i+1<b.nc→Ct.ok b (b.c i)
 many:¬ b.nc≤4→r=2
 few:b.nc≤4→0<b.nc→r=nR b (b.c (b.nc - 1))
 none:b.nc=0→r=0
theorem i6(b:Bk)(w:World)(h:b.At w w.heap.size){r:Int}(ok:b.But r)(hcap:b.ng≤b.gc):CallsIn FF 0 prog 83 #[b.val] w fun e w'=>e=.returned (int i64 r)∧Below w.heap.size w w':=by
 have i1:=hid (aT.2 ok.dY)
 have i2:=hid (aT.2 ok.mO)
 obtain⟨dY,mO,gA,ng,gc,g,mA,nm,mc,m,cA,nc,cc,c⟩:=b
 have hL:∀w,CallsIn FF 0 prog 110 #[.agg #[int i64 dY,int i64 mO,.slice gA ng gc,.slice mA nm mc,.slice cA nc cc]] w fun e w'=>∃B,e=.returned (.slice (some ⟨B,0,none⟩) 3 3)∧w.heap.size≤B∧B<w'.heap.size∧(∀o,w'.cell? ⟨B,o,none⟩=Da[o]?)∧Below w.heap.size w w':=fun w=>YL ⟨dY,mO,gA,ng,gc,g,mA,nm,mc,m,cA,nc,cc,c⟩ w
 have hF:∀B w,(⟨dY,mO,gA,ng,gc,g,mA,nm,mc,m,cA,nc,cc,c⟩:Bk).At w w.heap.size→B<w.heap.size→(∀o,w.cell? ⟨B,o,none⟩=Da[o]?)→CallsIn FF 0 prog 109 #[.agg #[int i64 dY,int i64 mO,.slice gA ng gc,.slice mA nm mc,.slice cA nc cc],.slice (some ⟨B,0,none⟩) 3 3] w fun e w'=>e=.returned (int i64 r)∧Below w.heap.size w w':=fun B w hA hB hl=>Yh ⟨dY,mO,gA,ng,gc,g,mA,nm,mc,m,cA,nc,cc,c⟩ B w hA ok.bE ok.moves ok.nc ok.counts r ok.many ok.few ok.none hcap hB hl
 simp only[Bk.val,Bk.cells]
 have Hh:=hid h
 clear h ok hcap
 simp only at i1 i2
 gi_enter func83,ntmps83
 gi_wp2_with (gi_at_call 65;refine(dw _ _ _ _).mono ?_;rintro e w' ⟨he,rfl⟩;(first|rw[i1.out] at he|rw[i2.out] at he);subst he)
 gi_region_with (first
  | (gi_at_call 110;refine(hL _).mono ?_;rintro e w2 ⟨B,rfl,hB1,hB2,hl2,hb2⟩;have hW:Below w.heap.size w w2:=(bw:Below w.heap.size w _).trans (hb2.mono zs);obtain⟨hc2,hf2⟩:=fu hb2;have hs2:w.heap.size<w2.heap.size:=by have:=hb2.size;simp at this;omega)
  | (gi_at_call 109;refine(hF B _ ((Hh.out.below hW).more hW.size) hB2 hl2).mono ?_;rintro e w3 ⟨rfl,hb3⟩))
 all_goals (gi_wp2;go_ret;exact⟨rfl,hW.trans (hb3.mono hW.size)⟩)
theorem Ni(b:Bk)(w:World)(h:b.At w w.heap.size){r:Int}(ok:b.But r)(hcap:b.ng≤b.gc):CallsIn FF 0 prog 42 #[b.val] w fun e w'=>e=.returned (int i64 r)∧Below w.heap.size w w':=by
 obtain⟨dY,mO,gA,ng,gc,g,mA,nm,mc,m,cA,nc,cc,c⟩:=b
 have hL:∀w,(⟨dY,mO,gA,ng,gc,g,mA,nm,mc,m,cA,nc,cc,c⟩:Bk).At w w.heap.size→CallsIn FF 0 prog 83 #[.agg #[int i64 dY,int i64 mO,.slice gA ng gc,.slice mA nm mc,.slice cA nc cc]] w fun e w'=>e=.returned (int i64 r)∧Below w.heap.size w w':=fun w h=>i6 ⟨dY,mO,gA,ng,gc,g,mA,nm,mc,m,cA,nc,cc,c⟩ w h ok hcap
 simp only[Bk.val,Bk.cells]
 have Hh:=hid h
 clear h ok hcap
 gi_enter func42,ntmps42
 gi_wp2_with (gi_at_call 83;refine(hL _ ((Hh.out.alloc zL _).more zs)).mono ?_;rintro e w2 ⟨rfl,hb2⟩)
 go_ret
 exact⟨rfl,(bw:Below w.heap.size w _).trans (hb2.mono zs)⟩
theorem Nj(b:Bk)(w:World)(h:b.At w w.heap.size)(ok:b.Ok)(hcap:b.ng≤b.gc):CallsIn FF 0 prog 42 #[b.val] w fun e w'=>e=.returned (int i64 0)∧Below w.heap.size w w':=
 have o4:=ok.counts.1
 Ni b w h (r:=0) ⟨ok.dY,ok.mO,ok.bE,ok.moves,zo,fun i hi=>ok.counts.2 i zo,fun h=>absurd o4 h,fun _ h0=>((nS _ _).2 (ok.counts.2 _ zo)).symm,fun _=>rfl⟩ hcap
def aM(s k:Nat):List Int:=((List.range k).filter fun n=>s / 2 ^ n % 2 == 1).map fun(n:Nat)=>(n:Int)
theorem yT(s k:Nat):aM s (k+1)=aM s k ++ if s / 2 ^ k % 2=1 then[(k:Int)] else[]:=by
 unfold aM
 rw[List.range_succ,List.filter_append,List.map_append]
 by_cases h:s / 2 ^ k % 2=1 <;> simp[h]
theorem uS(s k:Nat):(aM s k).length≤k:=by
 unfold aM
 rw[List.length_map]
 exact Nat.le_trans (List.length_filter_le _ _) zs
theorem DC(s k:Nat)(h:s / 2 ^ k=0):∀j,aM s (k+j)=aM s k
 | 0=>rfl
 | j+1=>by
   rw[← Nat.add_assoc,yT,DC s k h j,if_neg,List.append_nil]
   rw[Nat.pow_add,← Nat.div_div_eq_div_mul,h,Nat.zero_div]
   decide
end
section
open Go Go.Sort Go.RowKit
section
variable{F:Fence}{n:Nat}{P:Program}{ops:Array Oper}{Q:Exit→Act→World→Prop}{md:Region.Mode}{S:World→Prop}{T:Act→World→Prop}{N:Nat}
def nC(md:Region.Mode)(ops:Array Oper):Nat→Nat→Array Bool→Bool
 | 0,_,listed=>Region.ready md ops listed == []
 | c+1,t,listed=>Region.ready md ops listed == [t] && nC md ops c (t+1) (listed.setIfInBounds t true)
theorem jy:∀ (l:List Oper) (t:Nat) (listed:Array Bool) (a:Act) (w:World),(∀j,j<l.length→l[j]? =ops[t+j]?)→nC md ops l.length t listed=true→wpListIn F n P ops Q l a w→wpAnyIn F n P md ops Q l.length listed a w
 | [],_,_,_,_,_,hB,h=>⟨by simpa [nC] using hB,h⟩
 | o :: l,t,listed,a,w,hl,hB,h=>by
   have h0:ops[t]? =some o:=by simpa using (hl 0 zs).symm
   simp only[List.length_cons,nC,Bool.and_eq_true,beq_iff_eq] at hB
   refine⟨(fun h0=>by rw[hB.1] at h0;cases h0),fun i hi=>?_⟩
   rw[hB.1] at hi
   obtain rfl:i=t:=by simpa using hi
   have hK:∀a w,wpListIn F n P ops Q l a w→wpAnyIn F n P md ops Q l.length (listed.setIfInBounds i true) a w:=fun a w h=>jy l (i+1) _ a w (fun j hj=>by have:=hl (j+1) (by simpa using hj);simpa [Nat.add_assoc,Nat.add_comm 1 j] using this) hB.2 h
   refine wpOpIn_mono (fun a' w' hq=>hK a' w' hq) ?_
   unfold wpOpIn
   simp only[h0]
   exact h
def A8(F:Fence)(n:Nat)(P:Program)(md:Region.Mode)(ops:Array Oper)(S:World→Prop)(T:Act→World→Prop)(N:Nat):Nat→Array Bool→Act→Prop
 | 0,listed,a=>(nC md ops (ops.size - N) N listed=true∧Region.ready md ops listed=[N])∧∀w,S w→T a w
 | fuel+1,listed,a=>(Region.ready md ops listed≠[]∧∀i∈Region.ready md ops listed,i<N)∧∀i∈Region.ready md ops listed,qOpIn F n P ops S i (A8 F n P md ops S T N fuel (listed.setIfInBounds i true)) a
theorem nE(hro:F.round=none)(hT:∀listed a w,nC md ops (ops.size - N) N listed=true→T a w→wpAnyIn F n P md ops Q (ops.size - N) listed a w):∀ (fuel:Nat) (listed:Array Bool) (a:Act) (w:World),S w→A8 F n P md ops S T N fuel listed a→wpAnyIn F n P md ops Q (ops.size - N+fuel) listed a w
 | 0,_,a,w,hw,h=>hT _ a w h.1.1 (h.2 w hw)
 | fuel+1,_,_,_,hw,h=>⟨fun h0=>absurd h0 h.1.1,fun i hi=>wpOpIn_of_qOpIn hro hw (fun a' w' hw'=>nE hro hT fuel _ a' w' hw') (h.2 i hi)⟩
theorem F6{i:Nat}{oi:Oper}{v:Value}(hs:Region.sinkB md ops N=true)(hc:Region.chainB md ops N=true)(hN:N<ops.size)(hi:ops[i]? =some oi)(hsel:∀ (j:Nat) (o:Oper) cs b,ops[j]? =some o→o.op≠.select cs b)(hiN:i<N):
 ∀ (fuel:Nat) (listed:Array Bool) (a:Act),HeadInv md ops N listed→
   (∀j oj,ops[j]? =some oj→j≠i→listed.getD j true=false→(∀e∈oj.after,Region.binds md e=true→e.on≠i)→oi.apart ops oj=true)→
   i∈Region.ready md ops listed→YieldsQuiet F n P ops S oi v a→
   A8 F n P md ops S T N fuel (listed.setIfInBounds i true) (a.put oi.dst v)→A8 F n P md ops S T N (fuel+1) listed a:=by
 intro fuel
 induction fuel with
 | zero=>
   intro listed a inv _ hr hy H
   have hun:=(mem_ready.1 hr).1
   have hlt:∀t∈Region.ready md ops listed,t<N:=fun t ht=>Nat.lt_of_not_le fun h=>tail_waits hs hc hN inv _ i rfl hiN hun t h ht
   refine⟨⟨fun h=>(by rw[h] at hr;cases hr),hlt⟩,fun j hj=>?_⟩
   by_cases hji:j=i
   ·subst hji;exact hy.qOpIn hi H
   ·have:=ready_mono hj hji
    rw[H.1.2] at this
    have h1:j=N:=by simpa using this
    have:=hlt j hj
    omega
 | succ fuel ih=>
   intro listed a inv hfree hr hy H
   have hun:=(mem_ready.1 hr).1
   have hlt:∀t∈Region.ready md ops listed,t<N:=fun t ht=>Nat.lt_of_not_le fun h=>tail_waits hs hc hN inv _ i rfl hiN hun t h ht
   refine⟨⟨fun h=>(by rw[h] at hr;cases hr),hlt⟩,fun j hj=>?_⟩
   by_cases hji:j=i
   ·subst hji;exact hy.qOpIn hi H
   ·have h1:=H.2 j (ready_mono hj hji)
    obtain⟨hjun,oj,hoj,hall⟩:=mem_ready.1 hj
    have hnot:∀e∈oj.after,Region.binds md e=true→e.on≠i:=fun e he hb heq=>by
     have h1:=hall e he hb
     have h0:=(mem_ready.1 hr).1
     rw[heq] at h1
     rcases Nat.lt_or_ge i listed.size with h'|h'
     ·simp[h'] at h0 h1;rw[h0] at h1;cases h1
     ·simp[Array.getElem?_eq_none h'] at h1
    have h2:=qOpIn_put hoj (hfree j oj hoj hji hjun hnot) (fun cs b=>hsel i oi cs b hi) (fun cs b=>hsel j oj cs b hoj) hy h1
    have hfree':∀k ok,ops[k]? =some ok→k≠i→(listed.setIfInBounds j true).getD k true=false→
     (∀e∈ok.after,Region.binds md e=true→e.on≠i)→oi.apart ops ok=true:=fun k ok hk hki hun hno=>by
     refine hfree k ok hk hki ?_ hno
     by_cases hjk:j=k
     ·subst hjk;exact hjun
     ·rw[getD_set_ne true hjk] at hun;exact hun
    refine qOpIn_mono (fun a' h3=>ih (listed.setIfInBounds j true) a' (inv.set hj (hlt j hj)) hfree' (ready_mono hr (Ne.symm hji)) h3.1 ?_) h2
    rw[Array.setIfInBounds_comm _ _ hji]
    exact h3.2
def oI(md:Region.Mode)(ops:Array Oper)(N:Nat):Nat→Nat→Array Bool→Bool
 | 0,_,listed=>nC md ops (ops.size - N) N listed && Region.ready md ops listed == [N]
 | fuel+1,k,listed=>(Region.ready md ops listed).contains k && Region.free md ops listed k && oI md ops N fuel (k+1) (listed.setIfInBounds k true)
theorem rH(hsel:Region.noSelect ops=true)(hs:Region.sinkB md ops N=true)(hc:Region.chainB md ops N=true)(hN:N<ops.size):∀ (l:List Oper) (k:Nat) (listed:Array Bool) (a:Act),(∀j,j<l.length→l[j]? =ops[k+j]?)→k+l.length=N→HeadInv md ops N listed→
 oI md ops N l.length k listed=true→wpQuietIn F n P ops S (fun a=>∀w,S w→T a w) l a→A8 F n P md ops S T N l.length listed a
 | [],_,_,_,_,_,_,hB,h=>by
   simp only[List.length_nil,oI,Bool.and_eq_true,beq_iff_eq] at hB
   exact⟨hB,h⟩
 | o :: l,k,listed,a,hl,hk,inv,hB,h=>by
   have h0:ops[k]? =some o:=by simpa using (hl 0 zs).symm
   simp only[List.length_cons] at hk
   simp only[List.length_cons,oI,Bool.and_eq_true] at hB
   obtain⟨⟨hr,hf⟩,hB'⟩:=hB
   have hr':k∈Region.ready md ops listed:=by simpa using hr
   have hst:qOpIn F n P ops S k (wpQuietIn F n P ops S (fun a=>∀w,S w→T a w) l) a:=by unfold qOpIn;simp only[h0];exact h
   obtain⟨v,hy,hK⟩:=yieldsQuiet_of_qOpIn h0 hst
   exact F6 hs hc hN h0 (Region.noSelect_spec hsel) zo l.length listed a inv (Region.free_spec h0 hf) hr' hy
    (rH hsel hs hc hN l (k+1) _ _ (fun j hj=>by have:=hl (j+1) (by simpa using hj);simpa [Nat.add_assoc,Nat.add_comm 1 j] using this) zo (inv.set hr' zo) hB' hK)
def JC(ops:Array Oper)(N:Nat):Bool:=Region.noSelect ops && Region.sinkB .any ops N && Region.chainB .any ops N && decide (N<ops.size) && oI .any ops N N 0 (Array.replicate ops.size false)
theorem aJ{id:Nat}{a:Act}{w:World}{l:List Oper}(N:Nat)(hro:F.round=none)(hm:P.follows .mixedOrders=true)(hB:JC l.toArray N=true)
 (h:wpQuietIn F n P l.toArray (fun w'=>∃p:Regrown,w'=grow (redrawn w p.d) p.os) (fun a'=>∀w',(∃p:Regrown,w'=grow (redrawn w p.d) p.os)→wpListIn F n P l.toArray Q (l.drop N) a' w') (l.take N) a):(Code.region id l.toArray true).wpIn F n P Q a w:=by
 simp only[JC,Bool.and_eq_true,decide_eq_true_eq] at hB
 obtain⟨⟨⟨⟨h1,h2⟩,h3⟩,h4⟩,h5⟩:=hB
 have hlen:N<l.length:=by simpa using h4
 refine wpIn_region_any hm ?_
 have htl:(l.take N).length=N:=zm
 have inv:HeadInv .any l.toArray N (Array.replicate l.toArray.size false):=⟨zs,fun j oj hj hl=>by rw[getD_replicate_false] at *;simp_all,fun t ht ht'=>getD_in (by simpa using ht') (getD_replicate_false _ _)⟩
 have:=rH (F:=F) (n:=n) (P:=P) (md:=.any) (ops:=l.toArray) (N:=N) (S:=fun w'=>∃p:Regrown,w'=grow (redrawn w p.d) p.os) (T:=wpListIn F n P l.toArray Q (l.drop N)) h1 h2 h3 h4 (l.take N) 0 (Array.replicate l.toArray.size false) a
  (fun j hj=>by rw[htl] at hj;simp[hj]) zo inv (by rw[htl];exact h5) h
 rw[htl] at this
 have h6:=nE (Q:=Q) hro (N:=N) (fun listed a w hB h=>by
  have hd:(l.drop N).length=l.toArray.size - N:=zs
  have:=jy (F:=F) (n:=n) (P:=P) (md:=.any) (ops:=l.toArray) (Q:=Q) (l.drop N) N listed a w (fun j hj=>zs) (by rw[hd];exact hB) h
  rw[hd] at this
  exact this) N _ a {w with drawn:=w.drawn+1 } ⟨⟨w.drawn+1,#[]⟩,by rw[grow_empty];rfl⟩ this
 rw[show l.toArray.size - N+N=l.toArray.size by omega] at h6
 exact h6
end
end
section
open Go
def SF:Fence:={fn:=fun g=>g=100∨g=101∨g=102∨g=39∨g=79∨g=80∨g=103∨g=130∨g=131∨g=81∨g=104∨g=105∨g=106∨g=107∨g=108∨g=132∨g=92∨g=65∨g=88∨g=120∨g=139∨g=140∨g=55∨g=59∨g=77 }
@[simp] theorem VK(g:FuncId):SF.fn g↔g=100∨g=101∨g=102∨g=39∨g=79∨g=80∨g=103∨g=130∨g=131∨g=81∨g=104∨g=105∨g=106∨g=107∨g=108∨g=132∨g=92∨g=65∨g=88∨g=120∨g=139∨g=140∨g=55∨g=59∨g=77:=Iff.rfl
@[simp] theorem CH:SF.depth=none:=rfl
@[simp] theorem CI:SF.round=none:=rfl
theorem Je{g:FuncId}(h:SF.fn g):FF.fn g:=by
 rw[qO]
 rcases(VK g).1 h with h|h|h|h|h|h|h|h|h|h|h|h|h|h|h|h|h|h|h|h|h|h|h|h|h <;> subst h <;> simp
theorem fZ{I I':Machine→Prop}(hI:∀m,I m→I' m){P:Program}{m m':Machine}(h:StepsIn I P m m'):StepsIn I' P m m':=by
 induction h with
 | refl=>exact .refl _
 | head h1 h2 h3 ih=>exact .head (hI _ h1) h2 ih
theorem CallsIn.wider{n:Nat}{P:Program}{f:FuncId}{args:Array Value}{w:World}{R:Ending→World→Prop}(h:CallsIn SF n P f args w R):CallsIn FF n P f args w R:=by
 refine⟨Je h.1,fun cs _=>?_⟩
 obtain⟨e,w',fr,r,hs,rest⟩:=h.2 cs (fun d hd=>by cases hd)
 have hm:∀m:Machine,m.fenced P SF→m.fenced P FF:=fun m hm g hg=>by
  obtain⟨a,b,c,d⟩:=hm g hg
  exact⟨a,b.imp Je id,fun f hf=>Je (c f hf),fun d hd=>by cases hd⟩
 refine⟨e,w',fr,r,?_,rest⟩
 cases e with
 | returned v=>exact fZ hm hs
 | panicked c=>exact fZ hm hs
 | outgrown=>exact hs
end
end Go.Proofs.YtpmafoalhnaokaaGreat
namespace Go.Proofs.YtpmafoalhnaokaaGreat.W
section
open Go.RowKit
theorem dw(n lo hi:Int)(w:World):CallsIn SF 0 prog 65 #[int i64 n,int i64 lo,int i64 hi] w fun e w'=>e=.returned (.bool (fJ n lo hi))∧w=w':=by
 gi_enter func65,ntmps65
 gi_wp2
 all_goals (go_ret;refine⟨?_,rfl⟩;congr 2;unfold fJ;first|rfl|(simp;omega)|simp_all)
theorem mx(a b:Int)(w:World):CallsIn SF 0 prog 139 #[int i64 a,int i64 b] w fun e w'=>e=.returned (int i64 (wrap64 (a+b)))∧w=w':=by
 gi_enter func139,ntmps139
 gi_wp2
 all_goals (go_ret;refine⟨?_,rfl⟩;rfl)
theorem mi(a b:Int)(w:World):CallsIn SF 0 prog 140 #[int i64 a,int i64 b] w fun e w'=>e=.returned (int i64 (wrap64 (a - b)))∧w=w':=by
 gi_enter func140,ntmps140
 gi_wp2
 all_goals (go_ret;refine⟨?_,rfl⟩;rfl)
theorem mU(s:Nat)(w:World)(hs:s<1024):CallsIn SF 0 prog 102 #[int i64 s] w fun e w'=>∃v,e=.returned v∧w'.ownsRow w.heap.size 3 1 v (aM s 10).length ((aM s 10).map (int i64))∧Below w.heap.size w w':=by
 obtain⟨i0,hi,hz0,hz1,hz2⟩:=info_parts info3
 have hi0:=hid hi
 clear hi
 gi_enter func102,ntmps102
 gi_wp2
 gi_loopw [3,4] (fun l i wr=>∃k:Nat,k≤10∧i=int i64 k∧Hid (wr.ownsRow w.heap.size 3 1 l (aM s k).length ((aM s k).map (int i64))∧Below w.heap.size w wr)) (fun _ i _=>11 - (intOf i).toNat)
 case atStart=>exact⟨0,zo,rfl,hid ⟨oV w w.heap.size 3,zB⟩⟩
 case round=>
  obtain⟨k,hk,rfl,hR⟩:=hrel
  obtain⟨A,n,c,rfl⟩:=ig hR.out.1
  have e1:(s:Int) / 2 ^ k=((s / 2 ^ k:Nat):Int):=by push_cast;rfl
  have e2:bits BinOp.and IntKind.i64 ((s / 2 ^ k:Nat):Int) 1=((s / 2 ^ k % 2:Nat):Int):=and_one _ (by have:=Nat.div_le_self s (2 ^ k);omega)
  by_cases h0:s / 2 ^ k=0
  ·have e3:aM s 10=aM s k:=by have:=DC s k h0 (10 - k);rwa[show k+(10 - k)=10 by omega] at this
   have c1:decide (0<(s:Int) / 2 ^ k)=false:=by rw[e1,h0];rfl
   clear e1 e2
   gi_wp2
   all_goals first
    | (go_ret
       exact⟨_,rfl,by rw[e3];exact hR.out.1,hR.out.2⟩)
    | trace_state
  ·have hk2:k<10:=by
    rcases Nat.lt_or_ge k 10 with h|h
    ·exact h
    ·exact absurd (Nat.div_eq_of_lt (Nat.lt_of_lt_of_le hs (Nat.pow_le_pow_right (n:=2) zD h))) h0
   have c1:(0:Int)<(s:Int) / 2 ^ k:=by rw[e1];exact Int.natCast_pos.2 (Nat.pos_of_ne_zero h0)
   have c2:bits BinOp.and IntKind.i64 ((s:Int) / 2 ^ k) 1=((s / 2 ^ k % 2:Nat):Int):=by rw[e1];exact e2
   have e4:=yT s k
   have hlen:=uS s k
   have hB:=hR.out.2.size
   clear e1 e2
   by_cases h1:s / 2 ^ k % 2=1
   ·rw[if_pos h1] at e4
    have c3:(bits BinOp.and IntKind.i64 ((s:Int) / 2 ^ k) 1 == 1)=true:=by rw[c2,h1];rfl
    clear c2
    have Hc:=hid e4
    clear e4
    gi_wp2_with (gi_at_builtin;refine aD rfl rfl rfl fun K5 iI=>?_;refine wp_append_lies _ _ _ _ rfl w.heap.size 3 i0 _ 1 8 underlying51 hi0.out hz0 hz1 hz2 rfl zo (.slice A n c) (aM s k).length _ rfl (bG hR.out.1 _) ⟨wr.heap.size,0,none⟩ 1 1 [_] rfl rfl (World.news_of_block (heap_alloc_new wr _)) (by simp[Value.oneCell']) zo zU zo zm (wr.heap.size+1) zs ?_;intro qQ nQ w5 hown5 aN kI mR;refine iI _ _ ?_;clear iI K5)
    exact⟨⟨k+1,zo,by go_num,hid ⟨by rw[Hc.out,List.length_append,List.map_append];exact hown5,(hR.out.2.alloc hB _).trans (below_grown aN zm (fun g hg=>(aQ hR.out.1 hg).1))⟩⟩,by simp[intOf];omega⟩
   ·rw[if_neg h1,List.append_nil] at e4
    have c3:(bits BinOp.and IntKind.i64 ((s:Int) / 2 ^ k) 1 == 1)=false:=by rw[c2];exact beq_eq_false_iff_ne.2 (fun h=>h1 (by exact_mod_cast h))
    clear c2
    gi_wp2
    go_roundw
    case rel=>exact⟨k+1,zo,by go_num,hid ⟨by rw[e4];exact hR.out.1,hR.out.2⟩⟩
    case measure=>simp[intOf];omega
end
end Go.Proofs.YtpmafoalhnaokaaGreat.W
namespace Go.Proofs.YtpmafoalhnaokaaGreat
section
open Go.RowKit
theorem uH(b:Bk)(i:Nat)(w:World)(h:b.At w w.heap.size)(hi:i<b.nm):CallsIn FF 0 prog 56 #[b.val,int i64 i] w fun e w'=>e=.returned (.bool (decide ((b.m i).kind=0)))∧Below w.heap.size w w':=by
 obtain⟨dY,mO,gA,ng,gc,g,mA,nm,mc,m,cA,nc,cc,c⟩:=b
 simp only at hi
 have hnm:=h.nm
 have hM:∀w,CallsIn FF 0 prog 73 #[.agg #[int i64 dY,int i64 mO,.slice gA ng gc,.slice mA nm mc,.slice cA nc cc],int i64 i] w fun e w'=>e=.returned (.bool true)∧Below w.heap.size w w':=fun w=>by
  have:=CV ⟨dY,mO,gA,ng,gc,g,mA,nm,mc,m,cA,nc,cc,c⟩ i w hnm
  rwa[show fJ (i:Int) 0 ((nm:Int) - 1)=true by unfold fJ;simp;omega] at this
 simp only at hnm
 unfold maxLen at hnm
 obtain⟨ad,hA,hbl,-⟩:=h.m (show 0<nm by omega)
 simp only at hA
 subst hA
 simp only[Bk.val,Bk.cells]
 have Hg:=hid (h.m.alloc zL (.cells #[int i64 dY,int i64 mO,.slice gA ng gc,.slice (some ad) nm mc,.slice cA nc cc] 73))
 clear h
 gi_enter func56,ntmps56
 gi_wp2_with (gi_at_call 73;refine(hM _).mono ?_;rintro e w2 ⟨rfl,hb2⟩;obtain⟨hc2,hf2⟩:=fu hb2;have hs2:w.heap.size<w2.heap.size:=(by have:=hb2.size;simp at this;omega);have c0:w2.cell? (ad.add (i * 5))=some (int i64 (m i).kind):=((Hg.out.below (hb2.mono zs)).row hi).2 0 zD)
 all_goals (go_ret;refine⟨?_,(bw:Below w.heap.size w _).trans (hb2.mono zs)⟩;first|rfl|simp_all)
theorem mU(s:Nat)(w:World)(hs:s<1024):CallsIn FF 0 prog 102 #[int i64 s] w fun e w'=>∃v,e=.returned v∧w'.ownsRow w.heap.size 3 1 v (aM s 10).length ((aM s 10).map (int i64))∧Below w.heap.size w w':=
 CallsIn.wider (Go.Proofs.YtpmafoalhnaokaaGreat.W.mU s w hs)
section
variable{F:Fence}{n:Nat}{P:Program}{b:Frame}{a:Act}{k:List Item}{cs:List Frame}{w:World}{Q:Exit→Act→World→Prop}
theorem gL{c:Code}:step P (lone (b.atR a (.code (.scope c) :: k)) cs w)=.next (lone (b.atR a (.code c :: .inScope c :: k)) cs w):=
 step_lone_go (by simp[stepG,stepG.exec,Frame.atR])
theorem BQ{c:Code}:step P (lone (b.atR a (.inScope c :: k)) cs w)=.next (lone (b.atR a k) cs w):=
 step_lone_go (by simp[stepG,stepG.exec,Frame.atR])
theorem MR{c:Code}(h:c.wpIn F n P (Exit.noGoto Q) a w):(Code.scope c).wpIn F n P Q a w:=by
 intro b k cs hro hb hr
 have h0:(lone (b.atR a (.code (.scope c) :: k)) cs w).fenced P F:=fenced_calm hb hr rfl
 obtain⟨e,a₁,w₁,hq,harr⟩:=h b (.inScope c :: k) cs hro hb hr
 cases e with
 | normal=>exact⟨.normal,a₁,w₁,hq,.head h0 gL (StepsIn.trans harr (.one (fenced_calm hb hr rfl) BQ))⟩
 | exit id'=>
   have hx:exitTo id' (.inScope c :: k)=exitTo id' k:=by simp[exitTo]
   exact⟨.exit id',a₁,w₁,hq,fun k' hk=>.head h0 gL (harr.1 k' (by rw[hx];exact hk)),
    fun hr' hk=>let ⟨k₁,h1,h2⟩:=harr.2 hr' (by rw[hx];exact hk);⟨k₁,h1,.head h0 gL h2⟩⟩
 | goto l=>exact hq.elim
 | ret=>exact⟨_,a₁,w₁,hq,.of_steps (.one h0 gL) harr⟩
 | panic ch=>exact⟨_,a₁,w₁,hq,.of_steps (.one h0 gL) harr⟩
 | outgrown=>exact⟨_,a₁,w₁,hq,.of_steps (.one h0 gL) harr⟩
end
@[go_sem] theorem noGoto_normal {Q:Exit→Act→World→Prop} {a:Act} {w:World}:Exit.noGoto Q .normal a w=Q .normal a w:=rfl
@[go_sem] theorem noGoto_exit {Q:Exit→Act→World→Prop} {a:Act} {w:World} (id:Nat):Exit.noGoto Q (.exit id) a w=Q (.exit id) a w:=rfl
@[go_sem] theorem noGoto_ret {Q:Exit→Act→World→Prop} {a:Act} {w:World}:Exit.noGoto Q .ret a w=Q .ret a w:=rfl
def Qf(b:Bk)(s:Nat):Bool:=decide (∀i,i<b.nm→s / 2 ^ i % 2=1→(b.m i).kind=0)
def bR(b:Bk)(k:Nat):List Int:=((List.range k).filter fun s=>Qf b s).map fun(n:Nat)=>(n:Int)
theorem vD(b:Bk)(k:Nat):bR b (k+1)=bR b k ++ if Qf b k=true then[(k:Int)] else[]:=by
 unfold bR
 rw[List.range_succ,List.filter_append,List.map_append]
 by_cases h:Qf b k=true <;> simp[h]
theorem Lu(b:Bk)(k:Nat):(bR b k).length≤k:=by
 unfold bR
 rw[List.length_map]
 exact Nat.le_trans (List.length_filter_le _ _) zs
theorem QI{s k:Nat}{x:Int}(h:x∈aM s k):∃i:Nat,x=i∧i<k∧s / 2 ^ i % 2=1:=by
 unfold aM at h
 obtain⟨i,hi,rfl⟩:=List.mem_map.1 h
 obtain⟨h1,h2⟩:=List.mem_filter.1 hi
 exact⟨i,rfl,List.mem_range.1 h1,by simpa using h2⟩
theorem QH{s k i:Nat}(hi:i<k)(h:s / 2 ^ i % 2=1):(i:Int)∈aM s k:=by
 unfold aM
 exact List.mem_map.2 ⟨i,List.mem_filter.2 ⟨List.mem_range.2 hi,by simp[h]⟩,rfl⟩
theorem i7{s n i:Nat}(hs:s<2 ^ n)(h:s / 2 ^ i % 2=1):i<n:=by
 rcases Nat.lt_or_ge i n with h1|h1
 ·exact h1
 ·rw[Nat.div_eq_of_lt (Nat.lt_of_lt_of_le hs (Nat.pow_le_pow_right (n:=2) zD h1))] at h
  cases h
def jQ(w:World)(v:Value):Prop:=∀g,v.ownBlock=some g→∃c e,w.heap[g]? =some (.cells c e (0,0))∧∀x∈c.toList,∃n,x=int i64 n
section
variable{w w':World}{v v':Value}
theorem jQ.nil(w:World):jQ w (.slice none 0 0):=fun g h=>by cases h
theorem jQ.of(h:jQ w v)(hk:∀g,v.ownBlock=some g→g<w.heap.size→w'.heap[g]? =w.heap[g]?):jQ w' v:=fun g hg=>by
 obtain⟨c,e,h1,h2⟩:=h g hg
 exact⟨c,e,(hk g hg (Array.getElem?_eq_some_iff.1 h1).1).trans h1,h2⟩
theorem jQ.below(h:jQ w v)(hb:Below w.heap.size w w'):jQ w' v:=h.of fun _ _ hl=>hb.block _ hl
theorem jQ.alloc(h:jQ w v)(o:Obj):jQ (w.alloc o) v:=h.of fun _ _ hl=>Below.heap_alloc _ _ _ hl
theorem jQ.other{p:Addr}(h:jQ w v)(hne:∀g,v.ownBlock=some g→g≠p.block)(x:Value):jQ (w.setCell p x) v:=h.of fun g hg _=>Below.heap_setCell _ _ _ _ (hne g hg)
theorem D8(k:Nat):∀x∈(Builtin.zeroCells (int i64 0).cells k).toList,∃n,x=int i64 n:=fun x hx=>by
 unfold Builtin.zeroCells at hx
 rw[Array.toList_map] at hx
 obtain⟨i,hi,rfl⟩:=List.mem_map.1 hx
 exact⟨0,by simp[Value.cells,Nat.mod_one]⟩
theorem BK{base n m c:Nat}{xs news:List Value}{ad:Addr}{ty:TypeId}{i:TypeInfo}(hi:Tryz.prog.info? 3=some i)(hz:i.zero=some (int i64 0))(hs:i.size=1)(hby:i.bytes=8)(hown:w.ownsRow base 3 1 v n xs)(hib:jQ w v)
 (hl:news.length=m)(hnews:∀j u,news[j]? =some u→w.cell? (ad.add j)=some u)(hint:∀u∈news,∃k,u=int i64 k)(hm:0<m)(h63:n+m≤maxLen)(hbytes:(n+m) * 8≤140737488355328)
 (hr:(Builtin.append_ #[51,51] ty #[v,.slice (some ad) m c]).run prog w=.ok v' w'):jQ w' v':=by
 have hsmall:n+m≤9223372036854775807:=by simp only[maxLen] at h63;omega
 have h1:∀u∈news,u.oneCell'=true:=fun u hu=>by obtain⟨k,rfl⟩:=hint u hu;rfl
 have hl':news.length=m * i.size:=by rw[hs,hl];omega
 rcases hown.2 with⟨rfl,rfl⟩|⟨g,cap,cur,rfl,hbg,hg,hnc,hcm,hcs,htake⟩
 ·have hr':=run_append_nil (P:=prog) w 51 ty 3 i _ underlying51 hi hz ad m c news hl' hnews hm zo (by rw[hby];omega)
  rw[hr] at hr'
  injection hr' with e1 e2
  subst e1
  subst e2
  intro g hg
  cases hg
  refine⟨_,_,heap_alloc_new w.drew _,fun x hx=>?_⟩
  simp only[Array.toList_append,List.mem_append] at hx
  rcases hx with hx|hx
  ·exact hint x hx
  ·exact D8 _ x hx
 ·obtain⟨c2,e2,h2,h3⟩:=hib g rfl
  rw[hg] at h2
  cases h2
  by_cases hroom:n+m≤cap
  ·have hr':=run_append_room (P:=prog) w 51 ty 3 i underlying51 hi g n cap cur hg ad m c news hl' hnews h1 hroom (by rw[hl',hs,hcs];omega)
   rw[hr] at hr'
   injection hr' with e1 e2
   subst e1
   subst e2
   intro g' hg'
   cases hg'
   refine⟨_,_,setRow_heap w g cur _ _ _ hg,fun x hx=>?_⟩
   simp only[List.mem_append] at hx
   rcases hx with(hx|hx)|hx
   ·exact h3 x (List.mem_of_mem_take hx)
   ·exact hint x hx
   ·exact h3 x (List.mem_of_mem_drop hx)
  ·have holds:∀j u,xs[j]? =some u→w.cell? ((⟨g,0,none⟩:Addr).add j)=some u:=hown.cells (g:=g) rfl
   have hr':=run_append_grow (P:=prog) w 51 ty 3 i _ underlying51 hi hz ⟨g,0,none⟩ n cap xs (by rw[hs];exact hown.1) holds ad m c news hl' hnews zo zo (by rw[hby];exact growslice_fits zo hbytes)
   rw[hr] at hr'
   injection hr' with e1 e2
   subst e1
   subst e2
   intro g' hg'
   cases hg'
   refine⟨_,_,heap_alloc_new w.drew _,fun x hx=>?_⟩
   simp only[Array.toList_append,List.mem_append] at hx
   rcases hx with(hx|hx)|hx
   ·rw[← htake] at hx
    exact h3 x (List.mem_of_mem_take hx)
   ·exact hint x hx
   ·exact D8 _ x hx
theorem F7{o:Oper}{a:Act}{K:Act→World→Prop}{Q:Exit→Act→World→Prop}{s x:Operand}{i:TypeInfo}(ho:o.op=.call {callee:=.builtin .append,args:=#[s,x],argTypes:=#[51,51] })
 (base:Nat)(hi:Tryz.prog.info? 3=some i)(hz:i.zero=some (int i64 0))(hs:i.size=1)(hby:i.bytes=8)(v:Value)(n:Nat)(xs:List Value)(hv:a.eval s=v)(hown:w.ownsRow base 3 1 v n xs)(hib:jQ w v)
 (ad:Addr)(m c:Nat)(news:List Value)(hx:a.eval x=.slice (some ad) m c)(hl:news.length=m)(hnews:∀j u,news[j]? =some u→w.cell? (ad.add j)=some u)(hint:∀u∈news,∃k,u=int i64 k)(hm:0<m)(h63:n+m≤maxLen)(hbytes:(n+m) * 8≤140737488355328)(hbase:base≤w.heap.size)(H:Nat)(hH:w.heap.size=H)
 (h:∀g cap w',w'.ownsRow base 3 1 (.slice (some ⟨g,0,none⟩) (n+m) cap) (n+m) (xs ++ news)→w.grownBy w' v.ownBlock→(v.ownBlock=some g∨g=H)→g<w'.heap.size→jQ w' (.slice (some ⟨g,0,none⟩) (n+m) cap)→K (a.put o.dst (.slice (some ⟨g,0,none⟩) (n+m) cap)) w'):o.wp prog a w K Q:=by
 have h1:∀u∈news,u.oneCell'=true:=fun u hu=>by obtain⟨k,rfl⟩:=hint u hu;rfl
 obtain⟨g,cap,w',hr,h2,h3,h4,h5⟩:=run_append_lies (P:=prog) w 51 o.type base 3 i _ 1 8 underlying51 hi hz hs hby rfl zo v n xs hown ad m c news zo hnews h1 hm h63 hbytes hbase H hH
 have h6:=BK hi hz hs hby hown hib hl hnews hint hm h63 hbytes hr
 unfold Oper.wp execOp
 simp only[ho,resolve,invoke,builtin,Sem.run_bind,Sem.run_pure,Result.andThen_ok,List.map_toArray,List.map_cons,List.map_nil,hv,hx,hr]
 exact h g cap w' h2 h3 h4 h5 h6
end
theorem OW(b:Bk)(w:World)(h:b.At w w.heap.size)(hm:b.nm≤6):CallsIn FF 0 prog 78 #[b.val] w fun e w'=>∃v,e=.returned v∧w'.ownsRow w.heap.size 3 1 v (bR b (2 ^ b.nm)).length ((bR b (2 ^ b.nm)).map (int i64))∧Below w.heap.size w w'∧jQ w' v:=by
 obtain⟨dY,mO,gA,ng,gc,g,mA,nm,mc,m,cA,nc,cc,c⟩:=b
 simp only[Bk.val,Bk.cells]
 simp only at hm
 have vm:2 ^ nm≤64:=Nat.le_trans (Nat.pow_le_pow_right zD hm) zD
 have eW:wrap64 ((2:Int) ^ nm)=((2 ^ nm:Nat):Int):=by
  have e:((2:Int) ^ nm)=((2 ^ nm:Nat):Int):=by push_cast;rfl
  have key:∀M:Nat,M≤64→wrap64 (M:Int)=(M:Int):=fun M h=>IntWalk.wrap64_in _ zo
  rw[e];exact key _ vm
 have Hh:=hid h
 clear h
 obtain⟨i0,hi,hz0,hz1,hz2⟩:=info_parts info3
 have hi0:=hid hi
 clear hi
 gi_enter func78,ntmps78
 gi_wp2
 apply MR
 gi_wp2
 apply wpIn_label
 gi_wp2
 rw[eW]
 clear eW
 obtain⟨M,hM⟩:∃M:Nat,M=2 ^ nm:=zE
 rw[← hM] at vm⊢
 have HM:=hid hM
 clear hM
 gi_loopw [3,12] (fun l i wr=>∃k:Nat,k≤M∧i=int i64 k∧Hid (wr.ownsRow (w.heap.size+1) 3 1 l (bR (⟨dY,mO,gA,ng,gc,g,mA,nm,mc,m,cA,nc,cc,c⟩:Bk) k).length ((bR (⟨dY,mO,gA,ng,gc,g,mA,nm,mc,m,cA,nc,cc,c⟩:Bk) k).map (int i64))∧Below (w.heap.size+1) (w.alloc (.cells #[int i64 dY,int i64 mO,.slice gA ng gc,.slice mA nm mc,.slice cA nc cc] 73)) wr∧jQ wr l)) (fun _ i _=>M - (intOf i).toNat)
 case atStart=>exact⟨0,Nat.zero_le _,rfl,hid ⟨oV _ (w.heap.size+1) 3,zB,jQ.nil _⟩⟩
 case round=>
  obtain⟨k,hk,rfl,hR⟩:=hrel
  obtain⟨A,n,cp,rfl⟩:=ig hR.out.1
  have hsz:w.heap.size+1≤wr.heap.size:=by have:=hR.out.2.1.size;simpa using this
  by_cases hlt:k<M
  ·obtain⟨wo,rfl⟩:∃wo:World,wo=wr:=zE
   gi_wp2_with (gi_at_call 102;refine(mU k wo zo).mono ?_;rintro e w2 ⟨v2,rfl,hown2,hb2⟩;obtain⟨A2,c2,rfl⟩:=fV hown2;have HB2:=hid hb2;have Ta:=hid hown2;clear hb2 hown2)
   have S0:k<2 ^ nm:=by have:=HM.out;omega
   have hs2:wo.heap.size≤w2.heap.size:=HB2.out.size
   have KZ:Hid ((⟨dY,mO,gA,ng,gc,g,mA,nm,mc,m,cA,nc,cc,c⟩:Bk).At w2 (w.heap.size+1)):=hid (((Hh.out.alloc zL (.cells #[int i64 dY,int i64 mO,.slice gA ng gc,.slice mA nm mc,.slice cA nc cc] 73)).more (Nat.le_succ _)).below (hR.out.2.1.trans (HB2.out.mono hsz)))
   have BG:Hid (∀o,w2.cell? ⟨w.heap.size,o,none⟩=(w.alloc (.cells #[int i64 dY,int i64 mO,.slice gA ng gc,.slice mA nm mc,.slice cA nc cc] 73)).cell? ⟨w.heap.size,o,none⟩):=hid fun o=>(HB2.out.cell (p:=⟨w.heap.size,o,none⟩) zm).trans (hR.out.2.1.cell (p:=⟨w.heap.size,o,none⟩) zs)
   have hI2:Hid (Ints w2 w2.heap.size A2 (aM k 10).length (fun i=>(aM k 10).getD i 0)):=hid (eH Ta.out)
   have hll:=uS k 10
   obtain⟨L,hL⟩:∃L:List Int,L=aM k 10:=zE
   have HL:=hid hL
   rw[← hL] at hI2 hll⊢
   clear hL
   gi_loopw [18] (fun j wj=>∃q:Nat,q≤L.length∧j=int i64 q∧Hid (Below w2.heap.size w2 wj∧∀i,i<q→(m (L.getD i 0).toNat).kind=0)) (fun j _=>L.length - (intOf j).toNat)
   case atStart=>exact⟨0,Nat.zero_le _,rfl,hid ⟨zB,fun i hi=>absurd hi (Nat.not_lt_zero i)⟩⟩
   case round=>
    obtain⟨q,hq,rfl,hS⟩:=hrel
    have hs3:w2.heap.size≤wr.heap.size:=hS.out.1.size
    have Uv:w.heap.size<wr.heap.size:=zo
    have hbx:∀o,wr.cell? ⟨w.heap.size,o,none⟩=(w.alloc (.cells #[int i64 dY,int i64 mO,.slice gA ng gc,.slice mA nm mc,.slice cA nc cc] 73)).cell? ⟨w.heap.size,o,none⟩:=fun o=>(hS.out.1.cell (p:=⟨w.heap.size,o,none⟩) zm).trans (BG.out o)
    have HB3:Hid (Below (w.heap.size+1) wo wr):=hid ((HB2.out.mono hsz).trans (hS.out.1.mono zo))
    by_cases hq2:q<L.length
    ·obtain⟨ad,rfl,hbl,hcl⟩:=hI2.out (show 0<L.length by omega)
     obtain⟨i,hi,aaE,hib⟩:=QI (s:=k) (k:=10) (x:=L[q]) (by rw[← HL.out];exact List.getElem_mem hq2)
     have hig:L.getD q 0=(i:Int):=by rw[← hi];simp[hq2]
     have hin:i<nm:=i7 S0 hib
     have cq:wr.cell? (ad.add q)=some (int i64 i):=by
      have e:=Ints.at_ hI2.out hq2
      rw[hig] at e
      exact(hS.out.1.cell (by rw[aH];exact hbl)).trans e
     have hN:CallsIn FF 0 prog 56 #[.agg #[int i64 dY,int i64 mO,.slice gA ng gc,.slice mA nm mc,.slice cA nc cc],int i64 i] wr fun e w'=>e=.returned (.bool (decide ((m i).kind=0)))∧Below wr.heap.size wr w':=uH ⟨dY,mO,gA,ng,gc,g,mA,nm,mc,m,cA,nc,cc,c⟩ i wr ((KZ.out.below (hS.out.1.mono zo)).more zo) hin
     clear hcl hi
     by_cases hz:(m i).kind=0
     ·rw[decide_eq_true hz] at hN
      gi_wp2_with (gi_at_call 56;refine hN.mono ?_;rintro e w3 ⟨rfl,hb3⟩)
      go_roundw
      case rel=>exact⟨q+1,zo,by go_num,hid ⟨hS.out.1.trans (hb3.mono hs3),eZ hS.out.2 (by rw[hig];exact hz)⟩⟩
      case measure=>simp[intOf];omega
     ·rw[decide_eq_false hz] at hN
      gi_wp2_with (gi_at_call 56;refine hN.mono ?_;rintro e w3 ⟨rfl,hb3⟩)
      have hw3:Below wo.heap.size wo w3:=HB2.out.trans ((hS.out.1.trans (hb3.mono hs3)).mono hs2)
      have e4:=vD ⟨dY,mO,gA,ng,gc,g,mA,nm,mc,m,cA,nc,cc,c⟩ k
      rw[if_neg (by unfold Qf;rw[decide_eq_false (fun h=>hz (h i hin hib))];decide),List.append_nil] at e4
      exact⟨⟨k+1,zo,by go_num,hid ⟨by rw[e4];exact own_below hR.out.1 hw3,hR.out.2.1.trans (hw3.mono hsz),hR.out.2.2.below hw3⟩⟩,by simp[intOf];omega⟩
    ·obtain rfl:q=L.length:=zo
     have yb:Qf ⟨dY,mO,gA,ng,gc,g,mA,nm,mc,m,cA,nc,cc,c⟩ k=true:=decide_eq_true (fun i hi hib=>by
      have hmem:(i:Int)∈L:=by rw[HL.out];exact QH (by simp only at hi;omega) hib
      obtain⟨j,hj,rl⟩:=List.mem_iff_getElem.1 hmem
      have:=hS.out.2 j hj
      rwa[show L.getD j 0=(i:Int) by rw[← rl];simp[hj]] at this)
     have e4:=vD ⟨dY,mO,gA,ng,gc,g,mA,nm,mc,m,cA,nc,cc,c⟩ k
     rw[if_pos yb] at e4
     have E4:=hid e4
     have hle:=Lu ⟨dY,mO,gA,ng,gc,g,mA,nm,mc,m,cA,nc,cc,c⟩ k
     have hw3:Below wo.heap.size wo wr:=HB2.out.trans (hS.out.1.mono hs2)
     have hown:=own_below hR.out.1 hw3
     have Ho:=hid hown
     have HI9:=hid (hR.out.2.2.below hw3)
     have p7:=hid hw3
     clear e4 hown hw3 yb
     gi_wp2_with (gi_at_builtin;refine aD rfl rfl rfl fun K5 iI=>?_;refine F7 rfl (w.heap.size+1) hi0.out hz0 hz1 hz2 (.slice A n cp) (bR ⟨dY,mO,gA,ng,gc,g,mA,nm,mc,m,cA,nc,cc,c⟩ k).length _ rfl (bG Ho.out _) (HI9.out.alloc _) ⟨wr.heap.size,0,none⟩ 1 1 [_] rfl rfl (World.news_of_block (heap_alloc_new wr _)) zs zo zU zo zm (wr.heap.size+1) zs ?_;intro qQ nQ w5 hown5 aN kI mR SW;refine iI _ _ ?_;clear iI K5)
     exact⟨⟨k+1,zo,by go_num,hid ⟨by rw[E4.out,List.length_append,List.map_append];exact hown5,((hR.out.2.1.trans (p7.out.mono hsz)).alloc zo _).trans (below_grown aN zm (fun g hg=>(aQ Ho.out hg).1)),SW⟩⟩,by simp[intOf];omega⟩
  ·obtain rfl:k=M:=zo
   have HM2:=HM.out
   gi_wp2
   rw[Exit.noGoto_ret]
   go_ret
   exact⟨_,rfl,by rw[← HM2];exact⟨hR.out.1.1,hR.out.1.2.imp id (fun⟨g,cap,cur,h1,h2,h3⟩=>⟨g,cap,cur,h1,zo,h3⟩)⟩,(zB.alloc zL _).trans (hR.out.2.1.mono zs),hR.out.2.2⟩
def Bk.jb(b:Bk)(A:Option Addr)(n p:Nat):Value:=.agg (b.cells ++ #[.slice A n p])
def Tg(b:Bk)(w:World)(e:Ending)(w':World):Prop:=∃A p,e=.returned (.tuple #[b.jb A (bR b (2 ^ b.nm)).length p,int i64 0])∧
 w'.ownsRow w.heap.size 3 1 (.slice A (bR b (2 ^ b.nm)).length p) (bR b (2 ^ b.nm)).length ((bR b (2 ^ b.nm)).map (int i64))∧Below w.heap.size w w'
theorem bO{w:World}{base b:Nat}{e:TypeId}{v:Value}{size n:Nat}{l:List Value}(h:w.ownsRow base e size v n l)(hb:b≤base):w.ownsRow b e size v n l:=
 ⟨h.1,h.2.imp id fun⟨g,cap,cur,h1,h2,h3⟩=>⟨g,cap,cur,h1,Nat.le_trans hb h2,h3⟩⟩
theorem Vq(b:Bk)(w:World)(h:b.At w w.heap.size)(ok:b.Ok)(hcap:b.ng≤b.gc):CallsIn FF 0 prog 37 #[b.val] w (fun e w'=>∃A p,e=.returned (.tuple #[b.jb A (bR b (2 ^ b.nm)).length p,int i64 0])∧w'.ownsRow w.heap.size 3 1 (.slice A (bR b (2 ^ b.nm)).length p) (bR b (2 ^ b.nm)).length ((bR b (2 ^ b.nm)).map (int i64))∧Below w.heap.size w w'∧jQ w' (.slice A (bR b (2 ^ b.nm)).length p)):=by
 obtain⟨dY,mO,gA,ng,gc,g,mA,nm,mc,m,cA,nc,cc,c⟩:=b
 have hC:∀w,(⟨dY,mO,gA,ng,gc,g,mA,nm,mc,m,cA,nc,cc,c⟩:Bk).At w w.heap.size→CallsIn FF 0 prog 42 #[.agg #[int i64 dY,int i64 mO,.slice gA ng gc,.slice mA nm mc,.slice cA nc cc]] w fun e w'=>e=.returned (int i64 0)∧Below w.heap.size w w':=fun w h=>Nj ⟨dY,mO,gA,ng,gc,g,mA,nm,mc,m,cA,nc,cc,c⟩ w h ok hcap
 have hL:∀w,(⟨dY,mO,gA,ng,gc,g,mA,nm,mc,m,cA,nc,cc,c⟩:Bk).At w w.heap.size→CallsIn FF 0 prog 78 #[.agg #[int i64 dY,int i64 mO,.slice gA ng gc,.slice mA nm mc,.slice cA nc cc]] w fun e w'=>∃v,e=.returned v∧w'.ownsRow w.heap.size 3 1 v (bR ⟨dY,mO,gA,ng,gc,g,mA,nm,mc,m,cA,nc,cc,c⟩ (2 ^ nm)).length ((bR ⟨dY,mO,gA,ng,gc,g,mA,nm,mc,m,cA,nc,cc,c⟩ (2 ^ nm)).map (int i64))∧Below w.heap.size w w'∧jQ w' v:=fun w h=>OW ⟨dY,mO,gA,ng,gc,g,mA,nm,mc,m,cA,nc,cc,c⟩ w h ok.moves.1
 simp only[Bk.val,Bk.jb,Bk.cells]
 have Hh:=hid h
 clear h ok hcap
 gi_enter func37,ntmps37
 gi_wp2_with (gi_at_call 42;refine(hC _ (Hh.out.below (bw) |>.more zm)).mono ?_;rintro e w2 ⟨rfl,hb2⟩;obtain⟨hc2,hf2⟩:=fu hb2;have hs2:w.heap.size+1<w2.heap.size:=by have:=hb2.size;simp at this;omega)
 have hW2:Below w.heap.size w w2:=(bw:Below w.heap.size w _).trans (hb2.mono zm)
 have hZ:Whole ((w.alloc (.cells #[int i64 dY,int i64 mO,.slice gA ng gc,.slice mA nm mc,.slice cA nc cc] 26)).alloc (.cells #[int i64 0,int i64 0,.slice none 0 0,.slice none 0 0,.slice none 0 0,.slice none 0 0] 75)) (w.heap.size+1) 75 #[int i64 0,int i64 0,.slice none 0 0,.slice none 0 0,.slice none 0 0,.slice none 0 0]:=by
  have e:=Whole.new (w.alloc (.cells #[int i64 dY,int i64 mO,.slice gA ng gc,.slice mA nm mc,.slice cA nc cc] 26)) 75 #[int i64 0,int i64 0,.slice none 0 0,.slice none 0 0,.slice none 0 0,.slice none 0 0]
  rwa[show(w.alloc (.cells #[int i64 dY,int i64 mO,.slice gA ng gc,.slice mA nm mc,.slice cA nc cc] 26)).heap.size=w.heap.size+1 by simp] at e
 have hZ2:Hid (Whole w2 (w.heap.size+1) 75 #[int i64 0,int i64 0,.slice none 0 0,.slice none 0 0,.slice none 0 0,.slice none 0 0]):=hid (hZ.below hb2 zs)
 clear hZ
 gi_region_with (gi_at_call 78;refine(hL _ (Hh.out.below (bw) |>.more zm)).mono ?_;rintro e w3 ⟨v,rfl,hown,hb3,SU⟩;obtain⟨A3,c3,rfl⟩:=fV hown;have ho3:=bO (b:=w2.heap.size) hown zs;clear hown;obtain⟨hc3,hf3⟩:=fu hb3;have hs3:w2.heap.size<w3.heap.size:=(by have:=hb3.size;simp at this;omega);have hw3:Below w2.heap.size w2 w3:=(bw:Below w2.heap.size w2 _).trans (hb3.mono zs);have hZ3:=(hZ2.out.below hw3 zo).cell;have hT3:=(hZ2.out.below hw3 zo).thaw)
 all_goals
  gi_wp2
  have hF:=((((((hZ2.out.below hw3 zo).set 0 (int i64 dY)).set 1 (int i64 mO)).set 2 (.slice gA ng gc)).set 3 (.slice mA nm mc)).set 4 (.slice cA nc cc)).set 5 (.slice A3 (bR ⟨dY,mO,gA,ng,gc,g,mA,nm,mc,m,cA,nc,cc,c⟩ (2 ^ nm)).length c3)
  have q0:=hF.cell 0
  have q1:=hF.cell 1
  have q2:=hF.cell 2
  have q3:=hF.cell 3
  have q4:=hF.cell 4
  have q5:=hF.cell 5
  clear hZ3 hT3 hc3 hf3
  refine bodyPost_ret (v:=.tuple #[.agg #[int i64 dY,int i64 mO,.slice gA ng gc,.slice mA nm mc,.slice cA nc cc,.slice A3 (bR ⟨dY,mO,gA,ng,gc,g,mA,nm,mc,m,cA,nc,cc,c⟩ (2 ^ nm)).length c3],int i64 0]) (by simp[results,results37,go_sem,q0,q1,q2,q3,q4,q5]) rfl ⟨A3,c3,rfl,?_,?_,?_⟩
  ·refine bO (base:=w2.heap.size) ?_ zo
   refine bU ?_ hs2 _
   refine bU ?_ hs2 _
   refine bU ?_ hs2 _
   refine bU ?_ hs2 _
   refine bU ?_ hs2 _
   refine bU ?_ hs2 _
   exact ho3
  ·have bn:Below w.heap.size w w3:=hW2.trans (hw3.mono zo)
   refine Below.setCell ?_ (Nat.le_succ _) _
   refine Below.setCell ?_ (Nat.le_succ _) _
   refine Below.setCell ?_ (Nat.le_succ _) _
   refine Below.setCell ?_ (Nat.le_succ _) _
   refine Below.setCell ?_ (Nat.le_succ _) _
   refine Below.setCell ?_ (Nat.le_succ _) _
   exact bn
  ·have hne:∀q,(Value.slice A3 (bR ⟨dY,mO,gA,ng,gc,g,mA,nm,mc,m,cA,nc,cc,c⟩ (2 ^ nm)).length c3).ownBlock=some q→q≠w.heap.size+1:=fun q hq=>by have:=(aQ ho3 hq).1;omega
   exact(((((SU.other hne _).other hne _).other hne _).other hne _).other hne _).other hne _
theorem Vr(b:Bk)(w:World)(h:b.At w w.heap.size)(ok:b.Ok)(hcap:b.ng≤b.gc):CallsIn FF 0 prog 37 #[b.val] w (Tg b w):=
 (Vq b w h ok hcap).mono fun _ _ ⟨A,p,he,ho,hb,_⟩=>⟨A,p,he,ho,hb⟩
theorem KJ(xs:Nat→Int)(A:Option Addr)(n p:Nat)(top:Int)(w:World)(hI:Ints w w.heap.size A n xs)(hn:n≤maxLen)(hx:∀i,i<n→0≤xs i∧xs i≤top):CallsIn FF 0 prog 67 #[.slice A n p,int i64 n,int i64 top] w fun e w'=>e=.returned (int i64 0)∧Below w.heap.size w w':=by
 unfold maxLen at hn
 have HI:=hid hI
 have Hx:=hid hx
 clear hI hx
 gi_enter func67,ntmps67
 gi_wp2
 gi_loopw [15] (fun i wr=>∃k:Nat,k≤n∧i=int i64 k∧wr=w) (fun i _=>n - (intOf i).toNat)
 case atStart=>exact⟨0,Nat.zero_le _,rfl,rfl⟩
 case round=>
  obtain⟨k,hk,rfl,rfl⟩:=hrel
  by_cases hlt:k<n
  ·obtain⟨ad,rfl,-⟩:=HI.out (show 0<n by omega)
   have ck:=Ints.at_ HI.out hlt
   have ik:=hid (aT.2 (Hx.out k hlt))
   gi_wp2_with (gi_at_call 65;refine(dw _ _ _ _).mono ?_;rintro e w' ⟨he,rfl⟩;rw[ik.out] at he;subst he)
   go_roundw
   case rel=>exact⟨k+1,zo,by go_num,zT⟩
   case measure=>simp[intOf];omega
  ·gi_wp2
   go_ret
   exact⟨rfl,zB⟩
theorem Vz(xs:Nat→Int)(A:Option Addr)(n p M:Nat)(w:World)(hI:Ints w w.heap.size A n xs)(hn:n≤maxLen)(hM:M≤maxLen)(hx:∀i,i<n→0≤xs i∧xs i≤(M:Int) - 1)(hup:∀i,i+1<n→xs i<xs (i+1)):CallsIn FF 0 prog 119 #[.slice A n p,int i64 M] w fun e w'=>e=.returned (int i64 0)∧Below w.heap.size w w':=by
 unfold maxLen at hn hM
 have HI:=hid hI
 have Hx:=hid hx
 have Hu:=hid hup
 clear hI hx hup
 have eM:IntKind.i64.wrap ((M:Int) - 1)=(M:Int) - 1:=IntWalk.i64_in _ zo
 gi_enter func119,ntmps119
 gi_wp2
 gi_loopw [9] (fun i wr=>∃k:Nat,k≤n∧i=int i64 k∧wr=w) (fun i _=>n - (intOf i).toNat)
 case atStart=>exact⟨0,Nat.zero_le _,rfl,rfl⟩
 case round=>
  obtain⟨k,hk,rfl,rfl⟩:=hrel
  by_cases hlt:k<n
  ·obtain⟨ad,rfl,-⟩:=HI.out (show 0<n by omega)
   have ck:=Ints.at_ HI.out hlt
   have ik:=hid (aT.2 (Hx.out k hlt))
   by_cases hk0:0<k
   ·have hd:decide (0<(k:Int))=true:=zm
    have cj:=Ints.at_ HI.out (show k - 1<n by omega)
    have hu:=Hu.out (k - 1) zo
    rw[show k - 1+1=k by omega] at hu
    have hd2:decide (xs k≤xs (k - 1))=false:=decide_eq_false zo
    have e2:0≤(k:Int) - 1:=zo
    have e2':1≤(k:Int):=zo
    have e4:(k:Int) - 1<n:=zo
    have e3:((k:Int) - 1).toNat=k - 1:=zo
    have e1:IntKind.i64.wrap ((k:Int) - 1)=(k:Int) - 1:=IntWalk.i64_in _ zo
    gi_wp2_with (gi_at_call 65;refine(dw _ _ _ _).mono ?_;rintro e w' ⟨he,rfl⟩;rw[ik.out] at he;subst he)
    all_goals first
     | exact⟨⟨k+1,zo,by go_num,zT⟩,by simp[intOf];omega⟩
     | (go_roundw
        case rel=>exact⟨k+1,zo,by go_num,zT⟩
        case measure=>simp[intOf];omega)
   ·have hd:decide (0<(k:Int))=false:=zm
    gi_wp2_with (first|(exact absurd ‹some undef=some (Value.bool _)› (by simp[undef]))|(gi_at_call 65;refine(dw _ _ _ _).mono ?_;rintro e w' ⟨he,rfl⟩;rw[ik.out] at he;subst he))
    all_goals first
     | exact⟨⟨k+1,zo,by go_num,zT⟩,by simp[intOf];omega⟩
     | (go_roundw
        case rel=>exact⟨k+1,zo,by go_num,zT⟩
        case measure=>simp[intOf];omega)
  ·gi_wp2
   go_ret
   exact⟨rfl,zB⟩
def dZ(b:Bk)(k:Nat):List Int:=((List.range k).filter fun i=>decide ((b.m i).kind=0)).map fun(n:Nat)=>(n:Int)
theorem Fh(b:Bk)(k:Nat):dZ b (k+1)=dZ b k ++ if (b.m k).kind=0 then[(k:Int)] else[]:=by
 unfold dZ
 rw[List.range_succ,List.filter_append,List.map_append]
 by_cases h:(b.m k).kind=0 <;> simp[h]
theorem vJ(b:Bk)(k:Nat):(dZ b k).length≤k:=by
 unfold dZ
 rw[List.length_map]
 exact Nat.le_trans (List.length_filter_le _ _) zs
theorem YU(b:Bk)(w:World)(h:b.At w w.heap.size)(hm:b.nm≤6):CallsIn FF 0 prog 113 #[b.val] w fun e w'=>∃v,e=.returned v∧w'.ownsRow w.heap.size 3 1 v (dZ b b.nm).length ((dZ b b.nm).map (int i64))∧Below w.heap.size w w':=by
 obtain⟨dY,mO,gA,ng,gc,g,mA,nm,mc,m,cA,nc,cc,c⟩:=b
 simp only[Bk.val,Bk.cells]
 simp only at hm
 have Hh:=hid h
 clear h
 obtain⟨i0,hi,hz0,hz1,hz2⟩:=info_parts info3
 have hi0:=hid hi
 clear hi
 gi_enter func113,ntmps113
 gi_wp2
 gi_loopw [3,9] (fun l i wr=>∃k:Nat,k≤nm∧i=int i64 k∧Hid (wr.ownsRow (w.heap.size+1) 3 1 l (dZ ⟨dY,mO,gA,ng,gc,g,mA,nm,mc,m,cA,nc,cc,c⟩ k).length ((dZ ⟨dY,mO,gA,ng,gc,g,mA,nm,mc,m,cA,nc,cc,c⟩ k).map (int i64))∧Below (w.heap.size+1) (w.alloc (.cells #[int i64 dY,int i64 mO,.slice gA ng gc,.slice mA nm mc,.slice cA nc cc] 73)) wr)) (fun _ i _=>nm - (intOf i).toNat)
 case atStart=>exact⟨0,Nat.zero_le _,rfl,hid ⟨oV _ (w.heap.size+1) 3,zB⟩⟩
 case round=>
  obtain⟨k,hk,rfl,hR⟩:=hrel
  obtain⟨A,n,cp,rfl⟩:=ig hR.out.1
  have hsz:w.heap.size+1≤wr.heap.size:=by have:=hR.out.2.size;simpa using this
  have Uv:w.heap.size<wr.heap.size:=hsz
  have hbx:∀o,wr.cell? ⟨w.heap.size,o,none⟩=(w.alloc (.cells #[int i64 dY,int i64 mO,.slice gA ng gc,.slice mA nm mc,.slice cA nc cc] 73)).cell? ⟨w.heap.size,o,none⟩:=fun o=>hR.out.2.cell (p:=⟨w.heap.size,o,none⟩) zs
  by_cases hlt:k<nm
  ·obtain⟨wo,rfl⟩:∃wo:World,wo=wr:=zE
   have hN:CallsIn FF 0 prog 56 #[.agg #[int i64 dY,int i64 mO,.slice gA ng gc,.slice mA nm mc,.slice cA nc cc],int i64 k] wo fun e w'=>e=.returned (.bool (decide ((m k).kind=0)))∧Below wo.heap.size wo w':=uH ⟨dY,mO,gA,ng,gc,g,mA,nm,mc,m,cA,nc,cc,c⟩ k wo ((((Hh.out.alloc zL (.cells #[int i64 dY,int i64 mO,.slice gA ng gc,.slice mA nm mc,.slice cA nc cc] 73)).more (Nat.le_succ _)).below hR.out.2).more hsz) hlt
   have e4:=Fh ⟨dY,mO,gA,ng,gc,g,mA,nm,mc,m,cA,nc,cc,c⟩ k
   have hle:=vJ ⟨dY,mO,gA,ng,gc,g,mA,nm,mc,m,cA,nc,cc,c⟩ k
   simp only at e4
   by_cases hz:(m k).kind=0
   ·rw[decide_eq_true hz] at hN
    rw[if_pos hz] at e4
    have E4:=hid e4
    clear e4
    gi_wp2_with (first
     | (gi_at_call 56;refine hN.mono ?_;rintro e w3 ⟨rfl,hb3⟩;have HB3:=hid hb3;have Ho:=hid (own_below hR.out.1 hb3);have hs3:=hb3.size;clear hb3)
     | (gi_at_builtin;refine aD rfl rfl rfl fun K5 iI=>?_;refine wp_append_lies _ _ _ _ rfl (w.heap.size+1) 3 i0 _ 1 8 underlying51 hi0.out hz0 hz1 hz2 rfl zo (.slice A n cp) (dZ ⟨dY,mO,gA,ng,gc,g,mA,nm,mc,m,cA,nc,cc,c⟩ k).length _ rfl (bG Ho.out _) ⟨w3.heap.size,0,none⟩ 1 1 [_] rfl rfl (World.news_of_block (heap_alloc_new w3 _)) (by simp[Value.oneCell']) zo zU zo zm (w3.heap.size+1) zs ?_;intro qQ nQ w5 hown5 aN kI mR;refine iI _ _ ?_;clear iI K5))
    go_roundw
    case rel=>exact⟨k+1,zo,by go_num,hid ⟨by rw[E4.out,List.length_append,List.map_append];exact hown5,((hR.out.2.trans (HB3.out.mono hsz)).alloc zo _).trans (below_grown aN zm (fun g hg=>(aQ Ho.out hg).1))⟩⟩
    case measure=>simp[intOf];omega
   ·rw[decide_eq_false hz] at hN
    rw[if_neg hz,List.append_nil] at e4
    gi_wp2_with (gi_at_call 56;refine hN.mono ?_;rintro e w3 ⟨rfl,hb3⟩)
    go_roundw
    case rel=>exact⟨k+1,zo,by go_num,hid ⟨by rw[e4];exact own_below hR.out.1 hb3,hR.out.2.trans (hb3.mono hsz)⟩⟩
    case measure=>simp[intOf];omega
  ·obtain rfl:k=nm:=zo
   gi_wp2
   go_ret
   exact⟨_,rfl,bO hR.out.1 (Nat.le_succ _),(zB.alloc zL _).trans (hR.out.2.mono zs)⟩
theorem P9(xs:Nat→Int)(A:Option Addr)(n p j:Nat)(w:World)(hI:Ints w w.heap.size A n xs)(hn:n≤maxLen)(hj:j<n)(hne:∀i,i<j→xs i≠xs j):CallsIn FF 0 prog 114 #[.slice A n p,int i64 (xs j)] w fun e w'=>e=.returned (int i64 j)∧Below w.heap.size w w':=by
 unfold maxLen at hn
 have HI:=hid hI
 have Hx:=hid hne
 clear hI hne
 obtain⟨x,hx⟩:∃x,x=xs j:=zE
 have HX:=hid hx
 rw[← hx]
 clear hx
 gi_enter func114,ntmps114
 gi_wp2
 gi_loopw [8] (fun i wr=>∃k:Nat,k≤j∧i=int i64 k∧wr=w) (fun i _=>n - (intOf i).toNat)
 case atStart=>exact⟨0,Nat.zero_le _,rfl,rfl⟩
 case round=>
  obtain⟨k,hk,rfl,rfl⟩:=hrel
  have hlt:k<n:=zo
  obtain⟨ad,rfl,-⟩:=HI.out (show 0<n by omega)
  have ck:=Ints.at_ HI.out hlt
  by_cases he:k=j
  ·subst he
   have hq:(x == xs k)=true:=by rw[HX.out];simp
   gi_wp2
   all_goals first
    | (go_ret;exact⟨rfl,zB⟩)
    | (exfalso;have:=HX.out;omega)
  ·have hne:x≠xs k:=by rw[HX.out];exact fun e=>Hx.out k zo e.symm
   have hq:(x == xs k)=false:=by simpa using hne
   gi_wp2
   all_goals first
    | exact⟨⟨k+1,zo,by go_num,zT⟩,by simp[intOf];omega⟩
    | (go_roundw
       case rel=>exact⟨k+1,zo,by go_num,zT⟩
       case measure=>simp[intOf];omega)
    | (exfalso;omega)
structure Ht where
 f:Nat→Int
 m:Nat→Int
 lies:Nat
def Ht.cells(h:Ht):Array Value:=#[int i64 (h.f 0),int i64 (h.f 1),int i64 (h.f 2),int i64 (h.m 0),int i64 (h.m 1),int i64 (h.m 2),int i64 (h.m 3),int i64 (h.m 4),int i64 (h.m 5),int i64 h.lies]
def Ht.val(h:Ht):Value:=.agg h.cells
def Ht.JJ(h:Ht)(k:Nat):Bool:=decide (h.lies / 2 ^ k % 2=1)
def Ht.real(h:Ht)(k:Nat):Int:=if h.JJ k then 0 else h.m k
def yx:Array Value:=#[.string {data:=#[99,97,109,101] },.func (.func 139) #[] #[],.string {data:=#[115,111,108,100] },.func (.func 140) #[] #[],.string {data:=#[108,111,115,116] },.func (.func 140) #[] #[],.string {data:=#[103,105,118,101,110] },.func (.func 140) #[] #[],.string {data:=#[98,97,99,107] },.func (.func 139) #[] #[]]
theorem Nk(xs:Nat→Int)(A:Option Addr)(n p:Nat)(w:World)(hI:Ints w w.heap.size A n xs)(hn:0<n)(NU:n≤3):
 CallsIn FF 0 prog 49 #[.slice A n p] w fun e w'=>∃A' p',e=.returned (.slice A' n p')∧Ints w' w'.heap.size A' n xs∧Below w.heap.size w w':=by
 obtain⟨ad,rfl,-⟩:=hI hn
 have HI:=hid hI
 clear hI
 obtain⟨i0,hi,hz0,hz1,hz2⟩:=info_parts info3
 have hi0:=hid hi
 clear hi
 have he:∀w,(binOp BinOp.eql 51 (.slice (some ad) n p) (.slice none 0 0)).run prog w=.ok (.bool false) w:=fun w=>zk
 gi_enter func49,ntmps49
 have hown:(w.alloc (.cells #[] 3)).ownsRow w.heap.size 3 1 (.slice (some ⟨w.heap.size,0,none⟩) 0 0) 0 []:=⟨rfl,.inr ⟨_,_,_,rfl,zL,heap_alloc_new w _,zL,Nat.zero_le _,rfl,rfl⟩⟩
 have Ei:=hid hown
 clear hown
 have hnews:∀j u,((List.range n).map fun i=>int i64 (xs i))[j]? =some u→(w.alloc (.cells #[] 3)).cell? (ad.add j)=some u:=fun j u hu=>by
  have hj:j<n:=by
   have:=(List.getElem?_eq_some_iff.1 hu).1
   simpa using this
  have e:=Ints.at_ (HI.out.alloc zL (.cells #[] 3)) hj
  rw[e]
  simp[hj] at hu⊢
  exact hu
 have Hn:=hid hnews
 clear hnews
 gi_wp2_with (gi_at_builtin;refine aD rfl rfl rfl fun K5 iI=>?_;refine wp_append_lies _ _ _ _ rfl w.heap.size 3 i0 _ 1 8 underlying51 hi0.out hz0 hz1 hz2 rfl zo (.slice (some ⟨w.heap.size,0,none⟩) 0 0) 0 _ rfl Ei.out ad n p ((List.range n).map fun i=>int i64 (xs i)) rfl zs Hn.out (by simp[Value.oneCell']) hn zU zo zs (w.heap.size+1) zs ?_;intro qQ nQ w5 hown5 aN kI mR;refine iI _ _ ?_;clear iI K5)
 go_ret
 refine⟨_,_,rfl,?_,(zB.alloc zL _).trans (below_grown aN zs (fun g hg=>by cases hg;exact zL))⟩
 intro _
 obtain⟨g,cap,hv,_,hlt⟩:=hown5.form zo
 have hA:(some ⟨qQ,0,none⟩:Option Addr)=some ⟨g,0,none⟩:=by injection hv
 cases hA
 refine⟨_,rfl,mR,fun i j hi hj=>?_⟩
 obtain rfl:j=0:=zo
 have:=hown5.cells (g:=qQ) rfl i (int i64 (xs i)) (by simp[hi])
 simpa [Addr.add] using this
def dH(sz:Nat)(f:Nat→Nat→Value)(n:Nat):List Value:=(List.range n).flatMap fun i=>(List.range sz).map (f i)
theorem ko(sz:Nat)(f:Nat→Nat→Value):∀n,(dH sz f n).length=n * sz
 | 0=>by simp[dH]
 | Nat.succ n=>by
   have ih:=ko sz f n
   unfold dH at ih⊢
   rw[List.range_succ,List.flatMap_append,List.length_append,ih,Nat.succ_mul]
   simp
theorem Fu(sz:Nat)(f:Nat→Nat→Value):∀n i j,i<n→j<sz→(dH sz f n)[i * sz+j]? =some (f i j)
 | 0,_,_,h,_=>by cases h
 | Nat.succ n,i,j,hi,hj=>by
   have hl:=ko sz f n
   have e:dH sz f (n+1)=dH sz f n ++ (List.range sz).map (f n):=by unfold dH;rw[List.range_succ,List.flatMap_append];simp
   rw[e]
   rcases Nat.lt_or_ge i n with h|h
   ·have hlt:i * sz+j<n * sz:=by
     have:=Nat.mul_le_mul_right sz (show i+1≤n by omega)
     rw[Nat.add_mul,Nat.one_mul] at this
     omega
    rw[List.getElem?_append_left zo]
    exact Fu sz f n i j h hj
   ·obtain rfl:i=n:=zo
    rw[List.getElem?_append_right zo,hl,Nat.add_sub_cancel_left]
    simp[hj]
theorem Fv{sz:Nat}(f:Nat→Nat→Value){n j:Nat}{u:Value}(hs:0<sz)(h:(dH sz f n)[j]? =some u):∃i q,i<n∧q<sz∧j=i * sz+q∧u=f i q:=by
 have hl:=ko sz f n
 have hj:j<n * sz:=by
  have:=(List.getElem?_eq_some_iff.1 h).1
  omega
 have hq:j % sz<sz:=Nat.mod_lt _ hs
 have hi:j / sz<n:=(Nat.div_lt_iff_lt_mul hs).2 hj
 have e:j=j / sz * sz+j % sz:=by rw[Nat.mul_comm];exact(Nat.div_add_mod j sz).symm
 refine⟨j / sz,j % sz,hi,hq,e,?_⟩
 have h2:=Fu sz f n (j / sz) (j % sz) hi hq
 rw[← e,h] at h2
 exact Option.some.inj h2
theorem Fj{w:World}{base:Nat}{e:TypeId}{size n:Nat}{A:Option Addr}{m c:Nat}{xs:List Value}(h:w.ownsRow base e size (.slice A m c) n xs):n≤c:=by
 rcases h.2 with⟨he,rfl⟩|⟨g,cap,cur,he,_,_,h1,h2,_⟩
 ·exact Nat.zero_le _
 ·injection he with e1 e2 e3
  omega
theorem sU{w:World}{base:Nat}{e:TypeId}{sz n p:Nat}{A:Option Addr}{f:Nat→Nat→Value}(h:w.ownsRow base e sz (.slice A n p) n (dH sz f n)):n≤p∧Rows w w.heap.size sz A n f:=by
 refine⟨Fj h,fun hn=>?_⟩
 obtain⟨g,cap,hv,_,hlt⟩:=h.form hn
 injection hv with e1 e2 e3
 subst e1
 refine⟨_,rfl,hlt,fun i j hi hj=>?_⟩
 have:=h.cells (g:=g) rfl (i * sz+j) (f i j) (Fu _ _ _ _ _ hi hj)
 rw[← this]
theorem lX(w:World)(t:TypeId)(sz:Nat):(w.alloc (.cells #[] t)).ownsRow w.heap.size t sz (.slice (some ⟨w.heap.size,0,none⟩) 0 0) 0 []:=⟨zs,.inr ⟨_,_,_,rfl,zL,heap_alloc_new w _,zL,Nat.zero_le _,zs,zs⟩⟩
theorem uL{w:World}{sz n:Nat}{ad:Addr}{f:Nat→Nat→Value}(hs:0<sz)(h:Rows w w.heap.size sz (some ad) n f)(o:Obj):∀j u,(dH sz f n)[j]? =some u→(w.alloc o).cell? (ad.add j)=some u:=fun j u hu=>by
 obtain⟨i,q,hi,hq,rfl,rfl⟩:=Fv _ hs hu
 have:=((h.alloc zL o).row hi).2 q hq
 rwa[jS] at this
theorem sS{sz n:Nat}{f:Nat→Nat→Value}(hs:0<sz)(hf:∀i q,(f i q).oneCell'=true):∀u∈dH sz f n,u.oneCell'=true:=fun u hu=>by
 obtain⟨j,hj,e⟩:=List.mem_iff_getElem.1 hu
 obtain⟨i,q,hi,hq,_,rfl⟩:=Fv (j:=j) f hs (by rw[List.getElem?_eq_getElem hj,e])
 exact hf i q
theorem yI{w:World}{base X:Nat}{e:TypeId}{size n:Nat}{v:Value}{xs:List Value}(h:w.ownsRow base e size v n xs)(hX:X<base)(v0 v1 v2 v3 v4:Value):(((((w.setCell ⟨X,0,none⟩ v0).setCell ⟨X,1,none⟩ v1).setCell ⟨X,2,none⟩ v2).setCell ⟨X,3,none⟩ v3).setCell ⟨X,4,none⟩ v4).ownsRow base e size v n xs:=
 bU (p:=⟨X,4,none⟩) (bU (p:=⟨X,3,none⟩) (bU (p:=⟨X,2,none⟩) (bU (p:=⟨X,1,none⟩) (bU (p:=⟨X,0,none⟩) h hX v0) hX v1) hX v2) hX v3) hX v4
theorem Whole.tF{w:World}{X:Nat}{t:TypeId}{u0 u1 u2 u3 u4:Value}(h:Whole w X t #[u0,u1,u2,u3,u4])(v0 v1 v2 v3 v4:Value):Whole (((((w.setCell ⟨X,0,none⟩ v0).setCell ⟨X,1,none⟩ v1).setCell ⟨X,2,none⟩ v2).setCell ⟨X,3,none⟩ v3).setCell ⟨X,4,none⟩ v4) X t #[v0,v1,v2,v3,v4]:=((((h.set 0 v0).set 1 v1).set 2 v2).set 3 v3).set 4 v4
theorem Below.tF{B X:Nat}{w w':World}(h:Below B w w')(hX:B≤X)(v0 v1 v2 v3 v4:Value):Below B w (((((w'.setCell ⟨X,0,none⟩ v0).setCell ⟨X,1,none⟩ v1).setCell ⟨X,2,none⟩ v2).setCell ⟨X,3,none⟩ v3).setCell ⟨X,4,none⟩ v4):=
 ((((h.setCell (p:=⟨X,0,none⟩) hX v0).setCell (p:=⟨X,1,none⟩) hX v1).setCell (p:=⟨X,2,none⟩) hX v2).setCell (p:=⟨X,3,none⟩) hX v3).setCell (p:=⟨X,4,none⟩) hX v4
theorem Tryz.infoG:(Tryz.prog.info? 83).map (fun i=>(i.zero,i.size,i.bytes))=some (some (.agg #[.string .empty,int i64 0,int i64 0,int i64 0,int i64 0]),5,48):=zk
theorem G5(f:Nat→Good)(A:Option Addr)(n p:Nat)(w:World)(hI:Rows w w.heap.size 5 A n (fun i=>(f i).cell))(Xn:n≤6):
 CallsIn FF 0 prog 74 #[.slice A n p] w fun e w'=>∃A' p',e=.returned (.slice A' n p')∧w'.ownsRow w.heap.size 83 5 (.slice A' n p') n (dH 5 (fun i=>(f i).cell) n)∧Below w.heap.size w w':=by
 rcases Nat.eq_zero_or_pos n with rfl|hn
 ·cases A with
  | none=>
    have he:∀w,(binOp BinOp.eql 22 (.slice none 0 p) (.slice none 0 0)).run prog w=.ok (.bool true) w:=fun w=>zk
    gi_enter func74,ntmps74
    gi_wp2
    go_ret
    exact⟨_,_,rfl,⟨by simp[dH],.inl ⟨rfl,rfl⟩⟩,zB⟩
  | some ad=>
    have he:∀w,(binOp BinOp.eql 22 (.slice (some ad) 0 p) (.slice none 0 0)).run prog w=.ok (.bool false) w:=fun w=>zk
    gi_enter func74,ntmps74
    gi_wp2
    go_ret
    exact⟨_,_,rfl,⟨by simp[dH],.inr ⟨_,_,_,rfl,zL,heap_alloc_new w _,zL,Nat.zero_le _,rfl,by simp[dH]⟩⟩,bw⟩
 ·obtain⟨ad,rfl,-⟩:=hI hn
  have HI:=hid hI
  clear hI
  obtain⟨i0,hi,hz0,hz1,hz2⟩:=info_parts Tryz.infoG
  have hi0:=hid hi
  clear hi
  have he:∀w,(binOp BinOp.eql 22 (.slice (some ad) n p) (.slice none 0 0)).run prog w=.ok (.bool false) w:=fun w=>zk
  gi_enter func74,ntmps74
  have Ei:=hid (lX w 83 5)
  have Hn:=hid (uL zD HI.out (.cells #[] 83))
  have Ho:=hid (sS (n:=n) (sz:=5) (f:=fun i=>(f i).cell) zD fun i q=>by show((f i).cell q).oneCell'=true;unfold Good.cell;split <;> rfl)
  gi_wp2_with (gi_at_builtin;refine aD rfl rfl rfl fun K5 iI=>?_;refine wp_append_lies _ _ _ _ rfl w.heap.size 83 i0 _ 5 48 underlying22 hi0.out hz0 hz1 hz2 rfl zo (.slice (some ⟨w.heap.size,0,none⟩) 0 0) 0 _ rfl Ei.out ad n p (dH 5 (fun i=>(f i).cell) n) rfl (ko _ _ _) Hn.out Ho.out hn zU zo zs (w.heap.size+1) zs ?_;intro qQ nQ w5 hown5 aN kI mR;refine iI _ _ ?_;clear iI K5)
  go_ret
  rw[List.nil_append,Nat.zero_add] at hown5
  exact⟨_,_,rfl,hown5,(zB.alloc zL _).trans (below_grown aN zs (fun g hg=>by cases hg;exact zL))⟩
theorem Px(f:Nat→Mv)(A:Option Addr)(n p:Nat)(w:World)(hI:Rows w w.heap.size 5 A n (fun i=>(f i).cell))(Xn:n≤6):
 CallsIn FF 0 prog 75 #[.slice A n p] w fun e w'=>∃A' p',e=.returned (.slice A' n p')∧w'.ownsRow w.heap.size 39 5 (.slice A' n p') n (dH 5 (fun i=>(f i).cell) n)∧Below w.heap.size w w':=by
 rcases Nat.eq_zero_or_pos n with rfl|hn
 ·cases A with
  | none=>
    have he:∀w,(binOp BinOp.eql 23 (.slice none 0 p) (.slice none 0 0)).run prog w=.ok (.bool true) w:=fun w=>zk
    gi_enter func75,ntmps75
    gi_wp2
    go_ret
    exact⟨_,_,rfl,⟨by simp[dH],.inl ⟨rfl,rfl⟩⟩,zB⟩
  | some ad=>
    have he:∀w,(binOp BinOp.eql 23 (.slice (some ad) 0 p) (.slice none 0 0)).run prog w=.ok (.bool false) w:=fun w=>zk
    gi_enter func75,ntmps75
    gi_wp2
    go_ret
    exact⟨_,_,rfl,⟨by simp[dH],.inr ⟨_,_,_,rfl,zL,heap_alloc_new w _,zL,Nat.zero_le _,rfl,by simp[dH]⟩⟩,bw⟩
 ·obtain⟨ad,rfl,-⟩:=hI hn
  have HI:=hid hI
  clear hI
  obtain⟨i0,hi,hz0,hz1,hz2⟩:=info_parts Tryz.infoM
  have hi0:=hid hi
  clear hi
  have he:∀w,(binOp BinOp.eql 23 (.slice (some ad) n p) (.slice none 0 0)).run prog w=.ok (.bool false) w:=fun w=>zk
  gi_enter func75,ntmps75
  have Ei:=hid (lX w 39 5)
  have Hn:=hid (uL zD HI.out (.cells #[] 39))
  have Ho:=hid (sS (n:=n) (sz:=5) (f:=fun i=>(f i).cell) zD fun i q=>by show((f i).cell q).oneCell'=true;unfold Mv.cell;split <;> rfl)
  gi_wp2_with (gi_at_builtin;refine aD rfl rfl rfl fun K5 iI=>?_;refine wp_append_lies _ _ _ _ rfl w.heap.size 39 i0 _ 5 40 underlying23 hi0.out hz0 hz1 hz2 rfl zo (.slice (some ⟨w.heap.size,0,none⟩) 0 0) 0 _ rfl Ei.out ad n p (dH 5 (fun i=>(f i).cell) n) rfl (ko _ _ _) Hn.out Ho.out hn zU zo zs (w.heap.size+1) zs ?_;intro qQ nQ w5 hown5 aN kI mR;refine iI _ _ ?_;clear iI K5)
  go_ret
  rw[List.nil_append,Nat.zero_add] at hown5
  exact⟨_,_,rfl,hown5,(zB.alloc zL _).trans (below_grown aN zs (fun g hg=>by cases hg;exact zL))⟩
theorem Tryz.infoC:(Tryz.prog.info? 45).map (fun i=>(i.zero,i.size,i.bytes))=some (some (.agg #[int i64 0,int i64 0,int i64 0,int i64 0]),4,32):=zk
theorem Pw(f:Nat→Ct)(A:Option Addr)(n p:Nat)(w:World)(hI:Rows w w.heap.size 4 A n (fun i=>(f i).cell))(Xn:n≤6):
 CallsIn FF 0 prog 76 #[.slice A n p] w fun e w'=>∃A' p',e=.returned (.slice A' n p')∧w'.ownsRow w.heap.size 45 4 (.slice A' n p') n (dH 4 (fun i=>(f i).cell) n)∧Below w.heap.size w w':=by
 rcases Nat.eq_zero_or_pos n with rfl|hn
 ·cases A with
  | none=>
    have he:∀w,(binOp BinOp.eql 24 (.slice none 0 p) (.slice none 0 0)).run prog w=.ok (.bool true) w:=fun w=>zk
    gi_enter func76,ntmps76
    gi_wp2
    go_ret
    exact⟨_,_,rfl,⟨by simp[dH],.inl ⟨rfl,rfl⟩⟩,zB⟩
  | some ad=>
    have he:∀w,(binOp BinOp.eql 24 (.slice (some ad) 0 p) (.slice none 0 0)).run prog w=.ok (.bool false) w:=fun w=>zk
    gi_enter func76,ntmps76
    gi_wp2
    go_ret
    exact⟨_,_,rfl,⟨by simp[dH],.inr ⟨_,_,_,rfl,zL,heap_alloc_new w _,zL,Nat.zero_le _,rfl,by simp[dH]⟩⟩,bw⟩
 ·obtain⟨ad,rfl,-⟩:=hI hn
  have HI:=hid hI
  clear hI
  obtain⟨i0,hi,hz0,hz1,hz2⟩:=info_parts Tryz.infoC
  have hi0:=hid hi
  clear hi
  have he:∀w,(binOp BinOp.eql 24 (.slice (some ad) n p) (.slice none 0 0)).run prog w=.ok (.bool false) w:=fun w=>zk
  gi_enter func76,ntmps76
  have Ei:=hid (lX w 45 4)
  have Hn:=hid (uL zD HI.out (.cells #[] 45))
  have Ho:=hid (sS (n:=n) (sz:=4) (f:=fun i=>(f i).cell) zD fun i q=>by show((f i).cell q).oneCell'=true;unfold Ct.cell;split <;> rfl)
  gi_wp2_with (gi_at_builtin;refine aD rfl rfl rfl fun K5 iI=>?_;refine wp_append_lies _ _ _ _ rfl w.heap.size 45 i0 _ 4 32 underlying24 hi0.out hz0 hz1 hz2 rfl zo (.slice (some ⟨w.heap.size,0,none⟩) 0 0) 0 _ rfl Ei.out ad n p (dH 4 (fun i=>(f i).cell) n) rfl (ko _ _ _) Hn.out Ho.out hn zU zo zs (w.heap.size+1) zs ?_;intro qQ nQ w5 hown5 aN kI mR;refine iI _ _ ?_;clear iI K5)
  go_ret
  rw[List.nil_append,Nat.zero_add] at hown5
  exact⟨_,_,rfl,hown5,(zB.alloc zL _).trans (below_grown aN zs (fun g hg=>by cases hg;exact zL))⟩
end
section
open Go.RowKit Go.Sort
theorem UR{kd:Int}(h:0≤kd∧kd≤4):∃ (x:ByteArray) (f:Nat),((f=139∧(kd=0∨kd=4))∨(f=140∧¬ (kd=0∨kd=4)))∧∀w:World,(Instr.index 165 (.agg yx) (int i64 kd)).run prog w=.ok (.agg #[.string x,.func (.func f) #[] #[]]) w∧(Instr.field 164 (.agg #[.string x,.func (.func f) #[] #[]]) 1).run prog w=.ok (.func (.func f) #[] #[]) w:=by
 rcases(show kd=0∨kd=1∨kd=2∨kd=3∨kd=4 by omega) with rfl|rfl|rfl|rfl|rfl
 ·exact⟨{data:=#[99,97,109,101] },_,.inl ⟨rfl,zD⟩,fun _=>⟨zk,zk⟩⟩
 ·exact⟨{data:=#[115,111,108,100] },_,.inr ⟨rfl,zD⟩,fun _=>⟨zk,zk⟩⟩
 ·exact⟨{data:=#[108,111,115,116] },_,.inr ⟨rfl,zD⟩,fun _=>⟨zk,zk⟩⟩
 ·exact⟨{data:=#[103,105,118,101,110] },_,.inr ⟨rfl,zD⟩,fun _=>⟨zk,zk⟩⟩
 ·exact⟨{data:=#[98,97,99,107] },_,.inl ⟨rfl,zD⟩,fun _=>⟨zk,zk⟩⟩
def mF(s:Nat→Int):Value:=.agg #[int i64 (s 0),int i64 (s 1),int i64 (s 2)]
def uu(b:Bk)(h:Ht)(k:Nat):Int:=if (b.m k).kind=0∨(b.m k).kind=4 then h.real k else - h.real k
def Gb(b:Bk)(s:Nat→Int)(h:Ht)(k:Nat)(g:Nat):Int:=if (b.m k).good=(g:Int) then s g+uu b h k else s g
end
end Go.Proofs.YtpmafoalhnaokaaGreat
namespace Go.Proofs.YtpmafoalhnaokaaGreat.W
open Go.RowKit
theorem oQ(h:Ht)(k:Nat)(w:World)(hl:h.lies<64)(hk:k<6):CallsIn SF 0 prog 59 #[h.val,int i64 k] w fun e w'=>e=.returned (.bool (h.JJ k))∧Below w.heap.size w w':=by
 obtain⟨f,m,lies⟩:=h
 simp only at hl
 simp only[Ht.val,Ht.cells,Ht.JJ]
 have e1:(lies:Int) / 2 ^ k=((lies / 2 ^ k:Nat):Int):=by push_cast;rfl
 have hle:lies / 2 ^ k≤lies:=Nat.div_le_self _ _
 have c2:bits BinOp.and IntKind.i64 ((lies:Int) / 2 ^ k) 1=((lies / 2 ^ k % 2:Nat):Int):=by rw[e1];exact and_one _ zo
 have c3:(bits BinOp.and IntKind.i64 ((lies:Int) / 2 ^ k) 1 == 1)=decide (lies / 2 ^ k % 2=1):=by
  rw[c2]
  by_cases h:lies / 2 ^ k % 2=1
  ·rw[h];rfl
  ·rw[decide_eq_false h];exact beq_eq_false_iff_ne.2 (fun e=>h (by exact_mod_cast e))
 clear c2 e1 hle
 have em:min k 64=k:=Nat.min_eq_left zo
 have C3:=hid c3
 clear c3
 gi_enter func59,ntmps59
 gi_wp2
 all_goals (go_ret;refine⟨?_,bw⟩;first|exact congrArg Ending.returned (congrArg Value.bool C3.out)|(rw[← C3.out,← em];simp)|trace_state)
theorem oh(h:Ht)(k:Nat)(w:World)(hl:h.lies<64)(hk:k<6):CallsIn SF 0 prog 55 #[h.val,int i64 k] w fun e w'=>e=.returned (int i64 (h.real k))∧Below w.heap.size w w':=by
 obtain⟨f,m,lies⟩:=h
 have hF:∀w,CallsIn SF 0 prog 59 #[.agg #[int i64 (f 0),int i64 (f 1),int i64 (f 2),int i64 (m 0),int i64 (m 1),int i64 (m 2),int i64 (m 3),int i64 (m 4),int i64 (m 5),int i64 lies],int i64 k] w fun e w'=>e=.returned (.bool ((⟨f,m,lies⟩:Ht).JJ k))∧Below w.heap.size w w':=fun w=>oQ ⟨f,m,lies⟩ k w hl hk
 simp only[Ht.val,Ht.cells,Ht.real]
 obtain⟨bb,hb⟩:∃bb,bb=(⟨f,m,lies⟩:Ht).JJ k:=zE
 rw[← hb] at hF⊢
 clear hb
 cases bb
 all_goals
  rcases(show k=0∨k=1∨k=2∨k=3∨k=4∨k=5 by omega) with rfl|rfl|rfl|rfl|rfl|rfl
 all_goals
  gi_enter func55,ntmps55
  gi_wp2_with (gi_at_call 59;refine(hF _).mono ?_;rintro e w2 ⟨rfl,hb2⟩;obtain⟨hc2,hf2⟩:=fu hb2;have hs2:w.heap.size<w2.heap.size:=by have:=hb2.size;simp at this;omega)
  go_ret
  exact⟨rfl,(bw:Below w.heap.size w _).trans (hb2.mono zs)⟩
end Go.Proofs.YtpmafoalhnaokaaGreat.W
namespace Go.Proofs.YtpmafoalhnaokaaGreat
open Go.RowKit
theorem oQ(h:Ht)(k:Nat)(w:World)(hl:h.lies<64)(hk:k<6):CallsIn FF 0 prog 59 #[h.val,int i64 k] w fun e w'=>e=.returned (.bool (h.JJ k))∧Below w.heap.size w w':=
 CallsIn.wider (W.oQ h k w hl hk)
theorem oh(h:Ht)(k:Nat)(w:World)(hl:h.lies<64)(hk:k<6):CallsIn FF 0 prog 55 #[h.val,int i64 k] w fun e w'=>e=.returned (int i64 (h.real k))∧Below w.heap.size w w':=
 CallsIn.wider (W.oh h k w hl hk)
end Go.Proofs.YtpmafoalhnaokaaGreat
namespace Go.Proofs.YtpmafoalhnaokaaGreat.W
section
open Go.RowKit
theorem YG(w:World):CallsIn SF 0 prog 120 #[] w fun e w'=>e=.returned (.agg yx)∧Below w.heap.size w w':=by
 gi_enter func120,ntmps120
 gi_wp2
 refine bodyPost_ret (v:=.agg yx) (by simp[results,results120,go_sem,yx]) rfl ⟨rfl,?_⟩
 exact zB.alloc zL _
end
end Go.Proofs.YtpmafoalhnaokaaGreat.W
namespace Go.Proofs.YtpmafoalhnaokaaGreat.W
open Go.RowKit Go.Sort
theorem wJ(b:Bk)(s:Nat→Int)(h:Ht)(k:Nat)(w:World)(hA:b.At w w.heap.size)(hk:k<b.nm)(ok:Mv.ok b k)(wu:b.ng≤3)(Uu:k<6)(hl:h.lies<64)
 (hs:∀g,g<3→-100000≤s g∧s g≤100000)(hm:-1000≤h.real k∧h.real k≤1000):
 CallsIn SF 0 prog 88 #[b.val,mF s,h.val,int i64 k] w fun e w'=>e=.returned (mF (Gb b s h k))∧Below w.heap.size w w':=by
 obtain⟨dY,mO,gA,ng,gc,g,mA,nm,mc,m,cA,nc,cc,c⟩:=b
 obtain⟨hf,hmm,lies⟩:=h
 simp only at hk wu hl
 obtain⟨o1,o2,-,-,-⟩:=ok
 simp only at o1 o2
 have hnm:=hA.nm
 simp only at hnm
 unfold maxLen at hnm
 have hR:∀w,CallsIn SF 0 prog 55 #[.agg #[int i64 (hf 0),int i64 (hf 1),int i64 (hf 2),int i64 (hmm 0),int i64 (hmm 1),int i64 (hmm 2),int i64 (hmm 3),int i64 (hmm 4),int i64 (hmm 5),int i64 lies],int i64 k] w fun e w'=>e=.returned (int i64 ((⟨hf,hmm,lies⟩:Ht).real k))∧Below w.heap.size w w':=fun w=>oh ⟨hf,hmm,lies⟩ k w hl Uu
 obtain⟨rk,lB⟩:∃rk,rk=(⟨hf,hmm,lies⟩:Ht).real k:=zE
 have hd:Gb ⟨dY,mO,gA,ng,gc,g,mA,nm,mc,m,cA,nc,cc,c⟩ s ⟨hf,hmm,lies⟩ k=fun(q:Nat)=>if (m k).good=(q:Int) then s q+(if (m k).kind=0∨(m k).kind=4 then rk else - rk) else s q:=by
  funext q;unfold Gb uu;rw[lB]
 rw[hd]
 rw[← lB] at hR hm
 clear hd lB
 have hS0:=hs 0 zD
 have hS1:=hs 1 zD
 have hS2:=hs 2 zD
 clear hs
 obtain⟨ad,hA',hbl,-⟩:=hA.m (show 0<nm by omega)
 simp only at hA'
 subst hA'
 simp only[Bk.val,Bk.cells,Ht.val,Ht.cells,mF]
 have hr:=hid (hA.m.row hk)
 have hB5:=hbl
 have hM:∃mk:Mv,mk=m k:=zE
 obtain⟨mk,hmk⟩:=hM
 rw[← hmk] at o1 o2⊢
 have HR:=hid (show ∀j,j<5→w.cell? ((ad.add (k * 5)).add j)=some (mk.cell j) by rw[hmk];exact hr.out.2)
 clear hr hmk hA
 obtain⟨kd,gd,dy,lo,hi⟩:=mk
 simp only at o1 o2⊢
 have hlt:(ad.add (k * 5)).block<w.heap.size:=by rw[aH];exact hbl
 obtain⟨z0,hz0⟩:∃z,z=s 0:=zE
 obtain⟨z1,hz1⟩:∃z,z=s 1:=zE
 obtain⟨z2,hz2⟩:∃z,z=s 2:=zE
 simp only[← hz0,← hz1,← hz2] at hS0 hS1 hS2⊢
 clear hz0 hz1 hz2
 have e:∀j,j<5→((((w.alloc (.cells #[int i64 dY,int i64 mO,.slice gA ng gc,.slice (some ad) nm mc,.slice cA nc cc] 73)).alloc (.cells #[int i64 z0,int i64 z1,int i64 z2] 88)).alloc (.cells #[int i64 (hf 0),int i64 (hf 1),int i64 (hf 2),int i64 (hmm 0),int i64 (hmm 1),int i64 (hmm 2),int i64 (hmm 3),int i64 (hmm 4),int i64 (hmm 5),int i64 lies] 91)).alloc (.cells #[int i64 0,int i64 0,int i64 0] 88)).cell? ((ad.add (k * 5)).add j)=some ((⟨kd,gd,dy,lo,hi⟩:Mv).cell j):=fun j hj=>((bw:Below w.heap.size w ((((w.alloc (.cells #[int i64 dY,int i64 mO,.slice gA ng gc,.slice (some ad) nm mc,.slice cA nc cc] 73)).alloc (.cells #[int i64 z0,int i64 z1,int i64 z2] 88)).alloc (.cells #[int i64 (hf 0),int i64 (hf 1),int i64 (hf 2),int i64 (hmm 0),int i64 (hmm 1),int i64 (hmm 2),int i64 (hmm 3),int i64 (hmm 4),int i64 (hmm 5),int i64 lies] 91)).alloc (.cells #[int i64 0,int i64 0,int i64 0] 88))).cell (by rw[aH,aH];exact hbl)).trans (HR.out j hj)
 have c0:((((w.alloc (.cells #[int i64 dY,int i64 mO,.slice gA ng gc,.slice (some ad) nm mc,.slice cA nc cc] 73)).alloc (.cells #[int i64 z0,int i64 z1,int i64 z2] 88)).alloc (.cells #[int i64 (hf 0),int i64 (hf 1),int i64 (hf 2),int i64 (hmm 0),int i64 (hmm 1),int i64 (hmm 2),int i64 (hmm 3),int i64 (hmm 4),int i64 (hmm 5),int i64 lies] 91)).alloc (.cells #[int i64 0,int i64 0,int i64 0] 88)).cell? (ad.add (k * 5))=some (int i64 kd):=e 0 zD
 have c1:((((w.alloc (.cells #[int i64 dY,int i64 mO,.slice gA ng gc,.slice (some ad) nm mc,.slice cA nc cc] 73)).alloc (.cells #[int i64 z0,int i64 z1,int i64 z2] 88)).alloc (.cells #[int i64 (hf 0),int i64 (hf 1),int i64 (hf 2),int i64 (hmm 0),int i64 (hmm 1),int i64 (hmm 2),int i64 (hmm 3),int i64 (hmm 4),int i64 (hmm 5),int i64 lies] 91)).alloc (.cells #[int i64 0,int i64 0,int i64 0] 88)).cell? ⟨(ad.add (k * 5)).block,(ad.add (k * 5)).off+1,none⟩=some (int i64 gd):=e 1 zD
 have c2:((((w.alloc (.cells #[int i64 dY,int i64 mO,.slice gA ng gc,.slice (some ad) nm mc,.slice cA nc cc] 73)).alloc (.cells #[int i64 z0,int i64 z1,int i64 z2] 88)).alloc (.cells #[int i64 (hf 0),int i64 (hf 1),int i64 (hf 2),int i64 (hmm 0),int i64 (hmm 1),int i64 (hmm 2),int i64 (hmm 3),int i64 (hmm 4),int i64 (hmm 5),int i64 lies] 91)).alloc (.cells #[int i64 0,int i64 0,int i64 0] 88)).cell? ⟨(ad.add (k * 5)).block,(ad.add (k * 5)).off+2,none⟩=some (int i64 dy):=e 2 zD
 have c3:((((w.alloc (.cells #[int i64 dY,int i64 mO,.slice gA ng gc,.slice (some ad) nm mc,.slice cA nc cc] 73)).alloc (.cells #[int i64 z0,int i64 z1,int i64 z2] 88)).alloc (.cells #[int i64 (hf 0),int i64 (hf 1),int i64 (hf 2),int i64 (hmm 0),int i64 (hmm 1),int i64 (hmm 2),int i64 (hmm 3),int i64 (hmm 4),int i64 (hmm 5),int i64 lies] 91)).alloc (.cells #[int i64 0,int i64 0,int i64 0] 88)).cell? ⟨(ad.add (k * 5)).block,(ad.add (k * 5)).off+3,none⟩=some (int i64 lo):=e 3 zD
 have c4:((((w.alloc (.cells #[int i64 dY,int i64 mO,.slice gA ng gc,.slice (some ad) nm mc,.slice cA nc cc] 73)).alloc (.cells #[int i64 z0,int i64 z1,int i64 z2] 88)).alloc (.cells #[int i64 (hf 0),int i64 (hf 1),int i64 (hf 2),int i64 (hmm 0),int i64 (hmm 1),int i64 (hmm 2),int i64 (hmm 3),int i64 (hmm 4),int i64 (hmm 5),int i64 lies] 91)).alloc (.cells #[int i64 0,int i64 0,int i64 0] 88)).cell? ⟨(ad.add (k * 5)).block,(ad.add (k * 5)).off+4,none⟩=some (int i64 hi):=e 4 zD
 clear e
 gi_enter func88,ntmps88
 gi_wp2
 obtain⟨wq,hwq⟩:∃wq,wq=((((w.alloc (.cells #[int i64 dY,int i64 mO,.slice gA ng gc,.slice (some ad) nm mc,.slice cA nc cc] 73)).alloc (.cells #[int i64 z0,int i64 z1,int i64 z2] 88)).alloc (.cells #[int i64 (hf 0),int i64 (hf 1),int i64 (hf 2),int i64 (hmm 0),int i64 (hmm 1),int i64 (hmm 2),int i64 (hmm 3),int i64 (hmm 4),int i64 (hmm 5),int i64 lies] 91)).alloc (.cells #[int i64 0,int i64 0,int i64 0] 88)).alloc (.cells #[int i64 kd,int i64 gd,int i64 dy,int i64 lo,int i64 hi] 39):=zE
 have hq1:Whole wq (w.heap.size+1) 88 #[int i64 z0,int i64 z1,int i64 z2]:=by
  have e:=((((Whole.new (w.alloc (.cells #[int i64 dY,int i64 mO,.slice gA ng gc,.slice (some ad) nm mc,.slice cA nc cc] 73)) 88 #[int i64 z0,int i64 z1,int i64 z2]).alloc (.cells #[int i64 (hf 0),int i64 (hf 1),int i64 (hf 2),int i64 (hmm 0),int i64 (hmm 1),int i64 (hmm 2),int i64 (hmm 3),int i64 (hmm 4),int i64 (hmm 5),int i64 lies] 91)).alloc (.cells #[int i64 0,int i64 0,int i64 0] 88)).alloc (.cells #[int i64 kd,int i64 gd,int i64 dy,int i64 lo,int i64 hi] 39))
  rw[hwq];simpa using e
 have hq2:Whole wq (w.heap.size+2) 91 #[int i64 (hf 0),int i64 (hf 1),int i64 (hf 2),int i64 (hmm 0),int i64 (hmm 1),int i64 (hmm 2),int i64 (hmm 3),int i64 (hmm 4),int i64 (hmm 5),int i64 lies]:=by
  have e:=((Whole.new ((w.alloc (.cells #[int i64 dY,int i64 mO,.slice gA ng gc,.slice (some ad) nm mc,.slice cA nc cc] 73)).alloc (.cells #[int i64 z0,int i64 z1,int i64 z2] 88)) 91 #[int i64 (hf 0),int i64 (hf 1),int i64 (hf 2),int i64 (hmm 0),int i64 (hmm 1),int i64 (hmm 2),int i64 (hmm 3),int i64 (hmm 4),int i64 (hmm 5),int i64 lies]).alloc (.cells #[int i64 0,int i64 0,int i64 0] 88)).alloc (.cells #[int i64 kd,int i64 gd,int i64 dy,int i64 lo,int i64 hi] 39)
  rw[hwq];simpa using e
 have hq3:Whole wq (w.heap.size+3) 88 #[int i64 0,int i64 0,int i64 0]:=by
  have e:=(Whole.new (((w.alloc (.cells #[int i64 dY,int i64 mO,.slice gA ng gc,.slice (some ad) nm mc,.slice cA nc cc] 73)).alloc (.cells #[int i64 z0,int i64 z1,int i64 z2] 88)).alloc (.cells #[int i64 (hf 0),int i64 (hf 1),int i64 (hf 2),int i64 (hmm 0),int i64 (hmm 1),int i64 (hmm 2),int i64 (hmm 3),int i64 (hmm 4),int i64 (hmm 5),int i64 lies] 91)) 88 #[int i64 0,int i64 0,int i64 0]).alloc (.cells #[int i64 kd,int i64 gd,int i64 dy,int i64 lo,int i64 hi] 39)
  rw[hwq];simpa using e
 have hq4:Whole wq (w.heap.size+4) 39 #[int i64 kd,int i64 gd,int i64 dy,int i64 lo,int i64 hi]:=by
  have e:=Whole.new ((((w.alloc (.cells #[int i64 dY,int i64 mO,.slice gA ng gc,.slice (some ad) nm mc,.slice cA nc cc] 73)).alloc (.cells #[int i64 z0,int i64 z1,int i64 z2] 88)).alloc (.cells #[int i64 (hf 0),int i64 (hf 1),int i64 (hf 2),int i64 (hmm 0),int i64 (hmm 1),int i64 (hmm 2),int i64 (hmm 3),int i64 (hmm 4),int i64 (hmm 5),int i64 lies] 91)).alloc (.cells #[int i64 0,int i64 0,int i64 0] 88)) 39 #[int i64 kd,int i64 gd,int i64 dy,int i64 lo,int i64 hi]
  rw[hwq];simpa using e
 have hbq:Below w.heap.size w wq:=by rw[hwq];exact bw
 have TE:wq.heap.size=w.heap.size+5:=by rw[hwq];simp
 rw[← hwq]
 clear c0 c1 c2 c3 c4 hwq HR hlt hbl hB5
 have g2:Whole wq (w.heap.size+1+1) _ _:=hq2
 have g3:Whole wq (w.heap.size+1+1+1) _ _:=hq3
 have g4:Whole wq (w.heap.size+1+1+1+1) _ _:=hq4
 clear hq2 hq3 hq4
 have t1:w.heap.size+1<wq.heap.size:=zo
 have t2:w.heap.size+1+1<wq.heap.size:=zo
 have t3:w.heap.size+1+1+1<wq.heap.size:=zo
 have t4:w.heap.size+1+1+1+1<wq.heap.size:=zo
 have a0:=hq1.cell 0
 have a1:=hq1.cell 1
 have a2:=hq1.cell 2
 have af:=hq1.thaw
 have d0:=g4.cell 0
 have d1:=g4.cell 1
 have h0:=g2.cell 0
 have h1:=g2.cell 1
 have h2:=g2.cell 2
 have h3:=g2.cell 3
 have h4:=g2.cell 4
 have h5:=g2.cell 5
 have h6:=g2.cell 6
 have h7:=g2.cell 7
 have h8:=g2.cell 8
 have h9:=g2.cell 9
 obtain⟨xk,fk,lf,Yv⟩:=UR o1
 have hix:=fun w=>(Yv w).1
 have hif:=fun w=>(Yv w).2
 clear Yv
 have pT:=hid hbq
 have b9:∀a b:Int,-100000≤a∧a≤100000→-1000≤b∧b≤1000→wrap64 (a+b)=a+b∧wrap64 (a - b)=a - b:=fun a b h1 h2=>⟨IntWalk.wrap64_in _ zo,IntWalk.wrap64_in _ zo⟩
 have ws0:=hid (b9 _ _ hS0 hm)
 have ws1:=hid (b9 _ _ hS1 hm)
 have ws2:=hid (b9 _ _ hS2 hm)
 clear hbq b9 hS0 hS1 hS2 hm
 have T7:=cell_regrown a0
 have T8:=cell_regrown a1
 have T':=cell_regrown a2
 have Up:=cell_regrown d0
 have UI:=cell_regrown d1
 have UP:=cell_regrown h0
 have US:=cell_regrown h1
 have UT:=cell_regrown h2
 have U':=cell_regrown h3
 have VC:=cell_regrown h4
 have VM:=cell_regrown h5
 have VS:=cell_regrown h6
 have VV:=cell_regrown h7
 have V':=cell_regrown h8
 have Wb:=cell_regrown h9
 have cK:∀d os,CallsIn SF 0 prog 120 #[] (grow (redrawn wq d) os) fun e w''=>e=.returned (.agg yx)∧∃p:Regrown,w''=grow (redrawn wq p.d) p.os:=fun d os=>CallsIn.regrown_of (YG _)
 have cR:∀d os,CallsIn SF 0 prog 55 #[.agg #[int i64 (hf 0),int i64 (hf 1),int i64 (hf 2),int i64 (hmm 0),int i64 (hmm 1),int i64 (hmm 2),int i64 (hmm 3),int i64 (hmm 4),int i64 (hmm 5),int i64 lies],int i64 k] (grow (redrawn wq d) os) fun e w''=>e=.returned (int i64 rk)∧∃p:Regrown,w''=grow (redrawn wq p.d) p.os:=fun d os=>CallsIn.regrown_of (hR _)
 have cM:∀x y d os,CallsIn SF 0 prog 139 #[int i64 x,int i64 y] (grow (redrawn wq d) os) fun e w''=>e=.returned (int i64 (wrap64 (x+y)))∧∃p:Regrown,w''=grow (redrawn wq p.d) p.os:=fun x y d os=>CallsIn.regrown_of ((mx x y _).mono fun e w' h=>⟨h.1,h.2 ▸ zB⟩)
 have cL:∀x y d os,CallsIn SF 0 prog 140 #[int i64 x,int i64 y] (grow (redrawn wq d) os) fun e w''=>e=.returned (int i64 (wrap64 (x - y)))∧∃p:Regrown,w''=grow (redrawn wq p.d) p.os:=fun x y d os=>CallsIn.regrown_of ((mi x y _).mono fun e w' h=>⟨h.1,h.2 ▸ zB⟩)
 have Q1:=hid hq1
 have Q3:=hid g3
 clear a0 a1 a2 af d0 d1 h0 h1 h2 h3 h4 h5 h6 h7 h8 h9 t1 t2 t3 t4 hR hq1 g2 g3 g4
 have fin:∀ (zg u:Int) (f:Nat),(f=139∧(kd=0∨kd=4)∧u=zg+rk∨f=140∧¬ (kd=0∨kd=4)∧u=zg - rk)→wrap64 (zg+rk)=zg+rk∧wrap64 (zg - rk)=zg - rk→
  (∀d os,CallsIn SF 0 prog f #[int i64 zg,int i64 rk] (grow (redrawn wq d) os) fun e w''=>e=.returned (int i64 u)∧∃p:Regrown,w''=grow (redrawn wq p.d) p.os):=fun zg u f h hw d os=>by
  rcases h with⟨rfl,-,rfl⟩|⟨rfl,-,rfl⟩
  ·have:=cM zg rk d os;rwa[hw.1] at this
  ·have:=cL zg rk d os;rwa[hw.2] at this
 clear cM cL
 have hU:∀zg:Int,∃u,u=zg+(if kd=0∨kd=4 then rk else - rk)∧(fk=139∧(kd=0∨kd=4)∧u=zg+rk∨fk=140∧¬ (kd=0∨kd=4)∧u=zg - rk):=fun zg=>by
  rcases lf with⟨h1,h2⟩|⟨h1,h2⟩
  ·exact⟨_,rfl,.inl ⟨h1,h2,by rw[if_pos h2]⟩⟩
  ·exact⟨_,rfl,.inr ⟨h1,h2,by rw[if_neg h2];omega⟩⟩
 obtain⟨u0,hu0,hv0⟩:=hU z0
 obtain⟨u1,hu1,hv1⟩:=hU z1
 obtain⟨u2,hu2,hv2⟩:=hU z2
 have qn:=fin z0 u0 fk hv0 ws0.out
 have qq:=fin z1 u1 fk hv1 ws1.out
 have qu:=fin z2 u2 fk hv2 ws2.out
 have HU0:=hid hu0
 have HU1:=hid hu1
 have HU2:=hid hu2
 clear hU fin hv0 hv1 hv2 hu0 hu1 hu2 ws0 ws1 ws2
 have SJ:fk=139∨fk=140:=lf.imp (·.1) (·.1)
 clear lf
 rcases SJ with rfl|rfl
 all_goals
  rcases(show gd=0∨gd=1∨gd=2 by omega) with rfl|rfl|rfl
  all_goals clear o1 o2
  ·refine aJ 16 rfl zk zk ?_
   simp only[List.take_succ_cons,List.take_zero,List.drop_succ_cons,List.drop_zero]
   repeat (quiet_step_in (first|exact cK _ _|exact cR _ _|exact qn _ _|exact qq _ _|exact qu _ _))
   refine wpQuietIn_nil ?_
   rintro w' ⟨⟨dq,osq⟩,rfl⟩
   have bn:=below_regrown wq dq osq
   clear UP US UT U' VC VM VS VV V' Wb T7 T8 T' Up UI cK cR qn qq qu hix hif
   generalize grow (redrawn wq dq) osq=w9 at bn⊢
   have W1:=Q1.out.below bn Q1.out.lt
   have W3:=Q3.out.below bn Q3.out.lt
   have x0:=W1.cell 0
   have x1:=W1.cell 1
   have x2:=W1.cell 2
   have xf:=W1.thaw
   have yc:=W3.cell
   have yf:=W3.thaw
   have l1:=W1.lt
   have l3:=W3.lt
   have V3:=hid W3
   have EL:=hid (pT.out.trans (bn.mono zo))
   clear bn Q1 Q3 pT W1 W3 TE hnm hl wu Uu hk
   rename_i Kr Qr hKr
   refine wpListIn_plain rfl (fun K hK=>?_)
   go_simp
   refine hK _ _ (wpListIn_nil (hKr _ _ ?_))
   clear hKr Kr hK K
   apply wpIn_seq_k
   intro K hK
   apply wpIn_region_lit
   refine wpListIn_plain rfl (fun K2 hK2=>?_)
   go_simp
   refine hK2 _ _ ?_
   clear hK2 K2
   refine wpListIn_plain rfl (fun K2 hK2=>?_)
   go_simp
   refine hK2 _ _ (wpListIn_nil (hK _ _ ?_))
   clear hK2 K2 hK K
   apply wpIn_ret
   have U0:=V3.out.other (p:=⟨w.heap.size+1,0,none⟩) zm (int i64 u0)
   have U3:=((U0.set 0 (int i64 u0)).set 1 (int i64 z1)).set 2 (int i64 z2)
   have q0:=U3.cell 0
   have q1:=U3.cell 1
   have q2:=U3.cell 2
   clear x0 x1 x2 xf yc yf l1 l3
   refine bodyPost_ret (v:=.agg #[int i64 u0,int i64 z1,int i64 z2]) (by simp[results,results88,go_sem,q0,q1,q2]) rfl ⟨?_,?_⟩
   ·rw[HU0.out];simp
   ·exact(((EL.out.setCell (p:=⟨w.heap.size+1,0,none⟩) (Nat.le_succ _) _).setCell (p:=⟨w.heap.size+1+1+1,0,none⟩) (by show w.heap.size≤w.heap.size+1+1+1;omega) _).setCell (p:=⟨w.heap.size+1+1+1,1,none⟩) (by show w.heap.size≤w.heap.size+1+1+1;omega) _).setCell (p:=⟨w.heap.size+1+1+1,2,none⟩) (by show w.heap.size≤w.heap.size+1+1+1;omega) _
  ·refine aJ 16 rfl zk zk ?_
   simp only[List.take_succ_cons,List.take_zero,List.drop_succ_cons,List.drop_zero]
   repeat (quiet_step_in (first|exact cK _ _|exact cR _ _|exact qn _ _|exact qq _ _|exact qu _ _))
   refine wpQuietIn_nil ?_
   rintro w' ⟨⟨dq,osq⟩,rfl⟩
   have bn:=below_regrown wq dq osq
   clear UP US UT U' VC VM VS VV V' Wb T7 T8 T' Up UI cK cR qn qq qu hix hif
   generalize grow (redrawn wq dq) osq=w9 at bn⊢
   have W1:=Q1.out.below bn Q1.out.lt
   have W3:=Q3.out.below bn Q3.out.lt
   have x0:=W1.cell 0
   have x1:=W1.cell 1
   have x2:=W1.cell 2
   have xf:=W1.thaw
   have yc:=W3.cell
   have yf:=W3.thaw
   have l1:=W1.lt
   have l3:=W3.lt
   have V3:=hid W3
   have EL:=hid (pT.out.trans (bn.mono zo))
   clear bn Q1 Q3 pT W1 W3 TE hnm hl wu Uu hk
   rename_i Kr Qr hKr
   refine wpListIn_plain rfl (fun K hK=>?_)
   go_simp
   refine hK _ _ (wpListIn_nil (hKr _ _ ?_))
   clear hKr Kr hK K
   apply wpIn_seq_k
   intro K hK
   apply wpIn_region_lit
   refine wpListIn_plain rfl (fun K2 hK2=>?_)
   go_simp
   refine hK2 _ _ ?_
   clear hK2 K2
   refine wpListIn_plain rfl (fun K2 hK2=>?_)
   go_simp
   refine hK2 _ _ (wpListIn_nil (hK _ _ ?_))
   clear hK2 K2 hK K
   apply wpIn_ret
   have U0:=V3.out.other (p:=⟨w.heap.size+1,1,none⟩) zm (int i64 u1)
   have U3:=((U0.set 0 (int i64 z0)).set 1 (int i64 u1)).set 2 (int i64 z2)
   have q0:=U3.cell 0
   have q1:=U3.cell 1
   have q2:=U3.cell 2
   clear x0 x1 x2 xf yc yf l1 l3
   refine bodyPost_ret (v:=.agg #[int i64 z0,int i64 u1,int i64 z2]) (by simp[results,results88,go_sem,q0,q1,q2]) rfl ⟨?_,?_⟩
   ·rw[HU1.out];simp
   ·exact(((EL.out.setCell (p:=⟨w.heap.size+1,1,none⟩) (Nat.le_succ _) _).setCell (p:=⟨w.heap.size+1+1+1,0,none⟩) (by show w.heap.size≤w.heap.size+1+1+1;omega) _).setCell (p:=⟨w.heap.size+1+1+1,1,none⟩) (by show w.heap.size≤w.heap.size+1+1+1;omega) _).setCell (p:=⟨w.heap.size+1+1+1,2,none⟩) (by show w.heap.size≤w.heap.size+1+1+1;omega) _
  ·refine aJ 16 rfl zk zk ?_
   simp only[List.take_succ_cons,List.take_zero,List.drop_succ_cons,List.drop_zero]
   repeat (quiet_step_in (first|exact cK _ _|exact cR _ _|exact qn _ _|exact qq _ _|exact qu _ _))
   refine wpQuietIn_nil ?_
   rintro w' ⟨⟨dq,osq⟩,rfl⟩
   have bn:=below_regrown wq dq osq
   clear UP US UT U' VC VM VS VV V' Wb T7 T8 T' Up UI cK cR qn qq qu hix hif
   generalize grow (redrawn wq dq) osq=w9 at bn⊢
   have W1:=Q1.out.below bn Q1.out.lt
   have W3:=Q3.out.below bn Q3.out.lt
   have x0:=W1.cell 0
   have x1:=W1.cell 1
   have x2:=W1.cell 2
   have xf:=W1.thaw
   have yc:=W3.cell
   have yf:=W3.thaw
   have l1:=W1.lt
   have l3:=W3.lt
   have V3:=hid W3
   have EL:=hid (pT.out.trans (bn.mono zo))
   clear bn Q1 Q3 pT W1 W3 TE hnm hl wu Uu hk
   rename_i Kr Qr hKr
   refine wpListIn_plain rfl (fun K hK=>?_)
   go_simp
   refine hK _ _ (wpListIn_nil (hKr _ _ ?_))
   clear hKr Kr hK K
   apply wpIn_seq_k
   intro K hK
   apply wpIn_region_lit
   refine wpListIn_plain rfl (fun K2 hK2=>?_)
   go_simp
   refine hK2 _ _ ?_
   clear hK2 K2
   refine wpListIn_plain rfl (fun K2 hK2=>?_)
   go_simp
   refine hK2 _ _ (wpListIn_nil (hK _ _ ?_))
   clear hK2 K2 hK K
   apply wpIn_ret
   have U0:=V3.out.other (p:=⟨w.heap.size+1,2,none⟩) zm (int i64 u2)
   have U3:=((U0.set 0 (int i64 z0)).set 1 (int i64 z1)).set 2 (int i64 u2)
   have q0:=U3.cell 0
   have q1:=U3.cell 1
   have q2:=U3.cell 2
   clear x0 x1 x2 xf yc yf l1 l3
   refine bodyPost_ret (v:=.agg #[int i64 z0,int i64 z1,int i64 u2]) (by simp[results,results88,go_sem,q0,q1,q2]) rfl ⟨?_,?_⟩
   ·rw[HU2.out];simp
   ·exact(((EL.out.setCell (p:=⟨w.heap.size+1,2,none⟩) (Nat.le_succ _) _).setCell (p:=⟨w.heap.size+1+1+1,0,none⟩) (by show w.heap.size≤w.heap.size+1+1+1;omega) _).setCell (p:=⟨w.heap.size+1+1+1,1,none⟩) (by show w.heap.size≤w.heap.size+1+1+1;omega) _).setCell (p:=⟨w.heap.size+1+1+1,2,none⟩) (by show w.heap.size≤w.heap.size+1+1+1;omega) _
end Go.Proofs.YtpmafoalhnaokaaGreat.W
namespace Go.Proofs.YtpmafoalhnaokaaGreat
open Go.RowKit
theorem wJ(b:Bk)(s:Nat→Int)(h:Ht)(k:Nat)(w:World)(hA:b.At w w.heap.size)(hk:k<b.nm)(ok:Mv.ok b k)(wu:b.ng≤3)(Uu:k<6)(hl:h.lies<64)
 (hs:∀g,g<3→-100000≤s g∧s g≤100000)(hm:-1000≤h.real k∧h.real k≤1000):
 CallsIn FF 0 prog 88 #[b.val,mF s,h.val,int i64 k] w fun e w'=>e=.returned (mF (Gb b s h k))∧Below w.heap.size w w':=
 CallsIn.wider (W.wJ b s h k w hA hk ok wu Uu hl hs hm)
end Go.Proofs.YtpmafoalhnaokaaGreat
namespace Go.Proofs.YtpmafoalhnaokaaGreat
section
open Go.RowKit
section
variable{w w':World}{b B n:Nat}{t:TypeId}{cs:Array Value}{x y z x' y' z':Value}
theorem Whole.bS(h:Whole w b t cs)(hb:b≠B):Whole (((w.setCell ⟨B,0,none⟩ x).setCell ⟨B,1,none⟩ y).setCell ⟨B,2,none⟩ z) b t cs:=
 ((h.other (p:=⟨B,0,none⟩) hb x).other (p:=⟨B,1,none⟩) hb y).other (p:=⟨B,2,none⟩) hb z
theorem Whole.iR(h:Whole w B t #[x',y',z']):Whole (((w.setCell ⟨B,0,none⟩ x).setCell ⟨B,1,none⟩ y).setCell ⟨B,2,none⟩ z) B t #[x,y,z]:=
 ((h.set 0 x).set 1 y).set 2 z
theorem aC(h:Below n w w')(hB:n≤B):Below n w (((w'.setCell ⟨B,0,none⟩ x).setCell ⟨B,1,none⟩ y).setCell ⟨B,2,none⟩ z):=
 ((h.setCell (p:=⟨B,0,none⟩) hB x).setCell (p:=⟨B,1,none⟩) hB y).setCell (p:=⟨B,2,none⟩) hB z
end
structure pK(h:Ht):Prop where
 f:∀i,i<3→0≤h.f i∧h.f i≤99
 m:∀i,i<6→0≤h.m i∧h.m i≤99
 lies:h.lies<64
theorem pK.real{h:Ht}(ok:pK h){k:Nat}(hk:k<6):0≤h.real k∧h.real k≤99:=by
 unfold Ht.real
 have:=ok.m k hk
 split <;> omega
def stk(b:Bk)(h:Ht)(d:Int):Nat→Nat→Int
 | 0=>h.f
 | Nat.succ k=>if (b.m k).day≤d then Gb b (stk b h d k) h k else stk b h d k
theorem Mt{b:Bk}{h:Ht}(ok:pK h)(d:Int):∀k:Nat,k≤6→∀g:Nat,g<3→-99 * (k:Int)≤stk b h d k g∧stk b h d k g≤99 * ((k:Int)+1)
 | 0,_,g,hg=>by have:=ok.f g hg;simp only[stk];omega
 | k+1,hk,g,hg=>by
   have ih:=Mt (b:=b) ok d k zo g hg
   have hr:=ok.real (k:=k) zo
   simp only[stk]
   split
   ·unfold Gb uu
    split <;> (try split) <;> (push_cast;omega)
   ·push_cast;omega
theorem gK(b:Bk)(h:Ht)(d:Int)(w:World)(hA:b.At w w.heap.size)(ok:gT b)(wu:b.ng≤3)(hok:pK h):
 CallsIn FF 0 prog 47 #[b.val,h.val,int i64 d] w fun e w'=>e=.returned (mF (stk b h d b.nm))∧Below w.heap.size w w':=by
 have P3:∀ (s:Nat→Int) (k:Nat) (w:World),b.At w w.heap.size→k<b.nm→(∀g,g<3→-100000≤s g∧s g≤100000)→CallsIn FF 0 prog 88 #[b.val,mF s,h.val,int i64 k] w fun e w'=>e=.returned (mF (Gb b s h k))∧Below w.heap.size w w':=fun s k w hA hk hs=>
  wJ b s h k w hA hk (ok.2 k hk) wu (Nat.lt_of_lt_of_le hk ok.1) hok.lies hs (by have:=hok.real (k:=k) (Nat.lt_of_lt_of_le hk ok.1);omega)
 have hst:Hid (∀k:Nat,k≤b.nm→∀g:Nat,g<3→-100000≤stk b h d k g∧stk b h d k g≤100000):=hid fun k hk g hg=>by
  have:=Mt (b:=b) hok d k (Nat.le_trans hk ok.1) g hg
  have:=ok.1
  omega
 have Uw:=ok.1
 obtain⟨dY,mO,gA,ng,gc,g,mA,nm,mc,m,cA,nc,cc,c⟩:=b
 obtain⟨hf,hmm,lies⟩:=h
 simp only[Bk.val,Bk.cells,Ht.val,Ht.cells,mF] at P3⊢
 simp only at wu Uw
 obtain⟨S,hS⟩:∃S,S=stk (⟨dY,mO,gA,ng,gc,g,mA,nm,mc,m,cA,nc,cc,c⟩:Bk) ⟨hf,hmm,lies⟩ d:=zE
 have hS0:S 0=hf:=by rw[hS];rfl
 have hSs:∀k,S (k+1)=if (m k).day≤d then Gb (⟨dY,mO,gA,ng,gc,g,mA,nm,mc,m,cA,nc,cc,c⟩:Bk) (S k) ⟨hf,hmm,lies⟩ k else S k:=fun k=>by rw[hS];rfl
 rw[← hS] at hst⊢
 clear hS ok hok
 have HA:=hid hA
 have Kp:=hid P3
 have HSs:=hid hSs
 clear hA P3 hSs
 obtain⟨w4,hw4⟩:∃w4,w4=(((w.alloc (.cells #[int i64 dY,int i64 mO,.slice gA ng gc,.slice mA nm mc,.slice cA nc cc] 73)).alloc (.cells #[int i64 (hf 0),int i64 (hf 1),int i64 (hf 2),int i64 (hmm 0),int i64 (hmm 1),int i64 (hmm 2),int i64 (hmm 3),int i64 (hmm 4),int i64 (hmm 5),int i64 lies] 91)).alloc (.cells #[int i64 0,int i64 0,int i64 0] 88)).alloc (.cells #[int i64 (hf 0),int i64 (hf 1),int i64 (hf 2)] 88):=zE
 have W0:Hid (Whole w4 w.heap.size 73 #[int i64 dY,int i64 mO,.slice gA ng gc,.slice mA nm mc,.slice cA nc cc]):=hid (by rw[hw4];exact(((Whole.new w _ _).alloc _).alloc _).alloc _)
 have W1:Hid (Whole w4 (w.heap.size+1) 91 #[int i64 (hf 0),int i64 (hf 1),int i64 (hf 2),int i64 (hmm 0),int i64 (hmm 1),int i64 (hmm 2),int i64 (hmm 3),int i64 (hmm 4),int i64 (hmm 5),int i64 lies]):=hid (by
  have:=((Whole.new (w.alloc (.cells #[int i64 dY,int i64 mO,.slice gA ng gc,.slice mA nm mc,.slice cA nc cc] 73)) 91 #[int i64 (hf 0),int i64 (hf 1),int i64 (hf 2),int i64 (hmm 0),int i64 (hmm 1),int i64 (hmm 2),int i64 (hmm 3),int i64 (hmm 4),int i64 (hmm 5),int i64 lies]).alloc (.cells #[int i64 0,int i64 0,int i64 0] 88)).alloc (.cells #[int i64 (hf 0),int i64 (hf 1),int i64 (hf 2)] 88)
  rw[World.size_alloc] at this;rw[hw4];exact this)
 have W2:Hid (Whole w4 (w.heap.size+1+1) 88 #[int i64 0,int i64 0,int i64 0]):=hid (by
  have:=(Whole.new ((w.alloc (.cells #[int i64 dY,int i64 mO,.slice gA ng gc,.slice mA nm mc,.slice cA nc cc] 73)).alloc (.cells #[int i64 (hf 0),int i64 (hf 1),int i64 (hf 2),int i64 (hmm 0),int i64 (hmm 1),int i64 (hmm 2),int i64 (hmm 3),int i64 (hmm 4),int i64 (hmm 5),int i64 lies] 91)) 88 #[int i64 0,int i64 0,int i64 0]).alloc (.cells #[int i64 (hf 0),int i64 (hf 1),int i64 (hf 2)] 88)
  rw[World.size_alloc,World.size_alloc] at this;rw[hw4];exact this)
 have W3:Hid (Whole w4 (w.heap.size+1+1+1) 88 #[int i64 (S 0 0),int i64 (S 0 1),int i64 (S 0 2)]):=hid (by
  have:=Whole.new (((w.alloc (.cells #[int i64 dY,int i64 mO,.slice gA ng gc,.slice mA nm mc,.slice cA nc cc] 73)).alloc (.cells #[int i64 (hf 0),int i64 (hf 1),int i64 (hf 2),int i64 (hmm 0),int i64 (hmm 1),int i64 (hmm 2),int i64 (hmm 3),int i64 (hmm 4),int i64 (hmm 5),int i64 lies] 91)).alloc (.cells #[int i64 0,int i64 0,int i64 0] 88)) 88 #[int i64 (hf 0),int i64 (hf 1),int i64 (hf 2)]
  rw[World.size_alloc,World.size_alloc,World.size_alloc] at this;rw[hw4,hS0];exact this)
 have WB:Hid (Below w.heap.size w w4):=hid (by rw[hw4];exact bw)
 have tB:=hid hw4
 clear hw4 hS0
 gi_enter func47,ntmps47
 gi_wp2
 rw[← tB.out]
 clear tB
 gi_loopw [16] (fun i wr=>∃k:Nat,k≤nm∧i=int i64 k∧Hid (Whole wr w.heap.size 73 #[int i64 dY,int i64 mO,.slice gA ng gc,.slice mA nm mc,.slice cA nc cc]∧Whole wr (w.heap.size+1) 91 #[int i64 (hf 0),int i64 (hf 1),int i64 (hf 2),int i64 (hmm 0),int i64 (hmm 1),int i64 (hmm 2),int i64 (hmm 3),int i64 (hmm 4),int i64 (hmm 5),int i64 lies]∧Whole wr (w.heap.size+1+1) 88 #[int i64 0,int i64 0,int i64 0]∧Whole wr (w.heap.size+1+1+1) 88 #[int i64 (S k 0),int i64 (S k 1),int i64 (S k 2)]∧Below w.heap.size w wr)) (fun i _=>nm - (intOf i).toNat)
 case atStart=>exact⟨0,Nat.zero_le _,rfl,hid ⟨W0.out,W1.out,W2.out,W3.out,WB.out⟩⟩
 case round=>
  obtain⟨k,hk,rfl,hR⟩:=hrel
  clear W0 W1 W2 W3 WB
  by_cases hlt:k<nm
  ·obtain⟨wo,rfl⟩:∃wo:World,wo=wr:=zE
   have hs3:=hR.out.2.2.2.1.lt
   have hsz:w.heap.size≤wo.heap.size:=zo
   obtain⟨ad,hA',hbl,-⟩:=HA.out.m (show 0<nm by omega)
   simp only at hA'
   subst hA'
   have hr:=(HA.out.m.below hR.out.2.2.2.2).row hlt
   have c0:wo.cell? (ad.add (k * 5))=some (int i64 (m k).kind):=hr.2 0 zD
   have c1:wo.cell? ⟨(ad.add (k * 5)).block,(ad.add (k * 5)).off+1,none⟩=some (int i64 (m k).good):=hr.2 1 zD
   have c2:wo.cell? ⟨(ad.add (k * 5)).block,(ad.add (k * 5)).off+2,none⟩=some (int i64 (m k).day):=hr.2 2 zD
   have c3:wo.cell? ⟨(ad.add (k * 5)).block,(ad.add (k * 5)).off+3,none⟩=some (int i64 (m k).lo):=hr.2 3 zD
   have c4:wo.cell? ⟨(ad.add (k * 5)).block,(ad.add (k * 5)).off+4,none⟩=some (int i64 (m k).hi):=hr.2 4 zD
   clear hr
   have q0:=hR.out.1.cell
   have q1:=hR.out.2.1.cell
   have q3:=hR.out.2.2.2.1.cell
   have t0:w.heap.size<wo.heap.size:=zo
   have t1:w.heap.size+1<wo.heap.size:=zo
   have t2:w.heap.size+1+1<wo.heap.size:=zo
   by_cases Ld:(m k).day≤d
   ·have hdd:decide ((m k).day≤d)=true:=decide_eq_true Ld
    have Ny:=HSs.out k
    rw[if_pos Ld] at Ny
    have gq:=hid Ny
    clear Ny
    gi_wp2_with (gi_at_call 88;refine(Kp.out (S k) k _ ((HA.out.below (hR.out.2.2.2.2.trans (bw))).more zm) hlt (hst.out k zo)).mono ?_;rintro e w2 ⟨rfl,hb2⟩;have HB2:Hid (Below wo.heap.size wo w2):=hid ((bw:Below wo.heap.size wo _).trans (hb2.mono zs));clear hb2;have y3:=hR.out.2.2.2.1.below HB2.out hs3;have yc:=y3.cell;have yf:=y3.thaw)
    go_roundw
    case rel=>
     refine⟨k+1,zo,by go_num,hid ⟨(hR.out.1.below HB2.out t0).bS zo,(hR.out.2.1.below HB2.out t1).bS zo,(hR.out.2.2.1.below HB2.out t2).bS zo,?_,aC (hR.out.2.2.2.2.trans (HB2.out.mono hsz)) zo⟩⟩
     rw[gq.out]
     exact y3.iR
    case measure=>simp[intOf];omega
   ·have hdd:decide ((m k).day≤d)=false:=decide_eq_false Ld
    have Ny:=HSs.out k
    rw[if_neg Ld] at Ny
    have gq:=hid Ny
    clear Ny
    gi_wp2
    go_roundw
    case rel=>exact⟨k+1,zo,by go_num,hid ⟨hR.out.1.alloc _,hR.out.2.1.alloc _,hR.out.2.2.1.alloc _,by rw[gq.out];exact hR.out.2.2.2.1.alloc _,hR.out.2.2.2.2.alloc hsz _⟩⟩
    case measure=>simp[intOf];omega
  ·obtain rfl:k=nm:=zo
   have q3:=hR.out.2.2.2.1.cell
   have q2:=hR.out.2.2.1.cell
   have XN:=hR.out.2.2.1.thaw
   gi_wp2
   have U:=(hR.out.2.2.1.iR (x:=int i64 (S k 0)) (y:=int i64 (S k 1)) (z:=int i64 (S k 2)))
   have u0:=U.cell 0
   have u1:=U.cell 1
   have u2:=U.cell 2
   clear q3 q2 XN
   refine bodyPost_ret (v:=.agg #[int i64 (S k 0),int i64 (S k 1),int i64 (S k 2)]) (by simp[results,results47,go_sem,u0,u1,u2]) rfl ⟨rfl,aC hR.out.2.2.2.2 zo⟩
def E9(b:Bk)(h:Ht):Nat→Nat→Int
 | 0=>h.f
 | Nat.succ k=>fun g=>min (E9 b h k g) (stk b h k b.nm g)
theorem AT(b:Bk)(h:Ht)(w:World)(hA:b.At w w.heap.size)(ok:gT b)(hd:1≤b.dY∧b.dY≤99)(wu:b.ng≤3)(hok:pK h):
 CallsIn FF 0 prog 48 #[b.val,h.val] w fun e w'=>e=.returned (mF (E9 b h (b.dY.toNat+1)))∧Below w.heap.size w w':=by
 have hSt:∀ (d:Nat) (w:World),b.At w w.heap.size→CallsIn FF 0 prog 47 #[b.val,h.val,int i64 d] w fun e w'=>e=.returned (mF (stk b h d b.nm))∧Below w.heap.size w w':=fun d w hA=>gK b h d w hA ok wu hok
 obtain⟨dY,mO,gA,ng,gc,g,mA,nm,mc,m,cA,nc,cc,c⟩:=b
 obtain⟨hf,hmm,lies⟩:=h
 simp only[Bk.val,Bk.cells,Ht.val,Ht.cells,mF] at hSt⊢
 simp only at hd
 obtain⟨D,rfl⟩:∃D:Nat,dY=(D:Int):=⟨dY.toNat,zo⟩
 obtain⟨T,hT⟩:∃T:Nat→Nat→Int,T=fun(d:Nat)=>stk (⟨D,mO,gA,ng,gc,g,mA,nm,mc,m,cA,nc,cc,c⟩:Bk) ⟨hf,hmm,lies⟩ d nm:=⟨_,rfl⟩
 obtain⟨L,hL⟩:∃L,L=E9 (⟨D,mO,gA,ng,gc,g,mA,nm,mc,m,cA,nc,cc,c⟩:Bk) ⟨hf,hmm,lies⟩:=zE
 have hL0:L 0=hf:=by rw[hL];rfl
 have vj:∀k q,L (k+1) q=min (L k q) (T k q):=fun k q=>by rw[hL,hT];rfl
 have hTe:∀d:Nat,stk (⟨D,mO,gA,ng,gc,g,mA,nm,mc,m,cA,nc,cc,c⟩:Bk) ⟨hf,hmm,lies⟩ d nm=T d:=fun d=>by rw[hT]
 simp only[hTe] at hSt
 rw[show(D:Int).toNat+1=D+1 by simp,← hL]
 clear hL hT hTe ok hok
 have HA:=hid hA
 have HSt:=hid hSt
 have SX:=hid vj
 clear hA hSt vj
 obtain⟨w4,hw4⟩:∃w4,w4=(((w.alloc (.cells #[int i64 D,int i64 mO,.slice gA ng gc,.slice mA nm mc,.slice cA nc cc] 73)).alloc (.cells #[int i64 (hf 0),int i64 (hf 1),int i64 (hf 2),int i64 (hmm 0),int i64 (hmm 1),int i64 (hmm 2),int i64 (hmm 3),int i64 (hmm 4),int i64 (hmm 5),int i64 lies] 91)).alloc (.cells #[int i64 0,int i64 0,int i64 0] 88)).alloc (.cells #[int i64 (hf 0),int i64 (hf 1),int i64 (hf 2)] 88):=zE
 have W0:Hid (Whole w4 w.heap.size 73 #[int i64 D,int i64 mO,.slice gA ng gc,.slice mA nm mc,.slice cA nc cc]):=hid (by rw[hw4];exact(((Whole.new w _ _).alloc _).alloc _).alloc _)
 have W1:Hid (Whole w4 (w.heap.size+1) 91 #[int i64 (hf 0),int i64 (hf 1),int i64 (hf 2),int i64 (hmm 0),int i64 (hmm 1),int i64 (hmm 2),int i64 (hmm 3),int i64 (hmm 4),int i64 (hmm 5),int i64 lies]):=hid (by
  have:=((Whole.new (w.alloc (.cells #[int i64 D,int i64 mO,.slice gA ng gc,.slice mA nm mc,.slice cA nc cc] 73)) 91 #[int i64 (hf 0),int i64 (hf 1),int i64 (hf 2),int i64 (hmm 0),int i64 (hmm 1),int i64 (hmm 2),int i64 (hmm 3),int i64 (hmm 4),int i64 (hmm 5),int i64 lies]).alloc (.cells #[int i64 0,int i64 0,int i64 0] 88)).alloc (.cells #[int i64 (hf 0),int i64 (hf 1),int i64 (hf 2)] 88)
  rw[World.size_alloc] at this;rw[hw4];exact this)
 have W2:Hid (Whole w4 (w.heap.size+1+1) 88 #[int i64 0,int i64 0,int i64 0]):=hid (by
  have:=(Whole.new ((w.alloc (.cells #[int i64 D,int i64 mO,.slice gA ng gc,.slice mA nm mc,.slice cA nc cc] 73)).alloc (.cells #[int i64 (hf 0),int i64 (hf 1),int i64 (hf 2),int i64 (hmm 0),int i64 (hmm 1),int i64 (hmm 2),int i64 (hmm 3),int i64 (hmm 4),int i64 (hmm 5),int i64 lies] 91)) 88 #[int i64 0,int i64 0,int i64 0]).alloc (.cells #[int i64 (hf 0),int i64 (hf 1),int i64 (hf 2)] 88)
  rw[World.size_alloc,World.size_alloc] at this;rw[hw4];exact this)
 have W3:Hid (Whole w4 (w.heap.size+1+1+1) 88 #[int i64 (L 0 0),int i64 (L 0 1),int i64 (L 0 2)]):=hid (by
  have:=Whole.new (((w.alloc (.cells #[int i64 D,int i64 mO,.slice gA ng gc,.slice mA nm mc,.slice cA nc cc] 73)).alloc (.cells #[int i64 (hf 0),int i64 (hf 1),int i64 (hf 2),int i64 (hmm 0),int i64 (hmm 1),int i64 (hmm 2),int i64 (hmm 3),int i64 (hmm 4),int i64 (hmm 5),int i64 lies] 91)).alloc (.cells #[int i64 0,int i64 0,int i64 0] 88)) 88 #[int i64 (hf 0),int i64 (hf 1),int i64 (hf 2)]
  rw[World.size_alloc,World.size_alloc,World.size_alloc] at this;rw[hw4,hL0];exact this)
 have WB:Hid (Below w.heap.size w w4):=hid (by rw[hw4];exact bw)
 have tB:=hid hw4
 clear hw4 hL0
 have eD:wrap64 ((D:Int)+1)=(D:Int)+1:=IntWalk.wrap64_in _ zo
 gi_enter func48,ntmps48
 gi_wp2
 rw[← tB.out]
 try rw[eD]
 clear tB eD
 gi_loopw [15] (fun i wr=>∃k:Nat,k≤D+1∧i=int i64 k∧Hid (Whole wr w.heap.size 73 #[int i64 D,int i64 mO,.slice gA ng gc,.slice mA nm mc,.slice cA nc cc]∧Whole wr (w.heap.size+1) 91 #[int i64 (hf 0),int i64 (hf 1),int i64 (hf 2),int i64 (hmm 0),int i64 (hmm 1),int i64 (hmm 2),int i64 (hmm 3),int i64 (hmm 4),int i64 (hmm 5),int i64 lies]∧Whole wr (w.heap.size+1+1) 88 #[int i64 0,int i64 0,int i64 0]∧Whole wr (w.heap.size+1+1+1) 88 #[int i64 (L k 0),int i64 (L k 1),int i64 (L k 2)]∧Below w.heap.size w wr)) (fun i _=>D+1 - (intOf i).toNat)
 case atStart=>exact⟨0,Nat.zero_le _,rfl,hid ⟨W0.out,W1.out,W2.out,W3.out,WB.out⟩⟩
 case round=>
  obtain⟨k,hk,rfl,hR⟩:=hrel
  clear W0 W1 W2 W3 WB
  have q0:=hR.out.1.cell
  have q1:=hR.out.2.1.cell
  have hs3:=hR.out.2.2.2.1.lt
  by_cases hlt:k<D+1
  ·have hdd:decide ((k:Int)<(D:Int)+1)=true:=decide_eq_true zo
   obtain⟨wo,rfl⟩:∃wo:World,wo=wr:=zE
   have hsz:w.heap.size≤wo.heap.size:=zo
   gi_wp2_with (gi_at_call 47;refine(HSt.out k _ ((HA.out.below hR.out.2.2.2.2).more hsz)).mono ?_;rintro e w2 ⟨rfl,hb2⟩;have HB2:Hid (Below wo.heap.size wo w2):=hid hb2;clear hb2)
   have V3:=hid (hR.out.2.2.2.1.below HB2.out hs3)
   have Yv:∀w,(Instr.index 88 (.agg #[int i64 (T k 0),int i64 (T k 1),int i64 (T k 2)]) (int i64 0)).run prog w=.ok (int i64 (T k 0)) w:=fun _=>zk
   have aaF:∀w,(Instr.index 88 (.agg #[int i64 (T k 0),int i64 (T k 1),int i64 (T k 2)]) (int i64 1)).run prog w=.ok (int i64 (T k 1)) w:=fun _=>zk
   have aaG:∀w,(Instr.index 88 (.agg #[int i64 (T k 0),int i64 (T k 1),int i64 (T k 2)]) (int i64 2)).run prog w=.ok (int i64 (T k 2)) w:=fun _=>zk
   gi_loopw [22] (fun j wj=>∃q:Nat,q≤3∧j=int i64 q∧Hid (Below (w.heap.size+1+1+1) w2 wj∧Whole wj (w.heap.size+1+1+1) 88 #[int i64 (if 0<q then L (k+1) 0 else L k 0),int i64 (if 1<q then L (k+1) 1 else L k 1),int i64 (if 2<q then L (k+1) 2 else L k 2)])) (fun j _=>3 - (intOf j).toNat)
   case atStart=>exact⟨0,zo,rfl,hid ⟨zB,V3.out⟩⟩
   case round=>
    obtain⟨q,hq,rfl,hS⟩:=hrel
    have hsw:=hS.out.2.lt
    by_cases hq3:q<3
    ·rcases(show q=0∨q=1∨q=2 by omega) with rfl|rfl|rfl
     ·have x0:wr.cell? ⟨w.heap.size+1+1+1,0,none⟩=some (int i64 (L k 0)):=hS.out.2.cell 0
      have xf:=hS.out.2.thaw 0
      have e:=SX.out k 0
      have E:=hid e
      clear e
      gi_wp2
      exact⟨⟨0+1,zo,by go_num,hid ⟨hS.out.1.setCell (p:=⟨w.heap.size+1+1+1,0,none⟩) zL _,by have:=hS.out.2.set 0 (int i64 (min (L k 0) (T k 0)));rw[← E.out] at this⊢;exact this⟩⟩,by simp[intOf]⟩
     ·have x0:wr.cell? ⟨w.heap.size+1+1+1,1,none⟩=some (int i64 (L k 1)):=hS.out.2.cell 1
      have xf:=hS.out.2.thaw 1
      have e:=SX.out k 1
      have E:=hid e
      clear e
      gi_wp2
      exact⟨⟨1+1,zo,by go_num,hid ⟨hS.out.1.setCell (p:=⟨w.heap.size+1+1+1,1,none⟩) zL _,by have:=hS.out.2.set 1 (int i64 (min (L k 1) (T k 1)));rw[← E.out] at this⊢;exact this⟩⟩,by simp[intOf]⟩
     ·have x0:wr.cell? ⟨w.heap.size+1+1+1,2,none⟩=some (int i64 (L k 2)):=hS.out.2.cell 2
      have xf:=hS.out.2.thaw 2
      have e:=SX.out k 2
      have E:=hid e
      clear e
      gi_wp2
      exact⟨⟨2+1,zo,by go_num,hid ⟨hS.out.1.setCell (p:=⟨w.heap.size+1+1+1,2,none⟩) zL _,by have:=hS.out.2.set 2 (int i64 (min (L k 2) (T k 2)));rw[← E.out] at this⊢;exact this⟩⟩,by simp[intOf]⟩
    ·obtain rfl:q=3:=zo
     gi_wp2
     have HBw:Below w.heap.size w wr:=hR.out.2.2.2.2.trans ((HB2.out.mono hsz).trans (hS.out.1.mono zo))
     exact⟨⟨k+1,zo,by go_num,hid ⟨(hR.out.1.below HB2.out zo).below hS.out.1 zo,(hR.out.2.1.below HB2.out zo).below hS.out.1 zo,(hR.out.2.2.1.below HB2.out zo).below hS.out.1 zo,hS.out.2,HBw⟩⟩,by simp[intOf];omega⟩
  ·obtain rfl:k=D+1:=zo
   have hdd:decide (((D+1:Nat):Int)<(D:Int)+1)=false:=decide_eq_false zo
   have q3:=hR.out.2.2.2.1.cell
   have q2:=hR.out.2.2.1.cell
   have XN:=hR.out.2.2.1.thaw
   gi_wp2
   have U:=(hR.out.2.2.1.iR (x:=int i64 (L (D+1) 0)) (y:=int i64 (L (D+1) 1)) (z:=int i64 (L (D+1) 2)))
   have u0:=U.cell 0
   have u1:=U.cell 1
   have u2:=U.cell 2
   clear q3 q2 XN
   refine bodyPost_ret (v:=.agg #[int i64 (L (D+1) 0),int i64 (L (D+1) 1),int i64 (L (D+1) 2)]) (by simp[results,results48,go_sem,u0,u1,u2]) rfl ⟨rfl,aC hR.out.2.2.2.2 zo⟩
end
section
open Go.RowKit
open Go.Sort (grow)
def iw(b:Bk)(k:Nat):Int:=if 0<k then(b.m (k - 1)).day else 0
def iq(b:Bk)(k:Nat):Int:=if k<b.nm then(b.m k).day - 1 else b.dY
theorem dC(a b n:Int)(w:World):CallsIn SF 0 prog 92 #[.agg #[int i64 a,int i64 b],int i64 n] w fun e w'=>e=.returned (.bool (fJ n a b))∧Below w.heap.size w w':=by
 gi_enter func92,ntmps92
 gi_wp2_with (gi_at_call 65;refine(W.dw _ _ _ _).mono ?_;rintro e w' ⟨rfl,rfl⟩)
 go_ret
 exact⟨rfl,bw⟩
theorem AW(x y z:Int)(B:Nat)(w:World)(h:Whole w B 88 #[int i64 x,int i64 y,int i64 z]):CallsIn SF 0 prog 132 #[.slice (some ⟨B,0,none⟩) 3 3] w fun e w'=>e=.returned (int i64 (min x (min y z)))∧Below w.heap.size w w':=by
 have c0:w.cell? ⟨B,0,none⟩=some (int i64 x):=h.cell 0
 have c1:w.cell? ⟨B,1,none⟩=some (int i64 y):=h.cell 1
 have c2:w.cell? ⟨B,2,none⟩=some (int i64 z):=h.cell 2
 clear h
 gi_enter func132,ntmps132
 gi_wp2
 refine wpIn_loop_rounds 4 ?_
 repeat (rw[roundsIn_succ];gi_wp2)
 all_goals first
  | (go_ret;exact⟨rfl,zB⟩)
  | trace_state
theorem DF(b:Bk)(k:Nat)(w:World)(h:b.At w w.heap.size)(hk:k≤b.nm)(hn:b.nm≤6)(hd:∀i,i<b.nm→1≤(b.m i).day∧(b.m i).day≤1000):CallsIn SF 0 prog 107 #[b.val,int i64 k] w fun e w'=>e=.returned (.agg #[int i64 (iw b k),int i64 (iq b k)])∧Below w.heap.size w w':=by
 obtain⟨dY,mO,gA,ng,gc,g,mA,nm,mc,m,cA,nc,cc,c⟩:=b
 simp only at hk hn hd
 simp only[Bk.val,Bk.cells]
 obtain⟨lo,hlo⟩:∃lo,lo=iw (⟨dY,mO,gA,ng,gc,g,mA,nm,mc,m,cA,nc,cc,c⟩:Bk) k:=zE
 obtain⟨hi,hhi⟩:∃hi,hi=iq (⟨dY,mO,gA,ng,gc,g,mA,nm,mc,m,cA,nc,cc,c⟩:Bk) k:=zE
 rw[← hlo,← hhi]
 unfold iw at hlo
 unfold iq at hhi
 simp only at hlo hhi
 have row:∀i,i<nm→∃ad,mA=some ad∧(ad.add (i * 5)).block<w.heap.size∧w.cell? ⟨(ad.add (i * 5)).block,(ad.add (i * 5)).off+2,none⟩=some (int i64 (m i).day):=fun i hi=>by
  obtain⟨ad,hA',hbl,-⟩:=h.m (show 0<nm by omega)
  simp only at hA'
  subst hA'
  exact⟨ad,rfl,(by rw[aH];exact(h.m.row hi).1),(h.m.row hi).2 2 zD⟩
 have Row:=hid row
 clear row h
 have X:Hid (∀ (mA:Option Addr),Below w.heap.size w (((w.alloc (.cells #[int i64 dY,int i64 mO,.slice gA ng gc,.slice mA nm mc,.slice cA nc cc] 73)).alloc (.cells #[int i64 0,int i64 0] 28)).alloc (.cells #[int i64 0,int i64 dY] 28))):=hid fun mA=>bw
 by_cases h0:0<k
 ·have hd0:decide (0<(k:Int))=true:=zm
  rw[if_pos h0] at hlo
  obtain⟨ad,rfl,rb,r1⟩:=Row.out (k - 1) zo
  have s1:=((X.out (some ad)).cell (p:=⟨(ad.add ((k - 1) * 5)).block,(ad.add ((k - 1) * 5)).off+2,none⟩) rb).trans r1
  rw[← hlo] at s1
  have e2:0≤(k:Int) - 1:=zo
  have e2':1≤(k:Int):=zo
  have e4:(k:Int) - 1<nm:=zo
  have e3:((k:Int) - 1).toNat=k - 1:=zo
  have e1:IntKind.i64.wrap ((k:Int) - 1)=(k:Int) - 1:=IntWalk.i64_in _ zo
  by_cases hkn:k<nm
  ·have hd1:decide ((k:Int)<(nm:Int))=true:=decide_eq_true zo
   rw[if_pos hkn] at hhi
   obtain⟨Pe,ha,XX,r2⟩:=Row.out k hkn
   cases ha
   have s2:=(((bw:Below w.heap.size w (((w.alloc (.cells #[int i64 dY,int i64 mO,.slice gA ng gc,.slice (some ad) nm mc,.slice cA nc cc] 73)).alloc (.cells #[int i64 0,int i64 0] 28)).alloc (.cells #[int i64 lo,int i64 dY] 28))).cell (p:=⟨(ad.add (k * 5)).block,(ad.add (k * 5)).off+2,none⟩) XX).trans r2)
   obtain⟨dk,hdk⟩:∃dk,dk=(m k).day:=zE
   have la:=hd k hkn
   rw[← hdk] at s2 hhi la
   have e5:wrap64 (dk - 1)=dk - 1:=IntWalk.wrap64_in _ zo
   subst hhi
   clear hlo r1 r2 hdk
   gi_enter func107,ntmps107
   gi_wp2
   refine bodyPost_ret (v:=.agg #[int i64 lo,int i64 (dk - 1)]) (by simp[results,results107,go_sem]) rfl ⟨rfl,bw⟩
  ·have hd1:decide ((k:Int)<(nm:Int))=false:=decide_eq_false zo
   rw[if_neg hkn] at hhi
   subst hhi
   clear hlo r1
   gi_enter func107,ntmps107
   gi_wp2
   refine bodyPost_ret (v:=.agg #[int i64 lo,int i64 hi]) (by simp[results,results107,go_sem]) rfl ⟨rfl,bw⟩
 ·obtain rfl:k=0:=zo
  rw[if_neg h0] at hlo
  subst hlo
  by_cases hkn:0<nm
  ·have hd1:decide (((0:Nat):Int)<(nm:Int))=true:=decide_eq_true zo
   have hd2:decide ((0:Int)<(nm:Int))=true:=decide_eq_true zo
   rw[if_pos hkn] at hhi
   obtain⟨ad,rfl,XX,r2⟩:=Row.out 0 hkn
   have s2:=((X.out (some ad)).cell (p:=⟨(ad.add (0 * 5)).block,(ad.add (0 * 5)).off+2,none⟩) XX).trans r2
   have s2':(((w.alloc (.cells #[int i64 dY,int i64 mO,.slice gA ng gc,.slice (some ad) nm mc,.slice cA nc cc] 73)).alloc (.cells #[int i64 0,int i64 0] 28)).alloc (.cells #[int i64 0,int i64 dY] 28)).cell? ⟨ad.block,ad.off+2,none⟩=some (int i64 (m 0).day):=by simpa [add_zero'] using s2
   obtain⟨dk,hdk⟩:∃dk,dk=(m 0).day:=zE
   have la:=hd 0 hkn
   rw[← hdk] at s2' hhi la
   have e5:wrap64 (dk - 1)=dk - 1:=IntWalk.wrap64_in _ zo
   subst hhi
   clear r2 s2 hdk
   gi_enter func107,ntmps107
   gi_wp2
   refine bodyPost_ret (v:=.agg #[int i64 0,int i64 (dk - 1)]) (by simp[results,results107,go_sem]) rfl ⟨rfl,bw⟩
  ·obtain rfl:nm=0:=zo
   rw[if_neg hkn] at hhi
   subst hhi
   gi_enter func107,ntmps107
   gi_wp2
   refine bodyPost_ret (v:=.agg #[int i64 0,int i64 hi]) (by simp[results,results107,go_sem]) rfl ⟨rfl,bw⟩
def Bu(b:Bk)(s:Nat→Int)(lo hi:Int)(i:Nat):Bool:=!(fJ (b.c i).day lo hi) || fJ (s (b.c i).good.toNat) (b.c i).lo (b.c i).hi
def eY(b:Bk)(s:Nat→Int)(lo hi:Int):Bool:=decide (hi<lo) || ((List.range b.nc).all (Bu b s lo hi) && decide (0≤min (s 0) (min (s 1) (s 2))))
theorem CZ(b:Bk)(s:Nat→Int)(lo hi:Int)(w:World)(h:b.At w w.heap.size)(hn:b.nc≤4)(hg:∀i,i<b.nc→0≤(b.c i).good∧(b.c i).good≤2):
 CallsIn SF 0 prog 106 #[b.val,mF s,.agg #[int i64 lo,int i64 hi]] w fun e w'=>e=.returned (.bool (eY b s lo hi))∧Below w.heap.size w w':=by
 obtain⟨dY,mO,gA,ng,gc,g,mA,nm,mc,m,cA,nc,cc,c⟩:=b
 simp only at hn hg
 simp only[Bk.val,Bk.cells,mF]
 obtain⟨z0,hz0⟩:∃z,z=s 0:=zE
 obtain⟨z1,hz1⟩:∃z,z=s 1:=zE
 obtain⟨z2,hz2⟩:∃z,z=s 2:=zE
 have Z0:=hid hz0
 have Z1:=hid hz1
 have Z2:=hid hz2
 rw[← hz0,← hz1,← hz2]
 clear hz0 hz1 hz2
 by_cases hlh:hi<lo
 ·have hd:decide (hi<lo)=true:=decide_eq_true hlh
  have hr:eY (⟨dY,mO,gA,ng,gc,g,mA,nm,mc,m,cA,nc,cc,c⟩:Bk) s lo hi=true:=by unfold eY;rw[hd];rfl
  rw[hr]
  gi_enter func106,ntmps106
  gi_wp2
  go_ret
  exact⟨rfl,bw⟩
 ·have hd:decide (hi<lo)=false:=decide_eq_false hlh
  have hr:eY (⟨dY,mO,gA,ng,gc,g,mA,nm,mc,m,cA,nc,cc,c⟩:Bk) s lo hi=((List.range nc).all (Bu (⟨dY,mO,gA,ng,gc,g,mA,nm,mc,m,cA,nc,cc,c⟩:Bk) s lo hi) && decide (0≤min (s 0) (min (s 1) (s 2)))):=by unfold eY;rw[hd];rfl
  rw[hr]
  have Hh:=hid h
  clear h hr
  obtain⟨w3,hw3⟩:∃w3,w3=((w.alloc (.cells #[int i64 dY,int i64 mO,.slice gA ng gc,.slice mA nm mc,.slice cA nc cc] 73)).alloc (.cells #[int i64 z0,int i64 z1,int i64 z2] 88)).alloc (.cells #[int i64 lo,int i64 hi] 28):=zE
  have W1:Hid (Whole w3 (w.heap.size+1) 88 #[int i64 z0,int i64 z1,int i64 z2]):=hid (by
   have:=(Whole.new (w.alloc (.cells #[int i64 dY,int i64 mO,.slice gA ng gc,.slice mA nm mc,.slice cA nc cc] 73)) 88 #[int i64 z0,int i64 z1,int i64 z2]).alloc (.cells #[int i64 lo,int i64 hi] 28)
   rw[World.size_alloc] at this;rw[hw3];exact this)
  have W2:Hid (Whole w3 (w.heap.size+1+1) 28 #[int i64 lo,int i64 hi]):=hid (by
   have:=Whole.new ((w.alloc (.cells #[int i64 dY,int i64 mO,.slice gA ng gc,.slice mA nm mc,.slice cA nc cc] 73)).alloc (.cells #[int i64 z0,int i64 z1,int i64 z2] 88)) 28 #[int i64 lo,int i64 hi]
   rw[World.size_alloc,World.size_alloc] at this;rw[hw3];exact this)
  have WB:Hid (Below w.heap.size w w3):=hid (by rw[hw3];exact bw)
  have p7:=hid hw3
  clear hw3
  gi_enter func106,ntmps106
  gi_wp2
  rw[← p7.out]
  clear p7
  gi_loopw [18] (fun i wr=>∃k:Nat,k≤nc∧i=int i64 k∧Hid ((∀i,i<k→Bu (⟨dY,mO,gA,ng,gc,g,mA,nm,mc,m,cA,nc,cc,c⟩:Bk) s lo hi i=true)∧Below w3.heap.size w3 wr)) (fun i _=>nc - (intOf i).toNat)
  case atStart=>exact⟨0,Nat.zero_le _,rfl,hid ⟨fun i hi=>absurd hi (Nat.not_lt_zero i),zB⟩⟩
  case round=>
   obtain⟨k,hk,rfl,hR⟩:=hrel
   have X1:=hid (W1.out.below hR.out.2 W1.out.lt)
   have X2:=hid (W2.out.below hR.out.2 W2.out.lt)
   have XB:=hid (WB.out.trans (hR.out.2.mono WB.out.size))
   by_cases hlt:k<nc
   ·obtain⟨wo,rfl⟩:∃wo:World,wo=wr:=zE
    obtain⟨ad,hA',hbl,-⟩:=Hh.out.c (show 0<nc by omega)
    simp only at hA'
    subst hA'
    obtain⟨ck,hck⟩:∃ck,ck=c k:=zE
    have hr:∀j,j<4→wo.cell? ((ad.add (k * 4)).add j)=some (ck.cell j):=by rw[hck];exact((Hh.out.c.below XB.out).row hlt).2
    have EN:=hg k hlt
    have hcn:Bu ⟨dY,mO,gA,ng,gc,g,mA,nm,mc,m,some ad,nc,cc,c⟩ s lo hi k=(!(fJ ck.day lo hi) || fJ (s ck.good.toNat) ck.lo ck.hi):=by rw[hck];rfl
    rw[← hck] at EN
    have Xf:=hid hcn
    clear hcn hck
    obtain⟨gd,dy,l,u⟩:=ck
    simp only at EN
    have c0:wo.cell? (ad.add (k * 4))=some (int i64 gd):=hr 0 zD
    have c1:wo.cell? ⟨(ad.add (k * 4)).block,(ad.add (k * 4)).off+1,none⟩=some (int i64 dy):=hr 1 zD
    have c2:wo.cell? ⟨(ad.add (k * 4)).block,(ad.add (k * 4)).off+2,none⟩=some (int i64 l):=hr 2 zD
    have c3:wo.cell? ⟨(ad.add (k * 4)).block,(ad.add (k * 4)).off+3,none⟩=some (int i64 u):=hr 3 zD
    clear hr
    gi_wp2
    obtain⟨w5,Gc⟩:∃w5,w5=wo.alloc (.cells #[int i64 gd,int i64 dy,int i64 l,int i64 u] 45):=zE
    rw[← Gc]
    have Y0:Whole w5 wo.heap.size 45 #[int i64 gd,int i64 dy,int i64 l,int i64 u]:=by rw[Gc];exact Whole.new _ _ _
    have Y1:Whole w5 (w.heap.size+1) 88 #[int i64 z0,int i64 z1,int i64 z2]:=by rw[Gc];exact X1.out.alloc _
    have Y2:Whole w5 (w.heap.size+1+1) 28 #[int i64 lo,int i64 hi]:=by rw[Gc];exact X2.out.alloc _
    have YB:Hid (Below w3.heap.size w3 w5):=hid (by rw[Gc];exact hR.out.2.alloc hR.out.2.size _)
    have k0:=cell_regrown (Y0.cell 0)
    have k1:=cell_regrown (Y0.cell 1)
    have k2:=cell_regrown (Y0.cell 2)
    have k3:=cell_regrown (Y0.cell 3)
    have j0:=cell_regrown (Y1.cell 0)
    have j1:=cell_regrown (Y1.cell 1)
    have j2:=cell_regrown (Y1.cell 2)
    have i0:=cell_regrown (Y2.cell 0)
    have i1:=cell_regrown (Y2.cell 1)
    clear Gc Y0 Y1 Y2 c0 c1 c2 c3
    have cH:∀a b n d os,CallsIn SF 0 prog 92 #[.agg #[int i64 a,int i64 b],int i64 n] (grow (redrawn w5 d) os) fun e w''=>e=.returned (.bool (fJ n a b))∧∃p:Regrown,w''=grow (redrawn w5 p.d) p.os:=fun a b n d os=>CallsIn.regrown_of (dC a b n _)
    cases Ld:fJ dy lo hi with
    | false=>
      have hT:Bu ⟨dY,mO,gA,ng,gc,g,mA,nm,mc,m,some ad,nc,cc,c⟩ s lo hi k=true:=by rw[Xf.out,Ld];rfl
      refine wpIn_region_quiet_below rfl zk zk ?_
      repeat (quiet_step_in (exact cH _ _ _ _ _))
      refine wpQuietIn_nil ?_
      rintro w' ⟨⟨dq,osq⟩,rfl⟩
      have bn:=below_regrown w5 dq osq
      clear k0 k1 k2 k3 j0 j1 j2 i0 i1 cH
      generalize grow (redrawn w5 dq) osq=w9 at bn⊢
      gi_wp2
      go_roundw
      case rel=>exact⟨k+1,zo,by go_num,hid ⟨eZ hR.out.1 hT,YB.out.trans (bn.mono YB.out.size)⟩⟩
      case measure=>simp[intOf];omega
    | true=>
      obtain⟨sg,hsg⟩:∃sg,sg=s gd.toNat:=zE
      have hT:Bu ⟨dY,mO,gA,ng,gc,g,mA,nm,mc,m,some ad,nc,cc,c⟩ s lo hi k=fJ sg l u:=by rw[Xf.out,Ld,hsg];rfl
      obtain⟨bs,hbs⟩:∃bs,bs=fJ sg l u:=zE
      rw[← hbs] at hT
      have HT:=hid hT
      replace hbs:=hbs.symm
      clear hT Xf
      have TC:(gd=0∧sg=z0)∨(gd=1∧sg=z1)∨(gd=2∧sg=z2):=by
       rcases(show gd=0∨gd=1∨gd=2 by omega) with rfl|rfl|rfl
       ·exact .inl ⟨rfl,by rw[hsg,Z0.out];rfl⟩
       ·exact .inr (.inl ⟨rfl,by rw[hsg,Z1.out];rfl⟩)
       ·exact .inr (.inr ⟨rfl,by rw[hsg,Z2.out];rfl⟩)
      clear hsg EN
      rcases TC with⟨rfl,rfl⟩|⟨rfl,rfl⟩|⟨rfl,rfl⟩
      all_goals cases bs
      all_goals
       refine wpIn_region_quiet_below rfl zk zk ?_
       repeat (quiet_step_in (exact cH _ _ _ _ _))
       refine wpQuietIn_nil ?_
       rintro w' ⟨⟨dq,osq⟩,rfl⟩
       have bn:=below_regrown w5 dq osq
       clear k0 k1 k2 k3 j0 j1 j2 i0 i1 cH
       generalize grow (redrawn w5 dq) osq=w9 at bn⊢
       have uX:=hid bn
       clear bn
       gi_wp2
       first
        | (go_roundw
           case rel=>exact⟨k+1,zo,by go_num,hid ⟨eZ hR.out.1 HT.out,YB.out.trans (uX.out.mono YB.out.size)⟩⟩
           case measure=>simp[intOf];omega)
        | (go_ret
           refine⟨?_,(WB.out.trans ((YB.out.trans (uX.out.mono YB.out.size)).mono WB.out.size))⟩
           have hf:(List.range nc).all (Bu ⟨dY,mO,gA,ng,gc,g,mA,nm,mc,m,some ad,nc,cc,c⟩ s lo hi)=false:=by
            rw[List.all_eq_false]
            exact⟨k,List.mem_range.2 hlt,by rw[HT.out];decide⟩
           rw[hf];rfl)
   ·obtain rfl:k=nc:=zo
    have cM:=AW z0 z1 z2 (w.heap.size+1) wr X1.out
    have hall:(List.range k).all (Bu (⟨dY,mO,gA,ng,gc,g,mA,nm,mc,m,cA,k,cc,c⟩:Bk) s lo hi)=true:=List.all_eq_true.2 fun i hi=>hR.out.1 i (List.mem_range.1 hi)
    have CM:=hid cM
    have HA:=hid hall
    clear cM hall
    gi_wp2_with (gi_at_call 132;refine CM.out.mono ?_;rintro e w8 ⟨rfl,Xm⟩)
    go_ret
    exact⟨by rw[HA.out,← Z0.out,← Z1.out,← Z2.out];simp,XB.out.trans (Xm.mono XB.out.size)⟩
def eu(s:Nat):Prop:=s<64
def pop(s:Nat):Int:=(((List.range 6).filter fun k=>s / 2 ^ k % 2 == 1).length:Nat)
theorem Qw:∃R:Int→Int,(∀ (x:Int) (w:World),0≤x∧x<64→CallsIn SF 0 prog 131 #[.int .u64 x] w fun e w'=>e=.returned (int i64 (R x))∧Below w.heap.size w w')∧∀s,s<64→R (s:Nat)=pop s:=by
 refine⟨?R,fun x w hx=>?a,?b⟩
 case a=>
  gi_enter func131,ntmps131
  gi_wp2
  go_ret
  refine⟨?_,zB⟩
  simp
  rfl
 case b=>
  refine of_decide_eq_true ?_
  kernel_rfl
theorem Vp(s:Nat)(h:eu s)(w:World):CallsIn SF 0 prog 131 #[.int .u64 s] w fun e w'=>e=.returned (int i64 (pop s))∧Below w.heap.size w w':=by
 obtain⟨R,h1,h2⟩:=Qw
 unfold eu at h
 rw[← h2 s h]
 exact h1 s w zo
theorem mS(s:Nat)(h:eu s)(w:World):CallsIn SF 0 prog 103 #[.int .u64 s] w fun e w'=>e=.returned (int i64 (pop s))∧Below w.heap.size w w':=by
 have H:=fun w=>Vp s h w
 gi_enter func103,ntmps103
 gi_wp2_with (gi_at_call 131;refine(H _).mono ?_;rintro e w2 ⟨rfl,hb2⟩)
 go_ret
 exact⟨rfl,hb2⟩
theorem TL(b:Bk)(s:Nat)(h:eu s)(w:World):CallsIn SF 0 prog 80 #[b.val,int i64 s] w fun e w'=>e=.returned (.bool (decide (pop s≤b.mO)))∧Below w.heap.size w w':=by
 obtain⟨dY,mO,gA,ng,gc,g,mA,nm,mc,m,cA,nc,cc,c⟩:=b
 simp only[Bk.val,Bk.cells]
 obtain⟨w1,hw1⟩:∃w1,w1=w.alloc (.cells #[int i64 dY,int i64 mO,.slice gA ng gc,.slice mA nm mc,.slice cA nc cc] 73):=zE
 have W0:Whole w1 w.heap.size 73 #[int i64 dY,int i64 mO,.slice gA ng gc,.slice mA nm mc,.slice cA nc cc]:=by rw[hw1];exact Whole.new _ _ _
 have WB:Below w.heap.size w w1:=by rw[hw1];exact bw
 have k1:=cell_regrown (W0.cell 1)
 have cH:∀d os,CallsIn SF 0 prog 103 #[.int .u64 s] (grow (redrawn w1 d) os) fun e w''=>e=.returned (int i64 (pop s))∧∃p:Regrown,w''=grow (redrawn w1 p.d) p.os:=fun d os=>CallsIn.regrown_of (mS s h _)
 have hs:s<64:=h
 have eU:IntKind.u64.wrap (s:Int)=s:=by
  have:∀s:Nat,s<64→IntKind.u64.wrap (s:Int)=s:=of_decide_eq_true zk
  exact this s hs
 have jd:=hid hw1
 clear hw1
 gi_enter func80,ntmps80
 gi_wp2
 rw[← jd.out]
 refine wpIn_region_quiet_below rfl zk zk ?_
 repeat (quiet_step_in (exact cH _ _))
 refine wpQuietIn_nil ?_
 rintro w' ⟨⟨dq,osq⟩,rfl⟩
 have bn:=below_regrown w1 dq osq
 clear k1 cH
 generalize grow (redrawn w1 dq) osq=w9 at bn⊢
 gi_wp2
 go_ret
 exact⟨by first|rfl|simp,WB.trans (bn.mono WB.size)⟩
end
end Go.Proofs.YtpmafoalhnaokaaGreat
