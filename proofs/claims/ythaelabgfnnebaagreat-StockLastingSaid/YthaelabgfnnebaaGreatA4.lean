/- Qt W0 WP1 WP7 P7 StopIn Reg2 Reg2In Cut S8 Scope P8 -/
import Derived.Test.YthaelabgfnnebaaGreatA3
import Derived.StillTail
import Derived.Lib.QuietBelowIn
import Derived.ControlIn
import Derived.Scope
set_option maxRecDepth 100000
set_option maxHeartbeats 16000000
set_option linter.unusedVariables false
set_option linter.unusedSectionVars false
open Go.IntKind(i64)
open Go.Lib(hid)
open Go.Proofs.Tryz
open Go.Value(int)
namespace Go.Proofs.YthaelabgfnnebaaGreat
section
open Go Go.Sort Go.RowKit
section
variable{F:Fence}{n:Nat}{P:Program}{ops:Array Oper}{Q:Exit→Act→World→Prop}{md:Region.Mode}{S:World→Prop}{T:Act→World→Prop}{N:Nat}
def mI(md:Region.Mode)(ops:Array Oper):Nat→Nat→Array Bool→Bool
 | 0,_,listed=>Region.ready md ops listed == []
 | c+1,t,listed=>Region.ready md ops listed == [t] && mI md ops c (t+1) (listed.setIfInBounds t true)
theorem jc:∀ (l:List Oper) (t:Nat) (listed:Array Bool) (a:Act) (w:World),(∀j,j<l.length→l[j]? =ops[t+j]?)→mI md ops l.length t listed=true→wpListIn F n P ops Q l a w→wpAnyIn F n P md ops Q l.length listed a w
 | [],_,_,_,_,_,hB,h=>⟨by simpa [mI] using hB,h⟩
 | o :: l,t,listed,a,w,hl,hB,h=>by
   have h0:ops[t]? =some o:=by simpa using (hl 0 zs).symm
   simp only[List.length_cons,mI,Bool.and_eq_true,beq_iff_eq] at hB
   refine⟨(fun h0=>by rw[hB.1] at h0;cases h0),fun i hi=>?_⟩
   rw[hB.1] at hi
   obtain rfl:i=t:=by simpa using hi
   have hK:∀a w,wpListIn F n P ops Q l a w→wpAnyIn F n P md ops Q l.length (listed.setIfInBounds i true) a w:=fun a w h=>jc l (i+1) _ a w (fun j hj=>by have:=hl (j+1) (by simpa using hj);simpa [Nat.add_assoc,Nat.add_comm 1 j] using this) hB.2 h
   refine wpOpIn_mono (fun a' w' hq=>hK a' w' hq) ?_
   unfold wpOpIn
   simp only[h0]
   exact h
def xX(F:Fence)(n:Nat)(P:Program)(md:Region.Mode)(ops:Array Oper)(S:World→Prop)(T:Act→World→Prop)(N:Nat):Nat→Array Bool→Act→Prop
 | 0,listed,a=>(mI md ops (ops.size - N) N listed=true∧Region.ready md ops listed=[N])∧∀w,S w→T a w
 | fuel+1,listed,a=>(Region.ready md ops listed≠[]∧∀i∈Region.ready md ops listed,i<N)∧∀i∈Region.ready md ops listed,qOpIn F n P ops S i (xX F n P md ops S T N fuel (listed.setIfInBounds i true)) a
theorem mK(hro:F.round=none)(hT:∀listed a w,mI md ops (ops.size - N) N listed=true→T a w→wpAnyIn F n P md ops Q (ops.size - N) listed a w):∀ (fuel:Nat) (listed:Array Bool) (a:Act) (w:World),S w→xX F n P md ops S T N fuel listed a→wpAnyIn F n P md ops Q (ops.size - N+fuel) listed a w
 | 0,_,a,w,hw,h=>hT _ a w h.1.1 (h.2 w hw)
 | fuel+1,_,_,_,hw,h=>⟨fun h0=>absurd h0 h.1.1,fun i hi=>wpOpIn_of_qOpIn hro hw (fun a' w' hw'=>mK hro hT fuel _ a' w' hw') (h.2 i hi)⟩
theorem Ed{i:Nat}{oi:Oper}{v:Value}(hs:Region.sinkB md ops N=true)(hc:Region.chainB md ops N=true)(hN:N<ops.size)(hi:ops[i]? =some oi)(hsel:∀ (j:Nat) (o:Oper) cs b,ops[j]? =some o→o.op≠.select cs b)(Lk:i<N):
 ∀ (fuel:Nat) (listed:Array Bool) (a:Act),HeadInv md ops N listed→
   (∀j oj,ops[j]? =some oj→j≠i→listed.getD j true=false→(∀e∈oj.after,Region.binds md e=true→e.on≠i)→oi.apart ops oj=true)→
   i∈Region.ready md ops listed→YieldsQuiet F n P ops S oi v a→
   xX F n P md ops S T N fuel (listed.setIfInBounds i true) (a.put oi.dst v)→xX F n P md ops S T N (fuel+1) listed a:=by
 intro fuel
 induction fuel with
 | zero=>
   intro listed a inv _ hr hy H
   have hun:=(mem_ready.1 hr).1
   have hlt:∀t∈Region.ready md ops listed,t<N:=fun t ht=>Nat.lt_of_not_le fun h=>tail_waits hs hc hN inv _ i rfl Lk hun t h ht
   refine⟨⟨fun h=>(by rw[h] at hr;cases hr),hlt⟩,fun j hj=>?_⟩
   by_cases hji:j=i
   ·subst hji;exact hy.qOpIn hi H
   ·have:=ready_mono hj hji
    rw[H.1.2] at this
    have h1:j=N:=by simpa using this
    have:=hlt j hj
    omega
 | succ fuel ih=>
   intro listed a inv hfree hr hy H
   have hun:=(mem_ready.1 hr).1
   have hlt:∀t∈Region.ready md ops listed,t<N:=fun t ht=>Nat.lt_of_not_le fun h=>tail_waits hs hc hN inv _ i rfl Lk hun t h ht
   refine⟨⟨fun h=>(by rw[h] at hr;cases hr),hlt⟩,fun j hj=>?_⟩
   by_cases hji:j=i
   ·subst hji;exact hy.qOpIn hi H
   ·have h1:=H.2 j (ready_mono hj hji)
    obtain⟨hjun,oj,hoj,hall⟩:=mem_ready.1 hj
    have hnot:∀e∈oj.after,Region.binds md e=true→e.on≠i:=fun e he hb heq=>by
     have h1:=hall e he hb
     have h0:=(mem_ready.1 hr).1
     rw[heq] at h1
     rcases Nat.lt_or_ge i listed.size with h'|h'
     ·simp[h'] at h0 h1;rw[h0] at h1;cases h1
     ·simp[Array.getElem?_eq_none h'] at h1
    have h2:=qOpIn_put hoj (hfree j oj hoj hji hjun hnot) (fun cs b=>hsel i oi cs b hi) (fun cs b=>hsel j oj cs b hoj) hy h1
    have hfree':∀k ok,ops[k]? =some ok→k≠i→(listed.setIfInBounds j true).getD k true=false→
     (∀e∈ok.after,Region.binds md e=true→e.on≠i)→oi.apart ops ok=true:=fun k ok hk hki hun hno=>by
     refine hfree k ok hk hki ?_ hno
     by_cases hjk:j=k
     ·subst hjk;exact hjun
     ·rw[getD_set_ne true hjk] at hun;exact hun
    refine qOpIn_mono (fun a' h3=>ih (listed.setIfInBounds j true) a' (inv.set hj (hlt j hj)) hfree' (ready_mono hr (Ne.symm hji)) h3.1 ?_) h2
    rw[Array.setIfInBounds_comm _ _ hji]
    exact h3.2
def nN(md:Region.Mode)(ops:Array Oper)(N:Nat):Nat→Nat→Array Bool→Bool
 | 0,_,listed=>mI md ops (ops.size - N) N listed && Region.ready md ops listed == [N]
 | fuel+1,k,listed=>(Region.ready md ops listed).contains k && Region.free md ops listed k && nN md ops N fuel (k+1) (listed.setIfInBounds k true)
theorem qF(hsel:Region.noSelect ops=true)(hs:Region.sinkB md ops N=true)(hc:Region.chainB md ops N=true)(hN:N<ops.size):∀ (l:List Oper) (k:Nat) (listed:Array Bool) (a:Act),(∀j,j<l.length→l[j]? =ops[k+j]?)→k+l.length=N→HeadInv md ops N listed→
 nN md ops N l.length k listed=true→wpQuietIn F n P ops S (fun a=>∀w,S w→T a w) l a→xX F n P md ops S T N l.length listed a
 | [],_,_,_,_,_,_,hB,h=>by
   simp only[List.length_nil,nN,Bool.and_eq_true,beq_iff_eq] at hB
   exact⟨hB,h⟩
 | o :: l,k,listed,a,hl,hk,inv,hB,h=>by
   have h0:ops[k]? =some o:=by simpa using (hl 0 zs).symm
   simp only[List.length_cons] at hk
   simp only[List.length_cons,nN,Bool.and_eq_true] at hB
   obtain⟨⟨hr,hf⟩,hB'⟩:=hB
   have hr':k∈Region.ready md ops listed:=by simpa using hr
   have hst:qOpIn F n P ops S k (wpQuietIn F n P ops S (fun a=>∀w,S w→T a w) l) a:=by unfold qOpIn;simp only[h0];exact h
   obtain⟨v,hy,hK⟩:=yieldsQuiet_of_qOpIn h0 hst
   exact Ed hs hc hN h0 (Region.noSelect_spec hsel) zo l.length listed a inv (Region.free_spec h0 hf) hr' hy
    (qF hsel hs hc hN l (k+1) _ _ (fun j hj=>by have:=hl (j+1) (by simpa using hj);simpa [Nat.add_assoc,Nat.add_comm 1 j] using this) zo (inv.set hr' zo) hB' hK)
def GN(ops:Array Oper)(N:Nat):Bool:=Region.noSelect ops && Region.sinkB .any ops N && Region.chainB .any ops N && decide (N<ops.size) && nN .any ops N N 0 (Array.replicate ops.size false)
theorem aI{id:Nat}{a:Act}{w:World}{l:List Oper}(N:Nat)(hro:F.round=none)(hm:P.follows .mixedOrders=true)(hB:GN l.toArray N=true)
 (h:wpQuietIn F n P l.toArray (fun w'=>∃p:Regrown,w'=grow (redrawn w p.d) p.os) (fun a'=>∀w',(∃p:Regrown,w'=grow (redrawn w p.d) p.os)→wpListIn F n P l.toArray Q (l.drop N) a' w') (l.take N) a):(Code.region id l.toArray true).wpIn F n P Q a w:=by
 simp only[GN,Bool.and_eq_true,decide_eq_true_eq] at hB
 obtain⟨⟨⟨⟨h1,h2⟩,h3⟩,h4⟩,h5⟩:=hB
 have hlen:N<l.length:=by simpa using h4
 refine wpIn_region_any hm ?_
 have htl:(l.take N).length=N:=zm
 have inv:HeadInv .any l.toArray N (Array.replicate l.toArray.size false):=⟨zs,fun j oj hj hl=>by rw[getD_replicate_false] at *;simp_all,fun t ht ht'=>getD_in (by simpa using ht') (getD_replicate_false _ _)⟩
 have:=qF (F:=F) (n:=n) (P:=P) (md:=.any) (ops:=l.toArray) (N:=N) (S:=fun w'=>∃p:Regrown,w'=grow (redrawn w p.d) p.os) (T:=wpListIn F n P l.toArray Q (l.drop N)) h1 h2 h3 h4 (l.take N) 0 (Array.replicate l.toArray.size false) a
  (fun j hj=>by rw[htl] at hj;simp[hj]) zo inv (by rw[htl];exact h5) h
 rw[htl] at this
 have h6:=mK (Q:=Q) hro (N:=N) (fun listed a w hB h=>by
  have hd:(l.drop N).length=l.toArray.size - N:=zs
  have:=jc (F:=F) (n:=n) (P:=P) (md:=.any) (ops:=l.toArray) (Q:=Q) (l.drop N) N listed a w (fun j hj=>zs) (by rw[hd];exact hB) h
  rw[hd] at this
  exact this) N _ a {w with drawn:=w.drawn+1 } ⟨⟨w.drawn+1,#[]⟩,by rw[grow_empty];rfl⟩ this
 rw[show l.toArray.size - N+N=l.toArray.size by omega] at h6
 exact h6
end
end
section
open Go
def SF:Fence:={fn:=fun g=>g=83∨g=84∨g=96∨g=40∨g=76∨g=77∨g=100∨g=127∨g=128∨g=78∨g=101∨g=102∨g=103∨g=104∨g=105∨g=129∨g=91∨g=35∨g=79∨g=106∨g=130∨g=131∨g=57∨g=61∨g=80 }
@[simp] theorem SI(g:FuncId):SF.fn g↔g=83∨g=84∨g=96∨g=40∨g=76∨g=77∨g=100∨g=127∨g=128∨g=78∨g=101∨g=102∨g=103∨g=104∨g=105∨g=129∨g=91∨g=35∨g=79∨g=106∨g=130∨g=131∨g=57∨g=61∨g=80:=Iff.rfl
@[simp] theorem pd:SF.depth=none:=rfl
@[simp] theorem pf:SF.round=none:=rfl
theorem Gd{g:FuncId}(h:SF.fn g):FF.fn g:=by
 rw[pR]
 rcases(SI g).1 h with h|h|h|h|h|h|h|h|h|h|h|h|h|h|h|h|h|h|h|h|h|h|h|h|h <;> subst h <;> simp
theorem fH{I I':Machine→Prop}(hI:∀m,I m→I' m){P:Program}{m m':Machine}(h:StepsIn I P m m'):StepsIn I' P m m':=by
 induction h with
 | refl=>exact .refl _
 | head h1 h2 h3 ih=>exact .head (hI _ h1) h2 ih
theorem CallsIn.wider{n:Nat}{P:Program}{f:FuncId}{args:Array Value}{w:World}{R:Ending→World→Prop}(h:CallsIn SF n P f args w R):CallsIn FF n P f args w R:=by
 refine⟨Gd h.1,fun cs _=>?_⟩
 obtain⟨e,w',fr,r,hs,rest⟩:=h.2 cs (fun d hd=>by cases hd)
 have hm:∀m:Machine,m.fenced P SF→m.fenced P FF:=fun m hm g hg=>by
  obtain⟨a,b,c,d⟩:=hm g hg
  exact⟨a,b.imp Gd id,fun f hf=>Gd (c f hf),fun d hd=>by cases hd⟩
 refine⟨e,w',fr,r,?_,rest⟩
 cases e with
 | returned v=>exact fH hm hs
 | panicked c=>exact fH hm hs
 | outgrown=>exact hs
end
end Go.Proofs.YthaelabgfnnebaaGreat
namespace Go.Proofs.YthaelabgfnnebaaGreat.W
section
open Go.RowKit
theorem bV(n lo hi:Int)(w:World):CallsIn SF 0 prog 35 #[int i64 n,int i64 lo,int i64 hi] w fun e w'=>e=.returned (.bool (fV n lo hi))∧w=w':=by
 gi_enter func35,ntmps35
 gi_wp2
 all_goals (go_ret;refine⟨?_,rfl⟩;congr 2;unfold fV;first|rfl|(simp;omega)|simp_all)
theorem ca(a b:Int)(w:World):CallsIn SF 0 prog 130 #[int i64 a,int i64 b] w fun e w'=>e=.returned (int i64 (wrap64 (a+b)))∧w=w':=by
 gi_enter func130,ntmps130
 gi_wp2
 all_goals (go_ret;refine⟨?_,rfl⟩;rfl)
theorem bu(a b:Int)(w:World):CallsIn SF 0 prog 131 #[int i64 a,int i64 b] w fun e w'=>e=.returned (int i64 (wrap64 (a - b)))∧w=w':=by
 gi_enter func131,ntmps131
 gi_wp2
 all_goals (go_ret;refine⟨?_,rfl⟩;rfl)
theorem l8(s:Nat)(w:World)(hs:s<1024):CallsIn SF 0 prog 96 #[int i64 s] w fun e w'=>∃v,e=.returned v∧w'.ownsRow w.heap.size 3 1 v (aL s 10).length ((aL s 10).map (int i64))∧Below w.heap.size w w':=by
 obtain⟨i0,hi,hz0,hz1,hz2⟩:=info_parts info3
 have hi0:=hid hi
 clear hi
 gi_enter func96,ntmps96
 gi_wp2
 gi_loopw [3,4] (fun l i wr=>∃k:Nat,k≤10∧i=int i64 k∧Hid (wr.ownsRow w.heap.size 3 1 l (aL s k).length ((aL s k).map (int i64))∧Below w.heap.size w wr)) (fun _ i _=>11 - (intOf i).toNat)
 case atStart=>exact⟨0,zo,rfl,hid ⟨nX w w.heap.size 3,Below.refl _ _⟩⟩
 case round=>
  obtain⟨k,hk,rfl,hR⟩:=hrel
  obtain⟨A,n,c,rfl⟩:=gK hR.out.1
  have e1:(s:Int) / 2 ^ k=((s / 2 ^ k:Nat):Int):=by push_cast;rfl
  have e2:bits BinOp.and IntKind.i64 ((s / 2 ^ k:Nat):Int) 1=((s / 2 ^ k % 2:Nat):Int):=and_one _ (by have:=Nat.div_le_self s (2 ^ k);omega)
  by_cases h0:s / 2 ^ k=0
  ·have e3:aL s 10=aL s k:=by have:=Bu s k h0 (10 - k);rwa[show k+(10 - k)=10 by omega] at this
   have c1:decide (0<(s:Int) / 2 ^ k)=false:=by rw[e1,h0];rfl
   clear e1 e2
   gi_wp2
   all_goals first
    | (go_ret
       exact⟨_,rfl,by rw[e3];exact hR.out.1,hR.out.2⟩)
    | trace_state
  ·have hk2:k<10:=by
    rcases Nat.lt_or_ge k 10 with h|h
    ·exact h
    ·exact absurd (Nat.div_eq_of_lt (Nat.lt_of_lt_of_le hs (Nat.pow_le_pow_right (n:=2) zD h))) h0
   have c1:(0:Int)<(s:Int) / 2 ^ k:=by rw[e1];exact Int.natCast_pos.2 (Nat.pos_of_ne_zero h0)
   have c2:bits BinOp.and IntKind.i64 ((s:Int) / 2 ^ k) 1=((s / 2 ^ k % 2:Nat):Int):=by rw[e1];exact e2
   have e4:=wV s k
   have hlen:=sS s k
   have hB:=hR.out.2.size
   clear e1 e2
   by_cases h1:s / 2 ^ k % 2=1
   ·rw[if_pos h1] at e4
    have c3:(bits BinOp.and IntKind.i64 ((s:Int) / 2 ^ k) 1 == 1)=true:=by rw[c2,h1];rfl
    clear c2
    have Hc:=hid e4
    clear e4
    gi_wp2_with (gi_at_builtin;refine aG rfl rfl rfl fun K5 ko=>?_;refine wp_append_lies _ _ _ _ rfl w.heap.size 3 i0 _ 1 8 underlying30 hi0.out hz0 hz1 hz2 rfl zo (.slice A n c) (aL s k).length _ rfl (bn hR.out.1 _) ⟨wr.heap.size,0,none⟩ 1 1 [_] rfl rfl (World.news_of_block (heap_alloc_new wr _)) (by simp[Value.oneCell']) zo zU zo zm (wr.heap.size+1) zs ?_;intro rV qO w5 hown5 aZ ow qW;refine ko _ _ ?_;clear ko K5)
    exact⟨⟨k+1,zo,by go_num,hid ⟨by rw[Hc.out,List.length_append,List.map_append];exact hown5,(hR.out.2.alloc hB _).trans (below_grown aZ zm (fun g hg=>(dN hR.out.1 hg).1))⟩⟩,by simp[intOf];omega⟩
   ·rw[if_neg h1,List.append_nil] at e4
    have c3:(bits BinOp.and IntKind.i64 ((s:Int) / 2 ^ k) 1 == 1)=false:=by rw[c2];exact beq_eq_false_iff_ne.2 (fun h=>h1 (by exact_mod_cast h))
    clear c2
    gi_wp2
    go_roundw
    case rel=>exact⟨k+1,zo,by go_num,hid ⟨by rw[e4];exact hR.out.1,hR.out.2⟩⟩
    case measure=>simp[intOf];omega
end
end Go.Proofs.YthaelabgfnnebaaGreat.W
namespace Go.Proofs.YthaelabgfnnebaaGreat
section
open Go.RowKit
theorem sI(b:Bk)(i:Nat)(w:World)(h:b.At w w.heap.size)(hi:i<b.nm):CallsIn FF 0 prog 58 #[b.val,int i64 i] w fun e w'=>e=.returned (.bool (decide ((b.m i).kind=0)))∧Below w.heap.size w w':=by
 obtain⟨days,most,gA,ng,gc,g,mA,nm,mc,m,cA,nc,cc,c⟩:=b
 simp only at hi
 have hnm:=h.nm
 have hM:∀w,CallsIn FF 0 prog 90 #[.agg #[int i64 days,int i64 most,.slice gA ng gc,.slice mA nm mc,.slice cA nc cc],int i64 i] w fun e w'=>e=.returned (.bool true)∧Below w.heap.size w w':=fun w=>by
  have:=Av ⟨days,most,gA,ng,gc,g,mA,nm,mc,m,cA,nc,cc,c⟩ i w hnm
  rwa[show fV (i:Int) 0 ((nm:Int) - 1)=true by unfold fV;simp;omega] at this
 simp only at hnm
 unfold maxLen at hnm
 obtain⟨ad,hA,hbl,-⟩:=h.m (show 0<nm by omega)
 simp only at hA
 subst hA
 simp only[Bk.val,Bk.cells]
 have Hg:=hid (h.m.alloc (Nat.le_refl _) (.cells #[int i64 days,int i64 most,.slice gA ng gc,.slice (some ad) nm mc,.slice cA nc cc] 74))
 clear h
 gi_enter func58,ntmps58
 gi_wp2_with (gi_at_call 90;refine(hM _).mono ?_;rintro e w2 ⟨rfl,hb2⟩;obtain⟨hc2,hf2⟩:=fq hb2;have hs2:w.heap.size<w2.heap.size:=(by have:=hb2.size;simp at this;omega);have c0:w2.cell? (ad.add (i * 5))=some (int i64 (m i).kind):=((Hg.out.below (hb2.mono zs)).row hi).2 0 zD)
 all_goals (go_ret;refine⟨?_,(bw:Below w.heap.size w _).trans (hb2.mono zs)⟩;first|rfl|simp_all)
theorem l8(s:Nat)(w:World)(hs:s<1024):CallsIn FF 0 prog 96 #[int i64 s] w fun e w'=>∃v,e=.returned v∧w'.ownsRow w.heap.size 3 1 v (aL s 10).length ((aL s 10).map (int i64))∧Below w.heap.size w w':=
 CallsIn.wider (Go.Proofs.YthaelabgfnnebaaGreat.W.l8 s w hs)
end
section
open Go
def iV(P:Program)(Stop:List Code→Act→World→Prop)(l:List Code)(a:Act)(w:World):Prop:=
 ∀ (b:Frame) (k:List Item) (cs:List Frame),b.roundOf=none→FF.fn b.fn→∃l' a' w',Stop l' a' w'∧StepsIn (Machine.fenced P FF) P (lone (b.atR a (l.map Item.code ++ k)) cs w) (lone (b.atR a' (l'.map Item.code ++ k)) cs w')
section
variable{P:Program}{Stop:List Code→Act→World→Prop}{l:List Code}{a:Act}{w:World}{x y:Code}
theorem iV.of_steps{l':List Code}{a':Act}{w':World}(hs:∀ (b:Frame) (k:List Item) (cs:List Frame),b.roundOf=none→FF.fn b.fn→StepsIn (Machine.fenced P FF) P (lone (b.atR a (l.map Item.code ++ k)) cs w) (lone (b.atR a' (l'.map Item.code ++ k)) cs w'))
 (h:iV P Stop l' a' w'):iV P Stop l a w:=fun b k cs hb hf=>by
 obtain⟨l2,a2,w2,h1,h2⟩:=h b k cs hb hf
 exact⟨l2,a2,w2,h1,(hs b k cs hb hf).trans h2⟩
theorem iV.cond{c:Operand}{t:Bool}(hc:a.eval c=.bool t)(h:iV P Stop ((if t then x else y) :: l) a w):iV P Stop (.cond c x y :: l) a w:=.of_steps (fun _ _ _ _ hf=>.head (fenced_calm (n:=0) hf (bK _) rfl) (stepR_cond hc) (.refl _)) h
theorem iV.cond_true{c:Operand}(hc:a.eval c=.bool true)(h:iV P Stop (x :: l) a w):iV P Stop (.cond c x y :: l) a w:=.cond hc h
theorem iV.cond_false{c:Operand}(hc:a.eval c=.bool false)(h:iV P Stop (y :: l) a w):iV P Stop (.cond c x y :: l) a w:=.cond hc h
end
section
variable{P:Program}{ops:Array Oper}{Q:Exit→Act→World→Prop}{md:Region.Mode}{S:World→Prop}{E:List Nat}
def before(md:Region.Mode)(ops:Array Oper):Nat→Nat→Nat→Bool
 | 0,_,_=>false
 | n+1,L,i=>match ops[L]? with
   | some o=>o.after.any fun e=>Region.binds md e && (e.on == i || before md ops n e.on i)
   | none=>false
end
section
variable{F:Fence}{n0:Nat}{P:Program}{ops:Array Oper}{Q:Exit→Act→World→Prop}{md:Region.Mode}{S:World→Prop}{E:List Nat}
end
end
section
open Go.RowKit
def Mv.flat(x:Mv):List Value:=[int i64 x.kind,int i64 x.good,int i64 x.day,int i64 x.lo,int i64 x.hi]
structure tF(b:Bk)(l2 l3:List Int)(X:Nat)(wx wl:World)(vB vM mv:Value)(k1 k2:Nat):Prop where
 box:Whole wl X 26 #[int i64 b.days,int i64 b.most,.slice b.gA b.ng b.gc,vB,.slice none 0 0]
 rM:wl.ownsRow (X+1) 52 5 vM (kept l3 k1).length ((kept l3 k1).flatMap fun i=>(b.m i).flat)
 rI:wl.ownsRow (X+1) 3 1 mv (kept l3 k2).length ((FH l2 l3 k2).map (int i64))
 d:∀g,vM.ownBlock=some g→mv.ownBlock≠some g
 below:Below X wx wl
section
variable{b:Bk}{l2 l3:List Int}{X:Nat}{wx wl w':World}{vB vM mv:Value}{k k1 k2 gg cap:Nat}
theorem tF.alloc(h:tF b l2 l3 X wx wl vB vM mv k1 k2)(o:Obj):tF b l2 l3 X wx (wl.alloc o) vB vM mv k1 k2:=
 ⟨h.box.alloc o,bn h.rM o,bn h.rI o,h.d,h.below.alloc (Nat.le_of_lt h.box.lt) o⟩
theorem tF.start(b:Bk)(l2 l3:List Int){X:Nat}{w1 wx:World}(hb:Below X w1 wx)(kL:Whole wx X 26 #[int i64 b.days,int i64 b.most,.slice b.gA b.ng b.gc,.slice none 0 0,.slice none 0 0]):
 tF b l2 l3 X w1 wx (.slice none 0 0) (.slice none 0 0) (.slice none 0 0) 0 0:=
 ⟨kL,⟨by simp[kept],.inl ⟨rfl,by simp[kept]⟩⟩,⟨by simp[kept,FH],.inl ⟨rfl,by simp[kept]⟩⟩,fun g e=>(by cases e),hb⟩
theorem tF.store(h:tF b l2 l3 X wx wl vB vM mv k1 k2):tF b l2 l3 X wx (wl.setCell ⟨X,3,none⟩ vM) vM vM mv k1 k2:=
 ⟨by simpa using h.box.set 3 vM,ji h.rM (by show X<X+1;omega) _,ji h.rI (by show X<X+1;omega) _,h.d,h.below.setCell (by show X≤X;omega) _⟩
end
def Es(b:Bk)(l1 l2 l3:List Int)(w:World)(e:Ending)(w':World):Prop:=∃A p A' p',e=.returned (.tuple #[.slice A b.ng p,.slice A' b.ng p',int i64 0])∧
 Ints w' w'.heap.size A b.ng (fun i=>Dn b l1 l2 l3 i)∧Ints w' w'.heap.size A' b.ng (fun i=>Lj b l1 l2 l3 i)∧Below w.heap.size w w'
def UF:Prop:=∀ (b:Bk) (l1 l2 l3:List Int) (w:World),b.Ok→b.ng≤b.gc→vD b l1 l2 l3→b.At w w.heap.size→∀ (A1 A2 A3:Option Addr) (p1 p2 p3:Nat),
 Ints w w.heap.size A1 l1.length (fun i=>l1.getD i 0)→Ints w w.heap.size A2 l2.length (fun i=>l2.getD i 0)→Ints w w.heap.size A3 l3.length (fun i=>l3.getD i 0)→
 CallsIn FF 0 prog 25 #[b.val,.slice A1 l1.length p1,.slice A2 l2.length p2,.slice A3 l3.length p3] w (Es b l1 l2 l3 w)
theorem dW{w:World}{base:Nat}{e:TypeId}{A:Option Addr}{c:Nat}{l:List Int}(h:w.ownsRow base e 1 (.slice A l.length c) l.length (l.map (int i64))):Ints w w.heap.size A l.length (fun i=>l.getD i 0):=fun hn=>by
 obtain⟨g,cap,hv,_,hlt⟩:=h.form hn
 have hA:A=some ⟨g,0,none⟩:=by injection hv
 subst hA
 refine⟨_,rfl,hlt,fun i j hi hj=>?_⟩
 obtain rfl:j=0:=zo
 have:=h.cells (g:=g) rfl i (int i64 (l.getD i 0)) (by simp[hi])
 simpa [Addr.add] using this
section
variable{days most:Int}{gA mA cA:Option Addr}{ng gc nm mc nc cc:Nat}{g:Nat→Good}{m:Nat→Mv}{c:Nat→Ct}
end
section
variable{F:Fence}{n:Nat}{P:Program}{b:Frame}{a:Act}{k:List Item}{cs:List Frame}{w:World}{Q:Exit→Act→World→Prop}
theorem gq{c:Code}:step P (lone (b.atR a (.code (.scope c) :: k)) cs w)=.next (lone (b.atR a (.code c :: .inScope c :: k)) cs w):=
 step_lone_go (by simp[stepG,stepG.exec,Frame.atR])
theorem yN{c:Code}:step P (lone (b.atR a (.inScope c :: k)) cs w)=.next (lone (b.atR a k) cs w):=
 step_lone_go (by simp[stepG,stepG.exec,Frame.atR])
theorem Kl{c:Code}(h:c.wpIn F n P (Exit.noGoto Q) a w):(Code.scope c).wpIn F n P Q a w:=by
 intro b k cs hro hb hr
 have h0:(lone (b.atR a (.code (.scope c) :: k)) cs w).fenced P F:=fenced_calm hb hr rfl
 obtain⟨e,a₁,w₁,hq,harr⟩:=h b (.inScope c :: k) cs hro hb hr
 cases e with
 | normal=>exact⟨.normal,a₁,w₁,hq,.head h0 gq (StepsIn.trans harr (.one (fenced_calm hb hr rfl) yN))⟩
 | exit id'=>
   have hx:exitTo id' (.inScope c :: k)=exitTo id' k:=by simp[exitTo]
   exact⟨.exit id',a₁,w₁,hq,fun k' hk=>.head h0 gq (harr.1 k' (by rw[hx];exact hk)),
    fun hr' hk=>let ⟨k₁,h1,h2⟩:=harr.2 hr' (by rw[hx];exact hk);⟨k₁,h1,.head h0 gq h2⟩⟩
 | goto l=>exact hq.elim
 | ret=>exact⟨_,a₁,w₁,hq,.of_steps (.one h0 gq) harr⟩
 | panic ch=>exact⟨_,a₁,w₁,hq,.of_steps (.one h0 gq) harr⟩
 | outgrown=>exact⟨_,a₁,w₁,hq,.of_steps (.one h0 gq) harr⟩
end
@[go_sem] theorem noGoto_normal {Q:Exit→Act→World→Prop} {a:Act} {w:World}:Exit.noGoto Q .normal a w=Q .normal a w:=rfl
@[go_sem] theorem noGoto_exit {Q:Exit→Act→World→Prop} {a:Act} {w:World} (id:Nat):Exit.noGoto Q (.exit id) a w=Q (.exit id) a w:=rfl
@[go_sem] theorem noGoto_ret {Q:Exit→Act→World→Prop} {a:Act} {w:World}:Exit.noGoto Q .ret a w=Q .ret a w:=rfl
def Np(b:Bk)(s:Nat):Bool:=decide (∀i,i<b.nm→s / 2 ^ i % 2=1→(b.m i).kind=0)
def bM(b:Bk)(k:Nat):List Int:=((List.range k).filter fun s=>Np b s).map fun(n:Nat)=>(n:Int)
theorem tY(b:Bk)(k:Nat):bM b (k+1)=bM b k ++ if Np b k=true then[(k:Int)] else[]:=by
 unfold bM
 rw[List.range_succ,List.filter_append,List.map_append]
 by_cases h:Np b k=true <;> simp[h]
theorem Jl(b:Bk)(k:Nat):(bM b k).length≤k:=by
 unfold bM
 rw[List.length_map]
 exact Nat.le_trans (List.length_filter_le _ _) zs
theorem NV{s k:Nat}{x:Int}(h:x∈aL s k):∃i:Nat,x=i∧i<k∧s / 2 ^ i % 2=1:=by
 unfold aL at h
 obtain⟨i,hi,rfl⟩:=List.mem_map.1 h
 obtain⟨h1,h2⟩:=List.mem_filter.1 hi
 exact⟨i,rfl,List.mem_range.1 h1,by simpa using h2⟩
theorem NU{s k i:Nat}(hi:i<k)(h:s / 2 ^ i % 2=1):(i:Int)∈aL s k:=by
 unfold aL
 exact List.mem_map.2 ⟨i,List.mem_filter.2 ⟨List.mem_range.2 hi,by simp[h]⟩,rfl⟩
theorem ZH{s n i:Nat}(hs:s<2 ^ n)(h:s / 2 ^ i % 2=1):i<n:=by
 rcases Nat.lt_or_ge i n with h1|h1
 ·exact h1
 ·rw[Nat.div_eq_of_lt (Nat.lt_of_lt_of_le hs (Nat.pow_le_pow_right (n:=2) zD h1))] at h
  cases h
def jE(w:World)(v:Value):Prop:=∀g,v.ownBlock=some g→∃c e,w.heap[g]? =some (.cells c e (0,0))∧∀x∈c.toList,∃n,x=int i64 n
section
variable{w w':World}{v v':Value}
theorem jE.nil(w:World):jE w (.slice none 0 0):=fun g h=>by cases h
theorem jE.of(h:jE w v)(hk:∀g,v.ownBlock=some g→g<w.heap.size→w'.heap[g]? =w.heap[g]?):jE w' v:=fun g hg=>by
 obtain⟨c,e,h1,h2⟩:=h g hg
 exact⟨c,e,(hk g hg (Array.getElem?_eq_some_iff.1 h1).1).trans h1,h2⟩
theorem jE.below(h:jE w v)(hb:Below w.heap.size w w'):jE w' v:=h.of fun _ _ hl=>hb.block _ hl
theorem jE.alloc(h:jE w v)(o:Obj):jE (w.alloc o) v:=h.of fun _ _ hl=>Below.heap_alloc _ _ _ hl
theorem jE.other{p:Addr}(h:jE w v)(hne:∀g,v.ownBlock=some g→g≠p.block)(x:Value):jE (w.setCell p x) v:=h.of fun g hg _=>Below.heap_setCell _ _ _ _ (hne g hg)
theorem Cc(k:Nat):∀x∈(Builtin.zeroCells (int i64 0).cells k).toList,∃n,x=int i64 n:=fun x hx=>by
 unfold Builtin.zeroCells at hx
 rw[Array.toList_map] at hx
 obtain⟨i,hi,rfl⟩:=List.mem_map.1 hx
 exact⟨0,by simp[Value.cells,Nat.mod_one]⟩
theorem yL{base n m c:Nat}{xs news:List Value}{ad:Addr}{ty:TypeId}{i:TypeInfo}(hi:Tryz.prog.info? 3=some i)(hz:i.zero=some (int i64 0))(hs:i.size=1)(hby:i.bytes=8)(hown:w.ownsRow base 3 1 v n xs)(hib:jE w v)
 (hl:news.length=m)(hnews:∀j u,news[j]? =some u→w.cell? (ad.add j)=some u)(hint:∀u∈news,∃k,u=int i64 k)(hm:0<m)(h63:n+m≤maxLen)(hbytes:(n+m) * 8≤140737488355328)
 (hr:(Builtin.append_ #[30,30] ty #[v,.slice (some ad) m c]).run prog w=.ok v' w'):jE w' v':=by
 have hsmall:n+m≤9223372036854775807:=by simp only[maxLen] at h63;omega
 have h1:∀u∈news,u.oneCell'=true:=fun u hu=>by obtain⟨k,rfl⟩:=hint u hu;rfl
 have hl':news.length=m * i.size:=by rw[hs,hl];omega
 rcases hown.2 with⟨rfl,rfl⟩|⟨g,cap,cur,rfl,hbg,hg,hnc,hcm,hcs,htake⟩
 ·have hr':=run_append_nil (P:=prog) w 30 ty 3 i _ underlying30 hi hz ad m c news hl' hnews hm zo (by rw[hby];omega)
  rw[hr] at hr'
  injection hr' with e1 e2
  subst e1
  subst e2
  intro g hg
  cases hg
  refine⟨_,_,heap_alloc_new w.drew _,fun x hx=>?_⟩
  simp only[Array.toList_append,List.mem_append] at hx
  rcases hx with hx|hx
  ·exact hint x hx
  ·exact Cc _ x hx
 ·obtain⟨c2,e2,h2,h3⟩:=hib g rfl
  rw[hg] at h2
  cases h2
  by_cases hroom:n+m≤cap
  ·have hr':=run_append_room (P:=prog) w 30 ty 3 i underlying30 hi g n cap cur hg ad m c news hl' hnews h1 hroom (by rw[hl',hs,hcs];omega)
   rw[hr] at hr'
   injection hr' with e1 e2
   subst e1
   subst e2
   intro g' hg'
   cases hg'
   refine⟨_,_,setRow_heap w g cur _ _ _ hg,fun x hx=>?_⟩
   simp only[List.mem_append] at hx
   rcases hx with(hx|hx)|hx
   ·exact h3 x (List.mem_of_mem_take hx)
   ·exact hint x hx
   ·exact h3 x (List.mem_of_mem_drop hx)
  ·have holds:∀j u,xs[j]? =some u→w.cell? ((⟨g,0,none⟩:Addr).add j)=some u:=hown.cells (g:=g) rfl
   have hr':=run_append_grow (P:=prog) w 30 ty 3 i _ underlying30 hi hz ⟨g,0,none⟩ n cap xs (by rw[hs];exact hown.1) holds ad m c news hl' hnews zo zo (by rw[hby];exact growslice_fits zo hbytes)
   rw[hr] at hr'
   injection hr' with e1 e2
   subst e1
   subst e2
   intro g' hg'
   cases hg'
   refine⟨_,_,heap_alloc_new w.drew _,fun x hx=>?_⟩
   simp only[Array.toList_append,List.mem_append] at hx
   rcases hx with(hx|hx)|hx
   ·rw[← htake] at hx
    exact h3 x (List.mem_of_mem_take hx)
   ·exact hint x hx
   ·exact Cc _ x hx
theorem Ef{o:Oper}{a:Act}{K:Act→World→Prop}{Q:Exit→Act→World→Prop}{s x:Operand}{i:TypeInfo}(ho:o.op=.call {callee:=.builtin .append,args:=#[s,x],argTypes:=#[30,30] })
 (base:Nat)(hi:Tryz.prog.info? 3=some i)(hz:i.zero=some (int i64 0))(hs:i.size=1)(hby:i.bytes=8)(v:Value)(n:Nat)(xs:List Value)(hv:a.eval s=v)(hown:w.ownsRow base 3 1 v n xs)(hib:jE w v)
 (ad:Addr)(m c:Nat)(news:List Value)(hx:a.eval x=.slice (some ad) m c)(hl:news.length=m)(hnews:∀j u,news[j]? =some u→w.cell? (ad.add j)=some u)(hint:∀u∈news,∃k,u=int i64 k)(hm:0<m)(h63:n+m≤maxLen)(hbytes:(n+m) * 8≤140737488355328)(hbase:base≤w.heap.size)(H:Nat)(hH:w.heap.size=H)
 (h:∀g cap w',w'.ownsRow base 3 1 (.slice (some ⟨g,0,none⟩) (n+m) cap) (n+m) (xs ++ news)→w.grownBy w' v.ownBlock→(v.ownBlock=some g∨g=H)→g<w'.heap.size→jE w' (.slice (some ⟨g,0,none⟩) (n+m) cap)→K (a.put o.dst (.slice (some ⟨g,0,none⟩) (n+m) cap)) w'):o.wp prog a w K Q:=by
 have h1:∀u∈news,u.oneCell'=true:=fun u hu=>by obtain⟨k,rfl⟩:=hint u hu;rfl
 obtain⟨g,cap,w',hr,h2,h3,h4,h5⟩:=run_append_lies (P:=prog) w 30 o.type base 3 i _ 1 8 underlying30 hi hz hs hby rfl zo v n xs hown ad m c news zo hnews h1 hm h63 hbytes hbase H hH
 have h6:=yL hi hz hs hby hown hib hl hnews hint hm h63 hbytes hr
 unfold Oper.wp execOp
 simp only[ho,resolve,invoke,builtin,Sem.run_bind,Sem.run_pure,Result.andThen_ok,List.map_toArray,List.map_cons,List.map_nil,hv,hx,hr]
 exact h g cap w' h2 h3 h4 h5 h6
end
theorem Mh(b:Bk)(w:World)(h:b.At w w.heap.size)(hm:b.nm≤6):CallsIn FF 0 prog 70 #[b.val] w fun e w'=>∃v,e=.returned v∧w'.ownsRow w.heap.size 3 1 v (bM b (2 ^ b.nm)).length ((bM b (2 ^ b.nm)).map (int i64))∧Below w.heap.size w w'∧jE w' v:=by
 obtain⟨days,most,gA,ng,gc,g,mA,nm,mc,m,cA,nc,cc,c⟩:=b
 simp only[Bk.val,Bk.cells]
 simp only at hm
 have ln:2 ^ nm≤64:=Nat.le_trans (Nat.pow_le_pow_right zD hm) zD
 have eW:wrap64 ((2:Int) ^ nm)=((2 ^ nm:Nat):Int):=by
  have e:((2:Int) ^ nm)=((2 ^ nm:Nat):Int):=by push_cast;rfl
  have key:∀M:Nat,M≤64→wrap64 (M:Int)=(M:Int):=fun M h=>IntWalk.wrap64_in _ zo
  rw[e];exact key _ ln
 have Hh:=hid h
 clear h
 obtain⟨i0,hi,hz0,hz1,hz2⟩:=info_parts info3
 have hi0:=hid hi
 clear hi
 gi_enter func70,ntmps70
 gi_wp2
 apply Kl
 gi_wp2
 apply wpIn_label
 gi_wp2
 rw[eW]
 clear eW
 obtain⟨M,hM⟩:∃M:Nat,M=2 ^ nm:=⟨_,rfl⟩
 rw[← hM] at ln⊢
 have HM:=hid hM
 clear hM
 gi_loopw [3,12] (fun l i wr=>∃k:Nat,k≤M∧i=int i64 k∧Hid (wr.ownsRow (w.heap.size+1) 3 1 l (bM (⟨days,most,gA,ng,gc,g,mA,nm,mc,m,cA,nc,cc,c⟩:Bk) k).length ((bM (⟨days,most,gA,ng,gc,g,mA,nm,mc,m,cA,nc,cc,c⟩:Bk) k).map (int i64))∧Below (w.heap.size+1) (w.alloc (.cells #[int i64 days,int i64 most,.slice gA ng gc,.slice mA nm mc,.slice cA nc cc] 74)) wr∧jE wr l)) (fun _ i _=>M - (intOf i).toNat)
 case atStart=>exact⟨0,Nat.zero_le _,rfl,hid ⟨nX _ (w.heap.size+1) 3,Below.refl _ _,jE.nil _⟩⟩
 case round=>
  obtain⟨k,hk,rfl,hR⟩:=hrel
  obtain⟨A,n,cp,rfl⟩:=gK hR.out.1
  have hsz:w.heap.size+1≤wr.heap.size:=by have:=hR.out.2.1.size;simpa using this
  by_cases hlt:k<M
  ·obtain⟨wo,rfl⟩:∃wo:World,wo=wr:=⟨_,rfl⟩
   gi_wp2_with (gi_at_call 96;refine(l8 k wo zo).mono ?_;rintro e w2 ⟨v2,rfl,hown2,hb2⟩;obtain⟨A2,c2,rfl⟩:=fF hown2;have HB2:=hid hb2;have PR:=hid hown2;clear hb2 hown2)
   have yr:k<2 ^ nm:=by have:=HM.out;omega
   have hs2:wo.heap.size≤w2.heap.size:=HB2.out.size
   have Ja:Hid ((⟨days,most,gA,ng,gc,g,mA,nm,mc,m,cA,nc,cc,c⟩:Bk).At w2 (w.heap.size+1)):=hid (((Hh.out.alloc (Nat.le_refl _) (.cells #[int i64 days,int i64 most,.slice gA ng gc,.slice mA nm mc,.slice cA nc cc] 74)).more (Nat.le_succ _)).below (hR.out.2.1.trans (HB2.out.mono hsz)))
   have wC:Hid (∀o,w2.cell? ⟨w.heap.size,o,none⟩=(w.alloc (.cells #[int i64 days,int i64 most,.slice gA ng gc,.slice mA nm mc,.slice cA nc cc] 74)).cell? ⟨w.heap.size,o,none⟩):=hid fun o=>(HB2.out.cell (p:=⟨w.heap.size,o,none⟩) zm).trans (hR.out.2.1.cell (p:=⟨w.heap.size,o,none⟩) zs)
   have hI2:Hid (Ints w2 w2.heap.size A2 (aL k 10).length (fun i=>(aL k 10).getD i 0)):=hid (dW PR.out)
   have hll:=sS k 10
   obtain⟨L,hL⟩:∃L:List Int,L=aL k 10:=⟨_,rfl⟩
   have HL:=hid hL
   rw[← hL] at hI2 hll⊢
   clear hL
   gi_loopw [18] (fun j wj=>∃q:Nat,q≤L.length∧j=int i64 q∧Hid (Below w2.heap.size w2 wj∧∀i,i<q→(m (L.getD i 0).toNat).kind=0)) (fun j _=>L.length - (intOf j).toNat)
   case atStart=>exact⟨0,Nat.zero_le _,rfl,hid ⟨Below.refl _ _,fun i hi=>absurd hi (Nat.not_lt_zero i)⟩⟩
   case round=>
    obtain⟨q,hq,rfl,hS⟩:=hrel
    have hs3:w2.heap.size≤wr.heap.size:=hS.out.1.size
    have Vt:w.heap.size<wr.heap.size:=zo
    have hbx:∀o,wr.cell? ⟨w.heap.size,o,none⟩=(w.alloc (.cells #[int i64 days,int i64 most,.slice gA ng gc,.slice mA nm mc,.slice cA nc cc] 74)).cell? ⟨w.heap.size,o,none⟩:=fun o=>(hS.out.1.cell (p:=⟨w.heap.size,o,none⟩) zm).trans (wC.out o)
    have HB3:Hid (Below (w.heap.size+1) wo wr):=hid ((HB2.out.mono hsz).trans (hS.out.1.mono zo))
    by_cases hq2:q<L.length
    ·obtain⟨ad,rfl,hbl,hcl⟩:=hI2.out (show 0<L.length by omega)
     obtain⟨i,hi,UP,hib⟩:=NV (s:=k) (k:=10) (x:=L[q]) (by rw[← HL.out];exact List.getElem_mem hq2)
     have hig:L.getD q 0=(i:Int):=by rw[← hi];simp[hq2]
     have hin:i<nm:=ZH yr hib
     have cq:wr.cell? (ad.add q)=some (int i64 i):=by
      have e:=Ints.at_ hI2.out hq2
      rw[hig] at e
      exact(hS.out.1.cell (by rw[aJ];exact hbl)).trans e
     have hN:CallsIn FF 0 prog 58 #[.agg #[int i64 days,int i64 most,.slice gA ng gc,.slice mA nm mc,.slice cA nc cc],int i64 i] wr fun e w'=>e=.returned (.bool (decide ((m i).kind=0)))∧Below wr.heap.size wr w':=sI ⟨days,most,gA,ng,gc,g,mA,nm,mc,m,cA,nc,cc,c⟩ i wr ((Ja.out.below (hS.out.1.mono zo)).more zo) hin
     clear hcl hi
     by_cases hz:(m i).kind=0
     ·rw[decide_eq_true hz] at hN
      gi_wp2_with (gi_at_call 58;refine hN.mono ?_;rintro e w3 ⟨rfl,hb3⟩)
      go_roundw
      case rel=>exact⟨q+1,zo,by go_num,hid ⟨hS.out.1.trans (hb3.mono hs3),dZ hS.out.2 (by rw[hig];exact hz)⟩⟩
      case measure=>simp[intOf];omega
     ·rw[decide_eq_false hz] at hN
      gi_wp2_with (gi_at_call 58;refine hN.mono ?_;rintro e w3 ⟨rfl,hb3⟩)
      have hw3:Below wo.heap.size wo w3:=HB2.out.trans ((hS.out.1.trans (hb3.mono hs3)).mono hs2)
      have e4:=tY ⟨days,most,gA,ng,gc,g,mA,nm,mc,m,cA,nc,cc,c⟩ k
      rw[if_neg (by unfold Np;rw[decide_eq_false (fun h=>hz (h i hin hib))];decide),List.append_nil] at e4
      exact⟨⟨k+1,zo,by go_num,hid ⟨by rw[e4];exact own_below hR.out.1 hw3,hR.out.2.1.trans (hw3.mono hsz),hR.out.2.2.below hw3⟩⟩,by simp[intOf];omega⟩
    ·obtain rfl:q=L.length:=zo
     have mT:Np ⟨days,most,gA,ng,gc,g,mA,nm,mc,m,cA,nc,cc,c⟩ k=true:=decide_eq_true (fun i hi hib=>by
      have hmem:(i:Int)∈L:=by rw[HL.out];exact NU (by simp only at hi;omega) hib
      obtain⟨j,hj,fY⟩:=List.mem_iff_getElem.1 hmem
      have:=hS.out.2 j hj
      rwa[show L.getD j 0=(i:Int) by rw[← fY];simp[hj]] at this)
     have e4:=tY ⟨days,most,gA,ng,gc,g,mA,nm,mc,m,cA,nc,cc,c⟩ k
     rw[if_pos mT] at e4
     have E4:=hid e4
     have hle:=Jl ⟨days,most,gA,ng,gc,g,mA,nm,mc,m,cA,nc,cc,c⟩ k
     have hw3:Below wo.heap.size wo wr:=HB2.out.trans (hS.out.1.mono hs2)
     have hown:=own_below hR.out.1 hw3
     have Ho:=hid hown
     have Ps:=hid (hR.out.2.2.below hw3)
     have fp:=hid hw3
     clear e4 hown hw3 mT
     gi_wp2_with (gi_at_builtin;refine aG rfl rfl rfl fun K5 ko=>?_;refine Ef rfl (w.heap.size+1) hi0.out hz0 hz1 hz2 (.slice A n cp) (bM ⟨days,most,gA,ng,gc,g,mA,nm,mc,m,cA,nc,cc,c⟩ k).length _ rfl (bn Ho.out _) (Ps.out.alloc _) ⟨wr.heap.size,0,none⟩ 1 1 [_] rfl rfl (World.news_of_block (heap_alloc_new wr _)) zs zo zU zo zm (wr.heap.size+1) zs ?_;intro rV qO w5 hown5 aZ ow qW yq;refine ko _ _ ?_;clear ko K5)
     exact⟨⟨k+1,zo,by go_num,hid ⟨by rw[E4.out,List.length_append,List.map_append];exact hown5,((hR.out.2.1.trans (fp.out.mono hsz)).alloc zo _).trans (below_grown aZ zm (fun g hg=>(dN Ho.out hg).1)),yq⟩⟩,by simp[intOf];omega⟩
  ·obtain rfl:k=M:=zo
   have PQ:=HM.out
   gi_wp2
   rw[Exit.noGoto_ret]
   go_ret
   exact⟨_,rfl,by rw[← PQ];exact⟨hR.out.1.1,hR.out.1.2.imp id (fun⟨g,cap,cur,h1,h2,h3⟩=>⟨g,cap,cur,h1,zo,h3⟩)⟩,((Below.refl _ _).alloc (Nat.le_refl _) _).trans (hR.out.2.1.mono zs),hR.out.2.2⟩
end
end Go.Proofs.YthaelabgfnnebaaGreat
