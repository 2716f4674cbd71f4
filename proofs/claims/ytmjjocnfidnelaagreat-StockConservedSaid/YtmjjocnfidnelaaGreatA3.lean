/- S7 StopIn Reg2 Reg2In Cut S8 -/
import Derived.Test.YtmjjocnfidnelaaGreatA2
import Derived.ControlIn
set_option maxRecDepth 100000
set_option maxHeartbeats 16000000
set_option linter.unusedVariables false
set_option linter.unusedSectionVars false
open Go.IntKind(i64)
open Go.Proofs.Tryz
open Go.Value(int)
namespace Go.Proofs.YtmjjocnfidnelaaGreat
def Oo(b:Bk)(l2:List Int)(g:Nat)(i:Nat):Int:=if (b.m i).good=g then(if (b.m i).kind=0∨(b.m i).kind=4 then l2.getD i 0 else - l2.getD i 0) else 0
open Classical in
noncomputable def jl(b:Bk)(l1 l2 l3:List Int)(g:Nat)(d:Int):Int:=l1.getD g 0+((List.range b.nm).map fun i=>if (b.m i).day≤d∧¬ (i:Int)∈l3 then Oo b l2 g i else 0).sum
noncomputable def jM(b:Bk)(l1 l2 l3:List Int)(g:Nat):Int:=jl b l1 l2 l3 g b.days
noncomputable def pR(b:Bk)(l1 l2 l3:List Int)(g:Nat):Int:=(List.range (b.days.toNat+1)).foldl (fun x (d:Nat)=>min x (jl b l1 l2 l3 g d)) (l1.getD g 0)
theorem mI{f:Nat→Int}:∀ (l:List Nat) (x:Int),l.foldl (fun x d=>min x (f d)) x≤x∧∀d∈l,l.foldl (fun x d=>min x (f d)) x≤f d
 | [],x=>⟨zs,fun d h=>by cases h⟩
 | a :: l,x=>by
   obtain⟨h1,h2⟩:=mI (f:=f) l (min x (f a))
   simp only[List.foldl_cons]
   refine⟨zo,fun d hd=>?_⟩
   rcases List.mem_cons.1 hd with rfl|hd
   ·omega
   ·exact h2 d hd
theorem OW(b:Bk)(l1 l2 l3:List Int)(g:Nat):pR b l1 l2 l3 g≤l1.getD g 0:=(mI _ _).1
theorem TN(b:Bk)(l1 l2 l3:List Int)(g:Nat)(h:0≤b.days):pR b l1 l2 l3 g≤jM b l1 l2 l3 g:=by
 have:=(mI (f:=fun d=>jl b l1 l2 l3 g d) (List.range (b.days.toNat+1)) (l1.getD g 0)).2 b.days.toNat (List.mem_range.2 zo)
 simp only[Int.toNat_of_nonneg h] at this
 exact this
section
open Classical
noncomputable def kept(l3:List Int)(k:Nat):List Nat:=(List.range k).filter fun i=>decide (¬ (i:Int)∈l3)
theorem ug(l3:List Int)(k:Nat):kept l3 (k+1)=if (k:Int)∈l3 then kept l3 k else kept l3 k ++ [k]:=by
 unfold kept
 rw[List.range_succ,List.filter_append]
 by_cases h:(k:Int)∈l3 <;> simp[h]
theorem MJ{l3:List Int}{k i:Nat}(h:i∈kept l3 k):i<k∧¬ (i:Int)∈l3:=by
 unfold kept at h
 simp at h
 exact h
theorem Xy(l3:List Int)(k:Nat):(kept l3 k).Pairwise (· < ·):=List.Pairwise.filter _ (List.pairwise_lt_range)
theorem nS(l3:List Int)(k:Nat):(kept l3 k).length≤k:=by
 have:=List.length_filter_le (fun i:Nat=>decide (¬ (i:Int)∈l3)) (List.range k)
 simpa [kept] using this
theorem yP{p:Nat→Prop}[DecidablePred p]{f:Nat→Int}:∀l:List Nat,((l.filter fun i=>decide (p i)).map f).sum=(l.map fun i=>if p i then f i else 0).sum
 | []=>rfl
 | a :: l=>by
   by_cases h:p a <;> simp[h,yP l]
theorem TP{α:Type}(l:List Nat)(f:Nat→α):(List.range l.length).map (fun j=>f (l.getD j 0))=l.map f:=by
 apply List.ext_getElem
 ·simp
 ·intro i h1 h2
  simp at h1 h2⊢
  simp[h1]
noncomputable def Bk.without(b:Bk)(l3:List Int)(GR:Option Addr)(mc':Nat):Bk:={b with mA:=GR,nm:=(kept l3 b.nm).length,mc:=mc',m:=fun j=>b.m ((kept l3 b.nm).getD j 0),cA:=none,nc:=0,cc:=0 }
noncomputable def bg(l2 l3:List Int)(k:Nat):List Int:=(kept l3 k).map fun i=>l2.getD i 0
theorem ql(b:Bk)(l1 l2 l3:List Int)(g:Nat)(d:Int)(GR:Option Addr)(mc':Nat):
 jl (b.without l3 GR mc') l1 (bg l2 l3 b.nm) [] g d=jl b l1 l2 l3 g d:=by
 unfold jl
 congr 1
 have e:∀j,j<(kept l3 b.nm).length→Oo (b.without l3 GR mc') (bg l2 l3 b.nm) g j=Oo b l2 g ((kept l3 b.nm).getD j 0):=fun j hj=>by
  unfold Oo Bk.without bg
  have:(List.map (fun i=>l2.getD i 0) (kept l3 b.nm)).getD j 0=l2.getD ((kept l3 b.nm).getD j 0) 0:=by
   simp[hj]
  rw[this]
 have e1:(List.range (b.without l3 GR mc').nm).map (fun i=>if ((b.without l3 GR mc').m i).day≤d∧¬ (i:Int)∈([]:List Int) then Oo (b.without l3 GR mc') (bg l2 l3 b.nm) g i else 0)
  =(List.range (kept l3 b.nm).length).map (fun j=>(fun i=>if (b.m i).day≤d then Oo b l2 g i else 0) ((kept l3 b.nm).getD j 0)):=by
  apply List.map_congr_left
  intro j hj
  have hj':j<(kept l3 b.nm).length:=List.mem_range.1 hj
  rw[e j hj']
  simp[Bk.without]
 rw[e1,TP (kept l3 b.nm) (fun i=>if (b.m i).day≤d then Oo b l2 g i else 0)]
 unfold kept
 rw[yP (p:=fun i:Nat=>¬ (i:Int)∈l3)]
 congr 1
 apply List.map_congr_left
 intro i _
 by_cases h1:(b.m i).day≤d <;> by_cases h2:(i:Int)∈l3 <;> simp[h1,h2]
theorem El(b:Bk)(l1 l2 l3:List Int)(g:Nat)(GR:Option Addr)(mc':Nat):jM (b.without l3 GR mc') l1 (bg l2 l3 b.nm) [] g=jM b l1 l2 l3 g:=ql b l1 l2 l3 g b.days GR mc'
theorem GQ(b:Bk)(l1 l2 l3:List Int)(g:Nat)(GR:Option Addr)(mc':Nat):pR (b.without l3 GR mc') l1 (bg l2 l3 b.nm) [] g=pR b l1 l2 l3 g:=by
 unfold pR
 have:(b.without l3 GR mc').days=b.days:=rfl
 rw[this]
 congr 1
 funext x d
 rw[ql]
theorem KF{b:Bk}(h:b.Ok)(l3:List Int)(GR:Option Addr)(mc':Nat):(b.without l3 GR mc').Ok:=by
 refine⟨h.days,h.most,⟨h.dn.1,fun i hi=>?_⟩,⟨Nat.le_trans (nS l3 b.nm) h.moves.1,fun i hi=>?_⟩,by show(0:Nat)≤4;omega,fun i hi=>absurd hi (Nat.not_lt_zero i)⟩
 ·obtain⟨h1,h2,h3,h4,h5⟩:=h.dn.2 i hi
  exact⟨h1,h2,h3,h4,h5⟩
 ·have hi':i<(kept l3 b.nm).length:=hi
  have e:(kept l3 b.nm).getD i 0=(kept l3 b.nm)[i]:=by simp[hi']
  have hk:(kept l3 b.nm).getD i 0<b.nm:=by rw[e];exact(MJ (List.getElem_mem hi')).1
  obtain⟨h1,h2,h3,h4,h5⟩:=h.moves.2 _ hk
  refine⟨h1,h2,h3,fun h0=>?_,h5⟩
  have hi1:i - 1<(kept l3 b.nm).length:=zo
  have e1:(kept l3 b.nm).getD (i - 1) 0=(kept l3 b.nm)[i - 1]:=by simp[hi1]
  have hlt:(kept l3 b.nm)[i - 1]<(kept l3 b.nm)[i]:=List.pairwise_iff_getElem.1 (Xy l3 b.nm) (i - 1) i hi1 hi' zo
  show(b.m ((kept l3 b.nm).getD (i - 1) 0)).day≤(b.m ((kept l3 b.nm).getD i 0)).day
  rw[e,e1]
  exact WY h _ _ hlt (by rw[← e];exact hk)
where
 WY {b:Bk} (h:b.Ok):∀ (i j:Nat),i<j→j<b.nm→(b.m i).day≤(b.m j).day:=fun i j=>by
  induction j with
  | zero=>intro h1;omega
  | succ j ih=>
    intro h1 h2
    have h3:=(h.moves.2 (j+1) h2).order zo
    simp only[Nat.add_sub_cancel] at h3
    rcases Nat.lt_or_ge i j with h4|h4
    ·exact Int.le_trans (ih h4 zo) h3
    ·obtain rfl:i=j:=zo
     exact h3
theorem Ew{b:Bk}{l1 l2 l3:List Int}(h:nL b l1 l2 l3)(GR:Option Addr)(mc':Nat):nL (b.without l3 GR mc') l1 (bg l2 l3 b.nm) []:=by
 refine⟨h.n1,by simp[bg,Bk.without],h.b1,fun x hx=>?_,.nil,fun x hx=>by cases hx⟩
 obtain⟨i,hi,rfl⟩:=List.mem_map.1 hx
 have hl:i<l2.length:=by rw[h.n2];exact(MJ hi).1
 exact h.b2 _ (by simp[hl])
end
open Classical in
noncomputable def mX(b:Bk)(l2 l3:List Int)(g k:Nat):Int:=((List.range k).map fun(i:Nat)=>if ¬ (i:Int)∈l3 then Oo b l2 g i else 0).sum
theorem C8(b:Bk)(l2 l3:List Int)(g:Nat):mX b l2 l3 g 0=0:=by simp[mX]
theorem uE{b:Bk}{l2 l3:List Int}{g k:Nat}(h:(b.m k).good≠g∨(k:Int)∈l3):mX b l2 l3 g (k+1)=mX b l2 l3 g k:=by
 unfold mX
 rw[List.range_succ,List.map_append,List.sum_append]
 rcases h with h|h <;> simp[h,Oo]
theorem uD{b:Bk}{l2 l3:List Int}{g k:Nat}(h:(b.m k).good=g)(h':¬ (k:Int)∈l3)(hk:(b.m k).kind=0∨(b.m k).kind=4):mX b l2 l3 g (k+1)=mX b l2 l3 g k+l2.getD k 0:=by
 unfold mX
 rw[List.range_succ,List.map_append,List.sum_append]
 simp[h,h',Oo,hk]
theorem yN{b:Bk}{l2 l3:List Int}{g k:Nat}(h:(b.m k).good=g)(h':¬ (k:Int)∈l3)(hk:¬ ((b.m k).kind=0∨(b.m k).kind=4)):mX b l2 l3 g (k+1)=mX b l2 l3 g k - l2.getD k 0:=by
 unfold mX
 rw[List.range_succ,List.map_append,List.sum_append]
 simp[h,h',Oo,hk]
 omega
theorem yM{b:Bk}{l2 l3:List Int}{g:Nat}(h2:∀i,0≤l2.getD i 0∧l2.getD i 0≤99):∀k:Nat,-(99 * (k:Int))≤mX b l2 l3 g k∧mX b l2 l3 g k≤99 * k
 | 0=>by rw[C8];omega
 | k+1=>by
   have:=yM (b:=b) (l3:=l3) (g:=g) h2 k
   have hb:=h2 k
   by_cases h:(b.m k).good≠g∨(k:Int)∈l3
   ·rw[uE h];omega
   ·have h1:(b.m k).good=g:=Classical.byContradiction fun e=>h (.inl e)
    have h3:¬ (k:Int)∈l3:=fun e=>h (.inr e)
    by_cases hk:(b.m k).kind=0∨(b.m k).kind=4
    ·rw[uD h1 h3 hk];omega
    ·rw[yN h1 h3 hk];omega
theorem xL{l:List Int}(h:∀x∈l,0≤x∧x≤99)(i:Nat):0≤l.getD i 0∧l.getD i 0≤99:=by
 by_cases hi:i<l.length
 ·exact h _ (by simp[hi])
 ·simp[hi]
theorem OO{b:Bk}(ok:b.Ok)(l1 l2 l3:List Int)(g:Nat):jM b l1 l2 l3 g=l1.getD g 0+mX b l2 l3 g b.nm:=by
 unfold jM jl mX
 congr 2
 apply List.map_congr_left
 intro i hi
 have:=(ok.moves.2 i (List.mem_range.1 hi)).day.2
 simp[this]
theorem lS(l:List Int)(v:Int):hasB l.length (fun i=>l.getD i 0) v=true↔v∈l:=by
 unfold hasB
 rw[decide_eq_true_iff]
 constructor
 ·rintro⟨i,hi,rfl⟩
  simp[hi]
 ·intro h
  obtain⟨i,hi,rfl⟩:=List.getElem_of_mem h
  exact⟨i,hi,by simp[hi]⟩
section
open Go
def aG(P:Program)(Stop:List Code→Act→World→Prop)(l:List Code)(a:Act)(w:World):Prop:=
 ∀ (b:Frame) (k:List Item) (cs:List Frame),b.roundOf=none→FF.fn b.fn→∃l' a' w',Stop l' a' w'∧StepsIn (Machine.fenced P FF) P (lone (b.atR a (l.map Item.code ++ k)) cs w) (lone (b.atR a' (l'.map Item.code ++ k)) cs w')
section
variable{P:Program}{Stop:List Code→Act→World→Prop}{l:List Code}{a:Act}{w:World}{x y:Code}
theorem aG.stop(h:Stop l a w):aG P Stop l a w:=fun _ _ _ _ _=>⟨l,a,w,h,.refl _⟩
theorem aG.of_steps{l':List Code}{a':Act}{w':World}(hs:∀ (b:Frame) (k:List Item) (cs:List Frame),b.roundOf=none→FF.fn b.fn→StepsIn (Machine.fenced P FF) P (lone (b.atR a (l.map Item.code ++ k)) cs w) (lone (b.atR a' (l'.map Item.code ++ k)) cs w'))
 (h:aG P Stop l' a' w'):aG P Stop l a w:=fun b k cs hb hf=>by
 obtain⟨l2,a2,w2,h1,h2⟩:=h b k cs hb hf
 exact⟨l2,a2,w2,h1,(hs b k cs hb hf).trans h2⟩
theorem aG.seq(h:aG P Stop (x :: y :: l) a w):aG P Stop (.seq x y :: l) a w:=.of_steps (fun _ _ _ _ hf=>.head (fenced_calm (n:=0) hf (bD _) rfl) stepR_seq (.refl _)) h
theorem aG.skip(h:aG P Stop l a w):aG P Stop (.skip :: l) a w:=.of_steps (fun _ _ _ _ hf=>.head (fenced_calm (n:=0) hf (bD _) rfl) stepR_skip (.refl _)) h
theorem aG.cond{c:Operand}{t:Bool}(hc:a.eval c=.bool t)(h:aG P Stop ((if t then x else y) :: l) a w):aG P Stop (.cond c x y :: l) a w:=.of_steps (fun _ _ _ _ hf=>.head (fenced_calm (n:=0) hf (bD _) rfl) (stepR_cond hc) (.refl _)) h
theorem aG.cond_true{c:Operand}(hc:a.eval c=.bool true)(h:aG P Stop (x :: l) a w):aG P Stop (.cond c x y :: l) a w:=.cond hc h
theorem aG.cond_false{c:Operand}(hc:a.eval c=.bool false)(h:aG P Stop (y :: l) a w):aG P Stop (.cond c x y :: l) a w:=.cond hc h
theorem aG.item(h:x.wpIn FF 0 P (Exit.then (aG P Stop l) fun _ _ _=>False) a w):aG P Stop (x :: l) a w:=fun b k cs hb hf=>by
 obtain⟨e,a1,w1,hq,hr⟩:=h b (l.map Item.code ++ k) cs hb hf (bD _)
 cases e <;> first|exact hq.elim|skip
 obtain⟨l2,a2,w2,h1,h2⟩:=hq b k cs hb hf
 exact⟨l2,a2,w2,h1,StepsIn.trans hr h2⟩
end
section
variable{P:Program}{ops:Array Oper}{Q:Exit→Act→World→Prop}{md:Region.Mode}{S:World→Prop}{E:List Nat}
def before(md:Region.Mode)(ops:Array Oper):Nat→Nat→Nat→Bool
 | 0,_,_=>false
 | n+1,L,i=>match ops[L]? with
   | some o=>o.after.any fun e=>Region.binds md e && (e.on == i || before md ops n e.on i)
   | none=>false
def wN(md:Region.Mode)(ops:Array Oper)(listed:Array Bool):Prop:=∀ (j:Nat) (o:Oper),ops[j]? =some o→listed.getD j false=true→∀e∈o.after,Region.binds md e=true→listed.getD e.on false=true
def EA(md:Region.Mode)(ops:Array Oper)(listed:Array Bool):Bool:=(List.range ops.size).all fun j=>!(listed.getD j false) || (match ops[j]? with|some o=>o.after.all fun e=>!(Region.binds md e) || listed.getD e.on false|none=>true)
theorem Ux{listed:Array Bool}(h:EA md ops listed=true):wN md ops listed:=fun j o ho hj e he hb=>by
 unfold EA at h
 have hj':j<ops.size:=by
  rcases Nat.lt_or_ge j ops.size with h'|h'
  ·exact h'
  ·rw[Array.getElem?_eq_none h'] at ho;cases ho
 have h1:=List.all_eq_true.1 h j (List.mem_range.2 hj')
 rw[hj,ho] at h1
 simp only[Bool.not_true,Bool.false_or] at h1
 obtain⟨k,hk,rfl⟩:=Array.mem_iff_getElem.1 he
 have h2:=Array.all_eq_true.1 h1 k hk
 rw[hb] at h2
 simpa using h2
theorem Mc{l:Array Bool}{i j:Nat}(h:l.getD j false=true):(l.setIfInBounds i true).getD j false=true:=by
 by_cases hj:i=j
 ·subst hj
  rcases Nat.lt_or_ge i l.size with h'|h'
  ·simp[h']
  ·simp[Array.getElem?_eq_none h'] at h
 ·rw[getD_set_ne false hj];exact h
theorem wN.set{listed:Array Bool}{j:Nat}(h:wN md ops listed)(hr:j∈Region.ready md ops listed):wN md ops (listed.setIfInBounds j true):=fun k o ho hk e he hb=>by
 obtain⟨_,oj,hoj,hall⟩:=mem_ready.1 hr
 by_cases hjk:j=k
 ·subst hjk
  rw[ho] at hoj
  obtain rfl:o=oj:=by simpa using hoj
  exact Mc (hall e he hb)
 ·rw[getD_set_ne false hjk] at hk
  exact Mc (h k o ho hk e he hb)
theorem nV{listed:Array Bool}{i:Nat}(hs:listed.size=ops.size)(hc:wN md ops listed)(hi:listed.getD i true=false):
 ∀ (n L:Nat),before md ops n L i=true→∃o,ops[L]? =some o∧∃e∈o.after,Region.binds md e=true∧listed.getD e.on false=false
 | 0,_,h=>by cases h
 | n+1,L,h=>by
   unfold before at h
   cases ho:ops[L]? with
   | none=>rw[ho] at h;cases h
   | some o=>
     rw[ho] at h
     obtain⟨k,hk,he⟩:=Array.any_eq_true.1 h
     simp only[Bool.and_eq_true,Bool.or_eq_true,beq_iff_eq] at he
     refine⟨o,rfl,_,Array.getElem_mem hk,he.1,?_⟩
     rcases he.2 with h1|h1
     ·rw[h1]
      rcases Nat.lt_or_ge i listed.size with h'|h'
      ·simp[h'] at hi⊢;exact hi
      ·simp[Array.getElem?_eq_none h']
     ·obtain⟨o',ho',e',he',hb',hl'⟩:=nV hs hc hi n _ h1
      have hlt:(o.after[k]).on<ops.size:=by
       rcases Nat.lt_or_ge (o.after[k]).on ops.size with h'|h'
       ·exact h'
       ·rw[Array.getElem?_eq_none h'] at ho';cases ho'
      cases hx:listed.getD (o.after[k]).on false with
      | false=>rfl
      | true=>
        have:=hc _ o' ho' hx e' he' hb'
        rw[this] at hl'
        cases hl'
theorem o9{listed:Array Bool}{n L i:Nat}(hs:listed.size=ops.size)(hc:wN md ops listed)(hi:listed.getD i true=false)(h:before md ops n L i=true):L∉Region.ready md ops listed:=fun hr=>by
 obtain⟨o,ho,e,he,hb,hl⟩:=nV hs hc hi n L h
 obtain⟨_,o',ho',hall⟩:=mem_ready.1 hr
 rw[ho] at ho'
 obtain rfl:o=o':=by simpa using ho'
 have:=hall e he hb
 rw[this] at hl
 cases hl
end
section
variable{F:Fence}{n0:Nat}{P:Program}{ops:Array Oper}{Q:Exit→Act→World→Prop}{md:Region.Mode}{S:World→Prop}{E:List Nat}
def dM(F:Fence)(n0:Nat)(P:Program)(md:Region.Mode)(ops:Array Oper)(Q:Exit→Act→World→Prop)(S:World→Prop)(E:List Nat):Nat→Array Bool→Act→World→Prop
 | 0,listed,a,w=>Region.ready md ops listed=[]∧Q .normal a w
 | fuel+1,listed,a,w=>
   (Region.ready md ops listed=[]→Q .normal a w)∧
   ∀i∈Region.ready md ops listed,wpOpIn F n0 P ops Q i (fun a' w'=>(i∉E→S w')∧dM F n0 P md ops Q S E fuel (listed.setIfInBounds i true) a' w') a w
theorem sV:∀ (fuel:Nat) (listed:Array Bool) (a:Act) (w:World),dM F n0 P md ops Q S E fuel listed a w→wpAnyIn F n0 P md ops Q fuel listed a w
 | 0,_,_,_,h=>h
 | fuel+1,_,_,_,h=>⟨h.1,fun i hi=>wpOpIn_mono (fun a' w' h'=>sV fuel _ a' w' h'.2) (h.2 i hi)⟩
theorem Am{i n:Nat}{oi:Oper}{v:Value}(hro:F.round=none)(hi:ops[i]? =some oi)(hsel:∀ (j:Nat) (o:Oper) cs b,ops[j]? =some o→o.op≠.select cs b)
 (hQ:∀c a w,Q (.panic c) (a.put oi.dst v) w→Q (.panic c) a w)(hL:∀L∈E,before md ops n L i=true):
 ∀ (fuel:Nat) (listed:Array Bool) (a:Act) (w:World),listed.size=ops.size→wN md ops listed→
   (∀j oj,ops[j]? =some oj→j≠i→listed.getD j true=false→(∀e∈oj.after,Region.binds md e=true→e.on≠i)→oi.apart ops oj=true)→
   i∈Region.ready md ops listed→bC P ops S oi v a→S w→
   dM F n0 P md ops Q S E fuel (listed.setIfInBounds i true) (a.put oi.dst v) w→dM F n0 P md ops Q S E (fuel+1) listed a w:=by
 intro fuel
 induction fuel with
 | zero=>
   intro listed a w _ _ _ hr hy hS H
   refine⟨fun h=>(by rw[h] at hr;cases hr),fun j hj=>?_⟩
   by_cases hji:j=i
   ·subst hji;exact hy.wpOpIn hro hi hS ⟨fun _=>hS,H⟩
   ·have:=ready_mono hj hji
    rw[H.1] at this
    cases this
 | succ fuel ih=>
   intro listed a w hsz hcl hfree hr hy hS H
   refine⟨fun h=>(by rw[h] at hr;cases hr),fun j hj=>?_⟩
   by_cases hji:j=i
   ·subst hji;exact hy.wpOpIn hro hi hS ⟨fun _=>hS,H⟩
   ·have KB:j∉E:=fun e=>o9 hsz hcl (mem_ready.1 hr).1 (hL j e) hj
    have h1:=H.2 j (ready_mono hj hji)
    obtain⟨hjun,oj,hoj,hall⟩:=mem_ready.1 hj
    have hnot:∀e∈oj.after,Region.binds md e=true→e.on≠i:=fun e he hb heq=>by
     have h1:=hall e he hb
     have h0:=(mem_ready.1 hr).1
     rw[heq] at h1
     rcases Nat.lt_or_ge i listed.size with h'|h'
     ·simp[h'] at h0 h1;rw[h0] at h1;cases h1
     ·simp[Array.getElem?_eq_none h'] at h1
    have h2:=ny hro hoj (hfree j oj hoj hji hjun hnot) (fun cs b=>hsel i oi cs b hi) (fun cs b=>hsel j oj cs b hoj) hQ hy h1
    have hfree':∀k ok,ops[k]? =some ok→k≠i→(listed.setIfInBounds j true).getD k true=false→
     (∀e∈ok.after,Region.binds md e=true→e.on≠i)→oi.apart ops ok=true:=fun k ok hk hki hun hno=>by
     refine hfree k ok hk hki ?_ hno
     by_cases hjk:j=k
     ·subst hjk;exact hjun
     ·rw[getD_set_ne true hjk] at hun;exact hun
    refine wpOpIn_mono (fun a' w' h3=>⟨h3.2.1,ih (listed.setIfInBounds j true) a' w' (by simp[hsz]) (hcl.set hj) hfree' (ready_mono hr (Ne.symm hji)) h3.1 (h3.2.1 KB) ?_⟩) h2
    rw[Array.setIfInBounds_comm _ _ hji]
    exact h3.2.2
theorem BF{i:Nat}(d:Option Tmp){oi:Oper}{v:Value}{fuel:Nat}{listed:Array Bool}{a:Act}{w:World}(hro:F.round=none)(hi:ops[i]? =some oi)
 (hc:(Region.noSelect ops && Region.free md ops listed i && (Region.ready md ops listed).contains i && E.all (fun L=>before md ops 8 L i) && (listed.size == ops.size) && EA md ops listed)=true)(hd:oi.dst=d)
 (hQ:∀c a w,Q (.panic c) (a.put d v) w→Q (.panic c) a w)(hy:bC P ops S oi v a)(hS:S w)
 (h:dM F n0 P md ops Q S E fuel (listed.setIfInBounds i true) (a.put d v) w):dM F n0 P md ops Q S E (fuel+1) listed a w:=by
 subst hd
 simp only[Bool.and_eq_true,beq_iff_eq,List.all_eq_true] at hc
 obtain⟨⟨⟨⟨⟨h1,h2⟩,h3⟩,h4⟩,h5⟩,h6⟩:=hc
 exact Am hro hi (Region.noSelect_spec h1) hQ h4 fuel listed a w h5 (Ux h6) (Region.free_spec hi h2) (by simpa using h3) hy hS h
theorem IZ{i:Nat}(d:Option Tmp){oi:Oper}{v:Value}{fuel:Nat}{listed:Array Bool}{a:Act}{w:World}(hS:S w)(h:dM F n0 P md ops Q S E fuel (listed.setIfInBounds i true) (a.put d v) w)
 (hro:F.round=none:=by exact rfl)(hi:ops[i]? =some oi:=by exact rfl)
 (hc:(Region.noSelect ops && Region.free md ops listed i && (Region.ready md ops listed).contains i && E.all (fun L=>before md ops 8 L i) && (listed.size == ops.size) && EA md ops listed)=true:=by kernel_rfl)(hd:oi.dst=d:=by rfl)
 (hQ:∀c a w,Q (.panic c) (a.put d v) w→Q (.panic c) a w:=by exact fun _ _ _ h=>h)(hy:bC P ops S oi v a:=by exact⟨Or.inl ⟨zr,by intro wq re;(try dsimp only at re);go_simp;all_goals with_reducible rfl⟩,fun _=>rfl⟩):dM F n0 P md ops Q S E (fuel+1) listed a w:=
 BF d hro hi hc hd hQ hy hS h
theorem uq(i:Nat){o:Oper}{fuel:Nat}{listed:Array Bool}{a:Act}{w:World}
 (h:∀K':Act→World→Prop,Shut (∀a w,(i∉E→S w)→dM F n0 P md ops Q S E fuel (listed.setIfInBounds i true) a w→K' a w)→if Region.wanted o (yielded ops a.tmps)=true then Oper.wpIn F n0 P o a w K' Q else(∀f,o.about P w a.eval=some f→F.fn f)∧K' (a.put o.dst undef) w)(hr:Region.ready md ops listed=[i]:=by kernel_rfl)(ho:ops[i]? =some o:=by exact rfl):
 dM F n0 P md ops Q S E (fuel+1) listed a w:=by
 refine⟨(fun h0=>by rw[hr] at h0;cases h0),fun j hj=>?_⟩
 rw[hr] at hj
 obtain rfl:j=i:=by simpa using hj
 exact wpOpIn_step ho fun K' hK=>h K' fun a w hS hW=>hK a w ⟨hS,hW⟩
theorem sU{i i':Nat}{o o':Oper}{fuel:Nat}{listed:Array Bool}{a:Act}{w:World}(hr:Region.ready md ops listed=[i,i'])(ho:ops[i]? =some o)(ho':ops[i']? =some o')
 (h:∀K':Act→World→Prop,Shut (∀a w,(i∉E→S w)→dM F n0 P md ops Q S E fuel (listed.setIfInBounds i true) a w→K' a w)→if Region.wanted o (yielded ops a.tmps)=true then Oper.wpIn F n0 P o a w K' Q else(∀f,o.about P w a.eval=some f→F.fn f)∧K' (a.put o.dst undef) w)
 (h':∀K':Act→World→Prop,Shut (∀a w,(i'∉E→S w)→dM F n0 P md ops Q S E fuel (listed.setIfInBounds i' true) a w→K' a w)→if Region.wanted o' (yielded ops a.tmps)=true then Oper.wpIn F n0 P o' a w K' Q else(∀f,o'.about P w a.eval=some f→F.fn f)∧K' (a.put o'.dst undef) w):
 dM F n0 P md ops Q S E (fuel+1) listed a w:=by
 refine⟨(fun h0=>by rw[hr] at h0;cases h0),fun j hj=>?_⟩
 rw[hr] at hj
 simp only[List.mem_cons,List.not_mem_nil,or_false] at hj
 rcases hj with rfl|rfl
 ·exact wpOpIn_step ho fun K' hK=>h K' fun a w hS hW=>hK a w ⟨hS,hW⟩
 ·exact wpOpIn_step ho' fun K' hK=>h' K' fun a w hS hW=>hK a w ⟨hS,hW⟩
theorem lI{listed:Array Bool}{a:Act}{w:World}(hr:Region.ready md ops listed=[])(h:Q .normal a w):∀fuel,dM F n0 P md ops Q S E fuel listed a w
 | 0=>⟨hr,h⟩
 | _+1=>⟨fun _=>h,by rw[hr];simp⟩
theorem BH{id:Nat}{a:Act}{w:World}(E:List Nat)(S:World→Prop)(hm:P.follows .mixedOrders=true)
 (h:dM F n0 P .any ops Q S E ops.size (Array.replicate ops.size false) a w.drew):(Code.region id ops true).wpIn F n0 P Q a w:=
 wpIn_region_any hm (sV _ _ _ _ h)
end
end
section
open Go.RowKit
def Mv.flat(x:Mv):List Value:=[int i64 x.kind,int i64 x.good,int i64 x.day,int i64 x.lo,int i64 x.hi]
theorem Mv.Ow(x:Mv){j:Nat}(h:j<5):x.flat[j]? =some (x.cell j):=by
 match j,h with
 | 0,_=>rfl
 | 1,_=>rfl
 | 2,_=>rfl
 | 3,_=>rfl
 | 4,_=>rfl
theorem Ma{m:Nat→Mv}:∀ (l:List Nat) (j i:Nat),j<l.length→i<5→(l.flatMap fun i=>(m i).flat)[j * 5+i]? =some ((m (l.getD j 0)).cell i)
 | [],_,_,h,_=>by cases h
 | a :: l,0,i,_,hi=>by
   rw[List.flatMap_cons,List.getElem?_append_left (by simp[Mv.flat];omega)]
   simpa using (m a).Ow hi
 | a :: l,j+1,i,h,hi=>by
   have h':j<l.length:=by simpa using h
   rw[List.flatMap_cons,List.getElem?_append_right (by simp[Mv.flat];omega)]
   have e:(j+1) * 5+i - (m a).flat.length=j * 5+i:=by simp[Mv.flat];omega
   rw[e,Ma l j i h' hi]
   simp
structure dG(b:Bk)(l2 l3:List Int)(X:Nat)(wx wl:World)(vB vM mv:Value)(k1 k2:Nat):Prop where
 box:Whole wl X 26 #[int i64 b.days,int i64 b.most,.slice b.gA b.ng b.gc,vB,.slice none 0 0]
 rM:wl.ownsRow (X+1) 41 5 vM (kept l3 k1).length ((kept l3 k1).flatMap fun i=>(b.m i).flat)
 rI:wl.ownsRow (X+1) 3 1 mv (kept l3 k2).length ((bg l2 l3 k2).map (int i64))
 d:∀g,vM.ownBlock=some g→mv.ownBlock≠some g
 below:Below X wx wl
section
variable{b:Bk}{l2 l3:List Int}{X:Nat}{wx wl w':World}{vB vM mv:Value}{k k1 k2 gg cap:Nat}
theorem dG.alloc(h:dG b l2 l3 X wx wl vB vM mv k1 k2)(o:Obj):dG b l2 l3 X wx (wl.alloc o) vB vM mv k1 k2:=
 ⟨h.box.alloc o,aL h.rM o,aL h.rI o,h.d,h.below.alloc (Nat.le_of_lt h.box.lt) o⟩
theorem dG.drew(h:dG b l2 l3 X wx wl vB vM mv k1 k2):dG b l2 l3 X wx wl.drew vB vM mv k1 k2:=⟨h.box,h.rM,h.rI,h.d,dH h.below⟩
theorem dG.tS(h:dG b l2 l3 X wx wl vB vM mv k1 k2){g:Nat}(e:vM.ownBlock=some g):X<g∧g<wl.heap.size:=by have:=bG h.rM e;omega
theorem dG.N'(h:dG b l2 l3 X wx wl vB vM mv k1 k2){g:Nat}(e:mv.ownBlock=some g):X<g∧g<wl.heap.size:=by have:=bG h.rI e;omega
theorem dG.start(b:Bk)(l2 l3:List Int){X:Nat}{w1 wx:World}(hb:Below X w1 wx)(iW:Whole wx X 26 #[int i64 b.days,int i64 b.most,.slice b.gA b.ng b.gc,.slice none 0 0,.slice none 0 0]):
 dG b l2 l3 X w1 wx (.slice none 0 0) (.slice none 0 0) (.slice none 0 0) 0 0:=
 ⟨iW,⟨by simp[kept],.inl ⟨rfl,by simp[kept]⟩⟩,⟨by simp[kept,bg],.inl ⟨rfl,by simp[kept]⟩⟩,fun g e=>(by cases e),hb⟩
theorem dG.skip(h:dG b l2 l3 X wx wl vB vM mv k k)(hk:(k:Int)∈l3):dG b l2 l3 X wx wl vB vM mv (k+1) (k+1):=by
 have e:kept l3 (k+1)=kept l3 k:=by rw[ug,if_pos hk]
 exact⟨h.box,by rw[e];exact h.rM,by rw[e,bg,e];exact h.rI,h.d,h.below⟩
theorem dG.Sn(h:dG b l2 l3 X wx wl vB vM mv k k2)(hk:¬ (k:Int)∈l3)(hg:wl.grownBy w' vM.ownBlock)(hat:vM.ownBlock=some gg∨gg=wl.heap.size)
 (hown:w'.ownsRow (X+1) 41 5 (.slice (some ⟨gg,0,none⟩) ((kept l3 k).length+1) cap) ((kept l3 k).length+1) (((kept l3 k).flatMap fun i=>(b.m i).flat) ++ (b.m k).flat)):
 dG b l2 l3 X wx w' vB (.slice (some ⟨gg,0,none⟩) ((kept l3 k).length+1) cap) mv (k+1) k2:=by
 have hX:=h.box.lt
 refine⟨h.box.grown hg fun e=>?_,?_,iF h.rI hg fun g he e=>h.d g e.symm he,fun g e e'=>?_,h.below.grown hg zo fun g e=>by have:=h.tS e;omega⟩
 ·have:=h.tS e.symm;omega
 ·rw[ug,if_neg hk]
  simpa using hown
 ·have e:gg=g:=by simpa [Value.ownBlock] using e
  subst e
  rcases hat with h1|h1
  ·exact h.d _ h1 e'
  ·have:=h.N' e';omega
theorem dG.Sm(h:dG b l2 l3 X wx wl vB vM mv k1 k)(hk:¬ (k:Int)∈l3)(hg:wl.grownBy w' mv.ownBlock)(hat:mv.ownBlock=some gg∨gg=wl.heap.size)
 (hown:w'.ownsRow (X+1) 3 1 (.slice (some ⟨gg,0,none⟩) ((kept l3 k).length+1) cap) ((kept l3 k).length+1) (((bg l2 l3 k).map (int i64)) ++ [int i64 (l2.getD k 0)])):
 dG b l2 l3 X wx w' vB vM (.slice (some ⟨gg,0,none⟩) ((kept l3 k).length+1) cap) k1 (k+1):=by
 have hX:=h.box.lt
 refine⟨h.box.grown hg fun e=>?_,iF h.rM hg fun g he e=>h.d g he e.symm,?_,fun g e e'=>?_,h.below.grown hg zo fun g e=>by have:=h.N' e;omega⟩
 ·have:=h.N' e.symm;omega
 ·rw[bg,ug,if_neg hk]
  simpa [bg] using hown
 ·have e':gg=g:=by simpa [Value.ownBlock] using e'
  subst e'
  rcases hat with h1|h1
  ·exact h.d _ e h1
  ·have:=h.tS e;omega
theorem dG.store(h:dG b l2 l3 X wx wl vB vM mv k1 k2):dG b l2 l3 X wx (wl.setCell ⟨X,3,none⟩ vM) vM vM mv k1 k2:=
 ⟨by simpa using h.box.set 3 vM,eB h.rM (by show X<X+1;omega) _,eB h.rI (by show X<X+1;omega) _,h.d,h.below.setCell (by show X≤X;omega) _⟩
theorem dG.at_(h:dG b l2 l3 X wx wl vB vM mv b.nm k2)(hb:b.At wx X):∃A c,vM=.slice A (kept l3 b.nm).length c∧(b.without l3 A c).At wl wl.heap.size:=by
 obtain⟨A,c,e⟩:=dD h.rM
 refine⟨A,c,e,?_⟩
 have hX:=h.box.lt
 have hw:=(hb.below h.below).more (Nat.le_of_lt hX)
 refine⟨hw.g,fun hn=>?_,fun hn=>absurd hn (Nat.lt_irrefl 0),hw.ng,Nat.le_trans (nS _ _) hw.nm,Nat.zero_le _,hw.name⟩
 have hn':0<(kept l3 b.nm).length:=hn
 obtain⟨g,cap,hv,_,hlt⟩:=h.rM.form hn'
 have hA:A=some ⟨g,0,none⟩:=by rw[e] at hv;injection hv
 refine⟨⟨g,0,none⟩,hA,hlt,fun i j hi hj=>?_⟩
 refine h.rM.cells (g:=g) (by rw[e,hA];rfl) (i * 5+j) _ ?_
 exact Ma (kept l3 b.nm) i j hi hj
theorem dG.many(h:dG b l2 l3 X wx wl vB vM mv k1 k):∃A c,mv=.slice A (bg l2 l3 k).length c∧Ints wl wl.heap.size A (bg l2 l3 k).length (fun i=>(bg l2 l3 k).getD i 0):=by
 have hr:wl.ownsRow (X+1) 3 1 mv (bg l2 l3 k).length ((bg l2 l3 k).map (int i64)):=by have:=h.rI;simpa [bg] using this
 obtain⟨A,c,e⟩:=dD hr
 subst e
 refine⟨A,c,rfl,fun hn=>?_⟩
 obtain⟨g,cap,hv,_,hlt⟩:=hr.form hn
 have hA:A=some ⟨g,0,none⟩:=by injection hv
 subst hA
 refine⟨_,rfl,hlt,fun i j hi hj=>?_⟩
 obtain rfl:j=0:=zo
 have:=hr.cells (g:=g) rfl i (int i64 ((bg l2 l3 k).getD i 0)) (by simp[hi])
 simpa [Addr.add] using this
end
def oH:Code→Option Code
 | .cond _ x _=>some x
 | .seq a b=>(oH a).orElse fun _=>oH b
 | _=>none
def lastOf:Code→Code
 | .seq a .ret=>.seq a .ret
 | .seq _ b=>lastOf b
 | c=>c
noncomputable def TG:Code:=(oH (Tryz.f3.body.getD .skip)).getD .skip
noncomputable def Kg:Code:=lastOf (Tryz.f3.body.getD .skip)
structure ZB(a:Act)(w:World)(ng G:Nat)(left low first:Nat→Int)(B1 B2 E1 E2 F1:Option Addr)(r1 r2 t1 t2 p1 nf P:Nat):Prop where
 hG:G<ng
 ng3:ng≤3
 size:a.tmps.size=202
 defers:a.defers=[]
 aam:a.tmps.getD 10 undef=.slice B1 ng r1
 aaT:a.tmps.getD 11 undef=.slice B2 ng r2
 VV:a.tmps.getD 20 undef=.slice E1 ng t1
 NX:a.tmps.getD 21 undef=.slice E2 ng t2
 s1_:a.tmps.getD 22 undef=int i64 0
 g_:a.tmps.getD 13 undef=int i64 G
 n_:a.tmps.getD 14 undef=int i64 (left G)
 p_:a.tmps.getD 9 undef=.pointer (some ⟨P,0,none⟩)
 box:w.cell? ⟨P,0,none⟩=some (.slice F1 nf p1)
 hnf:G<nf
 wC:Ints w w.heap.size F1 nf first
 xQ:Ints w w.heap.size B1 ng left
 Gt:Ints w w.heap.size B2 ng low
 J8:Ints w w.heap.size E1 ng left
 Ef:Ints w w.heap.size E2 ng low
 AK:low G≤left G
 AM:low G≤first G
def wM(b:Bk)(l1 l2 l3:List Int)(w:World)(e:Ending)(w':World):Prop:=∃A p A' p',e=.returned (.tuple #[.slice A b.ng p,.slice A' b.ng p',int i64 0])∧
 Ints w' w'.heap.size A b.ng (fun i=>jM b l1 l2 l3 i)∧Ints w' w'.heap.size A' b.ng (fun i=>pR b l1 l2 l3 i)∧Below w.heap.size w w'
def LK:Prop:=∀ (b:Bk) (l1 l2 l3:List Int) (w:World),b.Ok→b.ng≤b.gc→nL b l1 l2 l3→b.At w w.heap.size→∀ (A1 A2 A3:Option Addr) (p1 p2 p3:Nat),
 Ints w w.heap.size A1 l1.length (fun i=>l1.getD i 0)→Ints w w.heap.size A2 l2.length (fun i=>l2.getD i 0)→Ints w w.heap.size A3 l3.length (fun i=>l3.getD i 0)→
 CallsIn FF 0 prog 7 #[b.val,.slice A1 l1.length p1,.slice A2 l2.length p2,.slice A3 l3.length p3] w (wM b l1 l2 l3 w)
theorem aT{w:World}{base:Nat}{e:TypeId}{A:Option Addr}{c:Nat}{l:List Int}(h:w.ownsRow base e 1 (.slice A l.length c) l.length (l.map (int i64))):Ints w w.heap.size A l.length (fun i=>l.getD i 0):=fun hn=>by
 obtain⟨g,cap,hv,_,hlt⟩:=h.form hn
 have hA:A=some ⟨g,0,none⟩:=by injection hv
 subst hA
 refine⟨_,rfl,hlt,fun i j hi hj=>?_⟩
 obtain rfl:j=0:=zo
 have:=h.cells (g:=g) rfl i (int i64 (l.getD i 0)) (by simp[hi])
 simpa [Addr.add] using this
theorem Tryz.infoM:(Tryz.prog.info? 41).map (fun i=>(i.zero,i.size,i.bytes))=some (some (.agg #[int i64 0,int i64 0,int i64 0,int i64 0,int i64 0]),5,40):=zk
section
variable{days most:Int}{gA mA cA:Option Addr}{ng gc nm mc nc cc:Nat}{g:Nat→Good}{m:Nat→Mv}{c:Nat→Ct}
end
end
end Go.Proofs.YtmjjocnfidnelaaGreat
