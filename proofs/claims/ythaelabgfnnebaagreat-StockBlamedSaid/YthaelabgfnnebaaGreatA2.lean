/- S5 Reg RegIn S6 S7 P1 P2 P3 -/
import Derived.Test.YthaelabgfnnebaaGreatA1
import Derived.OrdersHeld
import Derived.Deep.RegionHeld
import Derived.OrdersIn
import Derived.Deep.AppendLies
import Derived.Deep.RegionHeld3
import Derived.Deep.DrawnRows
import Derived.OwnWalk
set_option maxRecDepth 100000
set_option maxHeartbeats 16000000
set_option linter.unusedVariables false
set_option linter.unusedSectionVars false
open Go.IntKind(i64)
open Go.Lib(hid)
open Go.Proofs.Tryz
open Go.Value(int)
namespace Go.Proofs.YthaelabgfnnebaaGreat
section
open Go.RowKit
def E8(Q:Bool→Prop)(w:World)(e:Ending)(w':World):Prop:=∃t:Bool,e=.returned (.bool t)∧Q t∧Below w.heap.size w w'
section
variable{days most:Int}{gA mA cA:Option Addr}{ng gc nm mc nc cc:Nat}{g:Nat→Good}{m:Nat→Mv}{c:Nat→Ct}
theorem Oa(w:World)(h:(⟨days,most,gA,ng,gc,g,mA,nm,mc,m,cA,nc,cc,c⟩:Bk).At w w.heap.size):CallsIn FF 0 prog 22 #[.agg #[int i64 days,int i64 most,.slice gA ng gc,.slice mA nm mc,.slice cA nc cc]] w (E8 (fun _=>True) w):=by
 have Hh:=hid h
 have h1:=h.ng
 have h2:=h.nm
 have h3:=h.nc
 simp only at h1 h2 h3
 unfold maxLen at h1 h2 h3
 clear h
 gi_enter func22,ntmps22
 gi_wp2
 ·go_ret
  exact⟨true,rfl,trivial,bw⟩
 ·go_ret
  exact⟨true,rfl,trivial,bw⟩
 ·go_ret
  exact⟨true,rfl,trivial,bw⟩
 gi_loop [3] (fun i=>∃k:Nat,k≤ng∧i=int i64 k) (fun i=>ng - (intOf i).toNat)
 case atStart=>exact⟨0,Nat.zero_le _,rfl⟩
 case round=>
  obtain⟨k,hk,rfl⟩:=hrel
  by_cases hlt:k<ng
  ·obtain⟨ad,hA,hblk,hc⟩:=Hh.out.g (show 0<ng by omega)
   simp only at hA hc
   subst hA
   have hr:=(Hh.out.g.alloc (Nat.le_refl _) (.cells #[int i64 days,int i64 most,.slice (some ad) ng gc,.slice mA nm mc,.slice cA nc cc] 26)).row hlt
   have c0:(w.alloc (.cells #[int i64 days,int i64 most,.slice (some ad) ng gc,.slice mA nm mc,.slice cA nc cc] 26)).cell? (ad.add (k * 5))=some (.string (g k).name):=hr.2 0 zD
   have hnm:(g k).name.size≤maxLen:=Hh.out.name k hlt
   unfold maxLen at hnm
   clear hr hc
   gi_wp2
   ·go_ret
    exact⟨true,rfl,trivial,bw⟩
   ·go_round
    case rel=>exact⟨k+1,zo,by go_num⟩
    case measure=>simp[intOf];omega
  ·gi_wp2
   go_ret
   exact⟨false,rfl,trivial,bw⟩
theorem VZ(w:World)(h:(⟨days,most,gA,ng,gc,g,mA,nm,mc,m,cA,nc,cc,c⟩:Bk).At w w.heap.size)(hd:-9223372036854775808≤days∧days≤9223372036854775807):CallsIn FF 0 prog 23 #[.agg #[int i64 days,int i64 most,.slice gA ng gc,.slice mA nm mc,.slice cA nc cc]] w (gI (Bk.Ok ⟨days,most,gA,ng,gc,g,mA,nm,mc,m,cA,nc,cc,c⟩) w):=Nv _ w h hd
theorem Wu(w:World)(h:(⟨days,most,gA,ng,gc,g,mA,nm,mc,m,cA,nc,cc,c⟩:Bk).At w w.heap.size)(hd:-9223372036854775808≤days∧days≤9223372036854775807):CallsIn FF 0 prog 7 #[.agg #[int i64 days,int i64 most,.slice gA ng gc,.slice mA nm mc,.slice cA nc cc]] w
 (E8 (fun t=>t=true→Bk.Ok ⟨days,most,gA,ng,gc,g,mA,nm,mc,m,cA,nc,cc,c⟩) w):=by
 have Hh:=hid h
 clear h
 gi_enter func7,ntmps7
 gi_wp2_with (first
  | (gi_at_call 22;refine(Oa _ ((Hh.out.alloc (Nat.le_refl _) _).more zs)).mono ?_;rintro e w1 ⟨t1,rfl,_,hb1⟩;obtain⟨hc1,hf1⟩:=fF hb1;have hs1:=hb1.size;have H1:=hid (((Hh.out.alloc (Nat.le_refl _) _).more zs).below hb1 |>.more hs1);simp at hs1;have hlt1:w.heap.size<w1.heap.size:=hs1)
  | (gi_at_call 23;refine(VZ _ H1.out hd).mono ?_;rintro e w2 ⟨l2,rfl,hl2,hb2⟩;have L2:=hid hl2;clear hl2))
 ·go_ret
  exact⟨_,rfl,(fun h=>L2.out (by simpa using h)),(((Below.refl _ _).alloc (Nat.le_refl _) _).trans (hb1.mono zs)).trans (hb2.mono zo)⟩
 ·go_ret
  exact⟨_,rfl,(fun h=>by cases h),(((Below.refl _ _).alloc (Nat.le_refl _) _).trans (hb1.mono zs))⟩
end
def Ints(w:World)(B:Nat)(A:Option Addr)(n:Nat)(xs:Nat→Int):Prop:=Rows w B 1 A n (fun i _=>int i64 (xs i))
theorem Ints.at_{w:World}{B n:Nat}{ad:Addr}{xs:Nat→Int}(h:Ints w B (some ad) n xs){k:Nat}(hk:k<n):w.cell? (ad.add k)=some (int i64 (xs k)):=by
 have:=(Rows.row h hk).2 0 zD
 rwa[Nat.mul_one,add_zero'] at this
def hasB(n:Nat)(xs:Nat→Int)(v:Int):Bool:=decide (∃i,i<n∧xs i=v)
theorem LQ(A:Option Addr)(n cap:Nat)(xs:Nat→Int)(v:Int)(B:Nat)(w:World)(h:Ints w B A n xs)(hn:n≤maxLen):
 CallsIn FF 0 prog 16 #[.slice A n cap,int i64 v] w fun e w'=>e=.returned (.bool (hasB n xs v))∧w=w':=by
 have Hh:=hid h
 clear h
 unfold maxLen at hn
 gi_enter func16,ntmps16
 gi_wp2
 gi_loop [5] (fun i=>∃k:Nat,k≤n∧i=int i64 k∧Hid (∀j,j<k→xs j≠v)) (fun i=>n - (intOf i).toNat)
 case atStart=>exact⟨0,Nat.zero_le _,rfl,hid (fun j hj=>absurd hj (Nat.not_lt_zero j))⟩
 case round=>
  obtain⟨k,hk,rfl,hN⟩:=hrel
  by_cases hlt:k<n
  ·obtain⟨ad,hA,-⟩:=Hh.out (show 0<n by omega)
   subst hA
   have c0:=Ints.at_ Hh.out hlt
   gi_wp2
   ·have he':(xs k == v)=true:=zt
    have he:xs k=v:=by simpa using he'
    go_ret
    exact⟨by rw[show hasB n xs v=true from decide_eq_true ⟨k,hlt,he⟩];rfl,rfl⟩
   ·have he':(xs k == v)=false:=zt
    have he:¬ xs k=v:=by simpa using he'
    go_round
    case rel=>exact⟨k+1,zo,by go_num,hid (eG hN.out he)⟩
    case measure=>simp[intOf];omega
  ·obtain rfl:k=n:=zo
   gi_wp2
   go_ret
   exact⟨by rw[show hasB k xs v=false from decide_eq_false (fun⟨i,hi,e⟩=>hN.out i hi e)];rfl,rfl⟩
theorem TS(A A':Option Addr)(n cap cap':Nat)(xs:Nat→Int)(B:Nat)(w:World)(h:Ints w B A n xs)(h':Ints w B A' n xs)(hn:n≤maxLen):
 CallsIn FF 0 prog 68 #[.slice A n cap,.slice A' n cap'] w fun e w'=>e=.returned (.bool true)∧∃q,w'=w.drewN q:=by
 have Hh:=hid h
 have na:=hid h'
 clear h h'
 unfold maxLen at hn
 gi_enter func68,ntmps68
 gi_wp2
 gi_loopw [5] (fun i wr=>∃k q:Nat,k≤n∧i=int i64 k∧wr=w.drewN q) (fun i _=>n - (intOf i).toNat)
 case atStart=>exact⟨0,0,Nat.zero_le _,rfl,rfl⟩
 case round=>
  obtain⟨k,q,hk,rfl,rfl⟩:=hrel
  by_cases hlt:k<n
  ·obtain⟨ad,hA,-⟩:=Hh.out (show 0<n by omega)
   obtain⟨B5,hA',-⟩:=na.out (show 0<n by omega)
   subst hA
   subst hA'
   have c0:=Ints.at_ Hh.out hlt
   have c0':=Ints.at_ na.out hlt
   gi_wp2
   gi_quiet (fail)
   gi_wp2
   go_roundw
   case rel=>exact⟨k+1,_,zo,by go_num,rfl⟩
   case measure=>simp[intOf];omega
  ·obtain rfl:k=n:=zo
   gi_wp2
   go_ret
   exact⟨rfl,q,rfl⟩
def Lists(w:World)(B:Nat)(A:Option Addr)(n:Nat)(P:Nat→Option Addr)(len cap:Nat→Nat):Prop:=Rows w B 1 A n (fun i _=>.slice (P i) (len i) (cap i))
theorem Lists.at_{w:World}{B n:Nat}{ad:Addr}{P:Nat→Option Addr}{len cap:Nat→Nat}(h:Lists w B (some ad) n P len cap){k:Nat}(hk:k<n):w.cell? (ad.add k)=some (.slice (P k) (len k) (cap k)):=by
 have:=(Rows.row h hk).2 0 zD
 rwa[Nat.mul_one,add_zero'] at this
theorem OT(A A':Option Addr)(n cap cap':Nat)(P P':Nat→Option Addr)(len c1 c2:Nat→Nat)(xs:Nat→Nat→Int)(B:Nat)(w:World)(h:Lists w B A n P len c1)(h':Lists w B A' n P' len c2)(hn:n≤maxLen)
 (hx:∀i,i<n→Ints w B (P i) (len i) (xs i))(hx':∀i,i<n→Ints w B (P' i) (len i) (xs i))(hl:∀i,i<n→len i≤maxLen):
 CallsIn FF 0 prog 32 #[.slice A n cap,.slice A' n cap'] w fun e w'=>e=.returned (.bool true)∧∃q,w'=w.drewN q:=by
 have Hh:=hid h
 have na:=hid h'
 have Hx:=hid hx
 have Hx':=hid hx'
 have Hl:=hid hl
 clear h h' hx hx' hl
 unfold maxLen at hn
 gi_enter func32,ntmps32
 gi_wp2
 gi_loopw [5] (fun i wr=>∃k:Nat,k≤n∧i=int i64 k∧Hid (∃q,wr=w.drewN q)) (fun i _=>n - (intOf i).toNat)
 case atStart=>exact⟨0,Nat.zero_le _,rfl,hid ⟨0,rfl⟩⟩
 case round=>
  obtain⟨k,hk,rfl,hq⟩:=hrel
  have hcl:∀p,wr.cell? p=w.cell? p:=fun p=>by obtain⟨q,rfl⟩:=hq.out;rfl
  by_cases hlt:k<n
  ·obtain⟨ad,hA,-⟩:=Hh.out (show 0<n by omega)
   obtain⟨B5,hA',-⟩:=na.out (show 0<n by omega)
   subst hA
   subst hA'
   have c0:=(hcl _).trans (Lists.at_ Hh.out hlt)
   have c0':=(hcl _).trans (Lists.at_ na.out hlt)
   have hS:∀q2,CallsIn FF 0 prog 68 #[.slice (P k) (len k) (c1 k),.slice (P' k) (len k) (c2 k)] (wr.drewN q2) fun e w2=>e=.returned (.bool true)∧∃m,w2=(wr.drewN q2).drewN m:=fun q2=>
    TS _ _ _ _ _ _ B _ ((Hx.out k hlt).keep fun p _=>hcl p) ((Hx'.out k hlt).keep fun p _=>hcl p) (Hl.out k hlt)
   clear hcl
   gi_wp2
   gi_quiet ((gi_at_call 68;exact CallsIn.quiet_of (hS _)))
   gi_wp2
   go_roundw
   case rel=>exact⟨k+1,zo,by go_num,hid (by obtain⟨q,rfl⟩:=hq.out;exact⟨_,World.drewN_drewN _ _ _⟩)⟩
   case measure=>simp[intOf];omega
  ·obtain rfl:k=n:=zo
   gi_wp2
   go_ret
   exact⟨rfl,hq.out⟩
end
section
open Go
section
variable{P:Program}{ops:Array Oper}{Q:Exit→Act→World→Prop}{md:Region.Mode}{S:World→Prop}{L:Nat}
def waits(md:Region.Mode)(ops:Array Oper)(L i:Nat):Bool:=match ops[L]? with
 | some o=>o.after.any fun e=>Region.binds md e && e.on == i
 | none=>false
theorem qH{i:Nat}{listed:Array Bool}(h:waits md ops L i=true)(hi:listed.getD i true=false):L∉Region.ready md ops listed:=fun hr=>by
 obtain⟨_,o,ho,hall⟩:=mem_ready.1 hr
 unfold waits at h
 rw[ho] at h
 obtain⟨k,hk,he⟩:=Array.any_eq_true.1 h
 simp only[Bool.and_eq_true,beq_iff_eq] at he
 have:=hall _ (Array.getElem_mem hk) he.1
 rw[he.2] at this
 rcases Nat.lt_or_ge i listed.size with h'|h'
 ·simp[h'] at hi this;rw[hi] at this;cases this
 ·simp[Array.getElem?_eq_none h'] at this
end
section
variable{F:Fence}{n:Nat}{P:Program}{ops:Array Oper}{Q:Exit→Act→World→Prop}{md:Region.Mode}{S:World→Prop}{L:Nat}
structure bN(P:Program)(ops:Array Oper)(S:World→Prop)(o:Oper)(v:Value)(a:Act):Prop where
 y:YieldsIf P ops S o v a
 quiet:∀w,o.about P w a.eval=none
theorem bN.wpOpIn{i:Nat}{o:Oper}{v:Value}{a:Act}(hro:F.round=none)(hi:ops[i]? =some o)(hy:bN P ops S o v a){K:Act→World→Prop}{w:World}(hS:S w)(h:K (a.put o.dst v) w):wpOpIn F n P ops Q i K a w:=by
 have hab:∀f,o.about P w a.eval=some f→F.fn f:=fun f hf=>by rw[hy.quiet w] at hf;cases hf
 unfold Go.wpOpIn
 simp only[hi]
 rcases hy.y with⟨hw,hv⟩|⟨hw,rfl⟩
 ·rw[if_pos hw]
  refine⟨hab,?_⟩
  rw[hro,Oper.semAt_none,hv w hS]
  exact h
 ·rw[if_neg (by rw[hw];simp)]
  exact⟨hab,h⟩
theorem P8{o:Oper}{r:Result Next}{a b:Act}{K K':Act→World→Prop}(hv:∀u w,K (b.put o.dst u) w→K' (a.put o.dst u) w)(hd:∀d w,K (Act.put {b with defers:=d :: b.defers } o.dst undef) w→K' (Act.put {a with defers:=d :: a.defers } o.dst undef) w)
 (hQ:∀c w,Q (.panic c) b w→Q (.panic c) a w)(h:o.uponIn F n P b K Q r):o.uponIn F n P a K' Q r:=by
 have both:∀e w,(match (e:Ending),(w:World) with
  | .returned v,w=>K (b.put o.dst v) w
  | .panicked c,w=>Q (.panic c) b w
  | .outgrown,_=>LetsOut Q)→(match e,w with
  | .returned v,w=>K' (a.put o.dst v) w
  | .panicked c,w=>Q (.panic c) a w
  | .outgrown,_=>LetsOut Q):=fun e w h=>by
  cases e with
  | returned v=>exact hv v w h
  | panicked c=>exact hQ c w h
  | outgrown=>exact h
 cases r with
 | halt x w=>
   cases x with
   | panic v=>exact hQ _ w h
   | _=>exact h
 | ok x w=>
   cases x with
   | value v=>exact hv v w h
   | skip=>exact hv undef w h
   | defer d=>exact hd d w h
   | enter f args=>exact⟨h.1,h.2.mono both⟩
   | row r args=>exact⟨h.1,h.2.mono fun v w h=>hv v w h⟩
   | round l f t x y=>exact⟨h.1,h.2.mono both⟩
   | _=>exact h
theorem sH(hro:F.round=none){j:Nat}{oi oj:Oper}{v:Value}(hj:ops[j]? =some oj)(hap:oi.apart ops oj=true)(hsi:∀cs b,oi.op≠.select cs b)(hsj:∀cs b,oj.op≠.select cs b)
 (hQ:∀c a w,Q (.panic c) (a.put oi.dst v) w→Q (.panic c) a w){K:Act→World→Prop}{a:Act}{w:World}(hy:bN P ops S oi v a)(h:wpOpIn F n P ops Q j K (a.put oi.dst v) w):
 wpOpIn F n P ops Q j (fun a' w'=>bN P ops S oi v a'∧K (a'.put oi.dst v) w') a w:=by
 obtain⟨h1,h2,h3⟩:=Oper.apart_spec hap
 have still:∀ (b:Act),bN P ops S oi v b→∀u,bN P ops S oi v (b.put oj.dst u):=fun b hb u=>
  ⟨hb.y.of_same (execOp_put oi hsi b oj.dst u h3) (wanted_put oi b oj.dst u h3),fun w=>(about_put oi w b oj.dst u h3).trans (hb.quiet w)⟩
 unfold wpOpIn at h⊢
 simp only[hj] at h⊢
 rw[wanted_put oj a oi.dst v h1,about_put oj w a oi.dst v h1] at h
 by_cases hw:Region.wanted oj (yielded ops a.tmps)=true
 ·rw[if_pos hw] at h⊢
  obtain⟨h4,h5⟩:=h
  refine⟨by rw[about_put oj w a oi.dst v h1] at h4;exact h4,?_⟩
  rw[hro,Oper.semAt_none] at h5⊢
  rw[execOp_put oj hsj a oi.dst v h1] at h5
  refine P8 (fun u w' hk=>⟨still a hy u,?_⟩) (fun d w' hk=>⟨still {a with defers:=d :: a.defers } ⟨hy.y.of_same rfl rfl,hy.quiet⟩ undef,?_⟩) (fun c w' hq=>hQ c a w' hq) h5
  ·rw[← Act.put_comm a v u h2];exact hk
  ·rw[← Act.put_comm _ v undef h2,← Act.put_defers];exact hk
 ·rw[if_neg hw] at h⊢
  exact⟨h.1,still a hy _,by rw[← Act.put_comm a v undef h2];exact h.2⟩
def bg(F:Fence)(n:Nat)(P:Program)(md:Region.Mode)(ops:Array Oper)(Q:Exit→Act→World→Prop)(S:World→Prop)(L:Nat):Nat→Array Bool→Act→World→Prop
 | 0,listed,a,w=>Region.ready md ops listed=[]∧Q .normal a w
 | fuel+1,listed,a,w=>
   (Region.ready md ops listed=[]→Q .normal a w)∧
   ∀i∈Region.ready md ops listed,wpOpIn F n P ops Q i (fun a' w'=>(i≠L→S w')∧bg F n P md ops Q S L fuel (listed.setIfInBounds i true) a' w') a w
theorem mR:∀ (fuel:Nat) (listed:Array Bool) (a:Act) (w:World),bg F n P md ops Q S L fuel listed a w→wpAnyIn F n P md ops Q fuel listed a w
 | 0,_,_,_,h=>h
 | fuel+1,_,_,_,h=>⟨h.1,fun i hi=>wpOpIn_mono (fun a' w' h'=>mR fuel _ a' w' h'.2) (h.2 i hi)⟩
theorem yM{i:Nat}{oi:Oper}{v:Value}(hro:F.round=none)(hi:ops[i]? =some oi)(hsel:∀ (j:Nat) (o:Oper) cs b,ops[j]? =some o→o.op≠.select cs b)
 (hQ:∀c a w,Q (.panic c) (a.put oi.dst v) w→Q (.panic c) a w)(hL:waits md ops L i=true):
 ∀ (fuel:Nat) (listed:Array Bool) (a:Act) (w:World),
   (∀j oj,ops[j]? =some oj→j≠i→listed.getD j true=false→(∀e∈oj.after,Region.binds md e=true→e.on≠i)→oi.apart ops oj=true)→
   i∈Region.ready md ops listed→bN P ops S oi v a→S w→
   bg F n P md ops Q S L fuel (listed.setIfInBounds i true) (a.put oi.dst v) w→bg F n P md ops Q S L (fuel+1) listed a w:=by
 intro fuel
 induction fuel with
 | zero=>
   intro listed a w _ hr hy hS H
   refine⟨fun h=>(by rw[h] at hr;cases hr),fun j hj=>?_⟩
   by_cases hji:j=i
   ·subst hji;exact hy.wpOpIn hro hi hS ⟨fun _=>hS,H⟩
   ·have:=ready_mono hj hji
    rw[H.1] at this
    cases this
 | succ fuel ih=>
   intro listed a w hfree hr hy hS H
   refine⟨fun h=>(by rw[h] at hr;cases hr),fun j hj=>?_⟩
   by_cases hji:j=i
   ·subst hji;exact hy.wpOpIn hro hi hS ⟨fun _=>hS,H⟩
   ·have Gk:j≠L:=fun e=>qH hL (mem_ready.1 hr).1 (e ▸ hj)
    have h1:=H.2 j (ready_mono hj hji)
    obtain⟨hjun,oj,hoj,hall⟩:=mem_ready.1 hj
    have hnot:∀e∈oj.after,Region.binds md e=true→e.on≠i:=fun e he hb heq=>by
     have h1:=hall e he hb
     have h0:=(mem_ready.1 hr).1
     rw[heq] at h1
     rcases Nat.lt_or_ge i listed.size with h'|h'
     ·simp[h'] at h0 h1;rw[h0] at h1;cases h1
     ·simp[Array.getElem?_eq_none h'] at h1
    have h2:=sH hro hoj (hfree j oj hoj hji hjun hnot) (fun cs b=>hsel i oi cs b hi) (fun cs b=>hsel j oj cs b hoj) hQ hy h1
    have hfree':∀k ok,ops[k]? =some ok→k≠i→(listed.setIfInBounds j true).getD k true=false→
     (∀e∈ok.after,Region.binds md e=true→e.on≠i)→oi.apart ops ok=true:=fun k ok hk hki hun hno=>by
     refine hfree k ok hk hki ?_ hno
     by_cases hjk:j=k
     ·subst hjk;exact hjun
     ·rw[getD_set_ne true hjk] at hun;exact hun
    refine wpOpIn_mono (fun a' w' h3=>⟨h3.2.1,ih (listed.setIfInBounds j true) a' w' hfree' (ready_mono hr (Ne.symm hji)) h3.1 (h3.2.1 Gk) ?_⟩) h2
    rw[Array.setIfInBounds_comm _ _ hji]
    exact h3.2.2
theorem AB{i:Nat}{oi:Oper}{v:Value}{fuel:Nat}{listed:Array Bool}{a:Act}{w:World}(hro:F.round=none)(hi:ops[i]? =some oi)
 (hs:Region.noSelect ops=true)(hf:Region.free md ops listed i=true)(hr:(Region.ready md ops listed).contains i=true)(hL:waits md ops L i=true)
 (hQ:∀c a w,Q (.panic c) (a.put oi.dst v) w→Q (.panic c) a w)(hy:bN P ops S oi v a)(hS:S w)
 (h:bg F n P md ops Q S L fuel (listed.setIfInBounds i true) (a.put oi.dst v) w):bg F n P md ops Q S L (fuel+1) listed a w:=
 yM hro hi (Region.noSelect_spec hs) hQ hL fuel listed a w (Region.free_spec hi hf) (by simpa using hr) hy hS h
theorem yN{i:Nat}(d:Option Tmp){oi:Oper}{v:Value}{fuel:Nat}{listed:Array Bool}{a:Act}{w:World}(hro:F.round=none)(hi:ops[i]? =some oi)
 (hs:Region.noSelect ops=true)(hf:Region.free md ops listed i=true)(hr:(Region.ready md ops listed).contains i=true)(hL:waits md ops L i=true)(hd:oi.dst=d)
 (hQ:∀c a w,Q (.panic c) (a.put d v) w→Q (.panic c) a w)(hy:bN P ops S oi v a)(hS:S w)
 (h:bg F n P md ops Q S L fuel (listed.setIfInBounds i true) (a.put d v) w):bg F n P md ops Q S L (fuel+1) listed a w:=by
 subst hd
 exact AB hro hi hs hf hr hL hQ hy hS h
theorem Az{i:Nat}(d:Option Tmp){oi:Oper}{v:Value}{fuel:Nat}{listed:Array Bool}{a:Act}{w:World}(hS:S w)(h:bg F n P md ops Q S L fuel (listed.setIfInBounds i true) (a.put d v) w)
 (hro:F.round=none:=by exact rfl)(hi:ops[i]? =some oi:=by exact rfl)(hs:Region.noSelect ops=true:=by kernel_rfl)(hf:Region.free md ops listed i=true:=by kernel_rfl)
 (hr:(Region.ready md ops listed).contains i=true:=by kernel_rfl)(hL:waits md ops L i=true:=by kernel_rfl)(hd:oi.dst=d:=by rfl)(hQ:∀c a w,Q (.panic c) (a.put d v) w→Q (.panic c) a w:=by exact fun _ _ _ h=>h)
 (hy:bN P ops S oi v a:=by exact⟨Or.inl ⟨zr,by intro wq Eg;(try dsimp only at Eg);go_simp;all_goals with_reducible rfl⟩,fun _=>rfl⟩):bg F n P md ops Q S L (fuel+1) listed a w:=
 yN d hro hi hs hf hr hL hd hQ hy hS h
theorem bf(i:Nat){o:Oper}{fuel:Nat}{listed:Array Bool}{a:Act}{w:World}
 (h:∀K':Act→World→Prop,Shut (∀a w,(i≠L→S w)→bg F n P md ops Q S L fuel (listed.setIfInBounds i true) a w→K' a w)→if Region.wanted o (yielded ops a.tmps)=true then Oper.wpIn F n P o a w K' Q else(∀f,o.about P w a.eval=some f→F.fn f)∧K' (a.put o.dst undef) w)(hr:Region.ready md ops listed=[i]:=by kernel_rfl)(ho:ops[i]? =some o:=by exact rfl):
 bg F n P md ops Q S L (fuel+1) listed a w:=by
 refine⟨(fun h0=>by rw[hr] at h0;cases h0),fun j hj=>?_⟩
 rw[hr] at hj
 obtain rfl:j=i:=by simpa using hj
 exact wpOpIn_step ho fun K' hK=>h K' fun a w hS hW=>hK a w ⟨hS,hW⟩
theorem aI{listed:Array Bool}{a:Act}{w:World}(hr:Region.ready md ops listed=[])(h:Q .normal a w):∀fuel,bg F n P md ops Q S L fuel listed a w
 | 0=>⟨hr,h⟩
 | _+1=>⟨fun _=>h,by rw[hr];simp⟩
theorem iP{id:Nat}{a:Act}{w:World}(L:Nat)(S:World→Prop)(hm:P.follows .mixedOrders=true)
 (h:bg F n P .any ops Q S L ops.size (Array.replicate ops.size false) a w.drew):(Code.region id ops true).wpIn F n P Q a w:=
 wpIn_region_any hm (mR _ _ _ _ h)
theorem oV{o:Oper}{b:Builtin}{args:Array Operand}{ts:Array TypeId}(ho:o.op=.call {callee:=.builtin b,args,argTypes:=ts })(ρ:Operand→Value)(w:World):o.about P w ρ=none:=by
 unfold Oper.about
 rw[ho]
 rfl
theorem Dr{o:Oper}{args:Array Operand}{ts:Array TypeId}(ho:o.op=.call {callee:=.builtin .append,args,argTypes:=ts })(ρ:Operand→Value)(w:World):∀x w',(execOp ρ o).run P w=.ok x w'→∃v,x=.value v:=by
 intro x w' h
 have e:execOp ρ o=(Builtin.append_ ts o.type (args.map ρ)) >>= fun v=>pure (.value v):=by unfold execOp;rw[ho];rfl
 rw[e,Sem.run_bind] at h
 cases hr:(Builtin.append_ ts o.type (args.map ρ)).run P w with
 | ok v w1=>rw[hr] at h;cases h;exact⟨v,rfl⟩
 | halt y w1=>rw[hr] at h;cases h
theorem rD{o:Oper}{args:Array Operand}{ts:Array TypeId}(hro:F.round=none)(ho:o.op=.call {callee:=.builtin .append,args,argTypes:=ts }){a:Act}{w:World}{K:Act→World→Prop}(h:o.wp P a w K Q):o.wpIn F n P a w K Q:=by
 refine⟨fun f hf=>(by rw[oV ho] at hf;cases hf),?_⟩
 have hv:=Dr (P:=P) ho a.eval w
 unfold Oper.wp at h
 rw[hro,Oper.semAt_none]
 generalize (execOp a.eval o).run P w=r at h hv
 cases r with
 | ok x w'=>
   obtain⟨v,rfl⟩:=hv x w' rfl
   exact h
 | halt x w'=>cases x <;> exact h
theorem nk{o:Oper}{args:Array Operand}{ts:Array TypeId}(hro:F.round=none)(ho:o.op=.call {callee:=.builtin .append,args,argTypes:=ts }){a:Act}{w:World}{K:Act→World→Prop}{E E':Prop}(hg:o.guard=none)
 (h:if Region.wanted o (yielded ops a.tmps)=true then Oper.wp P o a w K Q else E):if Region.wanted o (yielded ops a.tmps)=true then Oper.wpIn F n P o a w K Q else E':=by
 have hw:Region.wanted o (yielded ops a.tmps)=true:=by simp[Region.wanted,hg]
 rw[if_pos hw] at h⊢
 exact rD hro ho h
theorem aF{o:Oper}{rest:List Oper}{args:Array Operand}{ts:Array TypeId}(hro:F.round=none)(hg:o.guard=none)(ho:o.op=.call {callee:=.builtin .append,args,argTypes:=ts }){a:Act}{w:World}
 (h:∀K:Act→World→Prop,(∀a w,wpListIn F n P ops Q rest a w→K a w)→o.wp P a w K Q):wpListIn F n P ops Q (o :: rest) a w:=
 wpListIn_plain hg fun K hK=>rD hro ho (h K hK)
end
end
section
open Go.RowKit
def pick(n:Nat)(xs:Nat→Int)(k:Nat):Int:=if k<n then xs k else 0
theorem info3:(Tryz.prog.info? 3).map (fun i=>(i.zero,i.size,i.bytes))=some (some (int i64 0),1,8):=zk
structure vU(b:Bk)(l1 l2 l3:List Int):Prop where
 n1:l1.length=b.ng
 n2:l2.length=b.nm
 b1:∀x∈l1,0≤x∧x≤99
 b2:∀x∈l2,0≤x∧x≤99
 up:l3.Pairwise (· < ·)
 came:∀x∈l3,∃i:Nat,x=i∧i<b.nm∧(b.m i).kind=0
section
variable{w wr w1 w2:World}{bx:Array Value}{v1 v2 v3:Value}{l1 l2 l3:List Int}{x:Int}{o:Obj}{gg cap:Nat}
end
section
variable{days most:Int}{gA mA cA:Option Addr}{ng gc nm mc nc cc:Nat}{g:Nat→Good}{m:Nat→Mv}{c:Nat→Ct}
end
end
def C6(b:Bk)(l2:List Int)(g:Nat)(i:Nat):Int:=if (b.m i).good=g then(if (b.m i).kind=0∨(b.m i).kind=4 then l2.getD i 0 else - l2.getD i 0) else 0
open Classical in
noncomputable def vO(b:Bk)(l1 l2 l3:List Int)(g:Nat)(d:Int):Int:=l1.getD g 0+((List.range b.nm).map fun i=>if (b.m i).day≤d∧¬ (i:Int)∈l3 then C6 b l2 g i else 0).sum
noncomputable def D9(b:Bk)(l1 l2 l3:List Int)(g:Nat):Int:=vO b l1 l2 l3 g b.days
noncomputable def Mj(b:Bk)(l1 l2 l3:List Int)(g:Nat):Int:=(List.range (b.days.toNat+1)).foldl (fun x (d:Nat)=>min x (vO b l1 l2 l3 g d)) (l1.getD g 0)
section
open Classical
noncomputable def kept(l3:List Int)(k:Nat):List Nat:=(List.range k).filter fun i=>decide (¬ (i:Int)∈l3)
theorem jG(l3:List Int)(k:Nat):kept l3 (k+1)=if (k:Int)∈l3 then kept l3 k else kept l3 k ++ [k]:=by
 unfold kept
 rw[List.range_succ,List.filter_append]
 by_cases h:(k:Int)∈l3 <;> simp[h]
theorem WU{l3:List Int}{k i:Nat}(h:i∈kept l3 k):i<k∧¬ (i:Int)∈l3:=by
 unfold kept at h
 simp at h
 exact h
theorem WV(l3:List Int)(k:Nat):(kept l3 k).Pairwise (· < ·):=List.Pairwise.filter _ (List.pairwise_lt_range)
theorem nK(l3:List Int)(k:Nat):(kept l3 k).length≤k:=by
 have:=List.length_filter_le (fun i:Nat=>decide (¬ (i:Int)∈l3)) (List.range k)
 simpa [kept] using this
noncomputable def Bk.without(b:Bk)(l3:List Int)(JS:Option Addr)(mc':Nat):Bk:={b with mA:=JS,nm:=(kept l3 b.nm).length,mc:=mc',m:=fun j=>b.m ((kept l3 b.nm).getD j 0),cA:=none,nc:=0,cc:=0 }
noncomputable def Gs(l2 l3:List Int)(k:Nat):List Int:=(kept l3 k).map fun i=>l2.getD i 0
theorem Km{b:Bk}(h:b.Ok)(l3:List Int)(JS:Option Addr)(mc':Nat):(b.without l3 JS mc').Ok:=by
 refine⟨h.days,h.most,⟨h.bM.1,fun i hi=>?_⟩,⟨Nat.le_trans (nK l3 b.nm) h.moves.1,fun i hi=>?_⟩,by show(0:Nat)≤4;omega,fun i hi=>absurd hi (Nat.not_lt_zero i)⟩
 ·obtain⟨h1,h2,h3,h4,h5⟩:=h.bM.2 i hi
  exact⟨h1,h2,h3,h4,h5⟩
 ·have hi':i<(kept l3 b.nm).length:=hi
  have e:(kept l3 b.nm).getD i 0=(kept l3 b.nm)[i]:=by simp[hi']
  have hk:(kept l3 b.nm).getD i 0<b.nm:=by rw[e];exact(WU (List.getElem_mem hi')).1
  obtain⟨h1,h2,h3,h4,h5⟩:=h.moves.2 _ hk
  refine⟨h1,h2,h3,fun h0=>?_,h5⟩
  have hi1:i - 1<(kept l3 b.nm).length:=zo
  have e1:(kept l3 b.nm).getD (i - 1) 0=(kept l3 b.nm)[i - 1]:=by simp[hi1]
  have hlt:(kept l3 b.nm)[i - 1]<(kept l3 b.nm)[i]:=List.pairwise_iff_getElem.1 (WV l3 b.nm) (i - 1) i hi1 hi' zo
  show(b.m ((kept l3 b.nm).getD (i - 1) 0)).day≤(b.m ((kept l3 b.nm).getD i 0)).day
  rw[e,e1]
  exact Wo h _ _ hlt (by rw[← e];exact hk)
where
 Wo {b:Bk} (h:b.Ok):∀ (i j:Nat),i<j→j<b.nm→(b.m i).day≤(b.m j).day:=fun i j=>by
  induction j with
  | zero=>intro h1;omega
  | succ j ih=>
    intro h1 h2
    have h3:=(h.moves.2 (j+1) h2).order zo
    simp only[Nat.add_sub_cancel] at h3
    rcases Nat.lt_or_ge i j with h4|h4
    ·exact Int.le_trans (ih h4 zo) h3
    ·obtain rfl:i=j:=zo
     exact h3
end
theorem wU(l:List Int)(v:Int):hasB l.length (fun i=>l.getD i 0) v=true↔v∈l:=by
 unfold hasB
 rw[decide_eq_true_iff]
 constructor
 ·rintro⟨i,hi,rfl⟩
  simp[hi]
 ·intro h
  obtain⟨i,hi,rfl⟩:=List.getElem_of_mem h
  exact⟨i,hi,by simp[hi]⟩
section
open Go.RowKit
theorem dh(n lo hi:Int)(w:World):CallsIn FF 0 prog 35 #[int i64 n,int i64 lo,int i64 hi] w fun e w'=>e=.returned (.bool (fU n lo hi))∧w=w':=by
 gi_enter func35,ntmps35
 gi_wp2
 all_goals (go_ret;refine⟨?_,rfl⟩;congr 2;unfold fU;first|rfl|(simp;omega)|simp_all)
theorem UQ(n lo hi:Int)(w:World):CallsIn FF 0 prog 35 #[int i64 n,int i64 lo,int i64 hi] w fun e w'=>e=.returned (.bool (fU n lo hi))∧∃m,w'=w.drewN m:=
 (dh n lo hi w).mono fun _ _ h=>⟨h.1,0,h.2 ▸ rfl⟩
def uy(a b lo hi:Int):Bool:=fU a lo b && decide (b≤hi)
theorem xq(a b lo hi:Int)(w:World):CallsIn FF 0 prog 62 #[.agg #[int i64 a,int i64 b],int i64 lo,int i64 hi] w fun e w'=>e=.returned (.bool (uy a b lo hi))∧Below w.heap.size w w':=by
 gi_enter func62,ntmps62
 gi_wp2_with (gi_at_call 35;refine(dh _ _ _ _).mono ?_;rintro e w' ⟨rfl,rfl⟩)
 all_goals (go_ret;refine⟨?_,bw⟩;congr 2;unfold uy;first|rfl|(simp;omega)|simp_all)
theorem fb(a b:Int)(w:World)(h:-1000≤a∧a≤1000∧-1000≤b∧b≤1000):CallsIn FF 0 prog 186 #[.agg #[int i64 a,int i64 b]] w fun e w'=>e=.returned (int i64 (b - a+1))∧Below w.heap.size w w':=by
 have e1:IntKind.i64.wrap (b - a)=b - a:=IntWalk.i64_in _ zo
 have e2:IntKind.i64.wrap (b - a+1)=b - a+1:=IntWalk.i64_in _ zo
 gi_enter func186,ntmps186
 gi_wp2
 all_goals (go_ret;refine⟨?_,bw⟩;first|rfl|(congr 2;simp_all))
theorem jK{a b:Int}(h:wM a b=true):0≤a∧a≤b∧b≤99∧b - a<3:=by
 unfold wM at h
 simp only[Bool.and_eq_true,decide_eq_true_eq] at h
 have:=og.1 h.1
 omega
theorem tF(a b:Int)(w:World)(h:wM a b=true):CallsIn FF 0 prog 179 #[.agg #[int i64 a,int i64 b]] w fun e w'=>e=.returned (.bool true)∧Below w.heap.size w w':=by
 obtain⟨f1,f2,f3,f4⟩:=jK h
 have H1:∀w,CallsIn FF 0 prog 62 #[.agg #[int i64 a,int i64 b],int i64 0,int i64 99] w fun e w'=>e=.returned (.bool true)∧Below w.heap.size w w':=fun w=>by
  have e:uy a b 0 99=true:=by unfold uy fU;simp;omega
  have:=xq a b 0 99 w
  rwa[e] at this
 gi_enter func179,ntmps179
 gi_wp2_with (first|(gi_at_call 62;refine(H1 _).mono ?_;rintro e w1 ⟨rfl,hb1⟩;obtain⟨hc1,hf1⟩:=fF hb1)|(gi_at_call 186;refine(fb _ _ _ zo).mono ?_;rintro e w2 ⟨rfl,hb2⟩))
 go_ret
 exact⟨congrArg Ending.returned (congrArg Value.bool (decide_eq_true (show b - a+1≤3 by omega))),(((Below.refl _ _).alloc (Nat.le_refl _) _).trans (hb1.mono zs)).trans (hb2.mono (by have:=hb1.size;simp at this;omega))⟩
section
theorem sV(b:Bk)(i:Int)(w:World)(h:b.ng≤maxLen):CallsIn FF 0 prog 73 #[b.val,int i64 i] w fun e w'=>e=.returned (.bool (fU i 0 ((b.ng:Int) - 1)))∧Below w.heap.size w w':=by
 obtain⟨days,most,gA,ng,gc,g,mA,nm,mc,m,cA,nc,cc,c⟩:=b
 simp only[Bk.val,Bk.cells]
 simp only at h
 unfold maxLen at h
 have e1:IntKind.i64.wrap ((ng:Int) - 1)=(ng:Int) - 1:=IntWalk.i64_in _ zo
 gi_enter func73,ntmps73
 gi_wp2_with (gi_at_call 35;refine(dh _ _ _ _).mono ?_;rintro e w' ⟨rfl,rfl⟩)
 all_goals (go_ret;refine⟨?_,bw⟩;first|rfl|(rw[← e1];rfl)|(congr 2;simp_all))
theorem BI(b:Bk)(i:Int)(w:World)(h:b.nm≤maxLen):CallsIn FF 0 prog 90 #[b.val,int i64 i] w fun e w'=>e=.returned (.bool (fU i 0 ((b.nm:Int) - 1)))∧Below w.heap.size w w':=by
 obtain⟨days,most,gA,ng,gc,g,mA,nm,mc,m,cA,nc,cc,c⟩:=b
 simp only[Bk.val,Bk.cells]
 simp only at h
 unfold maxLen at h
 have e1:IntKind.i64.wrap ((nm:Int) - 1)=(nm:Int) - 1:=IntWalk.i64_in _ zo
 gi_enter func90,ntmps90
 gi_wp2_with (gi_at_call 35;refine(dh _ _ _ _).mono ?_;rintro e w' ⟨rfl,rfl⟩)
 all_goals (go_ret;refine⟨?_,bw⟩;first|rfl|(rw[← e1];rfl)|(congr 2;simp_all))
theorem wV(b:Bk)(i:Int)(w:World):CallsIn FF 0 prog 38 #[b.val,int i64 i] w fun e w'=>e=.returned (.bool (fU i 0 b.days))∧Below w.heap.size w w':=by
 obtain⟨days,most,gA,ng,gc,g,mA,nm,mc,m,cA,nc,cc,c⟩:=b
 simp only[Bk.val,Bk.cells]
 gi_enter func38,ntmps38
 gi_wp2_with (gi_at_call 35;refine(dh _ _ _ _).mono ?_;rintro e w' ⟨rfl,rfl⟩)
 all_goals (go_ret;refine⟨?_,bw⟩;first|rfl|(congr 2;simp_all))
theorem Gy(b:Bk)(w:World)(h:b.nm≤6):CallsIn FF 0 prog 155 #[b.val] w fun e w'=>e=.returned (.tuple #[int i64 b.nm,.bool true])∧Below w.heap.size w w':=by
 obtain⟨days,most,gA,ng,gc,g,mA,nm,mc,m,cA,nc,cc,c⟩:=b
 simp only[Bk.val,Bk.cells]
 simp only at h
 have e1:decide ((nm:Int)≤6)=true:=decide_eq_true zo
 gi_enter func155,ntmps155
 gi_wp2
 gi_quiet (fail)
 gi_wp2
 all_goals (go_ret2;refine⟨?_,bw⟩;first|rfl|(simp only[e1];rfl)|trace_state)
theorem Ec(b:Bk)(w:World)(h:b.nc≤4):CallsIn FF 0 prog 157 #[b.val] w fun e w'=>e=.returned (.tuple #[int i64 b.nc,.bool true])∧Below w.heap.size w w':=by
 obtain⟨days,most,gA,ng,gc,g,mA,nm,mc,m,cA,nc,cc,c⟩:=b
 simp only[Bk.val,Bk.cells]
 simp only at h
 have e1:decide ((nc:Int)≤4)=true:=decide_eq_true zo
 gi_enter func157,ntmps157
 gi_wp2
 gi_quiet (fail)
 gi_wp2
 all_goals (go_ret2;refine⟨?_,bw⟩;first|rfl|(simp only[e1];rfl)|trace_state)
theorem Gx(b:Bk)(w:World)(h:1≤b.ng∧b.ng≤3):CallsIn FF 0 prog 153 #[b.val] w fun e w'=>e=.returned (.tuple #[int i64 b.ng,.bool true])∧Below w.heap.size w w':=by
 obtain⟨days,most,gA,ng,gc,g,mA,nm,mc,m,cA,nc,cc,c⟩:=b
 simp only[Bk.val,Bk.cells]
 simp only at h
 have e1:fU (ng:Int) 1 3=true:=by unfold fU;simp;omega
 gi_enter func153,ntmps153
 gi_wp2
 gi_quiet ((gi_at_call 35;exact CallsIn.quiet_of (UQ _ _ _ _)))
 gi_wp2
 all_goals (go_ret2;refine⟨?_,bw⟩;first|rfl|(simp only[e1];rfl)|trace_state)
end
theorem Tn{s:ByteArray}(h:jO s=true):1≤s.size∧s.size≤10∧∀i,i<s.size→nameAt s i=true:=by
 unfold jO at h
 simp only[Bool.and_eq_true,decide_eq_true_eq] at h
 exact⟨h.1.1,h.1.2,h.2⟩
theorem fh(s:ByteArray)(w:World)(hs:jO s=true):
 CallsIn FF 0 prog 176 #[.string s] w fun e w'=>e=.returned (.bool true)∧w'=w:=by
 obtain⟨h1,h10,hN⟩:=Tn hs
 have H:∀w,CallsIn FF 0 prog 35 #[int i64 s.size,int i64 1,int i64 10] w fun e w'=>e=.returned (.bool true)∧w=w':=fun w=>by
  have:=dh s.size 1 10 w
  rwa[show fU (s.size:Int) 1 10=true by unfold fU;simp;omega] at this
 gi_enter func176,ntmps176
 gi_wp2_with (gi_at_call 35;refine(H _).mono ?_;rintro e w' ⟨rfl,rfl⟩)
 gi_loop [13] (fun i=>∃k:Nat,k≤s.size∧i=int i64 k) (fun i=>s.size - (intOf i).toNat)
 case atStart=>exact⟨0,Nat.zero_le _,rfl⟩
 case round=>
  obtain⟨k,hk,rfl⟩:=hrel
  by_cases hlt:k<s.size
  ·have hn:=hN k hlt
   rw[lJ hlt] at hn
   unfold Ea Jz at hn
   simp at hn
   gi_wp2_with (first|(exact absurd ‹some undef=some (Value.bool _)› (by simp[undef])))
   all_goals first
    | (go_round
       case rel=>exact⟨k+1,zo,by go_num⟩
       case measure=>simp[intOf];omega)
    | (exfalso;simp_all;omega)
    | trace_state
  ·gi_wp2
   go_ret
   exact⟨rfl,rfl⟩
theorem Ru(b:ByteArray):∀ (n i:Nat) (r:List UInt8),b.size - i=n→ByteArray.toList.loop b i r=r.reverse ++ b.data.toList.drop i:=by
 have hsz:b.data.toList.length=b.size:=rfl
 intro n
 induction n with
 | zero=>
   intro i r h
   rw[ByteArray.toList.loop.eq_def,if_neg zo]
   rw[List.drop_eq_nil_of_le zo]
   rw[List.append_nil]
 | succ n ih=>
   intro i r h
   have hi:i<b.size:=zo
   rw[ByteArray.toList.loop.eq_def,if_pos hi,ih (i+1) _ zo]
   have hi':i<b.data.toList.length:=zo
   have hi2:i<b.data.size:=hi
   rw[List.drop_eq_getElem_cons hi']
   have:b.get! i=b.data.toList[i]:=by
    cases b with
    | mk d=>exact(getElem!_pos d i hi2).trans (Array.getElem_toList hi2).symm
   rw[this,List.reverse_cons,List.append_assoc]
   rfl
theorem wD(b:ByteArray):b.toList=b.data.toList:=by
 unfold ByteArray.toList
 rw[Ru b _ 0 [] rfl]
 rfl
theorem Ry{a b:ByteArray}(h:a≠b):(a.toList == b.toList)=false:=by
 rw[Bool.eq_false_iff]
 intro e
 apply h
 have e':=eq_of_beq e
 rw[wD,wD] at e'
 cases a;cases b
 exact congrArg _ (Array.toList_inj.1 e')
abbrev BH(q:Good):Value:=.agg #[.string q.name,int i64 q.cost,int i64 q.pack,int i64 q.lo,int i64 q.hi]
theorem Xq(q:Good)(nm:ByteArray)(B:Nat)(w:World)(hB:B<w.heap.size)(hc:w.cell? ⟨B,0,none⟩=some (.string nm))(hne:q.name≠nm):CallsIn FF 0 prog 178 #[BH q,.pointer (some ⟨B,0,none⟩)] w fun e w'=>e=.returned (.bool false)∧Below w.heap.size w w':=by
 have hc1:(w.alloc (.cells #[.string q.name,int i64 q.cost,int i64 q.pack,int i64 q.lo,int i64 q.hi] 40)).cell? ⟨B,0,none⟩=some (.string nm):=(World.cell?_alloc_lt w _ _ zm).trans hc
 have hne:=Ry hne
 gi_enter func178,ntmps178
 gi_wp2
 go_ret
 exact⟨rfl,bw⟩
theorem WS(g:Nat→Good)(A:Option Addr)(n cap:Nat)(nm:ByteArray)(B:Nat)(w:World)(hr:Rows w w.heap.size 5 A n (fun i=>(g i).cell))(hn:n≤maxLen)(hB:B<w.heap.size)(hc:w.cell? ⟨B,0,none⟩=some (.string nm))(hne:∀i,i<n→(g i).name≠nm):
 CallsIn FF 0 prog 185 #[.slice A n cap,.func (.func 178) #[] #[.pointer (some ⟨B,0,none⟩)]] w fun e w'=>e=.returned (int i64 (-1))∧Below w.heap.size w w':=by
 unfold maxLen at hn
 have Hr:=hid hr
 have Hn:=hid hne
 clear hr hne
 gi_enter func185,ntmps185
 gi_wp2
 gi_loopw [8] (fun i wr=>∃k:Nat,k≤n∧i=int i64 k∧Below w.heap.size w wr) (fun i _=>n - (intOf i).toNat)
 case atStart=>exact⟨0,Nat.zero_le _,rfl,Below.refl _ _⟩
 case round=>
  obtain⟨k,hk,rfl,hb⟩:=hrel
  by_cases hlt:k<n
  ·obtain⟨ad,rfl,-⟩:=Hr.out (show 0<n by omega)
   have hr:=(Hr.out.below hb).row hlt
   have c0:wr.cell? (ad.add (k * 5))=some (.string (g k).name):=hr.2 0 zD
   have c1:wr.cell? ⟨(ad.add (k * 5)).block,(ad.add (k * 5)).off+1,none⟩=some (int i64 (g k).cost):=hr.2 1 zD
   have c2:wr.cell? ⟨(ad.add (k * 5)).block,(ad.add (k * 5)).off+2,none⟩=some (int i64 (g k).pack):=hr.2 2 zD
   have c3:wr.cell? ⟨(ad.add (k * 5)).block,(ad.add (k * 5)).off+3,none⟩=some (int i64 (g k).lo):=hr.2 3 zD
   have c4:wr.cell? ⟨(ad.add (k * 5)).block,(ad.add (k * 5)).off+4,none⟩=some (int i64 (g k).hi):=hr.2 4 zD
   clear hr
   have hs:=hb.size
   have hO:CallsIn FF 0 prog 178 #[BH (g k),.pointer (some ⟨B,0,none⟩)] wr fun e w'=>e=.returned (.bool false)∧Below wr.heap.size wr w':=Xq (g k) nm B wr zo ((hb.cell (p:=⟨B,0,none⟩) hB).trans hc) (Hn.out k hlt)
   gi_wp2_with (gi_at_call 178;refine hO.mono ?_;rintro e w' ⟨rfl,hb2⟩)
   go_roundw
   case rel=>exact⟨k+1,zo,by go_num,hb.trans (hb2.mono hs)⟩
   case measure=>simp[intOf];omega
  ·gi_wp2
   go_ret
   exact⟨rfl,hb⟩
theorem Jw(g:Nat→Good)(A:Option Addr)(n cap:Nat)(nm:ByteArray)(B:Nat)(w:World)(hr:Rows w w.heap.size 5 A n (fun i=>(g i).cell))(hn:n≤maxLen)(hB:B<w.heap.size)(hc:w.cell? ⟨B,0,none⟩=some (.string nm))(hne:∀i,i<n→(g i).name≠nm):
 CallsIn FF 0 prog 177 #[.slice A n cap,.func (.func 178) #[] #[.pointer (some ⟨B,0,none⟩)]] w fun e w'=>e=.returned (.bool false)∧Below w.heap.size w w':=by
 have H:=WS g A n cap nm B w hr hn hB hc hne
 gi_enter func177,ntmps177
 gi_wp2_with (gi_at_call 185;refine H.mono ?_;rintro e w' ⟨rfl,hb⟩)
 go_ret
 exact⟨rfl,hb⟩
end
end Go.Proofs.YthaelabgfnnebaaGreat
