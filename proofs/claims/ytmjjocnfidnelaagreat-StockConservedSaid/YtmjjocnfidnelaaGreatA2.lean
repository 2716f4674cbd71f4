/- RegIn S6 -/
import Derived.Test.YtmjjocnfidnelaaGreatA1
import Derived.OrdersIn
import Derived.Deep.AppendLies
import Derived.Deep.RegionHeld3
import Derived.Deep.DrawnRows
import Derived.OwnWalk
set_option maxRecDepth 100000
set_option maxHeartbeats 16000000
set_option linter.unusedVariables false
set_option linter.unusedSectionVars false
open Go.IntKind(i64)
open Go.Lib(hid)
open Go.Proofs.Tryz
open Go.Value(int)
namespace Go.Proofs.YtmjjocnfidnelaaGreat
section
open Go
section
variable{F:Fence}{n:Nat}{P:Program}{ops:Array Oper}{Q:Exit→Act→World→Prop}{md:Region.Mode}{S:World→Prop}{L:Nat}
structure bC(P:Program)(ops:Array Oper)(S:World→Prop)(o:Oper)(v:Value)(a:Act):Prop where
 y:YieldsIf P ops S o v a
 quiet:∀w,o.about P w a.eval=none
theorem bC.wpOpIn{i:Nat}{o:Oper}{v:Value}{a:Act}(hro:F.round=none)(hi:ops[i]? =some o)(hy:bC P ops S o v a){K:Act→World→Prop}{w:World}(hS:S w)(h:K (a.put o.dst v) w):wpOpIn F n P ops Q i K a w:=by
 have hab:∀f,o.about P w a.eval=some f→F.fn f:=fun f hf=>by rw[hy.quiet w] at hf;cases hf
 unfold Go.wpOpIn
 simp only[hi]
 rcases hy.y with⟨hw,hv⟩|⟨hw,rfl⟩
 ·rw[if_pos hw]
  refine⟨hab,?_⟩
  rw[hro,Oper.semAt_none,hv w hS]
  exact h
 ·rw[if_neg (by rw[hw];simp)]
  exact⟨hab,h⟩
theorem Qn{o:Oper}{r:Result Next}{a b:Act}{K K':Act→World→Prop}(hv:∀u w,K (b.put o.dst u) w→K' (a.put o.dst u) w)(hd:∀d w,K (Act.put {b with defers:=d :: b.defers } o.dst undef) w→K' (Act.put {a with defers:=d :: a.defers } o.dst undef) w)
 (hQ:∀c w,Q (.panic c) b w→Q (.panic c) a w)(h:o.uponIn F n P b K Q r):o.uponIn F n P a K' Q r:=by
 have both:∀e w,(match (e:Ending),(w:World) with
  | .returned v,w=>K (b.put o.dst v) w
  | .panicked c,w=>Q (.panic c) b w
  | .outgrown,_=>LetsOut Q)→(match e,w with
  | .returned v,w=>K' (a.put o.dst v) w
  | .panicked c,w=>Q (.panic c) a w
  | .outgrown,_=>LetsOut Q):=fun e w h=>by
  cases e with
  | returned v=>exact hv v w h
  | panicked c=>exact hQ c w h
  | outgrown=>exact h
 cases r with
 | halt x w=>
   cases x with
   | panic v=>exact hQ _ w h
   | _=>exact h
 | ok x w=>
   cases x with
   | value v=>exact hv v w h
   | skip=>exact hv undef w h
   | defer d=>exact hd d w h
   | enter f args=>exact⟨h.1,h.2.mono both⟩
   | row r args=>exact⟨h.1,h.2.mono fun v w h=>hv v w h⟩
   | round l f t x y=>exact⟨h.1,h.2.mono both⟩
   | _=>exact h
theorem ny(hro:F.round=none){j:Nat}{oi oj:Oper}{v:Value}(hj:ops[j]? =some oj)(hap:oi.apart ops oj=true)(hsi:∀cs b,oi.op≠.select cs b)(hsj:∀cs b,oj.op≠.select cs b)
 (hQ:∀c a w,Q (.panic c) (a.put oi.dst v) w→Q (.panic c) a w){K:Act→World→Prop}{a:Act}{w:World}(hy:bC P ops S oi v a)(h:wpOpIn F n P ops Q j K (a.put oi.dst v) w):
 wpOpIn F n P ops Q j (fun a' w'=>bC P ops S oi v a'∧K (a'.put oi.dst v) w') a w:=by
 obtain⟨h1,h2,h3⟩:=Oper.apart_spec hap
 have still:∀ (b:Act),bC P ops S oi v b→∀u,bC P ops S oi v (b.put oj.dst u):=fun b hb u=>
  ⟨hb.y.of_same (execOp_put oi hsi b oj.dst u h3) (wanted_put oi b oj.dst u h3),fun w=>(about_put oi w b oj.dst u h3).trans (hb.quiet w)⟩
 unfold wpOpIn at h⊢
 simp only[hj] at h⊢
 rw[wanted_put oj a oi.dst v h1,about_put oj w a oi.dst v h1] at h
 by_cases hw:Region.wanted oj (yielded ops a.tmps)=true
 ·rw[if_pos hw] at h⊢
  obtain⟨h4,h5⟩:=h
  refine⟨by rw[about_put oj w a oi.dst v h1] at h4;exact h4,?_⟩
  rw[hro,Oper.semAt_none] at h5⊢
  rw[execOp_put oj hsj a oi.dst v h1] at h5
  refine Qn (fun u w' hk=>⟨still a hy u,?_⟩) (fun d w' hk=>⟨still {a with defers:=d :: a.defers } ⟨hy.y.of_same rfl rfl,hy.quiet⟩ undef,?_⟩) (fun c w' hq=>hQ c a w' hq) h5
  ·rw[← Act.put_comm a v u h2];exact hk
  ·rw[← Act.put_comm _ v undef h2,← Act.put_defers];exact hk
 ·rw[if_neg hw] at h⊢
  exact⟨h.1,still a hy _,by rw[← Act.put_comm a v undef h2];exact h.2⟩
def bn(F:Fence)(n:Nat)(P:Program)(md:Region.Mode)(ops:Array Oper)(Q:Exit→Act→World→Prop)(S:World→Prop)(L:Nat):Nat→Array Bool→Act→World→Prop
 | 0,listed,a,w=>Region.ready md ops listed=[]∧Q .normal a w
 | fuel+1,listed,a,w=>
   (Region.ready md ops listed=[]→Q .normal a w)∧
   ∀i∈Region.ready md ops listed,wpOpIn F n P ops Q i (fun a' w'=>(i≠L→S w')∧bn F n P md ops Q S L fuel (listed.setIfInBounds i true) a' w') a w
theorem nk:∀ (fuel:Nat) (listed:Array Bool) (a:Act) (w:World),bn F n P md ops Q S L fuel listed a w→wpAnyIn F n P md ops Q fuel listed a w
 | 0,_,_,_,h=>h
 | fuel+1,_,_,_,h=>⟨h.1,fun i hi=>wpOpIn_mono (fun a' w' h'=>nk fuel _ a' w' h'.2) (h.2 i hi)⟩
theorem Ak{i:Nat}{oi:Oper}{v:Value}(hro:F.round=none)(hi:ops[i]? =some oi)(hsel:∀ (j:Nat) (o:Oper) cs b,ops[j]? =some o→o.op≠.select cs b)
 (hQ:∀c a w,Q (.panic c) (a.put oi.dst v) w→Q (.panic c) a w)(hL:waits md ops L i=true):
 ∀ (fuel:Nat) (listed:Array Bool) (a:Act) (w:World),
   (∀j oj,ops[j]? =some oj→j≠i→listed.getD j true=false→(∀e∈oj.after,Region.binds md e=true→e.on≠i)→oi.apart ops oj=true)→
   i∈Region.ready md ops listed→bC P ops S oi v a→S w→
   bn F n P md ops Q S L fuel (listed.setIfInBounds i true) (a.put oi.dst v) w→bn F n P md ops Q S L (fuel+1) listed a w:=by
 intro fuel
 induction fuel with
 | zero=>
   intro listed a w _ hr hy hS H
   refine⟨fun h=>(by rw[h] at hr;cases hr),fun j hj=>?_⟩
   by_cases hji:j=i
   ·subst hji;exact hy.wpOpIn hro hi hS ⟨fun _=>hS,H⟩
   ·have:=ready_mono hj hji
    rw[H.1] at this
    cases this
 | succ fuel ih=>
   intro listed a w hfree hr hy hS H
   refine⟨fun h=>(by rw[h] at hr;cases hr),fun j hj=>?_⟩
   by_cases hji:j=i
   ·subst hji;exact hy.wpOpIn hro hi hS ⟨fun _=>hS,H⟩
   ·have KB:j≠L:=fun e=>qV hL (mem_ready.1 hr).1 (e ▸ hj)
    have h1:=H.2 j (ready_mono hj hji)
    obtain⟨hjun,oj,hoj,hall⟩:=mem_ready.1 hj
    have hnot:∀e∈oj.after,Region.binds md e=true→e.on≠i:=fun e he hb heq=>by
     have h1:=hall e he hb
     have h0:=(mem_ready.1 hr).1
     rw[heq] at h1
     rcases Nat.lt_or_ge i listed.size with h'|h'
     ·simp[h'] at h0 h1;rw[h0] at h1;cases h1
     ·simp[Array.getElem?_eq_none h'] at h1
    have h2:=ny hro hoj (hfree j oj hoj hji hjun hnot) (fun cs b=>hsel i oi cs b hi) (fun cs b=>hsel j oj cs b hoj) hQ hy h1
    have hfree':∀k ok,ops[k]? =some ok→k≠i→(listed.setIfInBounds j true).getD k true=false→
     (∀e∈ok.after,Region.binds md e=true→e.on≠i)→oi.apart ops ok=true:=fun k ok hk hki hun hno=>by
     refine hfree k ok hk hki ?_ hno
     by_cases hjk:j=k
     ·subst hjk;exact hjun
     ·rw[getD_set_ne true hjk] at hun;exact hun
    refine wpOpIn_mono (fun a' w' h3=>⟨h3.2.1,ih (listed.setIfInBounds j true) a' w' hfree' (ready_mono hr (Ne.symm hji)) h3.1 (h3.2.1 KB) ?_⟩) h2
    rw[Array.setIfInBounds_comm _ _ hji]
    exact h3.2.2
theorem Bz{i:Nat}{oi:Oper}{v:Value}{fuel:Nat}{listed:Array Bool}{a:Act}{w:World}(hro:F.round=none)(hi:ops[i]? =some oi)
 (hs:Region.noSelect ops=true)(hf:Region.free md ops listed i=true)(hr:(Region.ready md ops listed).contains i=true)(hL:waits md ops L i=true)
 (hQ:∀c a w,Q (.panic c) (a.put oi.dst v) w→Q (.panic c) a w)(hy:bC P ops S oi v a)(hS:S w)
 (h:bn F n P md ops Q S L fuel (listed.setIfInBounds i true) (a.put oi.dst v) w):bn F n P md ops Q S L (fuel+1) listed a w:=
 Ak hro hi (Region.noSelect_spec hs) hQ hL fuel listed a w (Region.free_spec hi hf) (by simpa using hr) hy hS h
theorem Al{i:Nat}(d:Option Tmp){oi:Oper}{v:Value}{fuel:Nat}{listed:Array Bool}{a:Act}{w:World}(hro:F.round=none)(hi:ops[i]? =some oi)
 (hs:Region.noSelect ops=true)(hf:Region.free md ops listed i=true)(hr:(Region.ready md ops listed).contains i=true)(hL:waits md ops L i=true)(hd:oi.dst=d)
 (hQ:∀c a w,Q (.panic c) (a.put d v) w→Q (.panic c) a w)(hy:bC P ops S oi v a)(hS:S w)
 (h:bn F n P md ops Q S L fuel (listed.setIfInBounds i true) (a.put d v) w):bn F n P md ops Q S L (fuel+1) listed a w:=by
 subst hd
 exact Bz hro hi hs hf hr hL hQ hy hS h
theorem mo{i:Nat}(d:Option Tmp){oi:Oper}{v:Value}{fuel:Nat}{listed:Array Bool}{a:Act}{w:World}(hS:S w)(h:bn F n P md ops Q S L fuel (listed.setIfInBounds i true) (a.put d v) w)
 (hro:F.round=none:=by exact rfl)(hi:ops[i]? =some oi:=by exact rfl)(hs:Region.noSelect ops=true:=by kernel_rfl)(hf:Region.free md ops listed i=true:=by kernel_rfl)
 (hr:(Region.ready md ops listed).contains i=true:=by kernel_rfl)(hL:waits md ops L i=true:=by kernel_rfl)(hd:oi.dst=d:=by rfl)(hQ:∀c a w,Q (.panic c) (a.put d v) w→Q (.panic c) a w:=by exact fun _ _ _ h=>h)
 (hy:bC P ops S oi v a:=by exact⟨Or.inl ⟨zr,by intro wq re;(try dsimp only at re);go_simp;all_goals with_reducible rfl⟩,fun _=>rfl⟩):bn F n P md ops Q S L (fuel+1) listed a w:=
 Al d hro hi hs hf hr hL hd hQ hy hS h
theorem aN(i:Nat){o:Oper}{fuel:Nat}{listed:Array Bool}{a:Act}{w:World}
 (h:∀K':Act→World→Prop,Shut (∀a w,(i≠L→S w)→bn F n P md ops Q S L fuel (listed.setIfInBounds i true) a w→K' a w)→if Region.wanted o (yielded ops a.tmps)=true then Oper.wpIn F n P o a w K' Q else(∀f,o.about P w a.eval=some f→F.fn f)∧K' (a.put o.dst undef) w)(hr:Region.ready md ops listed=[i]:=by kernel_rfl)(ho:ops[i]? =some o:=by exact rfl):
 bn F n P md ops Q S L (fuel+1) listed a w:=by
 refine⟨(fun h0=>by rw[hr] at h0;cases h0),fun j hj=>?_⟩
 rw[hr] at hj
 obtain rfl:j=i:=by simpa using hj
 exact wpOpIn_step ho fun K' hK=>h K' fun a w hS hW=>hK a w ⟨hS,hW⟩
theorem aC{listed:Array Bool}{a:Act}{w:World}(hr:Region.ready md ops listed=[])(h:Q .normal a w):∀fuel,bn F n P md ops Q S L fuel listed a w
 | 0=>⟨hr,h⟩
 | _+1=>⟨fun _=>h,by rw[hr];simp⟩
theorem fD{id:Nat}{a:Act}{w:World}(L:Nat)(S:World→Prop)(hm:P.follows .mixedOrders=true)
 (h:bn F n P .any ops Q S L ops.size (Array.replicate ops.size false) a w.drew):(Code.region id ops true).wpIn F n P Q a w:=
 wpIn_region_any hm (nk _ _ _ _ h)
theorem pF{o:Oper}{b:Builtin}{args:Array Operand}{ts:Array TypeId}(ho:o.op=.call {callee:=.builtin b,args,argTypes:=ts })(ρ:Operand→Value)(w:World):o.about P w ρ=none:=by
 unfold Oper.about
 rw[ho]
 rfl
theorem DK{o:Oper}{args:Array Operand}{ts:Array TypeId}(ho:o.op=.call {callee:=.builtin .append,args,argTypes:=ts })(ρ:Operand→Value)(w:World):∀x w',(execOp ρ o).run P w=.ok x w'→∃v,x=.value v:=by
 intro x w' h
 have e:execOp ρ o=(Builtin.append_ ts o.type (args.map ρ)) >>= fun v=>pure (.value v):=by unfold execOp;rw[ho];rfl
 rw[e,Sem.run_bind] at h
 cases hr:(Builtin.append_ ts o.type (args.map ρ)).run P w with
 | ok v w1=>rw[hr] at h;cases h;exact⟨v,rfl⟩
 | halt y w1=>rw[hr] at h;cases h
theorem rW{o:Oper}{args:Array Operand}{ts:Array TypeId}(hro:F.round=none)(ho:o.op=.call {callee:=.builtin .append,args,argTypes:=ts }){a:Act}{w:World}{K:Act→World→Prop}(h:o.wp P a w K Q):o.wpIn F n P a w K Q:=by
 refine⟨fun f hf=>(by rw[pF ho] at hf;cases hf),?_⟩
 have hv:=DK (P:=P) ho a.eval w
 unfold Oper.wp at h
 rw[hro,Oper.semAt_none]
 generalize (execOp a.eval o).run P w=r at h hv
 cases r with
 | ok x w'=>
   obtain⟨v,rfl⟩:=hv x w' rfl
   exact h
 | halt x w'=>cases x <;> exact h
theorem bF{o:Oper}{args:Array Operand}{ts:Array TypeId}(hro:F.round=none)(ho:o.op=.call {callee:=.builtin .append,args,argTypes:=ts }){a:Act}{w:World}{K:Act→World→Prop}{E E':Prop}(hg:o.guard=none)
 (h:if Region.wanted o (yielded ops a.tmps)=true then Oper.wp P o a w K Q else E):if Region.wanted o (yielded ops a.tmps)=true then Oper.wpIn F n P o a w K Q else E':=by
 have hw:Region.wanted o (yielded ops a.tmps)=true:=by simp[Region.wanted,hg]
 rw[if_pos hw] at h⊢
 exact rW hro ho h
theorem aF{o:Oper}{rest:List Oper}{args:Array Operand}{ts:Array TypeId}(hro:F.round=none)(hg:o.guard=none)(ho:o.op=.call {callee:=.builtin .append,args,argTypes:=ts }){a:Act}{w:World}
 (h:∀K:Act→World→Prop,(∀a w,wpListIn F n P ops Q rest a w→K a w)→o.wp P a w K Q):wpListIn F n P ops Q (o :: rest) a w:=
 wpListIn_plain hg fun K hK=>rW hro ho (h K hK)
end
end
section
open Go.RowKit
theorem MR(lo hi n:Int)(w:World)(h1:0≤lo)(h2:lo≤hi)(h3:hi≤99)(h4:0≤n)(h5:n≤65535):
 CallsIn FF 0 prog 25 #[.agg #[int i64 lo,int i64 hi],int i64 n] w fun e w'=>e=.returned (int i64 (lo+n % (hi - lo+1)))∧Below w.heap.size w w':=by
 have b1:0≤n % (hi - lo+1):=Int.emod_nonneg _ zo
 have b2:n % (hi - lo+1)<hi - lo+1:=Int.emod_lt_of_pos _ zo
 have e1:IntKind.i64.wrap (hi - lo)=hi - lo:=IntWalk.i64_in _ zo
 have e2:IntKind.i64.wrap (hi - lo+1)=hi - lo+1:=IntWalk.i64_in _ zo
 have e3:IntKind.i64.wrap (n.tmod (hi - lo+1))=n % (hi - lo+1):=by rw[Int.tmod_eq_emod_of_nonneg h4];exact IntWalk.i64_in _ zo
 have e4:IntKind.i64.wrap (lo+n % (hi - lo+1))=lo+n % (hi - lo+1):=IntWalk.i64_in _ zo
 have hz:¬ (hi - lo+1=0):=zo
 have hz':(hi - lo+1 == 0)=false:=by simpa using hz
 gi_enter func25,ntmps25
 gi_wp2
 gi_quiet (fail)
 gi_wp2
 go_ret
 exact⟨rfl,bw⟩
theorem Gc{a b:Int}(h:tO a b=true):0≤a∧a≤b∧b≤99:=by
 unfold tO at h
 simp only[Bool.and_eq_true] at h
 obtain⟨⟨h1,h2⟩,h3⟩:=kS.1 h.1
 exact⟨h1,h2,h3⟩
theorem TW{lo hi:Int}(h1:0≤lo)(h2:lo≤hi)(h3:hi≤99)(n:Int):0≤lo+n % (hi - lo+1)∧lo+n % (hi - lo+1)≤99:=by
 have b1:0≤n % (hi - lo+1):=Int.emod_nonneg _ zo
 have b2:n % (hi - lo+1)<hi - lo+1:=Int.emod_lt_of_pos _ zo
 omega
def wP(w:World)(B:Nat)(A:Option Addr)(n:Nat)(xs:Nat→Int):Prop:=Rows w B 1 A n (fun i _=>.int .u16 (xs i))∧∀i,i<n→0≤xs i∧xs i≤65535
theorem wP.at_{w:World}{B n:Nat}{ad:Addr}{xs:Nat→Int}(h:wP w B (some ad) n xs){k:Nat}(hk:k<n):w.cell? (ad.add k)=some (.int .u16 (xs k)):=by
 have:=(Rows.row h.1 hk).2 0 zD
 rwa[Nat.mul_one,add_zero'] at this
def pick(n:Nat)(xs:Nat→Int)(k:Nat):Int:=if k<n then xs k else 0
theorem MV{n:Nat}{xs:Nat→Int}(h:∀i,i<n→0≤xs i∧xs i≤65535)(k:Nat):0≤pick n xs k∧pick n xs k≤65535:=by
 unfold pick;split
 ·exact h k ‹_›
 ·omega
theorem xu(A:Option Addr)(n cap:Nat)(xs:Nat→Int)(k:Nat)(B:Nat)(w:World)(h:wP w B A n xs)(hn:n≤maxLen):
 CallsIn FF 0 prog 26 #[.slice A n cap,int i64 k] w fun e w'=>e=.returned (int i64 (pick n xs k))∧w=w':=by
 unfold maxLen at hn
 by_cases hlt:k<n
 ·obtain⟨ad,hA,-⟩:=h.1 (show 0<n by omega)
  subst hA
  have c0:=wP.at_ h hlt
  have hb:=h.2 k hlt
  obtain⟨hb1,hb2⟩:=hb
  have H:=hid h
  clear h
  gi_enter func26,ntmps26
  gi_wp2
  go_ret
  exact⟨by rw[show pick n xs k=xs k from if_pos hlt];rfl,rfl⟩
 ·clear h
  gi_enter func26,ntmps26
  gi_wp2
  go_ret
  exact⟨by rw[show pick n xs k=0 from if_neg hlt];rfl,rfl⟩
theorem info3:(Tryz.prog.info? 3).map (fun i=>(i.zero,i.size,i.bytes))=some (some (int i64 0),1,8):=zk
structure gB(w wr:World)(bx:Array Value)(v1 v2 v3:Value)(l1 l2 l3:List Int):Prop where
 box:Whole wr w.heap.size 26 bx
 res:Whole wr (w.heap.size+1) 32 #[.slice none 0 0,.slice none 0 0,.slice none 0 0]
 p:Whole wr (w.heap.size+2) 32 #[v1,v2,v3]
 r1:wr.ownsRow (w.heap.size+3) 3 1 v1 l1.length (l1.map (int i64))
 r2:wr.ownsRow (w.heap.size+3) 3 1 v2 l2.length (l2.map (int i64))
 r3:wr.ownsRow (w.heap.size+3) 3 1 v3 l3.length (l3.map (int i64))
 d12:∀g,v1.ownBlock=some g→v2.ownBlock≠some g
 d13:∀g,v1.ownBlock=some g→v3.ownBlock≠some g
 d23:∀g,v2.ownBlock=some g→v3.ownBlock≠some g
 below:Below w.heap.size w wr
structure nL(b:Bk)(l1 l2 l3:List Int):Prop where
 n1:l1.length=b.ng
 n2:l2.length=b.nm
 b1:∀x∈l1,0≤x∧x≤99
 b2:∀x∈l2,0≤x∧x≤99
 up:l3.Pairwise (· < ·)
 came:∀x∈l3,∃i:Nat,x=i∧i<b.nm∧(b.m i).kind=0
def Fj(b:Bk)(w:World)(e:Ending)(w':World):Prop:=∃v1 v2 v3 l1 l2 l3,e=.returned (.agg #[v1,v2,v3])∧nL b l1 l2 l3∧
 w'.ownsRow (w.heap.size+3) 3 1 v1 l1.length (l1.map (int i64))∧w'.ownsRow (w.heap.size+3) 3 1 v2 l2.length (l2.map (int i64))∧w'.ownsRow (w.heap.size+3) 3 1 v3 l3.length (l3.map (int i64))∧Below w.heap.size w w'
section
variable{w wr w1 w2:World}{bx:Array Value}{v1 v2 v3:Value}{l1 l2 l3:List Int}{x:Int}{o:Obj}{gg cap:Nat}
theorem jF{vo va:Value}{lo:List Int}(ho:wr.ownsRow (w.heap.size+3) 3 1 vo lo.length (lo.map (int i64)))(hb:Below wr.heap.size wr w1)(hg:(w1.alloc o).grownBy w2 va.ownBlock)(hd:∀g,vo.ownBlock=some g→va.ownBlock≠some g)(i:Nat)(u:Value):
 (w2.setCell ⟨w.heap.size+2,i,none⟩ u).ownsRow (w.heap.size+3) 3 1 vo lo.length (lo.map (int i64)):=
 eB (iF (aL (own_below ho hb) o) hg fun g he e=>hd g he e.symm) (by show w.heap.size+2<w.heap.size+3;omega) u
theorem iB{vo va:Value}{lo:List Int}(ho:wr.ownsRow (w.heap.size+3) 3 1 vo lo.length (lo.map (int i64)))(hb:Below wr.heap.size wr w1)(hd:∀g,vo.ownBlock=some g→va.ownBlock≠some g)(hat:va.ownBlock=some gg∨gg=w1.heap.size+1)(n:Nat):
 ∀g,vo.ownBlock=some g→(Value.slice (some ⟨gg,0,none⟩) n cap).ownBlock≠some g:=fun g he e=>by
 have e':gg=g:=by simpa [Value.ownBlock] using e
 subst e'
 rcases hat with h|h
 ·exact hd _ he h
 ·have:=(bG ho he).2;have:=hb.size;omega
theorem dL{va:Value}{b:Nat}{t:TypeId}{cs:Array Value}(h:Whole wr b t cs)(hb:Below wr.heap.size wr w1)(hg:(w1.alloc o).grownBy w2 va.ownBlock)(hne:va.ownBlock≠some b):Whole w2 b t cs:=
 ((h.below hb h.lt).alloc o).grown hg fun e=>hne e.symm
theorem qG{va:Value}{la:List Int}(h:Below w.heap.size w wr)(ha:wr.ownsRow (w.heap.size+3) 3 1 va la.length (la.map (int i64)))(hb:Below wr.heap.size wr w1)(hg:(w1.alloc o).grownBy w2 va.ownBlock)(i:Nat)(u:Value):
 Below w.heap.size w (w2.setCell ⟨w.heap.size+2,i,none⟩ u):=by
 have h1:=h.size
 have h2:=hb.size
 exact(((h.trans (hb.mono zo)).alloc zo o).grown hg zm (fun k hk=>by have:=(bG ha hk).1;omega)).setCell (by show w.heap.size≤w.heap.size+2;omega) u
theorem iO{va:Value}{la:List Int}{b:Nat}(ha:wr.ownsRow (w.heap.size+3) 3 1 va la.length (la.map (int i64)))(hlt:b<w.heap.size+3):va.ownBlock≠some b:=fun e=>by have:=(bG ha e).1;omega
theorem Zu{l:List Int}{k:Nat}{q:Nat→Prop}(h:l.Pairwise (· < ·))(hl:∀x∈l,∃i:Nat,x=i∧i<k∧q i):(l ++ [(k:Int)]).Pairwise (· < ·):=by
 rw[List.pairwise_append]
 refine⟨h,List.pairwise_singleton _ _,fun x hx y hy=>?_⟩
 obtain rfl:=List.mem_singleton.1 hy
 obtain⟨i,rfl,hi,_⟩:=hl x hx
 omega
theorem NT{l:List Int}{k:Nat}{q:Nat→Prop}(hl:∀x∈l,∃i:Nat,x=i∧i<k∧q i)(hk:q k):∀x∈l ++ [(k:Int)],∃i:Nat,x=i∧i<k+1∧q i:=fun x hx=>by
 rcases List.mem_append.1 hx with h|h
 ·obtain⟨i,h1,h2,h3⟩:=hl x h;exact⟨i,h1,zo,h3⟩
 ·exact⟨k,List.mem_singleton.1 h,zo,hk⟩
theorem gB.alloc(h:gB w wr bx v1 v2 v3 l1 l2 l3)(o:Obj):gB w (wr.alloc o) bx v1 v2 v3 l1 l2 l3:=
 ⟨h.box.alloc o,h.res.alloc o,h.p.alloc o,aL h.r1 o,aL h.r2 o,aL h.r3 o,h.d12,h.d13,h.d23,h.below.alloc h.below.size o⟩
theorem gB.step1(h:gB w wr bx v1 v2 v3 l1 l2 l3)(hb:Below wr.heap.size wr w1)(hg:(w1.alloc o).grownBy w2 v1.ownBlock)(hat:v1.ownBlock=some gg∨gg=w1.heap.size+1)
 (hown:w2.ownsRow (w.heap.size+3) 3 1 (.slice (some ⟨gg,0,none⟩) (l1.length+1) cap) (l1.length+1) (l1.map (int i64) ++ [int i64 x])):
 gB w (w2.setCell ⟨w.heap.size+2,0,none⟩ (.slice (some ⟨gg,0,none⟩) (l1.length+1) cap)) bx (.slice (some ⟨gg,0,none⟩) (l1.length+1) cap) v2 v3 (l1 ++ [x]) l2 l3 where
 box:=(dL h.box hb hg (iO h.r1 zo)).other (by show w.heap.size≠w.heap.size+2;omega) _
 res:=(dL h.res hb hg (iO h.r1 zo)).other (by show w.heap.size+1≠w.heap.size+2;omega) _
 p:=(dL h.p hb hg (iO h.r1 zo)).set 0 _
 r1:=by
  have:=eB hown (p:=⟨w.heap.size+2,0,none⟩) (by show w.heap.size+2<w.heap.size+3;omega) (.slice (some ⟨gg,0,none⟩) (l1.length+1) cap)
  simpa using this
 r2:=jF h.r2 hb hg (fun g e e'=>h.d12 g e' e) 0 _
 r3:=jF h.r3 hb hg (fun g e e'=>h.d13 g e' e) 0 _
 d12:=fun g e e'=>iB h.r2 hb (fun g e e'=>h.d12 g e' e) hat _ g e' e
 d13:=fun g e e'=>iB h.r3 hb (fun g e e'=>h.d13 g e' e) hat _ g e' e
 d23:=h.d23
 below:=qG h.below h.r1 hb hg 0 _
theorem gB.step2(h:gB w wr bx v1 v2 v3 l1 l2 l3)(hb:Below wr.heap.size wr w1)(hg:(w1.alloc o).grownBy w2 v2.ownBlock)(hat:v2.ownBlock=some gg∨gg=w1.heap.size+1)
 (hown:w2.ownsRow (w.heap.size+3) 3 1 (.slice (some ⟨gg,0,none⟩) (l2.length+1) cap) (l2.length+1) (l2.map (int i64) ++ [int i64 x])):
 gB w (w2.setCell ⟨w.heap.size+2,1,none⟩ (.slice (some ⟨gg,0,none⟩) (l2.length+1) cap)) bx v1 (.slice (some ⟨gg,0,none⟩) (l2.length+1) cap) v3 l1 (l2 ++ [x]) l3 where
 box:=(dL h.box hb hg (iO h.r2 zo)).other (by show w.heap.size≠w.heap.size+2;omega) _
 res:=(dL h.res hb hg (iO h.r2 zo)).other (by show w.heap.size+1≠w.heap.size+2;omega) _
 p:=(dL h.p hb hg (iO h.r2 zo)).set 1 _
 r1:=jF h.r1 hb hg (fun g e e'=>h.d12 g e e') 1 _
 r2:=by
  have:=eB hown (p:=⟨w.heap.size+2,1,none⟩) (by show w.heap.size+2<w.heap.size+3;omega) (.slice (some ⟨gg,0,none⟩) (l2.length+1) cap)
  simpa using this
 r3:=jF h.r3 hb hg (fun g e e'=>h.d23 g e' e) 1 _
 d12:=fun g e e'=>iB h.r1 hb (fun g e e'=>h.d12 g e e') hat _ g e e'
 d13:=h.d13
 d23:=fun g e e'=>iB h.r3 hb (fun g e e'=>h.d23 g e' e) hat _ g e' e
 below:=qG h.below h.r2 hb hg 1 _
theorem gB.vd(h:gB w wr bx v1 v2 v3 l1 l2 l3)(hb:Below wr.heap.size wr w1)(hg:(w1.alloc o).grownBy w2 v3.ownBlock)(hat:v3.ownBlock=some gg∨gg=w1.heap.size+1)
 (hown:w2.ownsRow (w.heap.size+3) 3 1 (.slice (some ⟨gg,0,none⟩) (l3.length+1) cap) (l3.length+1) (l3.map (int i64) ++ [int i64 x])):
 gB w (w2.setCell ⟨w.heap.size+2,2,none⟩ (.slice (some ⟨gg,0,none⟩) (l3.length+1) cap)) bx v1 v2 (.slice (some ⟨gg,0,none⟩) (l3.length+1) cap) l1 l2 (l3 ++ [x]) where
 box:=(dL h.box hb hg (iO h.r3 zo)).other (by show w.heap.size≠w.heap.size+2;omega) _
 res:=(dL h.res hb hg (iO h.r3 zo)).other (by show w.heap.size+1≠w.heap.size+2;omega) _
 p:=(dL h.p hb hg (iO h.r3 zo)).set 2 _
 r1:=jF h.r1 hb hg (fun g e e'=>h.d13 g e e') 2 _
 r2:=jF h.r2 hb hg (fun g e e'=>h.d23 g e e') 2 _
 r3:=by
  have:=eB hown (p:=⟨w.heap.size+2,2,none⟩) (by show w.heap.size+2<w.heap.size+3;omega) (.slice (some ⟨gg,0,none⟩) (l3.length+1) cap)
  simpa using this
 d12:=h.d12
 d13:=fun g e e'=>iB h.r1 hb (fun g e e'=>h.d13 g e e') hat _ g e e'
 d23:=fun g e e'=>iB h.r2 hb (fun g e e'=>h.d23 g e e') hat _ g e e'
 below:=qG h.below h.r3 hb hg 2 _
end
section
variable{days most:Int}{gA mA cA:Option Addr}{ng gc nm mc nc cc:Nat}{g:Nat→Good}{m:Nat→Mv}{c:Nat→Ct}
theorem Ul(ok:Bk.Ok ⟨days,most,gA,ng,gc,g,mA,nm,mc,m,cA,nc,cc,c⟩)(w:World)(h:(⟨days,most,gA,ng,gc,g,mA,nm,mc,m,cA,nc,cc,c⟩:Bk).At w w.heap.size)
 (pA:Option Addr)(np pc:Nat)(ps:Nat→Int)(hp:wP w w.heap.size pA np ps)(hnp:np≤maxLen)(bits:Int):
 CallsIn FF 0 prog 6 #[.agg #[int i64 days,int i64 most,.slice gA ng gc,.slice mA nm mc,.slice cA nc cc],.slice pA np pc,.int .u8 bits] w (Fj ⟨days,most,gA,ng,gc,g,mA,nm,mc,m,cA,nc,cc,c⟩ w):=by
 have Hh:=hid h
 have Hp:=hid hp
 have uU:=ok.dn.1
 simp only at uU
 obtain⟨LF,te⟩:=uU
 have hnm:=ok.moves.1
 simp only at hnm
 have Th:=hid ok
 clear h hp ok
 gi_enter func6,ntmps6
 gi_wp2
 go_outline
 gi_loopw [8] (fun i wr=>∃ (k:Nat) (v1:Value) (l1:List Int),k≤ng∧i=int i64 k∧Hid (gB w wr #[int i64 days,int i64 most,.slice gA ng gc,.slice mA nm mc,.slice cA nc cc] v1 (.slice none 0 0) (.slice none 0 0) l1 [] []∧l1.length=k∧∀x∈l1,0≤x∧x≤99)) (fun i _=>ng - (intOf i).toNat)
 case atStart=>exact⟨0,.slice none 0 0,[],Nat.zero_le _,rfl,hid ⟨⟨((Whole.new w _ _).alloc _).alloc _,(by have:=(Whole.new (w.alloc (.cells #[int i64 days,int i64 most,.slice gA ng gc,.slice mA nm mc,.slice cA nc cc] 26)) 32 #[.slice none 0 0,.slice none 0 0,.slice none 0 0]).alloc (.cells #[.slice none 0 0,.slice none 0 0,.slice none 0 0] 32);simpa using this),(by have:=Whole.new ((w.alloc (.cells #[int i64 days,int i64 most,.slice gA ng gc,.slice mA nm mc,.slice cA nc cc] 26)).alloc (.cells #[.slice none 0 0,.slice none 0 0,.slice none 0 0] 32)) 32 #[.slice none 0 0,.slice none 0 0,.slice none 0 0];simpa using this),ji _ _ _,ji _ _ _,ji _ _ _,(fun g h=>by cases h),(fun g h=>by cases h),(fun g h=>by cases h),bw⟩,rfl,fun x h=>by cases h⟩⟩
 case round=>
  obtain⟨k,v1,l1,hk,rfl,hR⟩:=hrel
  have q1:∀o,wr.cell? ⟨w.heap.size,o,none⟩=(#[int i64 days,int i64 most,.slice gA ng gc,.slice mA nm mc,.slice cA nc cc]:Array Value)[o]?:=fun o=>hR.out.1.box.cell o
  have q2:wr.cell? ⟨w.heap.size+2,0,none⟩=some v1:=hR.out.1.p.cell 0
  have q3:wr.frozen? ⟨w.heap.size+2,0,none⟩=false:=hR.out.1.p.thaw 0
  by_cases hlt:k<ng
  ·obtain⟨ad,hA,-⟩:=Hh.out.g (show 0<ng by omega)
   simp only at hA
   subst hA
   have hr:=((Hh.out.g).below hR.out.1.below).row hlt
   have c3:wr.cell? ⟨(ad.add (k * 5)).block,(ad.add (k * 5)).off+3,none⟩=some (int i64 (g k).lo):=hr.2 3 zD
   have c4:wr.cell? ⟨(ad.add (k * 5)).block,(ad.add (k * 5)).off+3+1,none⟩=some (int i64 (g k).hi):=hr.2 4 zD
   have he:(ad.add (k * 5)).block<w.heap.size:=by rw[aD];exact hr.1
   clear hr
   have q4:wr.cell? ⟨w.heap.size,2,none⟩=some (.slice (some ad) ng gc):=q1 2
   have hB:=hR.out.1.below
   have hsz:w.heap.size+1+1<wr.heap.size:=hR.out.1.p.lt
   have i1:(0:Int)≤(k:Int):=Int.natCast_nonneg _
   have i2:(k:Int)<(ng:Int):=zo
   have hf:=(Th.out.dn.2 k hlt).few
   simp only at hf
   have hf':=Gc hf
   clear hf
   obtain⟨f1,f2,f3⟩:=hf'
   have hpk:=MV Hp.out.2 k
   obtain⟨AS,AT⟩:=hpk
   obtain⟨i0,hi,hz0,hz1,hz2⟩:=info_parts info3
   have hown:=hR.out.1.r1
   have hge:∀g,v1.ownBlock=some g→w.heap.size+1+1<g:=fun g hg=>(bG hown hg).1
   have Hg:=hid hge
   have hlen:l1.length≤3:=by rw[hR.out.2.1];omega
   clear hge
   gi_wp2
   refine fD 15 (fun w'=>w'.cell? ⟨w.heap.size+1+1,0,none⟩=some v1∧w'.cell? ⟨w.heap.size,2,none⟩=some (.slice (some ad) ng gc)∧w'.cell? ⟨(ad.add (k * 5)).block,(ad.add (k * 5)).off+3,none⟩=some (int i64 (g k).lo)∧w'.cell? ⟨(ad.add (k * 5)).block,(ad.add (k * 5)).off+3+1,none⟩=some (int i64 (g k).hi)) zk ?_
   have hS:wr.drew.cell? ⟨w.heap.size+1+1,0,none⟩=some v1∧wr.drew.cell? ⟨w.heap.size,2,none⟩=some (.slice (some ad) ng gc)∧wr.drew.cell? ⟨(ad.add (k * 5)).block,(ad.add (k * 5)).off+3,none⟩=some (int i64 (g k).lo)∧wr.drew.cell? ⟨(ad.add (k * 5)).block,(ad.add (k * 5)).off+3+1,none⟩=some (int i64 (g k).hi):=⟨q2,q4,c3,c4⟩
   have sW:∀w':World,w'.heap[w.heap.size+1+1]? =wr.heap[w.heap.size+1+1]?→w'.heap[w.heap.size]? =wr.heap[w.heap.size]?→w'.heap[(ad.add (k * 5)).block]? =wr.heap[(ad.add (k * 5)).block]?→(w'.cell? ⟨w.heap.size+1+1,0,none⟩=some v1∧w'.cell? ⟨w.heap.size,2,none⟩=some (.slice (some ad) ng gc)∧w'.cell? ⟨(ad.add (k * 5)).block,(ad.add (k * 5)).off+3,none⟩=some (int i64 (g k).lo)∧w'.cell? ⟨(ad.add (k * 5)).block,(ad.add (k * 5)).off+3+1,none⟩=some (int i64 (g k).hi)):=fun w' e1 e2 e3=>
    ⟨(World.cell?_of_block (a:=⟨w.heap.size+1+1,0,none⟩) e1).trans q2,(World.cell?_of_block (a:=⟨w.heap.size,2,none⟩) e2).trans q4,(World.cell?_of_block (a:=⟨(ad.add (k * 5)).block,(ad.add (k * 5)).off+3,none⟩) e3).trans c3,(World.cell?_of_block (a:=⟨(ad.add (k * 5)).block,(ad.add (k * 5)).off+3+1,none⟩) e3).trans c4⟩
   refine mo (i:=0) (some 18) hS ?_
   simp only[Act.put,List.setIfInBounds_toArray,List.set]
   refine mo (i:=1) (some 19) hS ?_
   simp only[Act.put,List.setIfInBounds_toArray,List.set]
   refine mo (i:=2) (some 20) hS ?_
   simp only[Act.put,List.setIfInBounds_toArray,List.set]
   refine mo (i:=3) (some 21) hS ?_
   simp only[Act.put,List.setIfInBounds_toArray,List.set]
   refine mo (i:=4) (some 22) hS ?_
   simp only[Act.put,List.setIfInBounds_toArray,List.set]
   refine mo (i:=5) (some 23) hS ?_
   simp only[Act.put,List.setIfInBounds_toArray,List.set]
   refine mo (i:=6) (some 24) hS ?_
   simp only[Act.put,List.setIfInBounds_toArray,List.set]
   refine mo (i:=7) (some 25) hS ?_
   simp only[Act.put,List.setIfInBounds_toArray,List.set]
   refine mo (i:=8) (some 26) hS ?_
   simp only[Act.put,List.setIfInBounds_toArray,List.set]
   refine mo (i:=9) (some 27) hS ?_
   simp only[Act.put,List.setIfInBounds_toArray,List.set]
   refine aN 10 fun K hK=>?_
   go_simp
   refine(xu _ _ _ ps k w.heap.size _ ⟨Hp.out.1.below (dH hB),Hp.out.2⟩ hnp).mono ?_
   rintro e w' ⟨rfl,rfl⟩
   refine hK.out _ _ (fun _=>hS) ?_
   clear hK K
   refine aN 11 fun K hK=>?_
   go_simp
   refine(MR _ _ _ _ f1 f2 f3 AS AT).mono ?_
   rintro e w1 ⟨rfl,hb1⟩
   have bs:w.heap.size≤wr.heap.size:=hB.size
   have x1:w1.heap[w.heap.size+1+1]? =wr.heap[w.heap.size+1+1]?:=hb1.block _ hsz
   have x2:w1.heap[w.heap.size]? =wr.heap[w.heap.size]?:=hb1.block _ (by show w.heap.size<wr.heap.size;omega)
   have x3:w1.heap[(ad.add (k * 5)).block]? =wr.heap[(ad.add (k * 5)).block]?:=hb1.block _ (by show _<wr.heap.size;omega)
   have hs1:wr.heap.size≤w1.heap.size:=hb1.size
   refine hK.out _ _ (fun _=>sW _ x1 x2 x3) ?_
   clear hK K
   refine aN 12 fun K hK=>?_
   go_simp
   have y1:=(Below.heap_alloc w1 (.cells #[int i64 ((g k).lo+pick np ps k % ((g k).hi - (g k).lo+1))] 3) (w.heap.size+1+1) zo).trans x1
   have y2:=(Below.heap_alloc w1 (.cells #[int i64 ((g k).lo+pick np ps k % ((g k).hi - (g k).lo+1))] 3) w.heap.size zo).trans x2
   have y3:=(Below.heap_alloc w1 (.cells #[int i64 ((g k).lo+pick np ps k % ((g k).hi - (g k).lo+1))] 3) (ad.add (k * 5)).block zo).trans x3
   refine hK.out _ _ (fun _=>sW _ y1 y2 y3) ?_
   clear hK K
   refine aN 13 fun K hK=>?_
   refine bF rfl zr zr (step_append_lies (E:=True) _ zr _ _ _ zr (w.heap.size+3) 3 i0 _ 1 8 underlying30 hi hz0 hz1 hz2 rfl zo v1 l1.length _ zr (aL (own_below (w:=wr.drew) hown hb1) _) ⟨w1.heap.size,0,none⟩ 1 1 [_] zr zr (World.news_of_block (heap_alloc_new w1 _)) (by simp[Value.oneCell']) zo zu zo zm (w1.heap.size+1) zs ?_)
   intro gg cap w2 hown2 hgrow hat hlt2
   have z1:=(hgrow.block (w.heap.size+1+1) zm (fun e=>by have:=Hg.out _ e.symm;omega)).trans y1
   have z2:=(hgrow.block w.heap.size zm (fun e=>by have:=Hg.out _ e.symm;omega)).trans y2
   have z3:=(hgrow.block (ad.add (k * 5)).block zm (fun e=>by have:=Hg.out _ e.symm;omega)).trans y3
   refine hK.out _ _ (fun _=>sW _ z1 z2 z3) ?_
   clear hK K
   refine aN 14 fun K hK=>?_
   go_simp
   refine hK.out _ _ (fun _=>sW _ z1 z2 z3) ?_
   clear hK K
   have zf:w2.frozen? ⟨w.heap.size+1+1,0,none⟩=false:=(World.frozen?_of_block (a:=⟨w.heap.size+1+1,0,none⟩) z1).trans q3
   have zc:w2.cell? ⟨w.heap.size+1+1,0,none⟩=some v1:=(World.cell?_of_block (a:=⟨w.heap.size+1+1,0,none⟩) z1).trans q2
   refine aN 15 fun K hK=>?_
   go_simp
   refine hK.out _ _ (fun h=>absurd rfl h) ?_
   clear hK K
   refine aC zk ?_ _
   gi_wp2
   go_roundw
   case rel=>exact⟨k+1,_,l1 ++ [(g k).lo+pick np ps k % ((g k).hi - (g k).lo+1)],zo,by go_num,hid ⟨hR.out.1.step1 (nN hb1) hgrow hat hown2,by rw[List.length_append,hR.out.2.1];rfl,fun x hx=>by rcases List.mem_append.1 hx with h|h;exact hR.out.2.2 x h;obtain rfl:=List.mem_singleton.1 h;exact TW f1 f2 f3 _⟩⟩
   case measure=>simp[intOf];omega
  ·obtain rfl:ng=k:=zo
   gi_wp2
   clear q1 q2 q3
   obtain⟨wo,rfl⟩:∃wo:World,wo=wr:=⟨_,rfl⟩
   gi_loopw [9] (fun i wr=>∃ (k:Nat) (v2:Value) (A3:Option Addr) (n3 p3:Nat) (l2 l3:List Int),k≤nm∧i=int i64 k∧Hid (gB w wr #[int i64 days,int i64 most,.slice gA ng gc,.slice mA nm mc,.slice cA nc cc] v1 v2 (.slice A3 n3 p3) l1 l2 l3∧n3=l3.length∧l2.length=k∧(∀x∈l2,0≤x∧x≤99)∧l3.Pairwise (· < ·)∧l3.length≤k∧∀x∈l3,∃i:Nat,x=i∧i<k∧(m i).kind=0)) (fun i _=>nm - (intOf i).toNat)
   case atStart=>exact⟨0,.slice none 0 0,none,0,0,[],[],Nat.zero_le _,rfl,hid ⟨hR.out.1,rfl,rfl,fun x h=>(by cases h),.nil,Nat.le_refl _,fun x h=>(by cases h)⟩⟩
   case round=>
    obtain⟨k,v2,A3,n3,p3,l2,l3,hk2,rfl,hR2⟩:=hrel
    have q1:∀o,wr.cell? ⟨w.heap.size,o,none⟩=(#[int i64 days,int i64 most,.slice gA ng gc,.slice mA nm mc,.slice cA nc cc]:Array Value)[o]?:=fun o=>hR2.out.1.box.cell o
    have q2:wr.cell? ⟨w.heap.size+1+1,1,none⟩=some v2:=hR2.out.1.p.cell 1
    have q22:wr.cell? ⟨w.heap.size+1+1,2,none⟩=some (.slice A3 n3 p3):=hR2.out.1.p.cell 2
    have q3:wr.frozen? ⟨w.heap.size+1+1,1,none⟩=false:=hR2.out.1.p.thaw 1
    have hB:=hR2.out.1.below
    have hsz:w.heap.size+1+1<wr.heap.size:=hR2.out.1.p.lt
    have hsz0:w.heap.size<wr.heap.size:=zo
    by_cases hlt:k<nm
    ·obtain⟨ad,hA,-⟩:=Hh.out.m (show 0<nm by omega)
     simp only at hA
     subst hA
     have hr:=((Hh.out.m).below hB).row hlt
     have c0:wr.cell? (ad.add (k * 5))=some (int i64 (m k).kind):=hr.2 0 zD
     have c1:wr.cell? ⟨(ad.add (k * 5)).block,(ad.add (k * 5)).off+1,none⟩=some (int i64 (m k).good):=hr.2 1 zD
     have c2:wr.cell? ⟨(ad.add (k * 5)).block,(ad.add (k * 5)).off+2,none⟩=some (int i64 (m k).day):=hr.2 2 zD
     have c3:wr.cell? ⟨(ad.add (k * 5)).block,(ad.add (k * 5)).off+3,none⟩=some (int i64 (m k).lo):=hr.2 3 zD
     have c4:wr.cell? ⟨(ad.add (k * 5)).block,(ad.add (k * 5)).off+4,none⟩=some (int i64 (m k).hi):=hr.2 4 zD
     clear hr
     gi_wp2
     have hX:=Whole.new wr 41 #[int i64 (m k).kind,int i64 (m k).good,int i64 (m k).day,int i64 (m k).lo,int i64 (m k).hi]
     have fg:=hid (hR2.out.1.alloc (.cells #[int i64 (m k).kind,int i64 (m k).good,int i64 (m k).day,int i64 (m k).lo,int i64 (m k).hi] 41))
     have hsx:wr.heap.size<(wr.alloc (.cells #[int i64 (m k).kind,int i64 (m k).good,int i64 (m k).day,int i64 (m k).lo,int i64 (m k).hi] 41)).heap.size:=zs
     have hwr:Below wr.heap.size wr (wr.alloc (.cells #[int i64 (m k).kind,int i64 (m k).good,int i64 (m k).day,int i64 (m k).lo,int i64 (m k).hi] 41)):=(Below.refl _ _).alloc (Nat.le_refl _) _
     have hv2:∀g,v2.ownBlock=some g→w.heap.size+1+1<g∧g<wr.heap.size:=fun g hg=>⟨(bG hR2.out.1.r2 hg).1,(bG hR2.out.1.r2 hg).2⟩
     have hv3:∀g,(Value.slice A3 n3 p3).ownBlock=some g→w.heap.size+1+1<g∧g<wr.heap.size:=fun g hg=>⟨(bG hR2.out.1.r3 hg).1,(bG hR2.out.1.r3 hg).2⟩
     have de:=hid hv2
     have Hv3:=hid hv3
     clear hv2 hv3 c0 c1 c2 c3 c4 q1 q2 q22 q3 hB
     generalize wr.alloc (.cells #[int i64 (m k).kind,int i64 (m k).good,int i64 (m k).day,int i64 (m k).lo,int i64 (m k).hi] 41)=wx at *
     have hXx:=hid hX
     have x3:wx.cell? ⟨wr.heap.size,3,none⟩=some (int i64 (m k).lo):=hX.cell 3
     have x4:wx.cell? ⟨wr.heap.size,4,none⟩=some (int i64 (m k).hi):=hX.cell 4
     clear hX
     have q2:wx.cell? ⟨w.heap.size+1+1,1,none⟩=some v2:=fg.out.p.cell 1
     have q3:wx.frozen? ⟨w.heap.size+1+1,1,none⟩=false:=fg.out.p.thaw 1
     have q4:wx.cell? ⟨w.heap.size,2,none⟩=some (.slice gA ng gc):=fg.out.box.cell 2
     have hf:=(Th.out.moves.2 k hlt).few
     simp only at hf
     have hf':=Gc hf
     clear hf
     obtain⟨f1,f2,f3⟩:=hf'
     have hpk:=MV Hp.out.2 (ng+k)
     obtain⟨AS,AT⟩:=hpk
     obtain⟨i0,hi,hz0,hz1,hz2⟩:=info_parts info3
     have hlen:l2.length≤6:=by rw[hR2.out.2.2.1];omega
     have e54:IntKind.i64.wrap ((ng:Int)+(k:Int))=((ng+k:Nat):Int):=by rw[IntWalk.i64_in _ zo];omega
     refine fD 15 (fun w'=>w'.cell? ⟨w.heap.size+1+1,1,none⟩=some v2∧w'.cell? ⟨w.heap.size,2,none⟩=some (.slice gA ng gc)∧w'.cell? ⟨wr.heap.size,3,none⟩=some (int i64 (m k).lo)∧w'.cell? ⟨wr.heap.size,4,none⟩=some (int i64 (m k).hi)) zk ?_
     have hS:wx.drew.cell? ⟨w.heap.size+1+1,1,none⟩=some v2∧wx.drew.cell? ⟨w.heap.size,2,none⟩=some (.slice gA ng gc)∧wx.drew.cell? ⟨wr.heap.size,3,none⟩=some (int i64 (m k).lo)∧wx.drew.cell? ⟨wr.heap.size,4,none⟩=some (int i64 (m k).hi):=⟨q2,q4,x3,x4⟩
     have sW:∀w':World,w'.heap[w.heap.size+1+1]? =wx.heap[w.heap.size+1+1]?→w'.heap[w.heap.size]? =wx.heap[w.heap.size]?→w'.heap[wr.heap.size]? =wx.heap[wr.heap.size]?→(w'.cell? ⟨w.heap.size+1+1,1,none⟩=some v2∧w'.cell? ⟨w.heap.size,2,none⟩=some (.slice gA ng gc)∧w'.cell? ⟨wr.heap.size,3,none⟩=some (int i64 (m k).lo)∧w'.cell? ⟨wr.heap.size,4,none⟩=some (int i64 (m k).hi)):=fun w' e1 e2 e3=>
      ⟨(World.cell?_of_block (a:=⟨w.heap.size+1+1,1,none⟩) e1).trans q2,(World.cell?_of_block (a:=⟨w.heap.size,2,none⟩) e2).trans q4,(World.cell?_of_block (a:=⟨wr.heap.size,3,none⟩) e3).trans x3,(World.cell?_of_block (a:=⟨wr.heap.size,4,none⟩) e3).trans x4⟩
     refine mo (i:=0) (some 45) hS ?_
     simp only[Act.put,List.setIfInBounds_toArray,List.set]
     refine mo (i:=1) (some 46) hS ?_
     simp only[Act.put,List.setIfInBounds_toArray,List.set]
     refine mo (i:=2) (some 47) hS ?_
     simp only[Act.put,List.setIfInBounds_toArray,List.set]
     refine mo (i:=3) (some 48) hS ?_
     simp only[Act.put,List.setIfInBounds_toArray,List.set]
     refine mo (i:=4) (some 49) hS ?_
     simp only[Act.put,List.setIfInBounds_toArray,List.set]
     refine mo (i:=5) (some 50) hS ?_
     simp only[Act.put,List.setIfInBounds_toArray,List.set]
     refine mo (i:=6) (some 51) hS ?_
     simp only[Act.put,List.setIfInBounds_toArray,List.set]
     refine mo (i:=7) (some 52) hS ?_
     simp only[Act.put,List.setIfInBounds_toArray,List.set]
     refine mo (i:=8) (some 53) hS ?_
     simp only[Act.put,List.setIfInBounds_toArray,List.set]
     refine mo (i:=9) (some 54) hS ?_
     simp only[Act.put,List.setIfInBounds_toArray,List.set]
     refine aN 10 fun K hK=>?_
     go_simp
     refine(xu _ _ _ ps (ng+k) w.heap.size _ ⟨Hp.out.1.below (dH fg.out.below),Hp.out.2⟩ hnp).mono ?_
     rintro e w' ⟨rfl,rfl⟩
     refine hK.out _ _ (fun _=>hS) ?_
     clear hK K
     refine aN 11 fun K hK=>?_
     go_simp
     refine(MR _ _ _ _ f1 f2 f3 AS AT).mono ?_
     rintro e w1 ⟨rfl,hb1⟩
     have x1:w1.heap[w.heap.size+1+1]? =wx.heap[w.heap.size+1+1]?:=hb1.block _ (by show _<wx.heap.size;omega)
     have x2:w1.heap[w.heap.size]? =wx.heap[w.heap.size]?:=hb1.block _ (by show _<wx.heap.size;omega)
     have x3':w1.heap[wr.heap.size]? =wx.heap[wr.heap.size]?:=hb1.block _ (by show _<wx.heap.size;omega)
     have hs1:wx.heap.size≤w1.heap.size:=hb1.size
     refine hK.out _ _ (fun _=>sW _ x1 x2 x3') ?_
     clear hK K
     refine aN 12 fun K hK=>?_
     go_simp
     have y1:=(Below.heap_alloc w1 (.cells #[int i64 ((m k).lo+pick np ps (ng+k) % ((m k).hi - (m k).lo+1))] 3) (w.heap.size+1+1) zo).trans x1
     have y2:=(Below.heap_alloc w1 (.cells #[int i64 ((m k).lo+pick np ps (ng+k) % ((m k).hi - (m k).lo+1))] 3) w.heap.size zo).trans x2
     have y3:=(Below.heap_alloc w1 (.cells #[int i64 ((m k).lo+pick np ps (ng+k) % ((m k).hi - (m k).lo+1))] 3) wr.heap.size zo).trans x3'
     refine hK.out _ _ (fun _=>sW _ y1 y2 y3) ?_
     clear hK K
     refine aN 13 fun K hK=>?_
     refine bF rfl zr zr (step_append_lies (E:=True) _ zr _ _ _ zr (w.heap.size+3) 3 i0 _ 1 8 underlying30 hi hz0 hz1 hz2 rfl zo v2 l2.length _ zr (aL (own_below (w:=wx.drew) fg.out.r2 hb1) _) ⟨w1.heap.size,0,none⟩ 1 1 [_] zr zr (World.news_of_block (heap_alloc_new w1 _)) (by simp[Value.oneCell']) zo zu zo zm (w1.heap.size+1) zs ?_)
     intro gg cap w2 hown2 hgrow hat hlt2
     have z1:=(hgrow.block (w.heap.size+1+1) zm (fun e=>by have:=(de.out _ e.symm).1;omega)).trans y1
     have z2:=(hgrow.block w.heap.size zm (fun e=>by have:=(de.out _ e.symm).1;omega)).trans y2
     have z3:=(hgrow.block wr.heap.size zm (fun e=>by have:=(de.out _ e.symm).2;omega)).trans y3
     refine hK.out _ _ (fun _=>sW _ z1 z2 z3) ?_
     clear hK K
     refine aN 14 fun K hK=>?_
     go_simp
     refine hK.out _ _ (fun _=>sW _ z1 z2 z3) ?_
     clear hK K
     have zf:w2.frozen? ⟨w.heap.size+1+1,1,none⟩=false:=(World.frozen?_of_block (a:=⟨w.heap.size+1+1,1,none⟩) z1).trans q3
     have zc:w2.cell? ⟨w.heap.size+1+1,1,none⟩=some v2:=(World.cell?_of_block (a:=⟨w.heap.size+1+1,1,none⟩) z1).trans q2
     refine aN 15 fun K hK=>?_
     go_simp
     refine hK.out _ _ (fun h=>absurd rfl h) ?_
     clear hK K
     refine aC zk ?_ _
     have wm:Hid (gB w (w2.setCell ⟨w.heap.size+1+1,1,none⟩ (.slice (some ⟨gg,0,none⟩) (l2.length+1) cap)) #[int i64 days,int i64 most,.slice gA ng gc,.slice (some ad) nm mc,.slice cA nc cc] v1 (.slice (some ⟨gg,0,none⟩) (l2.length+1) cap) (.slice A3 n3 p3) l1 (l2 ++ [(m k).lo+pick np ps (ng+k) % ((m k).hi - (m k).lo+1)]) l3):=hid (fg.out.step2 (nN hb1) hgrow hat hown2)
     have hX4:Hid (Whole (w2.setCell ⟨w.heap.size+1+1,1,none⟩ (.slice (some ⟨gg,0,none⟩) (l2.length+1) cap)) wr.heap.size 41 #[int i64 (m k).kind,int i64 (m k).good,int i64 (m k).day,int i64 (m k).lo,int i64 (m k).hi]):=hid ((hXx.out.of z3).other (by show wr.heap.size≠w.heap.size+2;omega) _)
     have hb2:∀x∈l2 ++ [(m k).lo+pick np ps (ng+k) % ((m k).hi - (m k).lo+1)],0≤x∧x≤99:=fun x hx=>by
      rcases List.mem_append.1 hx with h|h
      ·exact hR2.out.2.2.2.1 x h
      ·obtain rfl:=List.mem_singleton.1 h
       exact TW f1 f2 f3 _
     have hn2:(l2 ++ [(m k).lo+pick np ps (ng+k) % ((m k).hi - (m k).lo+1)]).length=k+1:=by rw[List.length_append,hR2.out.2.2.1];rfl
     have Hb2:=hid hb2
     have Nw:=hid hn2
     clear hS sW x1 x2 x3 x3' x4 y1 y2 y3 z1 z2 z3 q2 q3 q4 zf zc hXx hb2 hn2 hb1 hgrow hat hown2 hlt2 hwr fg e54 hs1 f1 f2 f3 AS AT hlen hsx
     generalize (l2 ++ [(m k).lo+pick np ps (ng+k) % ((m k).hi - (m k).lo+1)])=AI at *
     generalize w2.setCell ⟨w.heap.size+1+1,1,none⟩ (.slice (some ⟨gg,0,none⟩) (l2.length+1) cap)=wy at *
     have k0:wy.cell? ⟨wr.heap.size,0,none⟩=some (int i64 (m k).kind):=hX4.out.cell 0
     have k1:wy.cell? ⟨w.heap.size+1+1,2,none⟩=some (.slice A3 n3 p3):=wm.out.p.cell 2
     have k2:wy.cell? ⟨w.heap.size,1,none⟩=some (int i64 most):=wm.out.box.cell 1
     have k3:wy.frozen? ⟨w.heap.size+1+1,2,none⟩=false:=wm.out.p.thaw 2
     have k4:(0:Int)≤(k:Int):=Int.natCast_nonneg _
     have hl3:l3.length≤6:=by have:=hR2.out.2.2.2.2.2.1;omega
     have hw3:(.slice A3 n3 p3:Value).ownBlock≠some (w.heap.size+1+1):=iO wm.out.r3 zo
     have Wt:=hid hw3
     clear hw3
     gi_wp2_with (gi_at_builtin;refine aF rfl rfl rfl fun K5 jK=>?_;refine wp_append_lies _ _ _ _ rfl (w.heap.size+3) 3 i0 _ 1 8 underlying30 hi hz0 hz1 hz2 rfl zo (.slice A3 n3 p3) l3.length _ rfl (aL wm.out.r3 _) ⟨wy.heap.size,0,none⟩ 1 1 [_] rfl rfl (World.news_of_block (heap_alloc_new wy _)) (by simp[Value.oneCell']) zo zu zo (by have:=wm.out.p.lt;simp;omega) (wy.heap.size+1) zs ?_;intro rV qJ w5 hown5 aU nI qO;refine jK _ _ ?_;clear jK K5;have u1:=(dL wm.out.p (Below.refl _ _) aU Wt.out).thaw 2;have u2:=(dL wm.out.p (Below.refl _ _) aU Wt.out).cell 2)
     ·have hkd:(m k).kind=0:=by assumption
      go_roundw
      case rel=>exact⟨k+1,_,_,_,_,AI,l3 ++ [(k:Int)],zo,by go_num,hid ⟨wm.out.vd (Below.refl _ _) aU nI hown5,zs,Nw.out,Hb2.out,Zu hR2.out.2.2.2.2.1 hR2.out.2.2.2.2.2.2,by have:=hR2.out.2.2.2.2.2.1;simp;omega,NT hR2.out.2.2.2.2.2.2 hkd⟩⟩
      case measure=>simp[intOf];omega
     ·go_roundw
      case rel=>exact⟨k+1,_,_,_,_,AI,l3,zo,by go_num,hid ⟨wm.out,hR2.out.2.1,Nw.out,Hb2.out,hR2.out.2.2.2.2.1,Nat.le_succ_of_le hR2.out.2.2.2.2.2.1,fun x hx=>by obtain⟨i,h1,h2,h3⟩:=hR2.out.2.2.2.2.2.2 x hx;exact⟨i,h1,Nat.lt_succ_of_lt h2,h3⟩⟩⟩
      case measure=>simp[intOf];omega
     ·go_roundw
      case rel=>exact⟨k+1,_,_,_,_,AI,l3,zo,by go_num,hid ⟨wm.out,hR2.out.2.1,Nw.out,Hb2.out,hR2.out.2.2.2.2.1,Nat.le_succ_of_le hR2.out.2.2.2.2.2.1,fun x hx=>by obtain⟨i,h1,h2,h3⟩:=hR2.out.2.2.2.2.2.2 x hx;exact⟨i,h1,Nat.lt_succ_of_lt h2,h3⟩⟩⟩
      case measure=>simp[intOf];omega
     ·go_roundw
      case rel=>exact⟨k+1,_,_,_,_,AI,l3,zo,by go_num,hid ⟨wm.out,hR2.out.2.1,Nw.out,Hb2.out,hR2.out.2.2.2.2.1,Nat.le_succ_of_le hR2.out.2.2.2.2.2.1,fun x hx=>by obtain⟨i,h1,h2,h3⟩:=hR2.out.2.2.2.2.2.2 x hx;exact⟨i,h1,Nat.lt_succ_of_lt h2,h3⟩⟩⟩
      case measure=>simp[intOf];omega
    ·obtain rfl:nm=k:=zo
     obtain⟨A1,n1,p1,e1⟩:=fO hR2.out.1.r1
     obtain⟨A2,n2,p2,e2⟩:=fO hR2.out.1.r2
     subst e1
     subst e2
     have q2:wr.cell? ⟨w.heap.size+1+1,1,none⟩=some (.slice A2 n2 p2):=hR2.out.1.p.cell 1
     have q0:wr.cell? ⟨w.heap.size+1+1,0,none⟩=some (.slice A1 n1 p1):=hR2.out.1.p.cell 0
     have q5:∀o,wr.frozen? ⟨w.heap.size+1,o,none⟩=false:=fun o=>hR2.out.1.res.thaw o
     have q6:wr.cell? ⟨w.heap.size+1,0,none⟩=some (.slice none 0 0):=hR2.out.1.res.cell 0
     have q7:wr.cell? ⟨w.heap.size+1,1,none⟩=some (.slice none 0 0):=hR2.out.1.res.cell 1
     have q8:wr.cell? ⟨w.heap.size+1,2,none⟩=some (.slice none 0 0):=hR2.out.1.res.cell 2
     gi_wp2
     have hW:Whole (((wr.setCell ⟨w.heap.size+1,0,none⟩ (.slice A1 n1 p1)).setCell ⟨w.heap.size+1,1,none⟩ (.slice A2 n2 p2)).setCell ⟨w.heap.size+1,2,none⟩ (.slice A3 n3 p3)) (w.heap.size+1) 32 #[.slice A1 n1 p1,.slice A2 n2 p2,.slice A3 n3 p3]:=((hR2.out.1.res.set 0 _).set 1 _).set 2 _
     have w0:=hW.cell 0
     have w1:=hW.cell 1
     have w2:=hW.cell 2
     have hO:∀ {v:Value} {l:List Int},wr.ownsRow (w.heap.size+3) 3 1 v l.length (l.map (int i64))→(((wr.setCell ⟨w.heap.size+1,0,none⟩ (.slice A1 n1 p1)).setCell ⟨w.heap.size+1,1,none⟩ (.slice A2 n2 p2)).setCell ⟨w.heap.size+1,2,none⟩ (.slice A3 n3 p3)).ownsRow (w.heap.size+3) 3 1 v l.length (l.map (int i64)):=fun h=>
      eB (eB (eB h (by show w.heap.size+1<w.heap.size+3;omega) _) (by show w.heap.size+1<w.heap.size+3;omega) _) (by show w.heap.size+1<w.heap.size+3;omega) _
     have hBl:Below w.heap.size w (((wr.setCell ⟨w.heap.size+1,0,none⟩ (.slice A1 n1 p1)).setCell ⟨w.heap.size+1,1,none⟩ (.slice A2 n2 p2)).setCell ⟨w.heap.size+1,2,none⟩ (.slice A3 n3 p3)):=
      ((hB.setCell (by show w.heap.size≤w.heap.size+1;omega) _).setCell (by show w.heap.size≤w.heap.size+1;omega) _).setCell (by show w.heap.size≤w.heap.size+1;omega) _
     have hP:Fj ⟨days,most,gA,ng,gc,g,mA,nm,mc,m,cA,nc,cc,c⟩ w (.returned (.agg #[.slice A1 n1 p1,.slice A2 n2 p2,.slice A3 n3 p3])) (((wr.setCell ⟨w.heap.size+1,0,none⟩ (.slice A1 n1 p1)).setCell ⟨w.heap.size+1,1,none⟩ (.slice A2 n2 p2)).setCell ⟨w.heap.size+1,2,none⟩ (.slice A3 n3 p3)):=
      ⟨_,_,_,l1,l2,l3,rfl,⟨hR.out.2.1,hR2.out.2.2.1,hR.out.2.2,hR2.out.2.2.2.1,hR2.out.2.2.2.2.1,hR2.out.2.2.2.2.2.2⟩,hO hR2.out.1.r1,hO hR2.out.1.r2,hO hR2.out.1.r3,hBl⟩
     clear hW hO hBl q0 q1 q2 q22 q3 q5 q6 q7 q8
     generalize (((wr.setCell ⟨w.heap.size+1,0,none⟩ (.slice A1 n1 p1)).setCell ⟨w.heap.size+1,1,none⟩ (.slice A2 n2 p2)).setCell ⟨w.heap.size+1,2,none⟩ (.slice A3 n3 p3))=wf at *
     exact bodyPost_ret (v:=.agg #[.slice A1 n1 p1,.slice A2 n2 p2,.slice A3 n3 p3]) (by simp[results,results6,go_sem,w0,w1,w2]) rfl hP
end
end
end Go.Proofs.YtmjjocnfidnelaaGreat
