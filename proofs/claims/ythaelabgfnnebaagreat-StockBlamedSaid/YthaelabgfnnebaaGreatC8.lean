/- Far1 Far2 -/
import Derived.Test.YthaelabgfnnebaaGreatB5
import Derived.Conc.Events
set_option maxRecDepth 100000
set_option maxHeartbeats 16000000
set_option linter.unusedVariables false
set_option linter.unusedSectionVars false
open Go.IntKind(i64)
open Go.Value(int)
namespace Go.dS
section
variable{P:Program}
def fC{α:Type}:Result α→Prop
 | .ok _ _=>True
 | .halt (.panic _) _=>True
 | .halt .goexit _=>True
 | _=>False
def ET:Halt→Prop
 | .panic _| .goexit=>False
 | _=>True
def Dm(P:Program){α:Type}:Sem α→Prop
 | .pure _=>False
 | .load _ _ k=>∀v,Dm P (k v)
 | .store _ _ _ k=>Dm P k
 | .new _ k=>∀r,Dm P (k r)
 | .shape _ k=>∀x,Dm P (k x)
 | .freeze _ _ k=>Dm P k
 | .frozen _ k=>∀b,Dm P (k b)
 | .getObj _ k=>∀o,Dm P (k o)
 | .setObj _ _ k=>Dm P k
 | .choose _ k=>∀n,Dm P (k n)
 | .sys _ k=>∀r,Dm P (k r)
 | .program k=>Dm P (k P)
 | .mark _ k=>Dm P k
 | .halt h=>ET h
def qK{α:Type}:Result α→World
 | .ok _ w=>w
 | .halt _ w=>w
def kX{α:Type}(v:World):Result α→Result α
 | .ok a _=>.ok a v
 | .halt h _=>.halt h v
theorem aJ{α:Type}{h:Halt}{w:World}(hb:ET h):¬ fC (.halt h w:Result α):=by
 cases h <;> first|exact fun x=>x|exact fun _=>hb
theorem mH{α:Type}{m:Mode}{a:Addr}{v:Value}{k:Sem α}(h1:∀c,v≠.agg c)(h2:∀c,v≠.tuple c)(w:World)(es:Array Event):
 (Sem.store m a v k).runT P w es=match w.cell? a with
  | some _=>if w.frozen? a then(.halt (.unsupported (.unsafePointer "a write to bytes that a string shares")) w,es) else k.runT P (w.setCell a v) (es.push ⟨.cell a,true,m == .atomic⟩)
  | none=>match w.farStore P a v (m == .atomic) with
    | .ok (w,touched)=>k.runT P w (es ++ touched.toArray.map (⟨.cell ·,true,m == .atomic⟩))
    | .error h=>(.halt h w,es):=by
 cases v <;> first|rfl|exact absurd rfl (h1 _)|exact absurd rfl (h2 _)
theorem EG{w:World}{p:Program}{a:Addr}{at_:Bool}{h:Halt}(e:w.farLoad p a at_=.error h):ET h:=by
 unfold World.farLoad at e
 split at e
 ·split at e
  ·cases e
  ·cases e;trivial
 ·cases e
  unfold World.noCell
  split <;> trivial
theorem AA{w:World}{p:Program}{a:Addr}{v:Value}{at_:Bool}{h:Halt}(e:w.farStore p a v at_=.error h):ET h:=by
 unfold World.farStore at e
 split at e
 ·split at e
  ·cases e
  ·cases e;trivial
 ·cases e
  unfold World.noCell
  split <;> trivial
theorem Dm.run{α:Type}{s:Sem α}(h:Dm P s):∀ (w:World) (es:Array Event),¬ fC (s.runT P w es).1:=by
 induction s with
 | pure a=>exact h.elim
 | load m a k ih=>
   intro w es
   simp only[Sem.runT]
   split
   ·exact ih _ (h _) _ _
   ·split
    ·exact ih _ (h _) _ _
    ·exact aJ (EG (by assumption))
 | store m a v k ih=>
   intro w es
   by_cases h1:∀c,v≠.agg c
   ·by_cases h2:∀c,v≠.tuple c
    ·rw[mH h1 h2]
     split
     ·split
      ·exact aJ (by trivial)
      ·exact ih h _ _
     ·split
      ·exact ih h _ _
      ·exact aJ (AA (by assumption))
    ·simp only[ne_eq,Classical.not_forall,Classical.not_not] at h2
     obtain⟨c,rfl⟩:=h2
     simp only[Sem.runT]
     exact aJ (by trivial)
   ·simp only[ne_eq,Classical.not_forall,Classical.not_not] at h1
    obtain⟨c,rfl⟩:=h1
    simp only[Sem.runT]
    exact aJ (by trivial)
 | new o k ih=>intro w es;exact ih _ (h _) _ _
 | shape r k ih=>intro w es;exact ih _ (h _) _ _
 | freeze a n k ih=>intro w es;exact ih h _ _
 | frozen a k ih=>intro w es;exact ih _ (h _) _ _
 | getObj r k ih=>
   intro w es
   simp only[Sem.runT]
   split
   ·exact aJ (by trivial)
   ·exact ih _ (h _) _ _
   ·exact aJ (by trivial)
 | setObj r o k ih=>
   intro w es
   simp only[Sem.runT]
   split
   ·exact aJ (by trivial)
   ·exact ih h _ _
   ·exact aJ (by trivial)
 | choose q k ih=>
   intro w es
   simp only[Sem.runT]
   split
   ·exact ih _ (h _) _ _
   ·exact ih _ (h _) _ _
 | sys c k ih=>intro w es;exact ih _ (h _) _ _
 | program k ih=>intro w es;exact ih _ h _ _
 | mark m k ih=>intro w es;exact ih h _ _
 | halt h0=>intro w es;exact aJ h
structure Env where
 dead:Nat→Prop
 jh:FuncId→Code→Prop
instance:CoeFun Env fun _=>Nat→Prop:=⟨Env.dead⟩
def Env.loop(Z:Env)(r:Loop):Prop:=Z.jh r.fn r.assign∧Z.jh r.fn r.body∧∀j,r.pending=some j→Z.jh r.fn j
def Plain(Z:Env):Obj→Prop
 | .view _ _| .pending _ _=>False
 | .loop r=>Z.loop r
 | .deferred (some ds)=>ds=[]
 | _=>True
def ui:Halt→Prop
 | .unsupported (.initOrder _)=>False
 | _=>True
def X0(b:Nat):Obj:=.view ⟨b,0,none⟩ 0
structure Lv(Z:Env)(w:World):Prop where
 dead:∀b,Z b→w.heap[b]? =some (X0 b)
 live:∀b o,¬ Z b→w.heap[b]? =some o→Plain Z o
def Bd(P:Program)(Z:Env){α:Type}(s:Sem α):Prop:=∀w es,Lv Z w→¬ fC (s.runT P w es).1
theorem Dm.bd{Z:Env}{α:Type}{s:Sem α}(h:Dm P s):Bd P Z s:=fun w es _=>h.run w es
def Tm(P:Program)(Z:Env){α:Type}(Q:α→Prop):Sem α→Prop
 | .pure a=>Q a
 | .load _ a k=>¬ Z a.block→∀v,Tm P Z Q (k v)
 | .store _ a _ k=>¬ Z a.block→Tm P Z Q k
 | .new o k=>Plain Z o∧∀r,¬ Z r→Tm P Z Q (k r)
 | .shape r k=>Bd P Z (.shape r k)∨((¬ Z r→∀x,Tm P Z Q (k x))∧(Z r→Bd P Z (k none)))
 | .freeze _ _ k=>Tm P Z Q k
 | .frozen a k=>(¬ Z a.block→∀b,Tm P Z Q (k b))∧(Z a.block→Bd P Z (k false))
 | .getObj r k=>(¬ Z r→∀o,Plain Z o→Tm P Z Q (k o))∧(Z r→Bd P Z (k (X0 r)))
 | .setObj r o k=>¬ Z r∧Plain Z o∧Tm P Z Q k
 | .choose _ k=>∀n,Tm P Z Q (k n)
 | .sys c k=>c=.env∧∀r,Tm P Z Q (k r)
 | .program k=>Tm P Z Q (k P)
 | .mark m k=>m=.noRoom∧Tm P Z Q k
 | .halt h=>ui h
theorem Ye(w:World):∃r,∀v:World,v.os=w.os→v.sys .env=(r,v):=by
 refine⟨(World.sys w .env).1,fun v hv=>?_⟩
 obtain⟨heap,tape,drawn,os,output⟩:=v
 simp only at hv
 subst hv
 unfold World.sys Kernel.perform
 simp[Kernel.lengthOf,Kernel.named,Kernel.ofKernel,Kernel.stamps,Kernel.each,Kernel.env]
 rfl
def EU(Z:Env)(e:Event):Prop:=(e.loc=.mark .noRoom∨e.loc=.output)∨(∃a,e.loc=.cell a∧¬ Z a.block)∨∃r,e.loc=.obj r∧¬ Z r
structure oN(Z:Env)(K:Nat→Option Obj)(w v:World):Prop where
 size:v.heap.size=w.heap.size
 same:∀b,¬ Z b→v.heap[b]? =w.heap[b]?
 os:v.os=w.os
 output:v.output=w.output
 kept:∀b o,Z b→K b=some o→(∀c t f,o≠.cells c t f)→v.heap[b]? =some o
def Agree(n:Nat)(w v:World):Prop:=∀k,k<n→∀q,v.tape (v.drawn+k) q=w.tape (w.drawn+k) q
theorem Agree.le{n m:Nat}{w v:World}(h:Agree n w v)(l:m≤n):Agree m w v:=fun k hk=>h k (Nat.lt_of_lt_of_le hk l)
theorem Agree.shift{n m:Nat}{w v w1 v1:World}(h:Agree (m+n) w v)(h1:w1.drawn=w.drawn+m)(h2:w1.tape=w.tape)(h3:v1.drawn=v.drawn+m)(h4:v1.tape=v.tape):Agree n w1 v1:=fun k hk q=>by
 rw[h1,h2,h3,h4,Nat.add_assoc,Nat.add_assoc]
 exact h (m+k) zo q
section
variable{Z:Env}{K:Nat→Option Obj}{w v:World}
theorem Lv.in(h:Lv Z w){b:Nat}(hb:Z b):b<w.heap.size:=by
 exact(Array.getElem?_eq_some_iff.1 (h.dead b hb)).1
theorem Lv.cell(h:Lv Z w){a:Addr}{x:Value}(hx:w.cell? a=some x):¬ Z a.block:=fun hz=>by
 simp[World.cell?,h.dead _ hz,X0] at hx
theorem oN.cell(h:oN Z K w v){a:Addr}(hz:¬ Z a.block):v.cell? a=w.cell? a:=by simp only[World.cell?,h.same _ hz]
theorem oN.frozen(h:oN Z K w v){a:Addr}(hz:¬ Z a.block):v.frozen? a=w.frozen? a:=by simp only[World.frozen?,h.same _ hz]
theorem Cr{w:World}{b:Nat}(h:w.heap[b]? =some (X0 b))(p:Program)(u:TypeId)(a:Addr)(at_:Bool):∃e,w.seen p ⟨b,0,none⟩ u a at_=.error e:=by
 cases hs:w.seen p ⟨b,0,none⟩ u a at_ with
 | error e=>exact⟨e,rfl⟩
 | ok x=>
   exfalso
   unfold World.seen at hs
   simp only[bind,Except.bind,h,X0] at hs
   repeat' split at hs
   all_goals first|cases hs|simp_all [throw,throwThe,MonadExceptOf.throw]
theorem Ov{w:World}{b:Nat}(h:w.heap[b]? =some (X0 b))(p:Program)(a:Addr)(at_:Bool)(ha:a.block=b):∃e,w.farLoad p a at_=.error e∧ET e:=by
 subst ha
 obtain⟨e,he⟩:=Cr h p 0 a at_
 refine⟨.unsupported (.unsafePointer e),?_,trivial⟩
 unfold World.farLoad
 simp only[h,X0]
 unfold World.viewLoad
 simp only[he,bind,Except.bind]
theorem KF{w:World}{b:Nat}(h:w.heap[b]? =some (X0 b))(p:Program)(a:Addr)(x:Value)(at_:Bool)(ha:a.block=b):∃e,w.farStore p a x at_=.error e∧ET e:=by
 subst ha
 obtain⟨e,he⟩:=Cr h p 0 a at_
 have:∃e,w.viewStore p ⟨a.block,0,none⟩ 0 a x at_=.error e:=by
  unfold World.viewStore
  simp only[he,bind,Except.bind]
  split <;> exact⟨_,rfl⟩
 obtain⟨e2,he2⟩:=this
 refine⟨.unsupported (.unsafePointer e2),?_,trivial⟩
 unfold World.farStore
 simp only[h,X0,he2]
theorem Lv.far(h:Lv Z w){a:Addr}(hx:w.cell? a=none)(p:Program)(at_:Bool):∃e,w.farLoad p a at_=.error e∧ET e:=by
 by_cases hz:Z a.block
 ·exact Ov (h.dead _ hz) p a at_ rfl
 refine⟨w.noCell a sQ1,?_,?_⟩
 ·unfold World.farLoad
  split
  ·rename_i hv
   exact False.elim (show False from h.live _ _ hz hv)
  ·rfl
 ·unfold World.noCell
  split <;> trivial
theorem Lv.Ds(h:Lv Z w){a:Addr}(hx:w.cell? a=none)(p:Program)(x:Value)(at_:Bool):∃e,w.farStore p a x at_=.error e∧ET e:=by
 by_cases hz:Z a.block
 ·exact KF (h.dead _ hz) p a x at_ rfl
 refine⟨w.noCell a sQ2,?_,?_⟩
 ·unfold World.farStore
  split
  ·rename_i hv
   exact False.elim (show False from h.live _ _ hz hv)
  ·rfl
 ·unfold World.noCell
  split <;> trivial
theorem iW(w:World)(a:Addr)(x:Value)(b:Nat):(w.setCell a x).heap[b]? =(w.heap[b]?).map fun o=>if b=a.block then(match o with
 | .cells c elem frozen=>.cells (if a.spot.isSome then c else c.setIfInBounds a.off x) elem frozen
 | o=>o) else o:=by
 unfold World.setCell
 simp only[Array.getElem?_modify]
 by_cases e:a.block=b
 ·subst e
  simp only[if_true]
  rfl
 ·rw[if_neg e]
  have:¬ b=a.block:=fun e2=>e e2.symm
  simp only[this,if_false]
  cases w.heap[b]? <;> rfl
theorem Lv.setCell(h:Lv Z w){a:Addr}(hz:¬ Z a.block)(x:Value):Lv Z (w.setCell a x):=by
 refine⟨fun b hb=>?_,fun b o hb ho=>?_⟩
 ·rw[iW,h.dead b hb]
  have:¬ b=a.block:=fun e2=>hz (e2 ▸ hb)
  simp[this]
 ·rw[iW] at ho
  obtain⟨o',ho',rfl⟩:=Option.map_eq_some_iff.1 ho
  have:=h.live b o' hb ho'
  split
  ·cases o' <;> first|exact this|trivial
  ·exact this
theorem oN.setCell(h:oN Z K w v)(a:Addr)(x:Value):oN Z K (w.setCell a x) (v.setCell a x):=by
 refine⟨by simp[World.setCell,h.size],fun b hb=>?_,h.os,h.output,fun b o hb hk hn=>?_⟩
 ·rw[iW,iW,h.same b hb]
 ·rw[iW,h.kept b o hb hk hn]
  cases o <;> first|exact absurd rfl (hn _ _ _)|simp
theorem jL(w:World)(a:Addr)(n:Nat)(b:Nat):(w.freeze a n).heap[b]? =(w.heap[b]?).map fun o=>if b=a.block∧n≠0 then(match o with
 | .cells c elem (lo,hi)=>.cells c elem (if lo == hi then(a.off,a.off+n) else(min lo a.off,max hi (a.off+n)))
 | o=>o) else o:=by
 unfold World.freeze
 by_cases hn:n=0
 ·rw[if_pos hn]
  have:¬ (b=a.block∧n≠0):=fun h=>h.2 hn
  simp only[this,if_false]
  cases w.heap[b]? <;> rfl
 ·rw[if_neg hn]
  simp only[Array.getElem?_modify]
  by_cases e:a.block=b
  ·subst e
   simp only[if_true,true_and,ne_eq,hn,not_false_eq_true]
   rfl
  ·rw[if_neg e]
   have:¬ (b=a.block∧n≠0):=fun h=>e h.1.symm
   simp only[this,if_false]
   cases w.heap[b]? <;> rfl
theorem gM(w:World)(a:Addr)(n:Nat):(w.freeze a n).heap.size=w.heap.size∧(w.freeze a n).os=w.os∧(w.freeze a n).output=w.output∧(w.freeze a n).tape=w.tape∧(w.freeze a n).drawn=w.drawn:=by
 unfold World.freeze
 split
 ·exact⟨rfl,rfl,rfl,rfl,rfl⟩
 ·exact⟨zs,rfl,rfl,rfl,rfl⟩
theorem Lv.freeze(h:Lv Z w)(a:Addr)(n:Nat):Lv Z (w.freeze a n):=by
 refine⟨fun b hb=>?_,fun b o hb ho=>?_⟩
 ·rw[jL,h.dead b hb]
  simp only[Option.map_some,X0]
  split <;> rfl
 ·rw[jL] at ho
  obtain⟨o',ho',rfl⟩:=Option.map_eq_some_iff.1 ho
  have:=h.live b o' hb ho'
  split
  ·cases o' <;> first|exact this|trivial
  ·exact this
theorem oN.freeze(h:oN Z K w v)(a:Addr)(n:Nat):oN Z K (w.freeze a n) (v.freeze a n):=by
 obtain⟨w1,w2,w3,_,_⟩:=gM w a n
 obtain⟨v1,v2,v3,_,_⟩:=gM v a n
 refine⟨by rw[w1,v1,h.size],fun b hb=>?_,by rw[w2,v2,h.os],by rw[w3,v3,h.output],fun b o hb hk hn=>?_⟩
 ·rw[jL,jL,h.same b hb]
 ·rw[jL,h.kept b o hb hk hn]
  cases o <;> first|exact absurd rfl (hn _ _ _)|simp
theorem Lv.push(h:Lv Z w){o:Obj}(ho:Plain Z o):Lv Z {w with heap:=w.heap.push o }:=by
 refine⟨fun b hb=>?_,fun b o' hb ho'=>?_⟩
 ·have e:=h.dead b hb
  simp only[Array.getElem?_push_lt (h.in hb)]
  rw[← e,Array.getElem?_eq_getElem (h.in hb)]
 ·simp only[Array.getElem?_push] at ho'
  split at ho'
  ·cases ho';exact ho
  ·exact h.live b o' hb ho'
theorem oN.push(h:oN Z K w v)(o:Obj):oN Z K {w with heap:=w.heap.push o } {v with heap:=v.heap.push o }:=by
 refine⟨by simp[h.size],fun b hb=>?_,h.os,h.output,fun b o' hb hk hn=>?_⟩
 ·simp only[Array.getElem?_push,h.size,h.same b hb]
 ·have e:=h.kept b o' hb hk hn
  have hlt:=(Array.getElem?_eq_some_iff.1 e).1
  simp only[Array.getElem?_push,Nat.ne_of_lt hlt,if_false,e]
theorem Lv.set(h:Lv Z w){r:Nat}(hz:¬ Z r){o:Obj}(ho:Plain Z o):Lv Z {w with heap:=w.heap.setIfInBounds r o }:=by
 refine⟨fun b hb=>?_,fun b o' hb ho'=>?_⟩
 ·simp only[Array.getElem?_setIfInBounds_ne (show r≠b from fun e2=>hz (e2 ▸ hb))];exact h.dead b hb
 ·simp only[Array.getElem?_setIfInBounds] at ho'
  split at ho'
  ·split at ho'
   ·cases ho';exact ho
   ·cases ho'
  ·exact h.live b o' hb ho'
theorem oN.set(h:oN Z K w v){r:Nat}(hz:¬ Z r)(o:Obj):oN Z K {w with heap:=w.heap.setIfInBounds r o } {v with heap:=v.heap.setIfInBounds r o }:=by
 refine⟨by simp[h.size],fun b hb=>?_,h.os,h.output,fun b o' hb hk hn=>?_⟩
 ·simp only[Array.getElem?_setIfInBounds,h.size,h.same b hb]
 ·simp only[Array.getElem?_setIfInBounds_ne (show r≠b from fun e2=>hz (e2 ▸ hb))];exact h.kept b o' hb hk hn
end
structure Ran(P:Program)(Z:Env){α:Type}(Q:α→Prop)(s:Sem α)(w:World)(es:Array Event)(n:Nat)(new:Array Event)(r:Result α):Prop where
 run:s.runT P w es=(r,es ++ new)
 drawn:(qK r).drawn=w.drawn+n
 tape:(qK r).tape=w.tape
 lv:Lv Z (qK r)
 evs:∀e∈new,EU Z e
 val:∀a w',r=.ok a w'→Q a
 pO:∀ {K:Nat→Option Obj} (v:World) (es2:Array Event),oN Z K w v→Agree n w v→∃v',s.runT P v es2=(kX v' r,es2 ++ new)∧oN Z K (qK r) v'∧v'.drawn=v.drawn+n∧v'.tape=v.tape
theorem UL{Z:Env}{α:Type}{Q:α→Prop}{s:Sem α}:Tm P Z Q s→∀ {w:World} {es:Array Event},Lv Z w→fC (s.runT P w es).1→∃n new r,Ran P Z Q s w es n new r:=by
 induction s with
 | pure a=>
   intro h w es hl hg
   exact⟨0,#[],.ok a w,by simp[Sem.runT],rfl,rfl,hl,zs,(fun _ _ e=>by cases e;exact h),fun v es2 hs _=>⟨v,by simp[Sem.runT,kX],hs,rfl,rfl⟩⟩
 | load m a k ih=>
   intro h w es hl hg
   simp only[Sem.runT] at hg
   cases hv:w.cell? a with
   | none=>
     obtain⟨e,he,hb⟩:=hl.far hv P (m == .atomic)
     rw[hv,he] at hg
     exact absurd hg (aJ hb)
   | some x=>
     rw[hv] at hg
     have hz:=hl.cell hv
     obtain⟨n,new,r,R⟩:=ih x (h hz x) hl hg
     refine⟨n,#[⟨.cell a,false,m == .atomic⟩] ++ new,r,?_,R.drawn,R.tape,R.lv,fun e he=>?_,R.val,fun v es2 hs ha=>?_⟩
     ·simp only[Sem.runT,hv]
      rw[R.run,Array.push_eq_append,Array.append_assoc]
     ·rcases Array.mem_append.1 he with he|he
      ·simp only[List.mem_toArray,List.mem_singleton] at he
       subst he
       exact .inr (.inl ⟨a,rfl,hz⟩)
      ·exact R.evs e he
     ·obtain⟨v',e1,e2⟩:=R.pO v (es2.push ⟨.cell a,false,m == .atomic⟩) hs ha
      refine⟨v',?_,e2⟩
      simp only[Sem.runT,hs.cell hz,hv]
      rw[e1,Array.push_eq_append,Array.append_assoc]
 | store m a x k ih=>
   intro h w es hl hg
   by_cases h1:∀c,x≠.agg c
   ·by_cases h2:∀c,x≠.tuple c
    ·rw[mH h1 h2] at hg
     cases hv:w.cell? a with
     | none=>
       obtain⟨e,he,hb⟩:=hl.Ds hv P x (m == .atomic)
       rw[hv,he] at hg
       exact absurd hg (aJ hb)
     | some x0=>
       rw[hv] at hg
       have hz:=hl.cell hv
       cases hf:w.frozen? a with
       | true=>rw[hf] at hg;exact absurd hg (aJ (by trivial))
       | false=>
         rw[hf] at hg
         simp only[Bool.false_eq_true,if_false] at hg
         obtain⟨n,new,r,R⟩:=ih (h hz) (hl.setCell hz x) hg
         refine⟨n,#[⟨.cell a,true,m == .atomic⟩] ++ new,r,?_,R.drawn,R.tape,R.lv,fun e he=>?_,R.val,fun v es2 hs ha=>?_⟩
         ·rw[mH h1 h2]
          simp only[hv,hf,Bool.false_eq_true,if_false]
          rw[R.run,Array.push_eq_append,Array.append_assoc]
         ·rcases Array.mem_append.1 he with he|he
          ·simp only[List.mem_toArray,List.mem_singleton] at he
           subst he
           exact .inr (.inl ⟨a,rfl,hz⟩)
          ·exact R.evs e he
         ·obtain⟨v',e1,e2⟩:=R.pO (v.setCell a x) (es2.push ⟨.cell a,true,m == .atomic⟩) (hs.setCell a x) ha
          refine⟨v',?_,e2⟩
          rw[mH h1 h2]
          simp only[hs.cell hz,hs.frozen hz,hv,hf,Bool.false_eq_true,if_false]
          rw[e1,Array.push_eq_append,Array.append_assoc]
    ·simp only[ne_eq,Classical.not_forall,Classical.not_not] at h2
     obtain⟨c,rfl⟩:=h2
     simp only[Sem.runT] at hg
     exact absurd hg (aJ (by trivial))
   ·simp only[ne_eq,Classical.not_forall,Classical.not_not] at h1
    obtain⟨c,rfl⟩:=h1
    simp only[Sem.runT] at hg
    exact absurd hg (aJ (by trivial))
 | new o k ih=>
   intro h w es hl hg
   obtain⟨n,new,r,R⟩:=ih _ (h.2 w.heap.size fun hz=>Nat.lt_irrefl _ (hl.in hz)) (hl.push h.1) hg
   refine⟨n,new,r,R.run,R.drawn,R.tape,R.lv,R.evs,R.val,fun v es2 hs ha=>?_⟩
   obtain⟨v',e1,e2⟩:=R.pO _ es2 (hs.push o) ha
   refine⟨v',?_,e2⟩
   simp only[Sem.runT,hs.size]
   exact e1
 | shape b k ih=>
   intro h w es hl hg
   rcases h with h|h
   ·exact absurd hg (h w es hl)
   simp only[Sem.runT] at hg
   by_cases hz:Z b
   ·have e:w.shape? b=none:=by simp[World.shape?,hl.dead b hz,X0]
    rw[e] at hg
    exact absurd hg (h.2 hz w es hl)
   ·obtain⟨n,new,r,R⟩:=ih _ (h.1 hz _) hl hg
    refine⟨n,new,r,R.run,R.drawn,R.tape,R.lv,R.evs,R.val,fun v es2 hs ha=>?_⟩
    obtain⟨v',e1,e2⟩:=R.pO v es2 hs ha
    refine⟨v',?_,e2⟩
    have e:v.shape? b=w.shape? b:=by simp only[World.shape?,hs.same b hz]
    simp only[Sem.runT,e]
    exact e1
 | freeze a m k ih=>
   intro h w es hl hg
   obtain⟨_,_,_,w4,w5⟩:=gM w a m
   obtain⟨n,new,r,R⟩:=ih h (hl.freeze a m) hg
   refine⟨n,new,r,R.run,by rw[R.drawn,w5],by rw[R.tape,w4],R.lv,R.evs,R.val,fun v es2 hs ha=>?_⟩
   obtain⟨_,_,_,v4,v5⟩:=gM v a m
   obtain⟨v',e1,e2,e3,e4⟩:=R.pO (v.freeze a m) es2 (hs.freeze a m) (Agree.shift (m:=0) (w:=w) (v:=v) (by simpa using ha) w5 w4 v5 v4)
   exact⟨v',e1,e2,by rw[e3,v5],by rw[e4,v4]⟩
 | frozen a k ih=>
   intro h w es hl hg
   simp only[Sem.runT] at hg
   by_cases hz:Z a.block
   ·have e:w.frozen? a=false:=by simp[World.frozen?,hl.dead _ hz,X0]
    rw[e] at hg
    exact absurd hg (h.2 hz w es hl)
   ·obtain⟨n,new,r,R⟩:=ih _ (h.1 hz _) hl hg
    refine⟨n,new,r,R.run,R.drawn,R.tape,R.lv,R.evs,R.val,fun v es2 hs ha=>?_⟩
    obtain⟨v',e1,e2⟩:=R.pO v es2 hs ha
    refine⟨v',?_,e2⟩
    simp only[Sem.runT,hs.frozen hz]
    exact e1
 | getObj b k ih=>
   intro h w es hl hg
   have hg0:=hg
   simp only[Sem.runT] at hg
   by_cases hz:Z b
   ·exfalso
    rw[hl.dead b hz] at hg
    exact h.2 hz w _ hl hg
   cases ho:w.heap[b]? with
   | none=>rw[ho] at hg;exact absurd hg (aJ (by trivial))
   | some o=>
     by_cases hno:∀c e f,o≠.cells c e f
     ·have step:∀ (u:World) (es0:Array Event),u.heap[b]? =some o→(Sem.getObj b k).runT P u es0=(k o).runT P u (es0.push ⟨.obj b,false,o.isChan⟩):=fun u es0 hu=>by
       simp only[Sem.runT,hu]
       all_goals (cases o <;> first|rfl|exact absurd rfl (hno _ _ _))
      have hg2:fC ((k o).runT P w (es.push ⟨.obj b,false,o.isChan⟩)).1:=by
       rw[← step w es ho];exact hg0
      obtain⟨n,new,r,R⟩:=ih o (h.1 hz o (hl.live b o hz ho)) hl hg2
      refine⟨n,#[⟨.obj b,false,o.isChan⟩] ++ new,r,?_,R.drawn,R.tape,R.lv,fun e he=>?_,R.val,fun v es2 hs ha=>?_⟩
      ·rw[step w es ho,R.run,Array.push_eq_append,Array.append_assoc]
      ·rcases Array.mem_append.1 he with he|he
       ·simp only[List.mem_toArray,List.mem_singleton] at he
        subst he
        exact .inr (.inr ⟨b,rfl,hz⟩)
       ·exact R.evs e he
      ·obtain⟨v',e1,e2⟩:=R.pO v (es2.push ⟨.obj b,false,o.isChan⟩) hs ha
       exact⟨v',by rw[step v es2 ((hs.same b hz).trans ho),e1,Array.push_eq_append,Array.append_assoc],e2⟩
     ·simp only[ne_eq,Classical.not_forall,Classical.not_not] at hno
      obtain⟨c,e,f,rfl⟩:=hno
      rw[ho] at hg
      exact absurd hg (aJ (by trivial))
 | setObj b o k ih=>
   intro h w es hl hg
   have hg0:=hg
   simp only[Sem.runT] at hg
   cases hp:w.heap[b]? with
   | none=>rw[hp] at hg;exact absurd hg (aJ (by trivial))
   | some p=>
     by_cases hc:∀c e f,p≠.cells c e f
     ·have hz:¬ Z b:=h.1
      have step:∀ (u:World) (es0:Array Event),u.heap[b]? =some p→(Sem.setObj b o k).runT P u es0=k.runT P {u with heap:=u.heap.setIfInBounds b o } (es0.push ⟨.obj b,true,o.isChan⟩):=fun u es0 hu=>by
       simp only[Sem.runT,hu]
       all_goals (cases p <;> first|rfl|exact absurd rfl (hc _ _ _))
      have hg2:fC (k.runT P {w with heap:=w.heap.setIfInBounds b o } (es.push ⟨.obj b,true,o.isChan⟩)).1:=by
       rw[← step w es hp];exact hg0
      obtain⟨n,new,r,R⟩:=ih h.2.2 (hl.set hz h.2.1) hg2
      refine⟨n,#[⟨.obj b,true,o.isChan⟩] ++ new,r,?_,R.drawn,R.tape,R.lv,fun e he=>?_,R.val,fun v es2 hs ha=>?_⟩
      ·rw[step w es hp,R.run,Array.push_eq_append,Array.append_assoc]
      ·rcases Array.mem_append.1 he with he|he
       ·simp only[List.mem_toArray,List.mem_singleton] at he
        subst he
        exact .inr (.inr ⟨b,rfl,hz⟩)
       ·exact R.evs e he
      ·obtain⟨v',e1,e2⟩:=R.pO {v with heap:=v.heap.setIfInBounds b o } (es2.push ⟨.obj b,true,o.isChan⟩) (hs.set hz o) ha
       exact⟨v',by rw[step v es2 ((hs.same b hz).trans hp),e1,Array.push_eq_append,Array.append_assoc],e2⟩
     ·simp only[ne_eq,Classical.not_forall,Classical.not_not] at hc
      obtain⟨c,e,f,rfl⟩:=hc
      rw[hp] at hg
      exact absurd hg (aJ (by trivial))
 | choose q k ih=>
   intro h w es hl hg
   simp only[Sem.runT] at hg
   by_cases hf:q.forced=true
   ·rw[if_pos hf] at hg
    obtain⟨n,new,r,R⟩:=ih 0 (h 0) hl hg
    exact⟨n,new,r,by simp only[Sem.runT,if_pos hf];exact R.run,R.drawn,R.tape,R.lv,R.evs,R.val,fun v es2 hs ha=>by simp only[Sem.runT,if_pos hf];exact R.pO v es2 hs ha⟩
   ·rw[if_neg hf] at hg
    obtain⟨n,new,r,R⟩:=ih _ (h (q.cut (w.tape w.drawn q))) (w:={w with drawn:=w.drawn+1 }) ⟨hl.dead,hl.live⟩ hg
    refine⟨1+n,new,r,by simp only[Sem.runT,if_neg hf];exact R.run,by rw[R.drawn];simp only;omega,R.tape,R.lv,R.evs,R.val,fun v es2 hs ha=>?_⟩
    have e0:v.tape v.drawn q=w.tape w.drawn q:=by simpa using ha 0 zo q
    obtain⟨v',e1,e2,e3,e4⟩:=R.pO {v with drawn:=v.drawn+1 } es2 ⟨hs.size,hs.same,hs.os,hs.output,hs.kept⟩ (Agree.shift (m:=1) (w:=w) (v:=v) ha rfl rfl rfl rfl)
    exact⟨v',by simp only[Sem.runT,if_neg hf,e0];exact e1,e2,by rw[e3];simp only;omega,e4⟩
 | sys c k ih=>
   intro h w es hl hg
   obtain⟨rfl,h⟩:=h
   obtain⟨r0,hr⟩:=Ye w
   have e0:=hr w rfl
   simp only[Sem.runT,e0] at hg
   obtain⟨n,new,r,R⟩:=ih r0 (h r0) hl hg
   refine⟨n,#[⟨.output,true,false⟩] ++ new,r,?_,R.drawn,R.tape,R.lv,fun e he=>?_,R.val,fun v es2 hs ha=>?_⟩
   ·simp only[Sem.runT,e0]
    rw[R.run,Array.push_eq_append,Array.append_assoc]
   ·rcases Array.mem_append.1 he with he|he
    ·simp only[List.mem_toArray,List.mem_singleton] at he
     subst he
     exact .inl (.inr rfl)
    ·exact R.evs e he
   ·obtain⟨v',e1,e2⟩:=R.pO v (es2.push ⟨.output,true,false⟩) hs ha
    refine⟨v',?_,e2⟩
    simp only[Sem.runT,hr v hs.os]
    rw[e1,Array.push_eq_append,Array.append_assoc]
 | program k ih=>
   intro h w es hl hg
   obtain⟨n,new,r,R⟩:=ih P h hl hg
   exact⟨n,new,r,R.run,R.drawn,R.tape,R.lv,R.evs,R.val,fun v es2 hs ha=>R.pO v es2 hs ha⟩
 | mark m k ih=>
   intro h w es hl hg
   obtain⟨rfl,h⟩:=h
   obtain⟨n,new,r,R⟩:=ih h hl hg
   refine⟨n,#[⟨.mark .noRoom,false,true⟩] ++ new,r,?_,R.drawn,R.tape,R.lv,fun e he=>?_,R.val,fun v es2 hs ha=>?_⟩
   ·simp only[Sem.runT]
    rw[R.run,Array.push_eq_append,Array.append_assoc]
   ·rcases Array.mem_append.1 he with he|he
    ·simp only[List.mem_toArray,List.mem_singleton] at he
     subst he
     exact .inl (.inl rfl)
    ·exact R.evs e he
   ·obtain⟨v',e1,e2⟩:=R.pO v (es2.push ⟨.mark .noRoom,false,true⟩) hs ha
    refine⟨v',?_,e2⟩
    simp only[Sem.runT]
    rw[e1,Array.push_eq_append,Array.append_assoc]
 | halt h0=>
   intro h w es hl hg
   exact⟨0,#[],.halt h0 w,by simp[Sem.runT],rfl,rfl,hl,zs,(fun _ _ e=>by cases e),fun v es2 hs _=>⟨v,by simp[Sem.runT,kX],hs,rfl,rfl⟩⟩
theorem Bd.bind{Z:Env}{α β:Type}{s:Sem α}(h:Bd P Z s)(f:α→Sem β):Bd P Z (s.bind f):=fun w es hl hg=>by
 rw[Sem.runT_bind'] at hg
 have:=h w es hl
 generalize s.runT P w es=r at this hg
 obtain⟨r,es'⟩:=r
 cases r with
 | ok a w'=>exact this trivial
 | halt e w'=>cases e <;> first|exact hg|exact this trivial
theorem Tm.bind{Z:Env}{α β:Type}{Q:α→Prop}{R:β→Prop}{s:Sem α}{f:α→Sem β}:Tm P Z Q s→(∀a,Q a→Tm P Z R (f a))→Tm P Z R (s.bind f):=by
 intro h hf
 induction s with
 | pure a=>exact hf a h
 | load m a k ih=>exact fun hz v=>ih v (h hz v)
 | store m a v k ih=>exact fun hz=>ih (h hz)
 | new o k ih=>exact⟨h.1,fun r hr=>ih r (h.2 r hr)⟩
 | shape r k ih=>exact h.imp (fun h=>h.bind f) fun h=>⟨fun hz x=>ih x (h.1 hz x),fun hz=>(h.2 hz).bind f⟩
 | freeze a n k ih=>exact ih h
 | frozen a k ih=>exact⟨fun hz x=>ih x (h.1 hz x),fun hz=>(h.2 hz).bind f⟩
 | getObj r k ih=>exact⟨fun hz o ho=>ih o (h.1 hz o ho),fun hz=>(h.2 hz).bind f⟩
 | setObj r o k ih=>exact⟨h.1,h.2.1,ih h.2.2⟩
 | choose q k ih=>exact fun n=>ih n (h n)
 | sys c k ih=>exact⟨h.1,fun r=>ih r (h.2 r)⟩
 | program k ih=>exact ih P h
 | mark m k ih=>exact⟨h.1,ih h.2⟩
 | halt e=>exact h
theorem Tm.mono{Z:Env}{α:Type}{Q R:α→Prop}{s:Sem α}:Tm P Z Q s→(∀a,Q a→R a)→Tm P Z R s:=by
 intro h hf
 induction s with
 | pure a=>exact hf a h
 | load m a k ih=>exact fun hz v=>ih v (h hz v)
 | store m a v k ih=>exact fun hz=>ih (h hz)
 | new o k ih=>exact⟨h.1,fun r hr=>ih r (h.2 r hr)⟩
 | shape r k ih=>exact h.imp id fun h=>⟨fun hz x=>ih x (h.1 hz x),h.2⟩
 | freeze a n k ih=>exact ih h
 | frozen a k ih=>exact⟨fun hz x=>ih x (h.1 hz x),h.2⟩
 | getObj r k ih=>exact⟨fun hz o ho=>ih o (h.1 hz o ho),h.2⟩
 | setObj r o k ih=>exact⟨h.1,h.2.1,ih h.2.2⟩
 | choose q k ih=>exact fun n=>ih n (h n)
 | sys c k ih=>exact⟨h.1,fun r=>ih r (h.2 r)⟩
 | program k ih=>exact ih P h
 | mark m k ih=>exact⟨h.1,ih h.2⟩
 | halt e=>exact h
end
section
variable{P:Program}{Z:Env}
abbrev T(P:Program)(Z:Env){α:Type}(s:Sem α):Prop:=Tm P Z (fun _=>True) s
theorem Tm.t{α:Type}{Q:α→Prop}{s:Sem α}(h:Tm P Z Q s):T P Z s:=h.mono fun _ _=>trivial
theorem tb{α β:Type}{R:β→Prop}{s:Sem α}{f:α→Sem β}(h:T P Z s)(hf:∀a,Tm P Z R (f a)):Tm P Z R (s >>= f):=Tm.bind h fun a _=>hf a
theorem tq{α β:Type}{Q:α→Prop}{R:β→Prop}{s:Sem α}{f:α→Sem β}(h:Tm P Z Q s)(hf:∀a,Q a→Tm P Z R (f a)):Tm P Z R (s >>= f):=Tm.bind h hf
theorem ZN{α β:Type}{s:Sem α}{f:α→β}(h:T P Z s):T P Z (Functor.map f s):=Tm.bind (Q:=fun _=>True) h fun _ _=>trivial
theorem av{α:Type}(a:α):T P Z (pure a:Sem α):=trivial
theorem au{α:Type}{Q:α→Prop}(m:String):Tm P Z Q (stuck m):=trivial
theorem dQ(q:Question):T P Z (choose q):=fun _=>trivial
theorem lU:T P Z program:=trivial
theorem Ur(a:Addr)(m:Mode):T P Z (load a m):=fun _ _=>trivial
theorem Yv(a:Addr)(v:Value)(m:Mode):T P Z (store a v m):=fun _=>trivial
theorem lT{o:Obj}(h:Plain Z o):T P Z (newObj o):=⟨h,fun _ _=>trivial⟩
theorem dJ(t:TypeId):T P Z (typeInfo t):=by
 show Tm P Z _ (match P.info? t with|some i=>pure i|none=>stuck "no such type")
 split <;> trivial
theorem bV(t:TypeId):Tm P Z (fun d=>P.underlying t=some d) (underlying t):=by
 show Tm P Z _ (match P.underlying t with|some d=>pure d|none=>stuck "no such type")
 split
 ·rename_i d hd
  exact hd
 ·trivial
theorem cO(t:TypeId):T P Z (underlying t):=(bV t).t
theorem bZ(t:TypeId):T P Z (sizeOf t):=tb (dJ t) fun _=>trivial
theorem CJ(t:TypeId):T P Z (typeStr t):=tb (dJ t) fun _=>by(try dsimp only);split <;> trivial
theorem dB(t:TypeId):T P Z (zeroValue t):=tb (dJ t) fun _=>by(try dsimp only);split <;> trivial
theorem MP(t:TypeId):T P Z (isAgg t):=tb (cO t) fun _=>by(try dsimp only);split <;> trivial
theorem vw(a:Addr)(n:Nat):∀ (i:Nat) (acc:Array Value),T P Z (loadCellsFrom a i n acc):=by
 induction n with
 | zero=>exact fun _ _=>trivial
 | succ n ih=>exact fun i acc=>tb (Ur _ _) fun _=>ih _ _
theorem uO(a:Addr)(n:Nat):T P Z (loadCells a n):=vw a n 0 #[]
theorem jo(a:Addr)(vs:List Value):∀i,T P Z (storeCells a vs i):=by
 induction vs with
 | nil=>exact fun _=>trivial
 | cons v vs ih=>exact fun i=>tb (Yv _ _ _) fun _=>ih _
theorem oK(t:TypeId)(a:Addr):T P Z (loadVar t a):=tb (MP t) fun b=>by
 try dsimp only
 split
 ·exact tb (bZ t) fun n=>tb (uO a n) fun _=>trivial
 ·exact Ur a .plain
theorem yB(t:TypeId)(a:Addr)(v:Value):T P Z (storeVar t a v):=tb (bZ t) fun n=>by
 try dsimp only
 split
 ·exact trivial
 ·exact jo _ _ _
theorem sw(e:TypeId)(cs:Array Value):T P Z (newRow e cs):=tb (lT (by trivial)) fun _=>trivial
theorem yx(t:TypeId)(v:Value):T P Z (newVar t v):=sw t v.cells
theorem Un(t:TypeId):T P Z (elemOf t):=tb (cO t) fun _=>by(try dsimp only);split <;> trivial
theorem gW(t:TypeId)(cs:Array Value)(off:Nat):T P Z (part t cs off):=tb (MP t) fun _=>by
 try dsimp only
 split
 ·exact tb (bZ t) fun _=>trivial
 ·split <;> trivial
theorem aD{α:Type}{Q:α→Prop}(e:RuntimeError):Tm P Z Q (runtimePanic e):=by
 show Tm P Z Q (match e with
 | .bounds x y s c=>goPanic (.iface P.rt.boundsError (.agg #[int i64 x,int i64 y,.bool s,.int .u8 c.toNat]))
 | .error m=>goPanic (.iface P.rt.errorString (strVal m))
 | .plain m=>goPanic (.iface P.rt.plainError (strVal m))
 | .nilDeref=>goPanic (.iface P.rt.errorString (strVal "invalid memory address or nil pointer dereference"))
 | .typeAssertion i c a m=>do
   let h (t:Option TypeId):Value:=match t with|some t=>typeHandle P t|none=>.pointer none
   let r ← newVar (← elemOf P.rt.typeAssertionError) (.agg #[h i,h c,h (some a),strVal m])
   goPanic (.iface P.rt.typeAssertionError (.pointer (some r)))
 | .panicNil=>do
   let r ← newVar (← elemOf P.rt.panicNilError) (.agg #[])
   goPanic (.iface P.rt.panicNilError (.pointer (some r)))
 | .unhashable t=>goPanic (.iface P.rt.unhashableTypeError (.agg #[typeHandle P t])))
 cases e <;> first|exact trivial|exact tb (Un _) fun _=>tb (yx _ _) fun _=>trivial
theorem kZ{α:Type}{Q:α→Prop}(k:IntKind)(x y:Int)(c:BoundsCode):Tm P Z Q (boundsPanic k x y c):=by
 unfold boundsPanic
 dsimp only
 split
 ·exact tb (ZN (dQ _)) fun _=>aD _
 ·exact tb (s:=pure _) trivial fun _=>aD _
theorem oI(v:Value):T P Z (asIntOf v):=by unfold asIntOf;split <;> trivial
theorem oH(v:Value):T P Z (asInt v):=tb (oI v) fun _=>trivial
theorem rX(v:Value):T P Z (asBool v):=by unfold asBool;split <;> trivial
theorem Yg(v:Value):T P Z (asAgg v):=by unfold asAgg;split <;> trivial
theorem rW(v:Value):T P Z (asAddr v):=by
 unfold asAddr
 split
 ·trivial
 ·exact aD _
 ·trivial
theorem jV(v:Value):T P Z (Instr.sureAddr v):=by unfold Instr.sureAddr;split <;> trivial
theorem CF(n:Nat):T P Z (askRoom n):=by
 unfold askRoom
 split
 ·exact⟨rfl,trivial⟩
 ·exact trivial
theorem GJ{a:Addr}(h:Z a.block){α:Type}(f:Unit→Sem α):Bd P Z (noView a >>= f):=fun w es hl hg=>by
 have e1:w.shape? a.block=none:=by simp[World.shape?,hl.dead _ h,X0]
 have:(noView a).runT P w es=(.halt (.unsupported (.unsafePointer "memory seen as another type")) w,es.push ⟨.obj a.block,false,false⟩):=by
  simp[noView,viewAt,shape,getObj,bind,Sem.bind,Sem.runT,e1,hl.dead _ h,X0,pure,unsupported,Obj.isChan,-Sem.runT_eq]
 have h2:(noView a >>= f).runT P w es=(.halt (.unsupported (.unsafePointer "memory seen as another type")) w,es.push ⟨.obj a.block,false,false⟩):=by
  show((noView a).bind f).runT P w es=_
  rw[Sem.runT_bind',this]
 rw[h2] at hg
 exact hg
theorem Iq{r:Nat}(h:¬ Z r):T P Z (viewAt r):=by
 refine .inr ⟨fun _ x=>?_,fun hz=>absurd hz h⟩
 show Tm P Z _ (Sem.bind (Sem.pure x) _)
 cases x with
 | some x=>exact trivial
 | none=>exact⟨fun _ o ho=>by cases o <;> first|exact trivial|exact ho.elim,fun hz=>absurd hz h⟩
theorem Uw{a:Addr}(h:¬ Z a.block):T P Z (noView a):=tb (Iq h) fun x=>by
 try dsimp only
 split <;> trivial
theorem xY(a:Addr):T P Z (byteOf a):=by
 unfold byteOf
 cases hs:a.spot with
 | some s=>exact trivial
 | none=>
   try dsimp only
   refine tb lU fun p=>?_
   by_cases hz:Z a.block
   ·exact .inl (GJ hz _)
   ·refine tb (Uw hz) fun _=>?_
    refine tb (s:=shape a.block) (.inr ⟨fun _ _=>trivial,fun h=>absurd h hz⟩) fun x=>?_
    try dsimp only
    split
    ·split
     ·exact trivial
     ·split <;> trivial
    ·exact trivial
theorem Ux(b:Addr)(c n:Nat):T P Z (partAt b c n):=tb (xY b) fun _=>tb (xY _) fun _=>trivial
theorem rY(a:Addr)(f:Field):T P Z (fieldPlace a f):=tb (bZ _) fun n=>by
 try dsimp only
 split
 ·exact Ux _ _ _
 ·exact trivial
theorem EC(x:Value)(y:Nat)(c:BoundsCode):T P Z (Instr.sliceBound x y c):=tb (oI x) fun⟨k,i⟩=>by
 try dsimp only
 split
 ·exact trivial
 ·exact kZ _ _ _ _
theorem pW(s:Bool)(len cap:Nat)(low high max:Option Value):T P Z (Instr.sliceBounds s len cap low high max):=by
 unfold Instr.sliceBounds
 cases max <;> cases high <;> cases low <;> dsimp only
 all_goals repeat' with_reducible first
  | refine tb (av _) fun _=>?_
  | refine tb (au _) fun _=>?_
  | refine tb (EC _ _ _) fun _=>?_
  | exact av _
end
end Go.dS
