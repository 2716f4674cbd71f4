/- Far1 Far2 Far3 Far4 Far5 Far6 Far7 Far8 Far9 Far10 -/
import Derived.Test.YtpmafoalhnaokaaGreatA6
import Derived.Conc.Events
import Derived.Fence
import Derived.Conc.Own4
import Derived.Conc.Listed
set_option maxRecDepth 100000
set_option maxHeartbeats 16000000
set_option linter.unusedVariables false
set_option linter.unusedSectionVars false
open Go.IntKind(i64)
open Go.Value(int)
namespace Go.dP
section
variable{P:Program}
def fH{α:Type}:Result α→Prop
 | .ok _ _=>True
 | .halt (.panic _) _=>True
 | .halt .goexit _=>True
 | _=>False
def Gg:Halt→Prop
 | .panic _| .goexit=>False
 | _=>True
def Dm(P:Program){α:Type}:Sem α→Prop
 | .pure _=>False
 | .load _ _ k=>∀v,Dm P (k v)
 | .store _ _ _ k=>Dm P k
 | .new _ k=>∀r,Dm P (k r)
 | .shape _ k=>∀x,Dm P (k x)
 | .freeze _ _ k=>Dm P k
 | .frozen _ k=>∀b,Dm P (k b)
 | .getObj _ k=>∀o,Dm P (k o)
 | .setObj _ _ k=>Dm P k
 | .choose _ k=>∀n,Dm P (k n)
 | .sys _ k=>∀r,Dm P (k r)
 | .program k=>Dm P (k P)
 | .mark _ k=>Dm P k
 | .halt h=>Gg h
def q8{α:Type}:Result α→World
 | .ok _ w=>w
 | .halt _ w=>w
def lD{α:Type}(v:World):Result α→Result α
 | .ok a _=>.ok a v
 | .halt h _=>.halt h v
theorem aI{α:Type}{h:Halt}{w:World}(hb:Gg h):¬ fH (.halt h w:Result α):=by
 cases h <;> first|exact fun x=>x|exact fun _=>hb
theorem mY{α:Type}{m:Mode}{a:Addr}{v:Value}{k:Sem α}(h1:∀c,v≠.agg c)(h2:∀c,v≠.tuple c)(w:World)(es:Array Event):
 (Sem.store m a v k).runT P w es=match w.cell? a with
  | some _=>if w.frozen? a then(.halt (.unsupported (.unsafePointer "a write to bytes that a string shares")) w,es) else k.runT P (w.setCell a v) (es.push ⟨.cell a,true,m == .atomic⟩)
  | none=>match w.farStore P a v (m == .atomic) with
    | .ok (w,touched)=>k.runT P w (es ++ touched.toArray.map (⟨.cell ·,true,m == .atomic⟩))
    | .error h=>(.halt h w,es):=by
 cases v <;> first|rfl|exact absurd rfl (h1 _)|exact absurd rfl (h2 _)
theorem FU{w:World}{p:Program}{a:Addr}{at_:Bool}{h:Halt}(e:w.farLoad p a at_=.error h):Gg h:=by
 unfold World.farLoad at e
 split at e
 ·split at e
  ·cases e
  ·cases e;trivial
 ·cases e
  unfold World.noCell
  split <;> trivial
theorem Ce{w:World}{p:Program}{a:Addr}{v:Value}{at_:Bool}{h:Halt}(e:w.farStore p a v at_=.error h):Gg h:=by
 unfold World.farStore at e
 split at e
 ·split at e
  ·cases e
  ·cases e;trivial
 ·cases e
  unfold World.noCell
  split <;> trivial
theorem Dm.run{α:Type}{s:Sem α}(h:Dm P s):∀ (w:World) (es:Array Event),¬ fH (s.runT P w es).1:=by
 induction s with
 | pure a=>exact h.elim
 | load m a k ih=>
   intro w es
   simp only[Sem.runT]
   split
   ·exact ih _ (h _) _ _
   ·split
    ·exact ih _ (h _) _ _
    ·exact aI (FU (by assumption))
 | store m a v k ih=>
   intro w es
   by_cases h1:∀c,v≠.agg c
   ·by_cases h2:∀c,v≠.tuple c
    ·rw[mY h1 h2]
     split
     ·split
      ·exact aI (by trivial)
      ·exact ih h _ _
     ·split
      ·exact ih h _ _
      ·exact aI (Ce (by assumption))
    ·simp only[ne_eq,Classical.not_forall,Classical.not_not] at h2
     obtain⟨c,rfl⟩:=h2
     simp only[Sem.runT]
     exact aI (by trivial)
   ·simp only[ne_eq,Classical.not_forall,Classical.not_not] at h1
    obtain⟨c,rfl⟩:=h1
    simp only[Sem.runT]
    exact aI (by trivial)
 | new o k ih=>intro w es;exact ih _ (h _) _ _
 | shape r k ih=>intro w es;exact ih _ (h _) _ _
 | freeze a n k ih=>intro w es;exact ih h _ _
 | frozen a k ih=>intro w es;exact ih _ (h _) _ _
 | getObj r k ih=>
   intro w es
   simp only[Sem.runT]
   split
   ·exact aI (by trivial)
   ·exact ih _ (h _) _ _
   ·exact aI (by trivial)
 | setObj r o k ih=>
   intro w es
   simp only[Sem.runT]
   split
   ·exact aI (by trivial)
   ·exact ih h _ _
   ·exact aI (by trivial)
 | choose q k ih=>
   intro w es
   simp only[Sem.runT]
   split
   ·exact ih _ (h _) _ _
   ·exact ih _ (h _) _ _
 | sys c k ih=>intro w es;exact ih _ (h _) _ _
 | program k ih=>intro w es;exact ih _ h _ _
 | mark m k ih=>intro w es;exact ih h _ _
 | halt h0=>intro w es;exact aI h
structure Env where
 dead:Nat→Prop
 jw:FuncId→Code→Prop
instance:CoeFun Env fun _=>Nat→Prop:=⟨Env.dead⟩
def Env.loop(Z:Env)(r:Loop):Prop:=Z.jw r.fn r.assign∧Z.jw r.fn r.body∧∀j,r.pending=some j→Z.jw r.fn j
def Plain(Z:Env):Obj→Prop
 | .view _ _| .pending _ _=>False
 | .loop r=>Z.loop r
 | .deferred (some ds)=>ds=[]
 | _=>True
def HOk:Halt→Prop
 | .unsupported (.initOrder _)=>False
 | _=>True
def X0(b:Nat):Obj:=.view ⟨b,0,none⟩ 0
structure Lv(Z:Env)(w:World):Prop where
 dead:∀b,Z b→w.heap[b]? =some (X0 b)
 live:∀b o,¬ Z b→w.heap[b]? =some o→Plain Z o
def Bd(P:Program)(Z:Env){α:Type}(s:Sem α):Prop:=∀w es,Lv Z w→¬ fH (s.runT P w es).1
theorem Dm.bd{Z:Env}{α:Type}{s:Sem α}(h:Dm P s):Bd P Z s:=fun w es _=>h.run w es
def Tm(P:Program)(Z:Env){α:Type}(Q:α→Prop):Sem α→Prop
 | .pure a=>Q a
 | .load _ a k=>¬ Z a.block→∀v,Tm P Z Q (k v)
 | .store _ a _ k=>¬ Z a.block→Tm P Z Q k
 | .new o k=>Plain Z o∧∀r,¬ Z r→Tm P Z Q (k r)
 | .shape r k=>Bd P Z (.shape r k)∨((¬ Z r→∀x,Tm P Z Q (k x))∧(Z r→Bd P Z (k none)))
 | .freeze _ _ k=>Tm P Z Q k
 | .frozen a k=>(¬ Z a.block→∀b,Tm P Z Q (k b))∧(Z a.block→Bd P Z (k false))
 | .getObj r k=>(¬ Z r→∀o,Plain Z o→Tm P Z Q (k o))∧(Z r→Bd P Z (k (X0 r)))
 | .setObj r o k=>¬ Z r∧Plain Z o∧Tm P Z Q k
 | .choose _ k=>∀n,Tm P Z Q (k n)
 | .sys c k=>c=.env∧∀r,Tm P Z Q (k r)
 | .program k=>Tm P Z Q (k P)
 | .mark m k=>m=.noRoom∧Tm P Z Q k
 | .halt h=>HOk h
theorem ZN(w:World):∃r,∀v:World,v.os=w.os→v.sys .env=(r,v):=by
 refine⟨(World.sys w .env).1,fun v hv=>?_⟩
 obtain⟨heap,tape,drawn,os,output⟩:=v
 simp only at hv
 subst hv
 unfold World.sys Kernel.perform
 simp[Kernel.lengthOf,Kernel.named,Kernel.ofKernel,Kernel.stamps,Kernel.each,Kernel.env]
 rfl
def Gi(Z:Env)(e:Event):Prop:=(e.loc=.mark .noRoom∨e.loc=.output)∨(∃a,e.loc=.cell a∧¬ Z a.block)∨∃r,e.loc=.obj r∧¬ Z r
structure pQ(Z:Env)(K:Nat→Option Obj)(w v:World):Prop where
 size:v.heap.size=w.heap.size
 same:∀b,¬ Z b→v.heap[b]? =w.heap[b]?
 os:v.os=w.os
 output:v.output=w.output
 kept:∀b o,Z b→K b=some o→(∀c t f,o≠.cells c t f)→v.heap[b]? =some o
def Agree(n:Nat)(w v:World):Prop:=∀k,k<n→∀q,v.tape (v.drawn+k) q=w.tape (w.drawn+k) q
theorem Agree.le{n m:Nat}{w v:World}(h:Agree n w v)(l:m≤n):Agree m w v:=fun k hk=>h k (Nat.lt_of_lt_of_le hk l)
theorem Agree.shift{n m:Nat}{w v w1 v1:World}(h:Agree (m+n) w v)(h1:w1.drawn=w.drawn+m)(h2:w1.tape=w.tape)(h3:v1.drawn=v.drawn+m)(h4:v1.tape=v.tape):Agree n w1 v1:=fun k hk q=>by
 rw[h1,h2,h3,h4,Nat.add_assoc,Nat.add_assoc]
 exact h (m+k) zo q
section
variable{Z:Env}{K:Nat→Option Obj}{w v:World}
theorem Lv.in(h:Lv Z w){b:Nat}(hb:Z b):b<w.heap.size:=by
 exact(Array.getElem?_eq_some_iff.1 (h.dead b hb)).1
theorem Lv.cell(h:Lv Z w){a:Addr}{x:Value}(hx:w.cell? a=some x):¬ Z a.block:=fun hz=>by
 simp[World.cell?,h.dead _ hz,X0] at hx
theorem pQ.cell(h:pQ Z K w v){a:Addr}(hz:¬ Z a.block):v.cell? a=w.cell? a:=by simp only[World.cell?,h.same _ hz]
theorem pQ.frozen(h:pQ Z K w v){a:Addr}(hz:¬ Z a.block):v.frozen? a=w.frozen? a:=by simp only[World.frozen?,h.same _ hz]
theorem Dz{w:World}{b:Nat}(h:w.heap[b]? =some (X0 b))(p:Program)(u:TypeId)(a:Addr)(at_:Bool):∃e,w.seen p ⟨b,0,none⟩ u a at_=.error e:=by
 cases hs:w.seen p ⟨b,0,none⟩ u a at_ with
 | error e=>exact⟨e,rfl⟩
 | ok x=>
   exfalso
   unfold World.seen at hs
   simp only[bind,Except.bind,h,X0] at hs
   repeat' split at hs
   all_goals first|cases hs|simp_all [throw,throwThe,MonadExceptOf.throw]
theorem Qg{w:World}{b:Nat}(h:w.heap[b]? =some (X0 b))(p:Program)(a:Addr)(at_:Bool)(ha:a.block=b):∃e,w.farLoad p a at_=.error e∧Gg e:=by
 subst ha
 obtain⟨e,he⟩:=Dz h p 0 a at_
 refine⟨.unsupported (.unsafePointer e),?_,zT⟩
 unfold World.farLoad
 simp only[h,X0]
 unfold World.viewLoad
 simp only[he,bind,Except.bind]
theorem Mw{w:World}{b:Nat}(h:w.heap[b]? =some (X0 b))(p:Program)(a:Addr)(x:Value)(at_:Bool)(ha:a.block=b):∃e,w.farStore p a x at_=.error e∧Gg e:=by
 subst ha
 obtain⟨e,he⟩:=Dz h p 0 a at_
 have:∃e,w.viewStore p ⟨a.block,0,none⟩ 0 a x at_=.error e:=by
  unfold World.viewStore
  simp only[he,bind,Except.bind]
  split <;> exact⟨_,rfl⟩
 obtain⟨e2,he2⟩:=this
 refine⟨.unsupported (.unsafePointer e2),?_,zT⟩
 unfold World.farStore
 simp only[h,X0,he2]
theorem Lv.far(h:Lv Z w){a:Addr}(hx:w.cell? a=none)(p:Program)(at_:Bool):∃e,w.farLoad p a at_=.error e∧Gg e:=by
 by_cases hz:Z a.block
 ·exact Qg (h.dead _ hz) p a at_ rfl
 refine⟨w.noCell a sQ1,?_,?_⟩
 ·unfold World.farLoad
  split
  ·rename_i hv
   exact False.elim (show False from h.live _ _ hz hv)
  ·rfl
 ·unfold World.noCell
  split <;> trivial
theorem Lv.P2(h:Lv Z w){a:Addr}(hx:w.cell? a=none)(p:Program)(x:Value)(at_:Bool):∃e,w.farStore p a x at_=.error e∧Gg e:=by
 by_cases hz:Z a.block
 ·exact Mw (h.dead _ hz) p a x at_ rfl
 refine⟨w.noCell a sQ2,?_,?_⟩
 ·unfold World.farStore
  split
  ·rename_i hv
   exact False.elim (show False from h.live _ _ hz hv)
  ·rfl
 ·unfold World.noCell
  split <;> trivial
theorem jg(w:World)(a:Addr)(x:Value)(b:Nat):(w.setCell a x).heap[b]? =(w.heap[b]?).map fun o=>if b=a.block then(match o with
 | .cells c elem frozen=>.cells (if a.spot.isSome then c else c.setIfInBounds a.off x) elem frozen
 | o=>o) else o:=by
 unfold World.setCell
 simp only[Array.getElem?_modify]
 by_cases e:a.block=b
 ·subst e
  simp only[if_true]
  rfl
 ·rw[if_neg e]
  have:¬ b=a.block:=fun e2=>e e2.symm
  simp only[this,if_false]
  cases w.heap[b]? <;> rfl
theorem Lv.setCell(h:Lv Z w){a:Addr}(hz:¬ Z a.block)(x:Value):Lv Z (w.setCell a x):=by
 refine⟨fun b hb=>?_,fun b o hb ho=>?_⟩
 ·rw[jg,h.dead b hb]
  have:¬ b=a.block:=fun e2=>hz (e2 ▸ hb)
  simp[this]
 ·rw[jg] at ho
  obtain⟨o',ho',rfl⟩:=Option.map_eq_some_iff.1 ho
  have:=h.live b o' hb ho'
  split
  ·cases o' <;> first|exact this|trivial
  ·exact this
theorem pQ.setCell(h:pQ Z K w v)(a:Addr)(x:Value):pQ Z K (w.setCell a x) (v.setCell a x):=by
 refine⟨by simp[World.setCell,h.size],fun b hb=>?_,h.os,h.output,fun b o hb hk hn=>?_⟩
 ·rw[jg,jg,h.same b hb]
 ·rw[jg,h.kept b o hb hk hn]
  cases o <;> first|exact absurd rfl (hn _ _ _)|simp
theorem jU(w:World)(a:Addr)(n:Nat)(b:Nat):(w.freeze a n).heap[b]? =(w.heap[b]?).map fun o=>if b=a.block∧n≠0 then(match o with
 | .cells c elem (lo,hi)=>.cells c elem (if lo == hi then(a.off,a.off+n) else(min lo a.off,max hi (a.off+n)))
 | o=>o) else o:=by
 unfold World.freeze
 by_cases hn:n=0
 ·rw[if_pos hn]
  have:¬ (b=a.block∧n≠0):=fun h=>h.2 hn
  simp only[this,if_false]
  cases w.heap[b]? <;> rfl
 ·rw[if_neg hn]
  simp only[Array.getElem?_modify]
  by_cases e:a.block=b
  ·subst e
   simp only[if_true,true_and,ne_eq,hn,not_false_eq_true]
   rfl
  ·rw[if_neg e]
   have:¬ (b=a.block∧n≠0):=fun h=>e h.1.symm
   simp only[this,if_false]
   cases w.heap[b]? <;> rfl
theorem gW(w:World)(a:Addr)(n:Nat):(w.freeze a n).heap.size=w.heap.size∧(w.freeze a n).os=w.os∧(w.freeze a n).output=w.output∧(w.freeze a n).tape=w.tape∧(w.freeze a n).drawn=w.drawn:=by
 unfold World.freeze
 split
 ·exact⟨rfl,rfl,rfl,rfl,rfl⟩
 ·exact⟨zs,rfl,rfl,rfl,rfl⟩
theorem Lv.freeze(h:Lv Z w)(a:Addr)(n:Nat):Lv Z (w.freeze a n):=by
 refine⟨fun b hb=>?_,fun b o hb ho=>?_⟩
 ·rw[jU,h.dead b hb]
  simp only[Option.map_some,X0]
  split <;> rfl
 ·rw[jU] at ho
  obtain⟨o',ho',rfl⟩:=Option.map_eq_some_iff.1 ho
  have:=h.live b o' hb ho'
  split
  ·cases o' <;> first|exact this|trivial
  ·exact this
theorem pQ.freeze(h:pQ Z K w v)(a:Addr)(n:Nat):pQ Z K (w.freeze a n) (v.freeze a n):=by
 obtain⟨w1,w2,w3,_,_⟩:=gW w a n
 obtain⟨v1,v2,v3,_,_⟩:=gW v a n
 refine⟨by rw[w1,v1,h.size],fun b hb=>?_,by rw[w2,v2,h.os],by rw[w3,v3,h.output],fun b o hb hk hn=>?_⟩
 ·rw[jU,jU,h.same b hb]
 ·rw[jU,h.kept b o hb hk hn]
  cases o <;> first|exact absurd rfl (hn _ _ _)|simp
theorem Lv.push(h:Lv Z w){o:Obj}(ho:Plain Z o):Lv Z {w with heap:=w.heap.push o }:=by
 refine⟨fun b hb=>?_,fun b o' hb ho'=>?_⟩
 ·have e:=h.dead b hb
  simp only[Array.getElem?_push_lt (h.in hb)]
  rw[← e,Array.getElem?_eq_getElem (h.in hb)]
 ·simp only[Array.getElem?_push] at ho'
  split at ho'
  ·cases ho';exact ho
  ·exact h.live b o' hb ho'
theorem pQ.push(h:pQ Z K w v)(o:Obj):pQ Z K {w with heap:=w.heap.push o } {v with heap:=v.heap.push o }:=by
 refine⟨by simp[h.size],fun b hb=>?_,h.os,h.output,fun b o' hb hk hn=>?_⟩
 ·simp only[Array.getElem?_push,h.size,h.same b hb]
 ·have e:=h.kept b o' hb hk hn
  have hlt:=(Array.getElem?_eq_some_iff.1 e).1
  simp only[Array.getElem?_push,Nat.ne_of_lt hlt,if_false,e]
theorem Lv.set(h:Lv Z w){r:Nat}(hz:¬ Z r){o:Obj}(ho:Plain Z o):Lv Z {w with heap:=w.heap.setIfInBounds r o }:=by
 refine⟨fun b hb=>?_,fun b o' hb ho'=>?_⟩
 ·simp only[Array.getElem?_setIfInBounds_ne (show r≠b from fun e2=>hz (e2 ▸ hb))];exact h.dead b hb
 ·simp only[Array.getElem?_setIfInBounds] at ho'
  split at ho'
  ·split at ho'
   ·cases ho';exact ho
   ·cases ho'
  ·exact h.live b o' hb ho'
theorem pQ.set(h:pQ Z K w v){r:Nat}(hz:¬ Z r)(o:Obj):pQ Z K {w with heap:=w.heap.setIfInBounds r o } {v with heap:=v.heap.setIfInBounds r o }:=by
 refine⟨by simp[h.size],fun b hb=>?_,h.os,h.output,fun b o' hb hk hn=>?_⟩
 ·simp only[Array.getElem?_setIfInBounds,h.size,h.same b hb]
 ·simp only[Array.getElem?_setIfInBounds_ne (show r≠b from fun e2=>hz (e2 ▸ hb))];exact h.kept b o' hb hk hn
end
structure Ran(P:Program)(Z:Env){α:Type}(Q:α→Prop)(s:Sem α)(w:World)(es:Array Event)(n:Nat)(new:Array Event)(r:Result α):Prop where
 run:s.runT P w es=(r,es ++ new)
 drawn:(q8 r).drawn=w.drawn+n
 tape:(q8 r).tape=w.tape
 lv:Lv Z (q8 r)
 evs:∀e∈new,Gi Z e
 val:∀a w',r=.ok a w'→Q a
 qz:∀ {K:Nat→Option Obj} (v:World) (es2:Array Event),pQ Z K w v→Agree n w v→∃v',s.runT P v es2=(lD v' r,es2 ++ new)∧pQ Z K (q8 r) v'∧v'.drawn=v.drawn+n∧v'.tape=v.tape
theorem WL{Z:Env}{α:Type}{Q:α→Prop}{s:Sem α}:Tm P Z Q s→∀ {w:World} {es:Array Event},Lv Z w→fH (s.runT P w es).1→∃n new r,Ran P Z Q s w es n new r:=by
 induction s with
 | pure a=>
   intro h w es hl hg
   exact⟨0,#[],.ok a w,by simp[Sem.runT],rfl,rfl,hl,zs,(fun _ _ e=>by cases e;exact h),fun v es2 hs _=>⟨v,by simp[Sem.runT,lD],hs,rfl,rfl⟩⟩
 | load m a k ih=>
   intro h w es hl hg
   simp only[Sem.runT] at hg
   cases hv:w.cell? a with
   | none=>
     obtain⟨e,he,hb⟩:=hl.far hv P (m == .atomic)
     rw[hv,he] at hg
     exact absurd hg (aI hb)
   | some x=>
     rw[hv] at hg
     have hz:=hl.cell hv
     obtain⟨n,new,r,R⟩:=ih x (h hz x) hl hg
     refine⟨n,#[⟨.cell a,false,m == .atomic⟩] ++ new,r,?_,R.drawn,R.tape,R.lv,fun e he=>?_,R.val,fun v es2 hs ha=>?_⟩
     ·simp only[Sem.runT,hv]
      rw[R.run,Array.push_eq_append,Array.append_assoc]
     ·rcases Array.mem_append.1 he with he|he
      ·simp only[List.mem_toArray,List.mem_singleton] at he
       subst he
       exact .inr (.inl ⟨a,rfl,hz⟩)
      ·exact R.evs e he
     ·obtain⟨v',e1,e2⟩:=R.qz v (es2.push ⟨.cell a,false,m == .atomic⟩) hs ha
      refine⟨v',?_,e2⟩
      simp only[Sem.runT,hs.cell hz,hv]
      rw[e1,Array.push_eq_append,Array.append_assoc]
 | store m a x k ih=>
   intro h w es hl hg
   by_cases h1:∀c,x≠.agg c
   ·by_cases h2:∀c,x≠.tuple c
    ·rw[mY h1 h2] at hg
     cases hv:w.cell? a with
     | none=>
       obtain⟨e,he,hb⟩:=hl.P2 hv P x (m == .atomic)
       rw[hv,he] at hg
       exact absurd hg (aI hb)
     | some x0=>
       rw[hv] at hg
       have hz:=hl.cell hv
       cases hf:w.frozen? a with
       | true=>rw[hf] at hg;exact absurd hg (aI (by trivial))
       | false=>
         rw[hf] at hg
         simp only[Bool.false_eq_true,if_false] at hg
         obtain⟨n,new,r,R⟩:=ih (h hz) (hl.setCell hz x) hg
         refine⟨n,#[⟨.cell a,true,m == .atomic⟩] ++ new,r,?_,R.drawn,R.tape,R.lv,fun e he=>?_,R.val,fun v es2 hs ha=>?_⟩
         ·rw[mY h1 h2]
          simp only[hv,hf,Bool.false_eq_true,if_false]
          rw[R.run,Array.push_eq_append,Array.append_assoc]
         ·rcases Array.mem_append.1 he with he|he
          ·simp only[List.mem_toArray,List.mem_singleton] at he
           subst he
           exact .inr (.inl ⟨a,rfl,hz⟩)
          ·exact R.evs e he
         ·obtain⟨v',e1,e2⟩:=R.qz (v.setCell a x) (es2.push ⟨.cell a,true,m == .atomic⟩) (hs.setCell a x) ha
          refine⟨v',?_,e2⟩
          rw[mY h1 h2]
          simp only[hs.cell hz,hs.frozen hz,hv,hf,Bool.false_eq_true,if_false]
          rw[e1,Array.push_eq_append,Array.append_assoc]
    ·simp only[ne_eq,Classical.not_forall,Classical.not_not] at h2
     obtain⟨c,rfl⟩:=h2
     simp only[Sem.runT] at hg
     exact absurd hg (aI (by trivial))
   ·simp only[ne_eq,Classical.not_forall,Classical.not_not] at h1
    obtain⟨c,rfl⟩:=h1
    simp only[Sem.runT] at hg
    exact absurd hg (aI (by trivial))
 | new o k ih=>
   intro h w es hl hg
   obtain⟨n,new,r,R⟩:=ih _ (h.2 w.heap.size fun hz=>Nat.lt_irrefl _ (hl.in hz)) (hl.push h.1) hg
   refine⟨n,new,r,R.run,R.drawn,R.tape,R.lv,R.evs,R.val,fun v es2 hs ha=>?_⟩
   obtain⟨v',e1,e2⟩:=R.qz _ es2 (hs.push o) ha
   refine⟨v',?_,e2⟩
   simp only[Sem.runT,hs.size]
   exact e1
 | shape b k ih=>
   intro h w es hl hg
   rcases h with h|h
   ·exact absurd hg (h w es hl)
   simp only[Sem.runT] at hg
   by_cases hz:Z b
   ·have e:w.shape? b=none:=by simp[World.shape?,hl.dead b hz,X0]
    rw[e] at hg
    exact absurd hg (h.2 hz w es hl)
   ·obtain⟨n,new,r,R⟩:=ih _ (h.1 hz _) hl hg
    refine⟨n,new,r,R.run,R.drawn,R.tape,R.lv,R.evs,R.val,fun v es2 hs ha=>?_⟩
    obtain⟨v',e1,e2⟩:=R.qz v es2 hs ha
    refine⟨v',?_,e2⟩
    have e:v.shape? b=w.shape? b:=by simp only[World.shape?,hs.same b hz]
    simp only[Sem.runT,e]
    exact e1
 | freeze a m k ih=>
   intro h w es hl hg
   obtain⟨_,_,_,w4,w5⟩:=gW w a m
   obtain⟨n,new,r,R⟩:=ih h (hl.freeze a m) hg
   refine⟨n,new,r,R.run,by rw[R.drawn,w5],by rw[R.tape,w4],R.lv,R.evs,R.val,fun v es2 hs ha=>?_⟩
   obtain⟨_,_,_,v4,v5⟩:=gW v a m
   obtain⟨v',e1,e2,e3,e4⟩:=R.qz (v.freeze a m) es2 (hs.freeze a m) (Agree.shift (m:=0) (w:=w) (v:=v) (by simpa using ha) w5 w4 v5 v4)
   exact⟨v',e1,e2,by rw[e3,v5],by rw[e4,v4]⟩
 | frozen a k ih=>
   intro h w es hl hg
   simp only[Sem.runT] at hg
   by_cases hz:Z a.block
   ·have e:w.frozen? a=false:=by simp[World.frozen?,hl.dead _ hz,X0]
    rw[e] at hg
    exact absurd hg (h.2 hz w es hl)
   ·obtain⟨n,new,r,R⟩:=ih _ (h.1 hz _) hl hg
    refine⟨n,new,r,R.run,R.drawn,R.tape,R.lv,R.evs,R.val,fun v es2 hs ha=>?_⟩
    obtain⟨v',e1,e2⟩:=R.qz v es2 hs ha
    refine⟨v',?_,e2⟩
    simp only[Sem.runT,hs.frozen hz]
    exact e1
 | getObj b k ih=>
   intro h w es hl hg
   have hg0:=hg
   simp only[Sem.runT] at hg
   by_cases hz:Z b
   ·exfalso
    rw[hl.dead b hz] at hg
    exact h.2 hz w _ hl hg
   cases ho:w.heap[b]? with
   | none=>rw[ho] at hg;exact absurd hg (aI (by trivial))
   | some o=>
     by_cases hno:∀c e f,o≠.cells c e f
     ·have step:∀ (u:World) (es0:Array Event),u.heap[b]? =some o→(Sem.getObj b k).runT P u es0=(k o).runT P u (es0.push ⟨.obj b,false,o.isChan⟩):=fun u es0 hu=>by
       simp only[Sem.runT,hu]
       all_goals (cases o <;> first|rfl|exact absurd rfl (hno _ _ _))
      have hg2:fH ((k o).runT P w (es.push ⟨.obj b,false,o.isChan⟩)).1:=by
       rw[← step w es ho];exact hg0
      obtain⟨n,new,r,R⟩:=ih o (h.1 hz o (hl.live b o hz ho)) hl hg2
      refine⟨n,#[⟨.obj b,false,o.isChan⟩] ++ new,r,?_,R.drawn,R.tape,R.lv,fun e he=>?_,R.val,fun v es2 hs ha=>?_⟩
      ·rw[step w es ho,R.run,Array.push_eq_append,Array.append_assoc]
      ·rcases Array.mem_append.1 he with he|he
       ·simp only[List.mem_toArray,List.mem_singleton] at he
        subst he
        exact .inr (.inr ⟨b,rfl,hz⟩)
       ·exact R.evs e he
      ·obtain⟨v',e1,e2⟩:=R.qz v (es2.push ⟨.obj b,false,o.isChan⟩) hs ha
       exact⟨v',by rw[step v es2 ((hs.same b hz).trans ho),e1,Array.push_eq_append,Array.append_assoc],e2⟩
     ·simp only[ne_eq,Classical.not_forall,Classical.not_not] at hno
      obtain⟨c,e,f,rfl⟩:=hno
      rw[ho] at hg
      exact absurd hg (aI (by trivial))
 | setObj b o k ih=>
   intro h w es hl hg
   have hg0:=hg
   simp only[Sem.runT] at hg
   cases hp:w.heap[b]? with
   | none=>rw[hp] at hg;exact absurd hg (aI (by trivial))
   | some p=>
     by_cases hc:∀c e f,p≠.cells c e f
     ·have hz:¬ Z b:=h.1
      have step:∀ (u:World) (es0:Array Event),u.heap[b]? =some p→(Sem.setObj b o k).runT P u es0=k.runT P {u with heap:=u.heap.setIfInBounds b o } (es0.push ⟨.obj b,true,o.isChan⟩):=fun u es0 hu=>by
       simp only[Sem.runT,hu]
       all_goals (cases p <;> first|rfl|exact absurd rfl (hc _ _ _))
      have hg2:fH (k.runT P {w with heap:=w.heap.setIfInBounds b o } (es.push ⟨.obj b,true,o.isChan⟩)).1:=by
       rw[← step w es hp];exact hg0
      obtain⟨n,new,r,R⟩:=ih h.2.2 (hl.set hz h.2.1) hg2
      refine⟨n,#[⟨.obj b,true,o.isChan⟩] ++ new,r,?_,R.drawn,R.tape,R.lv,fun e he=>?_,R.val,fun v es2 hs ha=>?_⟩
      ·rw[step w es hp,R.run,Array.push_eq_append,Array.append_assoc]
      ·rcases Array.mem_append.1 he with he|he
       ·simp only[List.mem_toArray,List.mem_singleton] at he
        subst he
        exact .inr (.inr ⟨b,rfl,hz⟩)
       ·exact R.evs e he
      ·obtain⟨v',e1,e2⟩:=R.qz {v with heap:=v.heap.setIfInBounds b o } (es2.push ⟨.obj b,true,o.isChan⟩) (hs.set hz o) ha
       exact⟨v',by rw[step v es2 ((hs.same b hz).trans hp),e1,Array.push_eq_append,Array.append_assoc],e2⟩
     ·simp only[ne_eq,Classical.not_forall,Classical.not_not] at hc
      obtain⟨c,e,f,rfl⟩:=hc
      rw[hp] at hg
      exact absurd hg (aI (by trivial))
 | choose q k ih=>
   intro h w es hl hg
   simp only[Sem.runT] at hg
   by_cases hf:q.forced=true
   ·rw[if_pos hf] at hg
    obtain⟨n,new,r,R⟩:=ih 0 (h 0) hl hg
    exact⟨n,new,r,by simp only[Sem.runT,if_pos hf];exact R.run,R.drawn,R.tape,R.lv,R.evs,R.val,fun v es2 hs ha=>by simp only[Sem.runT,if_pos hf];exact R.qz v es2 hs ha⟩
   ·rw[if_neg hf] at hg
    obtain⟨n,new,r,R⟩:=ih _ (h (q.cut (w.tape w.drawn q))) (w:={w with drawn:=w.drawn+1 }) ⟨hl.dead,hl.live⟩ hg
    refine⟨1+n,new,r,by simp only[Sem.runT,if_neg hf];exact R.run,by rw[R.drawn];simp only;omega,R.tape,R.lv,R.evs,R.val,fun v es2 hs ha=>?_⟩
    have e0:v.tape v.drawn q=w.tape w.drawn q:=by simpa using ha 0 zo q
    obtain⟨v',e1,e2,e3,e4⟩:=R.qz {v with drawn:=v.drawn+1 } es2 ⟨hs.size,hs.same,hs.os,hs.output,hs.kept⟩ (Agree.shift (m:=1) (w:=w) (v:=v) ha rfl rfl rfl rfl)
    exact⟨v',by simp only[Sem.runT,if_neg hf,e0];exact e1,e2,by rw[e3];simp only;omega,e4⟩
 | sys c k ih=>
   intro h w es hl hg
   obtain⟨rfl,h⟩:=h
   obtain⟨r0,hr⟩:=ZN w
   have e0:=hr w rfl
   simp only[Sem.runT,e0] at hg
   obtain⟨n,new,r,R⟩:=ih r0 (h r0) hl hg
   refine⟨n,#[⟨.output,true,false⟩] ++ new,r,?_,R.drawn,R.tape,R.lv,fun e he=>?_,R.val,fun v es2 hs ha=>?_⟩
   ·simp only[Sem.runT,e0]
    rw[R.run,Array.push_eq_append,Array.append_assoc]
   ·rcases Array.mem_append.1 he with he|he
    ·simp only[List.mem_toArray,List.mem_singleton] at he
     subst he
     exact .inl (.inr rfl)
    ·exact R.evs e he
   ·obtain⟨v',e1,e2⟩:=R.qz v (es2.push ⟨.output,true,false⟩) hs ha
    refine⟨v',?_,e2⟩
    simp only[Sem.runT,hr v hs.os]
    rw[e1,Array.push_eq_append,Array.append_assoc]
 | program k ih=>
   intro h w es hl hg
   obtain⟨n,new,r,R⟩:=ih P h hl hg
   exact⟨n,new,r,R.run,R.drawn,R.tape,R.lv,R.evs,R.val,fun v es2 hs ha=>R.qz v es2 hs ha⟩
 | mark m k ih=>
   intro h w es hl hg
   obtain⟨rfl,h⟩:=h
   obtain⟨n,new,r,R⟩:=ih h hl hg
   refine⟨n,#[⟨.mark .noRoom,false,true⟩] ++ new,r,?_,R.drawn,R.tape,R.lv,fun e he=>?_,R.val,fun v es2 hs ha=>?_⟩
   ·simp only[Sem.runT]
    rw[R.run,Array.push_eq_append,Array.append_assoc]
   ·rcases Array.mem_append.1 he with he|he
    ·simp only[List.mem_toArray,List.mem_singleton] at he
     subst he
     exact .inl (.inl rfl)
    ·exact R.evs e he
   ·obtain⟨v',e1,e2⟩:=R.qz v (es2.push ⟨.mark .noRoom,false,true⟩) hs ha
    refine⟨v',?_,e2⟩
    simp only[Sem.runT]
    rw[e1,Array.push_eq_append,Array.append_assoc]
 | halt h0=>
   intro h w es hl hg
   exact⟨0,#[],.halt h0 w,by simp[Sem.runT],rfl,rfl,hl,zs,(fun _ _ e=>by cases e),fun v es2 hs _=>⟨v,by simp[Sem.runT,lD],hs,rfl,rfl⟩⟩
theorem Bd.bind{Z:Env}{α β:Type}{s:Sem α}(h:Bd P Z s)(f:α→Sem β):Bd P Z (s.bind f):=fun w es hl hg=>by
 rw[Sem.runT_bind'] at hg
 have:=h w es hl
 generalize s.runT P w es=r at this hg
 obtain⟨r,es'⟩:=r
 cases r with
 | ok a w'=>exact this trivial
 | halt e w'=>cases e <;> first|exact hg|exact this trivial
theorem Tm.bind{Z:Env}{α β:Type}{Q:α→Prop}{R:β→Prop}{s:Sem α}{f:α→Sem β}:Tm P Z Q s→(∀a,Q a→Tm P Z R (f a))→Tm P Z R (s.bind f):=by
 intro h hf
 induction s with
 | pure a=>exact hf a h
 | load m a k ih=>exact fun hz v=>ih v (h hz v)
 | store m a v k ih=>exact fun hz=>ih (h hz)
 | new o k ih=>exact⟨h.1,fun r hr=>ih r (h.2 r hr)⟩
 | shape r k ih=>exact h.imp (fun h=>h.bind f) fun h=>⟨fun hz x=>ih x (h.1 hz x),fun hz=>(h.2 hz).bind f⟩
 | freeze a n k ih=>exact ih h
 | frozen a k ih=>exact⟨fun hz x=>ih x (h.1 hz x),fun hz=>(h.2 hz).bind f⟩
 | getObj r k ih=>exact⟨fun hz o ho=>ih o (h.1 hz o ho),fun hz=>(h.2 hz).bind f⟩
 | setObj r o k ih=>exact⟨h.1,h.2.1,ih h.2.2⟩
 | choose q k ih=>exact fun n=>ih n (h n)
 | sys c k ih=>exact⟨h.1,fun r=>ih r (h.2 r)⟩
 | program k ih=>exact ih P h
 | mark m k ih=>exact⟨h.1,ih h.2⟩
 | halt e=>exact h
theorem Tm.mono{Z:Env}{α:Type}{Q R:α→Prop}{s:Sem α}:Tm P Z Q s→(∀a,Q a→R a)→Tm P Z R s:=by
 intro h hf
 induction s with
 | pure a=>exact hf a h
 | load m a k ih=>exact fun hz v=>ih v (h hz v)
 | store m a v k ih=>exact fun hz=>ih (h hz)
 | new o k ih=>exact⟨h.1,fun r hr=>ih r (h.2 r hr)⟩
 | shape r k ih=>exact h.imp id fun h=>⟨fun hz x=>ih x (h.1 hz x),h.2⟩
 | freeze a n k ih=>exact ih h
 | frozen a k ih=>exact⟨fun hz x=>ih x (h.1 hz x),h.2⟩
 | getObj r k ih=>exact⟨fun hz o ho=>ih o (h.1 hz o ho),h.2⟩
 | setObj r o k ih=>exact⟨h.1,h.2.1,ih h.2.2⟩
 | choose q k ih=>exact fun n=>ih n (h n)
 | sys c k ih=>exact⟨h.1,fun r=>ih r (h.2 r)⟩
 | program k ih=>exact ih P h
 | mark m k ih=>exact⟨h.1,ih h.2⟩
 | halt e=>exact h
end
section
variable{P:Program}{Z:Env}
abbrev T(P:Program)(Z:Env){α:Type}(s:Sem α):Prop:=Tm P Z (fun _=>True) s
theorem Tm.t{α:Type}{Q:α→Prop}{s:Sem α}(h:Tm P Z Q s):T P Z s:=h.mono fun _ _=>trivial
theorem tb{α β:Type}{R:β→Prop}{s:Sem α}{f:α→Sem β}(h:T P Z s)(hf:∀a,Tm P Z R (f a)):Tm P Z R (s >>= f):=Tm.bind h fun a _=>hf a
theorem tq{α β:Type}{Q:α→Prop}{R:β→Prop}{s:Sem α}{f:α→Sem β}(h:Tm P Z Q s)(hf:∀a,Q a→Tm P Z R (f a)):Tm P Z R (s >>= f):=Tm.bind h hf
theorem ff{α β:Type}{s:Sem α}{f:α→β}(h:T P Z s):T P Z (Functor.map f s):=Tm.bind (Q:=fun _=>True) h fun _ _=>trivial
theorem av{α:Type}(a:α):T P Z (pure a:Sem α):=trivial
theorem au{α:Type}{Q:α→Prop}(m:String):Tm P Z Q (stuck m):=trivial
theorem dN(q:Question):T P Z (choose q):=fun _=>trivial
theorem mh:T P Z program:=trivial
theorem Wp(a:Addr)(m:Mode):T P Z (load a m):=fun _ _=>trivial
theorem an(a:Addr)(v:Value)(m:Mode):T P Z (store a v m):=fun _=>trivial
theorem mg{o:Obj}(h:Plain Z o):T P Z (newObj o):=⟨h,fun _ _=>trivial⟩
theorem dI(t:TypeId):T P Z (typeInfo t):=by
 show Tm P Z _ (match P.info? t with|some i=>pure i|none=>stuck "no such type")
 split <;> trivial
theorem bX(t:TypeId):Tm P Z (fun d=>P.underlying t=some d) (underlying t):=by
 show Tm P Z _ (match P.underlying t with|some d=>pure d|none=>stuck "no such type")
 split
 ·rename_i d hd
  exact hd
 ·trivial
theorem cZ(t:TypeId):T P Z (underlying t):=(bX t).t
theorem bZ(t:TypeId):T P Z (sizeOf t):=tb (dI t) fun _=>trivial
theorem DW(t:TypeId):T P Z (typeStr t):=tb (dI t) fun _=>by(try dsimp only);split <;> trivial
theorem dB(t:TypeId):T P Z (zeroValue t):=tb (dI t) fun _=>by(try dsimp only);split <;> trivial
theorem OA(t:TypeId):T P Z (isAgg t):=tb (cZ t) fun _=>by(try dsimp only);split <;> trivial
theorem wF(a:Addr)(n:Nat):∀ (i:Nat) (acc:Array Value),T P Z (loadCellsFrom a i n acc):=by
 induction n with
 | zero=>exact fun _ _=>trivial
 | succ n ih=>exact fun i acc=>tb (Wp _ _) fun _=>ih _ _
theorem vQ(a:Addr)(n:Nat):T P Z (loadCells a n):=wF a n 0 #[]
theorem jH(a:Addr)(vs:List Value):∀i,T P Z (storeCells a vs i):=by
 induction vs with
 | nil=>exact fun _=>trivial
 | cons v vs ih=>exact fun i=>tb (an _ _ _) fun _=>ih _
theorem pG(t:TypeId)(a:Addr):T P Z (loadVar t a):=tb (OA t) fun b=>by
 try dsimp only
 split
 ·exact tb (bZ t) fun n=>tb (vQ a n) fun _=>trivial
 ·exact Wp a .plain
theorem Ap(t:TypeId)(a:Addr)(v:Value):T P Z (storeVar t a v):=tb (bZ t) fun n=>by
 try dsimp only
 split
 ·exact zT
 ·exact jH _ _ _
theorem tO(e:TypeId)(cs:Array Value):T P Z (newRow e cs):=tb (mg (by trivial)) fun _=>trivial
theorem Am(t:TypeId)(v:Value):T P Z (newVar t v):=tO t v.cells
theorem Wj(t:TypeId):T P Z (elemOf t):=tb (cZ t) fun _=>by(try dsimp only);split <;> trivial
theorem iC(t:TypeId)(cs:Array Value)(off:Nat):T P Z (part t cs off):=tb (OA t) fun _=>by
 try dsimp only
 split
 ·exact tb (bZ t) fun _=>trivial
 ·split <;> trivial
theorem aF{α:Type}{Q:α→Prop}(e:RuntimeError):Tm P Z Q (runtimePanic e):=by
 show Tm P Z Q (match e with
 | .bounds x y s c=>goPanic (.iface P.rt.boundsError (.agg #[int i64 x,int i64 y,.bool s,.int .u8 c.toNat]))
 | .error m=>goPanic (.iface P.rt.errorString (strVal m))
 | .plain m=>goPanic (.iface P.rt.plainError (strVal m))
 | .nilDeref=>goPanic (.iface P.rt.errorString (strVal "invalid memory address or nil pointer dereference"))
 | .typeAssertion i c a m=>do
   let h (t:Option TypeId):Value:=match t with|some t=>typeHandle P t|none=>.pointer none
   let r ← newVar (← elemOf P.rt.typeAssertionError) (.agg #[h i,h c,h (some a),strVal m])
   goPanic (.iface P.rt.typeAssertionError (.pointer (some r)))
 | .panicNil=>do
   let r ← newVar (← elemOf P.rt.panicNilError) (.agg #[])
   goPanic (.iface P.rt.panicNilError (.pointer (some r)))
 | .unhashable t=>goPanic (.iface P.rt.unhashableTypeError (.agg #[typeHandle P t])))
 cases e <;> first|exact zT|exact tb (Wj _) fun _=>tb (Am _ _) fun _=>trivial
theorem lG{α:Type}{Q:α→Prop}(k:IntKind)(x y:Int)(c:BoundsCode):Tm P Z Q (boundsPanic k x y c):=by
 unfold boundsPanic
 dsimp only
 split
 ·exact tb (ff (dN _)) fun _=>aF _
 ·exact tb (s:=pure _) trivial fun _=>aF _
theorem pz(v:Value):T P Z (asIntOf v):=by unfold asIntOf;split <;> trivial
theorem pq(v:Value):T P Z (asInt v):=tb (pz v) fun _=>trivial
theorem tK(v:Value):T P Z (asBool v):=by unfold asBool;split <;> trivial
theorem ZP(v:Value):T P Z (asAgg v):=by unfold asAgg;split <;> trivial
theorem tJ(v:Value):T P Z (asAddr v):=by
 unfold asAddr
 split
 ·trivial
 ·exact aF _
 ·trivial
theorem kD(v:Value):T P Z (Instr.sureAddr v):=by unfold Instr.sureAddr;split <;> trivial
theorem DU(n:Nat):T P Z (askRoom n):=by
 unfold askRoom
 split
 ·exact⟨rfl,zT⟩
 ·exact zT
theorem IY{a:Addr}(h:Z a.block){α:Type}(f:Unit→Sem α):Bd P Z (noView a >>= f):=fun w es hl hg=>by
 have e1:w.shape? a.block=none:=by simp[World.shape?,hl.dead _ h,X0]
 have:(noView a).runT P w es=(.halt (.unsupported (.unsafePointer "memory seen as another type")) w,es.push ⟨.obj a.block,false,false⟩):=by
  simp[noView,viewAt,shape,getObj,bind,Sem.bind,Sem.runT,e1,hl.dead _ h,X0,pure,unsupported,Obj.isChan,-Sem.runT_eq]
 have h2:(noView a >>= f).runT P w es=(.halt (.unsupported (.unsafePointer "memory seen as another type")) w,es.push ⟨.obj a.block,false,false⟩):=by
  show((noView a).bind f).runT P w es=_
  rw[Sem.runT_bind',this]
 rw[h2] at hg
 exact hg
theorem JB{r:Nat}(h:¬ Z r):T P Z (viewAt r):=by
 refine .inr ⟨fun _ x=>?_,fun hz=>absurd hz h⟩
 show Tm P Z _ (Sem.bind (Sem.pure x) _)
 cases x with
 | some x=>exact zT
 | none=>exact⟨fun _ o ho=>by cases o <;> first|exact zT|exact ho.elim,fun hz=>absurd hz h⟩
theorem Wv{a:Addr}(h:¬ Z a.block):T P Z (noView a):=tb (JB h) fun x=>by
 try dsimp only
 split <;> trivial
theorem Ag(a:Addr):T P Z (byteOf a):=by
 unfold byteOf
 cases hs:a.spot with
 | some s=>exact zT
 | none=>
   try dsimp only
   refine tb mh fun p=>?_
   by_cases hz:Z a.block
   ·exact .inl (IY hz _)
   ·refine tb (Wv hz) fun _=>?_
    refine tb (s:=shape a.block) (.inr ⟨fun _ _=>trivial,fun h=>absurd h hz⟩) fun x=>?_
    try dsimp only
    split
    ·split
     ·exact zT
     ·split <;> trivial
    ·exact zT
theorem Ww(b:Addr)(c n:Nat):T P Z (partAt b c n):=tb (Ag b) fun _=>tb (Ag _) fun _=>trivial
theorem tL(a:Addr)(f:Field):T P Z (fieldPlace a f):=tb (bZ _) fun n=>by
 try dsimp only
 split
 ·exact Ww _ _ _
 ·exact zT
theorem FQ(x:Value)(y:Nat)(c:BoundsCode):T P Z (Instr.sliceBound x y c):=tb (pz x) fun⟨k,i⟩=>by
 try dsimp only
 split
 ·exact zT
 ·exact lG _ _ _ _
theorem qE(s:Bool)(len cap:Nat)(low high max:Option Value):T P Z (Instr.sliceBounds s len cap low high max):=by
 unfold Instr.sliceBounds
 cases max <;> cases high <;> cases low <;> dsimp only
 all_goals repeat' with_reducible first
  | refine tb (av _) fun _=>?_
  | refine tb (au _) fun _=>?_
  | refine tb (FQ _ _ _) fun _=>?_
  | exact av _
theorem vS{α:Type}{Q:α→Prop}(m:String):Tm P Z Q (unsupported (.noEntry m):Sem α):=trivial
theorem Wx{α:Type}{Q:α→Prop}(m:String):Tm P Z Q (unsupported (.resourceLimit m):Sem α):=trivial
theorem FR{α:Type}{Q:α→Prop}:Tm P Z Q (unsupported .addressObserved:Sem α):=trivial
theorem ov{α:Type}{Q:α→Prop}(m:String):Tm P Z Q (unsupported (.unsafePointer m):Sem α):=trivial
theorem jI{α:Type}{Q:α→Prop}{a:α}(h:Q a):Tm P Z Q (pure a:Sem α):=h
theorem Z7{α β:Type}{f:α→Sem β}(l:List α)(h:∀a∈l,T P Z (f a)):T P Z (l.mapM f):=by
 induction l with
 | nil=>simp only[List.mapM_nil];exact av _
 | cons a l ih=>
   simp only[List.mapM_cons]
   exact tb (h a zs) fun _=>tb (ih fun b hb=>h b (by simp[hb])) fun _=>av _
theorem Wt{α β:Type}{f:α→Sem β}(l:Array α)(h:∀a,T P Z (f a)):T P Z (l.mapM f):=by
 rw[Array.mapM_eq_mapM_toList]
 exact ff (Z7 _ fun a _=>h a)
theorem Jy{α β:Type}{f:α→β→Sem (ForInStep β)}(l:List α)(h:∀a∈l,∀b,T P Z (f a b)):∀b,T P Z (forIn l b f):=by
 induction l with
 | nil=>intro b;simp only[List.forIn_nil];exact av _
 | cons a l ih=>
   intro b
   simp only[List.forIn_cons]
   refine tb (h a zs b) fun r=>?_
   cases r with
   | done b=>exact av _
   | yield b=>exact ih (fun c hc=>h c (by simp[hc])) b
theorem Aj{α β:Type}{f:α→β→Sem (ForInStep β)}(l:Array α)(b:β)(h:∀a∈l,∀b,T P Z (f a b)):T P Z (forIn l b f):=by
 rw[← Array.forIn_toList]
 exact Jy _ (fun a ha=>h a (by simpa using ha)) b
theorem Ak{β:Type}{f:Nat→β→Sem (ForInStep β)}(n:Nat)(b:β)(h:∀a b,T P Z (f a b)):T P Z (forIn [0:n] b f):=by
 rw[Std.Legacy.Range.forIn_eq_forIn_range']
 exact Jy _ (fun a _=>h a) b
theorem DV{α β:Type}{f:β→α→Sem β}(l:List α)(h:∀b a,T P Z (f b a)):∀b,T P Z (l.foldlM f b):=by
 induction l with
 | nil=>intro b;exact av _
 | cons a l ih=>intro b;simp only[List.foldlM_cons];exact tb (h b a) fun c=>ih c
def JI(P:Program):Nat→TypeId→Bool
 | 0,_=>true
 | d+1,t=>match P.underlying t with
   | none|some .bool|some .string|some (.float _)|some (.complex _)|some (.slice _)|some (.map _ _)|some (.func _ _ _)|some (.chan _ _)=>true
   | some (.int _)=>match P.info? t with
     | some i=>match i.desc with| .named n _=>n != "sync.copyChecker" |_=>true
     | none=>true
   | some (.struct fs)=>fs.all fun f=>f.name == "_" || JI P d f.type
   | some (.array _ e)=>JI P d e
   | _=>false
theorem Wo(hg:P.globals.size=0){t:TypeId}(ht:∀i,P.info? t=some i→∀n u,i.desc=.named n u→n≠ "sync.copyChecker")(a b:Addr)(f:Addr × Bool→Addr × Bool→Sem Bool)
 (hf:∀x y,f x y=(do
  if x.1.block == y.1.block && x.1.block<(← program).globals.size then return (← byteOf x.1) == (← byteOf y.1)
  let .named "sync.copyChecker" _:=(← typeInfo t).desc|unsupported .addressObserved
  if x.1 == y.1 then pure true else unsupported .addressObserved)):T P Z (do let x ← behindNumber a;let y ← behindNumber b;f x y):=by
 have lost:∀x y,Dm P (f x y):=fun x y=>by
  rw[hf]
  show Dm P (if (x.1.block == y.1.block && decide (x.1.block<P.globals.size))=true then _ else _)
  rw[hg]
  simp only[Nat.not_lt_zero,decide_false,Bool.and_false,Bool.false_eq_true,if_false]
  show Dm P (Sem.bind (match P.info? t with|some i=>pure i|none=>stuck "no such type") _)
  cases hi:P.info? t with
  | none=>exact zT
  | some i=>
    show Dm P (match i.desc with
     | .named "sync.copyChecker" _=>if x.1 == y.1 then pure true else unsupported .addressObserved
     | _=>unsupported .addressObserved)
    split
    ·rename_i u hu
     exact absurd rfl (ht i hi _ _ hu)
    ·exact zT
 have np:∀c w es v w',((behindNumber c).runT P w es).1≠.halt (.panic v) w'∧((behindNumber c).runT P w es).1≠.halt .goexit w':=fun c w es v w'=>by
  have e:behindNumber c=(do let x ← numberAt c.block;pure (x.getD (c,false))):=rfl
  rw[e]
  simp only[numberAt,shape,getObj,bind,Sem.bind,pure,Sem.runT]
  cases hs:w.shape? c.block with
  | some x=>simp[Sem.bind,Sem.runT,-Sem.runT_eq]
  | none=>
    simp only[Option.isSome_none,Bool.false_eq_true,if_false,Sem.bind,Sem.runT]
    cases hh:w.heap[c.block]? with
    | none=>simp
    | some o=>cases o <;> simp[Sem.bind,Sem.runT,-Sem.runT_eq]
 have all:Bd P Z (do let x ← behindNumber a;let y ← behindNumber b;f x y):=by
  intro w es hl hgood
  show False
  have h1:=np a w es
  replace hgood:fH (((behindNumber a).bind fun x=>(behindNumber b).bind fun y=>f x y).runT P w es).1:=hgood
  rw[Sem.runT_bind'] at hgood
  generalize (behindNumber a).runT P w es=r at h1 hgood
  obtain⟨r,es1⟩:=r
  cases r with
  | halt e w1=>
    cases e <;> first|exact hgood|skip
    ·exact(h1 _ w1).1 rfl
    ·exact(h1 undef w1).2 rfl
  | ok x w1=>
    dsimp only at hgood
    rw[Sem.runT_bind'] at hgood
    have h2:=np b w1 es1
    generalize (behindNumber b).runT P w1 es1=r at h2 hgood
    obtain⟨r,es2⟩:=r
    cases r with
    | halt e w2=>
      cases e <;> first|exact hgood|skip
      ·exact(h2 _ w2).1 rfl
      ·exact(h2 undef w2).2 rfl
    | ok y w2=>exact(lost x y).run _ _ hgood
 exact .inl all
theorem Q8(hg:P.globals.size=0):∀ (d:Nat) (t:TypeId),JI P d t=true→∀x y,T P Z (Op.equalIn d t x y):=by
 intro d
 induction d with
 | zero=>exact fun t _ x y=>trivial
 | succ d ih=>
   intro t ht x y
   unfold Op.equalIn
   refine tq (bX t) fun td htd=>?_
   unfold JI at ht
   rw[htd] at ht
   split
   all_goals first
    | exact zT
    | (dsimp only at ht;cases ht;done)
    | (split <;> exact zT)
    | skip
   ·rename_i k a b
    refine Wo hg (fun i hi n u hd hn=>?_) a b _ fun x y=>rfl
    dsimp only at ht
    rw[hi] at ht
    dsimp only at ht
    rw[hd,hn] at ht
    simp at ht
   ·rename_i fields xs ys
    dsimp only at ht
    rw[Array.all_eq_true_iff_forall_mem] at ht
    refine tb mh fun p=>?_
    dsimp only
    split
    ·exact zT
    ·refine tb (Aj _ _ fun f hf b=>?_) fun r=>?_
     ·split
      ·rename_i hn
       have h1:=ht f hf
       simp only[Bool.or_eq_true,beq_iff_eq] at h1
       refine tb (iC _ _ _) fun _=>tb (iC _ _ _) fun _=>tb (ih _ (h1.resolve_left hn) _ _) fun _=>?_
       split <;> exact zT
      ·exact zT
     ·split <;> exact zT
   ·rename_i len elem xs ys
    dsimp only at ht
    refine tb (bZ _) fun n=>?_
    refine tb (Ak _ _ fun i b=>?_) fun r=>?_
    ·refine tb (iC _ _ _) fun _=>tb (iC _ _ _) fun _=>tb (ih _ ht _ _) fun _=>?_
     split <;> exact zT
    ·dsimp only;split <;> exact zT
theorem FK(hg:P.globals.size=0){t:TypeId}(ht:JI P 10000 t=true)(x y:Value):T P Z (Op.equal t x y):=Q8 hg 10000 t ht x y
theorem Jv:∀ (d:Nat) (t:TypeId) x y,T P Z (Op.eqGuardIn d t x y):=by
 intro d
 induction d with
 | zero=>exact fun t x y=>trivial
 | succ d ih=>
   intro t x y
   unfold Op.eqGuardIn
   refine tb (cZ t) fun td=>?_
   split
   ·exact zT
   ·refine tb (Aj _ _ fun f hf b=>?_) fun r=>?_
    ·split
     ·refine tb (iC _ _ _) fun _=>tb (iC _ _ _) fun _=>tb (ih _ _ _) fun _=>?_
      split <;> exact zT
     ·exact zT
    ·dsimp only;split <;> exact zT
   ·refine tb (bZ _) fun _=>?_
    refine tb (Ak _ _ fun i b=>?_) fun r=>?_
    ·refine tb (iC _ _ _) fun _=>tb (iC _ _ _) fun _=>tb (ih _ _ _) fun _=>?_
     split <;> exact zT
    ·dsimp only;split <;> exact zT
   ·exact zT
theorem Q0(op:BinOp)(t:TypeId)(x y:Operand)(a b:Value):T P Z (eqGuard op t x y a b):=by
 unfold eqGuard
 repeat' with_reducible first
  | exact av _
  | exact vS _
  | refine tb mh fun _=>?_
  | refine tb (Jv _ _ _ _) fun _=>?_
  | split
theorem kr(e:Bool):∀ (n:Nat) (t:TypeId) v,T P Z (Instr.checkKey e n t v):=by
 intro n
 induction n with
 | zero=>exact fun t v=>trivial
 | succ n ih=>
   intro t v
   unfold Instr.checkKey
   refine tb (cZ t) fun td=>?_
   split
   ·refine tb (dI _) fun i=>?_
    dsimp only
    split
    ·split
     ·exact tb (aF _) fun _=>tb (DW _) fun _=>tb (aF _) fun _=>ih _ _
     ·exact tb (DW _) fun _=>tb (aF _) fun _=>ih _ _
    ·exact ih _ _
   ·refine tb (Ak _ _ fun i b=>?_) fun r=>trivial
    exact tb (bZ _) fun _=>tb (iC _ _ _) fun _=>tb (ih _ _) fun _=>trivial
   ·refine tb (Aj _ _ fun f hf b=>?_) fun r=>trivial
    split
    ·exact tb (iC _ _ _) fun _=>tb (ih _ _) fun _=>trivial
    ·exact zT
   ·exact zT
   ·exact zT
   ·exact zT
   ·exact zT
   ·exact zT
theorem FN(hg:P.globals.size=0){t:TypeId}(ht:JI P 10000 t=true)(k:Value):∀ (es:List MapEntry) (i:Nat),T P Z (Instr.findAsking t k es i):=by
 intro es
 induction es with
 | nil=>exact fun _=>trivial
 | cons e es ih=>
   intro i
   refine tb (FK hg ht _ _) fun b=>?_
   split
   ·exact zT
   ·exact ih _
theorem pF(hg:P.globals.size=0){t:TypeId}(ht:JI P 10000 t=true)(k:Value)(es:List MapEntry):T P Z (Instr.findKey t k es):=by
 unfold Instr.findKey
 refine tb (cZ t) fun td=>?_
 split
 ·exact zT
 ·exact FN hg ht _ _ _
theorem bH{β:Type}{R:β→Prop}{r:Nat}{f:Obj→Sem β}(h1:¬ Z r→∀o,Plain Z o→Tm P Z R (f o))(h2:Z r→Bd P Z (f (X0 r))):Tm P Z R (getObj r >>= f):=⟨h1,h2⟩
theorem dD{β:Type}{R:β→Prop}{r:Nat}{o:Obj}{f:Unit→Sem β}(hz:¬ Z r)(ho:Plain Z o)(h:Tm P Z R (f ())):Tm P Z R (setObj r o >>= f):=⟨hz,ho,h⟩
theorem Ao{r:Nat}{o:Obj}(hz:¬ Z r)(ho:Plain Z o):T P Z (setObj r o):=⟨hz,ho,zT⟩
theorem TB{α:Type}(m:String):Bd P Z (stuck m:Sem α):=Dm.bd trivial
theorem ZO(e:TypeId)(b:Bool)(o:Value):T P Z (Instr.alloc e b o):=by
 unfold Instr.alloc
 refine tb (dB _) fun z=>?_
 split
 ·exact tb (Ap _ _ _) fun _=>av _
 ·exact tb (Am _ _) fun _=>av _
theorem De(e:TypeId)(v:Value):T P Z (Instr.box e v):=tb (Am _ _) fun _=>av _
theorem ZR(t:TypeId)(ps:Array (Nat × Value)):T P Z (Instr.build t ps):=by
 unfold Instr.build
 refine tb (dB _) fun z=>tb (cZ _) fun d=>?_
 split
 ·refine tb (Wt _ fun f=>tb (bZ _) fun _=>av _) fun places=>?_
  split
  ·exact av _
  ·exact au _
 ·refine tb (bZ _) fun n=>?_
  split
  ·exact av _
  ·exact au _
 ·exact au _
theorem FI(t:TypeId)(len:Nat)(ps:Array (Nat × Value)):T P Z (Instr.buildSlice t len ps):=by
 unfold Instr.buildSlice
 refine tb (cZ _) fun d=>?_
 repeat' with_reducible first
  | exact av _
  | exact au _
  | refine tb (av _) fun _=>?_
  | refine tb (bZ _) fun _=>?_
  | refine tb (dB _) fun _=>?_
  | refine tb (tO _ _) fun _=>?_
  | refine tb (Wx _) fun _=>?_
  | split
  | dsimp only
theorem Wq(t:TypeId)(a:Value):T P Z (Instr.loadAt t a):=tb (kD _) fun _=>pG _ _
theorem Rp(t:TypeId)(a v:Value):T P Z (Instr.storeAt t a v):=tb (kD _) fun _=>Ap _ _ _
theorem Rb(s:TypeId)(a:Value)(f:Nat):T P Z (Instr.fieldAt s a f):=by
 unfold Instr.fieldAt
 refine tb (cZ _) fun d=>?_
 repeat' with_reducible first
  | exact av _
  | exact au _
  | refine tb (kD _) fun _=>?_
  | refine tb (tL _ _) fun _=>?_
  | split
  | dsimp only
theorem Rf(t:TypeId)(x i:Value):T P Z (Instr.indexAt t x i):=by
 unfold Instr.indexAt
 refine tb (pz _) fun⟨k,i⟩=>tb (cZ _) fun d=>?_
 repeat' with_reducible first
  | exact av _
  | exact au _
  | exact vS _
  | exact lG _ _ _ _
  | refine tb (av _) fun _=>?_
  | refine tb (au _) fun _=>?_
  | refine tb (kD _) fun _=>?_
  | refine tb (cZ _) fun _=>?_
  | refine tb (bZ _) fun _=>?_
  | split
  | dsimp only
theorem ai(t:TypeId)(x:Value)(l h m:Option Value):T P Z (Instr.slice t x l h m):=by
 unfold Instr.slice
 refine tb (cZ _) fun d=>?_
 repeat' with_reducible first
  | exact av _
  | exact au _
  | refine tb (av _) fun _=>?_
  | refine tb (au _) fun _=>?_
  | refine tb (tJ _) fun _=>?_
  | refine tb (cZ _) fun _=>?_
  | refine tb (bZ _) fun _=>?_
  | refine tb (qE _ _ _ _ _ _) fun _=>?_
  | split
  | dsimp only
theorem Rm(t:TypeId)(x:Value)(l h m:Option Value):T P Z (Instr.sliceAt t x l h m):=by
 unfold Instr.sliceAt
 refine tb (cZ _) fun d=>?_
 split
 ·exact tb (kD _) fun _=>tb (qE _ _ _ _ _ _) fun _=>tb (bZ _) fun _=>av _
 ·exact ai _ _ _ _ _
theorem ZX(t:TypeId)(x:Value)(f:Nat):T P Z (Instr.field t x f):=by
 unfold Instr.field
 refine tb (cZ _) fun d=>?_
 repeat' with_reducible first
  | exact au _
  | exact iC _ _ _
  | refine tb (ZP _) fun _=>?_
  | split
  | dsimp only
theorem ZY(t:TypeId)(x i:Value):T P Z (Instr.index t x i):=by
 unfold Instr.index
 refine tb (pz _) fun⟨k,i⟩=>tb (cZ _) fun d=>?_
 repeat' with_reducible first
  | exact av _
  | exact au _
  | exact iC _ _ _
  | exact lG _ _ _ _
  | refine tb (bZ _) fun _=>?_
  | split
  | dsimp only
theorem Rh(t:TypeId)(r:Option Value):T P Z (Instr.makeMap t r):=by
 unfold Instr.makeMap
 have fin:T P Z (do pure (.map (some (← newObj (.map #[] 0)))):Sem Value):=tb (mg (by trivial)) fun _=>av _
 repeat' with_reducible first
  | exact fin
  | exact av _
  | refine tb (au _) fun _=>?_
  | refine tb (cZ _) fun _=>?_
  | refine tb (pq _) fun _=>?_
  | split
  | dsimp only
theorem JA(t:TypeId)(l c:Value):T P Z (Instr.makeSlice t l c):=by
 unfold Instr.makeSlice
 refine tb (cZ _) fun d=>?_
 repeat' with_reducible first
  | exact av _
  | exact au _
  | refine tb (av _) fun _=>?_
  | refine tb (pq _) fun _=>?_
  | refine tb (dI _) fun _=>?_
  | refine tb (aF _) fun _=>?_
  | refine tb (dN _) fun _=>?_
  | refine tb (DU _) fun _=>?_
  | refine tb (bZ _) fun _=>?_
  | refine tb (dB _) fun _=>?_
  | refine tb (tO _ _) fun _=>?_
  | split
  | dsimp only
theorem Ra(v:Value)(i:Nat):T P Z (Instr.extract v i):=by
 unfold Instr.extract
 split
 ·split
  ·exact av _
  ·exact au _
 ·exact au _
theorem wG(t:TypeId)(x:Value):T P Z (Instr.makeInterface t x):=tb (cZ _) fun d=>by
 split
 ·exact au _
 ·exact av _
theorem Tm.ite{α:Type}{Q:α→Prop}{c:Prop}[Decidable c]{a b:Sem α}(h1:Tm P Z Q a)(h2:Tm P Z Q b):Tm P Z Q (if c then a else b):=by
 split
 ·exact h1
 ·exact h2
theorem dK{α:Type}{s:Sem α}(h:Dm P s):Bd P Z s:=h.bd
theorem ae(t:TypeId)(x:Value):T P Z (Instr.range t x):=by
 unfold Instr.range
 refine tb (cZ _) fun d=>?_
 have fin:∀it,Plain Z it→T P Z (do pure (.pointer (some ⟨← newObj it,0,none⟩)):Sem Value):=fun it h=>tb (mg h) fun _=>av _
 split
 ·exact tq (Q:=Plain Z) (by exact zT) fun it h=>fin it h
 ·exact tq (Q:=Plain Z) (by exact zT) fun it h=>fin it h
 ·refine bH (fun hz o ho=>?_) fun hz=>dK (by exact zT)
  split
  ·exact tq (Q:=Plain Z) (by exact zT) fun it h=>fin it h
  ·exact tq (Q:=Plain Z) (au _) fun it h=>fin it h
 ·exact tq (Q:=Plain Z) (au _) fun it h=>fin it h
theorem ot(it:Value)(s:Bool)(t:TypeId):T P Z (Instr.next it s t):=by
 unfold Instr.next
 dsimp only
 split
 ·rename_i r _
  refine bH (fun hz o ho=>?_) fun hz=>dK (by exact zT)
  split
  ·split
   ·exact dD hz trivial (av _)
   ·exact av _
  ·exact av _
  ·refine bH (fun hz2 o2 ho2=>?_) fun hz=>dK (by exact zT)
   have fin:∀ (n:Nat) (c:Array (Option MapEntry)) (m since clock:Nat) (seen:Array Nat),T P Z (match c[n]? with
    | some (some e)=>do
      setObj r (.mapIter (some m) since (seen.push e.born) clock)
      pure (.tuple #[.bool true,e.key,e.val])
    | some none=>pure (.tuple #[.bool false])
    | none=>stuck sQ8:Sem Value):=fun n c m since clock seen=>by
    split
    ·exact dD hz trivial (av _)
    ·exact av _
    ·exact au _
   cases o2 <;> first|exact au _|skip
   dsimp only
   refine Tm.ite ?_ ?_
   ·exact tb (vS _) fun _=>tb (dN _) fun n=>fin _ _ _ _ _ _
   ·exact tb (dN _) fun n=>fin _ _ _ _ _ _
  ·exact au _
 ·exact au _
theorem Ws(hg:P.globals.size=0){t:TypeId}(ht:∀k e,P.underlying t=some (.map k e)→JI P 10000 k=true)(x i:Value)(ok:Bool):T P Z (Instr.lookup t x i ok):=by
 unfold Instr.lookup
 refine tq (bX _) fun d hd=>?_
 cases d with
 | map k e=>
   dsimp only
   have hk:=ht k e hd
   repeat' with_reducible first
    | exact av _
    | exact au _
    | exact TB _
    | refine tb (av _) fun _=>?_
    | refine tb (au _) fun _=>?_
    | refine tb (kr _ _ _ _) fun _=>?_
    | refine tb (pF hg hk _ _) fun _=>?_
    | refine tb (dB _) fun _=>?_
    | (refine bH (fun hz o ho=>?_) fun hz=>?_
       rotate_left
       ·with_unfolding_all (refine dK ?_;exact zT))
    | split
    | dsimp only
 | _=>exact au _
theorem oF(a b:Value):T P Z (Instr.keyThatStays a b):=by
 unfold Instr.keyThatStays
 split
 ·exact av _
 ·exact tb (dN _) fun _=>av _
theorem vR(hg:P.globals.size=0){t:TypeId}(ht:∀k e,P.underlying t=some (.map k e)→JI P 10000 k=true)(m k v:Value):T P Z (Instr.mapUpdate t m k v):=by
 unfold Instr.mapUpdate
 refine tq (bX _) fun d hd=>?_
 split
 ·rename_i kt e
  split
  ·exact aF _
  ·refine bH (fun hz o ho=>?_) fun hz=>dK (by exact zT)
   split
   ·refine tb (kr _ _ _ _) fun _=>tb (pF hg (ht kt e hd) _ _) fun r=>?_
    split
    ·exact tb (oF _ _) fun _=>Ao hz trivial
    ·exact Ao hz trivial
   ·exact au _
  ·exact au _
 ·exact au _
theorem MG(hg:P.globals.size=0){t:TypeId}(ht:∀k e,P.underlying t=some (.map k e)→JI P 10000 k=true)(m k:Value):T P Z (Instr.mapEntry t m k):=by
 unfold Instr.mapEntry
 refine tq (bX _) fun d hd=>?_
 split
 ·rename_i kt e
  split
  ·exact aF _
  ·refine bH (fun hz o ho=>?_) fun hz=>dK (by exact zT)
   split
   ·refine tb (kr _ _ _ _) fun _=>tb (pF hg (ht kt e hd) _ _) fun r=>?_
    split
    ·exact tb (oF _ _) fun _=>dD hz trivial (av _)
    ·exact tb (dB _) fun _=>dD hz trivial (av _)
   ·exact au _
  ·exact au _
 ·exact au _
theorem FJ(t:TypeId)(m s v:Value):T P Z (Instr.entryStore t m s v):=by
 unfold Instr.entryStore
 split
 ·refine bH (fun hz o ho=>?_) fun hz=>dK (by exact zT)
  split
  ·refine tb (pq _) fun b=>?_
   split
   ·exact Ao hz trivial
   ·exact vS _
  ·exact au _
 ·exact au _
theorem DD(ts:Array TypeId)(t:TypeId)(args:Array Value):T P Z (Builtin.len_ ts t args):=by
 unfold Builtin.len_
 split
 ·refine tb (cZ _) fun d=>?_
  split
  ·exact av _
  ·exact av _
  ·refine tb (cZ _) fun d=>?_
   split
   ·exact av _
   ·exact au _
  ·exact av _
  ·exact av _
  ·exact av _
  ·refine bH (fun hz o ho=>?_) fun hz=>dK (by exact zT)
   split
   ·exact av _
   ·exact au _
  ·refine bH (fun hz o ho=>?_) fun hz=>dK (by exact zT)
   split
   ·exact av _
   ·exact au _
  ·exact au _
 ·exact au _
theorem Ds(ts:Array TypeId)(t:TypeId)(args:Array Value):T P Z (Builtin.cap_ ts t args):=by
 unfold Builtin.cap_
 split
 ·refine tb (cZ _) fun d=>?_
  split
  ·exact av _
  ·refine tb (cZ _) fun d=>?_
   split
   ·exact av _
   ·exact au _
  ·exact av _
  ·exact av _
  ·refine bH (fun hz o ho=>?_) fun hz=>dK (by exact zT)
   split
   ·exact av _
   ·exact au _
  ·exact au _
 ·exact au _
theorem OB(v:Value):T P Z (Builtin.lenOf v):=by
 unfold Builtin.lenOf
 split <;> exact zT
theorem tN(s n:Nat)(v:Value):T P Z (Builtin.firstCells s n v):=by
 unfold Builtin.firstCells
 split
 ·exact vQ _ _
 ·exact av _
 ·exact av _
 ·exact au _
theorem ZV(ts:Array TypeId)(t:TypeId)(args:Array Value):T P Z (Builtin.close_ ts t args):=by
 obtain⟨l⟩:=args
 rcases l with _|⟨a,_|⟨b,l⟩⟩
 ·exact au _
 ·cases a with
  | chan c=>
    cases c with
    | none=>unfold Builtin.close_;exact aF _
    | some r=>
      unfold Builtin.close_
      dsimp only
      refine bH (fun hz o ho=>?_) fun hz=>dK (by exact zT)
      cases o with
      | chan room buf closed sent received timer=>
        dsimp only
        refine Tm.ite ?_ ?_
        ·exact tb (aF _) fun _=>dD hz trivial (av _)
        ·exact dD hz trivial (av _)
      | _=>exact au _
  | _=>exact au _
 ·exact au _
theorem Wi(hg:P.globals.size=0)(ts:Array TypeId)(t:TypeId)(args:Array Value)(ht:∀m k e,ts[0]? =some m→P.underlying m=some (.map k e)→JI P 10000 k=true):T P Z (Builtin.delete_ ts t args):=by
 unfold Builtin.delete_
 cases h0:ts[0]? with
 | none=>exact au _
 | some mt=>
   cases h1:args[0]? with
   | none=>exact au _
   | some m=>
     cases h2:args[1]? with
     | none=>exact au _
     | some k=>
       dsimp only
       refine tq (bX _) fun d hd=>?_
       cases d with
       | map kt e=>
         dsimp only
         have hk:=ht mt kt e h0 hd
         split
         ·exact tb (kr _ _ _ _) fun _=>av _
         ·refine bH (fun hz o ho=>?_) fun hz=>dK (by exact zT)
          cases o with
          | map es clock=>
            dsimp only
            refine tb (kr _ _ _ _) fun _=>tb (pF hg hk _ _) fun r=>?_
            split
            ·exact dD hz trivial (av _)
            ·exact dD hz trivial (av _)
          | _=>exact tb (au _) fun _=>av _
         ·exact tb (au _) fun _=>av _
       | _=>exact au _
def Calm(P:Program){α:Type}(s:Sem α):Prop:=∀w es,∃a es',s.runT P w es=(.ok a w,es')
theorem Calm.bind{α β:Type}{s:Sem α}{f:α→Sem β}(h:Calm P s)(hf:∀a,Calm P (f a)):Calm P (s >>= f):=fun w es=>by
 obtain⟨a,es1,e⟩:=h w es
 obtain⟨b,es2,e2⟩:=hf a w es1
 refine⟨b,es2,?_⟩
 show(s.bind f).runT P w es=_
 rw[Sem.runT_bind',e]
 exact e2
theorem Calm.pure{α:Type}(a:α):Calm P (pure a:Sem α):=fun w es=>⟨a,es,rfl⟩
theorem Ky(r:Nat):Calm P (shape r):=fun w es=>⟨w.shape? r,es,rfl⟩
theorem GJ(a:Addr):Calm P (frozen a):=fun w es=>⟨w.frozen? a,es,rfl⟩
theorem xI(a:Addr)(n:Nat):Calm P (Builtin.holdsCells a n):=(Ky _).bind fun x=>by
 split <;> exact Calm.pure _
theorem Calm.bd{α β:Type}{s:Sem α}{f:α→Sem β}(h:Calm P s)(hf:∀a,Dm P (f a)):Bd P Z (s >>= f):=fun w es hl hg=>by
 obtain⟨a,es1,e⟩:=h w es
 have:(s >>= f).runT P w es=(f a).runT P w es1:=by
  show(s.bind f).runT P w es=_
  rw[Sem.runT_bind',e]
 rw[this] at hg
 exact(hf a).run _ _ hg
theorem Al{β:Type}{R:β→Prop}(size sLen n:Nat)(base:Option Addr)(x:Value){g:Bool→Sem β}(h1:∀b,Dm P (g b))(h2:∀b,Tm P Z R (g b)):Tm P Z R (Builtin.mayShare size sLen n base x >>= g):=by
 have calm:Calm P (Builtin.mayShare size sLen n base x):=by
  unfold Builtin.mayShare
  have fin:∀b:Bool,Calm P (if (!b)=true then pure true else
   match x with
   | .slice (some c) _ _=>do pure (!(← Builtin.holdsCells c (n * size)) || base.any (·.block == c.block))
   | _=>pure false:Sem Bool):=fun b=>by
   split
   ·exact Calm.pure _
   ·split
    ·exact(xI _ _).bind fun _=>Calm.pure _
    ·exact Calm.pure _
  cases base with
  | none=>exact(Calm.pure _).bind fin
  | some a=>exact(xI _ _).bind fun _=>(GJ _).bind fun _=>(Calm.pure _).bind fin
 have all:Bd P Z (Builtin.mayShare size sLen n base x >>= g):=calm.bd h1
 cases base with
 | some a=>exact .inl all
 | none=>
   cases x with
   | slice b l c=>
     cases b with
     | some b=>exact .inl all
     | none=>exact h2 _
   | _=>exact h2 _
theorem kh{α β:Type}{R:β→Prop}(e:RuntimeError)(f:α→Sem β):Tm P Z R (runtimePanic e >>= f):=tq (Q:=fun _=>False) (aF e) fun _ h=>h.elim
theorem oN{α β:Type}{R:β→Prop}(m:String)(f:α→Sem β):Tm P Z R (stuck m >>= f):=trivial
theorem ki{α β:Type}{R:β→Prop}(m:String)(f:α→Sem β):Tm P Z R (unsupported (.resourceLimit m) >>= f):=trivial
theorem ur{α β:Type}(u:Unsupported)(f:α→Sem β):Dm P (unsupported u >>= f):=trivial
theorem PR{α:Type}(u:Unsupported):Dm P (unsupported u:Sem α):=trivial
theorem jx{β:Type}(m:Mark){f:Unit→Sem β}(h:Dm P (f ())):Dm P (mark m >>= f):=h
theorem a6{β:Type}{R:β→Prop}{f:Unit→Sem β}(h:Tm P Z R (f ())):Tm P Z R (mark .noRoom >>= f):=⟨rfl,h⟩
theorem Wd(ts:Array TypeId)(t:TypeId)(args:Array Value):T P Z (Builtin.append_ ts t args):=by
 unfold Builtin.append_
 repeat' with_reducible first
  | exact av _
  | exact au _
  | exact kh _ _
  | exact oN _ _
  | exact ki _ _
  | exact ur _ _
  | exact PR _
  | exact Wx _
  | refine jx _ ?_
  | refine a6 ?_
  | refine tb (av _) fun _=>?_
  | refine tb (cZ _) fun _=>?_
  | refine tb (bZ _) fun _=>?_
  | refine tb (pq _) fun _=>?_
  | refine tb (dI _) fun _=>?_
  | refine tb (dN _) fun _=>?_
  | refine tb (DU _) fun _=>?_
  | refine tb (dB _) fun _=>?_
  | refine tb (tb (dB _) fun _=>av _) fun _=>?_
  | refine tb (tO _ _) fun _=>?_
  | refine tb (OB _) fun _=>?_
  | refine tb (tN _ _ _) fun _=>?_
  | refine tb (jH _ _ _) fun _=>?_
  | refine Tm.ite ?_ ?_
  | refine Al _ _ _ _ _ (fun b=>?_) (fun b=>?_)
  | refine tq (Q:=fun _=>False) (Al _ _ _ _ _ (fun b=>?_) (fun b=>?_)) fun _ h=>h.elim
  | split
  | dsimp only
theorem ob(ts:Array TypeId)(t:TypeId)(args:Array Value):T P Z (Builtin.copy_ ts t args):=by
 unfold Builtin.copy_
 repeat' with_reducible first
  | exact av _
  | exact au _
  | refine tb (av _) fun _=>?_
  | refine tb (cZ _) fun _=>?_
  | refine tb (bZ _) fun _=>?_
  | refine tb (OB _) fun _=>?_
  | refine tb (tN _ _ _) fun _=>?_
  | refine tb (jH _ _ _) fun _=>?_
  | split
  | dsimp only
theorem ZU(ts:Array TypeId)(t:TypeId)(args:Array Value):T P Z (Builtin.clear_ ts t args):=by
 unfold Builtin.clear_
 cases h0:ts[0]? with
 | none=>exact au _
 | some mt=>
   cases h1:args[0]? with
   | none=>exact au _
   | some m=>
     dsimp only
     refine tb (cZ _) fun d=>?_
     repeat' with_reducible first
      | exact av _
      | exact oN _ _
      | refine tb (av _) fun _=>?_
      | refine tb (dB _) fun _=>?_
      | refine tb (jH _ _ _) fun _=>?_
      | refine dD (by assumption) (by with_unfolding_all exact zT) ?_
      | (refine bH (fun hz o ho=>?_) fun hz=>?_
         rotate_left
         ·with_unfolding_all (refine dK ?_;exact zT))
      | split
      | dsimp only
theorem nu(op:BinOp)(k:IntKind)(x y:Int):T P Z (Op.intArith op k x y):=by unfold Op.intArith;split <;> exact zT
theorem Jz(op:BinOp)(k:IntKind)(x y:Int):T P Z (Op.intDiv op k x y):=by
 unfold Op.intDiv
 split
 ·exact aF _
 ·split <;> exact zT
theorem l9(op:BinOp)(k:IntKind)(x y:Int):T P Z (Op.intBits op k x y):=by unfold Op.intBits;dsimp only;split <;> exact zT
theorem Wm(op:BinOp)(x y:Int):T P Z (Op.intCmp op x y):=by unfold Op.intCmp;split <;> exact zT
theorem OD(op:BinOp)(k:IntKind)(x:Int)(yk:IntKind)(y:Int):T P Z (Op.shift op k x yk y):=by
 unfold Op.shift
 split
 ·exact aF _
 ·dsimp only;split <;> exact zT
theorem rz(op:BinOp)(x y:ByteArray):T P Z (Op.stringOp op x y):=by
 unfold Op.stringOp
 dsimp only
 split
 ·split <;> exact zT
 all_goals exact zT
theorem iB(op:BinOp)(k:FloatKind)(x y:Nat):T P Z (Op.floatArith op k x y):=by
 unfold Op.floatArith
 repeat' with_reducible first
  | exact av _
  | exact oN _ _
  | refine tb (av _) fun _=>?_
  | refine tb (dN _) fun _=>?_
  | split
  | dsimp only
theorem Ah(op:BinOp)(k:FloatKind)(x y:Nat):T P Z (Op.floatCmp op k x y):=by unfold Op.floatCmp;dsimp only;split <;> exact zT
theorem Ai(s:FloatKind)(x:Nat)(d:FloatKind):T P Z (Conv.floatToFloat s x d):=by
 unfold Conv.floatToFloat
 repeat' with_reducible first
  | exact av _
  | exact au _
  | exact oN _ _
  | refine tb (av _) fun _=>?_
  | refine tb (dN _) fun _=>?_
  | split
  | dsimp only
theorem oD(op:BinOp)(k:FloatKind)(x y:Nat):T P Z (Op.Complex.arith op k x y):=tb (iB _ _ _ _) fun _=>by split <;> exact zT
theorem Wh(op:BinOp)(k:FloatKind)(x y:Nat):T P Z (Op.Complex.cmp op k x y):=tb (Ah _ _ _ _) fun _=>tK _
theorem ZT(s:FloatKind)(x:Nat)(d:FloatKind):T P Z (Op.Complex.conv s x d):=by
 unfold Op.Complex.conv
 split
 ·exact av _
 ·exact tb (Ai _ _ _) fun _=>by split <;> exact zT
theorem MB(x y:Nat):T P Z (Op.Complex.add x y):=oD _ _ _ _
theorem MC(x y:Nat):T P Z (Op.Complex.sub x y):=oD _ _ _ _
theorem ku(x y:Nat):T P Z (Op.Complex.mul x y):=oD _ _ _ _
theorem oc(x y:Nat):T P Z (Op.Complex.quo x y):=oD _ _ _ _
theorem Ri(a b c d:Nat):T P Z (Op.Complex.product a b c d):=
 tb (ku _ _) fun _=>tb (ku _ _) fun _=>tb (MC _ _) fun _=>tb (ku _ _) fun _=>tb (ku _ _) fun _=>tb (MB _ _) fun _=>av _
theorem Jt(s a b c d:Nat):T P Z (Op.Complex.corrected s a b c d):=
 tb (ku _ _) fun _=>tb (ku _ _) fun _=>tb (MB _ _) fun _=>tb (ku _ _) fun _=>tb (ku _ _) fun _=>tb (ku _ _) fun _=>tb (MC _ _) fun _=>tb (ku _ _) fun _=>av _
theorem MI(a b c d:Nat):T P Z (Op.Complex.quotient a b c d):=by
 unfold Op.Complex.quotient
 dsimp only
 repeat' with_reducible first
  | exact av _
  | exact Jt _ _ _ _ _
  | refine tb (av _) fun _=>?_
  | refine tb (ku _ _) fun _=>?_
  | refine tb (MB _ _) fun _=>?_
  | refine tb (MC _ _) fun _=>?_
  | refine tb (oc _ _) fun _=>?_
  | refine tb (Wh _ _ _ _) fun _=>?_
  | refine Tm.ite ?_ ?_
  | split
  | dsimp only
theorem Js(op:BinOp)(k:FloatKind)(a b c d:Nat):T P Z (Op.complexOp op k a b c d):=by
 unfold Op.complexOp
 repeat' with_reducible first
  | exact av _
  | exact au _
  | refine tb (av _) fun _=>?_
  | refine tb (oD _ _ _ _) fun _=>?_
  | refine tb (ZT _ _ _) fun _=>?_
  | refine tb (Wh _ _ _ _) fun _=>?_
  | refine tb (Ri _ _ _ _) fun _=>?_
  | refine tb (MI _ _ _ _) fun _=>?_
  | refine Tm.ite ?_ ?_
  | split
  | dsimp only
theorem ao(op:UnOp)(x:Value):T P Z (Op.unary op x):=by
 unfold Op.unary
 split
 ·exact nu _ _ _ _
 ·exact l9 _ _ _ _
 all_goals exact zT
theorem oe(x y:Value):T P Z (Builtin.min2 x y):=by
 unfold Builtin.min2
 repeat' with_reducible first
  | exact av _
  | exact au _
  | exact FR
  | refine tb (dN _) fun _=>?_
  | refine tb (rz _ _ _) fun _=>?_
  | refine tb (tK _) fun _=>?_
  | split
theorem od(x y:Value):T P Z (Builtin.max2 x y):=by
 unfold Builtin.max2
 repeat' with_reducible first
  | exact av _
  | exact au _
  | exact FR
  | refine tb (dN _) fun _=>?_
  | refine tb (rz _ _ _) fun _=>?_
  | refine tb (tK _) fun _=>?_
  | split
theorem DH(ts:Array TypeId)(t:TypeId)(args:Array Value):T P Z (Builtin.min_ ts t args):=by
 unfold Builtin.min_
 split
 ·exact au _
 ·exact DV _ (fun b a=>oe b a) _
theorem DG(ts:Array TypeId)(t:TypeId)(args:Array Value):T P Z (Builtin.max_ ts t args):=by
 unfold Builtin.max_
 split
 ·exact au _
 ·exact DV _ (fun b a=>od b a) _
theorem l8(l:Nat):Tm P Z (fun r=>¬ Z l∧Z.loop r) (Instr.getLoop l):=by
 unfold Instr.getLoop
 refine bH (fun hz o ho=>?_) fun hz=>dK (by exact zT)
 split
 ·exact⟨hz,ho⟩
 ·exact zT
theorem Ju(fn:FuncId)(tmps:Array Value)(ps:Array Tmp)(a b:Code)(r:Option Nat)(ha:Z.jw fn a)(hb:Z.jw fn b):Tm P Z (fun x=>∀d∈x.2,∃c,d.target=.collected c) (Instr.enterLoop fn tmps ps a b r):=by
 unfold Instr.enterLoop
 have hl:∀st d,Z.loop {state:=st,pending:=none,fn:=fn,tmps:=tmps,params:=ps,assign:=a,body:=b,defers:=d }:=fun st d=>⟨ha,hb,fun j e=>by cases e⟩
 cases r with
 | some l=>exact tq (l8 l) fun lp hz=>And.intro (hl _ _) fun _ _=>(by simp:∀d∈([]:List Deferred),∃c,d.target=.collected c)
 | none=>
   refine tb (mg (by exact rfl)) fun r=>?_
   exact And.intro (hl _ _) fun _ _=>(by simp:∀d∈[({target:=.collected r,args:=#[] }:Deferred)],∃c,d.target=.collected c)
theorem aq(l:Nat)(args:Array Value):Tm P Z (fun n=>∃f tmps a b,n=.round l f tmps a b∧Z.jw f a∧Z.jw f b) (Instr.yield l args):=by
 unfold Instr.yield
 refine tq (l8 l) fun r hr=>?_
 dsimp only
 split
 ·exact zT
 ·exact⟨_,_,_,_,rfl,hr.2.1,hr.2.2.1⟩
theorem FH(l:Nat):T P Z (Instr.beginRound l):=by
 unfold Instr.beginRound
 refine tq (l8 l) fun r hz=>dD hz.1 (by exact hz.2) ?_
 split
 ·exact av _
 all_goals exact aF _
theorem ME(l:Nat)(j:Option Code)(hj:∀c f c0,j=some c→Z.jw f c0→Z.jw f c):T P Z (Instr.endRound l j):=by
 unfold Instr.endRound
 exact tq (l8 l) fun r hz=>dD hz.1 ⟨hz.2.1,hz.2.2.1,fun c e=>hj c _ _ e hz.2.1⟩ (av _)
theorem QZ(l:Nat):Tm P Z (fun j=>∀c,j=some c→∃f,Z.jw f c) (Instr.endLoop l):=by
 unfold Instr.endLoop
 refine tq (l8 l) fun r hz=>?_
 dsimp only
 refine Tm.ite ?_ ?_
 ·exact kh _ _
 ·exact dD hz.1 (by exact hz.2) (jI fun c e=>⟨_,hz.2.2.2 c e⟩)
theorem Aq(b:Nat):Tm P Z (fun ds=>ds=[]) (Instr.takeDeferred b):=by
 unfold Instr.takeDeferred
 refine bH (fun hz o ho=>?_) fun hz=>dK (by exact zT)
 split
 ·exact dD hz trivial (jI ho)
 ·exact au _
theorem Rk(fn:Func)(tmps:Array Value):T P Z (results fn tmps):=by
 unfold results
 refine tb (Wt _ fun r=>?_) fun vs=>av _
 split
 ·exact av _
 ·exact tb (tJ _) fun _=>pG _ _
theorem Gz{n:Addr}(h:Z n.block){w:World}(hl:Lv Z w)(es:Array Event):(behindNumber n).runT P w es=(.ok (n,false) w,es.push ⟨.obj n.block,false,false⟩):=by
 have e1:w.shape? n.block=none:=by simp[World.shape?,hl.dead _ h,X0]
 simp[behindNumber,numberAt,shape,getObj,bind,Sem.bind,Sem.runT,e1,hl.dead _ h,X0,pure,Obj.isChan,-Sem.runT_eq]
theorem DX{β:Type}{R:β→Prop}{n:Addr}{f:Addr × Bool→Sem β}(h:∀x,Tm P Z R (f x))(hd:Z n.block→Bd P Z (f (n,false))):Tm P Z R (behindNumber n >>= f):=by
 by_cases hz:Z n.block
 ·refine .inl ?_
  intro w es hl hg
  have e:(behindNumber n >>= f).runT P w es=(f (n,false)).runT P w (es.push ⟨.obj n.block,false,false⟩):=by
   show((behindNumber n).bind f).runT P w es=_
   rw[Sem.runT_bind',Gz hz hl]
  rw[show Sem.runT P (Sem.shape n.block _) w es=(behindNumber n >>= f).runT P w es from rfl,e] at hg
  exact hd hz w _ hl hg
 ·refine tb ?_ h
  refine tb (s:=numberAt n.block) ?_ fun _=>av _
  refine .inr ⟨fun _ x=>?_,fun hz2=>absurd hz2 hz⟩
  show Tm P Z _ (Sem.bind (Sem.pure x) _)
  cases x with
  | some x=>exact zT
  | none=>exact⟨fun _ o ho=>by cases o <;> first|exact zT|exact ho.elim,fun hz2=>absurd hz2 hz⟩
theorem xD(c:Addr)(w:World)(es:Array Event):(∃a es',(behindNumber c).runT P w es=(.ok a w,es'))∨∃m es',(behindNumber c).runT P w es=(.halt (.stuck m) w,es'):=by
 have e:behindNumber c=(do let x ← numberAt c.block;pure (x.getD (c,false))):=rfl
 rw[e]
 simp only[numberAt,shape,getObj,bind,Sem.bind,pure,Sem.runT]
 cases hs:w.shape? c.block with
 | some x=>exact .inl ⟨_,_,rfl⟩
 | none=>
   simp only[Option.isSome_none,Bool.false_eq_true,if_false,Sem.bind,Sem.runT]
   cases hh:w.heap[c.block]? with
   | none=>exact .inr ⟨_,_,rfl⟩
   | some o=>cases o <;> first|exact .inr ⟨_,_,rfl⟩|exact .inl ⟨_,_,rfl⟩
theorem i5(a b:Addr)(f:Addr × Bool→Addr × Bool→Sem Value)(lost:∀x y,Dm P (f x y)):Bd P Z (do let x ← behindNumber a;let y ← behindNumber b;f x y):=by
 intro w es hl hg
 replace hg:fH (((behindNumber a).bind fun x=>(behindNumber b).bind fun y=>f x y).runT P w es).1:=hg
 rw[Sem.runT_bind'] at hg
 rcases xD (P:=P) a w es with⟨x,es1,e⟩|⟨m,es1,e⟩ <;> rw[e] at hg
 ·dsimp only at hg
  rw[Sem.runT_bind'] at hg
  rcases xD (P:=P) b w es1 with⟨y,es2,e⟩|⟨m,es2,e⟩ <;> rw[e] at hg
  ·exact(lost x y).run _ _ hg
  ·exact hg
 ·exact hg
theorem uk(hg:P.globals.size=0)(a b:Addr){β:Type}(f:Nat × Nat→Sem β):Dm P (Op.twoPlaces a b >>= f):=by
 show Dm P (Sem.bind (if (a.block != b.block || decide (a.block≥P.globals.size))=true then _ else _) f)
 rw[hg]
 simp only[ge_iff_le,Nat.zero_le,decide_true,Bool.or_true,if_true]
 exact zT
theorem oH(ts:Array TypeId)(t:TypeId)(args:Array Value):T P Z (Builtin.unsafeAdd_ ts t args):=by
 obtain⟨l⟩:=args
 rcases l with _|⟨a,_|⟨b,_|⟨c,l⟩⟩⟩
 ·exact au _
 ·cases a <;> exact au _
 ·cases a with
  | pointer p=>
    unfold Builtin.unsafeAdd_
    dsimp only
    refine tb (pq _) fun n=>?_
    have tail:∀p:Option Addr,T P Z (match p with
     | some a=>do
       let some (e,cells) ← shape a.block|unsupported (.unsafePointer "Add")
       let q ← program
       match cellAtBytes q q.depth e (cells / q.cellsOf e) a.off n with
       | some off=>pure (.pointer (some {a with off }))
       | none=>unsupported (.unsafePointer "Add")
     | none=>unsupported (.unsafePointer "Add"):Sem Value):=fun p=>by
     cases p with
     | none=>exact ov _
     | some a=>
       refine .inr ⟨fun _ x=>?_,fun hz=>dK (by exact zT)⟩
       show Tm P Z _ (match x with|some (e,cells)=>_|_=>_)
       cases x with
       | none=>exact zT
       | some x=>
         dsimp only
         refine tb mh fun q=>?_
         split <;> exact zT
    refine Tm.ite ?_ ?_
    ·cases p with
     | none=>exact zT
     | some a=>
       dsimp only
       by_cases hz:Z a.block
       ·refine .inl fun w es hl hg=>?_
        have e1:w.shape? a.block=none:=by simp[World.shape?,hl.dead _ hz,X0]
        simp[getObj,bind,Sem.bind,Sem.runT,e1,hl.dead _ hz,X0,pure,unsupported,Obj.isChan,-Sem.runT_eq] at hg
        exact hg
       ·refine tb (JB hz) fun x=>?_
        split <;> exact zT
    ·refine Tm.ite ?_ ?_
     ·exact zT
     ·cases p with
      | none=>exact zT
      | some a=>exact tail (some a)
  | _=>exact au _
 ·cases a <;> exact au _
theorem Pb{r:Nat}(hz:Z r){β:Type}{f:Option (Addr × TypeId)→Sem β}(h:∀x,Dm P (f (some x))):Bd P Z (viewAt r >>= f):=by
 intro w es hl hg
 have e1:w.shape? r=none:=by simp[World.shape?,hl.dead _ hz,X0]
 have e:(viewAt r).runT P w es=(.ok (some (⟨r,0,none⟩,0)) w,es.push ⟨.obj r,false,false⟩):=by
  simp[viewAt,shape,getObj,bind,Sem.bind,Sem.runT,e1,hl.dead _ hz,X0,pure,Obj.isChan,-Sem.runT_eq]
 replace hg:fH (((viewAt r).bind f).runT P w es).1:=hg
 rw[Sem.runT_bind',e] at hg
 exact(h _).run _ _ hg
theorem TA{r:Nat}(hz:Z r){β:Type}{f:Option (TypeId × Nat)→Sem β}(h:Dm P (f none)):Bd P Z (shape r >>= f):=by
 intro w es hl hg
 have e1:w.shape? r=none:=by simp[World.shape?,hl.dead _ hz,X0]
 replace hg:fH ((Sem.shape r fun s=>(Sem.pure s).bind f).runT P w es).1:=hg
 simp only[Sem.runT,e1,Sem.bind] at hg
 exact h.run _ _ hg
theorem Tz{α:Type}{c:Prop}[Decidable c]{a b:Sem α}(h1:Bd P Z a)(h2:Bd P Z b):Bd P Z (if c then a else b):=by
 split
 ·exact h1
 ·exact h2
theorem Ew{a:Addr}(hz:Z a.block)(ts:Array TypeId)(t:TypeId)(y:Value):Bd P Z (Builtin.unsafeAdd_ ts t #[.pointer (some a),y]):=by
 cases y with
 | int k n=>
   show Bd P Z (if n=0 then _ else if n<0 then _ else _)
   refine Tz ?_ (Tz ?_ ?_)
   ·exact Pb hz fun x=>by exact zT
   ·exact dK (by exact zT)
   ·exact TA hz (by exact zT)
 | pointer p=>cases p <;> exact dK (by exact zT)
 | _=>exact dK (by exact zT)
theorem qC(t:TypeId)(x y:Value):T P Z (movedNumber t x y):=by
 unfold movedNumber
 refine tb (cZ t) fun d=>?_
 have tail:∀r:Sem Value,T P Z r→∀lost,T P Z (do match ← r with| .pointer (some b)=>asNumber b lost|v=>pure v:Sem Value):=fun r hr lost=>tb hr fun v=>by
  split
  ·exact tb (mg (by exact zT)) fun _=>av _
  ·exact av _
 cases x with
 | pointer p=>
   cases p with
   | none=>dsimp only;exact Tm.ite (by exact zT) (oH _ _ _)
   | some n=>dsimp only;exact Tm.ite (by exact zT) (DX (fun x=>tail _ (oH _ _ _) _) fun hz=>(Ew hz _ _ _).bind _)
 | _=>dsimp only;exact Tm.ite (by exact zT) (oH _ _ _)
theorem QW(k:IntKind)(a:Addr)(n:Int):T P Z (Op.addrMod k a n):=by
 unfold Op.addrMod
 refine .inr ⟨fun _ x=>?_,fun hz=>dK (by exact zT)⟩
 show Tm P Z _ (match x with|some (e,_)=>_|_=>_)
 cases x with
 | none=>exact zT
 | some x=>
   dsimp only
   refine tb (dI _) fun i=>?_
   split
   ·exact zT
   ·exact tb (Ag _) fun _=>av _
theorem Ko{a:Addr}(hz:Z a.block)(k:IntKind)(n:Int):Bd P Z (Op.addrMod k a n):=by
 intro w es hl hg
 have e1:w.shape? a.block=none:=by simp[World.shape?,hl.dead _ hz,X0]
 simp[Op.addrMod,shape,bind,Sem.bind,Sem.runT,e1,unsupported,-Sem.runT_eq] at hg
 exact hg
theorem Z8(k:IntKind)(a:Addr)(n:Int):T P Z (do Op.addrMod k (← behindNumber a).1 n):=DX (fun x=>QW _ _ _) fun hz=>Ko hz _ _
theorem ZQ(hg:P.globals.size=0)(op:BinOp)(t:TypeId)(x y:Value)(he:op=.eql∨op=.neq→JI P 10000 t=true)(hu:P.underlying t≠some .unsafePointer):T P Z (binOp op t x y):=by
 unfold binOp
 split
 ·exact OD _ _ _ _ _
 ·exact OD _ _ _ _ _
 ·split
  ·exact au _
  ·split
   ·exact nu _ _ _ _
   ·exact nu _ _ _ _
   ·exact nu _ _ _ _
   ·exact Jz _ _ _ _
   ·exact Jz _ _ _ _
   ·exact l9 _ _ _ _
   ·exact l9 _ _ _ _
   ·exact l9 _ _ _ _
   ·exact l9 _ _ _ _
   ·exact Wm _ _ _
 ·split
  ·exact au _
  ·split
   ·exact iB _ _ _ _
   ·exact iB _ _ _ _
   ·exact iB _ _ _ _
   ·exact iB _ _ _ _
   ·exact Ah _ _ _ _
 ·split
  ·exact au _
  ·exact Js _ _ _ _ _ _
 ·exact rz _ _ _
 ·exact tb (FK hg (he (.inl rfl)) _ _) fun _=>av _
 ·exact tb (FK hg (he (.inr rfl)) _ _) fun _=>av _
 ·refine tq (bX t) fun d hd=>?_
  cases d <;> first|exact absurd hd hu|exact qC _ _ _
 all_goals first
  | exact qC _ _ _
  | exact Z8 _ _ _
  | exact zT
  | exact .inl (i5 _ _ _ fun x y=>uk hg _ _ _)
theorem Ro(ts:Array TypeId)(t:TypeId)(args:Array Value):T P Z (Builtin.ssaWrapNilChk_ ts t args):=by
 obtain⟨l⟩:=args
 rcases l with _|⟨a,_|⟨b,_|⟨c,_|⟨d,l⟩⟩⟩⟩
 ·exact au _
 ·exact au _
 ·exact au _
 ·cases b <;> first|exact au _|skip
  cases c <;> first|exact au _|skip
  cases a <;> first|exact au _|skip
  rename_i p
  cases p <;> first|exact av _|skip
  refine tb (dN _) fun _=>?_
  repeat' with_reducible first
   | exact av _
   | exact au _
   | exact aF _
   | exact vS _
   | exact kh _ _
   | exact oN _ _
   | refine tb (av _) fun _=>?_
   | refine tb (dN _) fun _=>?_
   | refine tb (cZ _) fun _=>?_
   | refine tb (dI _) fun _=>?_
   | split
   | dsimp only
 ·exact au _
theorem ny(t:TypeId)(x:Place):T P Z (x.get t):=by
 unfold Place.get
 split
 ·exact av _
 ·exact pG _ _
theorem Jw(l:List FieldStep):∀ (t:TypeId) (x:Place),T P Z (follow l t x):=by
 induction l with
 | nil=>exact fun _ _=>av _
 | cons s l ih=>
   intro t x
   unfold follow
   refine tb (cZ _) fun d=>?_
   repeat' with_reducible first
    | exact ih _ _
    | exact au _
    | refine tb (ny _ _) fun _=>?_
    | refine tb (tJ _) fun _=>?_
    | refine tb (tL _ _) fun _=>?_
    | refine tb (iC _ _ _) fun _=>?_
    | split
theorem tQ(t:TypeId)(x:Place)(b:Bool)(w:Option String):T P Z (receiverAt t x b w):=by
 unfold receiverAt
 refine tb (cZ _) fun d=>?_
 repeat' with_reducible first
  | exact ny _ _
  | exact av _
  | exact au _
  | exact pG _ _
  | refine tb (av _) fun _=>?_
  | refine tb (ny _ _) fun _=>?_
  | refine tb (Ro _ _ _) fun _=>?_
  | refine tb (tJ _) fun _=>?_
  | split
theorem BZ(t:TypeId)(v:Value)(p:Array FieldStep)(b:Bool):T P Z (receiverVia t v p b):=tb (Jw _ _ _) fun _=>tQ _ _ _ _
theorem Wu(n:Nat):∀ (t:TypeId) (v:Value) (name:String),T P Z (method n t v name):=by
 induction n with
 | zero=>exact fun _ _ _=>trivial
 | succ n ih=>
   intro t v name
   unfold method
   refine tb (dI _) fun i=>?_
   repeat' with_reducible first
    | exact ih _ _ _
    | exact av _
    | exact au _
    | exact aF _
    | refine tb (Jw _ _ _) fun _=>?_
    | refine tb (ny _ _) fun _=>?_
    | refine tb (tQ _ _ _ _) fun _=>?_
    | split
    | dsimp only
theorem BU(l:List FieldStep):∀ (t:TypeId) (x:Option Value),T P Z (followBlind l t x):=by
 induction l with
 | nil=>exact fun _ _=>av _
 | cons s l ih=>
   intro t x
   unfold followBlind
   refine tb (cZ _) fun d=>?_
   repeat' with_reducible first
    | exact ih _ _
    | exact av _
    | exact au _
    | refine tb (iC _ _ _) fun _=>?_
    | split
theorem MH(n:Nat):∀ (t:TypeId) (v:Value) (name:String),T P Z (nilAhead n t v name):=by
 induction n with
 | zero=>exact fun _ _ _=>av _
 | succ n ih=>
   intro t v name
   unfold nilAhead
   refine tb (dI _) fun i=>?_
   repeat' with_reducible first
    | exact ih _ _ _
    | exact av _
    | exact au _
    | refine tb (BU _ _ _) fun _=>?_
    | refine tb (cZ _) fun _=>?_
    | split
    | dsimp only
def gH(Z:Env)(F:FuncId→Prop):Next→Prop
 | .value _| .skip=>True
 | .round _ f _ a b=>Z.jw f a∧Z.jw f b
 | .enter f _=>F f
 | .spawn _=>True
 | .comm cases blocking shape=>blocking=true∧∃c ok,cases=#[c]∧c.send=none∧shape=.recv ok
 | _=>False
def Rn(P:Program)(Z:Env){α:Type}(R:α→Prop)(s:Sem α)(w:World):Prop:=∀es,fH (s.runT P w es).1→∃n new r,Ran P Z R s w es n new r
theorem Tm.rn{α:Type}{R:α→Prop}{s:Sem α}{w:World}(h:Tm P Z R s)(hl:Lv Z w):Rn P Z R s w:=fun es hg=>WL h hl hg
theorem Rn.bind{α β:Type}{Q:α→Prop}{R:β→Prop}{s:Sem α}{f:α→Sem β}{w:World}(hl:Lv Z w)(hs:Tm P Z Q s)(hf:∀a w1,Q a→s.run P w=.ok a w1→Lv Z w1→Rn P Z R (f a) w1):Rn P Z R (s.bind f) w:=by
 intro es hg
 have hg1:fH (s.runT P w es).1:=by
  rw[Sem.runT_bind'] at hg
  generalize s.runT P w es=r at hg
  obtain⟨r,es'⟩:=r
  cases r with
  | ok a w'=>trivial
  | halt e w'=>cases e <;> first|exact hg|trivial
 obtain⟨n,new,r,R1⟩:=WL hs hl hg1
 cases r with
 | halt e w1=>
   have hgh:fH (.halt e w1:Result α):=by
    have:=R1.run
    rw[this] at hg1
    exact hg1
   refine⟨n,new,.halt e w1,?_,R1.drawn,R1.tape,R1.lv,R1.evs,(fun _ _ e=>by cases e),fun v es2 hs2 ha=>?_⟩
   ·rw[Sem.runT_bind',R1.run]
   ·obtain⟨v',e1,e2⟩:=R1.qz v es2 hs2 ha
    exact⟨v',by rw[Sem.runT_bind',e1];rfl,e2⟩
 | ok a w1=>
   have hrun:s.run P w=.ok a w1:=by
    have:=Sem.runT_fst P s w es
    rw[R1.run] at this
    exact this.symm
   have hg2:fH ((f a).runT P w1 (es ++ new)).1:=by
    rw[Sem.runT_bind',R1.run] at hg
    exact hg
   obtain⟨n2,new2,r2,R2⟩:=hf a w1 (R1.val a w1 rfl) hrun R1.lv (es ++ new) hg2
   have hd1:w1.drawn=w.drawn+n:=R1.drawn
   have ht1:w1.tape=w.tape:=R1.tape
   refine⟨n+n2,new ++ new2,r2,?_,by rw[R2.drawn,hd1];omega,R2.tape.trans ht1,R2.lv,fun e he=>?_,R2.val,fun v es2 hs2 ha=>?_⟩
   ·rw[Sem.runT_bind',R1.run]
    show(f a).runT P w1 (es ++ new)=_
    rw[R2.run,Array.append_assoc]
   ·rcases Array.mem_append.1 he with he|he
    ·exact R1.evs e he
    ·exact R2.evs e he
   ·obtain⟨v1,e1,s1,d1,t1⟩:=R1.qz v es2 hs2 (ha.le zo)
    obtain⟨v2,e2,s2,d2,t2⟩:=R2.qz v1 (es2 ++ new) s1 (Agree.shift ha hd1 ht1 d1 t1)
    refine⟨v2,?_,s2,by rw[d2,d1];omega,t2.trans t1⟩
    rw[Sem.runT_bind',e1]
    show(f a).runT P v1 (es2 ++ new)=_
    rw[e2,Array.append_assoc]
theorem Rn.ret{α:Type}{R:α→Prop}{a:α}{w:World}(hl:Lv Z w)(h:R a):Rn P Z R (pure a) w:=Tm.rn (jI h) hl
def Co(P:Program)(F:FuncId→Prop):Prop:=∀g,F g→∃f c,P.funcs[g]? =some f∧f.body=some c∧(f.name == "runtime.NumGoroutine")=false
theorem ru{F:FuncId→Prop}(hF:Co P F){f:FuncId}(hf:F f)(args:Array Value):Tm P Z (gH Z F) (callFunc f args):=by
 obtain⟨fn,c,h1,h2,h3⟩:=hF f hf
 show Tm P Z (gH Z F) (match P.funcs[f]? with|none=>_|some fn=>_)
 rw[h1]
 show Tm P Z (gH Z F) (if (fn.name == "runtime.NumGoroutine")=true then _ else if fn.body.isNone=true then _ else pure (.enter f args))
 rw[h3,h2]
 exact hf
theorem tv{F:FuncId→Prop}{s:Sem Value}(h:T P Z s):Tm P Z (gH Z F) (do pure (.value (← s))):=tb h fun _=>trivial
theorem tu{F:FuncId→Prop}{s:Sem Unit}(h:T P Z s):Tm P Z (gH Z F) (do s;pure .skip):=tb h fun _=>trivial
def lW(P:Program)(b:Builtin)(ts:Array TypeId):Bool:=match b with
 | .append| .cap| .clear| .close| .copy| .len| .max| .min=>true
 | .delete=>match ts[0]? with
   | some m=>match P.underlying m with|some (.map k _)=>JI P 10000 k|_=>true
   | none=>true
 | _=>false
theorem QX{F:FuncId→Prop}(hg:P.globals.size=0){b:Builtin}{ts:Array TypeId}(h:lW P b ts=true)(t:TypeId)(cs:Array Bool)(args:Array Value):Tm P Z (gH Z F) (builtin b ts t cs args):=by
 cases b <;> first|(cases h;done)|skip
 ·exact tv (Wd _ _ _)
 ·exact tv (Ds _ _ _)
 ·exact tv (ZU _ _ _)
 ·exact tv (ZV _ _ _)
 ·exact tv (ob _ _ _)
 ·refine tv (Wi hg _ _ _ fun m k e h0 h1=>?_)
  simp only[lW,h0,h1] at h
  exact h
 ·exact tv (DD _ _ _)
 ·exact tv (DG _ _ _)
 ·exact tv (DH _ _ _)
theorem qx{F:FuncId→Prop}(hF:Co P F){recv:Value}{name:String}{args:Array Value}{w:World}(hl:Lv Z w)
 (h:∀u v f r w1,recv=.iface u v→(method (P.types.size+Made.depth) u v name).run P w=.ok (f,r) w1→F f):Rn P Z (gH Z F) (callMethod recv name args) w:=by
 unfold callMethod
 cases recv with
 | iface u v=>
   intro es hg
   obtain⟨n,new,r,R⟩:=Rn.bind (R:=gH Z F) (f:=fun x:FuncId × Value=>callFunc x.1 (#[x.2] ++ args)) hl (Wu (P.types.size+Made.depth) u v name) (fun⟨f,r⟩ w1 _ hr hl1=>(ru hF (h u v f r w1 rfl hr) _).rn hl1) es hg
   exact⟨n,new,r,R.run,R.drawn,R.tape,R.lv,R.evs,R.val,R.qz⟩
 | nilIface=>exact(aF _).rn hl
 | _=>exact(au _).rn hl
theorem QD{F:FuncId→Prop}(hg:P.globals.size=0)(hF:Co P F){t:Target}{args:Array Value}{w:World}(hl:Lv Z w)(h:∀f,t.leads P w args=some f→F f)
 (hb:∀b ts ty cs,t=.builtin b ts ty cs→lW P b ts=true)(hc:∀c,t≠.coroexit c):Rn P Z (gH Z F) (invoke t args) w:=by
 cases t with
 | nil=>unfold invoke;exact(aF _).rn hl
 | builtin b ts ty cs=>exact(QX hg (hb _ _ _ _ rfl) ty cs args).rn hl
 | collected r=>exact(au _).rn hl
 | coroexit c=>exact absurd rfl (hc c)
 | fn f cap=>
   cases f with
   | func g=>exact(ru hF (h g rfl) _).rn hl
   | yield l=>exact((aq l args).mono fun n ⟨_,_,_,_,e,h1,h2⟩=>by rw[e];exact⟨h1,h2⟩).rn hl
   | via ty path g ptr=>
     unfold invoke
     cases ha:args[0]? with
     | none=>exact(au _).rn hl
     | some x=>exact Tm.rn (tb (BZ _ _ _ _) fun _=>ru hF (h g rfl) _) hl
   | method name=>
     unfold invoke
     cases ha:args[0]? with
     | none=>exact(au _).rn hl
     | some x=>
       refine qx hF hl fun u v f r w1 e hr=>h f ?_
       subst e
       simp only[Target.leads,ha,hr]
   | methodOf ty name=>
     unfold invoke
     cases ha:args[0]? with
     | none=>exact(au _).rn hl
     | some x=>
       intro es hgd
       refine Rn.bind (R:=gH Z F) hl (bX ty) (fun d w1 hd hr hl1=>?_) es hgd
       have ew:w1=w:=by
        have:(underlying ty).run P w=.ok d w:=by
         simp only[underlying,program,bind,Sem.bind,Sem.run]
         rw[hd]
         rfl
        rw[this] at hr
        cases hr;rfl
       subst ew
       refine qx hF hl1 fun u v f r w2 e hr2=>h f ?_
       simp only[Target.leads,ha,Option.map_some,hd]
       cases d <;> simp_all
theorem ZW(it:Value):T P Z (Instr.entry it):=by
 unfold Instr.entry
 split
 ·refine bH (fun hz o ho=>?_) fun hz=>dK (by exact zT)
  split
  ·split
   ·refine bH (fun hz2 o2 ho2=>?_) fun hz=>dK (by exact zT)
    split
    ·refine Tm.ite ?_ ?_
     ·exact zT
     ·split <;> exact zT
    ·exact au _
   ·exact au _
  ·exact au _
 ·exact au _
def ma(P:Program)(t:TypeId):Bool:=match P.underlying t with|some (.map k _)=>JI P 10000 k|_=>true
theorem wO{t:TypeId}(h:ma P t=true):∀k e,P.underlying t=some (.map k e)→JI P 10000 k=true:=fun k e he=>by
 simp only[ma,he] at h
 exact h
def LY(P:Program)(s d:TypeId):Bool:=match P.underlying s,P.underlying d with
 | some (.int _),some (.int _)=>true
 | some .string,some .string=>true
 | _,_=>false
theorem FP(a:FloatKind)(n:Nat)(k:IntKind):T P Z (Conv.floatToInt a n k):=by
 unfold Conv.floatToInt
 repeat' with_reducible first
  | exact av _
  | exact au _
  | refine tb (av _) fun _=>?_
  | refine tb (dN _) fun _=>?_
  | split
  | dsimp only
theorem BX(n:Int):T P Z (Conv.intToString n):=by
 unfold Conv.intToString
 repeat' with_reducible first
  | exact av _
  | exact au _
  | split
  | dsimp only
theorem QY{s d:TypeId}(h:LY P s d=true)(x:Value):T P Z (convert s d x):=by
 unfold convert
 refine tq (bX s) fun ds hs=>tq (bX d) fun dd hd=>?_
 unfold LY at h
 rw[hs,hd] at h
 cases ds <;> cases dd <;> first|(cases h;done)|skip
 ·cases x <;> first|exact FP _ _ _|exact av _|exact au _|exact vS _|skip
  rename_i a
  cases a <;> first|exact FR|exact vS _
 ·cases x <;> first|exact BX _|exact av _|exact au _|exact vS _
def mV(P:Program)(o:Oper):Bool:=match o.op with
 | .move _| .assign _| .pick _ _ _| .alloc _| .box _ _| .build _ _| .buildSlice _ _ _| .load _ _| .store _ _ _| .nilCheck _| .unOp _ _ _| .makeInterface _ _
 | .makeFunc _ _ _| .makeMap _ _| .makeSlice _ _ _| .slice _ _ _ _ _| .fieldAddr _ _ _| .field _ _ _| .indexAddr _ _ _| .index _ _ _| .entryStore _ _ _ _| .range _ _| .next _ _| .entry _
 | .extract _ _| .recv _ _ _| .panic _| .go _| .makeChan _ _=>true
 | .binOp op t _ _ _=>(!(op matches .eql| .neq) || JI P 10000 t) && !(P.underlying t matches some .unsafePointer)
 | .convert s d _=>LY P s d
 | .lookup t _ _ _| .mapUpdate t _ _ _| .insert t _ _ _| .mapEntry t _ _=>ma P t
 | .call c=>match c.callee with| .builtin b=>lW P b c.argTypes|_=>true
 | _=>false
def dn(P:Program):Code→Bool
 | .skip| .exit _| .goto _| .ret| .label _| .refuse _=>true
 | .region _ ops _=>ops.all (mV P)
 | .seq a b| .cond _ a b| .rangeFunc _ _ a b=>dn P a && dn P b
 | .block _ b| .loop b| .scope b=>dn P b
theorem Ol{F:FuncId→Prop}(hg:P.globals.size=0)(hF:Co P F){w:World}(hl:Lv Z w){s:Sem Deferred}(hs:(∃d,s=pure d)∨∃m,s=stuck m)
 (hab:∀f,(match s.run P w with| .ok d w'=>d.target.leads P w' d.args| .halt _ _=>none)=some f→F f)
 (hb:∀d w1,s.run P w=.ok d w1→(∀b ts ty cs,d.target=.builtin b ts ty cs→lW P b ts=true)∧∀c,d.target≠.coroexit c):
 Rn P Z (gH Z F) (s >>= fun d=>invoke d.target d.args) w:=by
 rcases hs with⟨d,rfl⟩|⟨m,rfl⟩
 ·rw[pure_bind]
  obtain⟨h1,h2⟩:=hb d w rfl
  exact QD hg hF hl (fun f hf=>hab f hf) h1 h2
 ·have e:(stuck m >>= fun d:Deferred=>invoke d.target d.args)=(stuck m:Sem Next):=rfl
  rw[e]
  exact(au m).rn hl
theorem MF(t:TypeId)(v:Value):T P Z (Instr.makeChan t v):=by
 unfold Instr.makeChan
 have fin:∀n:Nat,T P Z (do pure (.chan (some (← newObj (.chan n #[] false 0 0 false)))):Sem Value):=fun n=>tb (mg (by trivial)) fun _=>av _
 repeat' with_reducible first
  | exact fin _
  | exact av _
  | exact au _
  | refine tb (au _) fun _=>?_
  | refine tb (cZ _) fun _=>?_
  | refine tb (pq _) fun _=>?_
  | refine tb (dI _) fun _=>?_
  | refine tb (aF _) fun _=>?_
  | refine tb (av _) fun _=>?_
  | split
  | dsimp only
theorem Z9(x:Value):T P Z (Instr.panic x):=by
 unfold Instr.panic
 split
 ·exact zT
 ·refine tb (s:=Instr.panicnil) ⟨rfl,fun r=>?_⟩ fun n=>?_
  ·cases r <;> exact zT
  ·split
   ·exact zT
   ·exact aF _
 ·exact zT
theorem Rj(ρ:Operand→Value)(c:Call)(ty:TypeId):T P Z (resolve ρ c ty):=by
 unfold resolve
 dsimp only
 split
 ·exact zT
 ·exact zT
 ·unfold Deferred.ofValue
  split <;> exact zT
theorem Zh{F:FuncId→Prop}(hg:P.globals.size=0)(hF:Co P F){o:Oper}(ho:mV P o=true){ρ:Operand→Value}{w:World}(hl:Lv Z w)(hab:∀f,o.about P w ρ=some f→F f):Rn P Z (gH Z F) (execOp ρ o) w:=by
 obtain⟨dst,op,ty,pos,after,guard⟩:=o
 unfold execOp
 dsimp only
 cases op <;> first|(cases ho;done)|skip
 case move x=>exact Rn.ret hl trivial
 case makeChan t n=>exact(tv (MF _ _)).rn hl
 case panic x=>exact(tv (Z9 _)).rn hl
 case go c=>exact(tb (Rj _ _ _) fun _=>jI (by exact zT)).rn hl
 case assign x=>exact Rn.ret hl trivial
 case pick c a b=>exact(tb (tK _) fun _=>jI (by exact zT)).rn hl
 case alloc e=>exact(tv (ZO _ _ _)).rn hl
 case box e v=>exact(tv (De _ _)).rn hl
 case build t ps=>exact(tv (ZR _ _)).rn hl
 case buildSlice t n ps=>exact(tv (FI _ _ _)).rn hl
 case insert t m k v=>exact(tu (vR hg (wO ho) _ _ _)).rn hl
 case load t a=>exact(tv (Wq _ _)).rn hl
 case store t a v=>exact(tu (Rp _ _ _)).rn hl
 case nilCheck x=>
  dsimp only
  refine Tm.rn ?_ hl
  split
  ·exact aF _
  ·exact aF _
  ·exact aF _
  ·split
   ·exact aF _
   ·refine tb mh fun p=>tb (MH _ _ _ _) fun b=>?_
    split
    ·exact zT
    ·exact jI (by exact zT)
   ·exact jI (by exact zT)
  ·exact jI (by exact zT)
 case binOp op t x y yt=>
  simp only[mV,Bool.and_eq_true,Bool.or_eq_true,Bool.not_eq_true'] at ho
  refine(tv (tb (Q0 _ _ _ _ _ _) fun _=>ZQ hg _ _ _ _ (fun he=>?_) (fun hu=>?_))).rn hl
  ·rcases ho.1 with h|h
   ·rcases he with rfl|rfl <;> cases h
   ·exact h
  ·have:=ho.2
   rw[hu] at this
   cases this
 case unOp op t x=>exact(tv (ao _ _)).rn hl
 case convert s d x=>exact(tv (QY ho _)).rn hl
 case makeInterface t x=>exact(tv (wG _ _)).rn hl
 case makeFunc fn a b=>exact(tv (av _)).rn hl
 case makeMap t r=>exact(tv (Rh _ _)).rn hl
 case makeSlice t l c=>exact(tv (JA _ _ _)).rn hl
 case slice t x l h m=>exact(tv (Rm _ _ _ _ _)).rn hl
 case fieldAddr t x f=>exact(tv (Rb _ _ _)).rn hl
 case field t x f=>exact(tv (ZX _ _ _)).rn hl
 case indexAddr t x i=>exact(tv (Rf _ _ _)).rn hl
 case index t x i=>exact(tv (ZY _ _ _)).rn hl
 case lookup t x i ok=>exact(tv (Ws hg (wO ho) _ _ _)).rn hl
 case mapUpdate t m k v=>exact(tu (vR hg (wO ho) _ _ _)).rn hl
 case mapEntry t m k=>exact(tv (MG hg (wO ho) _ _)).rn hl
 case entryStore t m s v=>exact(tu (FJ _ _ _ _)).rn hl
 case range t x=>exact(tv (ae _ _)).rn hl
 case next it s=>exact(tv (ot _ _ _)).rn hl
 case entry it=>exact(tv (ZW _)).rn hl
 case extract x i=>exact(tv (Ra _ _)).rn hl
 case call c=>
  dsimp only
  simp only[Oper.about] at hab
  refine Ol hg hF hl ?_ hab (fun d w1 hd=>?_)
  ·unfold resolve
   cases hc:c.callee with
   | builtin b=>exact .inl ⟨_,rfl⟩
   | invoke recv name=>exact .inl ⟨_,rfl⟩
   | value f=>
     dsimp only
     unfold Deferred.ofValue
     split
     ·exact .inl ⟨_,rfl⟩
     ·exact .inl ⟨_,rfl⟩
     ·exact .inr ⟨_,rfl⟩
  ·unfold resolve at hd
   cases hc:c.callee with
   | builtin b=>
     rw[hc] at hd
     cases hd
     refine⟨fun b' ts ty' cs e=>?_,fun c e=>Target.noConfusion e⟩
     simp only[mV,hc] at ho
     cases e
     exact ho
   | invoke recv name=>
     rw[hc] at hd
     cases hd
     exact⟨fun b' ts ty' cs e=>Target.noConfusion e,fun c e=>Target.noConfusion e⟩
   | value f=>
     rw[hc] at hd
     dsimp only at hd
     unfold Deferred.ofValue at hd
     split at hd
     ·cases hd
      exact⟨fun b' ts ty' cs e=>Target.noConfusion e,fun c e=>Target.noConfusion e⟩
     ·cases hd
      exact⟨fun b' ts ty' cs e=>Target.noConfusion e,fun c e=>Target.noConfusion e⟩
     ·cases hd
 case recv ct ch ok=>
  refine(tb (cZ _) fun d=>?_:Tm P Z (gH Z F) _).rn hl
  split
  ·exact tb (dB _) fun z=>jI ⟨rfl,_,_,rfl,rfl,rfl⟩
  ·exact au _
end
section
open Go.Conc
variable{P:Program}{Z:Env}{F:FuncId→Prop}
theorem fT{fn:FuncId}{es:Array Event}{e:Event}(h:e∈seen P fn es):e∈es:=by
 rw[seen_def] at h
 have:=seen_fold_sub _ _ _ _ _ h
 simpa using this
def gZ(P:Program):Item→Prop
 | .code c| .inLoop c| .inScope c=>dn P c=true
 | .inBlock _| .inRangeFunc _| .beginRound| .endRangeFunc _=>True
 | .inRegion ops _=>ops.all (mV P)=true
 | _=>False
def gP(P:Program)(F:FuncId→Prop):Prop:=∀g,F g→∃f c,P.funcs[g]? =some f∧f.body=some c∧(f.name == "runtime.NumGoroutine")=false∧dn P c=true
theorem gP.zero(h:gP P F):Co P F:=fun g hg=>let ⟨f,c,h1,h2,h3,_⟩:=h g hg;⟨f,c,h1,h2,h3⟩
structure Fr(P:Program)(F:FuncId→Prop)(fr:Frame):Prop where
 fn:F fr.fn
 todo:∀i∈fr.todo,gZ P i
 defers:∀d∈fr.defers,∃c,d.target=.collected c
 kind:fr.kind=.normal
def Mv(Z:Env)(n:Nat)(w w':World)(es:Array Event)(same:World→World→Prop):Prop:=
 w'.drawn=w.drawn+n∧w'.tape=w.tape∧Lv Z w'∧(∀e∈es,Gi Z e)∧∀ {K:Nat→Option Obj} (v:World),pQ Z K w v→Agree n w v→∃v',same v v'∧pQ Z K w' v'∧v'.drawn=v.drawn+n∧v'.tape=v.tape
def SN(P:Program)(F:FuncId→Prop)(g:Goroutine):Prop:=∃fr cs,g=G fr cs∧Fr P F fr∧∀c∈cs,Fr P F c
def Dead(g:Goroutine):Prop:=g.dying≠none∨g.status=.blocked∨g.status=.waiting∨g.status=.finished
def SL(P:Program)(F:FuncId→Prop)(Z:Env)(w:World)(f:World→GStep):Prop:=
 match f w with
 | .go g' w' es=>Dead g'∨SN P F g'∧∃n,Mv Z n w w' es fun v v'=>f v=.go g' v' es
 | .comm g' cases b sh w' es=>SN P F g'∧(b=true∧∃c ok,cases=#[c]∧c.send=none∧sh=.recv ok)∧∃n,Mv Z n w w' es fun v v'=>f v=.comm g' cases b sh v' es
 | .ended (.done x) w' es=>∃n,Mv Z n w w' es fun v v'=>f v=.ended (.done x) v' es
 | .ended _ _ _=>True
 | .spawn _ _ _ _=>True
 | _=>False
section
variable{w:World}{f:World→GStep}
theorem SL.Vk(h:∃g c w' es,f w=.spawn g c w' es):SL P F Z w f:=by
 obtain⟨g,c,w',es,h⟩:=h
 unfold SL
 rw[h]
 trivial
theorem SL.const{fr:Frame}{cs:List Frame}(hl:Lv Z w)(h:∀v,f v=.go (G fr cs) v #[])(h1:Fr P F fr)(h2:∀c∈cs,Fr P F c):SL P F Z w f:=by
 unfold SL
 rw[h w]
 exact .inr ⟨⟨fr,cs,rfl,h1,h2⟩,0,rfl,rfl,hl,zs,fun v hs ha=>⟨v,h v,hs,rfl,rfl⟩⟩
theorem SL.bF{o:Outcome}{w':World}{es:Array Event}(h:f w=.ended o w' es)(ho:∀v,o≠.done v):SL P F Z w f:=by
 unfold SL
 rw[h]
 cases o <;> first|trivial|exact absurd rfl (ho _)
theorem SL.jZ{g:Goroutine}{w':World}{es:Array Event}(h:f w=.go g w' es)(ho:Dead g):SL P F Z w f:=by
 unfold SL
 rw[h]
 exact .inl ho
theorem SL.congr{f':World→GStep}(h:SL P F Z w f)(e:∀v,f' v=f v):SL P F Z w f':=by
 have:f'=f:=funext e
 rw[this];exact h
end
theorem Rn.from{α:Type}{Q:α→Prop}{s:Sem α}{w:World}(h:Rn P Z Q s w)(hg:fH (s.runT P w #[]).1):∃n new r,s.runT P w #[]=(r,new)∧(q8 r).drawn=w.drawn+n∧(q8 r).tape=w.tape∧Lv Z (q8 r)∧(∀e∈new,Gi Z e)∧
 (∀a w',r=.ok a w'→Q a)∧∀ {K:Nat→Option Obj} (v:World),pQ Z K w v→Agree n w v→∃v',s.runT P v #[]=(lD v' r,new)∧pQ Z K (q8 r) v'∧v'.drawn=v.drawn+n∧v'.tape=v.tape:=by
 obtain⟨n,new,r,R⟩:=h #[] hg
 refine⟨n,new,r,by simpa using R.run,R.drawn,R.tape,R.lv,R.evs,R.val,fun v hs ha=>?_⟩
 obtain⟨v',e1,e2⟩:=R.qz v #[] hs ha
 exact⟨v',by simpa using e1,e2⟩
theorem Fr.finish{fr:Frame}(h:Fr P F fr)(v:Value):Fr P F (fr.finish v):=by
 obtain⟨fn,tmps,todo,defers,mode,kind,roundOf⟩:=fr
 obtain⟨h1,h2,h3,h4⟩:=h
 simp only at h1 h2 h3 h4
 cases todo with
 | nil=>exact⟨h1,h2,h3,h4⟩
 | cons i k=>
   have hi:=h2 i zs
   have hk:∀x∈k,gZ P x:=fun x hx=>h2 x (by simp[hx])
   have two:∀i',gZ P i'→∀x∈i' :: k,gZ P x:=fun i' h x hx=>by
    rcases List.mem_cons.1 hx with rfl|hx
    ·exact h
    ·exact hk x hx
   cases i with
   | inRegion ops l=>
     cases l with
     | nil=>exact⟨h1,h2,h3,h4⟩
     | cons j l=>exact⟨h1,two (.inRegion ops l) hi,h3,h4⟩
   | inRangeFunc l=>exact⟨h1,two (.endRangeFunc l) trivial,h3,h4⟩
   | beginRound=>exact⟨h1,hk,h3,h4⟩
   | _=>first
     | exact(show False from hi).elim
     | exact⟨h1,h2,h3,h4⟩
theorem Fr.enter{f:FuncId}(hF:gP P F)(hf:F f)(args:Array Value):Fr P F (Frame.enter P f args .normal):=by
 obtain⟨fn,c,h1,h2,_,h4⟩:=hF f hf
 refine⟨hf,fun i hi=>?_,by simp[Frame.enter],rfl⟩
 simp only[Frame.enter,h1,Option.bind_some,h2,Option.getD_some,List.mem_singleton] at hi
 subst hi
 exact h4
theorem Fr.round{l:Nat}{f:FuncId}{tmps:Array Value}{a b:Code}(hf:F f)(ha:dn P a=true)(hb:dn P b=true):Fr P F (Frame.round l f tmps a b .normal):=by
 refine⟨hf,fun i hi=>?_,by simp[Frame.round],rfl⟩
 simp only[Frame.round,List.mem_cons,List.not_mem_nil,or_false] at hi
 rcases hi with rfl|rfl|rfl
 ·exact ha
 ·trivial
 ·exact hb
theorem Fr.mode{fr:Frame}(h:Fr P F fr)(m:FrameMode):Fr P F {fr with mode:=m }:=⟨h.fn,h.todo,h.defers,h.kind⟩
theorem Fr.raise{fr:Frame}(h:Fr P F fr)(vs:List PanicEntry):Fr P F (fr.raise vs):=by
 unfold Frame.raise
 split <;> exact⟨h.fn,h.todo,h.defers,h.kind⟩
structure kH(P:Program)(F:FuncId→Prop)(Z:Env):Prop where
 hg:P.globals.size=0
 hF:gP P F
 hZ:∀f c,Z.jw f c↔F f∧dn P c=true
 ahead:P.follows .staticDataAhead=true
 step:∀g,P.stepOf g=none
 inits:∀f,F f→P.inits.idxOf? f=none
theorem vk(S:kH P F Z)(fr:Frame)(cs:List Frame)(g:Nat)(w:World):∃o w' es,early P fr cs none g w=.ended o w' es∧∀v,o≠.done v:=by
 unfold early
 simp only[S.ahead,S.step]
 exact⟨_,_,_,rfl,zs⟩
theorem QG{α:Type}(r:Result α):lD (q8 r) r=r:=by cases r <;> rfl
structure Told(P:Program)(Z:Env){α:Type}(Q:α→Prop)(s:Sem α)(w:World)(n:Nat)(new:Array Event)(r:Result α):Prop where
 run:s.runT P w #[]=(r,new)
 drawn:(q8 r).drawn=w.drawn+n
 tape:(q8 r).tape=w.tape
 lv:Lv Z (q8 r)
 evs:∀e∈new,Gi Z e
 val:∀a w',r=.ok a w'→Q a
 qz:∀ {K:Nat→Option Obj} (v:World),pQ Z K w v→Agree n w v→∃v',s.runT P v #[]=(lD v' r,new)∧pQ Z K (q8 r) v'∧v'.drawn=v.drawn+n∧v'.tape=v.tape
theorem Rn.told{α:Type}{Q:α→Prop}{s:Sem α}{w:World}(h:Rn P Z Q s w)(hg:fH (s.runT P w #[]).1):∃n new r,Told P Z Q s w n new r:=by
 obtain⟨n,new,r,e1,e2,e3,e4,e5,e6,e7⟩:=h.from hg
 exact⟨n,new,r,e1,e2,e3,e4,e5,e6,e7⟩
section
variable{α:Type}{Q:α→Prop}{s:Sem α}{w:World}{n:Nat}{new:Array Event}{r:Result α}{f:World→GStep}{es:Array Event}
theorem Told.mv(T:Told P Z Q s w n new r){same:World→World→Prop}(hes:∀e∈es,e∈new)(h:∀u u',s.runT P u #[]=(lD u' r,new)→same u u'):Mv Z n w (q8 r) es same:=
 ⟨T.drawn,T.tape,T.lv,fun e he=>T.evs e (hes e he),fun v hs ha=>let ⟨v',e1,e2,e3,e4⟩:=T.qz v hs ha;⟨v',h v v' e1,e2,e3,e4⟩⟩
theorem Told.self(T:Told P Z Q s w n new r):s.runT P w #[]=(lD (q8 r) r,new):=by rw[QG];exact T.run
theorem Told.go(T:Told P Z Q s w n new r){fr':Frame}{cs':List Frame}(hes:∀e∈es,e∈new)(key:∀u u',s.runT P u #[]=(lD u' r,new)→f u=.go (G fr' cs') u' es)(h1:Fr P F fr')(h2:∀c∈cs',Fr P F c):SL P F Z w f:=by
 unfold SL
 rw[key w _ T.self]
 exact .inr ⟨⟨fr',cs',rfl,h1,h2⟩,n,T.mv hes key⟩
theorem Told.done(T:Told P Z Q s w n new r){x:Value}(hes:∀e∈es,e∈new)(key:∀u u',s.runT P u #[]=(lD u' r,new)→f u=.ended (.done x) u' es):SL P F Z w f:=by
 unfold SL
 rw[key w _ T.self]
 exact⟨n,T.mv hes key⟩
theorem Told.comm(T:Told P Z Q s w n new r){fr':Frame}{cs':List Frame}{cases:Array CommCase}{b:Bool}{sh:CommShape}(hes:∀e∈es,e∈new)(key:∀u u',s.runT P u #[]=(lD u' r,new)→f u=.comm (G fr' cs') cases b sh u' es)
 (h1:Fr P F fr')(h2:∀c∈cs',Fr P F c)(h3:b=true∧∃c ok,cases=#[c]∧c.send=none∧sh=.recv ok):SL P F Z w f:=by
 unfold SL
 rw[key w _ T.self]
 exact⟨⟨fr',cs',rfl,h1,h2⟩,h3,n,T.mv hes key⟩
end
theorem xA(S:kH P F Z){fr:Frame}{cs:List Frame}(hfr:Fr P F fr)(hcs:∀c∈cs,Fr P F c){s:Sem Next}{w:World}(hl:Lv Z w)(h:Rn P Z (gH Z F) s w):SL P F Z w (fun u=>stepG.apply P true fr cs none s u):=by
 have hk:∀d b r sv k,fr.todo≠.call d b r sv :: k:=fun d b r sv k e=>(show False from hfr.todo (.call d b r sv) (by rw[e];simp))
 have hek:(fr.kind == CallKind.early)=false:=by rw[hfr.kind];rfl
 have hall:∀c∈fr :: cs,Fr P F c:=fun c hc=>by
  rcases List.mem_cons.1 hc with rfl|hc
  ·exact hfr
  ·exact hcs c hc
 by_cases hgood:fH (s.runT P w #[]).1
 ·obtain⟨n,new,r,T⟩:=h.told hgood
  cases r with
  | ok x w1=>
    have hx:=T.val x w1 rfl
    have sub:∀e∈seen P fr.fn new,e∈new:=fun e he=>fT he
    cases x with
    | value v=>exact T.go sub (fun u u' hu=>by simp[stepG.apply,hu,lD,hek,GStep.after,G,-Sem.runT_eq]) (hfr.finish v) hcs
    | skip=>exact T.go sub (fun u u' hu=>by simp[stepG.apply,hu,lD,hek,GStep.after,G,-Sem.runT_eq]) (hfr.finish undef) hcs
    | enter f args=>exact T.go sub (fun u u' hu=>by simp[stepG.apply,hu,lD,hek,GStep.after,G,-Sem.runT_eq];split <;> first|rfl|exact absurd (by assumption) (hk _ _ _ _ _)) (Fr.enter S.hF hx args) hall
    | round l f tmps a b=>
      obtain⟨h1,h2⟩:=hx
      exact T.go sub (fun u u' hu=>by simp[stepG.apply,hu,lD,hek,GStep.after,G,-Sem.runT_eq]) (Fr.round (l:=l) (tmps:=tmps) ((S.hZ _ _).1 h1).1 ((S.hZ _ _).1 h1).2 ((S.hZ _ _).1 h2).2) hall
    | spawn d=>
      have key:(∃g w2 es2,(fun u=>stepG.apply P true fr cs none s u) w=.go g w2 es2∧g.dying≠none)∨∃g c w2 es2,(fun u=>stepG.apply P true fr cs none s u) w=.spawn g c w2 es2:=by
       have hr:s.runT P w #[]=(.ok (.spawn d) w1,new):=T.run
       dsimp only
       unfold stepG.apply
       simp only[if_true,hr,hek,Bool.false_eq_true,if_false]
       unfold endThrow dieOf
       repeat' split
       all_goals first|exact .inr ⟨_,_,_,_,rfl⟩|exact .inl ⟨_,_,_,rfl,fun h=>by cases h⟩
      rcases key with⟨g,w2,es2,e1,e2⟩|h
      ·exact SL.jZ e1 (.inl e2)
      ·exact SL.Vk h
    | comm cases b sh=>exact T.comm sub (fun u u' hu=>by simp[stepG.apply,hu,lD,hek,GStep.after,G,-Sem.runT_eq]) hfr hcs hx
    | _=>exact hx.elim
  | halt x w1=>
    have sub:∀e∈seen P fr.fn new,e∈new:=fun e he=>fT he
    have hgx:fH (.halt x w1:Result Next):=by rw[T.run] at hgood;exact hgood
    cases x with
    | panic v=>exact T.go sub (fun u u' hu=>by simp[stepG.apply,hu,lD,hek,GStep.after,G,-Sem.runT_eq]) (hfr.raise [{v,recovered:=false }]) hcs
    | goexit=>exact T.go sub (fun u u' hu=>by simp[stepG.apply,hu,lD,hek,GStep.after,G,-Sem.runT_eq]) (hfr.raise [goexitEntry]) hcs
    | _=>exact hgx.elim
 ·generalize hr:s.runT P w #[]=r at hgood
  obtain⟨r,es⟩:=r
  cases r with
  | ok x w1=>exact absurd trivial hgood
  | halt x w1=>
    cases x with
    | panic v=>exact absurd trivial hgood
    | goexit=>exact absurd trivial hgood
    | blocked=>exact SL.jZ (g:={frame:=fr,callers:=cs,status:=.blocked,dying:=none }) (w':=w1) (es:=seen P fr.fn #[]) (by simp[stepG.apply,hr,hek,GStep.after,-Sem.runT_eq]) (.inr (.inl rfl))
    | waiting=>exact SL.jZ (g:={frame:=fr,callers:=cs,status:=.waiting,dying:=none }) (w':=w1) (es:=seen P fr.fn #[]) (by simp[stepG.apply,hr,hek,GStep.after,-Sem.runT_eq]) (.inr (.inr (.inl rfl)))
    | exit c=>exact SL.bF (o:=.exit c) (w':=w1) (es:=seen P fr.fn es) (by simp[stepG.apply,hr,hek,GStep.after,-Sem.runT_eq]) zs
    | stuck m=>exact SL.bF (o:=.stuck m (fr.pos P)) (w':=w1) (es:=seen P fr.fn es) (by simp[stepG.apply,hr,hek,GStep.after,-Sem.runT_eq]) zs
    | unsupported u=>
      cases u with
      | initOrder g=>
        obtain⟨o,w2,es2,e1,e2⟩:=vk S fr cs g w1
        exact SL.bF (o:=o) (w':=w2) (es:=seen P fr.fn #[] ++ es2) (by simp[stepG.apply,hr,hek,e1,GStep.after,-Sem.runT_eq]) e2
      | _=>exact SL.bF (o:=.unsupported _ (fr.pos P)) (w':=w1) (es:=seen P fr.fn es) (by simp[stepG.apply,hr,hek,GStep.after,-Sem.runT_eq];rfl) zs
    | throw m=>
      obtain⟨g,w2,es2,e1,e2⟩:∃g w2 es2,endThrow fr m w1=.go g w2 es2∧g.dying≠none:=by
       unfold endThrow dieOf
       exact⟨_,_,_,rfl,zs⟩
      exact SL.jZ (g:=g) (w':=w2) (es:=seen P fr.fn es ++ es2) (by simp[stepG.apply,hr,hek,e1,GStep.after,-Sem.runT_eq]) (.inl e2)
    | fatal m=>
      have key:(fun u=>stepG.apply P true fr cs none s u) w=GStep.after (seen P fr.fn es) (endFatal P fr cs none m w1):=by simp[stepG.apply,hr,hek,-Sem.runT_eq]
      have:(∃g w2 es2,endFatal P fr cs none m w1=.go g w2 es2∧g.dying≠none)∨∃o w2 es2,endFatal P fr cs none m w1=.ended o w2 es2∧∀v,o≠.done v:=by
       unfold endFatal
       dsimp only
       split
       ·exact .inl ⟨_,_,_,rfl,zs⟩
       ·exact .inr ⟨_,_,_,rfl,zs⟩
       ·exact .inr ⟨_,_,_,rfl,zs⟩
      rcases this with⟨g,w2,es2,e1,e2⟩|⟨o,w2,es2,e1,e2⟩
      ·rw[e1] at key
       exact SL.jZ key (.inl e2)
      ·rw[e1] at key
       exact SL.bF key e2
end
end Go.dP
