/- Far1 Far2 Far3 Far4 Far5 Far6 Far7 -/
import Derived.Test.YtpmafoalhnaokaaGreatA9
import Derived.Conc.Events
set_option maxRecDepth 100000
set_option maxHeartbeats 16000000
set_option linter.unusedVariables false
set_option linter.unusedSectionVars false
open Go.IntKind(i64)
open Go.Value(int)
namespace Go.dP
section
variable{P:Program}
def fE{α:Type}:Result α→Prop
 | .ok _ _=>True
 | .halt (.panic _) _=>True
 | .halt .goexit _=>True
 | _=>False
def FU:Halt→Prop
 | .panic _| .goexit=>False
 | _=>True
def Dm(P:Program){α:Type}:Sem α→Prop
 | .pure _=>False
 | .load _ _ k=>∀v,Dm P (k v)
 | .store _ _ _ k=>Dm P k
 | .new _ k=>∀r,Dm P (k r)
 | .shape _ k=>∀x,Dm P (k x)
 | .freeze _ _ k=>Dm P k
 | .frozen _ k=>∀b,Dm P (k b)
 | .getObj _ k=>∀o,Dm P (k o)
 | .setObj _ _ k=>Dm P k
 | .choose _ k=>∀n,Dm P (k n)
 | .sys _ k=>∀r,Dm P (k r)
 | .program k=>Dm P (k P)
 | .mark _ k=>Dm P k
 | .halt h=>FU h
def ru{α:Type}:Result α→World
 | .ok _ w=>w
 | .halt _ w=>w
def lC{α:Type}(v:World):Result α→Result α
 | .ok a _=>.ok a v
 | .halt h _=>.halt h v
theorem aI{α:Type}{h:Halt}{w:World}(hb:FU h):¬ fE (.halt h w:Result α):=by
 cases h <;> first|exact fun x=>x|exact fun _=>hb
theorem mW{α:Type}{m:Mode}{a:Addr}{v:Value}{k:Sem α}(h1:∀c,v≠.agg c)(h2:∀c,v≠.tuple c)(w:World)(es:Array Event):
 (Sem.store m a v k).runT P w es=match w.cell? a with
  | some _=>if w.frozen? a then(.halt (.unsupported (.unsafePointer "a write to bytes that a string shares")) w,es) else k.runT P (w.setCell a v) (es.push ⟨.cell a,true,m == .atomic⟩)
  | none=>match w.farStore P a v (m == .atomic) with
    | .ok (w,touched)=>k.runT P w (es ++ touched.toArray.map (⟨.cell ·,true,m == .atomic⟩))
    | .error h=>(.halt h w,es):=by
 cases v <;> first|rfl|exact absurd rfl (h1 _)|exact absurd rfl (h2 _)
theorem Fy{w:World}{p:Program}{a:Addr}{at_:Bool}{h:Halt}(e:w.farLoad p a at_=.error h):FU h:=by
 unfold World.farLoad at e
 split at e
 ·split at e
  ·cases e
  ·cases e;trivial
 ·cases e
  unfold World.noCell
  split <;> trivial
theorem BU{w:World}{p:Program}{a:Addr}{v:Value}{at_:Bool}{h:Halt}(e:w.farStore p a v at_=.error h):FU h:=by
 unfold World.farStore at e
 split at e
 ·split at e
  ·cases e
  ·cases e;trivial
 ·cases e
  unfold World.noCell
  split <;> trivial
theorem Dm.run{α:Type}{s:Sem α}(h:Dm P s):∀ (w:World) (es:Array Event),¬ fE (s.runT P w es).1:=by
 induction s with
 | pure a=>exact h.elim
 | load m a k ih=>
   intro w es
   simp only[Sem.runT]
   split
   ·exact ih _ (h _) _ _
   ·split
    ·exact ih _ (h _) _ _
    ·exact aI (Fy (by assumption))
 | store m a v k ih=>
   intro w es
   by_cases h1:∀c,v≠.agg c
   ·by_cases h2:∀c,v≠.tuple c
    ·rw[mW h1 h2]
     split
     ·split
      ·exact aI (by trivial)
      ·exact ih h _ _
     ·split
      ·exact ih h _ _
      ·exact aI (BU (by assumption))
    ·simp only[ne_eq,Classical.not_forall,Classical.not_not] at h2
     obtain⟨c,rfl⟩:=h2
     simp only[Sem.runT]
     exact aI (by trivial)
   ·simp only[ne_eq,Classical.not_forall,Classical.not_not] at h1
    obtain⟨c,rfl⟩:=h1
    simp only[Sem.runT]
    exact aI (by trivial)
 | new o k ih=>intro w es;exact ih _ (h _) _ _
 | shape r k ih=>intro w es;exact ih _ (h _) _ _
 | freeze a n k ih=>intro w es;exact ih h _ _
 | frozen a k ih=>intro w es;exact ih _ (h _) _ _
 | getObj r k ih=>
   intro w es
   simp only[Sem.runT]
   split
   ·exact aI (by trivial)
   ·exact ih _ (h _) _ _
   ·exact aI (by trivial)
 | setObj r o k ih=>
   intro w es
   simp only[Sem.runT]
   split
   ·exact aI (by trivial)
   ·exact ih h _ _
   ·exact aI (by trivial)
 | choose q k ih=>
   intro w es
   simp only[Sem.runT]
   split
   ·exact ih _ (h _) _ _
   ·exact ih _ (h _) _ _
 | sys c k ih=>intro w es;exact ih _ (h _) _ _
 | program k ih=>intro w es;exact ih _ h _ _
 | mark m k ih=>intro w es;exact ih h _ _
 | halt h0=>intro w es;exact aI h
structure Env where
 dead:Nat→Prop
 jr:FuncId→Code→Prop
instance:CoeFun Env fun _=>Nat→Prop:=⟨Env.dead⟩
def Env.loop(Z:Env)(r:Loop):Prop:=Z.jr r.fn r.assign∧Z.jr r.fn r.body∧∀j,r.pending=some j→Z.jr r.fn j
def Plain(Z:Env):Obj→Prop
 | .view _ _| .pending _ _=>False
 | .loop r=>Z.loop r
 | .deferred (some ds)=>ds=[]
 | _=>True
def HOk:Halt→Prop
 | .unsupported (.initOrder _)=>False
 | _=>True
def X0(b:Nat):Obj:=.view ⟨b,0,none⟩ 0
structure Lv(Z:Env)(w:World):Prop where
 dead:∀b,Z b→w.heap[b]? =some (X0 b)
 live:∀b o,¬ Z b→w.heap[b]? =some o→Plain Z o
def Bd(P:Program)(Z:Env){α:Type}(s:Sem α):Prop:=∀w es,Lv Z w→¬ fE (s.runT P w es).1
theorem Dm.bd{Z:Env}{α:Type}{s:Sem α}(h:Dm P s):Bd P Z s:=fun w es _=>h.run w es
def Tm(P:Program)(Z:Env){α:Type}(Q:α→Prop):Sem α→Prop
 | .pure a=>Q a
 | .load _ a k=>¬ Z a.block→∀v,Tm P Z Q (k v)
 | .store _ a _ k=>¬ Z a.block→Tm P Z Q k
 | .new o k=>Plain Z o∧∀r,¬ Z r→Tm P Z Q (k r)
 | .shape r k=>Bd P Z (.shape r k)∨((¬ Z r→∀x,Tm P Z Q (k x))∧(Z r→Bd P Z (k none)))
 | .freeze _ _ k=>Tm P Z Q k
 | .frozen a k=>(¬ Z a.block→∀b,Tm P Z Q (k b))∧(Z a.block→Bd P Z (k false))
 | .getObj r k=>(¬ Z r→∀o,Plain Z o→Tm P Z Q (k o))∧(Z r→Bd P Z (k (X0 r)))
 | .setObj r o k=>¬ Z r∧Plain Z o∧Tm P Z Q k
 | .choose _ k=>∀n,Tm P Z Q (k n)
 | .sys c k=>c=.env∧∀r,Tm P Z Q (k r)
 | .program k=>Tm P Z Q (k P)
 | .mark m k=>m=.noRoom∧Tm P Z Q k
 | .halt h=>HOk h
theorem ZH(w:World):∃r,∀v:World,v.os=w.os→v.sys .env=(r,v):=by
 refine⟨(World.sys w .env).1,fun v hv=>?_⟩
 obtain⟨heap,tape,drawn,os,output⟩:=v
 simp only at hv
 subst hv
 unfold World.sys Kernel.perform
 simp[Kernel.lengthOf,Kernel.named,Kernel.ofKernel,Kernel.stamps,Kernel.each,Kernel.env]
 rfl
def FV(Z:Env)(e:Event):Prop:=(e.loc=.mark .noRoom∨e.loc=.output)∨(∃a,e.loc=.cell a∧¬ Z a.block)∨∃r,e.loc=.obj r∧¬ Z r
structure p8(Z:Env)(K:Nat→Option Obj)(w v:World):Prop where
 size:v.heap.size=w.heap.size
 same:∀b,¬ Z b→v.heap[b]? =w.heap[b]?
 os:v.os=w.os
 output:v.output=w.output
 kept:∀b o,Z b→K b=some o→(∀c t f,o≠.cells c t f)→v.heap[b]? =some o
def Agree(n:Nat)(w v:World):Prop:=∀k,k<n→∀q,v.tape (v.drawn+k) q=w.tape (w.drawn+k) q
theorem Agree.le{n m:Nat}{w v:World}(h:Agree n w v)(l:m≤n):Agree m w v:=fun k hk=>h k (Nat.lt_of_lt_of_le hk l)
theorem Agree.shift{n m:Nat}{w v w1 v1:World}(h:Agree (m+n) w v)(h1:w1.drawn=w.drawn+m)(h2:w1.tape=w.tape)(h3:v1.drawn=v.drawn+m)(h4:v1.tape=v.tape):Agree n w1 v1:=fun k hk q=>by
 rw[h1,h2,h3,h4,Nat.add_assoc,Nat.add_assoc]
 exact h (m+k) zo q
section
variable{Z:Env}{K:Nat→Option Obj}{w v:World}
theorem Lv.in(h:Lv Z w){b:Nat}(hb:Z b):b<w.heap.size:=by
 exact(Array.getElem?_eq_some_iff.1 (h.dead b hb)).1
theorem Lv.cell(h:Lv Z w){a:Addr}{x:Value}(hx:w.cell? a=some x):¬ Z a.block:=fun hz=>by
 simp[World.cell?,h.dead _ hz,X0] at hx
theorem p8.cell(h:p8 Z K w v){a:Addr}(hz:¬ Z a.block):v.cell? a=w.cell? a:=by simp only[World.cell?,h.same _ hz]
theorem p8.frozen(h:p8 Z K w v){a:Addr}(hz:¬ Z a.block):v.frozen? a=w.frozen? a:=by simp only[World.frozen?,h.same _ hz]
theorem Dl{w:World}{b:Nat}(h:w.heap[b]? =some (X0 b))(p:Program)(u:TypeId)(a:Addr)(at_:Bool):∃e,w.seen p ⟨b,0,none⟩ u a at_=.error e:=by
 cases hs:w.seen p ⟨b,0,none⟩ u a at_ with
 | error e=>exact⟨e,rfl⟩
 | ok x=>
   exfalso
   unfold World.seen at hs
   simp only[bind,Except.bind,h,X0] at hs
   repeat' split at hs
   all_goals first|cases hs|simp_all [throw,throwThe,MonadExceptOf.throw]
theorem PL{w:World}{b:Nat}(h:w.heap[b]? =some (X0 b))(p:Program)(a:Addr)(at_:Bool)(ha:a.block=b):∃e,w.farLoad p a at_=.error e∧FU e:=by
 subst ha
 obtain⟨e,he⟩:=Dl h p 0 a at_
 refine⟨.unsupported (.unsafePointer e),?_,zT⟩
 unfold World.farLoad
 simp only[h,X0]
 unfold World.viewLoad
 simp only[he,bind,Except.bind]
theorem L8{w:World}{b:Nat}(h:w.heap[b]? =some (X0 b))(p:Program)(a:Addr)(x:Value)(at_:Bool)(ha:a.block=b):∃e,w.farStore p a x at_=.error e∧FU e:=by
 subst ha
 obtain⟨e,he⟩:=Dl h p 0 a at_
 have:∃e,w.viewStore p ⟨a.block,0,none⟩ 0 a x at_=.error e:=by
  unfold World.viewStore
  simp only[he,bind,Except.bind]
  split <;> exact⟨_,rfl⟩
 obtain⟨e2,he2⟩:=this
 refine⟨.unsupported (.unsafePointer e2),?_,zT⟩
 unfold World.farStore
 simp only[h,X0,he2]
theorem Lv.far(h:Lv Z w){a:Addr}(hx:w.cell? a=none)(p:Program)(at_:Bool):∃e,w.farLoad p a at_=.error e∧FU e:=by
 by_cases hz:Z a.block
 ·exact PL (h.dead _ hz) p a at_ rfl
 refine⟨w.noCell a sQ1,?_,?_⟩
 ·unfold World.farLoad
  split
  ·rename_i hv
   exact False.elim (show False from h.live _ _ hz hv)
  ·rfl
 ·unfold World.noCell
  split <;> trivial
theorem Lv.PR(h:Lv Z w){a:Addr}(hx:w.cell? a=none)(p:Program)(x:Value)(at_:Bool):∃e,w.farStore p a x at_=.error e∧FU e:=by
 by_cases hz:Z a.block
 ·exact L8 (h.dead _ hz) p a x at_ rfl
 refine⟨w.noCell a sQ2,?_,?_⟩
 ·unfold World.farStore
  split
  ·rename_i hv
   exact False.elim (show False from h.live _ _ hz hv)
  ·rfl
 ·unfold World.noCell
  split <;> trivial
theorem je(w:World)(a:Addr)(x:Value)(b:Nat):(w.setCell a x).heap[b]? =(w.heap[b]?).map fun o=>if b=a.block then(match o with
 | .cells c elem frozen=>.cells (if a.spot.isSome then c else c.setIfInBounds a.off x) elem frozen
 | o=>o) else o:=by
 unfold World.setCell
 simp only[Array.getElem?_modify]
 by_cases e:a.block=b
 ·subst e
  simp only[if_true]
  rfl
 ·rw[if_neg e]
  have:¬ b=a.block:=fun e2=>e e2.symm
  simp only[this,if_false]
  cases w.heap[b]? <;> rfl
theorem Lv.setCell(h:Lv Z w){a:Addr}(hz:¬ Z a.block)(x:Value):Lv Z (w.setCell a x):=by
 refine⟨fun b hb=>?_,fun b o hb ho=>?_⟩
 ·rw[je,h.dead b hb]
  have:¬ b=a.block:=fun e2=>hz (e2 ▸ hb)
  simp[this]
 ·rw[je] at ho
  obtain⟨o',ho',rfl⟩:=Option.map_eq_some_iff.1 ho
  have:=h.live b o' hb ho'
  split
  ·cases o' <;> first|exact this|trivial
  ·exact this
theorem p8.setCell(h:p8 Z K w v)(a:Addr)(x:Value):p8 Z K (w.setCell a x) (v.setCell a x):=by
 refine⟨by simp[World.setCell,h.size],fun b hb=>?_,h.os,h.output,fun b o hb hk hn=>?_⟩
 ·rw[je,je,h.same b hb]
 ·rw[je,h.kept b o hb hk hn]
  cases o <;> first|exact absurd rfl (hn _ _ _)|simp
theorem jS(w:World)(a:Addr)(n:Nat)(b:Nat):(w.freeze a n).heap[b]? =(w.heap[b]?).map fun o=>if b=a.block∧n≠0 then(match o with
 | .cells c elem (lo,hi)=>.cells c elem (if lo == hi then(a.off,a.off+n) else(min lo a.off,max hi (a.off+n)))
 | o=>o) else o:=by
 unfold World.freeze
 by_cases hn:n=0
 ·rw[if_pos hn]
  have:¬ (b=a.block∧n≠0):=fun h=>h.2 hn
  simp only[this,if_false]
  cases w.heap[b]? <;> rfl
 ·rw[if_neg hn]
  simp only[Array.getElem?_modify]
  by_cases e:a.block=b
  ·subst e
   simp only[if_true,true_and,ne_eq,hn,not_false_eq_true]
   rfl
  ·rw[if_neg e]
   have:¬ (b=a.block∧n≠0):=fun h=>e h.1.symm
   simp only[this,if_false]
   cases w.heap[b]? <;> rfl
theorem gX(w:World)(a:Addr)(n:Nat):(w.freeze a n).heap.size=w.heap.size∧(w.freeze a n).os=w.os∧(w.freeze a n).output=w.output∧(w.freeze a n).tape=w.tape∧(w.freeze a n).drawn=w.drawn:=by
 unfold World.freeze
 split
 ·exact⟨rfl,rfl,rfl,rfl,rfl⟩
 ·exact⟨zs,rfl,rfl,rfl,rfl⟩
theorem Lv.freeze(h:Lv Z w)(a:Addr)(n:Nat):Lv Z (w.freeze a n):=by
 refine⟨fun b hb=>?_,fun b o hb ho=>?_⟩
 ·rw[jS,h.dead b hb]
  simp only[Option.map_some,X0]
  split <;> rfl
 ·rw[jS] at ho
  obtain⟨o',ho',rfl⟩:=Option.map_eq_some_iff.1 ho
  have:=h.live b o' hb ho'
  split
  ·cases o' <;> first|exact this|trivial
  ·exact this
theorem p8.freeze(h:p8 Z K w v)(a:Addr)(n:Nat):p8 Z K (w.freeze a n) (v.freeze a n):=by
 obtain⟨w1,w2,w3,_,_⟩:=gX w a n
 obtain⟨v1,v2,v3,_,_⟩:=gX v a n
 refine⟨by rw[w1,v1,h.size],fun b hb=>?_,by rw[w2,v2,h.os],by rw[w3,v3,h.output],fun b o hb hk hn=>?_⟩
 ·rw[jS,jS,h.same b hb]
 ·rw[jS,h.kept b o hb hk hn]
  cases o <;> first|exact absurd rfl (hn _ _ _)|simp
theorem Lv.push(h:Lv Z w){o:Obj}(ho:Plain Z o):Lv Z {w with heap:=w.heap.push o }:=by
 refine⟨fun b hb=>?_,fun b o' hb ho'=>?_⟩
 ·have e:=h.dead b hb
  simp only[Array.getElem?_push_lt (h.in hb)]
  rw[← e,Array.getElem?_eq_getElem (h.in hb)]
 ·simp only[Array.getElem?_push] at ho'
  split at ho'
  ·cases ho';exact ho
  ·exact h.live b o' hb ho'
theorem p8.push(h:p8 Z K w v)(o:Obj):p8 Z K {w with heap:=w.heap.push o } {v with heap:=v.heap.push o }:=by
 refine⟨by simp[h.size],fun b hb=>?_,h.os,h.output,fun b o' hb hk hn=>?_⟩
 ·simp only[Array.getElem?_push,h.size,h.same b hb]
 ·have e:=h.kept b o' hb hk hn
  have hlt:=(Array.getElem?_eq_some_iff.1 e).1
  simp only[Array.getElem?_push,Nat.ne_of_lt hlt,if_false,e]
theorem Lv.set(h:Lv Z w){r:Nat}(hz:¬ Z r){o:Obj}(ho:Plain Z o):Lv Z {w with heap:=w.heap.setIfInBounds r o }:=by
 refine⟨fun b hb=>?_,fun b o' hb ho'=>?_⟩
 ·simp only[Array.getElem?_setIfInBounds_ne (show r≠b from fun e2=>hz (e2 ▸ hb))];exact h.dead b hb
 ·simp only[Array.getElem?_setIfInBounds] at ho'
  split at ho'
  ·split at ho'
   ·cases ho';exact ho
   ·cases ho'
  ·exact h.live b o' hb ho'
theorem p8.set(h:p8 Z K w v){r:Nat}(hz:¬ Z r)(o:Obj):p8 Z K {w with heap:=w.heap.setIfInBounds r o } {v with heap:=v.heap.setIfInBounds r o }:=by
 refine⟨by simp[h.size],fun b hb=>?_,h.os,h.output,fun b o' hb hk hn=>?_⟩
 ·simp only[Array.getElem?_setIfInBounds,h.size,h.same b hb]
 ·simp only[Array.getElem?_setIfInBounds_ne (show r≠b from fun e2=>hz (e2 ▸ hb))];exact h.kept b o' hb hk hn
end
structure Ran(P:Program)(Z:Env){α:Type}(Q:α→Prop)(s:Sem α)(w:World)(es:Array Event)(n:Nat)(new:Array Event)(r:Result α):Prop where
 run:s.runT P w es=(r,es ++ new)
 drawn:(ru r).drawn=w.drawn+n
 tape:(ru r).tape=w.tape
 lv:Lv Z (ru r)
 evs:∀e∈new,FV Z e
 val:∀a w',r=.ok a w'→Q a
 qE:∀ {K:Nat→Option Obj} (v:World) (es2:Array Event),p8 Z K w v→Agree n w v→∃v',s.runT P v es2=(lC v' r,es2 ++ new)∧p8 Z K (ru r) v'∧v'.drawn=v.drawn+n∧v'.tape=v.tape
theorem Wv{Z:Env}{α:Type}{Q:α→Prop}{s:Sem α}:Tm P Z Q s→∀ {w:World} {es:Array Event},Lv Z w→fE (s.runT P w es).1→∃n new r,Ran P Z Q s w es n new r:=by
 induction s with
 | pure a=>
   intro h w es hl hg
   exact⟨0,#[],.ok a w,by simp[Sem.runT],rfl,rfl,hl,zs,(fun _ _ e=>by cases e;exact h),fun v es2 hs _=>⟨v,by simp[Sem.runT,lC],hs,rfl,rfl⟩⟩
 | load m a k ih=>
   intro h w es hl hg
   simp only[Sem.runT] at hg
   cases hv:w.cell? a with
   | none=>
     obtain⟨e,he,hb⟩:=hl.far hv P (m == .atomic)
     rw[hv,he] at hg
     exact absurd hg (aI hb)
   | some x=>
     rw[hv] at hg
     have hz:=hl.cell hv
     obtain⟨n,new,r,R⟩:=ih x (h hz x) hl hg
     refine⟨n,#[⟨.cell a,false,m == .atomic⟩] ++ new,r,?_,R.drawn,R.tape,R.lv,fun e he=>?_,R.val,fun v es2 hs ha=>?_⟩
     ·simp only[Sem.runT,hv]
      rw[R.run,Array.push_eq_append,Array.append_assoc]
     ·rcases Array.mem_append.1 he with he|he
      ·simp only[List.mem_toArray,List.mem_singleton] at he
       subst he
       exact .inr (.inl ⟨a,rfl,hz⟩)
      ·exact R.evs e he
     ·obtain⟨v',e1,e2⟩:=R.qE v (es2.push ⟨.cell a,false,m == .atomic⟩) hs ha
      refine⟨v',?_,e2⟩
      simp only[Sem.runT,hs.cell hz,hv]
      rw[e1,Array.push_eq_append,Array.append_assoc]
 | store m a x k ih=>
   intro h w es hl hg
   by_cases h1:∀c,x≠.agg c
   ·by_cases h2:∀c,x≠.tuple c
    ·rw[mW h1 h2] at hg
     cases hv:w.cell? a with
     | none=>
       obtain⟨e,he,hb⟩:=hl.PR hv P x (m == .atomic)
       rw[hv,he] at hg
       exact absurd hg (aI hb)
     | some x0=>
       rw[hv] at hg
       have hz:=hl.cell hv
       cases hf:w.frozen? a with
       | true=>rw[hf] at hg;exact absurd hg (aI (by trivial))
       | false=>
         rw[hf] at hg
         simp only[Bool.false_eq_true,if_false] at hg
         obtain⟨n,new,r,R⟩:=ih (h hz) (hl.setCell hz x) hg
         refine⟨n,#[⟨.cell a,true,m == .atomic⟩] ++ new,r,?_,R.drawn,R.tape,R.lv,fun e he=>?_,R.val,fun v es2 hs ha=>?_⟩
         ·rw[mW h1 h2]
          simp only[hv,hf,Bool.false_eq_true,if_false]
          rw[R.run,Array.push_eq_append,Array.append_assoc]
         ·rcases Array.mem_append.1 he with he|he
          ·simp only[List.mem_toArray,List.mem_singleton] at he
           subst he
           exact .inr (.inl ⟨a,rfl,hz⟩)
          ·exact R.evs e he
         ·obtain⟨v',e1,e2⟩:=R.qE (v.setCell a x) (es2.push ⟨.cell a,true,m == .atomic⟩) (hs.setCell a x) ha
          refine⟨v',?_,e2⟩
          rw[mW h1 h2]
          simp only[hs.cell hz,hs.frozen hz,hv,hf,Bool.false_eq_true,if_false]
          rw[e1,Array.push_eq_append,Array.append_assoc]
    ·simp only[ne_eq,Classical.not_forall,Classical.not_not] at h2
     obtain⟨c,rfl⟩:=h2
     simp only[Sem.runT] at hg
     exact absurd hg (aI (by trivial))
   ·simp only[ne_eq,Classical.not_forall,Classical.not_not] at h1
    obtain⟨c,rfl⟩:=h1
    simp only[Sem.runT] at hg
    exact absurd hg (aI (by trivial))
 | new o k ih=>
   intro h w es hl hg
   obtain⟨n,new,r,R⟩:=ih _ (h.2 w.heap.size fun hz=>Nat.lt_irrefl _ (hl.in hz)) (hl.push h.1) hg
   refine⟨n,new,r,R.run,R.drawn,R.tape,R.lv,R.evs,R.val,fun v es2 hs ha=>?_⟩
   obtain⟨v',e1,e2⟩:=R.qE _ es2 (hs.push o) ha
   refine⟨v',?_,e2⟩
   simp only[Sem.runT,hs.size]
   exact e1
 | shape b k ih=>
   intro h w es hl hg
   rcases h with h|h
   ·exact absurd hg (h w es hl)
   simp only[Sem.runT] at hg
   by_cases hz:Z b
   ·have e:w.shape? b=none:=by simp[World.shape?,hl.dead b hz,X0]
    rw[e] at hg
    exact absurd hg (h.2 hz w es hl)
   ·obtain⟨n,new,r,R⟩:=ih _ (h.1 hz _) hl hg
    refine⟨n,new,r,R.run,R.drawn,R.tape,R.lv,R.evs,R.val,fun v es2 hs ha=>?_⟩
    obtain⟨v',e1,e2⟩:=R.qE v es2 hs ha
    refine⟨v',?_,e2⟩
    have e:v.shape? b=w.shape? b:=by simp only[World.shape?,hs.same b hz]
    simp only[Sem.runT,e]
    exact e1
 | freeze a m k ih=>
   intro h w es hl hg
   obtain⟨_,_,_,w4,w5⟩:=gX w a m
   obtain⟨n,new,r,R⟩:=ih h (hl.freeze a m) hg
   refine⟨n,new,r,R.run,by rw[R.drawn,w5],by rw[R.tape,w4],R.lv,R.evs,R.val,fun v es2 hs ha=>?_⟩
   obtain⟨_,_,_,v4,v5⟩:=gX v a m
   obtain⟨v',e1,e2,e3,e4⟩:=R.qE (v.freeze a m) es2 (hs.freeze a m) (Agree.shift (m:=0) (w:=w) (v:=v) (by simpa using ha) w5 w4 v5 v4)
   exact⟨v',e1,e2,by rw[e3,v5],by rw[e4,v4]⟩
 | frozen a k ih=>
   intro h w es hl hg
   simp only[Sem.runT] at hg
   by_cases hz:Z a.block
   ·have e:w.frozen? a=false:=by simp[World.frozen?,hl.dead _ hz,X0]
    rw[e] at hg
    exact absurd hg (h.2 hz w es hl)
   ·obtain⟨n,new,r,R⟩:=ih _ (h.1 hz _) hl hg
    refine⟨n,new,r,R.run,R.drawn,R.tape,R.lv,R.evs,R.val,fun v es2 hs ha=>?_⟩
    obtain⟨v',e1,e2⟩:=R.qE v es2 hs ha
    refine⟨v',?_,e2⟩
    simp only[Sem.runT,hs.frozen hz]
    exact e1
 | getObj b k ih=>
   intro h w es hl hg
   have hg0:=hg
   simp only[Sem.runT] at hg
   by_cases hz:Z b
   ·exfalso
    rw[hl.dead b hz] at hg
    exact h.2 hz w _ hl hg
   cases ho:w.heap[b]? with
   | none=>rw[ho] at hg;exact absurd hg (aI (by trivial))
   | some o=>
     by_cases hno:∀c e f,o≠.cells c e f
     ·have step:∀ (u:World) (es0:Array Event),u.heap[b]? =some o→(Sem.getObj b k).runT P u es0=(k o).runT P u (es0.push ⟨.obj b,false,o.isChan⟩):=fun u es0 hu=>by
       simp only[Sem.runT,hu]
       all_goals (cases o <;> first|rfl|exact absurd rfl (hno _ _ _))
      have hg2:fE ((k o).runT P w (es.push ⟨.obj b,false,o.isChan⟩)).1:=by
       rw[← step w es ho];exact hg0
      obtain⟨n,new,r,R⟩:=ih o (h.1 hz o (hl.live b o hz ho)) hl hg2
      refine⟨n,#[⟨.obj b,false,o.isChan⟩] ++ new,r,?_,R.drawn,R.tape,R.lv,fun e he=>?_,R.val,fun v es2 hs ha=>?_⟩
      ·rw[step w es ho,R.run,Array.push_eq_append,Array.append_assoc]
      ·rcases Array.mem_append.1 he with he|he
       ·simp only[List.mem_toArray,List.mem_singleton] at he
        subst he
        exact .inr (.inr ⟨b,rfl,hz⟩)
       ·exact R.evs e he
      ·obtain⟨v',e1,e2⟩:=R.qE v (es2.push ⟨.obj b,false,o.isChan⟩) hs ha
       exact⟨v',by rw[step v es2 ((hs.same b hz).trans ho),e1,Array.push_eq_append,Array.append_assoc],e2⟩
     ·simp only[ne_eq,Classical.not_forall,Classical.not_not] at hno
      obtain⟨c,e,f,rfl⟩:=hno
      rw[ho] at hg
      exact absurd hg (aI (by trivial))
 | setObj b o k ih=>
   intro h w es hl hg
   have hg0:=hg
   simp only[Sem.runT] at hg
   cases hp:w.heap[b]? with
   | none=>rw[hp] at hg;exact absurd hg (aI (by trivial))
   | some p=>
     by_cases hc:∀c e f,p≠.cells c e f
     ·have hz:¬ Z b:=h.1
      have step:∀ (u:World) (es0:Array Event),u.heap[b]? =some p→(Sem.setObj b o k).runT P u es0=k.runT P {u with heap:=u.heap.setIfInBounds b o } (es0.push ⟨.obj b,true,o.isChan⟩):=fun u es0 hu=>by
       simp only[Sem.runT,hu]
       all_goals (cases p <;> first|rfl|exact absurd rfl (hc _ _ _))
      have hg2:fE (k.runT P {w with heap:=w.heap.setIfInBounds b o } (es.push ⟨.obj b,true,o.isChan⟩)).1:=by
       rw[← step w es hp];exact hg0
      obtain⟨n,new,r,R⟩:=ih h.2.2 (hl.set hz h.2.1) hg2
      refine⟨n,#[⟨.obj b,true,o.isChan⟩] ++ new,r,?_,R.drawn,R.tape,R.lv,fun e he=>?_,R.val,fun v es2 hs ha=>?_⟩
      ·rw[step w es hp,R.run,Array.push_eq_append,Array.append_assoc]
      ·rcases Array.mem_append.1 he with he|he
       ·simp only[List.mem_toArray,List.mem_singleton] at he
        subst he
        exact .inr (.inr ⟨b,rfl,hz⟩)
       ·exact R.evs e he
      ·obtain⟨v',e1,e2⟩:=R.qE {v with heap:=v.heap.setIfInBounds b o } (es2.push ⟨.obj b,true,o.isChan⟩) (hs.set hz o) ha
       exact⟨v',by rw[step v es2 ((hs.same b hz).trans hp),e1,Array.push_eq_append,Array.append_assoc],e2⟩
     ·simp only[ne_eq,Classical.not_forall,Classical.not_not] at hc
      obtain⟨c,e,f,rfl⟩:=hc
      rw[hp] at hg
      exact absurd hg (aI (by trivial))
 | choose q k ih=>
   intro h w es hl hg
   simp only[Sem.runT] at hg
   by_cases hf:q.forced=true
   ·rw[if_pos hf] at hg
    obtain⟨n,new,r,R⟩:=ih 0 (h 0) hl hg
    exact⟨n,new,r,by simp only[Sem.runT,if_pos hf];exact R.run,R.drawn,R.tape,R.lv,R.evs,R.val,fun v es2 hs ha=>by simp only[Sem.runT,if_pos hf];exact R.qE v es2 hs ha⟩
   ·rw[if_neg hf] at hg
    obtain⟨n,new,r,R⟩:=ih _ (h (q.cut (w.tape w.drawn q))) (w:={w with drawn:=w.drawn+1 }) ⟨hl.dead,hl.live⟩ hg
    refine⟨1+n,new,r,by simp only[Sem.runT,if_neg hf];exact R.run,by rw[R.drawn];simp only;omega,R.tape,R.lv,R.evs,R.val,fun v es2 hs ha=>?_⟩
    have e0:v.tape v.drawn q=w.tape w.drawn q:=by simpa using ha 0 zo q
    obtain⟨v',e1,e2,e3,e4⟩:=R.qE {v with drawn:=v.drawn+1 } es2 ⟨hs.size,hs.same,hs.os,hs.output,hs.kept⟩ (Agree.shift (m:=1) (w:=w) (v:=v) ha rfl rfl rfl rfl)
    exact⟨v',by simp only[Sem.runT,if_neg hf,e0];exact e1,e2,by rw[e3];simp only;omega,e4⟩
 | sys c k ih=>
   intro h w es hl hg
   obtain⟨rfl,h⟩:=h
   obtain⟨r0,hr⟩:=ZH w
   have e0:=hr w rfl
   simp only[Sem.runT,e0] at hg
   obtain⟨n,new,r,R⟩:=ih r0 (h r0) hl hg
   refine⟨n,#[⟨.output,true,false⟩] ++ new,r,?_,R.drawn,R.tape,R.lv,fun e he=>?_,R.val,fun v es2 hs ha=>?_⟩
   ·simp only[Sem.runT,e0]
    rw[R.run,Array.push_eq_append,Array.append_assoc]
   ·rcases Array.mem_append.1 he with he|he
    ·simp only[List.mem_toArray,List.mem_singleton] at he
     subst he
     exact .inl (.inr rfl)
    ·exact R.evs e he
   ·obtain⟨v',e1,e2⟩:=R.qE v (es2.push ⟨.output,true,false⟩) hs ha
    refine⟨v',?_,e2⟩
    simp only[Sem.runT,hr v hs.os]
    rw[e1,Array.push_eq_append,Array.append_assoc]
 | program k ih=>
   intro h w es hl hg
   obtain⟨n,new,r,R⟩:=ih P h hl hg
   exact⟨n,new,r,R.run,R.drawn,R.tape,R.lv,R.evs,R.val,fun v es2 hs ha=>R.qE v es2 hs ha⟩
 | mark m k ih=>
   intro h w es hl hg
   obtain⟨rfl,h⟩:=h
   obtain⟨n,new,r,R⟩:=ih h hl hg
   refine⟨n,#[⟨.mark .noRoom,false,true⟩] ++ new,r,?_,R.drawn,R.tape,R.lv,fun e he=>?_,R.val,fun v es2 hs ha=>?_⟩
   ·simp only[Sem.runT]
    rw[R.run,Array.push_eq_append,Array.append_assoc]
   ·rcases Array.mem_append.1 he with he|he
    ·simp only[List.mem_toArray,List.mem_singleton] at he
     subst he
     exact .inl (.inl rfl)
    ·exact R.evs e he
   ·obtain⟨v',e1,e2⟩:=R.qE v (es2.push ⟨.mark .noRoom,false,true⟩) hs ha
    refine⟨v',?_,e2⟩
    simp only[Sem.runT]
    rw[e1,Array.push_eq_append,Array.append_assoc]
 | halt h0=>
   intro h w es hl hg
   exact⟨0,#[],.halt h0 w,by simp[Sem.runT],rfl,rfl,hl,zs,(fun _ _ e=>by cases e),fun v es2 hs _=>⟨v,by simp[Sem.runT,lC],hs,rfl,rfl⟩⟩
theorem Bd.bind{Z:Env}{α β:Type}{s:Sem α}(h:Bd P Z s)(f:α→Sem β):Bd P Z (s.bind f):=fun w es hl hg=>by
 rw[Sem.runT_bind'] at hg
 have:=h w es hl
 generalize s.runT P w es=r at this hg
 obtain⟨r,es'⟩:=r
 cases r with
 | ok a w'=>exact this trivial
 | halt e w'=>cases e <;> first|exact hg|exact this trivial
theorem Tm.bind{Z:Env}{α β:Type}{Q:α→Prop}{R:β→Prop}{s:Sem α}{f:α→Sem β}:Tm P Z Q s→(∀a,Q a→Tm P Z R (f a))→Tm P Z R (s.bind f):=by
 intro h hf
 induction s with
 | pure a=>exact hf a h
 | load m a k ih=>exact fun hz v=>ih v (h hz v)
 | store m a v k ih=>exact fun hz=>ih (h hz)
 | new o k ih=>exact⟨h.1,fun r hr=>ih r (h.2 r hr)⟩
 | shape r k ih=>exact h.imp (fun h=>h.bind f) fun h=>⟨fun hz x=>ih x (h.1 hz x),fun hz=>(h.2 hz).bind f⟩
 | freeze a n k ih=>exact ih h
 | frozen a k ih=>exact⟨fun hz x=>ih x (h.1 hz x),fun hz=>(h.2 hz).bind f⟩
 | getObj r k ih=>exact⟨fun hz o ho=>ih o (h.1 hz o ho),fun hz=>(h.2 hz).bind f⟩
 | setObj r o k ih=>exact⟨h.1,h.2.1,ih h.2.2⟩
 | choose q k ih=>exact fun n=>ih n (h n)
 | sys c k ih=>exact⟨h.1,fun r=>ih r (h.2 r)⟩
 | program k ih=>exact ih P h
 | mark m k ih=>exact⟨h.1,ih h.2⟩
 | halt e=>exact h
theorem Tm.mono{Z:Env}{α:Type}{Q R:α→Prop}{s:Sem α}:Tm P Z Q s→(∀a,Q a→R a)→Tm P Z R s:=by
 intro h hf
 induction s with
 | pure a=>exact hf a h
 | load m a k ih=>exact fun hz v=>ih v (h hz v)
 | store m a v k ih=>exact fun hz=>ih (h hz)
 | new o k ih=>exact⟨h.1,fun r hr=>ih r (h.2 r hr)⟩
 | shape r k ih=>exact h.imp id fun h=>⟨fun hz x=>ih x (h.1 hz x),h.2⟩
 | freeze a n k ih=>exact ih h
 | frozen a k ih=>exact⟨fun hz x=>ih x (h.1 hz x),h.2⟩
 | getObj r k ih=>exact⟨fun hz o ho=>ih o (h.1 hz o ho),h.2⟩
 | setObj r o k ih=>exact⟨h.1,h.2.1,ih h.2.2⟩
 | choose q k ih=>exact fun n=>ih n (h n)
 | sys c k ih=>exact⟨h.1,fun r=>ih r (h.2 r)⟩
 | program k ih=>exact ih P h
 | mark m k ih=>exact⟨h.1,ih h.2⟩
 | halt e=>exact h
end
section
variable{P:Program}{Z:Env}
abbrev T(P:Program)(Z:Env){α:Type}(s:Sem α):Prop:=Tm P Z (fun _=>True) s
theorem Tm.t{α:Type}{Q:α→Prop}{s:Sem α}(h:Tm P Z Q s):T P Z s:=h.mono fun _ _=>trivial
theorem tb{α β:Type}{R:β→Prop}{s:Sem α}{f:α→Sem β}(h:T P Z s)(hf:∀a,Tm P Z R (f a)):Tm P Z R (s >>= f):=Tm.bind h fun a _=>hf a
theorem tq{α β:Type}{Q:α→Prop}{R:β→Prop}{s:Sem α}{f:α→Sem β}(h:Tm P Z Q s)(hf:∀a,Q a→Tm P Z R (f a)):Tm P Z R (s >>= f):=Tm.bind h hf
theorem e9{α β:Type}{s:Sem α}{f:α→β}(h:T P Z s):T P Z (Functor.map f s):=Tm.bind (Q:=fun _=>True) h fun _ _=>trivial
theorem av{α:Type}(a:α):T P Z (pure a:Sem α):=trivial
theorem au{α:Type}{Q:α→Prop}(m:String):Tm P Z Q (stuck m):=trivial
theorem dN(q:Question):T P Z (choose q):=fun _=>trivial
theorem mg:T P Z program:=trivial
theorem VQ(a:Addr)(m:Mode):T P Z (load a m):=fun _ _=>trivial
theorem ZY(a:Addr)(v:Value)(m:Mode):T P Z (store a v m):=fun _=>trivial
theorem l9{o:Obj}(h:Plain Z o):T P Z (newObj o):=⟨h,fun _ _=>trivial⟩
theorem dH(t:TypeId):T P Z (typeInfo t):=by
 show Tm P Z _ (match P.info? t with|some i=>pure i|none=>stuck "no such type")
 split <;> trivial
theorem bU(t:TypeId):Tm P Z (fun d=>P.underlying t=some d) (underlying t):=by
 show Tm P Z _ (match P.underlying t with|some d=>pure d|none=>stuck "no such type")
 split
 ·rename_i d hd
  exact hd
 ·trivial
theorem cu(t:TypeId):T P Z (underlying t):=(bU t).t
theorem bY(t:TypeId):T P Z (sizeOf t):=tb (dH t) fun _=>trivial
theorem Dz(t:TypeId):T P Z (typeStr t):=tb (dH t) fun _=>by(try dsimp only);split <;> trivial
theorem dA(t:TypeId):T P Z (zeroValue t):=tb (dH t) fun _=>by(try dsimp only);split <;> trivial
theorem NY(t:TypeId):T P Z (isAgg t):=tb (cu t) fun _=>by(try dsimp only);split <;> trivial
theorem wF(a:Addr)(n:Nat):∀ (i:Nat) (acc:Array Value),T P Z (loadCellsFrom a i n acc):=by
 induction n with
 | zero=>exact fun _ _=>trivial
 | succ n ih=>exact fun i acc=>tb (VQ _ _) fun _=>ih _ _
theorem vP(a:Addr)(n:Nat):T P Z (loadCells a n):=wF a n 0 #[]
theorem jF(a:Addr)(vs:List Value):∀i,T P Z (storeCells a vs i):=by
 induction vs with
 | nil=>exact fun _=>trivial
 | cons v vs ih=>exact fun i=>tb (ZY _ _ _) fun _=>ih _
theorem pK(t:TypeId)(a:Addr):T P Z (loadVar t a):=tb (NY t) fun b=>by
 try dsimp only
 split
 ·exact tb (bY t) fun n=>tb (vP a n) fun _=>trivial
 ·exact VQ a .plain
theorem Ag(t:TypeId)(a:Addr)(v:Value):T P Z (storeVar t a v):=tb (bY t) fun n=>by
 try dsimp only
 split
 ·exact zT
 ·exact jF _ _ _
theorem tT(e:TypeId)(cs:Array Value):T P Z (newRow e cs):=tb (l9 (by trivial)) fun _=>trivial
theorem Ae(t:TypeId)(v:Value):T P Z (newVar t v):=tT t v.cells
theorem VN(t:TypeId):T P Z (elemOf t):=tb (cu t) fun _=>by(try dsimp only);split <;> trivial
theorem iC(t:TypeId)(cs:Array Value)(off:Nat):T P Z (part t cs off):=tb (NY t) fun _=>by
 try dsimp only
 split
 ·exact tb (bY t) fun _=>trivial
 ·split <;> trivial
theorem aF{α:Type}{Q:α→Prop}(e:RuntimeError):Tm P Z Q (runtimePanic e):=by
 show Tm P Z Q (match e with
 | .bounds x y s c=>goPanic (.iface P.rt.boundsError (.agg #[int i64 x,int i64 y,.bool s,.int .u8 c.toNat]))
 | .error m=>goPanic (.iface P.rt.errorString (strVal m))
 | .plain m=>goPanic (.iface P.rt.plainError (strVal m))
 | .nilDeref=>goPanic (.iface P.rt.errorString (strVal "invalid memory address or nil pointer dereference"))
 | .typeAssertion i c a m=>do
   let h (t:Option TypeId):Value:=match t with|some t=>typeHandle P t|none=>.pointer none
   let r ← newVar (← elemOf P.rt.typeAssertionError) (.agg #[h i,h c,h (some a),strVal m])
   goPanic (.iface P.rt.typeAssertionError (.pointer (some r)))
 | .panicNil=>do
   let r ← newVar (← elemOf P.rt.panicNilError) (.agg #[])
   goPanic (.iface P.rt.panicNilError (.pointer (some r)))
 | .unhashable t=>goPanic (.iface P.rt.unhashableTypeError (.agg #[typeHandle P t])))
 cases e <;> first|exact zT|exact tb (VN _) fun _=>tb (Ae _ _) fun _=>trivial
theorem lF{α:Type}{Q:α→Prop}(k:IntKind)(x y:Int)(c:BoundsCode):Tm P Z Q (boundsPanic k x y c):=by
 unfold boundsPanic
 dsimp only
 split
 ·exact tb (e9 (dN _)) fun _=>aF _
 ·exact tb (s:=pure _) trivial fun _=>aF _
theorem pI(v:Value):T P Z (asIntOf v):=by unfold asIntOf;split <;> trivial
theorem pG(v:Value):T P Z (asInt v):=tb (pI v) fun _=>trivial
theorem tN(v:Value):T P Z (asBool v):=by unfold asBool;split <;> trivial
theorem ZJ(v:Value):T P Z (asAgg v):=by unfold asAgg;split <;> trivial
theorem tL(v:Value):T P Z (asAddr v):=by
 unfold asAddr
 split
 ·trivial
 ·exact aF _
 ·trivial
theorem kg(v:Value):T P Z (Instr.sureAddr v):=by unfold Instr.sureAddr;split <;> trivial
theorem Dx(n:Nat):T P Z (askRoom n):=by
 unfold askRoom
 split
 ·exact⟨rfl,zT⟩
 ·exact zT
theorem Iy{a:Addr}(h:Z a.block){α:Type}(f:Unit→Sem α):Bd P Z (noView a >>= f):=fun w es hl hg=>by
 have e1:w.shape? a.block=none:=by simp[World.shape?,hl.dead _ h,X0]
 have:(noView a).runT P w es=(.halt (.unsupported (.unsafePointer "memory seen as another type")) w,es.push ⟨.obj a.block,false,false⟩):=by
  simp[noView,viewAt,shape,getObj,bind,Sem.bind,Sem.runT,e1,hl.dead _ h,X0,pure,unsupported,Obj.isChan,-Sem.runT_eq]
 have h2:(noView a >>= f).runT P w es=(.halt (.unsupported (.unsafePointer "memory seen as another type")) w,es.push ⟨.obj a.block,false,false⟩):=by
  show((noView a).bind f).runT P w es=_
  rw[Sem.runT_bind',this]
 rw[h2] at hg
 exact hg
theorem Jl{r:Nat}(h:¬ Z r):T P Z (viewAt r):=by
 refine .inr ⟨fun _ x=>?_,fun hz=>absurd hz h⟩
 show Tm P Z _ (Sem.bind (Sem.pure x) _)
 cases x with
 | some x=>exact zT
 | none=>exact⟨fun _ o ho=>by cases o <;> first|exact zT|exact ho.elim,fun hz=>absurd hz h⟩
theorem VY{a:Addr}(h:¬ Z a.block):T P Z (noView a):=tb (Jl h) fun x=>by
 try dsimp only
 split <;> trivial
theorem yY(a:Addr):T P Z (byteOf a):=by
 unfold byteOf
 cases hs:a.spot with
 | some s=>exact zT
 | none=>
   try dsimp only
   refine tb mg fun p=>?_
   by_cases hz:Z a.block
   ·exact .inl (Iy hz _)
   ·refine tb (VY hz) fun _=>?_
    refine tb (s:=shape a.block) (.inr ⟨fun _ _=>trivial,fun h=>absurd h hz⟩) fun x=>?_
    try dsimp only
    split
    ·split
     ·exact zT
     ·split <;> trivial
    ·exact zT
theorem VZ(b:Addr)(c n:Nat):T P Z (partAt b c n):=tb (yY b) fun _=>tb (yY _) fun _=>trivial
theorem tO(a:Addr)(f:Field):T P Z (fieldPlace a f):=tb (bY _) fun n=>by
 try dsimp only
 split
 ·exact VZ _ _ _
 ·exact zT
theorem Fp(x:Value)(y:Nat)(c:BoundsCode):T P Z (Instr.sliceBound x y c):=tb (pI x) fun⟨k,i⟩=>by
 try dsimp only
 split
 ·exact zT
 ·exact lF _ _ _ _
theorem qH(s:Bool)(len cap:Nat)(low high max:Option Value):T P Z (Instr.sliceBounds s len cap low high max):=by
 unfold Instr.sliceBounds
 cases max <;> cases high <;> cases low <;> dsimp only
 all_goals repeat' with_reducible first
  | refine tb (av _) fun _=>?_
  | refine tb (au _) fun _=>?_
  | refine tb (Fp _ _ _) fun _=>?_
  | exact av _
theorem vR{α:Type}{Q:α→Prop}(m:String):Tm P Z Q (unsupported (.noEntry m):Sem α):=trivial
theorem Wd{α:Type}{Q:α→Prop}(m:String):Tm P Z Q (unsupported (.resourceLimit m):Sem α):=trivial
theorem Fq{α:Type}{Q:α→Prop}:Tm P Z Q (unsupported .addressObserved:Sem α):=trivial
theorem ov{α:Type}{Q:α→Prop}(m:String):Tm P Z Q (unsupported (.unsafePointer m):Sem α):=trivial
theorem jG{α:Type}{Q:α→Prop}{a:α}(h:Q a):Tm P Z Q (pure a:Sem α):=h
theorem ZT{α β:Type}{f:α→Sem β}(l:List α)(h:∀a∈l,T P Z (f a)):T P Z (l.mapM f):=by
 induction l with
 | nil=>simp only[List.mapM_nil];exact av _
 | cons a l ih=>
   simp only[List.mapM_cons]
   exact tb (h a zs) fun _=>tb (ih fun b hb=>h b (by simp[hb])) fun _=>av _
theorem VW{α β:Type}{f:α→Sem β}(l:Array α)(h:∀a,T P Z (f a)):T P Z (l.mapM f):=by
 rw[Array.mapM_eq_mapM_toList]
 exact e9 (ZT _ fun a _=>h a)
theorem Ji{α β:Type}{f:α→β→Sem (ForInStep β)}(l:List α)(h:∀a∈l,∀b,T P Z (f a b)):∀b,T P Z (forIn l b f):=by
 induction l with
 | nil=>intro b;simp only[List.forIn_nil];exact av _
 | cons a l ih=>
   intro b
   simp only[List.forIn_cons]
   refine tb (h a zs b) fun r=>?_
   cases r with
   | done b=>exact av _
   | yield b=>exact ih (fun c hc=>h c (by simp[hc])) b
theorem Ab{α β:Type}{f:α→β→Sem (ForInStep β)}(l:Array α)(b:β)(h:∀a∈l,∀b,T P Z (f a b)):T P Z (forIn l b f):=by
 rw[← Array.forIn_toList]
 exact Ji _ (fun a ha=>h a (by simpa using ha)) b
theorem Ac{β:Type}{f:Nat→β→Sem (ForInStep β)}(n:Nat)(b:β)(h:∀a b,T P Z (f a b)):T P Z (forIn [0:n] b f):=by
 rw[Std.Legacy.Range.forIn_eq_forIn_range']
 exact Ji _ (fun a _=>h a) b
theorem Dy{α β:Type}{f:β→α→Sem β}(l:List α)(h:∀b a,T P Z (f b a)):∀b,T P Z (l.foldlM f b):=by
 induction l with
 | nil=>intro b;exact av _
 | cons a l ih=>intro b;simp only[List.foldlM_cons];exact tb (h b a) fun c=>ih c
def Jy(P:Program):Nat→TypeId→Bool
 | 0,_=>true
 | d+1,t=>match P.underlying t with
   | none|some .bool|some .string|some (.float _)|some (.complex _)|some (.slice _)|some (.map _ _)|some (.func _ _ _)|some (.chan _ _)=>true
   | some (.int _)=>match P.info? t with
     | some i=>match i.desc with| .named n _=>n != "sync.copyChecker" |_=>true
     | none=>true
   | some (.struct fs)=>fs.all fun f=>f.name == "_" || Jy P d f.type
   | some (.array _ e)=>Jy P d e
   | _=>false
theorem VP(hg:P.globals.size=0){t:TypeId}(ht:∀i,P.info? t=some i→∀n u,i.desc=.named n u→n≠ "sync.copyChecker")(a b:Addr)(f:Addr × Bool→Addr × Bool→Sem Bool)
 (hf:∀x y,f x y=(do
  if x.1.block == y.1.block && x.1.block<(← program).globals.size then return (← byteOf x.1) == (← byteOf y.1)
  let .named "sync.copyChecker" _:=(← typeInfo t).desc|unsupported .addressObserved
  if x.1 == y.1 then pure true else unsupported .addressObserved)):T P Z (do let x ← behindNumber a;let y ← behindNumber b;f x y):=by
 have lost:∀x y,Dm P (f x y):=fun x y=>by
  rw[hf]
  show Dm P (if (x.1.block == y.1.block && decide (x.1.block<P.globals.size))=true then _ else _)
  rw[hg]
  simp only[Nat.not_lt_zero,decide_false,Bool.and_false,Bool.false_eq_true,if_false]
  show Dm P (Sem.bind (match P.info? t with|some i=>pure i|none=>stuck "no such type") _)
  cases hi:P.info? t with
  | none=>exact zT
  | some i=>
    show Dm P (match i.desc with
     | .named "sync.copyChecker" _=>if x.1 == y.1 then pure true else unsupported .addressObserved
     | _=>unsupported .addressObserved)
    split
    ·rename_i u hu
     exact absurd rfl (ht i hi _ _ hu)
    ·exact zT
 have np:∀c w es v w',((behindNumber c).runT P w es).1≠.halt (.panic v) w'∧((behindNumber c).runT P w es).1≠.halt .goexit w':=fun c w es v w'=>by
  have e:behindNumber c=(do let x ← numberAt c.block;pure (x.getD (c,false))):=rfl
  rw[e]
  simp only[numberAt,shape,getObj,bind,Sem.bind,pure,Sem.runT]
  cases hs:w.shape? c.block with
  | some x=>simp[Sem.bind,Sem.runT,-Sem.runT_eq]
  | none=>
    simp only[Option.isSome_none,Bool.false_eq_true,if_false,Sem.bind,Sem.runT]
    cases hh:w.heap[c.block]? with
    | none=>simp
    | some o=>cases o <;> simp[Sem.bind,Sem.runT,-Sem.runT_eq]
 have all:Bd P Z (do let x ← behindNumber a;let y ← behindNumber b;f x y):=by
  intro w es hl hgood
  show False
  have h1:=np a w es
  replace hgood:fE (((behindNumber a).bind fun x=>(behindNumber b).bind fun y=>f x y).runT P w es).1:=hgood
  rw[Sem.runT_bind'] at hgood
  generalize (behindNumber a).runT P w es=r at h1 hgood
  obtain⟨r,es1⟩:=r
  cases r with
  | halt e w1=>
    cases e <;> first|exact hgood|skip
    ·exact(h1 _ w1).1 rfl
    ·exact(h1 undef w1).2 rfl
  | ok x w1=>
    dsimp only at hgood
    rw[Sem.runT_bind'] at hgood
    have h2:=np b w1 es1
    generalize (behindNumber b).runT P w1 es1=r at h2 hgood
    obtain⟨r,es2⟩:=r
    cases r with
    | halt e w2=>
      cases e <;> first|exact hgood|skip
      ·exact(h2 _ w2).1 rfl
      ·exact(h2 undef w2).2 rfl
    | ok y w2=>exact(lost x y).run _ _ hgood
 exact .inl all
theorem QH(hg:P.globals.size=0):∀ (d:Nat) (t:TypeId),Jy P d t=true→∀x y,T P Z (Op.equalIn d t x y):=by
 intro d
 induction d with
 | zero=>exact fun t _ x y=>trivial
 | succ d ih=>
   intro t ht x y
   unfold Op.equalIn
   refine tq (bU t) fun td htd=>?_
   unfold Jy at ht
   rw[htd] at ht
   split
   all_goals first
    | exact zT
    | (dsimp only at ht;cases ht;done)
    | (split <;> exact zT)
    | skip
   ·rename_i k a b
    refine VP hg (fun i hi n u hd hn=>?_) a b _ fun x y=>rfl
    dsimp only at ht
    rw[hi] at ht
    dsimp only at ht
    rw[hd,hn] at ht
    simp at ht
   ·rename_i fields xs ys
    dsimp only at ht
    rw[Array.all_eq_true_iff_forall_mem] at ht
    refine tb mg fun p=>?_
    dsimp only
    split
    ·exact zT
    ·refine tb (Ab _ _ fun f hf b=>?_) fun r=>?_
     ·split
      ·rename_i hn
       have h1:=ht f hf
       simp only[Bool.or_eq_true,beq_iff_eq] at h1
       refine tb (iC _ _ _) fun _=>tb (iC _ _ _) fun _=>tb (ih _ (h1.resolve_left hn) _ _) fun _=>?_
       split <;> exact zT
      ·exact zT
     ·split <;> exact zT
   ·rename_i len elem xs ys
    dsimp only at ht
    refine tb (bY _) fun n=>?_
    refine tb (Ac _ _ fun i b=>?_) fun r=>?_
    ·refine tb (iC _ _ _) fun _=>tb (iC _ _ _) fun _=>tb (ih _ ht _ _) fun _=>?_
     split <;> exact zT
    ·dsimp only;split <;> exact zT
theorem Fg(hg:P.globals.size=0){t:TypeId}(ht:Jy P 10000 t=true)(x y:Value):T P Z (Op.equal t x y):=QH hg 10000 t ht x y
theorem Jg:∀ (d:Nat) (t:TypeId) x y,T P Z (Op.eqGuardIn d t x y):=by
 intro d
 induction d with
 | zero=>exact fun t x y=>trivial
 | succ d ih=>
   intro t x y
   unfold Op.eqGuardIn
   refine tb (cu t) fun td=>?_
   split
   ·exact zT
   ·refine tb (Ab _ _ fun f hf b=>?_) fun r=>?_
    ·split
     ·refine tb (iC _ _ _) fun _=>tb (iC _ _ _) fun _=>tb (ih _ _ _) fun _=>?_
      split <;> exact zT
     ·exact zT
    ·dsimp only;split <;> exact zT
   ·refine tb (bY _) fun _=>?_
    refine tb (Ac _ _ fun i b=>?_) fun r=>?_
    ·refine tb (iC _ _ _) fun _=>tb (iC _ _ _) fun _=>tb (ih _ _ _) fun _=>?_
     split <;> exact zT
    ·dsimp only;split <;> exact zT
   ·exact zT
theorem QG(op:BinOp)(t:TypeId)(x y:Operand)(a b:Value):T P Z (eqGuard op t x y a b):=by
 unfold eqGuard
 repeat' with_reducible first
  | exact av _
  | exact vR _
  | refine tb mg fun _=>?_
  | refine tb (Jg _ _ _ _) fun _=>?_
  | split
theorem jY(e:Bool):∀ (n:Nat) (t:TypeId) v,T P Z (Instr.checkKey e n t v):=by
 intro n
 induction n with
 | zero=>exact fun t v=>trivial
 | succ n ih=>
   intro t v
   unfold Instr.checkKey
   refine tb (cu t) fun td=>?_
   split
   ·refine tb (dH _) fun i=>?_
    dsimp only
    split
    ·split
     ·exact tb (aF _) fun _=>tb (Dz _) fun _=>tb (aF _) fun _=>ih _ _
     ·exact tb (Dz _) fun _=>tb (aF _) fun _=>ih _ _
    ·exact ih _ _
   ·refine tb (Ac _ _ fun i b=>?_) fun r=>trivial
    exact tb (bY _) fun _=>tb (iC _ _ _) fun _=>tb (ih _ _) fun _=>trivial
   ·refine tb (Ab _ _ fun f hf b=>?_) fun r=>trivial
    split
    ·exact tb (iC _ _ _) fun _=>tb (ih _ _) fun _=>trivial
    ·exact zT
   ·exact zT
   ·exact zT
   ·exact zT
   ·exact zT
   ·exact zT
theorem Fh(hg:P.globals.size=0){t:TypeId}(ht:Jy P 10000 t=true)(k:Value):∀ (es:List MapEntry) (i:Nat),T P Z (Instr.findAsking t k es i):=by
 intro es
 induction es with
 | nil=>exact fun _=>trivial
 | cons e es ih=>
   intro i
   refine tb (Fg hg ht _ _) fun b=>?_
   split
   ·exact zT
   ·exact ih _
theorem pJ(hg:P.globals.size=0){t:TypeId}(ht:Jy P 10000 t=true)(k:Value)(es:List MapEntry):T P Z (Instr.findKey t k es):=by
 unfold Instr.findKey
 refine tb (cu t) fun td=>?_
 split
 ·exact zT
 ·exact Fh hg ht _ _ _
theorem bE{β:Type}{R:β→Prop}{r:Nat}{f:Obj→Sem β}(h1:¬ Z r→∀o,Plain Z o→Tm P Z R (f o))(h2:Z r→Bd P Z (f (X0 r))):Tm P Z R (getObj r >>= f):=⟨h1,h2⟩
theorem dB{β:Type}{R:β→Prop}{r:Nat}{o:Obj}{f:Unit→Sem β}(hz:¬ Z r)(ho:Plain Z o)(h:Tm P Z R (f ())):Tm P Z R (setObj r o >>= f):=⟨hz,ho,h⟩
theorem Af{r:Nat}{o:Obj}(hz:¬ Z r)(ho:Plain Z o):T P Z (setObj r o):=⟨hz,ho,zT⟩
theorem Tf{α:Type}(m:String):Bd P Z (stuck m:Sem α):=Dm.bd trivial
theorem ZI(e:TypeId)(b:Bool)(o:Value):T P Z (Instr.alloc e b o):=by
 unfold Instr.alloc
 refine tb (dA _) fun z=>?_
 split
 ·exact tb (Ag _ _ _) fun _=>av _
 ·exact tb (Ae _ _) fun _=>av _
theorem Cp(e:TypeId)(v:Value):T P Z (Instr.box e v):=tb (Ae _ _) fun _=>av _
theorem ZL(t:TypeId)(ps:Array (Nat × Value)):T P Z (Instr.build t ps):=by
 unfold Instr.build
 refine tb (dA _) fun z=>tb (cu _) fun d=>?_
 split
 ·refine tb (VW _ fun f=>tb (bY _) fun _=>av _) fun places=>?_
  split
  ·exact av _
  ·exact au _
 ·refine tb (bY _) fun n=>?_
  split
  ·exact av _
  ·exact au _
 ·exact au _
theorem Fb(t:TypeId)(len:Nat)(ps:Array (Nat × Value)):T P Z (Instr.buildSlice t len ps):=by
 unfold Instr.buildSlice
 refine tb (cu _) fun d=>?_
 repeat' with_reducible first
  | exact av _
  | exact au _
  | refine tb (av _) fun _=>?_
  | refine tb (bY _) fun _=>?_
  | refine tb (dA _) fun _=>?_
  | refine tb (tT _ _) fun _=>?_
  | refine tb (Wd _) fun _=>?_
  | split
  | dsimp only
theorem VT(t:TypeId)(a:Value):T P Z (Instr.loadAt t a):=tb (kg _) fun _=>pK _ _
theorem QU(t:TypeId)(a v:Value):T P Z (Instr.storeAt t a v):=tb (kg _) fun _=>Ag _ _ _
theorem QJ(s:TypeId)(a:Value)(f:Nat):T P Z (Instr.fieldAt s a f):=by
 unfold Instr.fieldAt
 refine tb (cu _) fun d=>?_
 repeat' with_reducible first
  | exact av _
  | exact au _
  | refine tb (kg _) fun _=>?_
  | refine tb (tO _ _) fun _=>?_
  | split
  | dsimp only
theorem QK(t:TypeId)(x i:Value):T P Z (Instr.indexAt t x i):=by
 unfold Instr.indexAt
 refine tb (pI _) fun⟨k,i⟩=>tb (cu _) fun d=>?_
 repeat' with_reducible first
  | exact av _
  | exact au _
  | exact vR _
  | exact lF _ _ _ _
  | refine tb (av _) fun _=>?_
  | refine tb (au _) fun _=>?_
  | refine tb (kg _) fun _=>?_
  | refine tb (cu _) fun _=>?_
  | refine tb (bY _) fun _=>?_
  | split
  | dsimp only
theorem ZX(t:TypeId)(x:Value)(l h m:Option Value):T P Z (Instr.slice t x l h m):=by
 unfold Instr.slice
 refine tb (cu _) fun d=>?_
 repeat' with_reducible first
  | exact av _
  | exact au _
  | refine tb (av _) fun _=>?_
  | refine tb (au _) fun _=>?_
  | refine tb (tL _) fun _=>?_
  | refine tb (cu _) fun _=>?_
  | refine tb (bY _) fun _=>?_
  | refine tb (qH _ _ _ _ _ _) fun _=>?_
  | split
  | dsimp only
theorem QS(t:TypeId)(x:Value)(l h m:Option Value):T P Z (Instr.sliceAt t x l h m):=by
 unfold Instr.sliceAt
 refine tb (cu _) fun d=>?_
 split
 ·exact tb (kg _) fun _=>tb (qH _ _ _ _ _ _) fun _=>tb (bY _) fun _=>av _
 ·exact ZX _ _ _ _ _
theorem ZQ(t:TypeId)(x:Value)(f:Nat):T P Z (Instr.field t x f):=by
 unfold Instr.field
 refine tb (cu _) fun d=>?_
 repeat' with_reducible first
  | exact au _
  | exact iC _ _ _
  | refine tb (ZJ _) fun _=>?_
  | split
  | dsimp only
theorem ZR(t:TypeId)(x i:Value):T P Z (Instr.index t x i):=by
 unfold Instr.index
 refine tb (pI _) fun⟨k,i⟩=>tb (cu _) fun d=>?_
 repeat' with_reducible first
  | exact av _
  | exact au _
  | exact iC _ _ _
  | exact lF _ _ _ _
  | refine tb (bY _) fun _=>?_
  | split
  | dsimp only
theorem QL(t:TypeId)(r:Option Value):T P Z (Instr.makeMap t r):=by
 unfold Instr.makeMap
 have fin:T P Z (do pure (.map (some (← newObj (.map #[] 0)))):Sem Value):=tb (l9 (by trivial)) fun _=>av _
 repeat' with_reducible first
  | exact fin
  | exact av _
  | refine tb (au _) fun _=>?_
  | refine tb (cu _) fun _=>?_
  | refine tb (pG _) fun _=>?_
  | split
  | dsimp only
theorem Jk(t:TypeId)(l c:Value):T P Z (Instr.makeSlice t l c):=by
 unfold Instr.makeSlice
 refine tb (cu _) fun d=>?_
 repeat' with_reducible first
  | exact av _
  | exact au _
  | refine tb (av _) fun _=>?_
  | refine tb (pG _) fun _=>?_
  | refine tb (dH _) fun _=>?_
  | refine tb (aF _) fun _=>?_
  | refine tb (dN _) fun _=>?_
  | refine tb (Dx _) fun _=>?_
  | refine tb (bY _) fun _=>?_
  | refine tb (dA _) fun _=>?_
  | refine tb (tT _ _) fun _=>?_
  | split
  | dsimp only
theorem QI(v:Value)(i:Nat):T P Z (Instr.extract v i):=by
 unfold Instr.extract
 split
 ·split
  ·exact av _
  ·exact au _
 ·exact au _
theorem wG(t:TypeId)(x:Value):T P Z (Instr.makeInterface t x):=tb (cu _) fun d=>by
 split
 ·exact au _
 ·exact av _
theorem Tm.ite{α:Type}{Q:α→Prop}{c:Prop}[Decidable c]{a b:Sem α}(h1:Tm P Z Q a)(h2:Tm P Z Q b):Tm P Z Q (if c then a else b):=by
 split
 ·exact h1
 ·exact h2
theorem dJ{α:Type}{s:Sem α}(h:Dm P s):Bd P Z s:=h.bd
theorem ZW(t:TypeId)(x:Value):T P Z (Instr.range t x):=by
 unfold Instr.range
 refine tb (cu _) fun d=>?_
 have fin:∀it,Plain Z it→T P Z (do pure (.pointer (some ⟨← newObj it,0,none⟩)):Sem Value):=fun it h=>tb (l9 h) fun _=>av _
 split
 ·exact tq (Q:=Plain Z) (by exact zT) fun it h=>fin it h
 ·exact tq (Q:=Plain Z) (by exact zT) fun it h=>fin it h
 ·refine bE (fun hz o ho=>?_) fun hz=>dJ (by exact zT)
  split
  ·exact tq (Q:=Plain Z) (by exact zT) fun it h=>fin it h
  ·exact tq (Q:=Plain Z) (au _) fun it h=>fin it h
 ·exact tq (Q:=Plain Z) (au _) fun it h=>fin it h
theorem ot(it:Value)(s:Bool)(t:TypeId):T P Z (Instr.next it s t):=by
 unfold Instr.next
 dsimp only
 split
 ·rename_i r _
  refine bE (fun hz o ho=>?_) fun hz=>dJ (by exact zT)
  split
  ·split
   ·exact dB hz trivial (av _)
   ·exact av _
  ·exact av _
  ·refine bE (fun hz2 o2 ho2=>?_) fun hz=>dJ (by exact zT)
   have fin:∀ (n:Nat) (c:Array (Option MapEntry)) (m since clock:Nat) (seen:Array Nat),T P Z (match c[n]? with
    | some (some e)=>do
      setObj r (.mapIter (some m) since (seen.push e.born) clock)
      pure (.tuple #[.bool true,e.key,e.val])
    | some none=>pure (.tuple #[.bool false])
    | none=>stuck sQ8:Sem Value):=fun n c m since clock seen=>by
    split
    ·exact dB hz trivial (av _)
    ·exact av _
    ·exact au _
   cases o2 <;> first|exact au _|skip
   dsimp only
   refine Tm.ite ?_ ?_
   ·exact tb (vR _) fun _=>tb (dN _) fun n=>fin _ _ _ _ _ _
   ·exact tb (dN _) fun n=>fin _ _ _ _ _ _
  ·exact au _
 ·exact au _
theorem VU(hg:P.globals.size=0){t:TypeId}(ht:∀k e,P.underlying t=some (.map k e)→Jy P 10000 k=true)(x i:Value)(ok:Bool):T P Z (Instr.lookup t x i ok):=by
 unfold Instr.lookup
 refine tq (bU _) fun d hd=>?_
 cases d with
 | map k e=>
   dsimp only
   have hk:=ht k e hd
   repeat' with_reducible first
    | exact av _
    | exact au _
    | exact Tf _
    | refine tb (av _) fun _=>?_
    | refine tb (au _) fun _=>?_
    | refine tb (jY _ _ _ _) fun _=>?_
    | refine tb (pJ hg hk _ _) fun _=>?_
    | refine tb (dA _) fun _=>?_
    | (refine bE (fun hz o ho=>?_) fun hz=>?_
       rotate_left
       ·with_unfolding_all (refine dJ ?_;exact zT))
    | split
    | dsimp only
 | _=>exact au _
theorem oD(a b:Value):T P Z (Instr.keyThatStays a b):=by
 unfold Instr.keyThatStays
 split
 ·exact av _
 ·exact tb (dN _) fun _=>av _
theorem vQ(hg:P.globals.size=0){t:TypeId}(ht:∀k e,P.underlying t=some (.map k e)→Jy P 10000 k=true)(m k v:Value):T P Z (Instr.mapUpdate t m k v):=by
 unfold Instr.mapUpdate
 refine tq (bU _) fun d hd=>?_
 split
 ·rename_i kt e
  split
  ·exact aF _
  ·refine bE (fun hz o ho=>?_) fun hz=>dJ (by exact zT)
   split
   ·refine tb (jY _ _ _ _) fun _=>tb (pJ hg (ht kt e hd) _ _) fun r=>?_
    split
    ·exact tb (oD _ _) fun _=>Af hz trivial
    ·exact Af hz trivial
   ·exact au _
  ·exact au _
 ·exact au _
theorem Mf(hg:P.globals.size=0){t:TypeId}(ht:∀k e,P.underlying t=some (.map k e)→Jy P 10000 k=true)(m k:Value):T P Z (Instr.mapEntry t m k):=by
 unfold Instr.mapEntry
 refine tq (bU _) fun d hd=>?_
 split
 ·rename_i kt e
  split
  ·exact aF _
  ·refine bE (fun hz o ho=>?_) fun hz=>dJ (by exact zT)
   split
   ·refine tb (jY _ _ _ _) fun _=>tb (pJ hg (ht kt e hd) _ _) fun r=>?_
    split
    ·exact tb (oD _ _) fun _=>dB hz trivial (av _)
    ·exact tb (dA _) fun _=>dB hz trivial (av _)
   ·exact au _
  ·exact au _
 ·exact au _
theorem Fe(t:TypeId)(m s v:Value):T P Z (Instr.entryStore t m s v):=by
 unfold Instr.entryStore
 split
 ·refine bE (fun hz o ho=>?_) fun hz=>dJ (by exact zT)
  split
  ·refine tb (pG _) fun b=>?_
   split
   ·exact Af hz trivial
   ·exact vR _
  ·exact au _
 ·exact au _
theorem CE(ts:Array TypeId)(t:TypeId)(args:Array Value):T P Z (Builtin.len_ ts t args):=by
 unfold Builtin.len_
 split
 ·refine tb (cu _) fun d=>?_
  split
  ·exact av _
  ·exact av _
  ·refine tb (cu _) fun d=>?_
   split
   ·exact av _
   ·exact au _
  ·exact av _
  ·exact av _
  ·exact av _
  ·refine bE (fun hz o ho=>?_) fun hz=>dJ (by exact zT)
   split
   ·exact av _
   ·exact au _
  ·refine bE (fun hz o ho=>?_) fun hz=>dJ (by exact zT)
   split
   ·exact av _
   ·exact au _
  ·exact au _
 ·exact au _
theorem Cs(ts:Array TypeId)(t:TypeId)(args:Array Value):T P Z (Builtin.cap_ ts t args):=by
 unfold Builtin.cap_
 split
 ·refine tb (cu _) fun d=>?_
  split
  ·exact av _
  ·refine tb (cu _) fun d=>?_
   split
   ·exact av _
   ·exact au _
  ·exact av _
  ·exact av _
  ·refine bE (fun hz o ho=>?_) fun hz=>dJ (by exact zT)
   split
   ·exact av _
   ·exact au _
  ·exact au _
 ·exact au _
theorem NZ(v:Value):T P Z (Builtin.lenOf v):=by
 unfold Builtin.lenOf
 split <;> exact zT
theorem tQ(s n:Nat)(v:Value):T P Z (Builtin.firstCells s n v):=by
 unfold Builtin.firstCells
 split
 ·exact vP _ _
 ·exact av _
 ·exact av _
 ·exact au _
theorem ZO(ts:Array TypeId)(t:TypeId)(args:Array Value):T P Z (Builtin.close_ ts t args):=by
 obtain⟨l⟩:=args
 rcases l with _|⟨a,_|⟨b,l⟩⟩
 ·exact au _
 ·cases a with
  | chan c=>
    cases c with
    | none=>unfold Builtin.close_;exact aF _
    | some r=>
      unfold Builtin.close_
      dsimp only
      refine bE (fun hz o ho=>?_) fun hz=>dJ (by exact zT)
      cases o with
      | chan room buf closed sent received timer=>
        dsimp only
        refine Tm.ite ?_ ?_
        ·exact tb (aF _) fun _=>dB hz trivial (av _)
        ·exact dB hz trivial (av _)
      | _=>exact au _
  | _=>exact au _
 ·exact au _
theorem VL(hg:P.globals.size=0)(ts:Array TypeId)(t:TypeId)(args:Array Value)(ht:∀m k e,ts[0]? =some m→P.underlying m=some (.map k e)→Jy P 10000 k=true):T P Z (Builtin.delete_ ts t args):=by
 unfold Builtin.delete_
 cases h0:ts[0]? with
 | none=>exact au _
 | some mt=>
   cases h1:args[0]? with
   | none=>exact au _
   | some m=>
     cases h2:args[1]? with
     | none=>exact au _
     | some k=>
       dsimp only
       refine tq (bU _) fun d hd=>?_
       cases d with
       | map kt e=>
         dsimp only
         have hk:=ht mt kt e h0 hd
         split
         ·exact tb (jY _ _ _ _) fun _=>av _
         ·refine bE (fun hz o ho=>?_) fun hz=>dJ (by exact zT)
          cases o with
          | map es clock=>
            dsimp only
            refine tb (jY _ _ _ _) fun _=>tb (pJ hg hk _ _) fun r=>?_
            split
            ·exact dB hz trivial (av _)
            ·exact dB hz trivial (av _)
          | _=>exact tb (au _) fun _=>av _
         ·exact tb (au _) fun _=>av _
       | _=>exact au _
def Calm(P:Program){α:Type}(s:Sem α):Prop:=∀w es,∃a es',s.runT P w es=(.ok a w,es')
theorem Calm.bind{α β:Type}{s:Sem α}{f:α→Sem β}(h:Calm P s)(hf:∀a,Calm P (f a)):Calm P (s >>= f):=fun w es=>by
 obtain⟨a,es1,e⟩:=h w es
 obtain⟨b,es2,e2⟩:=hf a w es1
 refine⟨b,es2,?_⟩
 show(s.bind f).runT P w es=_
 rw[Sem.runT_bind',e]
 exact e2
theorem Calm.pure{α:Type}(a:α):Calm P (pure a:Sem α):=fun w es=>⟨a,es,rfl⟩
theorem Ki(r:Nat):Calm P (shape r):=fun w es=>⟨w.shape? r,es,rfl⟩
theorem Gj(a:Addr):Calm P (frozen a):=fun w es=>⟨w.frozen? a,es,rfl⟩
theorem xG(a:Addr)(n:Nat):Calm P (Builtin.holdsCells a n):=(Ki _).bind fun x=>by
 split <;> exact Calm.pure _
theorem Calm.bd{α β:Type}{s:Sem α}{f:α→Sem β}(h:Calm P s)(hf:∀a,Dm P (f a)):Bd P Z (s >>= f):=fun w es hl hg=>by
 obtain⟨a,es1,e⟩:=h w es
 have:(s >>= f).runT P w es=(f a).runT P w es1:=by
  show(s.bind f).runT P w es=_
  rw[Sem.runT_bind',e]
 rw[this] at hg
 exact(hf a).run _ _ hg
theorem Ad{β:Type}{R:β→Prop}(size sLen n:Nat)(base:Option Addr)(x:Value){g:Bool→Sem β}(h1:∀b,Dm P (g b))(h2:∀b,Tm P Z R (g b)):Tm P Z R (Builtin.mayShare size sLen n base x >>= g):=by
 have calm:Calm P (Builtin.mayShare size sLen n base x):=by
  unfold Builtin.mayShare
  have fin:∀b:Bool,Calm P (if (!b)=true then pure true else
   match x with
   | .slice (some c) _ _=>do pure (!(← Builtin.holdsCells c (n * size)) || base.any (·.block == c.block))
   | _=>pure false:Sem Bool):=fun b=>by
   split
   ·exact Calm.pure _
   ·split
    ·exact(xG _ _).bind fun _=>Calm.pure _
    ·exact Calm.pure _
  cases base with
  | none=>exact(Calm.pure _).bind fin
  | some a=>exact(xG _ _).bind fun _=>(Gj _).bind fun _=>(Calm.pure _).bind fin
 have all:Bd P Z (Builtin.mayShare size sLen n base x >>= g):=calm.bd h1
 cases base with
 | some a=>exact .inl all
 | none=>
   cases x with
   | slice b l c=>
     cases b with
     | some b=>exact .inl all
     | none=>exact h2 _
   | _=>exact h2 _
theorem ja{α β:Type}{R:β→Prop}(e:RuntimeError)(f:α→Sem β):Tm P Z R (runtimePanic e >>= f):=tq (Q:=fun _=>False) (aF e) fun _ h=>h.elim
theorem oN{α β:Type}{R:β→Prop}(m:String)(f:α→Sem β):Tm P Z R (stuck m >>= f):=trivial
theorem jb{α β:Type}{R:β→Prop}(m:String)(f:α→Sem β):Tm P Z R (unsupported (.resourceLimit m) >>= f):=trivial
theorem ud{α β:Type}(u:Unsupported)(f:α→Sem β):Dm P (unsupported u >>= f):=trivial
theorem PF{α:Type}(u:Unsupported):Dm P (unsupported u:Sem α):=trivial
theorem i7{β:Type}(m:Mark){f:Unit→Sem β}(h:Dm P (f ())):Dm P (mark m >>= f):=h
theorem aw{β:Type}{R:β→Prop}{f:Unit→Sem β}(h:Tm P Z R (f ())):Tm P Z R (mark .noRoom >>= f):=⟨rfl,h⟩
theorem VJ(ts:Array TypeId)(t:TypeId)(args:Array Value):T P Z (Builtin.append_ ts t args):=by
 unfold Builtin.append_
 repeat' with_reducible first
  | exact av _
  | exact au _
  | exact ja _ _
  | exact oN _ _
  | exact jb _ _
  | exact ud _ _
  | exact PF _
  | exact Wd _
  | refine i7 _ ?_
  | refine aw ?_
  | refine tb (av _) fun _=>?_
  | refine tb (cu _) fun _=>?_
  | refine tb (bY _) fun _=>?_
  | refine tb (pG _) fun _=>?_
  | refine tb (dH _) fun _=>?_
  | refine tb (dN _) fun _=>?_
  | refine tb (Dx _) fun _=>?_
  | refine tb (dA _) fun _=>?_
  | refine tb (tb (dA _) fun _=>av _) fun _=>?_
  | refine tb (tT _ _) fun _=>?_
  | refine tb (NZ _) fun _=>?_
  | refine tb (tQ _ _ _) fun _=>?_
  | refine tb (jF _ _ _) fun _=>?_
  | refine Tm.ite ?_ ?_
  | refine Ad _ _ _ _ _ (fun b=>?_) (fun b=>?_)
  | refine tq (Q:=fun _=>False) (Ad _ _ _ _ _ (fun b=>?_) (fun b=>?_)) fun _ h=>h.elim
  | split
  | dsimp only
theorem ob(ts:Array TypeId)(t:TypeId)(args:Array Value):T P Z (Builtin.copy_ ts t args):=by
 unfold Builtin.copy_
 repeat' with_reducible first
  | exact av _
  | exact au _
  | refine tb (av _) fun _=>?_
  | refine tb (cu _) fun _=>?_
  | refine tb (bY _) fun _=>?_
  | refine tb (NZ _) fun _=>?_
  | refine tb (tQ _ _ _) fun _=>?_
  | refine tb (jF _ _ _) fun _=>?_
  | split
  | dsimp only
theorem ZN(ts:Array TypeId)(t:TypeId)(args:Array Value):T P Z (Builtin.clear_ ts t args):=by
 unfold Builtin.clear_
 cases h0:ts[0]? with
 | none=>exact au _
 | some mt=>
   cases h1:args[0]? with
   | none=>exact au _
   | some m=>
     dsimp only
     refine tb (cu _) fun d=>?_
     repeat' with_reducible first
      | exact av _
      | exact oN _ _
      | refine tb (av _) fun _=>?_
      | refine tb (dA _) fun _=>?_
      | refine tb (jF _ _ _) fun _=>?_
      | refine dB (by assumption) (by with_unfolding_all exact zT) ?_
      | (refine bE (fun hz o ho=>?_) fun hz=>?_
         rotate_left
         ·with_unfolding_all (refine dJ ?_;exact zT))
      | split
      | dsimp only
theorem ni(op:BinOp)(k:IntKind)(x y:Int):T P Z (Op.intArith op k x y):=by unfold Op.intArith;split <;> exact zT
theorem Jj(op:BinOp)(k:IntKind)(x y:Int):T P Z (Op.intDiv op k x y):=by
 unfold Op.intDiv
 split
 ·exact aF _
 ·split <;> exact zT
theorem l8(op:BinOp)(k:IntKind)(x y:Int):T P Z (Op.intBits op k x y):=by unfold Op.intBits;dsimp only;split <;> exact zT
theorem VO(op:BinOp)(x y:Int):T P Z (Op.intCmp op x y):=by unfold Op.intCmp;split <;> exact zT
theorem Oa(op:BinOp)(k:IntKind)(x:Int)(yk:IntKind)(y:Int):T P Z (Op.shift op k x yk y):=by
 unfold Op.shift
 split
 ·exact aF _
 ·dsimp only;split <;> exact zT
theorem rF(op:BinOp)(x y:ByteArray):T P Z (Op.stringOp op x y):=by
 unfold Op.stringOp
 dsimp only
 split
 ·split <;> exact zT
 all_goals exact zT
theorem iB(op:BinOp)(k:FloatKind)(x y:Nat):T P Z (Op.floatArith op k x y):=by
 unfold Op.floatArith
 repeat' with_reducible first
  | exact av _
  | exact oN _ _
  | refine tb (av _) fun _=>?_
  | refine tb (dN _) fun _=>?_
  | split
  | dsimp only
theorem yZ(op:BinOp)(k:FloatKind)(x y:Nat):T P Z (Op.floatCmp op k x y):=by unfold Op.floatCmp;dsimp only;split <;> exact zT
theorem Aa(s:FloatKind)(x:Nat)(d:FloatKind):T P Z (Conv.floatToFloat s x d):=by
 unfold Conv.floatToFloat
 repeat' with_reducible first
  | exact av _
  | exact au _
  | exact oN _ _
  | refine tb (av _) fun _=>?_
  | refine tb (dN _) fun _=>?_
  | split
  | dsimp only
theorem oz(op:BinOp)(k:FloatKind)(x y:Nat):T P Z (Op.Complex.arith op k x y):=tb (iB _ _ _ _) fun _=>by split <;> exact zT
theorem VK(op:BinOp)(k:FloatKind)(x y:Nat):T P Z (Op.Complex.cmp op k x y):=tb (yZ _ _ _ _) fun _=>tN _
theorem ZM(s:FloatKind)(x:Nat)(d:FloatKind):T P Z (Op.Complex.conv s x d):=by
 unfold Op.Complex.conv
 split
 ·exact av _
 ·exact tb (Aa _ _ _) fun _=>by split <;> exact zT
theorem Ma(x y:Nat):T P Z (Op.Complex.add x y):=oz _ _ _ _
theorem Mc(x y:Nat):T P Z (Op.Complex.sub x y):=oz _ _ _ _
theorem jZ(x y:Nat):T P Z (Op.Complex.mul x y):=oz _ _ _ _
theorem oc(x y:Nat):T P Z (Op.Complex.quo x y):=oz _ _ _ _
theorem QM(a b c d:Nat):T P Z (Op.Complex.product a b c d):=
 tb (jZ _ _) fun _=>tb (jZ _ _) fun _=>tb (Mc _ _) fun _=>tb (jZ _ _) fun _=>tb (jZ _ _) fun _=>tb (Ma _ _) fun _=>av _
theorem Je(s a b c d:Nat):T P Z (Op.Complex.corrected s a b c d):=
 tb (jZ _ _) fun _=>tb (jZ _ _) fun _=>tb (Ma _ _) fun _=>tb (jZ _ _) fun _=>tb (jZ _ _) fun _=>tb (jZ _ _) fun _=>tb (Mc _ _) fun _=>tb (jZ _ _) fun _=>av _
theorem Mh(a b c d:Nat):T P Z (Op.Complex.quotient a b c d):=by
 unfold Op.Complex.quotient
 dsimp only
 repeat' with_reducible first
  | exact av _
  | exact Je _ _ _ _ _
  | refine tb (av _) fun _=>?_
  | refine tb (jZ _ _) fun _=>?_
  | refine tb (Ma _ _) fun _=>?_
  | refine tb (Mc _ _) fun _=>?_
  | refine tb (oc _ _) fun _=>?_
  | refine tb (VK _ _ _ _) fun _=>?_
  | refine Tm.ite ?_ ?_
  | split
  | dsimp only
theorem Jd(op:BinOp)(k:FloatKind)(a b c d:Nat):T P Z (Op.complexOp op k a b c d):=by
 unfold Op.complexOp
 repeat' with_reducible first
  | exact av _
  | exact au _
  | refine tb (av _) fun _=>?_
  | refine tb (oz _ _ _ _) fun _=>?_
  | refine tb (ZM _ _ _) fun _=>?_
  | refine tb (VK _ _ _ _) fun _=>?_
  | refine tb (QM _ _ _ _) fun _=>?_
  | refine tb (Mh _ _ _ _) fun _=>?_
  | refine Tm.ite ?_ ?_
  | split
  | dsimp only
theorem Z7(op:UnOp)(x:Value):T P Z (Op.unary op x):=by
 unfold Op.unary
 split
 ·exact ni _ _ _ _
 ·exact l8 _ _ _ _
 all_goals exact zT
theorem oe(x y:Value):T P Z (Builtin.min2 x y):=by
 unfold Builtin.min2
 repeat' with_reducible first
  | exact av _
  | exact au _
  | exact Fq
  | refine tb (dN _) fun _=>?_
  | refine tb (rF _ _ _) fun _=>?_
  | refine tb (tN _) fun _=>?_
  | split
theorem od(x y:Value):T P Z (Builtin.max2 x y):=by
 unfold Builtin.max2
 repeat' with_reducible first
  | exact av _
  | exact au _
  | exact Fq
  | refine tb (dN _) fun _=>?_
  | refine tb (rF _ _ _) fun _=>?_
  | refine tb (tN _) fun _=>?_
  | split
theorem CI(ts:Array TypeId)(t:TypeId)(args:Array Value):T P Z (Builtin.min_ ts t args):=by
 unfold Builtin.min_
 split
 ·exact au _
 ·exact Dy _ (fun b a=>oe b a) _
theorem CH(ts:Array TypeId)(t:TypeId)(args:Array Value):T P Z (Builtin.max_ ts t args):=by
 unfold Builtin.max_
 split
 ·exact au _
 ·exact Dy _ (fun b a=>od b a) _
theorem lZ(l:Nat):Tm P Z (fun r=>¬ Z l∧Z.loop r) (Instr.getLoop l):=by
 unfold Instr.getLoop
 refine bE (fun hz o ho=>?_) fun hz=>dJ (by exact zT)
 split
 ·exact⟨hz,ho⟩
 ·exact zT
theorem Jf(fn:FuncId)(tmps:Array Value)(ps:Array Tmp)(a b:Code)(r:Option Nat)(ha:Z.jr fn a)(hb:Z.jr fn b):Tm P Z (fun x=>∀d∈x.2,∃c,d.target=.collected c) (Instr.enterLoop fn tmps ps a b r):=by
 unfold Instr.enterLoop
 have hl:∀st d,Z.loop {state:=st,pending:=none,fn:=fn,tmps:=tmps,params:=ps,assign:=a,body:=b,defers:=d }:=fun st d=>⟨ha,hb,fun j e=>by cases e⟩
 cases r with
 | some l=>exact tq (lZ l) fun lp hz=>And.intro (hl _ _) fun _ _=>(by simp:∀d∈([]:List Deferred),∃c,d.target=.collected c)
 | none=>
   refine tb (l9 (by exact rfl)) fun r=>?_
   exact And.intro (hl _ _) fun _ _=>(by simp:∀d∈[({target:=.collected r,args:=#[] }:Deferred)],∃c,d.target=.collected c)
theorem ae(l:Nat)(args:Array Value):Tm P Z (fun n=>∃f tmps a b,n=.round l f tmps a b∧Z.jr f a∧Z.jr f b) (Instr.yield l args):=by
 unfold Instr.yield
 refine tq (lZ l) fun r hr=>?_
 dsimp only
 split
 ·exact zT
 ·exact⟨_,_,_,_,rfl,hr.2.1,hr.2.2.1⟩
theorem Fa(l:Nat):T P Z (Instr.beginRound l):=by
 unfold Instr.beginRound
 refine tq (lZ l) fun r hz=>dB hz.1 (by exact hz.2) ?_
 split
 ·exact av _
 all_goals exact aF _
theorem Md(l:Nat)(j:Option Code)(hj:∀c f c0,j=some c→Z.jr f c0→Z.jr f c):T P Z (Instr.endRound l j):=by
 unfold Instr.endRound
 exact tq (lZ l) fun r hz=>dB hz.1 ⟨hz.2.1,hz.2.2.1,fun c e=>hj c _ _ e hz.2.1⟩ (av _)
theorem QF(l:Nat):Tm P Z (fun j=>∀c,j=some c→∃f,Z.jr f c) (Instr.endLoop l):=by
 unfold Instr.endLoop
 refine tq (lZ l) fun r hz=>?_
 dsimp only
 refine Tm.ite ?_ ?_
 ·exact ja _ _
 ·exact dB hz.1 (by exact hz.2) (jG fun c e=>⟨_,hz.2.2.2 c e⟩)
theorem Ah(b:Nat):Tm P Z (fun ds=>ds=[]) (Instr.takeDeferred b):=by
 unfold Instr.takeDeferred
 refine bE (fun hz o ho=>?_) fun hz=>dJ (by exact zT)
 split
 ·exact dB hz trivial (jG ho)
 ·exact au _
theorem QO(fn:Func)(tmps:Array Value):T P Z (results fn tmps):=by
 unfold results
 refine tb (VW _ fun r=>?_) fun vs=>av _
 split
 ·exact av _
 ·exact tb (tL _) fun _=>pK _ _
theorem Gg{n:Addr}(h:Z n.block){w:World}(hl:Lv Z w)(es:Array Event):(behindNumber n).runT P w es=(.ok (n,false) w,es.push ⟨.obj n.block,false,false⟩):=by
 have e1:w.shape? n.block=none:=by simp[World.shape?,hl.dead _ h,X0]
 simp[behindNumber,numberAt,shape,getObj,bind,Sem.bind,Sem.runT,e1,hl.dead _ h,X0,pure,Obj.isChan,-Sem.runT_eq]
theorem DC{β:Type}{R:β→Prop}{n:Addr}{f:Addr × Bool→Sem β}(h:∀x,Tm P Z R (f x))(hd:Z n.block→Bd P Z (f (n,false))):Tm P Z R (behindNumber n >>= f):=by
 by_cases hz:Z n.block
 ·refine .inl ?_
  intro w es hl hg
  have e:(behindNumber n >>= f).runT P w es=(f (n,false)).runT P w (es.push ⟨.obj n.block,false,false⟩):=by
   show((behindNumber n).bind f).runT P w es=_
   rw[Sem.runT_bind',Gg hz hl]
  rw[show Sem.runT P (Sem.shape n.block _) w es=(behindNumber n >>= f).runT P w es from rfl,e] at hg
  exact hd hz w _ hl hg
 ·refine tb ?_ h
  refine tb (s:=numberAt n.block) ?_ fun _=>av _
  refine .inr ⟨fun _ x=>?_,fun hz2=>absurd hz2 hz⟩
  show Tm P Z _ (Sem.bind (Sem.pure x) _)
  cases x with
  | some x=>exact zT
  | none=>exact⟨fun _ o ho=>by cases o <;> first|exact zT|exact ho.elim,fun hz2=>absurd hz2 hz⟩
theorem xB(c:Addr)(w:World)(es:Array Event):(∃a es',(behindNumber c).runT P w es=(.ok a w,es'))∨∃m es',(behindNumber c).runT P w es=(.halt (.stuck m) w,es'):=by
 have e:behindNumber c=(do let x ← numberAt c.block;pure (x.getD (c,false))):=rfl
 rw[e]
 simp only[numberAt,shape,getObj,bind,Sem.bind,pure,Sem.runT]
 cases hs:w.shape? c.block with
 | some x=>exact .inl ⟨_,_,rfl⟩
 | none=>
   simp only[Option.isSome_none,Bool.false_eq_true,if_false,Sem.bind,Sem.runT]
   cases hh:w.heap[c.block]? with
   | none=>exact .inr ⟨_,_,rfl⟩
   | some o=>cases o <;> first|exact .inr ⟨_,_,rfl⟩|exact .inl ⟨_,_,rfl⟩
theorem il(a b:Addr)(f:Addr × Bool→Addr × Bool→Sem Value)(lost:∀x y,Dm P (f x y)):Bd P Z (do let x ← behindNumber a;let y ← behindNumber b;f x y):=by
 intro w es hl hg
 replace hg:fE (((behindNumber a).bind fun x=>(behindNumber b).bind fun y=>f x y).runT P w es).1:=hg
 rw[Sem.runT_bind'] at hg
 rcases xB (P:=P) a w es with⟨x,es1,e⟩|⟨m,es1,e⟩ <;> rw[e] at hg
 ·dsimp only at hg
  rw[Sem.runT_bind'] at hg
  rcases xB (P:=P) b w es1 with⟨y,es2,e⟩|⟨m,es2,e⟩ <;> rw[e] at hg
  ·exact(lost x y).run _ _ hg
  ·exact hg
 ·exact hg
theorem uc(hg:P.globals.size=0)(a b:Addr){β:Type}(f:Nat × Nat→Sem β):Dm P (Op.twoPlaces a b >>= f):=by
 show Dm P (Sem.bind (if (a.block != b.block || decide (a.block≥P.globals.size))=true then _ else _) f)
 rw[hg]
 simp only[ge_iff_le,Nat.zero_le,decide_true,Bool.or_true,if_true]
 exact zT
theorem oF(ts:Array TypeId)(t:TypeId)(args:Array Value):T P Z (Builtin.unsafeAdd_ ts t args):=by
 obtain⟨l⟩:=args
 rcases l with _|⟨a,_|⟨b,_|⟨c,l⟩⟩⟩
 ·exact au _
 ·cases a <;> exact au _
 ·cases a with
  | pointer p=>
    unfold Builtin.unsafeAdd_
    dsimp only
    refine tb (pG _) fun n=>?_
    have tail:∀p:Option Addr,T P Z (match p with
     | some a=>do
       let some (e,cells) ← shape a.block|unsupported (.unsafePointer "Add")
       let q ← program
       match cellAtBytes q q.depth e (cells / q.cellsOf e) a.off n with
       | some off=>pure (.pointer (some {a with off }))
       | none=>unsupported (.unsafePointer "Add")
     | none=>unsupported (.unsafePointer "Add"):Sem Value):=fun p=>by
     cases p with
     | none=>exact ov _
     | some a=>
       refine .inr ⟨fun _ x=>?_,fun hz=>dJ (by exact zT)⟩
       show Tm P Z _ (match x with|some (e,cells)=>_|_=>_)
       cases x with
       | none=>exact zT
       | some x=>
         dsimp only
         refine tb mg fun q=>?_
         split <;> exact zT
    refine Tm.ite ?_ ?_
    ·cases p with
     | none=>exact zT
     | some a=>
       dsimp only
       by_cases hz:Z a.block
       ·refine .inl fun w es hl hg=>?_
        have e1:w.shape? a.block=none:=by simp[World.shape?,hl.dead _ hz,X0]
        simp[getObj,bind,Sem.bind,Sem.runT,e1,hl.dead _ hz,X0,pure,unsupported,Obj.isChan,-Sem.runT_eq] at hg
        exact hg
       ·refine tb (Jl hz) fun x=>?_
        split <;> exact zT
    ·refine Tm.ite ?_ ?_
     ·exact zT
     ·cases p with
      | none=>exact zT
      | some a=>exact tail (some a)
  | _=>exact au _
 ·cases a <;> exact au _
theorem OB{r:Nat}(hz:Z r){β:Type}{f:Option (Addr × TypeId)→Sem β}(h:∀x,Dm P (f (some x))):Bd P Z (viewAt r >>= f):=by
 intro w es hl hg
 have e1:w.shape? r=none:=by simp[World.shape?,hl.dead _ hz,X0]
 have e:(viewAt r).runT P w es=(.ok (some (⟨r,0,none⟩,0)) w,es.push ⟨.obj r,false,false⟩):=by
  simp[viewAt,shape,getObj,bind,Sem.bind,Sem.runT,e1,hl.dead _ hz,X0,pure,Obj.isChan,-Sem.runT_eq]
 replace hg:fE (((viewAt r).bind f).runT P w es).1:=hg
 rw[Sem.runT_bind',e] at hg
 exact(h _).run _ _ hg
theorem Te{r:Nat}(hz:Z r){β:Type}{f:Option (TypeId × Nat)→Sem β}(h:Dm P (f none)):Bd P Z (shape r >>= f):=by
 intro w es hl hg
 have e1:w.shape? r=none:=by simp[World.shape?,hl.dead _ hz,X0]
 replace hg:fE ((Sem.shape r fun s=>(Sem.pure s).bind f).runT P w es).1:=hg
 simp only[Sem.runT,e1,Sem.bind] at hg
 exact h.run _ _ hg
theorem Td{α:Type}{c:Prop}[Decidable c]{a b:Sem α}(h1:Bd P Z a)(h2:Bd P Z b):Bd P Z (if c then a else b):=by
 split
 ·exact h1
 ·exact h2
theorem Ej{a:Addr}(hz:Z a.block)(ts:Array TypeId)(t:TypeId)(y:Value):Bd P Z (Builtin.unsafeAdd_ ts t #[.pointer (some a),y]):=by
 cases y with
 | int k n=>
   show Bd P Z (if n=0 then _ else if n<0 then _ else _)
   refine Td ?_ (Td ?_ ?_)
   ·exact OB hz fun x=>by exact zT
   ·exact dJ (by exact zT)
   ·exact Te hz (by exact zT)
 | pointer p=>cases p <;> exact dJ (by exact zT)
 | _=>exact dJ (by exact zT)
theorem qG(t:TypeId)(x y:Value):T P Z (movedNumber t x y):=by
 unfold movedNumber
 refine tb (cu t) fun d=>?_
 have tail:∀r:Sem Value,T P Z r→∀lost,T P Z (do match ← r with| .pointer (some b)=>asNumber b lost|v=>pure v:Sem Value):=fun r hr lost=>tb hr fun v=>by
  split
  ·exact tb (l9 (by exact zT)) fun _=>av _
  ·exact av _
 cases x with
 | pointer p=>
   cases p with
   | none=>dsimp only;exact Tm.ite (by exact zT) (oF _ _ _)
   | some n=>dsimp only;exact Tm.ite (by exact zT) (DC (fun x=>tail _ (oF _ _ _) _) fun hz=>(Ej hz _ _ _).bind _)
 | _=>dsimp only;exact Tm.ite (by exact zT) (oF _ _ _)
theorem QC(k:IntKind)(a:Addr)(n:Int):T P Z (Op.addrMod k a n):=by
 unfold Op.addrMod
 refine .inr ⟨fun _ x=>?_,fun hz=>dJ (by exact zT)⟩
 show Tm P Z _ (match x with|some (e,_)=>_|_=>_)
 cases x with
 | none=>exact zT
 | some x=>
   dsimp only
   refine tb (dH _) fun i=>?_
   split
   ·exact zT
   ·exact tb (yY _) fun _=>av _
theorem Ka{a:Addr}(hz:Z a.block)(k:IntKind)(n:Int):Bd P Z (Op.addrMod k a n):=by
 intro w es hl hg
 have e1:w.shape? a.block=none:=by simp[World.shape?,hl.dead _ hz,X0]
 simp[Op.addrMod,shape,bind,Sem.bind,Sem.runT,e1,unsupported,-Sem.runT_eq] at hg
 exact hg
theorem ZU(k:IntKind)(a:Addr)(n:Int):T P Z (do Op.addrMod k (← behindNumber a).1 n):=DC (fun x=>QC _ _ _) fun hz=>Ka hz _ _
theorem ZK(hg:P.globals.size=0)(op:BinOp)(t:TypeId)(x y:Value)(he:op=.eql∨op=.neq→Jy P 10000 t=true)(hu:P.underlying t≠some .unsafePointer):T P Z (binOp op t x y):=by
 unfold binOp
 split
 ·exact Oa _ _ _ _ _
 ·exact Oa _ _ _ _ _
 ·split
  ·exact au _
  ·split
   ·exact ni _ _ _ _
   ·exact ni _ _ _ _
   ·exact ni _ _ _ _
   ·exact Jj _ _ _ _
   ·exact Jj _ _ _ _
   ·exact l8 _ _ _ _
   ·exact l8 _ _ _ _
   ·exact l8 _ _ _ _
   ·exact l8 _ _ _ _
   ·exact VO _ _ _
 ·split
  ·exact au _
  ·split
   ·exact iB _ _ _ _
   ·exact iB _ _ _ _
   ·exact iB _ _ _ _
   ·exact iB _ _ _ _
   ·exact yZ _ _ _ _
 ·split
  ·exact au _
  ·exact Jd _ _ _ _ _ _
 ·exact rF _ _ _
 ·exact tb (Fg hg (he (.inl rfl)) _ _) fun _=>av _
 ·exact tb (Fg hg (he (.inr rfl)) _ _) fun _=>av _
 ·refine tq (bU t) fun d hd=>?_
  cases d <;> first|exact absurd hd hu|exact qG _ _ _
 all_goals first
  | exact qG _ _ _
  | exact ZU _ _ _
  | exact zT
  | exact .inl (il _ _ _ fun x y=>uc hg _ _ _)
end
end Go.dP
