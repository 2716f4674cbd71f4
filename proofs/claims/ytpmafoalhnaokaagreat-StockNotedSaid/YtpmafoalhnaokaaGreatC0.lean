/- Par25 -/
import Derived.Test.YtpmafoalhnaokaaGreatA7
set_option maxRecDepth 100000
set_option maxHeartbeats 16000000
set_option linter.unusedVariables false
set_option linter.unusedSectionVars false
namespace Go.cu
section
variable[Inhabited aV]
variable{P:Program}
def iV:Nat→Value→Bool
 | 0,_=>false
 | n+1,v=>match v with
   | .bool _| .int _ _| .float _ _| .complex _ _ _| .string _| .pointer none| .slice none _ _| .map none| .chan none| .nilFunc| .nilIface=>true
   | .iface _ v=>iV n v
   | .agg x| .tuple x=>x.all (iV n)
   | .func (.func _) x y=>x.all (iV n) && y.all (iV n)
   | _=>false
theorem qj:∀ (n:Nat) {v:Value},iV n v=true→∀ρ,VR ρ v v:=by
 intro n
 induction n with
 | zero=>intro v h;simp[iV] at h
 | succ n ih=>
   intro v h ρ
   have arr:∀x:Array Value,x.all (iV n)=true→∀ (i:Nat) (h:i<x.size) (h':i<x.size),VR ρ x[i] x[i]:=fun x hx i h _=>ih (by rw[Array.all_eq_true] at hx;exact hx i h) ρ
   unfold iV at h
   split at h
   ·exact .bool _
   ·exact .int _ _
   ·exact .float _ _
   ·exact .complex _ _ _
   ·exact .string _
   ·exact .yL
   ·exact .yU _ _
   ·exact .YO
   ·exact .Yb
   ·exact .nilFunc
   ·exact .nilIface
   ·exact .iface _ (ih h ρ)
   ·exact .agg rfl (arr _ h)
   ·exact .tuple rfl (arr _ h)
   ·rw[Bool.and_eq_true] at h
    exact .func _ rfl (arr _ h.1) rfl (arr _ h.2)
   ·cases h
def Xd(P:Program)(t:TypeId):Bool:=match P.info? t with
 | some i=>(match i.zero with|some z=>iV 30 z|none=>true)
 | none=>true
theorem nI{t:TypeId}(h:Xd P t=true):OV P t:=by
 intro i z hi hz ρ
 unfold Xd at h
 rw[hi] at h
 simp only[hz] at h
 exact qj _ h ρ
def Oh:Operand→Bool
 | .const v=>iV 30 v
 | .global _=>false
 | _=>true
theorem og{x:Operand}(h:Oh x=true):qI x:=by
 cases x with
 | const v=>exact qj _ h
 | global g=>cases h
 | tmp t=>trivial
 | func f=>trivial
def UN(P:Program)(t:TypeId):Bool:=match P.underlying t with
 | some (.int _)=>wR P t && !P.eqGuardType P.depth t
 | _=>false
theorem Iz{t:TypeId}(h:UN P t=true):Ej P t:=by
 unfold UN at h
 split at h
 ·rename_i k hk
  simp only[Bool.and_eq_true,Bool.not_eq_true'] at h
  exact⟨⟨k,hk⟩,h.1,h.2⟩
 ·cases h
def Tt(P:Program)(ts:Array TypeId):Bool:=
 (match ts[0]? with
  | some t=>(match P.underlying t with|some (.slice e)=>Xd P e|_=>true)
  | none=>true) &&
 match ts[1]? with
  | some t=>(match P.underlying t with|some (.int _)=>false|_=>true)
  | none=>true
theorem Gx{ts:Array TypeId}(h:Tt P ts=true):Xp P ts:=by
 unfold Tt at h
 rw[Bool.and_eq_true] at h
 refine⟨fun t e h1 h2=>?_,fun t k h1 h2=>?_⟩
 ·have:=h.1
  rw[h1] at this
  simp only[h2] at this
  exact nI this
 ·have:=h.2
  rw[h1] at this
  simp only[h2] at this
  cases this
def Vs(P:Program)(o:Oper):Bool:=o.op.operands.all Oh &&
 match o.op with
 | .move _| .assign _| .pick _ _ _| .box _ _| .load _ _| .store _ _ _| .slice _ _ _ _ _| .fieldAddr _ _ _| .field _ _ _| .indexAddr _ _ _| .index _ _ _| .extract _ _| .makeInterface _ _| .panic _=>true
 | .alloc t| .build t _=>Xd P t
 | .buildSlice t _ _=>(match P.underlying t with|some (.slice e)=>Xd P e|_=>true)
 | .convert s d _=>(match P.underlying s,P.underlying d with|some (.int _),some (.int _)=>true|_,_=>false)
 | .binOp op t _ _ _=>bI op || UN P t
 | .unOp op _ _=>(match op with| .not=>true|_=>false)
 | .makeFunc fn _ _=>(match fn with| .func _=>true|_=>false)
 | .call c=>(match c.callee with
   | .builtin .len=>c.args.size == 1
   | .builtin .min=>true
   | .builtin .append=>c.args.size == 2 && Tt P c.argTypes
   | .value _=>true
   | _=>false)
 | _=>false
theorem I4{o:Oper}(h:Vs P o=true):qH P o:=by
 unfold Vs at h
 rw[Bool.and_eq_true] at h
 obtain⟨h1,h2⟩:=h
 refine⟨fun x hx=>?_,?_⟩
 ·rw[Array.all_eq_true] at h1
  obtain⟨i,hi,rfl⟩:=Array.mem_iff_getElem.1 hx
  exact og (h1 i hi)
 ·cases hop:o.op <;> rw[hop] at h2 <;> simp only at h2⊢
  all_goals first|(cases h2;done)|trivial|skip
  case alloc=>exact nI h2
  case build=>exact nI h2
  case buildSlice t _ _=>
   intro e he
   rw[he] at h2
   exact nI h2
  case convert s d _=>
   split at h2
   ·rename_i a b ha hb;exact⟨⟨_,ha⟩,⟨_,hb⟩⟩
   ·cases h2
  case binOp=>rw[Bool.or_eq_true] at h2;exact h2.imp id Iz
  case unOp op _ _=>cases op <;> first|rfl|cases h2
  case makeFunc fn _ _=>cases fn <;> first|exact⟨_,rfl⟩|cases h2
  case call c=>
   cases hc:c.callee with
   | invoke r n=>rw[hc] at h2;cases h2
   | value f=>trivial
   | builtin b=>
     rw[hc] at h2
     cases b <;> simp only at h2 <;> first|(cases h2;done)|skip
     ·rw[Bool.and_eq_true] at h2
      exact .inr (.inr ⟨rfl,by simpa using h2.1,Gx h2.2⟩)
     ·exact .inl ⟨rfl,by simpa using h2⟩
     ·exact .inr (.inl rfl)
def kN(P:Program):Code→Bool
 | .skip| .exit _| .ret| .label _| .refuse _=>true
 | .region _ ops _=>ops.all (Vs P)
 | .seq a b=>kN P a && kN P b
 | .cond c a b=>Oh c && kN P a && kN P b
 | .block _ b| .loop b| .scope b=>kN P b
 | .rangeFunc f _ a b=>Oh f && kN P a && kN P b
 | .goto _=>false
theorem He:∀ {c:Code},kN P c=true→gU P c:=by
 intro c
 induction c with
 | region id ops d=>
   intro h o ho
   simp only[kN,Array.all_eq_true] at h
   obtain⟨i,hi,rfl⟩:=Array.mem_iff_getElem.1 ho
   exact I4 (h i hi)
 | seq a b ha hb=>intro h;simp only[kN,Bool.and_eq_true] at h;exact⟨ha h.1,hb h.2⟩
 | cond x a b ha hb=>intro h;simp only[kN,Bool.and_eq_true] at h;exact⟨og h.1.1,ha h.1.2,hb h.2⟩
 | block i b hb=>intro h;exact hb h
 | loop b hb=>intro h;exact hb h
 | scope b hb=>intro h;exact hb h
 | rangeFunc f ps a b ha hb=>intro h;simp only[kN,Bool.and_eq_true] at h;exact⟨og h.1.1,ha h.1.2,hb h.2⟩
 | goto l=>intro h;simp[kN] at h
 | _=>intro _;trivial
def Hk(P:Program)(g:FuncId):Bool:=match P.funcs[g]? with
 | some f=>(match f.body with|some c=>!(f.name == "runtime.NumGoroutine") && kN P c|none=>false)
 | none=>false
theorem Yl{L:List FuncId}(h:L.all (Hk P)=true):∀g,g∈L→∃f c,P.funcs[g]? =some f∧f.body=some c∧(f.name == "runtime.NumGoroutine")=false∧gU P c:=by
 intro g hg
 have:=List.all_eq_true.1 h g hg
 unfold Hk at this
 cases hf:P.funcs[g]? with
 | none=>rw[hf] at this;cases this
 | some f=>
   rw[hf] at this
   simp only at this
   cases hb:f.body with
   | none=>rw[hb] at this;cases this
   | some c=>
     rw[hb] at this
     simp only[Bool.and_eq_true,Bool.not_eq_true'] at this
     exact⟨f,c,rfl,hb,this.1,He this.2⟩
abbrev Hz(P:Program)(L:List FuncId):Inhabited aV:=⟨⟨fun f c=>f∈L∧gU P c⟩⟩
theorem Yk{L:List FuncId}(h:L.all (Hk P)=true):@gP (Hz P L) P (· ∈L):=@gP.mk (Hz P L) P (· ∈L) (Yl h) (fun _ _=>Iff.rfl)
end
end Go.cu
