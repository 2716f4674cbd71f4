/- Par25 -/
import Derived.Test.YtpmafoalhnaokaaGreatB1
set_option maxRecDepth 100000
set_option maxHeartbeats 16000000
set_option linter.unusedVariables false
set_option linter.unusedSectionVars false
namespace Go.bZ
section
variable[Inhabited aT]
variable{P:Program}
def iT:Nat→Value→Bool
 | 0,_=>false
 | n+1,v=>match v with
   | .bool _| .int _ _| .float _ _| .complex _ _ _| .string _| .pointer none| .slice none _ _| .map none| .chan none| .nilFunc| .nilIface=>true
   | .iface _ v=>iT n v
   | .agg x| .tuple x=>x.all (iT n)
   | .func (.func _) x y=>x.all (iT n) && y.all (iT n)
   | _=>false
theorem qo:∀ (n:Nat) {v:Value},iT n v=true→∀ρ,VR ρ v v:=by
 intro n
 induction n with
 | zero=>intro v h;simp[iT] at h
 | succ n ih=>
   intro v h ρ
   have arr:∀x:Array Value,x.all (iT n)=true→∀ (i:Nat) (h:i<x.size) (h':i<x.size),VR ρ x[i] x[i]:=fun x hx i h _=>ih (by rw[Array.all_eq_true] at hx;exact hx i h) ρ
   unfold iT at h
   split at h
   ·exact .bool _
   ·exact .int _ _
   ·exact .float _ _
   ·exact .complex _ _ _
   ·exact .string _
   ·exact .yD
   ·exact .yL _ _
   ·exact .YH
   ·exact .XP
   ·exact .nilFunc
   ·exact .nilIface
   ·exact .iface _ (ih h ρ)
   ·exact .agg rfl (arr _ h)
   ·exact .tuple rfl (arr _ h)
   ·rw[Bool.and_eq_true] at h
    exact .func _ rfl (arr _ h.1) rfl (arr _ h.2)
   ·cases h
def WQ(P:Program)(t:TypeId):Bool:=match P.info? t with
 | some i=>(match i.zero with|some z=>iT 30 z|none=>true)
 | none=>true
theorem nE{t:TypeId}(h:WQ P t=true):Ow P t:=by
 intro i z hi hz ρ
 unfold WQ at h
 rw[hi] at h
 simp only[hz] at h
 exact qo _ h ρ
def ND:Operand→Bool
 | .const v=>iT 30 v
 | .global _=>false
 | _=>true
theorem nZ{x:Operand}(h:ND x=true):qM x:=by
 cases x with
 | const v=>exact qo _ h
 | global g=>cases h
 | tmp t=>trivial
 | func f=>trivial
def Uy(P:Program)(t:TypeId):Bool:=match P.underlying t with
 | some (.int _)=>wQ P t && !P.eqGuardType P.depth t
 | _=>false
theorem Ig{t:TypeId}(h:Uy P t=true):D7 P t:=by
 unfold Uy at h
 split at h
 ·rename_i k hk
  simp only[Bool.and_eq_true,Bool.not_eq_true'] at h
  exact⟨⟨k,hk⟩,h.1,h.2⟩
 ·cases h
def SY(P:Program)(ts:Array TypeId):Bool:=
 (match ts[0]? with
  | some t=>(match P.underlying t with|some (.slice e)=>WQ P e|_=>true)
  | none=>true) &&
 match ts[1]? with
  | some t=>(match P.underlying t with|some (.int _)=>false|_=>true)
  | none=>true
theorem Gd{ts:Array TypeId}(h:SY P ts=true):Xd P ts:=by
 unfold SY at h
 rw[Bool.and_eq_true] at h
 refine⟨fun t e h1 h2=>?_,fun t k h1 h2=>?_⟩
 ·have:=h.1
  rw[h1] at this
  simp only[h2] at this
  exact nE this
 ·have:=h.2
  rw[h1] at this
  simp only[h2] at this
  cases this
def Ve(P:Program)(o:Oper):Bool:=o.op.operands.all ND &&
 match o.op with
 | .move _| .assign _| .pick _ _ _| .box _ _| .load _ _| .store _ _ _| .slice _ _ _ _ _| .fieldAddr _ _ _| .field _ _ _| .indexAddr _ _ _| .index _ _ _| .extract _ _| .makeInterface _ _| .panic _=>true
 | .alloc t| .build t _=>WQ P t
 | .buildSlice t _ _=>(match P.underlying t with|some (.slice e)=>WQ P e|_=>true)
 | .convert s d _=>(match P.underlying s,P.underlying d with|some (.int _),some (.int _)=>true|_,_=>false)
 | .binOp op t _ _ _=>bF op || Uy P t
 | .unOp op _ _=>(match op with| .not=>true|_=>false)
 | .makeFunc fn _ _=>(match fn with| .func _=>true|_=>false)
 | .call c=>(match c.callee with
   | .builtin .len=>c.args.size == 1
   | .builtin .min=>true
   | .builtin .append=>c.args.size == 2 && SY P c.argTypes
   | .value _=>true
   | _=>false)
 | _=>false
theorem IB{o:Oper}(h:Ve P o=true):qL P o:=by
 unfold Ve at h
 rw[Bool.and_eq_true] at h
 obtain⟨h1,h2⟩:=h
 refine⟨fun x hx=>?_,?_⟩
 ·rw[Array.all_eq_true] at h1
  obtain⟨i,hi,rfl⟩:=Array.mem_iff_getElem.1 hx
  exact nZ (h1 i hi)
 ·cases hop:o.op <;> rw[hop] at h2 <;> simp only at h2⊢
  all_goals first|(cases h2;done)|trivial|skip
  case alloc=>exact nE h2
  case build=>exact nE h2
  case buildSlice t _ _=>
   intro e he
   rw[he] at h2
   exact nE h2
  case convert s d _=>
   split at h2
   ·rename_i a b ha hb;exact⟨⟨_,ha⟩,⟨_,hb⟩⟩
   ·cases h2
  case binOp=>rw[Bool.or_eq_true] at h2;exact h2.imp id Ig
  case unOp op _ _=>cases op <;> first|rfl|cases h2
  case makeFunc fn _ _=>cases fn <;> first|exact⟨_,rfl⟩|cases h2
  case call c=>
   cases hc:c.callee with
   | invoke r n=>rw[hc] at h2;cases h2
   | value f=>trivial
   | builtin b=>
     rw[hc] at h2
     cases b <;> simp only at h2 <;> first|(cases h2;done)|skip
     ·rw[Bool.and_eq_true] at h2
      exact .inr (.inr ⟨rfl,by simpa using h2.1,Gd h2.2⟩)
     ·exact .inl ⟨rfl,by simpa using h2⟩
     ·exact .inr (.inl rfl)
def kL(P:Program):Code→Bool
 | .skip| .exit _| .ret| .label _| .refuse _=>true
 | .region _ ops _=>ops.all (Ve P)
 | .seq a b=>kL P a && kL P b
 | .cond c a b=>ND c && kL P a && kL P b
 | .block _ b| .loop b| .scope b=>kL P b
 | .rangeFunc f _ a b=>ND f && kL P a && kL P b
 | .goto _=>false
theorem Gy:∀ {c:Code},kL P c=true→gW P c:=by
 intro c
 induction c with
 | region id ops d=>
   intro h o ho
   simp only[kL,Array.all_eq_true] at h
   obtain⟨i,hi,rfl⟩:=Array.mem_iff_getElem.1 ho
   exact IB (h i hi)
 | seq a b ha hb=>intro h;simp only[kL,Bool.and_eq_true] at h;exact⟨ha h.1,hb h.2⟩
 | cond x a b ha hb=>intro h;simp only[kL,Bool.and_eq_true] at h;exact⟨nZ h.1.1,ha h.1.2,hb h.2⟩
 | block i b hb=>intro h;exact hb h
 | loop b hb=>intro h;exact hb h
 | scope b hb=>intro h;exact hb h
 | rangeFunc f ps a b ha hb=>intro h;simp only[kL,Bool.and_eq_true] at h;exact⟨nZ h.1.1,ha h.1.2,hb h.2⟩
 | goto l=>intro h;simp[kL] at h
 | _=>intro _;trivial
def Gr(P:Program)(g:FuncId):Bool:=match P.funcs[g]? with
 | some f=>(match f.body with|some c=>!(f.name == "runtime.NumGoroutine") && kL P c|none=>false)
 | none=>false
theorem Yb{L:List FuncId}(h:L.all (Gr P)=true):∀g,g∈L→∃f c,P.funcs[g]? =some f∧f.body=some c∧(f.name == "runtime.NumGoroutine")=false∧gW P c:=by
 intro g hg
 have:=List.all_eq_true.1 h g hg
 unfold Gr at this
 cases hf:P.funcs[g]? with
 | none=>rw[hf] at this;cases this
 | some f=>
   rw[hf] at this
   simp only at this
   cases hb:f.body with
   | none=>rw[hb] at this;cases this
   | some c=>
     rw[hb] at this
     simp only[Bool.and_eq_true,Bool.not_eq_true'] at this
     exact⟨f,c,rfl,hb,this.1,Gy this.2⟩
abbrev GI(P:Program)(L:List FuncId):Inhabited aT:=⟨⟨fun f c=>f∈L∧gW P c⟩⟩
theorem Ya{L:List FuncId}(h:L.all (Gr P)=true):@gV (GI P L) P (· ∈L):=@gV.mk (GI P L) P (· ∈L) (Yb h) (fun _ _=>Iff.rfl)
end
end Go.bZ
