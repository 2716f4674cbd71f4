/- Z0 -/
import Derived.KernelRfl
import Derived.Below
import Derived.Lib.Hide
set_option maxRecDepth 100000
set_option maxHeartbeats 16000000
set_option linter.unusedVariables false
namespace Go
theorem zk {p:Prop} (h:p:=by kernel_rfl):p:=h
theorem zo {p:Prop} (h:p:=by omega):p:=h
theorem zs {p:Prop} (h:p:=by simp):p:=h
theorem zD {p:Prop} (h:p:=by decide):p:=h
theorem zr {p:Prop} (h:p:=by rfl):p:=h
theorem zm {p:Prop} (h:p:=by simp; omega):p:=h
theorem zF {p:Prop} (h:p:=by first | omega | (simp; done) | (simp; omega)):p:=h
theorem zt {p:Prop} (h:p:=by first | assumption | simp_all):p:=h
theorem zU {p:Prop} (h:p:=by unfold maxLen; omega):p:=h
theorem zn {p:Prop} (h:p:=by simp only; omega):p:=h
theorem zT:True:=True.intro
theorem zL{n:Nat}:n≤n:=Nat.le_refl n
theorem zB{B:Nat}{w:World}:RowKit.Below B w w:=RowKit.Below.refl B w
theorem zE.{u}{α:Sort u}{a:α}:∃x,x=a:=⟨a,rfl⟩
end Go
