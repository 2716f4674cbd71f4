/- F0 -/
import Derived.Test.YtoldgagdgjilgaaGreatA1
import Derived.Test.YtoldgagdgjilgaaGreatD2
set_option maxRecDepth 100000
set_option maxHeartbeats 16000000
set_option linter.unusedVariables false
set_option linter.unusedSectionVars false
open Go.Proofs.Tryz
namespace Go.Proofs.YtoldgagdgjilgaaGreat
section
open Go
noncomputable def q7(P:Program)(g:Nat):Bool:=match P.funcs[g]? with
 | some f=>(match f.body with
   | some c=>dJ.bY P c
   | none=>false) && !(f.name == "runtime.NumGoroutine") && P.inits.toList.all fun k=>!(k == g)
 | none=>false
theorem Yg(g:Nat)(h:q7 prog g=true):(∃f c,Tryz.prog.funcs[g]? =some f∧f.body=some c∧(f.name == "runtime.NumGoroutine")=false∧dJ.bY prog c=true)∧Tryz.prog.inits.idxOf? g=none:=by
 unfold q7 at h
 cases hf:Tryz.prog.funcs[g]? with
 | none=>rw[hf] at h;cases h
 | some f=>
   rw[hf] at h
   simp only[Bool.and_eq_true,Bool.not_eq_true'] at h
   obtain⟨⟨h1,h2⟩,h3⟩:=h
   cases hb:f.body with
   | none=>rw[hb] at h1;cases h1
   | some c=>
     rw[hb] at h1
     refine⟨⟨f,c,rfl,hb,h2,h1⟩,?_⟩
     rw[Array.idxOf?_eq_none_iff]
     intro hm
     have:=List.all_eq_true.1 h3 g (by simpa using hm)
     simp at this
theorem ZO:((List.range 178).all fun g=>!a7 g || q7 prog g)=true:=zk
theorem Yf{g:Nat}(h:FF.fn g):q7 prog g=true:=by
 have hlt:g<178:=by
  have h':=(pI g).1 h
  rcases h' with h'|h'|h'|h' <;> exact Nat.lt_of_lt_of_le h'.2 zD
 have:=List.all_eq_true.1 ZO g (List.mem_range.2 hlt)
 rw[Ro.1 h] at this
 simpa using this
theorem Kv:dJ.gu prog FF.fn:=fun g h=>(Yg g (Yf h)).1
theorem vP{g:FuncId}(h:FF.fn g):Tryz.prog.inits.idxOf? g=none:=(Yg g (Yf h)).2
def uH:FuncId→Code→Prop:=fun f c=>FF.fn f∧dJ.bY prog c=true
theorem Jp:(Tryz.prog.funcs.toList.all fun f=>match f.body with
 | some c=>(readies c).isEmpty
 | none=>true)=true:=zk
theorem VJ(g:Nat):Tryz.prog.stepOf g=none:=by
 unfold Program.stepOf
 rw[Array.findIdx?_eq_none_iff]
 intro f hf
 have:=List.all_eq_true.1 Jp f (by simpa using hf)
 cases hb:f.body with
 | none=>rfl
 | some c=>
   rw[hb] at this
   simp only at this
   simp_all
theorem CG(dead:Nat→Prop):dJ.jP prog FF.fn ⟨dead,uH⟩:=by
 refine⟨zr,Kv,fun f c=>Iff.rfl,zr,VJ,fun f h=>vP h⟩
end
end Go.Proofs.YtoldgagdgjilgaaGreat
