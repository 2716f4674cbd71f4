/- F0 -/
import Derived.Test.YtmjjocnfidnelaaGreatA1
import Derived.Test.YtmjjocnfidnelaaGreatB9
set_option maxRecDepth 100000
set_option maxHeartbeats 16000000
set_option linter.unusedVariables false
set_option linter.unusedSectionVars false
open Go.Proofs.Tryz
namespace Go.Proofs.YtmjjocnfidnelaaGreat
section
open Go
noncomputable def yo(P:Program)(g:Nat):Bool:=match P.funcs[g]? with
 | some f=>(match f.body with
   | some c=>dU.dh P c
   | none=>false) && !(f.name == "runtime.NumGoroutine") && P.inits.toList.all fun k=>!(k == g)
 | none=>false
theorem ZY(g:Nat)(h:yo prog g=true):(∃f c,Tryz.prog.funcs[g]? =some f∧f.body=some c∧(f.name == "runtime.NumGoroutine")=false∧dU.dh prog c=true)∧Tryz.prog.inits.idxOf? g=none:=by
 unfold yo at h
 cases hf:Tryz.prog.funcs[g]? with
 | none=>rw[hf] at h;cases h
 | some f=>
   rw[hf] at h
   simp only[Bool.and_eq_true,Bool.not_eq_true'] at h
   obtain⟨⟨h1,h2⟩,h3⟩:=h
   cases hb:f.body with
   | none=>rw[hb] at h1;cases h1
   | some c=>
     rw[hb] at h1
     refine⟨⟨f,c,rfl,hb,h2,h1⟩,?_⟩
     rw[Array.idxOf?_eq_none_iff]
     intro hm
     have:=List.all_eq_true.1 h3 g (by simpa using hm)
     simp at this
theorem eR:((List.range 182).all fun g=>!gh g || yo prog g)=true:=zk
theorem ZX{g:Nat}(h:FF.fn g):yo prog g=true:=by
 have hlt:g<182:=by
  have h':=(qL g).1 h
  rcases h' with h'|h'|h'|h' <;> exact Nat.lt_of_lt_of_le h'.2 zD
 have:=List.all_eq_true.1 eR g (List.mem_range.2 hlt)
 rw[Tv.1 h] at this
 simpa using this
theorem L8:dU.gK prog FF.fn:=fun g h=>(ZY g (ZX h)).1
theorem xD{g:FuncId}(h:FF.fn g):Tryz.prog.inits.idxOf? g=none:=(ZY g (ZX h)).2
def vS:FuncId→Code→Prop:=fun f c=>FF.fn f∧dU.dh prog c=true
theorem Kz:(Tryz.prog.funcs.toList.all fun f=>match f.body with
 | some c=>(readies c).isEmpty
 | none=>true)=true:=zk
theorem XO(g:Nat):Tryz.prog.stepOf g=none:=by
 unfold Program.stepOf
 rw[Array.findIdx?_eq_none_iff]
 intro f hf
 have:=List.all_eq_true.1 Kz f (by simpa using hf)
 cases hb:f.body with
 | none=>rfl
 | some c=>
   rw[hb] at this
   simp only at this
   simp_all
theorem D8(dead:Nat→Prop):dU.kr prog FF.fn ⟨dead,vS⟩:=by
 refine⟨zr,L8,fun f c=>Iff.rfl,zr,XO,fun f h=>xD h⟩
end
end Go.Proofs.YtmjjocnfidnelaaGreat
