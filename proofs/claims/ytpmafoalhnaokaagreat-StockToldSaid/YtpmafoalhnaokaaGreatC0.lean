/- F0 -/
import Derived.Test.YtpmafoalhnaokaaGreatA1
import Derived.Test.YtpmafoalhnaokaaGreatB8
set_option maxRecDepth 100000
set_option maxHeartbeats 16000000
set_option linter.unusedVariables false
set_option linter.unusedSectionVars false
open Go.Proofs.Tryz
namespace Go.Proofs.YtpmafoalhnaokaaGreat
section
open Go
noncomputable def Gk(P:Program)(g:Nat):Bool:=match P.funcs[g]? with
 | some f=>(match f.body with
   | some c=>dP.cZ P c
   | none=>false) && !(f.name == "runtime.NumGoroutine") && P.inits.toList.all fun k=>!(k == g)
 | none=>false
theorem da(g:Nat)(h:Gk prog g=true):(∃f c,Tryz.prog.funcs[g]? =some f∧f.body=some c∧(f.name == "runtime.NumGoroutine")=false∧dP.cZ prog c=true)∧Tryz.prog.inits.idxOf? g=none:=by
 unfold Gk at h
 cases hf:Tryz.prog.funcs[g]? with
 | none=>rw[hf] at h;cases h
 | some f=>
   rw[hf] at h
   simp only[Bool.and_eq_true,Bool.not_eq_true'] at h
   obtain⟨⟨h1,h2⟩,h3⟩:=h
   cases hb:f.body with
   | none=>rw[hb] at h1;cases h1
   | some c=>
     rw[hb] at h1
     refine⟨⟨f,c,rfl,hb,h2,h1⟩,?_⟩
     rw[Array.idxOf?_eq_none_iff]
     intro hm
     have:=List.all_eq_true.1 h3 g (by simpa using hm)
     simp at this
theorem ju:((List.range 194).all fun g=>!lE g || Gk prog g)=true:=zk
theorem cY{g:Nat}(h:FF.fn g):Gk prog g=true:=by
 have hlt:g<194:=by
  have h':=(qU g).1 h
  rcases h' with h'|h'|h'|h' <;> exact Nat.lt_of_lt_of_le h'.2 zD
 have:=List.all_eq_true.1 ju g (List.mem_range.2 hlt)
 rw[Uw.1 h] at this
 simpa using this
theorem MS:dP.gV prog FF.fn:=fun g h=>(da g (cY h)).1
theorem lQ{g:FuncId}(h:FF.fn g):Tryz.prog.inits.idxOf? g=none:=(da g (cY h)).2
def wE:FuncId→Code→Prop:=fun f c=>FF.fn f∧dP.cZ prog c=true
theorem Lu:(Tryz.prog.funcs.toList.all fun f=>match f.body with
 | some c=>(readies c).isEmpty
 | none=>true)=true:=zk
theorem YJ(g:Nat):Tryz.prog.stepOf g=none:=by
 unfold Program.stepOf
 rw[Array.findIdx?_eq_none_iff]
 intro f hf
 have:=List.all_eq_true.1 Lu f (by simpa using hf)
 cases hb:f.body with
 | none=>rfl
 | some c=>
   rw[hb] at this
   simp only at this
   simp_all
theorem Eu(dead:Nat→Prop):dP.kE prog FF.fn ⟨dead,wE⟩:=by
 refine⟨zr,MS,fun f c=>Iff.rfl,zr,YJ,fun f h=>lQ h⟩
end
end Go.Proofs.YtpmafoalhnaokaaGreat
