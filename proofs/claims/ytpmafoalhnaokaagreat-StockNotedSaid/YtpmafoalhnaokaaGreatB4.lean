/- F0 -/
import Derived.Test.YtpmafoalhnaokaaGreatA1
import Derived.Test.YtpmafoalhnaokaaGreatB2
set_option maxRecDepth 100000
set_option maxHeartbeats 16000000
set_option linter.unusedVariables false
open Go.Proofs.Tryz
namespace Go.Proofs.YtpmafoalhnaokaaGreat
section
open Go
noncomputable def Hj(P:Program)(g:Nat):Bool:=match P.funcs[g]? with
 | some f=>(match f.body with
   | some c=>dP.dn P c
   | none=>false) && !(f.name == "runtime.NumGoroutine") && P.inits.toList.all fun k=>!(k == g)
 | none=>false
theorem df(g:Nat)(h:Hj prog g=true):(∃f c,Tryz.prog.funcs[g]? =some f∧f.body=some c∧(f.name == "runtime.NumGoroutine")=false∧dP.dn prog c=true)∧Tryz.prog.inits.idxOf? g=none:=by
 unfold Hj at h
 cases hf:Tryz.prog.funcs[g]? with
 | none=>rw[hf] at h;cases h
 | some f=>
   rw[hf] at h
   simp only[Bool.and_eq_true,Bool.not_eq_true'] at h
   obtain⟨⟨h1,h2⟩,h3⟩:=h
   cases hb:f.body with
   | none=>rw[hb] at h1;cases h1
   | some c=>
     rw[hb] at h1
     refine⟨⟨f,c,rfl,hb,h2,h1⟩,?_⟩
     rw[Array.idxOf?_eq_none_iff]
     intro hm
     have:=List.all_eq_true.1 h3 g (by simpa using hm)
     simp at this
theorem kn:((List.range 194).all fun g=>!lR g || Hj prog g)=true:=zk
theorem de{g:Nat}(h:FF.fn g):Hj prog g=true:=by
 have hlt:g<194:=by
  have h':=(qO g).1 h
  rcases h' with h'|h'|h'|h' <;> exact Nat.lt_of_lt_of_le h'.2 zD
 have:=List.all_eq_true.1 kn g (List.mem_range.2 hlt)
 rw[UL.1 h] at this
 simpa using this
theorem Nq:dP.gP prog FF.fn:=fun g h=>(df g (de h)).1
theorem lS{g:FuncId}(h:FF.fn g):Tryz.prog.inits.idxOf? g=none:=(df g (de h)).2
def wD:FuncId→Code→Prop:=fun f c=>FF.fn f∧dP.dn prog c=true
theorem LQ:(Tryz.prog.funcs.toList.all fun f=>match f.body with
 | some c=>(readies c).isEmpty
 | none=>true)=true:=zk
theorem YQ(g:Nat):Tryz.prog.stepOf g=none:=by
 unfold Program.stepOf
 rw[Array.findIdx?_eq_none_iff]
 intro f hf
 have:=List.all_eq_true.1 LQ f (by simpa using hf)
 cases hb:f.body with
 | none=>rfl
 | some c=>
   rw[hb] at this
   simp only at this
   simp_all
theorem EG(dead:Nat→Prop):dP.kH prog FF.fn ⟨dead,wD⟩:=by
 refine⟨zr,Nq,fun f c=>Iff.rfl,zr,YQ,fun f h=>lS h⟩
end
end Go.Proofs.YtpmafoalhnaokaaGreat
