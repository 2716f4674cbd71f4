/- F0 -/
import Derived.Test.YthaelabgfnnebaaGreatA1
import Derived.Test.YthaelabgfnnebaaGreatD2
set_option maxRecDepth 100000
set_option maxHeartbeats 16000000
set_option linter.unusedVariables false
set_option linter.unusedSectionVars false
open Go.Proofs.Tryz
namespace Go.Proofs.YthaelabgfnnebaaGreat
section
open Go
noncomputable def vr(P:Program)(g:Nat):Bool:=match P.funcs[g]? with
 | some f=>(match f.body with
   | some c=>dS.cZ P c
   | none=>false) && !(f.name == "runtime.NumGoroutine") && P.inits.toList.all fun k=>!(k == g)
 | none=>false
theorem Zo(g:Nat)(h:vr prog g=true):(∃f c,Tryz.prog.funcs[g]? =some f∧f.body=some c∧(f.name == "runtime.NumGoroutine")=false∧dS.cZ prog c=true)∧Tryz.prog.inits.idxOf? g=none:=by
 unfold vr at h
 cases hf:Tryz.prog.funcs[g]? with
 | none=>rw[hf] at h;cases h
 | some f=>
   rw[hf] at h
   simp only[Bool.and_eq_true,Bool.not_eq_true'] at h
   obtain⟨⟨h1,h2⟩,h3⟩:=h
   cases hb:f.body with
   | none=>rw[hb] at h1;cases h1
   | some c=>
     rw[hb] at h1
     refine⟨⟨f,c,rfl,hb,h2,h1⟩,?_⟩
     rw[Array.idxOf?_eq_none_iff]
     intro hm
     have:=List.all_eq_true.1 h3 g (by simpa using hm)
     simp at this
theorem db:((List.range 188).all fun g=>!eK g || vr prog g)=true:=zk
theorem Zn{g:Nat}(h:FF.fn g):vr prog g=true:=by
 have hlt:g<188:=by
  have h':=(qz g).1 h
  rcases h' with h'|h'|h'|h' <;> exact Nat.lt_of_lt_of_le h'.2 zD
 have:=List.all_eq_true.1 db g (List.mem_range.2 hlt)
 rw[SN.1 h] at this
 simpa using this
theorem LB:dS.gJ prog FF.fn:=fun g h=>(Zo g (Zn h)).1
theorem iU{g:FuncId}(h:FF.fn g):Tryz.prog.inits.idxOf? g=none:=(Zo g (Zn h)).2
def vk:FuncId→Code→Prop:=fun f c=>FF.fn f∧dS.cZ prog c=true
theorem Kh:(Tryz.prog.funcs.toList.all fun f=>match f.body with
 | some c=>(readies c).isEmpty
 | none=>true)=true:=zk
theorem Xk(g:Nat):Tryz.prog.stepOf g=none:=by
 unfold Program.stepOf
 rw[Array.findIdx?_eq_none_iff]
 intro f hf
 have:=List.all_eq_true.1 Kh f (by simpa using hf)
 cases hb:f.body with
 | none=>rfl
 | some c=>
   rw[hb] at this
   simp only at this
   simp_all
theorem DL(dead:Nat→Prop):dS.jZ prog FF.fn ⟨dead,vk⟩:=by
 refine⟨zr,LB,fun f c=>Iff.rfl,zr,Xk,fun f h=>iU h⟩
end
end Go.Proofs.YthaelabgfnnebaaGreat
