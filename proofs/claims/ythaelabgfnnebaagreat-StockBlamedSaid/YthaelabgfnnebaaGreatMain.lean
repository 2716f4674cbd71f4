/- The law StockConserved of chapter 8 answers true at every input, on every schedule of its goroutines and without a data race: what is left of a good in the end is what was there at first and all that came and was taken back, less all that was sold, lost and given. Conditions: none but those that the given statement StockConservedSaid has itself. -/
import Derived.Test.YthaelabgfnnebaaGreatE6
import Derived.Test.YthaelabgfnnebaaGreatE8
import Derived.Test.YthaelabgfnnebaaGreatRows
import Derived.Conc.LeavingOf
import Derived.ProofKit
set_option maxRecDepth 100000
set_option maxHeartbeats 16000000
set_option linter.unusedVariables false
set_option linter.unusedSectionVars false
open Go.IntKind(i64)
open Go.Proofs.Tryz
open Go.Value(int)
namespace Go.Proofs.YthaelabgfnnebaaGreat
section
open Go Go.Conc Go.cu Go.ChangeShapes Go.WideShapes Go.RowKit
theorem Xz:SF.fn=(· ∈CV):=by
 funext g
 refine propext ?_
 simp only[TY,CV,List.mem_cons,List.not_mem_nil,or_false]
theorem vo(W:World)(b:Bk)(h:b.At W W.heap.size)(hgc:b.ng≤b.gc)(hd:-9223372036854775808≤b.days∧b.days≤9223372036854775807):
 ∃M last o w' t',runNT prog (M+1) (solo (G (Frame.enter prog 5 #[b.val] .normal) []) W) #[]=(.ended o w',t')∧
  runN prog M (solo (G (Frame.enter prog 5 #[b.val] .normal) []) W)=.next last∧step prog last=.ended o w'∧Conc.Good prog (Dj W) last o w' t':=by
 haveI:Inhabited aV:=FP prog CV
 have hS:@gJ (FP prog CV) prog SF.fn:=by rw[Xz];exact Ww P9
 exact @tQ (FP prog CV) hS W b h hgc hd
theorem TG:ownKnob Tryz.prog.godebug=none:=zk
theorem Tc:laidOutB prog=true:=zk
theorem trodAll_one{H:Type}{enc:TypeId × Value→H}{P:Program}{w:World}{base:Nat}{spare:Nat→Bool}{held:Bool}{t1:TypeId}{args:Array Value}{ds:List (DataW H)}{ps:List MemPlace}
 (h:DataW.TrodAll enc P w base spare held [t1] args.toList ds ps):∃v1 d1 p1,args=#[v1]∧ds=[d1]∧ps=p1∧
  DataW.Trod enc P w base spare held t1 v1 d1 p1:=by
 obtain⟨v1,vs1,d1,ds1,p1,q1,e1,rfl,rfl,h1,k1⟩:=trodAll_cons h
 obtain⟨rfl,rfl,rfl⟩:=trodAll_nil k1
 obtain⟨L⟩:=args
 simp only at e1
 subst e1
 exact⟨v1,d1,p1,rfl,rfl,zs,h1⟩
theorem qM(os:Os)(started:os.Started)(H:Type)(enc:TypeId × Value→H):
 ReturnsInLeavingWide {} Tryz.checked os 5 .any (Rows.stockBlamedSpec.pre6 enc prog Tryz.f5 Rows.stockBlamedRow.domain false) (Rows.stockBlamedSpec.post enc prog Tryz.f5 false true false false):=by
 refine returnsInLeavingWide_of_change_sized (C:=Tryz.checked) TG started func5
  (ChangeSpec.witness6 (enc:=enc) (C:=Tryz.checked) false ⟨#[],#[.agg #[int i64 0,int i64 0,.slice none 0 0,.slice none 0 0,.slice none 0 0]],[]⟩ 8 zk zk zk zk) ?_
 intro W base args ds gs before hval0 hW _ hsz0 _
 clear hsz0
 have hval:∀ (j:Nat) t v,Tryz.f5.params[j]? =some t→args[j]? =some v→Value.okWide prog W .any base t v:=hval0
 have hW':=hW
 obtain⟨p,q,hA0,hV,rfl,_,_⟩:=hW
 have hA:DataW.TrodAll enc prog W 0 (fun _=>true) true Tryz.f5.params.toList args.toList ds p:=hA0
 rw[Tryz.params5] at hA hval
 obtain⟨v1,d1,p1,rfl,rfl,hp,h1⟩:=trodAll_one hA
 obtain⟨rfl,rfl⟩:=trodVars_none hV
 obtain⟨b,rfl,hb,hgc,hd⟩:=OJ (hval 0 26 v1 rfl rfl) h1
 simp only[List.append_nil] at hW'
 have hlt:∀x∈p,x.block<W.heap.size:=fun x hx=>by simpa using hW'.lt x hx
 obtain⟨M,last,o,w',t',k1,k2,k3,k4⟩:=vo W b hb hgc hd
 refine⟨M,last,o,w',t',k1,k2,k3,k4.mono fun x hx=>?_⟩
 obtain⟨rfl,ho,hout,hsz,hblk⟩:=hx
 have hbl:Below W.heap.size W {w' with tape:=W.tape }:=⟨ho,rfl,hout,hsz,hblk⟩
 have again:∀ {t:TypeId} {v:Value} {d:DataW H} {q:List MemPlace},Tryz.prog.readableRec t=true→t<Tryz.prog.types.size→DataW.Trod enc prog W 0 (fun _=>true) true t v d q→(∀x∈q,x∈p)→
  DataW.Trod enc prog w' 0 (fun b=>decide (b<W.heap.size)) true t v d q:=fun hr ht h hq=>
  DataW.Trod.of_heap (w:={w' with tape:=W.tape }) (w':=w') rfl (Below.trod (W':={w' with tape:=W.tape }) Tc hr ht h hbl fun x hx=>hlt x (hq x hx))
 have hfr:∀may,W.keptBut w' may:=fun may=>by
  have h0:=hbl.frame may
  unfold World.keptBut at h0⊢
  exact h0
 refine⟨_,_,_,[],p,[],hW',?_,?_,rfl,hfr _,fun h=>by cases h⟩
 ·exact trodAll_mk1 ⟨1,rfl⟩
 ·rw[hp]
  exact trodAll_mk1 (again zk (of_decide_eq_true zk) h1 fun x hx=>by rw[hp];simp[hx])
theorem stockBlamed_holds:Rows.StockBlamedSaid:=
 OpenClaim.holds_of_wide_leaving 5 Tryz.f5 rfl rfl rfl rfl rfl rfl rfl ⟨rfl,rfl,rfl,rfl,rfl⟩ rfl rfl rfl rfl rfl zk func5 zk
  (of_decide_eq_true zk) (by unfold Func.isWrapper;first|(rw[if_pos (by decide+kernel)];kernel_rfl)|(rw[if_neg (by decide+kernel)];exact⟨rfl,rfl⟩))
  (fun os started H enc _=>qM os started H enc)
end
end Go.Proofs.YthaelabgfnnebaaGreat
