/- The law StockNoted of chapter 8 answers true at every input, on every schedule of its goroutines and without a data race: given one more count, the book is refused with the bell that the specification names, or as odd where no history is left, or it comes back with that count at the end and its histories are some of the former ones. Conditions: none but those that the given statement StockNotedSaid has itself. -/
import Derived.Test.YtpmafoalhnaokaaGreatB9
import Derived.Test.YtpmafoalhnaokaaGreatC1
import Derived.Test.YtpmafoalhnaokaaGreatRows
import Derived.Conc.LeavingOf
import Derived.ProofKit
set_option maxRecDepth 100000
set_option maxHeartbeats 16000000
set_option linter.unusedVariables false
open Go.IntKind(i64)
open Go.Proofs.Tryz
open Go.Value(int)
namespace Go.Proofs.YtpmafoalhnaokaaGreat
section
open Go Go.Conc Go.cu Go.ChangeShapes Go.WideShapes Go.RowKit
theorem Zj:SF.fn=(· ∈D6):=by
 funext g
 refine propext ?_
 simp only[VK,D6,List.mem_cons,List.not_mem_nil,or_false]
theorem Ac(W:World)(b:Bk)(h:b.At W W.heap.size)(hgc:b.ng≤b.gc)(hd:-9223372036854775808≤b.dY∧b.dY≤9223372036854775807)(x:Ct)(good:Int)(KY:0≤good∧good≤255)(day:Int)(Ue:0≤day∧day≤255):
 ∃M last o w' t',runNT prog (M+1) (solo (G (Frame.enter prog 4 #[b.val,.agg #[int i64 x.good,int i64 x.day,int i64 x.lo,int i64 x.hi],.int .u8 good,.int .u8 day] .normal) []) W) #[]=(.ended o w',t')∧
  runN prog M (solo (G (Frame.enter prog 4 #[b.val,.agg #[int i64 x.good,int i64 x.day,int i64 x.lo,int i64 x.hi],.int .u8 good,.int .u8 day] .normal) []) W)=.next last∧step prog last=.ended o w'∧Conc.Good prog (El W) last o w' t':=by
 haveI:Inhabited aV:=Hz prog D6
 have hS:@gP (Hz prog D6) prog SF.fn:=by rw[Zj];exact Yk RB
 exact @wE (Hz prog D6) hS W b h hgc hd x good KY day Ue
theorem Vt:ownKnob Tryz.prog.godebug=none:=zk
theorem UU:laidOutB prog=true:=zk
theorem trodAll_four{H:Type}{enc:TypeId × Value→H}{P:Program}{w:World}{base:Nat}{spare:Nat→Bool}{held:Bool}{t1 t2 t3 t4:TypeId}{args:Array Value}{ds:List (DataW H)}{ps:List MemPlace}
 (h:DataW.TrodAll enc P w base spare held [t1,t2,t3,t4] args.toList ds ps):∃v1 v2 v3 v4 d1 d2 d3 d4 p1 p2 p3 p4,args=#[v1,v2,v3,v4]∧ds=[d1,d2,d3,d4]∧ps=p1 ++ (p2 ++ (p3 ++ (p4)))∧
  DataW.Trod enc P w base spare held t1 v1 d1 p1∧DataW.Trod enc P w base spare held t2 v2 d2 p2∧DataW.Trod enc P w base spare held t3 v3 d3 p3∧DataW.Trod enc P w base spare held t4 v4 d4 p4:=by
 obtain⟨v1,vs1,d1,ds1,p1,q1,e1,rfl,rfl,h1,k1⟩:=trodAll_cons h
 obtain⟨v2,vs2,d2,ds2,p2,q2,rfl,rfl,rfl,h2,k2⟩:=trodAll_cons k1
 obtain⟨v3,vs3,d3,ds3,p3,q3,rfl,rfl,rfl,h3,k3⟩:=trodAll_cons k2
 obtain⟨v4,vs4,d4,ds4,p4,q4,rfl,rfl,rfl,h4,k4⟩:=trodAll_cons k3
 obtain⟨rfl,rfl,rfl⟩:=trodAll_nil k4
 obtain⟨L⟩:=args
 simp only at e1
 subst e1
 exact⟨v1,v2,v3,v4,d1,d2,d3,d4,p1,p2,p3,p4,rfl,rfl,zs,h1,h2,h3,h4⟩
theorem trodAll_mk4{H:Type}{enc:TypeId × Value→H}{P:Program}{w:World}{base:Nat}{spare:Nat→Bool}{held:Bool}{t1 t2 t3 t4:TypeId}{v1 v2 v3 v4:Value}{d1 d2 d3 d4:DataW H}{p1 p2 p3 p4:List MemPlace}
 (h1:DataW.Trod enc P w base spare held t1 v1 d1 p1)(h2:DataW.Trod enc P w base spare held t2 v2 d2 p2)(h3:DataW.Trod enc P w base spare held t3 v3 d3 p3)(h4:DataW.Trod enc P w base spare held t4 v4 d4 p4):
 DataW.TrodAll enc P w base spare held [t1,t2,t3,t4] [v1,v2,v3,v4] [d1,d2,d3,d4] (p1 ++ (p2 ++ (p3 ++ (p4)))):=
 ⟨p1,_,h1,⟨p2,_,h2,⟨p3,_,h3,⟨p4,[],h4,rfl,zs⟩,rfl⟩,rfl⟩,rfl⟩
theorem u8_in{n:Int}(h:(Lit.int .u8 n).wf=true):0≤n∧n≤255:=by
 simp[Lit.wf,IntKind.min,IntKind.max,IntKind.signed,IntKind.bits] at h
 omega
theorem tH(os:Os)(started:os.Started)(H:Type)(enc:TypeId × Value→H):
 ReturnsInLeavingWide {} Tryz.checked os 4 .any (Rows.stockNotedSpec.pre6 enc prog Tryz.f4 Rows.stockNotedRow.domain false) (Rows.stockNotedSpec.post enc prog Tryz.f4 false true false false):=by
 refine returnsInLeavingWide_of_change_sized (C:=Tryz.checked) Vt started func4
  (ChangeSpec.witness6 (enc:=enc) (C:=Tryz.checked) false ⟨#[],#[.agg #[int i64 0,int i64 0,.slice none 0 0,.slice none 0 0,.slice none 0 0],.agg #[int i64 0,int i64 0,int i64 0,int i64 0],.int .u8 0,.int .u8 0],[]⟩ 8 zk zk zk zk) ?_
 intro W base args ds gs before hval0 hW _ hsz0 _
 clear hsz0
 have hval:∀ (j:Nat) t v,Tryz.f4.params[j]? =some t→args[j]? =some v→Value.okWide prog W .any base t v:=hval0
 have hW':=hW
 obtain⟨p,q,hA0,hV,rfl,_,_⟩:=hW
 have hA:DataW.TrodAll enc prog W 0 (fun _=>true) true Tryz.f4.params.toList args.toList ds p:=hA0
 rw[Tryz.params4] at hA hval
 obtain⟨v1,v2,v3,v4,d1,d2,d3,d4,p1,p2,p3,p4,rfl,rfl,hp,h1,h2,h3,h4⟩:=trodAll_four hA
 obtain⟨rfl,rfl⟩:=trodVars_none hV
 obtain⟨b,rfl,hb,hgc,hd⟩:=Qx (hval 0 26 v1 rfl rfl) h1
 obtain⟨x,rfl⟩:=L8 (hval 1 45 v2 rfl rfl) h2
 obtain⟨good,rfl⟩:=okWide_int underlying5 (hval 2 5 v3 rfl rfl)
 obtain⟨day,rfl⟩:=okWide_int underlying5 (hval 3 5 v4 rfl rfl)
 have u8:∀ {n:Int} {d:DataW H} {q:List MemPlace},DataW.Trod enc prog W 0 (fun _=>true) true 5 (.int .u8 n) d q→0≤n∧n≤255:=fun h=>by
  obtain⟨fuel,hf⟩:=h
  obtain⟨m,e,_,hw⟩:=DataW.trod_int underlying5 hf
  have e2:=by simpa [Value.cells] using e
  subst e2
  exact u8_in hw
 simp only[List.append_nil] at hW'
 have hlt:∀x∈p,x.block<W.heap.size:=fun x hx=>by simpa using hW'.lt x hx
 obtain⟨M,last,o,w',t',k1,k2,k3,k4⟩:=Ac W b hb hgc hd x good (u8 h3) day (u8 h4)
 refine⟨M,last,o,w',t',k1,k2,k3,k4.mono fun x hx=>?_⟩
 obtain⟨rfl,ho,hout,hsz,hblk⟩:=hx
 have hbl:Below W.heap.size W {w' with tape:=W.tape }:=⟨ho,rfl,hout,hsz,hblk⟩
 have again:∀ {t:TypeId} {v:Value} {d:DataW H} {q:List MemPlace},Tryz.prog.readableRec t=true→t<Tryz.prog.types.size→DataW.Trod enc prog W 0 (fun _=>true) true t v d q→(∀x∈q,x∈p)→
  DataW.Trod enc prog w' 0 (fun b=>decide (b<W.heap.size)) true t v d q:=fun hr ht h hq=>
  DataW.Trod.of_heap (w:={w' with tape:=W.tape }) (w':=w') rfl (Below.trod (W':={w' with tape:=W.tape }) UU hr ht h hbl fun x hx=>hlt x (hq x hx))
 have hfr:∀may,W.keptBut w' may:=fun may=>by
  have h0:=hbl.frame may
  unfold World.keptBut at h0⊢
  exact h0
 refine⟨_,_,_,[],p,[],hW',?_,?_,rfl,hfr _,fun h=>by cases h⟩
 ·exact trodAll_mk1 ⟨1,rfl⟩
 ·rw[hp]
  exact trodAll_mk4 (again zk (of_decide_eq_true zk) h1 fun x hx=>by rw[hp];simp[hx]) (again zk (of_decide_eq_true zk) h2 fun x hx=>by rw[hp];simp[hx]) (again zk (of_decide_eq_true zk) h3 fun x hx=>by rw[hp];simp[hx]) (again zk (of_decide_eq_true zk) h4 fun x hx=>by rw[hp];simp[hx])
theorem stockNoted_holds:Rows.StockNotedSaid:=
 OpenClaim.holds_of_wide_leaving 4 Tryz.f4 rfl rfl rfl rfl rfl rfl rfl ⟨rfl,rfl,rfl,rfl,rfl⟩ rfl rfl rfl rfl rfl zk func4 zk
  (of_decide_eq_true zk) (by unfold Func.isWrapper;first|(rw[if_pos (by decide+kernel)];kernel_rfl)|(rw[if_neg (by decide+kernel)];exact⟨rfl,rfl⟩))
  (fun os started H enc _=>tH os started H enc)
end
end Go.Proofs.YtpmafoalhnaokaaGreat
