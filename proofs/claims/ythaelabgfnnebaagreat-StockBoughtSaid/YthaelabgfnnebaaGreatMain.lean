/- The law StockConserved of chapter 8 answers true at every input, on every schedule of its goroutines and without a data race: what is left of a good in the end is what was there at first and all that came and was taken back, less all that was sold, lost and given. Conditions: none but those that the given statement StockConservedSaid has itself. -/
import Derived.Test.YthaelabgfnnebaaGreatG1
import Derived.Test.YthaelabgfnnebaaGreatG3
import Derived.Test.YthaelabgfnnebaaGreatRows
import Derived.Conc.LeavingOf
import Derived.ProofKit
set_option maxRecDepth 100000
set_option maxHeartbeats 16000000
set_option linter.unusedVariables false
set_option linter.unusedSectionVars false
open Go.IntKind(i64)
open Go.Proofs.Tryz
open Go.Value(int)
namespace Go.Proofs.YthaelabgfnnebaaGreat
section
open Go Go.Conc Go.cu Go.ChangeShapes Go.WideShapes Go.RowKit
theorem WC:SF.fn=(· ∈Cc):=by
 funext g
 refine propext ?_
 simp only[Tf,Cc,List.mem_cons,List.not_mem_nil,or_false]
theorem uN(W:World)(b:Bk)(h:b.At W W.heap.size)(hgc:b.ng≤b.gc)(hd:-9223372036854775808≤b.days∧b.days≤9223372036854775807)(pA:Option Addr)(np pc:Nat)(ps:Nat→Int)(hp:ZI W W.heap.size pA np ps)(hnp:np≤maxLen)(uH:Int)(Rf:0≤uH∧uH≤255)(good:Int)(Jj:0≤good∧good≤255):
 ∃M last o w' t',runNT prog (M+1) (solo (G (Frame.enter prog 3 #[b.val,.slice pA np pc,.int .u8 uH,.int .u8 good] .normal) []) W) #[]=(.ended o w',t')∧
  runN prog M (solo (G (Frame.enter prog 3 #[b.val,.slice pA np pc,.int .u8 uH,.int .u8 good] .normal) []) W)=.next last∧step prog last=.ended o w'∧Conc.Good prog (Cv W) last o w' t':=by
 haveI:Inhabited aS:=E5 prog Cc
 have hS:@gG (E5 prog Cc) prog SF.fn:=by rw[WC];exact Vv Pb
 exact @sV (E5 prog Cc) hS W b h hgc hd pA np pc ps hp hnp uH Rf good Jj
theorem SE:ownKnob Tryz.prog.godebug=none:=zk
theorem RZ:laidOutB prog=true:=zk
theorem trodAll_four{H:Type}{enc:TypeId × Value→H}{P:Program}{w:World}{base:Nat}{spare:Nat→Bool}{held:Bool}{t1 t2 t3 t4:TypeId}{args:Array Value}{ds:List (DataW H)}{ps:List MemPlace}
 (h:DataW.TrodAll enc P w base spare held [t1,t2,t3,t4] args.toList ds ps):∃v1 v2 v3 v4 d1 d2 d3 d4 p1 p2 p3 p4,args=#[v1,v2,v3,v4]∧ds=[d1,d2,d3,d4]∧ps=p1 ++ (p2 ++ (p3 ++ (p4)))∧
  DataW.Trod enc P w base spare held t1 v1 d1 p1∧DataW.Trod enc P w base spare held t2 v2 d2 p2∧DataW.Trod enc P w base spare held t3 v3 d3 p3∧DataW.Trod enc P w base spare held t4 v4 d4 p4:=by
 obtain⟨v1,vs1,d1,ds1,p1,q1,e1,rfl,rfl,h1,k1⟩:=trodAll_cons h
 obtain⟨v2,vs2,d2,ds2,p2,q2,rfl,rfl,rfl,h2,k2⟩:=trodAll_cons k1
 obtain⟨v3,vs3,d3,ds3,p3,q3,rfl,rfl,rfl,h3,k3⟩:=trodAll_cons k2
 obtain⟨v4,vs4,d4,ds4,p4,q4,rfl,rfl,rfl,h4,k4⟩:=trodAll_cons k3
 obtain⟨rfl,rfl,rfl⟩:=trodAll_nil k4
 obtain⟨L⟩:=args
 simp only at e1
 subst e1
 exact⟨v1,v2,v3,v4,d1,d2,d3,d4,p1,p2,p3,p4,rfl,rfl,zs,h1,h2,h3,h4⟩
theorem trodAll_mk4{H:Type}{enc:TypeId × Value→H}{P:Program}{w:World}{base:Nat}{spare:Nat→Bool}{held:Bool}{t1 t2 t3 t4:TypeId}{v1 v2 v3 v4:Value}{d1 d2 d3 d4:DataW H}{p1 p2 p3 p4:List MemPlace}
 (h1:DataW.Trod enc P w base spare held t1 v1 d1 p1)(h2:DataW.Trod enc P w base spare held t2 v2 d2 p2)(h3:DataW.Trod enc P w base spare held t3 v3 d3 p3)(h4:DataW.Trod enc P w base spare held t4 v4 d4 p4):
 DataW.TrodAll enc P w base spare held [t1,t2,t3,t4] [v1,v2,v3,v4] [d1,d2,d3,d4] (p1 ++ (p2 ++ (p3 ++ (p4)))):=
 ⟨p1,_,h1,⟨p2,_,h2,⟨p3,_,h3,⟨p4,[],h4,rfl,zs⟩,rfl⟩,rfl⟩,rfl⟩
theorem u8_in{n:Int}(h:(Lit.int .u8 n).wf=true):0≤n∧n≤255:=by
 simp[Lit.wf,IntKind.min,IntKind.max,IntKind.signed,IntKind.bits] at h
 omega
theorem qE(os:Os)(started:os.Started)(H:Type)(enc:TypeId × Value→H):
 ReturnsInLeavingWide {} Tryz.checked os 3 .any (Rows.stockBoughtSpec.pre6 enc prog Tryz.f3 Rows.stockBoughtRow.domain false) (Rows.stockBoughtSpec.post enc prog Tryz.f3 false true false false):=by
 refine returnsInLeavingWide_of_change_sized (C:=Tryz.checked) SE started func3
  (ChangeSpec.witness6 (enc:=enc) (C:=Tryz.checked) false ⟨#[],#[.agg #[int i64 0,int i64 0,.slice none 0 0,.slice none 0 0,.slice none 0 0],.slice none 0 0,.int .u8 0,.int .u8 0],[]⟩ 8 zk zk zk zk) ?_
 intro W base args ds gs before hval0 hW _ hsz0 _
 clear hsz0
 have hval:∀ (j:Nat) t v,Tryz.f3.params[j]? =some t→args[j]? =some v→Value.okWide prog W .any base t v:=hval0
 have hW':=hW
 obtain⟨p,q,US,hV,rfl,_,_⟩:=hW
 have hA:DataW.TrodAll enc prog W 0 (fun _=>true) true Tryz.f3.params.toList args.toList ds p:=US
 rw[Tryz.params3] at hA hval
 obtain⟨v1,v2,v3,v4,d1,d2,d3,d4,p1,p2,p3,p4,rfl,rfl,hp,h1,h2,h3,h4⟩:=trodAll_four hA
 obtain⟨rfl,rfl⟩:=trodVars_none hV
 obtain⟨b,rfl,hb,hgc,hd⟩:=NT (hval 0 26 v1 rfl rfl) h1
 obtain⟨pA,np,pc,ps,rfl,hnp,hU⟩:=JQ (okWide_slice underlying27 (hval 1 27 v2 rfl rfl)) h2
 obtain⟨uH,rfl⟩:=okWide_int underlying5 (hval 2 5 v3 rfl rfl)
 obtain⟨good,rfl⟩:=okWide_int underlying5 (hval 3 5 v4 rfl rfl)
 have u8:∀ {n:Int} {d:DataW H} {q:List MemPlace},DataW.Trod enc prog W 0 (fun _=>true) true 5 (.int .u8 n) d q→0≤n∧n≤255:=fun h=>by
  obtain⟨fuel,hf⟩:=h
  obtain⟨m,e,_,hw⟩:=DataW.trod_int underlying5 hf
  have e2:=by simpa [Value.cells] using e
  subst e2
  exact u8_in hw
 simp only[List.append_nil] at hW'
 have hlt:∀x∈p,x.block<W.heap.size:=fun x hx=>by simpa using hW'.lt x hx
 obtain⟨M,last,o,w',t',k1,k2,k3,k4⟩:=uN W b hb hgc hd pA np pc ps hU hnp uH (u8 h3) good (u8 h4)
 refine⟨M,last,o,w',t',k1,k2,k3,k4.mono fun x hx=>?_⟩
 obtain⟨rfl,ho,hout,hsz,hblk⟩:=hx
 have hbl:Below W.heap.size W {w' with tape:=W.tape }:=⟨ho,rfl,hout,hsz,hblk⟩
 have again:∀ {t:TypeId} {v:Value} {d:DataW H} {q:List MemPlace},Tryz.prog.readableRec t=true→t<Tryz.prog.types.size→DataW.Trod enc prog W 0 (fun _=>true) true t v d q→(∀x∈q,x∈p)→
  DataW.Trod enc prog w' 0 (fun b=>decide (b<W.heap.size)) true t v d q:=fun hr ht h hq=>
  DataW.Trod.of_heap (w:={w' with tape:=W.tape }) (w':=w') rfl (Below.trod (W':={w' with tape:=W.tape }) RZ hr ht h hbl fun x hx=>hlt x (hq x hx))
 have hfr:∀may,W.keptBut w' may:=fun may=>by
  have h0:=hbl.frame may
  unfold World.keptBut at h0⊢
  exact h0
 refine⟨_,_,_,[],p,[],hW',?_,?_,rfl,hfr _,fun h=>by cases h⟩
 ·exact trodAll_mk1 ⟨1,rfl⟩
 ·rw[hp]
  exact trodAll_mk4 (again zk (of_decide_eq_true zk) h1 fun x hx=>by rw[hp];simp[hx]) (again zk (of_decide_eq_true zk) h2 fun x hx=>by rw[hp];simp[hx]) (again zk (of_decide_eq_true zk) h3 fun x hx=>by rw[hp];simp[hx]) (again zk (of_decide_eq_true zk) h4 fun x hx=>by rw[hp];simp[hx])
theorem stockBought_holds:Rows.StockBoughtSaid:=
 OpenClaim.holds_of_wide_leaving 3 Tryz.f3 rfl rfl rfl rfl rfl rfl rfl ⟨rfl,rfl,rfl,rfl,rfl⟩ rfl rfl rfl rfl rfl zk func3 zk
  (of_decide_eq_true zk) (by unfold Func.isWrapper;first|(rw[if_pos (by decide+kernel)];kernel_rfl)|(rw[if_neg (by decide+kernel)];exact⟨rfl,rfl⟩))
  (fun os started H enc _=>qE os started H enc)
end
end Go.Proofs.YthaelabgfnnebaaGreat
