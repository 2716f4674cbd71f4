/- Link Place1 Place2 -/
import Derived.Test.YtoldgagdgjilgaaGreatA1
import Derived.Test.YtoldgagdgjilgaaGreatC5
import Derived.Conc.WgLib
set_option maxRecDepth 100000
set_option maxHeartbeats 16000000
set_option linter.unusedVariables false
set_option linter.unusedSectionVars false
set_option linter.unusedSimpArgs false
open Go.IntKind(i64)
open Go.Proofs.Tryz
open Go.Value(int)
namespace Go.Proofs.YtoldgagdgjilgaaGreat
section
open Go Go.Conc.Lib
abbrev link:WgLink:={add:=108,done:=110,wait:=111,relMerge:=125,disable:=126,enable:=127,inBubble:=128,associate:=129,fatal:=130,uOr:=131,uAdd:=132,raceRead:=133,uLoad:=134,uStore:=135,disassociate:=136,semrelease:=137,acquire:=138,isAssociated:=139,uCas:=140,raceWrite:=141,semacquire:=142,orU64:=161,addU64:=162,loadU64:=163,storeU64:=164,casU64:=165,tWgP:=172,tUP:=174,tAssoc:=175,tWg:=160,tAU:=157,tU64:=155,tUint:=130,tU32:=158,tPU32:=179,tPAU:=202,tPU64:=204,tNoCopy:=152,tANoCopy:=153,tAlign64:=154 }
theorem LK:WgLib prog link:=
 ⟨func108,func110,func111,func125,func126,func127,func128,func129,func130,func131,func132,func133,func134,func135,func136,func137,func138,func139,func140,func141,func142,func161,func162,func163,func164,func165,underlying172,Tryz.runUnderlying172,sizeOf172,isAgg172,zeroValue172,underlying174,Tryz.runUnderlying174,sizeOf174,isAgg174,zeroValue174,underlying175,Tryz.runUnderlying175,sizeOf175,isAgg175,zeroValue175,underlying160,Tryz.runUnderlying160,sizeOf160,isAgg160,zeroValue160,underlying157,Tryz.runUnderlying157,sizeOf157,isAgg157,zeroValue157,underlying155,Tryz.runUnderlying155,sizeOf155,isAgg155,zeroValue155,underlying130,Tryz.runUnderlying130,sizeOf130,isAgg130,zeroValue130,underlying158,Tryz.runUnderlying158,sizeOf158,isAgg158,zeroValue158,underlying179,Tryz.runUnderlying179,sizeOf179,isAgg179,zeroValue179,underlying202,Tryz.runUnderlying202,sizeOf202,isAgg202,zeroValue202,underlying204,Tryz.runUnderlying204,sizeOf204,isAgg204,zeroValue204,underlying0,Tryz.runUnderlying0,sizeOf0,isAgg0,zeroValue0,underlying3,Tryz.runUnderlying3,sizeOf3,isAgg3,zeroValue3,underlying4,Tryz.runUnderlying4,sizeOf4,isAgg4,zeroValue4,underlying9,Tryz.runUnderlying9,sizeOf9,isAgg9,zeroValue9,underlying20,Tryz.runUnderlying20,sizeOf20,isAgg20,zeroValue20,underlying21,Tryz.runUnderlying21,sizeOf21,isAgg21,zeroValue21,zk,zk⟩
end
section
open Go Go.Conc Go.ConcN Go.bV Go.Conc.Lib Go.aM Go.ConcR.Gen Go.ConcN.Gen
open Go.ConcR (WgAt stA smA rd wr Payload)
variable[Inhabited aS]
noncomputable def yM:Code:=match Tryz.f82.body with
 | some (.seq _ (.seq _ (.seq _ (.seq (.seq _ (.block _ (.loop c))) _))))=>c
 | _=>.skip
noncomputable def Tw:Code:=match Tryz.f82.body with
 | some (.seq _ (.seq _ (.seq _ (.seq _ c))))=>c
 | _=>.skip
noncomputable def oq:Array Oper:=match Tw with
 | .seq (.region _ ops _) _=>ops
 | _=>#[]
noncomputable def lH:Code:=match Tw with
 | .seq _ c=>c
 | _=>.skip
noncomputable def fS:List Item:=[.inLoop yM,.inBlock 0,.code Tw]
noncomputable def pn:Array Oper:=match yM with
 | .seq _ (.seq _ (.seq (.block _ (.seq _ (.seq _ (.region _ ops _)))) _))=>ops
 | _=>#[]
noncomputable def Tv:Code:=match yM with
 | .seq _ (.seq _ (.seq (.block _ (.seq _ (.seq _ c))) _))=>c
 | _=>.skip
noncomputable def dt:Array Oper:=match yM with
 | .seq _ (.seq _ (.seq (.block _ (.seq _ (.seq (.region _ ops _) _))) _))=>ops
 | _=>#[]
noncomputable def Xx:Code:=match yM with
 | .seq _ (.seq _ (.seq _ c))=>c
 | _=>.skip
def pt(b:Nat):Value:=.pointer (some ⟨b,0,none⟩)
def Oz(n:Nat)(eG:Value)(N:Nat)(k:Int)(x7 x14 x15 x16 x17 x18:Value):Array Value:=
 #[int i64 n,eG,undef,pt N,.slice none 0 0,pt (N+2),pt (N+3),x7,undef,undef,int i64 n,.chan (some (N+1)),int i64 n,int i64 k,x14,x15,x16,x17,x18,undef,undef,undef,undef,undef,undef,undef,undef,undef,undef,undef,undef,undef]
def dr(n:Nat)(eG:Value)(N:Nat)(a:Act):Prop:=∃x7 x14 x15 x16 x17 x18,a=⟨Oz n eG N n x7 x14 x15 x16 x17 x18,[]⟩
noncomputable abbrev qp (n:Nat) (eG:Value) (N:Nat) (cs:List Frame) (k:Int) (x7 x14 x15 x16 x17 x18:Value):Goroutine:=G ((base 82).at ⟨Oz n eG N k x7 x14 x15 x16 x17 x18,[]⟩ (.code yM :: fS)) cs
noncomputable def qB(n:Nat)(eG:Value)(N:Nat)(cs:List Frame)(tab:Nat→Option Obj)(bit:Nat→Bool)(w0:World):Site:={
 P:=prog
 L:=link
 Wg:=N+3
 Ch:=N+1
 n:=n
 tab:=tab
 pA:=⟨92⟩
 pB:=⟨150⟩
 bA:=N
 bB:=N+2
 vA:=eG
 vB:=.chan (some (N+1))
 tI:=3
 bit:=bit
 Anch:=fun g w=>∃a,dr n eG N a∧AnchW link (N+3) ((base 82).at a (.inRegion oq (0 :: []) :: [.code lH])) cs g w
 Fin:=fun g=>∃a,dr n eG N a∧Ue prog link (N+3) (o9 (base 82) a oq 0 [] [.code lH] cs) g
 os0:=w0.os
 ox:=w0.output
 YF:=w0.tape }
def pj(N bx:Nat):Deferred:={target:=.fn (.func 109) #[pt (N+3),pt N,pt bx,pt (N+2)],args:=#[] }
noncomputable abbrev DJ (n:Nat) (eG:Value) (N:Nat) (cs:List Frame) (k:Int) (x7 x14 x15 x16 x17 x18:Value):Goroutine:=G ((base 82).at ⟨Oz n eG N k x7 x14 x15 x16 x17 x18,[]⟩ (.inRegion pn [] :: .inBlock 1 :: .code Xx :: fS)) cs
theorem Fa(w:World)(o:Obj):(w.alloc o).heap[w.heap.size]? =some o:=by
 show(w.heap.push o)[w.heap.size]? =some o
 simp
def b8:Mark→Bool
 | .acquire _| .release _| .releaseMerge _| .disable| .enable| .read _| .write _| .noRoom=>true
 | _=>false
theorem Lp{P:Program}{fn:FuncId}{f:Func}(e:Event)(hf:P.funcs[fn]? =some f)(hn:f.norace=false)(h:∀m,e.loc=.mark m→b8 m=true):seen P fn #[e]=#[e]:=by
 obtain⟨loc,x,y⟩:=e
 unfold seen
 simp only[List.foldl_toArray',List.size_toArray,List.length_singleton,List.foldl_cons,List.foldl_nil,hf,Option.any_some,hn]
 cases loc with
 | mark m=>
   have hm:=h m rfl
   cases m <;> first|rfl|cases hm
 | _=>rfl
theorem Lm(e:Event)(h:∀m,e.loc=.mark m→b8 m=true):seen prog (base 82).fn #[e]=#[e]:=Lp e func82 rfl h
section
variable{n:Nat}{eG:Value}{N:Nat}{cs:List Frame}{tab:Nat→Option Obj}{bit:Nat→Bool}{w0:World}
theorem LG{w:World}(hF:WgLive link.tWg (N+3) w)(x7 x14 x15 x16 x17 x18:Value):
 fZ prog link (N+3) (Zq prog link (N+3) (fun g w=>∃a,dr n eG N a∧AnchW link (N+3) ((base 82).at a (.inRegion oq (0 :: []) :: [.code lH])) cs g w)) 20 (qp n eG N cs n x7 x14 x15 x16 x17 x18) w:=by
 unfold fZ
 simp only[qp,yM,Tryz.f82]
 u_c stepG_seq ah hF
 u_reg ah hF
 simp only[Oz]
 u_op ah hF
 u_c stepG_region_end ah hF
 u_c stepG_seq ah hF
 u_cond false ah hF
 simp only[fS]
 u_exit ah hF
 simp only[Tw,Tryz.f82]
 u_c stepG_seq ah hF
 u_reg ah hF
 have H:=LK
 have hA:dr n eG N ⟨Oz n eG N n x7 (.bool false) x15 x16 x17 x18,[]⟩:=⟨_,_,_,_,_,_,rfl⟩
 u_in ah hF
 refine goes_call (f:=111) (fn:=waitFn link) (c:=body_wait link) rfl rfl (by k_ne) rfl H.f_wait (nm_wait link) rfl ⟨by u_nil,?_⟩
 walk_nrmf waitFn
 refine Yh (m:=3) ?_ zo
 have hw:=fun(w:World) (hF:WgLive link.tWg (N+3) w)=>@JY ⟨0⟩ link prog (N+3) cs H ((base 82).at ⟨Oz n eG N n x7 (.bool false) x15 x16 x17 x18,[]⟩ (.inRegion oq (0 :: []) :: [.code lH])) w hF
 refine iQ (fun g w h=>?_) (hw _ hF)
 obtain⟨h1,g',h2,m,h3⟩:=h
 exact⟨h1,g',h2,m,iQ (fun g w h=>⟨_,hA,h⟩) h3⟩
theorem XC{w:World}{k:Nat}(hk:k<2147483648)(hF:WgLive link.tWg (N+3) w)(x7 x14 x15 x16 x17 x18:Value):
 fZ prog link (N+3) (fun g _=>g=qp n eG N cs (k+1:Nat) x7 x14 x15 x16 x17 (int i64 (k+1:Nat))) 10 (DJ n eG N cs k x7 x14 x15 x16 x17 x18) w:=by
 unfold fZ
 simp only[DJ,pn,Xx,yM,Tryz.f82,Oz]
 u_c stepG_region_end ah hF
 u_c stepG_inBlock ah hF
 u_reg ah hF
 u_op ah hF
 u_op ah hF
 u_c stepG_region_end ah hF
 simp only[fS]
 u_c stepG_inLoop ah hF
 refine Goes.stop fun w1 h1=>?_
 rw[show IntKind.i64.wrap ((k:Int)+1)=((k+1:Nat):Int) by rw[IntWalk.i64_in _ zo];omega]
 rfl
def pr(S:Site)(N:Nat):Prop:=∀i bx,i<S.n→∀w,S.V1 i bx w→Wk S.P false (S.C1 bx) (S.V1 i bx) (S.K8 i bx) (born S.P (pj N bx)) w (fun _=>False)
theorem YH(hn:n<2147483648)(hwk:pr (qB n eG N cs tab bit w0) N):∀ (r k:Nat),k+r=n→∀ (x7 x14 x15 x16 x17 x18:Value) (w:World),(qB n eG N cs tab bit w0).V0 w→
 (qB n eG N cs tab bit w0).Sp r (qp n eG N cs k x7 x14 x15 x16 x17 x18) w
 | 0,k,hk,x7,x14,x15,x16,x17,x18,w,hv=>by
   obtain rfl:k=n:=zo
   exact⟨20,LG hv.live _ _ _ _ _ _⟩
 | r+1,k,hk,x7,x14,x15,x16,x17,x18,w,hv=>by
   have ih:=YH hn hwk r (k+1) zo
   show Wk prog true (qB n eG N cs tab bit w0).Cb (qB n eG N cs tab bit w0).V0 ((qB n eG N cs tab bit w0).xV (n - (r+1)) ((qB n eG N cs tab bit w0).Sp r)) _ w (fun _=>False)
   rw[show n - (r+1)=k by omega]
   generalize hS:qB n eG N cs tab bit w0=S at *
   simp only[qp,yM,Tryz.f82,Oz]
   refine Wk.idle rfl (fun _ _=>stepG_seq) ?_
   refine Wk.idle rfl (fun _ _=>stepG_region) ?_
   simp only[List.size_toArray,List.length_cons,List.length_nil,Nat.reduceAdd,Nat.zero_add,List.range,List.range.loop]
   have hlt:decide ((k:Int)<(n:Int))=true:=zm
   refine DW (v:=.bool true) rfl rfl (by k_ne) (fun _=>by go_simp;omega) (fun _=>by simp[go_sem]) ?_
   walk_nrm
   refine Wk.idle rfl (fun _ _=>stepG_region_end) ?_
   refine Wk.idle rfl (fun _ _=>stepG_seq) ?_
   refine Wk.idle rfl (fun _ _=>stepG_cond (t:=true) rfl) ?_
   simp only[if_true]
   refine Wk.idle rfl (fun _ _=>stepG_skip) ?_
   refine Wk.idle rfl (fun _ _=>stepG_seq) ?_
   refine Wk.idle rfl (fun _ _=>stepG_block) ?_
   refine Wk.idle rfl (fun _ _=>stepG_seq) ?_
   refine Wk.idle rfl (fun _ _=>stepG_region) ?_
   simp only[List.size_toArray,List.length_cons,List.length_nil,Nat.reduceAdd,Nat.zero_add,List.range,List.range.loop]
   refine DW (v:=int i64 k) rfl rfl (by k_ne) (fun _=>by go_simp) (fun _=>by simp[go_sem]) ?_
   walk_nrm
   refine TG (obj:=.cells #[int i64 0] 3) rfl rfl (by k_ne) (fun w2=>by go_simp) (fun w2=>by simp[go_sem]) fun w2 k2 v2=>?_
   walk_nrm
   generalize hbx:w2.heap.size=bx
   have hb3:(w2.alloc (.cells #[int i64 0] 3)).heap[bx]? =some (.cells #[int i64 0] 3):=by
    subst hbx;exact Fa _ _
   generalize w2.alloc (.cells #[int i64 0] 3)=w3 at *
   refine TK (ad:=⟨bx,0,none⟩) (v:=int i64 k) rfl rfl (by k_ne) (.inr rfl) (fun w4 k4 v4=>?_) fun w4 k4 v4=>?_
   ·have hb4:=(k4 bx (.inl (.inr rfl))).trans hb3
    have hc:w4.cell? ⟨bx,0,none⟩=some (int i64 0):=by simp[World.cell?,hb4]
    have hf:w4.frozen? ⟨bx,0,none⟩=false:=by simp[World.frozen?,hb4]
    constructor
    ·go_simp
    ·refine(congrArg (seen _ _) (?_:_=#[⟨.cell ⟨bx,0,none⟩,true,false⟩])).trans (Lm _ zs)
     simp[go_sem,hc,hf]
   walk_nrm
   have hb5:(w4.setCell ⟨bx,0,none⟩ (int i64 k)).heap[bx]? =some (S.Qq k):=by
    have hb4:=(k4 bx (.inl (.inr rfl))).trans hb3
    simp only[World.setCell,Array.getElem?_modify,if_true,hb4]
    subst hS
    rfl
   have hl5:WgLive link.tWg (N+3) (w4.setCell ⟨bx,0,none⟩ (int i64 k)):=by
    have hw2:WgLive link.tWg (N+3) w2:=by subst hS;exact v2.live
    have hw4:WgLive link.tWg (N+3) w4:=by subst hS;exact v4.live
    obtain⟨st,sm,h2⟩:=hw2
    obtain⟨st4,sm4,h4⟩:=hw4
    have hlt:N+3<w2.heap.size:=(Array.getElem?_eq_some_iff.1 h2).1
    refine⟨st4,sm4,?_⟩
    show(w4.setCell ⟨bx,0,none⟩ (int i64 k)).heap[N+3]? =_
    simp only[World.setCell,Array.getElem?_modify]
    rw[if_neg zo]
    exact h4
   generalize w4.setCell ⟨bx,0,none⟩ (int i64 k)=w5 at *
   refine Wk.idle rfl (fun _ _=>stepG_region_end) ?_
   refine Wk.idle rfl (fun _ _=>stepG_seq) ?_
   refine Wk.idle rfl (fun _ _=>stepG_region) ?_
   simp only[List.size_toArray,List.length_cons,List.length_nil,Nat.reduceAdd,Nat.zero_add,List.range,List.range.loop]
   have H:=LK
   refine TH (f:=108) (fn:=addFn link) (c:=body_add link) rfl rfl (by k_ne) rfl H.f_add (nm_add link) rfl ?_
   rw[show(addFn link).ntmps=117 from rfl]
   walk_nrm
   have hw:=fun(w:World) (hF:WgLive link.tWg (N+3) w)=>@Qc ⟨0⟩ link prog (N+3) (base 82) ⟨Oz n eG N k (pt bx) (.bool true) (int i64 k) x16 x17 x18,[]⟩ dt 0 [] (.code Tv :: .inBlock 1 :: .code Xx :: fS) cs H w hF
   subst hS
   refine Ru (S:=qB n eG N cs tab bit w0) (m:=20) (w:=w5) (R:=o9 (base 82) ⟨Oz n eG N k (pt bx) (.bool true) (int i64 k) x16 x17 x18,[]⟩ dt 0 [] (.code Tv :: .inBlock 1 :: .code Xx :: fS) cs) (hw w5 hl5) ?_
   intro w6 k6 v6
   have hb6:=(k6 bx (.inl (.inr rfl))).trans hb5
   simp only[o9,dt,Tv,yM,Tryz.f82,Oz]
   walk_nrm
   refine Wk.idle rfl (fun _ _=>stepG_region_end) ?_
   refine Wk.idle rfl (fun _ _=>stepG_region) ?_
   simp only[List.size_toArray,List.length_cons,List.length_nil,Nat.reduceAdd,Nat.zero_add,List.range,List.range.loop]
   refine DW (v:=.func (.func 109) #[] #[pt (N+3),pt N,pt bx,pt (N+2)]) rfl rfl (by k_ne) (fun _=>by go_simp) (fun _=>by simp[go_sem]) ?_
   walk_nrm
   refine .stop fun w7 k7 v7=>?_
   have D7:=(k7 bx (.inl (.inr rfl))).trans hb6
   refine⟨rfl,DJ n eG N cs k (pt bx) (.bool true) (int i64 k) (.tuple #[]) (.func (.func 109) #[] #[pt (N+3),pt N,pt bx,pt (N+2)]) x18,born prog (pj N bx),bx,?_,rfl,fun b=>⟨fun h=>h.elim False.elim id,.inr⟩,D7,hwk k bx (by show k<n;omega) w7 ⟨v7,D7⟩,?_⟩
   ·rw[stepG_spawn (d:=pj N bx) (w':=w7) rfl rfl (by k_ne) (by go_simp;rfl) rfl,listed_nil (by simp[go_sem])]
    rfl
   ·have hnx:=XC (n:=n) (eG:=eG) (N:=N) (cs:=cs) (k:=k) zo v7.live (pt bx) (.bool true) (int i64 k) (.tuple #[]) (.func (.func 109) #[] #[pt (N+3),pt N,pt bx,pt (N+2)]) x18
    cases r with
    | zero=>
      obtain rfl:k+1=n:=zo
      exact⟨_,Ky 20 (fun g w hl hs=>by subst hs;exact LG hl _ _ _ _ _ _) hnx v7.live⟩
    | succ r=>exact xM (fun _ v=>v.live) hnx v7 fun g' w8 _ v8 hs=>by subst hs;exact ih _ _ _ _ _ _ w8 v8
end
noncomputable def oF:Frame:={(default:Frame) with fn:=Tryz.prog.funcs.size,defers:=[],mode:=.panicking [goexitEntry] }
noncomputable def J5:Code:=match Tryz.f109.body with
 | some c=>c
 | none=>.skip
theorem Bz:Tryz.f109.body=some J5:=rfl
theorem JG{P:Program}{main:Bool}{b:Frame}{a:Act}{k:List Item}{cs:List Frame}{w:World}{ops:Array Oper}{i:Nat}{rest:List Nat}{o:Oper}{cases:Array CommCase}{blocking:Bool}{shape:CommShape}(ho:ops[i]? =some o)(hw:Region.wanted o (yielded ops a.tmps)=true)
 (hk:b.kind≠.early)(hr:(execOp a.eval o).run P w=.ok (.comm cases blocking shape) w)(he:(execOp a.eval o).events P w #[]=#[]):
 stepG P main (G (b.at a (.inRegion ops (i :: rest) :: k)) cs) w=.comm (G (b.at a (.inRegion ops (i :: rest) :: k)) cs) cases blocking shape w #[]:=by
 rw[stepG_comm ho hw hk hr,listed_nil he]
theorem Gh(N bx:Nat)(w:World):stepG prog false (born prog (pj N bx)) w=
 .go (G ((baseD 109).at ⟨#[pt (N+3),pt N,pt bx,pt (N+2),undef,undef,undef,undef,undef],[]⟩ [.code J5]) [oF]) w #[]:=by
 have h1:¬ Tryz.f109.name= "runtime.NumGoroutine":=zD
 have e:=enter_atD (P:=prog) #[pt (N+3),pt N,pt bx,pt (N+2)] func109 Bz
 have e2:(#[pt (N+3),pt N,pt bx,pt (N+2)] ++ Array.replicate (Tryz.f109.ntmps - #[pt (N+3),pt N,pt bx,pt (N+2)].size) undef:Array Value)=#[pt (N+3),pt N,pt bx,pt (N+2),undef,undef,undef,undef,undef]:=rfl
 rw[e2] at e
 rw[← e]
 simp[born,stepG,unwind,callDeferred,pj,invoke,callFunc,func109,h1,Bz,GStep.after,seen_none,oF,G]
theorem TJ{tmps:Array Value}{todo:List Item}:QuitsD prog 2 0 (G {(baseD 109).at ⟨tmps,[]⟩ todo with mode:=.returning } [oF]):=by
 have e:Tryz.prog.funcs[Tryz.prog.funcs.size]? =none:=zs
 refine QuitsD.ctl (g':=G oF []) rfl (fun w=>?_) (QuitsD.ctl (g':={frame:=oF,callers:=[],status:=.finished,dying:=none }) rfl (fun w=>?_) ⟨rfl,rfl⟩)
 ·have hr:=results_none (fn:=Tryz.f109) rfl tmps prog w
  have he:(results Tryz.f109 tmps).events prog w #[]=#[]:=events_results_none (fn:=Tryz.f109) rfl tmps #[]
  simp[G,stepG,unwind,Frame.at,baseD,func109,hr,he,seen,GStep.after,doReturn,oF,goexitEntry]
 ·simp[G,stepG,unwind,oF,Frame.catches,e,goexitEntry,doReturn]
  rfl
section
variable{n:Nat}{N cb:Nat}{cs:List Frame}{tab:Nat→Option Obj}{bit:Nat→Bool}{w0:World}
abbrev eG(cb:Nat):Value:=.func (.func 83) #[] #[pt cb]
theorem LM(hS:(qB n (eG cb) N cs tab bit w0).Ok){C O:Nat→Prop}{V:World→Prop}(hV:∀w,V w→(qB n (eG cb) N cs tab bit w0).V0 w){tmps:Array Value}{w:World}:
 Wk prog false C V (qB n (eG cb) N cs tab bit w0).K7 (G ((baseD 109).at ⟨tmps,[dcall 110 #[pt (N+3)]]⟩ []) [oF]) w O:=by
 have H:=LK
 refine Wk.idle rfl (fun _ _=>stepG_end) ?_
 refine Wk.idle rfl (fun _ _=>stepG_unwind_enter (f:=110) (c:=body_done link) rfl H.f_done (nm_done link) rfl) ?_
 rw[show(doneFn link).ntmps=4 from rfl]
 walk_nrm
 refine .stop fun w2 k2 v2=>?_
 exact UR (S:=qB n (eG cb) N cs tab bit w0) H hS rfl TJ (hV _ v2)
theorem q9(e:Event)(h:∀m,e.loc=.mark m→b8 m=true):seen prog (baseD 109).fn #[e]=#[e]:=Lp e func109 rfl h
theorem MJ(args:Array Value)(w:World):(callFunc 83 args).events prog w #[]=#[]:=by
 have h1:¬ Tryz.f83.name= "runtime.NumGoroutine":=zD
 have h2:Tryz.f83.body.isNone=false:=rfl
 have h3:Tryz.f83.body≠none:=fun h=>by rw[h] at h2;cases h2
 simp[callFunc,func83,h1,h3,go_sem]
theorem pw(hS:(qB n (eG cb) N cs tab bit w0).Ok)(hB:tab N=some (.cells #[eG cb] 92))(hC:tab (N+2)=some (.cells #[.chan (some (N+1))] 150)){F:Fence}(hF:gu prog F.fn)(hin:∀g,F.fn g→Tryz.prog.inits.idxOf? g=none)(hal:F.alive=true){m:Nat}(hroom:F.room (1+m))
 {D:Nat→Prop}{wz:World}(hcl:Closed D wz)(hD:∀b,D b→tab b=wz.heap[b]?)(hcb:D cb)(hcall:∀i:Nat,i<n→∀σ:Tape,CallsIn F m prog 83 #[int i64 i,pt cb] (on (uN D wz) σ) (fun e _=>e=.returned (.bool (bit i)))):
 pr (qB n (eG cb) N cs tab bit w0) N:=by
 intro i bx hi w hv
 have htab:∀ {w2:World},(qB n (eG cb) N cs tab bit w0).V1 i bx w2→∀ {b o},tab b=some o→w2.heap[b]? =some o:=fun v _ _ h=>v.1.tab _ _ h
 have hcell:∀ {w2:World} {b:Nat} {v:Value} {t:TypeId},w2.heap[b]? =some (.cells #[v] t)→w2.cell? ⟨b,0,none⟩=some v:=fun h=>by simp[World.cell?,h]
 have OQ:∀ {b o},tab b=some o→(qB n (eG cb) N cs tab bit w0).C1 bx b:=fun h=>.inl (by show tab _≠none;rw[h];simp)
 show Wk prog false _ _ _ _ _ _
 refine Wk.idle rfl (fun _ _=>Gh N bx _) ?_
 simp only[J5,Tryz.f109,pt]
 refine Wk.idle rfl (fun _ _=>stepG_seq) ?_
 refine Wk.idle rfl (fun _ _=>stepG_region) ?_
 simp only[List.size_toArray,List.length_cons,List.length_nil,Nat.reduceAdd,Nat.zero_add,List.range,List.range.loop]
 refine Wk.idle rfl (fun _ _=>stepG_defer rfl rfl (by k_ne) rfl) ?_
 walk_nrm
 refine Wk.idle rfl (fun _ _=>stepG_region_end) ?_
 refine Wk.idle rfl (fun _ _=>stepG_seq) ?_
 refine Wk.idle rfl (fun _ _=>stepG_region) ?_
 simp only[List.size_toArray,List.length_cons,List.length_nil,Nat.reduceAdd,Nat.zero_add,List.range,List.range.loop]
 refine uX (v:=eG cb) (ad:=⟨N,0,none⟩) rfl rfl (by k_ne) (.inr (OQ hB)) (fun w2 k2 v2=>?_) ?_
 ·have hc:=hcell (htab v2 hB)
  constructor
  ·go_simp
  ·refine(congrArg (seen _ _) (?_:_=#[⟨.cell ⟨N,0,none⟩,false,false⟩])).trans (q9 _ zs)
   simp[go_sem,hc]
 walk_nrm
 refine uX (v:=int i64 i) (ad:=⟨bx,0,none⟩) rfl rfl (by k_ne) (.inr (.inr rfl)) (fun w2 k2 v2=>?_) ?_
 ·have hc:=hcell (b:=bx) v2.2
  constructor
  ·go_simp
  ·refine(congrArg (seen _ _) (?_:_=#[⟨.cell ⟨bx,0,none⟩,false,false⟩])).trans (q9 _ zs)
   simp[go_sem,hc]
 walk_nrm
 refine TI (f:=83) (args:=#[int i64 i,pt cb]) rfl rfl (by k_ne) (fun _=>?_) (fun _=>?_) ?_
 ·go_simp
 ·simp[go_sem,MJ]
 have hk:∀b,D b→wz.heap[b]? =w.heap[b]?:=fun b hb=>by
  obtain⟨c,e,f,h1,_⟩:=hcl b hb
  rw[h1]
  exact(htab hv ((hD b hb).trans h1)).symm
 refine DU (P:=prog) (F:=F) (D:=D) (w0:=wz) (r:=bit i) zr hF hin hal hroom (hcall i hi) ?_ (hcl.keeps fun b hb=>(hk b hb).symm) hk (fun b hb=>?_) fun w3 O3 hO=>?_
 ·refine⟨rfl,fun j h h'=>?_⟩
  match j,h with
  | 0,_=>exact .int _ _
  | 1,_=>exact .ptr ⟨KT hcb,rfl,rfl⟩
 ·obtain⟨c,e,f,h1,_⟩:=hcl b hb
  exact OQ ((hD b hb).trans h1)
 rw[Frame.finish_at]
 walk_nrm
 refine Wk.idle rfl (fun _ _=>stepG_region_end) ?_
 cases hb:bit i with
 | false=>
   refine Wk.idle rfl (fun _ _=>stepG_cond (t:=false) rfl) ?_
   simp only[if_false,Bool.false_eq_true,↓reduceIte]
   refine Wk.idle rfl (fun _ _=>stepG_skip) ?_
   exact Wk.mono (fun g w O h=>.inr ⟨hb,h⟩) (LM hS fun _ v=>v.1)
 | true=>
   refine Wk.idle rfl (fun _ _=>stepG_cond (t:=true) rfl) ?_
   simp only[if_true]
   refine Wk.idle rfl (fun _ _=>stepG_region) ?_
   simp only[List.size_toArray,List.length_cons,List.length_nil,Nat.reduceAdd,Nat.zero_add,List.range,List.range.loop]
   refine uX (v:=.chan (some (N+1))) (ad:=⟨N+2,0,none⟩) rfl rfl (by k_ne) (.inr (OQ hC)) (fun w2 k2 v2=>?_) ?_
   ·have hc:=hcell (htab v2 hC)
    constructor
    ·go_simp
    ·refine(congrArg (seen _ _) (?_:_=#[⟨.cell ⟨N+2,0,none⟩,false,false⟩])).trans (q9 _ zs)
     simp[go_sem,hc]
   walk_nrm
   refine uX (v:=int i64 i) (ad:=⟨bx,0,none⟩) rfl rfl (by k_ne) (.inr (.inr rfl)) (fun w2 k2 v2=>?_) ?_
   ·have hc:=hcell (b:=bx) v2.2
    constructor
    ·go_simp
    ·refine(congrArg (seen _ _) (?_:_=#[⟨.cell ⟨bx,0,none⟩,false,false⟩])).trans (q9 _ zs)
     simp[go_sem,hc]
   walk_nrm
   refine .stop fun w2 k2 v2=>.inl ⟨hb,rfl,?_⟩
   refine⟨_,undef,JG (cases:=#[scase (N+1) (int i64 i) undef]) (blocking:=true) (shape:=.send) rfl rfl (by k_ne) (by go_simp;rfl) (by simp[go_sem]),fun w4 k4 v4=>?_⟩
   rw[finishComm_send]
   have e:∀ (fr:Frame) (v:Value),Go.Conc.served (G fr [oF]) v=G (fr.finish v) [oF]:=fun _ _=>rfl
   rw[e,Frame.finish_at]
   walk_nrm
   refine Wk.idle rfl (fun _ _=>stepG_region_end) ?_
   exact LM hS fun _ v=>v.1
end
end
end Go.Proofs.YtoldgagdgjilgaaGreat
