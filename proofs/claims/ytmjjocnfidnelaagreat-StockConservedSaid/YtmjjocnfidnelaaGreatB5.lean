/- Link Place1 Place2 -/
import Derived.Test.YtmjjocnfidnelaaGreatA1
import Derived.Test.YtmjjocnfidnelaaGreatB4
import Derived.Conc.WgLib
set_option maxRecDepth 100000
set_option maxHeartbeats 16000000
set_option linter.unusedVariables false
set_option linter.unusedSectionVars false
set_option linter.unusedSimpArgs false
open Go.IntKind(i64)
open Go.Proofs.Tryz
open Go.Value(int)
namespace Go.Proofs.YtmjjocnfidnelaaGreat
section
open Go Go.Conc.Lib
abbrev link:WgLink:={add:=112,done:=114,wait:=115,relMerge:=129,disable:=130,enable:=131,inBubble:=132,associate:=133,fatal:=134,uOr:=135,uAdd:=136,raceRead:=137,uLoad:=138,uStore:=139,disassociate:=140,semrelease:=141,acquire:=142,isAssociated:=143,uCas:=144,raceWrite:=145,semacquire:=146,orU64:=165,addU64:=166,loadU64:=167,storeU64:=168,casU64:=169,tWgP:=180,tUP:=182,tAssoc:=183,tWg:=168,tAU:=165,tU64:=163,tUint:=149,tU32:=166,tPU32:=187,tPAU:=210,tPU64:=212,tNoCopy:=160,tANoCopy:=161,tAlign64:=162 }
theorem Nr:WgLib prog link:=
 ⟨func112,func114,func115,func129,func130,func131,func132,func133,func134,func135,func136,func137,func138,func139,func140,func141,func142,func143,func144,func145,func146,func165,func166,func167,func168,func169,underlying180,Tryz.runUnderlying180,sizeOf180,isAgg180,zeroValue180,underlying182,Tryz.runUnderlying182,sizeOf182,isAgg182,zeroValue182,underlying183,Tryz.runUnderlying183,sizeOf183,isAgg183,zeroValue183,underlying168,Tryz.runUnderlying168,sizeOf168,isAgg168,zeroValue168,underlying165,Tryz.runUnderlying165,sizeOf165,isAgg165,zeroValue165,underlying163,Tryz.runUnderlying163,sizeOf163,isAgg163,zeroValue163,underlying149,Tryz.runUnderlying149,sizeOf149,isAgg149,zeroValue149,underlying166,Tryz.runUnderlying166,sizeOf166,isAgg166,zeroValue166,underlying187,Tryz.runUnderlying187,sizeOf187,isAgg187,zeroValue187,underlying210,Tryz.runUnderlying210,sizeOf210,isAgg210,zeroValue210,underlying212,Tryz.runUnderlying212,sizeOf212,isAgg212,zeroValue212,underlying0,Tryz.runUnderlying0,sizeOf0,isAgg0,zeroValue0,underlying3,Tryz.runUnderlying3,sizeOf3,isAgg3,zeroValue3,underlying4,Tryz.runUnderlying4,sizeOf4,isAgg4,zeroValue4,underlying9,Tryz.runUnderlying9,sizeOf9,isAgg9,zeroValue9,underlying20,Tryz.runUnderlying20,sizeOf20,isAgg20,zeroValue20,underlying21,Tryz.runUnderlying21,sizeOf21,isAgg21,zeroValue21,zk,zk⟩
end
section
open Go Go.Conc Go.ConcN Go.cZ Go.Conc.Lib Go.aQ Go.ConcR.Gen Go.ConcN.Gen
open Go.ConcR (WgAt stA smA rd wr Payload)
variable[Inhabited aZ]
noncomputable def Bv:Code:=match Tryz.f86.body with
 | some (.seq _ (.seq _ (.seq _ (.seq (.seq _ (.block _ (.loop c))) _))))=>c
 | _=>.skip
noncomputable def Vn:Code:=match Tryz.f86.body with
 | some (.seq _ (.seq _ (.seq _ (.seq _ c))))=>c
 | _=>.skip
noncomputable def pz:Array Oper:=match Vn with
 | .seq (.region _ ops _) _=>ops
 | _=>#[]
noncomputable def mh:Code:=match Vn with
 | .seq _ c=>c
 | _=>.skip
noncomputable def m6:List Item:=[.inLoop Bv,.inBlock 0,.code Vn]
noncomputable def wi:Array Oper:=match Bv with
 | .seq _ (.seq _ (.seq (.block _ (.seq _ (.seq _ (.region _ ops _)))) _))=>ops
 | _=>#[]
noncomputable def Vm:Code:=match Bv with
 | .seq _ (.seq _ (.seq (.block _ (.seq _ (.seq _ c))) _))=>c
 | _=>.skip
noncomputable def ks:Array Oper:=match Bv with
 | .seq _ (.seq _ (.seq (.block _ (.seq _ (.seq (.region _ ops _) _))) _))=>ops
 | _=>#[]
noncomputable def Zm:Code:=match Bv with
 | .seq _ (.seq _ (.seq _ c))=>c
 | _=>.skip
def pt(b:Nat):Value:=.pointer (some ⟨b,0,none⟩)
def Qj(n:Nat)(fC:Value)(N:Nat)(k:Int)(x7 x14 x15 x16 x17 x18:Value):Array Value:=
 #[int i64 n,fC,undef,pt N,.slice none 0 0,pt (N+2),pt (N+3),x7,undef,undef,int i64 n,.chan (some (N+1)),int i64 n,int i64 k,x14,x15,x16,x17,x18,undef,undef,undef,undef,undef,undef,undef,undef,undef,undef,undef,undef,undef]
def kp(n:Nat)(fC:Value)(N:Nat)(a:Act):Prop:=∃x7 x14 x15 x16 x17 x18,a=⟨Qj n fC N n x7 x14 x15 x16 x17 x18,[]⟩
noncomputable abbrev rz (n:Nat) (fC:Value) (N:Nat) (cs:List Frame) (k:Int) (x7 x14 x15 x16 x17 x18:Value):Goroutine:=G ((base 86).at ⟨Qj n fC N k x7 x14 x15 x16 x17 x18,[]⟩ (.code Bv :: m6)) cs
noncomputable def rG(n:Nat)(fC:Value)(N:Nat)(cs:List Frame)(tab:Nat→Option Obj)(bit:Nat→Bool)(w0:World):Site:={
 P:=prog
 L:=link
 Wg:=N+3
 Ch:=N+1
 n:=n
 tab:=tab
 pA:=⟨96⟩
 pB:=⟨158⟩
 bA:=N
 bB:=N+2
 vA:=fC
 vB:=.chan (some (N+1))
 tI:=3
 bit:=bit
 Anch:=fun g w=>∃a,kp n fC N a∧AnchW link (N+3) ((base 86).at a (.inRegion pz (0 :: []) :: [.code mh])) cs g w
 Fin:=fun g=>∃a,kp n fC N a∧VT prog link (N+3) (qE (base 86) a pz 0 [] [.code mh] cs) g
 os0:=w0.os
 uA:=w0.output
 bj:=w0.tape }
def we(N bx:Nat):Deferred:={target:=.fn (.func 113) #[pt (N+3),pt N,pt bx,pt (N+2)],args:=#[] }
noncomputable abbrev EO (n:Nat) (fC:Value) (N:Nat) (cs:List Frame) (k:Int) (x7 x14 x15 x16 x17 x18:Value):Goroutine:=G ((base 86).at ⟨Qj n fC N k x7 x14 x15 x16 x17 x18,[]⟩ (.inRegion wi [] :: .inBlock 1 :: .code Zm :: m6)) cs
theorem Gn(w:World)(o:Obj):(w.alloc o).heap[w.heap.size]? =some o:=by
 show(w.heap.push o)[w.heap.size]? =some o
 simp
def okMk:Mark→Bool
 | .acquire _| .release _| .releaseMerge _| .disable| .enable| .read _| .write _| .noRoom=>true
 | _=>false
theorem Nb{P:Program}{fn:FuncId}{f:Func}(e:Event)(hf:P.funcs[fn]? =some f)(hn:f.norace=false)(h:∀m,e.loc=.mark m→okMk m=true):seen P fn #[e]=#[e]:=by
 obtain⟨loc,x,y⟩:=e
 unfold seen
 simp only[List.foldl_toArray',List.size_toArray,List.length_singleton,List.foldl_cons,List.foldl_nil,hf,Option.any_some,hn]
 cases loc with
 | mark m=>
   have hm:=h m rfl
   cases m <;> first|rfl|cases hm
 | _=>rfl
theorem Na(e:Event)(h:∀m,e.loc=.mark m→okMk m=true):seen prog (base 86).fn #[e]=#[e]:=Nb e func86 rfl h
section
variable{n:Nat}{fC:Value}{N:Nat}{cs:List Frame}{tab:Nat→Option Obj}{bit:Nat→Bool}{w0:World}
theorem Nn{w:World}(hF:WgLive link.tWg (N+3) w)(x7 x14 x15 x16 x17 x18:Value):
 gH prog link (N+3) (dm prog link (N+3) (fun g w=>∃a,kp n fC N a∧AnchW link (N+3) ((base 86).at a (.inRegion pz (0 :: []) :: [.code mh])) cs g w)) 20 (rz n fC N cs n x7 x14 x15 x16 x17 x18) w:=by
 unfold gH
 simp only[rz,Bv,Tryz.f86]
 u_c stepG_seq ah hF
 u_reg ah hF
 simp only[Qj]
 u_op ah hF
 u_c stepG_region_end ah hF
 u_c stepG_seq ah hF
 u_cond false ah hF
 simp only[m6]
 u_exit ah hF
 simp only[Vn,Tryz.f86]
 u_c stepG_seq ah hF
 u_reg ah hF
 have H:=Nr
 have hA:kp n fC N ⟨Qj n fC N n x7 (.bool false) x15 x16 x17 x18,[]⟩:=⟨_,_,_,_,_,_,rfl⟩
 u_in ah hF
 refine goes_call (f:=115) (fn:=waitFn link) (c:=body_wait link) rfl rfl (by k_ne) rfl H.f_wait (nm_wait link) rfl ⟨by u_nil,?_⟩
 walk_nrmf waitFn
 refine Z4 (m:=3) ?_ zo
 have hw:=fun(w:World) (hF:WgLive link.tWg (N+3) w)=>@Lr ⟨0⟩ link prog (N+3) cs H ((base 86).at ⟨Qj n fC N n x7 (.bool false) x15 x16 x17 x18,[]⟩ (.inRegion pz (0 :: []) :: [.code mh])) w hF
 refine jc (fun g w h=>?_) (hw _ hF)
 obtain⟨h1,g',h2,m,h3⟩:=h
 exact⟨h1,g',h2,m,jc (fun g w h=>⟨_,hA,h⟩) h3⟩
theorem Zq{w:World}{k:Nat}(hk:k<2147483648)(hF:WgLive link.tWg (N+3) w)(x7 x14 x15 x16 x17 x18:Value):
 gH prog link (N+3) (fun g _=>g=rz n fC N cs (k+1:Nat) x7 x14 x15 x16 x17 (int i64 (k+1:Nat))) 10 (EO n fC N cs k x7 x14 x15 x16 x17 x18) w:=by
 unfold gH
 simp only[EO,wi,Zm,Bv,Tryz.f86,Qj]
 u_c stepG_region_end ah hF
 u_c stepG_inBlock ah hF
 u_reg ah hF
 u_op ah hF
 u_op ah hF
 u_c stepG_region_end ah hF
 simp only[m6]
 u_c stepG_inLoop ah hF
 refine Goes.stop fun w1 h1=>?_
 rw[show IntKind.i64.wrap ((k:Int)+1)=((k+1:Nat):Int) by rw[IntWalk.i64_in _ zo];omega]
 rfl
def wv(S:Site)(N:Nat):Prop:=∀i bx,i<S.n→∀w,S.V1 i bx w→Wk S.P false (S.C1 bx) (S.V1 i bx) (S.K8 i bx) (born S.P (we N bx)) w (fun _=>False)
theorem bm(hn:n<2147483648)(hwk:wv (rG n fC N cs tab bit w0) N):∀ (r k:Nat),k+r=n→∀ (x7 x14 x15 x16 x17 x18:Value) (w:World),(rG n fC N cs tab bit w0).V0 w→
 (rG n fC N cs tab bit w0).Sp r (rz n fC N cs k x7 x14 x15 x16 x17 x18) w
 | 0,k,hk,x7,x14,x15,x16,x17,x18,w,hv=>by
   obtain rfl:k=n:=zo
   exact⟨20,Nn hv.live _ _ _ _ _ _⟩
 | r+1,k,hk,x7,x14,x15,x16,x17,x18,w,hv=>by
   have ih:=bm hn hwk r (k+1) zo
   show Wk prog true (rG n fC N cs tab bit w0).Cb (rG n fC N cs tab bit w0).V0 ((rG n fC N cs tab bit w0).Ay (n - (r+1)) ((rG n fC N cs tab bit w0).Sp r)) _ w (fun _=>False)
   rw[show n - (r+1)=k by omega]
   generalize hS:rG n fC N cs tab bit w0=S at *
   simp only[rz,Bv,Tryz.f86,Qj]
   refine Wk.idle rfl (fun _ _=>stepG_seq) ?_
   refine Wk.idle rfl (fun _ _=>stepG_region) ?_
   simp only[List.size_toArray,List.length_cons,List.length_nil,Nat.reduceAdd,Nat.zero_add,List.range,List.range.loop]
   have hlt:decide ((k:Int)<(n:Int))=true:=zm
   refine EY (v:=.bool true) rfl rfl (by k_ne) (fun _=>by go_simp;omega) (fun _=>by simp[go_sem]) ?_
   walk_nrm
   refine Wk.idle rfl (fun _ _=>stepG_region_end) ?_
   refine Wk.idle rfl (fun _ _=>stepG_seq) ?_
   refine Wk.idle rfl (fun _ _=>stepG_cond (t:=true) rfl) ?_
   simp only[if_true]
   refine Wk.idle rfl (fun _ _=>stepG_skip) ?_
   refine Wk.idle rfl (fun _ _=>stepG_seq) ?_
   refine Wk.idle rfl (fun _ _=>stepG_block) ?_
   refine Wk.idle rfl (fun _ _=>stepG_seq) ?_
   refine Wk.idle rfl (fun _ _=>stepG_region) ?_
   simp only[List.size_toArray,List.length_cons,List.length_nil,Nat.reduceAdd,Nat.zero_add,List.range,List.range.loop]
   refine EY (v:=int i64 k) rfl rfl (by k_ne) (fun _=>by go_simp) (fun _=>by simp[go_sem]) ?_
   walk_nrm
   refine Vu (obj:=.cells #[int i64 0] 3) rfl rfl (by k_ne) (fun w2=>by go_simp) (fun w2=>by simp[go_sem]) fun w2 k2 v2=>?_
   walk_nrm
   generalize hbx:w2.heap.size=bx
   have hb3:(w2.alloc (.cells #[int i64 0] 3)).heap[bx]? =some (.cells #[int i64 0] 3):=by
    subst hbx;exact Gn _ _
   generalize w2.alloc (.cells #[int i64 0] 3)=w3 at *
   refine Vy (ad:=⟨bx,0,none⟩) (v:=int i64 k) rfl rfl (by k_ne) (.inr rfl) (fun w4 k4 v4=>?_) fun w4 k4 v4=>?_
   ·have hb4:=(k4 bx (.inl (.inr rfl))).trans hb3
    have hc:w4.cell? ⟨bx,0,none⟩=some (int i64 0):=by simp[World.cell?,hb4]
    have hf:w4.frozen? ⟨bx,0,none⟩=false:=by simp[World.frozen?,hb4]
    constructor
    ·go_simp
    ·refine(congrArg (seen _ _) (?_:_=#[⟨.cell ⟨bx,0,none⟩,true,false⟩])).trans (Na _ zs)
     simp[go_sem,hc,hf]
   walk_nrm
   have hb5:(w4.setCell ⟨bx,0,none⟩ (int i64 k)).heap[bx]? =some (S.RP k):=by
    have hb4:=(k4 bx (.inl (.inr rfl))).trans hb3
    simp only[World.setCell,Array.getElem?_modify,if_true,hb4]
    subst hS
    rfl
   have hl5:WgLive link.tWg (N+3) (w4.setCell ⟨bx,0,none⟩ (int i64 k)):=by
    have hw2:WgLive link.tWg (N+3) w2:=by subst hS;exact v2.live
    have hw4:WgLive link.tWg (N+3) w4:=by subst hS;exact v4.live
    obtain⟨st,sm,h2⟩:=hw2
    obtain⟨st4,sm4,h4⟩:=hw4
    have hlt:N+3<w2.heap.size:=(Array.getElem?_eq_some_iff.1 h2).1
    refine⟨st4,sm4,?_⟩
    show(w4.setCell ⟨bx,0,none⟩ (int i64 k)).heap[N+3]? =_
    simp only[World.setCell,Array.getElem?_modify]
    rw[if_neg zo]
    exact h4
   generalize w4.setCell ⟨bx,0,none⟩ (int i64 k)=w5 at *
   refine Wk.idle rfl (fun _ _=>stepG_region_end) ?_
   refine Wk.idle rfl (fun _ _=>stepG_seq) ?_
   refine Wk.idle rfl (fun _ _=>stepG_region) ?_
   simp only[List.size_toArray,List.length_cons,List.length_nil,Nat.reduceAdd,Nat.zero_add,List.range,List.range.loop]
   have H:=Nr
   refine Vv (f:=112) (fn:=addFn link) (c:=body_add link) rfl rfl (by k_ne) rfl H.f_add (nm_add link) rfl ?_
   rw[show(addFn link).ntmps=117 from rfl]
   walk_nrm
   have hw:=fun(w:World) (hF:WgLive link.tWg (N+3) w)=>@Ry ⟨0⟩ link prog (N+3) (base 86) ⟨Qj n fC N k (pt bx) (.bool true) (int i64 k) x16 x17 x18,[]⟩ ks 0 [] (.code Vm :: .inBlock 1 :: .code Zm :: m6) cs H w hF
   subst hS
   refine TA (S:=rG n fC N cs tab bit w0) (m:=20) (w:=w5) (R:=qE (base 86) ⟨Qj n fC N k (pt bx) (.bool true) (int i64 k) x16 x17 x18,[]⟩ ks 0 [] (.code Vm :: .inBlock 1 :: .code Zm :: m6) cs) (hw w5 hl5) ?_
   intro w6 k6 v6
   have hb6:=(k6 bx (.inl (.inr rfl))).trans hb5
   simp only[qE,ks,Vm,Bv,Tryz.f86,Qj]
   walk_nrm
   refine Wk.idle rfl (fun _ _=>stepG_region_end) ?_
   refine Wk.idle rfl (fun _ _=>stepG_region) ?_
   simp only[List.size_toArray,List.length_cons,List.length_nil,Nat.reduceAdd,Nat.zero_add,List.range,List.range.loop]
   refine EY (v:=.func (.func 113) #[] #[pt (N+3),pt N,pt bx,pt (N+2)]) rfl rfl (by k_ne) (fun _=>by go_simp) (fun _=>by simp[go_sem]) ?_
   walk_nrm
   refine .stop fun w7 k7 v7=>?_
   have Sz:=(k7 bx (.inl (.inr rfl))).trans hb6
   refine⟨rfl,EO n fC N cs k (pt bx) (.bool true) (int i64 k) (.tuple #[]) (.func (.func 113) #[] #[pt (N+3),pt N,pt bx,pt (N+2)]) x18,born prog (we N bx),bx,?_,rfl,fun b=>⟨fun h=>h.elim False.elim id,.inr⟩,Sz,hwk k bx (by show k<n;omega) w7 ⟨v7,Sz⟩,?_⟩
   ·rw[stepG_spawn (d:=we N bx) (w':=w7) rfl rfl (by k_ne) (by go_simp;rfl) rfl,listed_nil (by simp[go_sem])]
    rfl
   ·have hnx:=Zq (n:=n) (fC:=fC) (N:=N) (cs:=cs) (k:=k) zo v7.live (pt bx) (.bool true) (int i64 k) (.tuple #[]) (.func (.func 113) #[] #[pt (N+3),pt N,pt bx,pt (N+2)]) x18
    cases r with
    | zero=>
      obtain rfl:k+1=n:=zo
      exact⟨_,Md 20 (fun g w hl hs=>by subst hs;exact Nn hl _ _ _ _ _ _) hnx v7.live⟩
    | succ r=>exact Aj (fun _ v=>v.live) hnx v7 fun g' w8 _ v8 hs=>by subst hs;exact ih _ _ _ _ _ _ w8 v8
end
noncomputable def pO:Frame:={(default:Frame) with fn:=Tryz.prog.funcs.size,defers:=[],mode:=.panicking [goexitEntry] }
noncomputable def Lu:Code:=match Tryz.f113.body with
 | some c=>c
 | none=>.skip
theorem Di:Tryz.f113.body=some Lu:=rfl
theorem KV{P:Program}{main:Bool}{b:Frame}{a:Act}{k:List Item}{cs:List Frame}{w:World}{ops:Array Oper}{i:Nat}{rest:List Nat}{o:Oper}{cases:Array CommCase}{blocking:Bool}{shape:CommShape}(ho:ops[i]? =some o)(hw:Region.wanted o (yielded ops a.tmps)=true)
 (hk:b.kind≠.early)(hr:(execOp a.eval o).run P w=.ok (.comm cases blocking shape) w)(he:(execOp a.eval o).events P w #[]=#[]):
 stepG P main (G (b.at a (.inRegion ops (i :: rest) :: k)) cs) w=.comm (G (b.at a (.inRegion ops (i :: rest) :: k)) cs) cases blocking shape w #[]:=by
 rw[stepG_comm ho hw hk hr,listed_nil he]
theorem Ij(N bx:Nat)(w:World):stepG prog false (born prog (we N bx)) w=
 .go (G ((baseD 113).at ⟨#[pt (N+3),pt N,pt bx,pt (N+2),undef,undef,undef,undef,undef],[]⟩ [.code Lu]) [pO]) w #[]:=by
 have h1:¬ Tryz.f113.name= "runtime.NumGoroutine":=zD
 have e:=enter_atD (P:=prog) #[pt (N+3),pt N,pt bx,pt (N+2)] func113 Di
 have e2:(#[pt (N+3),pt N,pt bx,pt (N+2)] ++ Array.replicate (Tryz.f113.ntmps - #[pt (N+3),pt N,pt bx,pt (N+2)].size) undef:Array Value)=#[pt (N+3),pt N,pt bx,pt (N+2),undef,undef,undef,undef,undef]:=rfl
 rw[e2] at e
 rw[← e]
 simp[born,stepG,unwind,callDeferred,we,invoke,callFunc,func113,h1,Di,GStep.after,seen_none,pO,G]
theorem Vx{tmps:Array Value}{todo:List Item}:QuitsD prog 2 0 (G {(baseD 113).at ⟨tmps,[]⟩ todo with mode:=.returning } [pO]):=by
 have e:Tryz.prog.funcs[Tryz.prog.funcs.size]? =none:=zs
 refine QuitsD.ctl (g':=G pO []) rfl (fun w=>?_) (QuitsD.ctl (g':={frame:=pO,callers:=[],status:=.finished,dying:=none }) rfl (fun w=>?_) ⟨rfl,rfl⟩)
 ·have hr:=results_none (fn:=Tryz.f113) rfl tmps prog w
  have he:(results Tryz.f113 tmps).events prog w #[]=#[]:=events_results_none (fn:=Tryz.f113) rfl tmps #[]
  simp[G,stepG,unwind,Frame.at,baseD,func113,hr,he,seen,GStep.after,doReturn,pO,goexitEntry]
 ·simp[G,stepG,unwind,pO,Frame.catches,e,goexitEntry,doReturn]
  rfl
section
variable{n:Nat}{N cb:Nat}{cs:List Frame}{tab:Nat→Option Obj}{bit:Nat→Bool}{w0:World}
abbrev fC(cb:Nat):Value:=.func (.func 87) #[] #[pt cb]
theorem Ns(hS:(rG n (fC cb) N cs tab bit w0).Ok){C O:Nat→Prop}{V:World→Prop}(hV:∀w,V w→(rG n (fC cb) N cs tab bit w0).V0 w){tmps:Array Value}{w:World}:
 Wk prog false C V (rG n (fC cb) N cs tab bit w0).K7 (G ((baseD 113).at ⟨tmps,[dcall 114 #[pt (N+3)]]⟩ []) [pO]) w O:=by
 have H:=Nr
 refine Wk.idle rfl (fun _ _=>stepG_end) ?_
 refine Wk.idle rfl (fun _ _=>stepG_unwind_enter (f:=114) (c:=body_done link) rfl H.f_done (nm_done link) rfl) ?_
 rw[show(doneFn link).ntmps=4 from rfl]
 walk_nrm
 refine .stop fun w2 k2 v2=>?_
 exact Xa (S:=rG n (fC cb) N cs tab bit w0) H hS rfl Vx (hV _ v2)
theorem sJ(e:Event)(h:∀m,e.loc=.mark m→okMk m=true):seen prog (baseD 113).fn #[e]=#[e]:=Nb e func113 rfl h
theorem Ou(args:Array Value)(w:World):(callFunc 87 args).events prog w #[]=#[]:=by
 have h1:¬ Tryz.f87.name= "runtime.NumGoroutine":=zD
 have h2:Tryz.f87.body.isNone=false:=rfl
 have h3:Tryz.f87.body≠none:=fun h=>by rw[h] at h2;cases h2
 simp[callFunc,func87,h1,h3,go_sem]
theorem xb(hS:(rG n (fC cb) N cs tab bit w0).Ok)(hB:tab N=some (.cells #[fC cb] 96))(hC:tab (N+2)=some (.cells #[.chan (some (N+1))] 158)){F:Fence}(hF:gK prog F.fn)(hin:∀g,F.fn g→Tryz.prog.inits.idxOf? g=none)(hal:F.alive=true){m:Nat}(hroom:F.room (1+m))
 {D:Nat→Prop}{wz:World}(hcl:Closed D wz)(hD:∀b,D b→tab b=wz.heap[b]?)(hcb:D cb)(hcall:∀i:Nat,i<n→∀σ:Tape,CallsIn F m prog 87 #[int i64 i,pt cb] (on (wh D wz) σ) (fun e _=>e=.returned (.bool (bit i)))):
 wv (rG n (fC cb) N cs tab bit w0) N:=by
 intro i bx hi w hv
 have htab:∀ {w2:World},(rG n (fC cb) N cs tab bit w0).V1 i bx w2→∀ {b o},tab b=some o→w2.heap[b]? =some o:=fun v _ _ h=>v.1.tab _ _ h
 have hcell:∀ {w2:World} {b:Nat} {v:Value} {t:TypeId},w2.heap[b]? =some (.cells #[v] t)→w2.cell? ⟨b,0,none⟩=some v:=fun h=>by simp[World.cell?,h]
 have Qz:∀ {b o},tab b=some o→(rG n (fC cb) N cs tab bit w0).C1 bx b:=fun h=>.inl (by show tab _≠none;rw[h];simp)
 show Wk prog false _ _ _ _ _ _
 refine Wk.idle rfl (fun _ _=>Ij N bx _) ?_
 simp only[Lu,Tryz.f113,pt]
 refine Wk.idle rfl (fun _ _=>stepG_seq) ?_
 refine Wk.idle rfl (fun _ _=>stepG_region) ?_
 simp only[List.size_toArray,List.length_cons,List.length_nil,Nat.reduceAdd,Nat.zero_add,List.range,List.range.loop]
 refine Wk.idle rfl (fun _ _=>stepG_defer rfl rfl (by k_ne) rfl) ?_
 walk_nrm
 refine Wk.idle rfl (fun _ _=>stepG_region_end) ?_
 refine Wk.idle rfl (fun _ _=>stepG_seq) ?_
 refine Wk.idle rfl (fun _ _=>stepG_region) ?_
 simp only[List.size_toArray,List.length_cons,List.length_nil,Nat.reduceAdd,Nat.zero_add,List.range,List.range.loop]
 refine wK (v:=fC cb) (ad:=⟨N,0,none⟩) rfl rfl (by k_ne) (.inr (Qz hB)) (fun w2 k2 v2=>?_) ?_
 ·have hc:=hcell (htab v2 hB)
  constructor
  ·go_simp
  ·refine(congrArg (seen _ _) (?_:_=#[⟨.cell ⟨N,0,none⟩,false,false⟩])).trans (sJ _ zs)
   simp[go_sem,hc]
 walk_nrm
 refine wK (v:=int i64 i) (ad:=⟨bx,0,none⟩) rfl rfl (by k_ne) (.inr (.inr rfl)) (fun w2 k2 v2=>?_) ?_
 ·have hc:=hcell (b:=bx) v2.2
  constructor
  ·go_simp
  ·refine(congrArg (seen _ _) (?_:_=#[⟨.cell ⟨bx,0,none⟩,false,false⟩])).trans (sJ _ zs)
   simp[go_sem,hc]
 walk_nrm
 refine Vw (f:=87) (args:=#[int i64 i,pt cb]) rfl rfl (by k_ne) (fun _=>?_) (fun _=>?_) ?_
 ·go_simp
 ·simp[go_sem,Ou]
 have hk:∀b,D b→wz.heap[b]? =w.heap[b]?:=fun b hb=>by
  obtain⟨c,e,f,h1,_⟩:=hcl b hb
  rw[h1]
  exact(htab hv ((hD b hb).trans h1)).symm
 refine EW (P:=prog) (F:=F) (D:=D) (w0:=wz) (r:=bit i) zr hF hin hal hroom (hcall i hi) ?_ (hcl.keeps fun b hb=>(hk b hb).symm) hk (fun b hb=>?_) fun w3 O3 hO=>?_
 ·refine⟨rfl,fun j h h'=>?_⟩
  match j,h with
  | 0,_=>exact .int _ _
  | 1,_=>exact .ptr ⟨MG hcb,rfl,rfl⟩
 ·obtain⟨c,e,f,h1,_⟩:=hcl b hb
  exact Qz ((hD b hb).trans h1)
 rw[Frame.finish_at]
 walk_nrm
 refine Wk.idle rfl (fun _ _=>stepG_region_end) ?_
 cases hb:bit i with
 | false=>
   refine Wk.idle rfl (fun _ _=>stepG_cond (t:=false) rfl) ?_
   simp only[if_false,Bool.false_eq_true,↓reduceIte]
   refine Wk.idle rfl (fun _ _=>stepG_skip) ?_
   exact Wk.mono (fun g w O h=>.inr ⟨hb,h⟩) (Ns hS fun _ v=>v.1)
 | true=>
   refine Wk.idle rfl (fun _ _=>stepG_cond (t:=true) rfl) ?_
   simp only[if_true]
   refine Wk.idle rfl (fun _ _=>stepG_region) ?_
   simp only[List.size_toArray,List.length_cons,List.length_nil,Nat.reduceAdd,Nat.zero_add,List.range,List.range.loop]
   refine wK (v:=.chan (some (N+1))) (ad:=⟨N+2,0,none⟩) rfl rfl (by k_ne) (.inr (Qz hC)) (fun w2 k2 v2=>?_) ?_
   ·have hc:=hcell (htab v2 hC)
    constructor
    ·go_simp
    ·refine(congrArg (seen _ _) (?_:_=#[⟨.cell ⟨N+2,0,none⟩,false,false⟩])).trans (sJ _ zs)
     simp[go_sem,hc]
   walk_nrm
   refine wK (v:=int i64 i) (ad:=⟨bx,0,none⟩) rfl rfl (by k_ne) (.inr (.inr rfl)) (fun w2 k2 v2=>?_) ?_
   ·have hc:=hcell (b:=bx) v2.2
    constructor
    ·go_simp
    ·refine(congrArg (seen _ _) (?_:_=#[⟨.cell ⟨bx,0,none⟩,false,false⟩])).trans (sJ _ zs)
     simp[go_sem,hc]
   walk_nrm
   refine .stop fun w2 k2 v2=>.inl ⟨hb,rfl,?_⟩
   refine⟨_,undef,KV (cases:=#[scase (N+1) (int i64 i) undef]) (blocking:=true) (shape:=.send) rfl rfl (by k_ne) (by go_simp;rfl) (by simp[go_sem]),fun w4 k4 v4=>?_⟩
   rw[finishComm_send]
   have e:∀ (fr:Frame) (v:Value),Go.Conc.served (G fr [pO]) v=G (fr.finish v) [pO]:=fun _ _=>rfl
   rw[e,Frame.finish_at]
   walk_nrm
   refine Wk.idle rfl (fun _ _=>stepG_region_end) ?_
   exact Ns hS fun _ v=>v.1
end
end
end Go.Proofs.YtmjjocnfidnelaaGreat
