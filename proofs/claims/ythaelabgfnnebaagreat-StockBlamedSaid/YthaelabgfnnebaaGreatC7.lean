/- Link Place1 Place2 -/
import Derived.Test.YthaelabgfnnebaaGreatA1
import Derived.Test.YthaelabgfnnebaaGreatC6
import Derived.Conc.WgLib
set_option maxRecDepth 100000
set_option maxHeartbeats 16000000
set_option linter.unusedVariables false
set_option linter.unusedSectionVars false
set_option linter.unusedSimpArgs false
open Go.IntKind(i64)
open Go.Proofs.Tryz
open Go.Value(int)
namespace Go.Proofs.YthaelabgfnnebaaGreat
section
open Go Go.Conc.Lib
abbrev link:WgLink:={add:=109,done:=111,wait:=112,relMerge:=135,disable:=136,enable:=137,inBubble:=138,associate:=139,fatal:=140,uOr:=141,uAdd:=142,raceRead:=143,uLoad:=144,uStore:=145,disassociate:=146,semrelease:=147,acquire:=148,isAssociated:=149,uCas:=150,raceWrite:=151,semacquire:=152,orU64:=171,addU64:=172,loadU64:=173,storeU64:=174,casU64:=175,tWgP:=178,tUP:=180,tAssoc:=181,tWg:=164,tAU:=161,tU64:=159,tUint:=141,tU32:=162,tPU32:=185,tPAU:=209,tPU64:=211,tNoCopy:=156,tANoCopy:=157,tAlign64:=158 }
theorem MW:WgLib prog link:=
 ⟨func109,func111,func112,func135,func136,func137,func138,func139,func140,func141,func142,func143,func144,func145,func146,func147,func148,func149,func150,func151,func152,func171,func172,func173,func174,func175,underlying178,Tryz.runUnderlying178,sizeOf178,isAgg178,zeroValue178,underlying180,Tryz.runUnderlying180,sizeOf180,isAgg180,zeroValue180,underlying181,Tryz.runUnderlying181,sizeOf181,isAgg181,zeroValue181,underlying164,Tryz.runUnderlying164,sizeOf164,isAgg164,zeroValue164,underlying161,Tryz.runUnderlying161,sizeOf161,isAgg161,zeroValue161,underlying159,Tryz.runUnderlying159,sizeOf159,isAgg159,zeroValue159,underlying141,Tryz.runUnderlying141,sizeOf141,isAgg141,zeroValue141,underlying162,Tryz.runUnderlying162,sizeOf162,isAgg162,zeroValue162,underlying185,Tryz.runUnderlying185,sizeOf185,isAgg185,zeroValue185,underlying209,Tryz.runUnderlying209,sizeOf209,isAgg209,zeroValue209,underlying211,Tryz.runUnderlying211,sizeOf211,isAgg211,zeroValue211,underlying0,Tryz.runUnderlying0,sizeOf0,isAgg0,zeroValue0,underlying3,Tryz.runUnderlying3,sizeOf3,isAgg3,zeroValue3,underlying4,Tryz.runUnderlying4,sizeOf4,isAgg4,zeroValue4,underlying9,Tryz.runUnderlying9,sizeOf9,isAgg9,zeroValue9,underlying20,Tryz.runUnderlying20,sizeOf20,isAgg20,zeroValue20,underlying21,Tryz.runUnderlying21,sizeOf21,isAgg21,zeroValue21,zk,zk⟩
end
section
open Go Go.Conc Go.ConcN Go.cu Go.Conc.Lib Go.aO Go.ConcR.Gen Go.ConcN.Gen
open Go.ConcR (WgAt stA smA rd wr Payload)
variable[Inhabited aV]
noncomputable def Ay:Code:=match Tryz.f82.body with
 | some (.seq _ (.seq _ (.seq _ (.seq (.seq _ (.block _ (.loop c))) _))))=>c
 | _=>.skip
noncomputable def UJ:Code:=match Tryz.f82.body with
 | some (.seq _ (.seq _ (.seq _ (.seq _ c))))=>c
 | _=>.skip
noncomputable def oU:Array Oper:=match UJ with
 | .seq (.region _ ops _) _=>ops
 | _=>#[]
noncomputable def lV:Code:=match UJ with
 | .seq _ c=>c
 | _=>.skip
noncomputable def ln:List Item:=[.inLoop Ay,.inBlock 0,.code UJ]
noncomputable def tG:Array Oper:=match Ay with
 | .seq _ (.seq _ (.seq (.block _ (.seq _ (.seq _ (.region _ ops _)))) _))=>ops
 | _=>#[]
noncomputable def UH:Code:=match Ay with
 | .seq _ (.seq _ (.seq (.block _ (.seq _ (.seq _ c))) _))=>c
 | _=>.skip
noncomputable def gS:Array Oper:=match Ay with
 | .seq _ (.seq _ (.seq (.block _ (.seq _ (.seq (.region _ ops _) _))) _))=>ops
 | _=>#[]
noncomputable def YJ:Code:=match Ay with
 | .seq _ (.seq _ (.seq _ c))=>c
 | _=>.skip
def pt(b:Nat):Value:=.pointer (some ⟨b,0,none⟩)
def P5(n:Nat)(fB:Value)(N:Nat)(k:Int)(x7 x14 x15 x16 x17 x18:Value):Array Value:=
 #[int i64 n,fB,undef,pt N,.slice none 0 0,pt (N+2),pt (N+3),x7,undef,undef,int i64 n,.chan (some (N+1)),int i64 n,int i64 k,x14,x15,x16,x17,x18,undef,undef,undef,undef,undef,undef,undef,undef,undef,undef,undef,undef,undef]
def gR(n:Nat)(fB:Value)(N:Nat)(a:Act):Prop:=∃x7 x14 x15 x16 x17 x18,a=⟨P5 n fB N n x7 x14 x15 x16 x17 x18,[]⟩
noncomputable abbrev qP (n:Nat) (fB:Value) (N:Nat) (cs:List Frame) (k:Int) (x7 x14 x15 x16 x17 x18:Value):Goroutine:=G ((base 82).at ⟨P5 n fB N k x7 x14 x15 x16 x17 x18,[]⟩ (.code Ay :: ln)) cs
noncomputable def qW(n:Nat)(fB:Value)(N:Nat)(cs:List Frame)(tab:Nat→Option Obj)(bit:Nat→Bool)(w0:World):Site:={
 P:=prog
 L:=link
 Wg:=N+3
 Ch:=N+1
 n:=n
 tab:=tab
 pA:=⟨82⟩
 pB:=⟨154⟩
 bA:=N
 bB:=N+2
 vA:=fB
 vB:=.chan (some (N+1))
 tI:=3
 bit:=bit
 Anch:=fun g w=>∃a,gR n fB N a∧AnchW link (N+3) ((base 82).at a (.inRegion oU (0 :: []) :: [.code lV])) cs g w
 Fin:=fun g=>∃a,gR n fB N a∧Vq prog link (N+3) (qm (base 82) a oU 0 [] [.code lV] cs) g
 os0:=w0.os
 s9:=w0.output
 ZO:=w0.tape }
def tE(N bx:Nat):Deferred:={target:=.fn (.func 110) #[pt (N+3),pt N,pt bx,pt (N+2)],args:=#[] }
noncomputable abbrev EF (n:Nat) (fB:Value) (N:Nat) (cs:List Frame) (k:Int) (x7 x14 x15 x16 x17 x18:Value):Goroutine:=G ((base 82).at ⟨P5 n fB N k x7 x14 x15 x16 x17 x18,[]⟩ (.inRegion tG [] :: .inBlock 1 :: .code YJ :: ln)) cs
theorem Gf(w:World)(o:Obj):(w.alloc o).heap[w.heap.size]? =some o:=by
 show(w.heap.push o)[w.heap.size]? =some o
 simp
def fl:Mark→Bool
 | .acquire _| .release _| .releaseMerge _| .disable| .enable| .read _| .write _| .noRoom=>true
 | _=>false
theorem MI{P:Program}{fn:FuncId}{f:Func}(e:Event)(hf:P.funcs[fn]? =some f)(hn:f.norace=false)(h:∀m,e.loc=.mark m→fl m=true):seen P fn #[e]=#[e]:=by
 obtain⟨loc,x,y⟩:=e
 unfold seen
 simp only[List.foldl_toArray',List.size_toArray,List.length_singleton,List.foldl_cons,List.foldl_nil,hf,Option.any_some,hn]
 cases loc with
 | mark m=>
   have hm:=h m rfl
   cases m <;> first|rfl|cases hm
 | _=>rfl
theorem MH(e:Event)(h:∀m,e.loc=.mark m→fl m=true):seen prog (base 82).fn #[e]=#[e]:=MI e func82 rfl h
section
variable{n:Nat}{fB:Value}{N:Nat}{cs:List Frame}{tab:Nat→Option Obj}{bit:Nat→Bool}{w0:World}
theorem MS{w:World}(hF:WgLive link.tWg (N+3) w)(x7 x14 x15 x16 x17 x18:Value):
 gH prog link (N+3) (b8 prog link (N+3) (fun g w=>∃a,gR n fB N a∧AnchW link (N+3) ((base 82).at a (.inRegion oU (0 :: []) :: [.code lV])) cs g w)) 20 (qP n fB N cs n x7 x14 x15 x16 x17 x18) w:=by
 unfold gH
 simp only[qP,Ay,Tryz.f82]
 u_c stepG_seq ah hF
 u_reg ah hF
 simp only[P5]
 u_op ah hF
 u_c stepG_region_end ah hF
 u_c stepG_seq ah hF
 u_cond false ah hF
 simp only[ln]
 u_exit ah hF
 simp only[UJ,Tryz.f82]
 u_c stepG_seq ah hF
 u_reg ah hF
 have H:=MW
 have hA:gR n fB N ⟨P5 n fB N n x7 (.bool false) x15 x16 x17 x18,[]⟩:=⟨_,_,_,_,_,_,rfl⟩
 u_in ah hF
 refine goes_call (f:=112) (fn:=waitFn link) (c:=body_wait link) rfl rfl (by k_ne) rfl H.f_wait (nm_wait link) rfl ⟨by u_nil,?_⟩
 walk_nrmf waitFn
 refine Zp (m:=3) ?_ zo
 have hw:=fun(w:World) (hF:WgLive link.tWg (N+3) w)=>@KV ⟨0⟩ link prog (N+3) cs H ((base 82).at ⟨P5 n fB N n x7 (.bool false) x15 x16 x17 x18,[]⟩ (.inRegion oU (0 :: []) :: [.code lV])) w hF
 refine je (fun g w h=>?_) (hw _ hF)
 obtain⟨h1,g',h2,m,h3⟩:=h
 exact⟨h1,g',h2,m,je (fun g w h=>⟨_,hA,h⟩) h3⟩
theorem YN{w:World}{k:Nat}(hk:k<2147483648)(hF:WgLive link.tWg (N+3) w)(x7 x14 x15 x16 x17 x18:Value):
 gH prog link (N+3) (fun g _=>g=qP n fB N cs (k+1:Nat) x7 x14 x15 x16 x17 (int i64 (k+1:Nat))) 10 (EF n fB N cs k x7 x14 x15 x16 x17 x18) w:=by
 unfold gH
 simp only[EF,tG,YJ,Ay,Tryz.f82,P5]
 u_c stepG_region_end ah hF
 u_c stepG_inBlock ah hF
 u_reg ah hF
 u_op ah hF
 u_op ah hF
 u_c stepG_region_end ah hF
 simp only[ln]
 u_c stepG_inLoop ah hF
 refine Goes.stop fun w1 h1=>?_
 rw[show IntKind.i64.wrap ((k:Int)+1)=((k+1:Nat):Int) by rw[IntWalk.i64_in _ zo];omega]
 rfl
def tM(S:Site)(N:Nat):Prop:=∀i bx,i<S.n→∀w,S.V1 i bx w→Wk S.P false (S.C1 bx) (S.V1 i bx) (S.K8 i bx) (born S.P (tE N bx)) w (fun _=>False)
theorem ZQ(hn:n<2147483648)(hwk:tM (qW n fB N cs tab bit w0) N):∀ (r k:Nat),k+r=n→∀ (x7 x14 x15 x16 x17 x18:Value) (w:World),(qW n fB N cs tab bit w0).V0 w→
 (qW n fB N cs tab bit w0).Sp r (qP n fB N cs k x7 x14 x15 x16 x17 x18) w
 | 0,k,hk,x7,x14,x15,x16,x17,x18,w,hv=>by
   obtain rfl:k=n:=zo
   exact⟨20,MS hv.live _ _ _ _ _ _⟩
 | r+1,k,hk,x7,x14,x15,x16,x17,x18,w,hv=>by
   have ih:=ZQ hn hwk r (k+1) zo
   show Wk prog true (qW n fB N cs tab bit w0).Cb (qW n fB N cs tab bit w0).V0 ((qW n fB N cs tab bit w0).yX (n - (r+1)) ((qW n fB N cs tab bit w0).Sp r)) _ w (fun _=>False)
   rw[show n - (r+1)=k by omega]
   generalize hS:qW n fB N cs tab bit w0=S at *
   simp only[qP,Ay,Tryz.f82,P5]
   refine Wk.idle rfl (fun _ _=>stepG_seq) ?_
   refine Wk.idle rfl (fun _ _=>stepG_region) ?_
   simp only[List.size_toArray,List.length_cons,List.length_nil,Nat.reduceAdd,Nat.zero_add,List.range,List.range.loop]
   have hlt:decide ((k:Int)<(n:Int))=true:=zm
   refine EM (v:=.bool true) rfl rfl (by k_ne) (fun _=>by go_simp;omega) (fun _=>by simp[go_sem]) ?_
   walk_nrm
   refine Wk.idle rfl (fun _ _=>stepG_region_end) ?_
   refine Wk.idle rfl (fun _ _=>stepG_seq) ?_
   refine Wk.idle rfl (fun _ _=>stepG_cond (t:=true) rfl) ?_
   simp only[if_true]
   refine Wk.idle rfl (fun _ _=>stepG_skip) ?_
   refine Wk.idle rfl (fun _ _=>stepG_seq) ?_
   refine Wk.idle rfl (fun _ _=>stepG_block) ?_
   refine Wk.idle rfl (fun _ _=>stepG_seq) ?_
   refine Wk.idle rfl (fun _ _=>stepG_region) ?_
   simp only[List.size_toArray,List.length_cons,List.length_nil,Nat.reduceAdd,Nat.zero_add,List.range,List.range.loop]
   refine EM (v:=int i64 k) rfl rfl (by k_ne) (fun _=>by go_simp) (fun _=>by simp[go_sem]) ?_
   walk_nrm
   refine UR (obj:=.cells #[int i64 0] 3) rfl rfl (by k_ne) (fun w2=>by go_simp) (fun w2=>by simp[go_sem]) fun w2 k2 v2=>?_
   walk_nrm
   generalize hbx:w2.heap.size=bx
   have hb3:(w2.alloc (.cells #[int i64 0] 3)).heap[bx]? =some (.cells #[int i64 0] 3):=by
    subst hbx;exact Gf _ _
   generalize w2.alloc (.cells #[int i64 0] 3)=w3 at *
   refine UZ (ad:=⟨bx,0,none⟩) (v:=int i64 k) rfl rfl (by k_ne) (.inr rfl) (fun w4 k4 v4=>?_) fun w4 k4 v4=>?_
   ·have hb4:=(k4 bx (.inl (.inr rfl))).trans hb3
    have hc:w4.cell? ⟨bx,0,none⟩=some (int i64 0):=by simp[World.cell?,hb4]
    have hf:w4.frozen? ⟨bx,0,none⟩=false:=by simp[World.frozen?,hb4]
    constructor
    ·go_simp
    ·refine(congrArg (seen _ _) (?_:_=#[⟨.cell ⟨bx,0,none⟩,true,false⟩])).trans (MH _ zs)
     simp[go_sem,hc,hf]
   walk_nrm
   have hb5:(w4.setCell ⟨bx,0,none⟩ (int i64 k)).heap[bx]? =some (S.Rv k):=by
    have hb4:=(k4 bx (.inl (.inr rfl))).trans hb3
    simp only[World.setCell,Array.getElem?_modify,if_true,hb4]
    subst hS
    rfl
   have hl5:WgLive link.tWg (N+3) (w4.setCell ⟨bx,0,none⟩ (int i64 k)):=by
    have hw2:WgLive link.tWg (N+3) w2:=by subst hS;exact v2.live
    have hw4:WgLive link.tWg (N+3) w4:=by subst hS;exact v4.live
    obtain⟨st,sm,h2⟩:=hw2
    obtain⟨st4,sm4,h4⟩:=hw4
    have hlt:N+3<w2.heap.size:=(Array.getElem?_eq_some_iff.1 h2).1
    refine⟨st4,sm4,?_⟩
    show(w4.setCell ⟨bx,0,none⟩ (int i64 k)).heap[N+3]? =_
    simp only[World.setCell,Array.getElem?_modify]
    rw[if_neg zo]
    exact h4
   generalize w4.setCell ⟨bx,0,none⟩ (int i64 k)=w5 at *
   refine Wk.idle rfl (fun _ _=>stepG_region_end) ?_
   refine Wk.idle rfl (fun _ _=>stepG_seq) ?_
   refine Wk.idle rfl (fun _ _=>stepG_region) ?_
   simp only[List.size_toArray,List.length_cons,List.length_nil,Nat.reduceAdd,Nat.zero_add,List.range,List.range.loop]
   have H:=MW
   refine UU (f:=109) (fn:=addFn link) (c:=body_add link) rfl rfl (by k_ne) rfl H.f_add (nm_add link) rfl ?_
   rw[show(addFn link).ntmps=117 from rfl]
   walk_nrm
   have hw:=fun(w:World) (hF:WgLive link.tWg (N+3) w)=>@Ra ⟨0⟩ link prog (N+3) (base 82) ⟨P5 n fB N k (pt bx) (.bool true) (int i64 k) x16 x17 x18,[]⟩ gS 0 [] (.code UH :: .inBlock 1 :: .code YJ :: ln) cs H w hF
   subst hS
   refine S9 (S:=qW n fB N cs tab bit w0) (m:=20) (w:=w5) (R:=qm (base 82) ⟨P5 n fB N k (pt bx) (.bool true) (int i64 k) x16 x17 x18,[]⟩ gS 0 [] (.code UH :: .inBlock 1 :: .code YJ :: ln) cs) (hw w5 hl5) ?_
   intro w6 k6 v6
   have hb6:=(k6 bx (.inl (.inr rfl))).trans hb5
   simp only[qm,gS,UH,Ay,Tryz.f82,P5]
   walk_nrm
   refine Wk.idle rfl (fun _ _=>stepG_region_end) ?_
   refine Wk.idle rfl (fun _ _=>stepG_region) ?_
   simp only[List.size_toArray,List.length_cons,List.length_nil,Nat.reduceAdd,Nat.zero_add,List.range,List.range.loop]
   refine EM (v:=.func (.func 110) #[] #[pt (N+3),pt N,pt bx,pt (N+2)]) rfl rfl (by k_ne) (fun _=>by go_simp) (fun _=>by simp[go_sem]) ?_
   walk_nrm
   refine .stop fun w7 k7 v7=>?_
   have DX:=(k7 bx (.inl (.inr rfl))).trans hb6
   refine⟨rfl,EF n fB N cs k (pt bx) (.bool true) (int i64 k) (.tuple #[]) (.func (.func 110) #[] #[pt (N+3),pt N,pt bx,pt (N+2)]) x18,born prog (tE N bx),bx,?_,rfl,fun b=>⟨fun h=>h.elim False.elim id,.inr⟩,DX,hwk k bx (by show k<n;omega) w7 ⟨v7,DX⟩,?_⟩
   ·rw[stepG_spawn (d:=tE N bx) (w':=w7) rfl rfl (by k_ne) (by go_simp;rfl) rfl,listed_nil (by simp[go_sem])]
    rfl
   ·have hnx:=YN (n:=n) (fB:=fB) (N:=N) (cs:=cs) (k:=k) zo v7.live (pt bx) (.bool true) (int i64 k) (.tuple #[]) (.func (.func 110) #[] #[pt (N+3),pt N,pt bx,pt (N+2)]) x18
    cases r with
    | zero=>
      obtain rfl:k+1=n:=zo
      exact⟨_,LH 20 (fun g w hl hs=>by subst hs;exact MS hl _ _ _ _ _ _) hnx v7.live⟩
    | succ r=>exact yL (fun _ v=>v.live) hnx v7 fun g' w8 _ v8 hs=>by subst hs;exact ih _ _ _ _ _ _ w8 v8
end
noncomputable def pF:Frame:={(default:Frame) with fn:=Tryz.prog.funcs.size,defers:=[],mode:=.panicking [goexitEntry] }
noncomputable def KY:Code:=match Tryz.f110.body with
 | some c=>c
 | none=>.skip
theorem CU:Tryz.f110.body=some KY:=rfl
theorem KD{P:Program}{main:Bool}{b:Frame}{a:Act}{k:List Item}{cs:List Frame}{w:World}{ops:Array Oper}{i:Nat}{rest:List Nat}{o:Oper}{cases:Array CommCase}{blocking:Bool}{shape:CommShape}(ho:ops[i]? =some o)(hw:Region.wanted o (yielded ops a.tmps)=true)
 (hk:b.kind≠.early)(hr:(execOp a.eval o).run P w=.ok (.comm cases blocking shape) w)(he:(execOp a.eval o).events P w #[]=#[]):
 stepG P main (G (b.at a (.inRegion ops (i :: rest) :: k)) cs) w=.comm (G (b.at a (.inRegion ops (i :: rest) :: k)) cs) cases blocking shape w #[]:=by
 rw[stepG_comm ho hw hk hr,listed_nil he]
theorem H8(N bx:Nat)(w:World):stepG prog false (born prog (tE N bx)) w=
 .go (G ((baseD 110).at ⟨#[pt (N+3),pt N,pt bx,pt (N+2),undef,undef,undef,undef,undef],[]⟩ [.code KY]) [pF]) w #[]:=by
 have h1:¬ Tryz.f110.name= "runtime.NumGoroutine":=zD
 have e:=enter_atD (P:=prog) #[pt (N+3),pt N,pt bx,pt (N+2)] func110 CU
 have e2:(#[pt (N+3),pt N,pt bx,pt (N+2)] ++ Array.replicate (Tryz.f110.ntmps - #[pt (N+3),pt N,pt bx,pt (N+2)].size) undef:Array Value)=#[pt (N+3),pt N,pt bx,pt (N+2),undef,undef,undef,undef,undef]:=rfl
 rw[e2] at e
 rw[← e]
 simp[born,stepG,unwind,callDeferred,tE,invoke,callFunc,func110,h1,CU,GStep.after,seen_none,pF,G]
theorem UY{tmps:Array Value}{todo:List Item}:QuitsD prog 2 0 (G {(baseD 110).at ⟨tmps,[]⟩ todo with mode:=.returning } [pF]):=by
 have e:Tryz.prog.funcs[Tryz.prog.funcs.size]? =none:=zs
 refine QuitsD.ctl (g':=G pF []) rfl (fun w=>?_) (QuitsD.ctl (g':={frame:=pF,callers:=[],status:=.finished,dying:=none }) rfl (fun w=>?_) ⟨rfl,rfl⟩)
 ·have hr:=results_none (fn:=Tryz.f110) rfl tmps prog w
  have he:(results Tryz.f110 tmps).events prog w #[]=#[]:=events_results_none (fn:=Tryz.f110) rfl tmps #[]
  simp[G,stepG,unwind,Frame.at,baseD,func110,hr,he,seen,GStep.after,doReturn,pF,goexitEntry]
 ·simp[G,stepG,unwind,pF,Frame.catches,e,goexitEntry,doReturn]
  rfl
section
variable{n:Nat}{N cb:Nat}{cs:List Frame}{tab:Nat→Option Obj}{bit:Nat→Bool}{w0:World}
abbrev fB(cb:Nat):Value:=.func (.func 83) #[] #[pt cb]
theorem MX(hS:(qW n (fB cb) N cs tab bit w0).Ok){C O:Nat→Prop}{V:World→Prop}(hV:∀w,V w→(qW n (fB cb) N cs tab bit w0).V0 w){tmps:Array Value}{w:World}:
 Wk prog false C V (qW n (fB cb) N cs tab bit w0).K7 (G ((baseD 110).at ⟨tmps,[dcall 111 #[pt (N+3)]]⟩ []) [pF]) w O:=by
 have H:=MW
 refine Wk.idle rfl (fun _ _=>stepG_end) ?_
 refine Wk.idle rfl (fun _ _=>stepG_unwind_enter (f:=111) (c:=body_done link) rfl H.f_done (nm_done link) rfl) ?_
 rw[show(doneFn link).ntmps=4 from rfl]
 walk_nrm
 refine .stop fun w2 k2 v2=>?_
 exact Wq (S:=qW n (fB cb) N cs tab bit w0) H hS rfl UY (hV _ v2)
theorem rV(e:Event)(h:∀m,e.loc=.mark m→fl m=true):seen prog (baseD 110).fn #[e]=#[e]:=MI e func110 rfl h
theorem NU(args:Array Value)(w:World):(callFunc 83 args).events prog w #[]=#[]:=by
 have h1:¬ Tryz.f83.name= "runtime.NumGoroutine":=zD
 have h2:Tryz.f83.body.isNone=false:=rfl
 have h3:Tryz.f83.body≠none:=fun h=>by rw[h] at h2;cases h2
 simp[callFunc,func83,h1,h3,go_sem]
theorem tR(hS:(qW n (fB cb) N cs tab bit w0).Ok)(hB:tab N=some (.cells #[fB cb] 82))(hC:tab (N+2)=some (.cells #[.chan (some (N+1))] 154)){F:Fence}(hF:gJ prog F.fn)(hin:∀g,F.fn g→Tryz.prog.inits.idxOf? g=none)(hal:F.alive=true){m:Nat}(hroom:F.room (1+m))
 {D:Nat→Prop}{wz:World}(hcl:Closed D wz)(hD:∀b,D b→tab b=wz.heap[b]?)(hcb:D cb)(hcall:∀i:Nat,i<n→∀σ:Tape,CallsIn F m prog 83 #[int i64 i,pt cb] (on (vF D wz) σ) (fun e _=>e=.returned (.bool (bit i)))):
 tM (qW n (fB cb) N cs tab bit w0) N:=by
 intro i bx hi w hv
 have htab:∀ {w2:World},(qW n (fB cb) N cs tab bit w0).V1 i bx w2→∀ {b o},tab b=some o→w2.heap[b]? =some o:=fun v _ _ h=>v.1.tab _ _ h
 have hcell:∀ {w2:World} {b:Nat} {v:Value} {t:TypeId},w2.heap[b]? =some (.cells #[v] t)→w2.cell? ⟨b,0,none⟩=some v:=fun h=>by simp[World.cell?,h]
 have Qj:∀ {b o},tab b=some o→(qW n (fB cb) N cs tab bit w0).C1 bx b:=fun h=>.inl (by show tab _≠none;rw[h];simp)
 show Wk prog false _ _ _ _ _ _
 refine Wk.idle rfl (fun _ _=>H8 N bx _) ?_
 simp only[KY,Tryz.f110,pt]
 refine Wk.idle rfl (fun _ _=>stepG_seq) ?_
 refine Wk.idle rfl (fun _ _=>stepG_region) ?_
 simp only[List.size_toArray,List.length_cons,List.length_nil,Nat.reduceAdd,Nat.zero_add,List.range,List.range.loop]
 refine Wk.idle rfl (fun _ _=>stepG_defer rfl rfl (by k_ne) rfl) ?_
 walk_nrm
 refine Wk.idle rfl (fun _ _=>stepG_region_end) ?_
 refine Wk.idle rfl (fun _ _=>stepG_seq) ?_
 refine Wk.idle rfl (fun _ _=>stepG_region) ?_
 simp only[List.size_toArray,List.length_cons,List.length_nil,Nat.reduceAdd,Nat.zero_add,List.range,List.range.loop]
 refine vQ (v:=fB cb) (ad:=⟨N,0,none⟩) rfl rfl (by k_ne) (.inr (Qj hB)) (fun w2 k2 v2=>?_) ?_
 ·have hc:=hcell (htab v2 hB)
  constructor
  ·go_simp
  ·refine(congrArg (seen _ _) (?_:_=#[⟨.cell ⟨N,0,none⟩,false,false⟩])).trans (rV _ zs)
   simp[go_sem,hc]
 walk_nrm
 refine vQ (v:=int i64 i) (ad:=⟨bx,0,none⟩) rfl rfl (by k_ne) (.inr (.inr rfl)) (fun w2 k2 v2=>?_) ?_
 ·have hc:=hcell (b:=bx) v2.2
  constructor
  ·go_simp
  ·refine(congrArg (seen _ _) (?_:_=#[⟨.cell ⟨bx,0,none⟩,false,false⟩])).trans (rV _ zs)
   simp[go_sem,hc]
 walk_nrm
 refine UW (f:=83) (args:=#[int i64 i,pt cb]) rfl rfl (by k_ne) (fun _=>?_) (fun _=>?_) ?_
 ·go_simp
 ·simp[go_sem,NU]
 have hk:∀b,D b→wz.heap[b]? =w.heap[b]?:=fun b hb=>by
  obtain⟨c,e,f,h1,_⟩:=hcl b hb
  rw[h1]
  exact(htab hv ((hD b hb).trans h1)).symm
 refine EK (P:=prog) (F:=F) (D:=D) (w0:=wz) (r:=bit i) zr hF hin hal hroom (hcall i hi) ?_ (hcl.keeps fun b hb=>(hk b hb).symm) hk (fun b hb=>?_) fun w3 O3 hO=>?_
 ·refine⟨rfl,fun j h h'=>?_⟩
  match j,h with
  | 0,_=>exact .int _ _
  | 1,_=>exact .ptr ⟨Mf hcb,rfl,rfl⟩
 ·obtain⟨c,e,f,h1,_⟩:=hcl b hb
  exact Qj ((hD b hb).trans h1)
 rw[Frame.finish_at]
 walk_nrm
 refine Wk.idle rfl (fun _ _=>stepG_region_end) ?_
 cases hb:bit i with
 | false=>
   refine Wk.idle rfl (fun _ _=>stepG_cond (t:=false) rfl) ?_
   simp only[if_false,Bool.false_eq_true,↓reduceIte]
   refine Wk.idle rfl (fun _ _=>stepG_skip) ?_
   exact Wk.mono (fun g w O h=>.inr ⟨hb,h⟩) (MX hS fun _ v=>v.1)
 | true=>
   refine Wk.idle rfl (fun _ _=>stepG_cond (t:=true) rfl) ?_
   simp only[if_true]
   refine Wk.idle rfl (fun _ _=>stepG_region) ?_
   simp only[List.size_toArray,List.length_cons,List.length_nil,Nat.reduceAdd,Nat.zero_add,List.range,List.range.loop]
   refine vQ (v:=.chan (some (N+1))) (ad:=⟨N+2,0,none⟩) rfl rfl (by k_ne) (.inr (Qj hC)) (fun w2 k2 v2=>?_) ?_
   ·have hc:=hcell (htab v2 hC)
    constructor
    ·go_simp
    ·refine(congrArg (seen _ _) (?_:_=#[⟨.cell ⟨N+2,0,none⟩,false,false⟩])).trans (rV _ zs)
     simp[go_sem,hc]
   walk_nrm
   refine vQ (v:=int i64 i) (ad:=⟨bx,0,none⟩) rfl rfl (by k_ne) (.inr (.inr rfl)) (fun w2 k2 v2=>?_) ?_
   ·have hc:=hcell (b:=bx) v2.2
    constructor
    ·go_simp
    ·refine(congrArg (seen _ _) (?_:_=#[⟨.cell ⟨bx,0,none⟩,false,false⟩])).trans (rV _ zs)
     simp[go_sem,hc]
   walk_nrm
   refine .stop fun w2 k2 v2=>.inl ⟨hb,rfl,?_⟩
   refine⟨_,undef,KD (cases:=#[scase (N+1) (int i64 i) undef]) (blocking:=true) (shape:=.send) rfl rfl (by k_ne) (by go_simp;rfl) (by simp[go_sem]),fun w4 k4 v4=>?_⟩
   rw[finishComm_send]
   have e:∀ (fr:Frame) (v:Value),Go.Conc.served (G fr [pF]) v=G (fr.finish v) [pF]:=fun _ _=>rfl
   rw[e,Frame.finish_at]
   walk_nrm
   refine Wk.idle rfl (fun _ _=>stepG_region_end) ?_
   exact MX hS fun _ v=>v.1
end
end
end Go.Proofs.YthaelabgfnnebaaGreat
