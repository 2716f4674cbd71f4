/- Link Place1 Place2 -/
import Derived.Test.YtpmafoalhnaokaaGreatA1
import Derived.Test.YtpmafoalhnaokaaGreatA9
import Derived.Conc.WgLib
set_option maxRecDepth 100000
set_option maxHeartbeats 16000000
set_option linter.unusedVariables false
set_option linter.unusedSectionVars false
set_option linter.unusedSimpArgs false
open Go.IntKind(i64)
open Go.Proofs.Tryz
open Go.Value(int)
namespace Go.Proofs.YtpmafoalhnaokaaGreat
section
open Go Go.Conc.Lib
abbrev link:WgLink:={add:=126,done:=128,wait:=129,relMerge:=147,disable:=148,enable:=149,inBubble:=150,associate:=151,fatal:=152,uOr:=153,uAdd:=154,raceRead:=155,uLoad:=156,uStore:=157,disassociate:=158,semrelease:=159,acquire:=160,isAssociated:=161,uCas:=162,raceWrite:=163,semacquire:=164,orU64:=181,addU64:=182,loadU64:=183,storeU64:=184,casU64:=185,tWgP:=196,tUP:=198,tAssoc:=199,tWg:=180,tAU:=177,tU64:=175,tUint:=149,tU32:=178,tPU32:=203,tPAU:=221,tPU64:=223,tNoCopy:=172,tANoCopy:=173,tAlign64:=174 }
theorem OJ:WgLib prog link:=
 ⟨func126,func128,func129,func147,func148,func149,func150,func151,func152,func153,func154,func155,func156,func157,func158,func159,func160,func161,func162,func163,func164,func181,func182,func183,func184,func185,underlying196,Tryz.runUnderlying196,sizeOf196,isAgg196,zeroValue196,underlying198,Tryz.runUnderlying198,sizeOf198,isAgg198,zeroValue198,underlying199,Tryz.runUnderlying199,sizeOf199,isAgg199,zeroValue199,underlying180,Tryz.runUnderlying180,sizeOf180,isAgg180,zeroValue180,underlying177,Tryz.runUnderlying177,sizeOf177,isAgg177,zeroValue177,underlying175,Tryz.runUnderlying175,sizeOf175,isAgg175,zeroValue175,underlying149,Tryz.runUnderlying149,sizeOf149,isAgg149,zeroValue149,underlying178,Tryz.runUnderlying178,sizeOf178,isAgg178,zeroValue178,underlying203,Tryz.runUnderlying203,sizeOf203,isAgg203,zeroValue203,underlying221,Tryz.runUnderlying221,sizeOf221,isAgg221,zeroValue221,underlying223,Tryz.runUnderlying223,sizeOf223,isAgg223,zeroValue223,underlying0,Tryz.runUnderlying0,sizeOf0,isAgg0,zeroValue0,underlying3,Tryz.runUnderlying3,sizeOf3,isAgg3,zeroValue3,underlying4,Tryz.runUnderlying4,sizeOf4,isAgg4,zeroValue4,underlying9,Tryz.runUnderlying9,sizeOf9,isAgg9,zeroValue9,underlying20,Tryz.runUnderlying20,sizeOf20,isAgg20,zeroValue20,underlying21,Tryz.runUnderlying21,sizeOf21,isAgg21,zeroValue21,zk,zk⟩
end
section
open Go Go.Conc Go.ConcN Go.cu Go.Conc.Lib Go.aP Go.ConcR.Gen Go.ConcN.Gen
open Go.ConcR (WgAt stA smA rd wr Payload)
variable[Inhabited aV]
noncomputable def Ca:Code:=match Tryz.f99.body with
 | some (.seq _ (.seq _ (.seq _ (.seq (.seq _ (.block _ (.loop c))) _))))=>c
 | _=>.skip
noncomputable def WJ:Code:=match Tryz.f99.body with
 | some (.seq _ (.seq _ (.seq _ (.seq _ c))))=>c
 | _=>.skip
noncomputable def p8:Array Oper:=match WJ with
 | .seq (.region _ ops _) _=>ops
 | _=>#[]
noncomputable def mo:Code:=match WJ with
 | .seq _ c=>c
 | _=>.skip
noncomputable def rB:List Item:=[.inLoop Ca,.inBlock 0,.code WJ]
noncomputable def DS:Array Oper:=match Ca with
 | .seq _ (.seq _ (.seq (.block _ (.seq _ (.seq _ (.region _ ops _)))) _))=>ops
 | _=>#[]
noncomputable def WI:Code:=match Ca with
 | .seq _ (.seq _ (.seq (.block _ (.seq _ (.seq _ c))) _))=>c
 | _=>.skip
noncomputable def oB:Array Oper:=match Ca with
 | .seq _ (.seq _ (.seq (.block _ (.seq _ (.seq (.region _ ops _) _))) _))=>ops
 | _=>#[]
noncomputable def bk:Code:=match Ca with
 | .seq _ (.seq _ (.seq _ c))=>c
 | _=>.skip
def pt(b:Nat):Value:=.pointer (some ⟨b,0,none⟩)
def Rw(n:Nat)(fG:Value)(N:Nat)(k:Int)(x7 x14 x15 x16 x17 x18:Value):Array Value:=
 #[int i64 n,fG,undef,pt N,.slice none 0 0,pt (N+2),pt (N+3),x7,undef,undef,int i64 n,.chan (some (N+1)),int i64 n,int i64 k,x14,x15,x16,x17,x18,undef,undef,undef,undef,undef,undef,undef,undef,undef,undef,undef,undef,undef]
def oA(n:Nat)(fG:Value)(N:Nat)(a:Act):Prop:=∃x7 x14 x15 x16 x17 x18,a=⟨Rw n fG N n x7 x14 x15 x16 x17 x18,[]⟩
noncomputable abbrev rC (n:Nat) (fG:Value) (N:Nat) (cs:List Frame) (k:Int) (x7 x14 x15 x16 x17 x18:Value):Goroutine:=G ((base 99).at ⟨Rw n fG N k x7 x14 x15 x16 x17 x18,[]⟩ (.code Ca :: rB)) cs
noncomputable def rO(n:Nat)(fG:Value)(N:Nat)(cs:List Frame)(tab:Nat→Option Obj)(bit:Nat→Bool)(w0:World):Site:={
 P:=prog
 L:=link
 Wg:=N+3
 Ch:=N+1
 n:=n
 tab:=tab
 pA:=⟨103⟩
 pB:=⟨170⟩
 bA:=N
 bB:=N+2
 vA:=fG
 vB:=.chan (some (N+1))
 tI:=3
 bit:=bit
 Anch:=fun g w=>∃a,oA n fG N a∧AnchW link (N+3) ((base 99).at a (.inRegion p8 (0 :: []) :: [.code mo])) cs g w
 Fin:=fun g=>∃a,oA n fG N a∧Xt prog link (N+3) (qK (base 99) a p8 0 [] [.code mo] cs) g
 os0:=w0.os
 B8:=w0.output
 fg:=w0.tape }
def DQ(N bx:Nat):Deferred:={target:=.fn (.func 127) #[pt (N+3),pt N,pt bx,pt (N+2)],args:=#[] }
noncomputable abbrev FT (n:Nat) (fG:Value) (N:Nat) (cs:List Frame) (k:Int) (x7 x14 x15 x16 x17 x18:Value):Goroutine:=G ((base 99).at ⟨Rw n fG N k x7 x14 x15 x16 x17 x18,[]⟩ (.inRegion DS [] :: .inBlock 1 :: .code bk :: rB)) cs
theorem Im(w:World)(o:Obj):(w.alloc o).heap[w.heap.size]? =some o:=by
 show(w.heap.push o)[w.heap.size]? =some o
 simp
def mC:Mark→Bool
 | .acquire _| .release _| .releaseMerge _| .disable| .enable| .read _| .write _| .noRoom=>true
 | _=>false
theorem Ov{P:Program}{fn:FuncId}{f:Func}(e:Event)(hf:P.funcs[fn]? =some f)(hn:f.norace=false)(h:∀m,e.loc=.mark m→mC m=true):seen P fn #[e]=#[e]:=by
 obtain⟨loc,x,y⟩:=e
 unfold seen
 simp only[List.foldl_toArray',List.size_toArray,List.length_singleton,List.foldl_cons,List.foldl_nil,hf,Option.any_some,hn]
 cases loc with
 | mark m=>
   have hm:=h m rfl
   cases m <;> first|rfl|cases hm
 | _=>rfl
theorem Ou(e:Event)(h:∀m,e.loc=.mark m→mC m=true):seen prog (base 99).fn #[e]=#[e]:=Ov e func99 rfl h
section
variable{n:Nat}{fG:Value}{N:Nat}{cs:List Frame}{tab:Nat→Option Obj}{bit:Nat→Bool}{w0:World}
theorem OE{w:World}(hF:WgLive link.tWg (N+3) w)(x7 x14 x15 x16 x17 x18:Value):
 gM prog link (N+3) (il prog link (N+3) (fun g w=>∃a,oA n fG N a∧AnchW link (N+3) ((base 99).at a (.inRegion p8 (0 :: []) :: [.code mo])) cs g w)) 20 (rC n fG N cs n x7 x14 x15 x16 x17 x18) w:=by
 unfold gM
 simp only[rC,Ca,Tryz.f99]
 u_c stepG_seq ah hF
 u_reg ah hF
 simp only[Rw]
 u_op ah hF
 u_c stepG_region_end ah hF
 u_c stepG_seq ah hF
 u_cond false ah hF
 simp only[rB]
 u_exit ah hF
 simp only[WJ,Tryz.f99]
 u_c stepG_seq ah hF
 u_reg ah hF
 have H:=OJ
 have hA:oA n fG N ⟨Rw n fG N n x7 (.bool false) x15 x16 x17 x18,[]⟩:=⟨_,_,_,_,_,_,rfl⟩
 u_in ah hF
 refine goes_call (f:=129) (fn:=waitFn link) (c:=body_wait link) rfl rfl (by k_ne) rfl H.f_wait (nm_wait link) rfl ⟨by u_nil,?_⟩
 walk_nrmf waitFn
 refine dm (m:=3) ?_ zo
 have hw:=fun(w:World) (hF:WgLive link.tWg (N+3) w)=>@MO ⟨0⟩ link prog (N+3) cs H ((base 99).at ⟨Rw n fG N n x7 (.bool false) x15 x16 x17 x18,[]⟩ (.inRegion p8 (0 :: []) :: [.code mo])) w hF
 refine jo (fun g w h=>?_) (hw _ hF)
 obtain⟨h1,g',h2,m,h3⟩:=h
 exact⟨h1,g',h2,m,jo (fun g w h=>⟨_,hA,h⟩) h3⟩
theorem bt{w:World}{k:Nat}(hk:k<2147483648)(hF:WgLive link.tWg (N+3) w)(x7 x14 x15 x16 x17 x18:Value):
 gM prog link (N+3) (fun g _=>g=rC n fG N cs (k+1:Nat) x7 x14 x15 x16 x17 (int i64 (k+1:Nat))) 10 (FT n fG N cs k x7 x14 x15 x16 x17 x18) w:=by
 unfold gM
 simp only[FT,DS,bk,Ca,Tryz.f99,Rw]
 u_c stepG_region_end ah hF
 u_c stepG_inBlock ah hF
 u_reg ah hF
 u_op ah hF
 u_op ah hF
 u_c stepG_region_end ah hF
 simp only[rB]
 u_c stepG_inLoop ah hF
 refine Goes.stop fun w1 h1=>?_
 rw[show IntKind.i64.wrap ((k:Int)+1)=((k+1:Nat):Int) by rw[IntWalk.i64_in _ zo];omega]
 rfl
def D3(S:Site)(N:Nat):Prop:=∀i bx,i<S.n→∀w,S.V1 i bx w→Wk S.P false (S.C1 bx) (S.V1 i bx) (S.K8 i bx) (born S.P (DQ N bx)) w (fun _=>False)
theorem fi(hn:n<2147483648)(hwk:D3 (rO n fG N cs tab bit w0) N):∀ (r k:Nat),k+r=n→∀ (x7 x14 x15 x16 x17 x18:Value) (w:World),(rO n fG N cs tab bit w0).V0 w→
 (rO n fG N cs tab bit w0).Sp r (rC n fG N cs k x7 x14 x15 x16 x17 x18) w
 | 0,k,hk,x7,x14,x15,x16,x17,x18,w,hv=>by
   obtain rfl:k=n:=zo
   exact⟨20,OE hv.live _ _ _ _ _ _⟩
 | r+1,k,hk,x7,x14,x15,x16,x17,x18,w,hv=>by
   have ih:=fi hn hwk r (k+1) zo
   show Wk prog true (rO n fG N cs tab bit w0).Cb (rO n fG N cs tab bit w0).V0 ((rO n fG N cs tab bit w0).Bo (n - (r+1)) ((rO n fG N cs tab bit w0).Sp r)) _ w (fun _=>False)
   rw[show n - (r+1)=k by omega]
   generalize hS:rO n fG N cs tab bit w0=S at *
   simp only[rC,Ca,Tryz.f99,Rw]
   refine Wk.idle rfl (fun _ _=>stepG_seq) ?_
   refine Wk.idle rfl (fun _ _=>stepG_region) ?_
   simp only[List.size_toArray,List.length_cons,List.length_nil,Nat.reduceAdd,Nat.zero_add,List.range,List.range.loop]
   have hlt:decide ((k:Int)<(n:Int))=true:=zm
   refine F5 (v:=.bool true) rfl rfl (by k_ne) (fun _=>by go_simp;omega) (fun _=>by simp[go_sem]) ?_
   walk_nrm
   refine Wk.idle rfl (fun _ _=>stepG_region_end) ?_
   refine Wk.idle rfl (fun _ _=>stepG_seq) ?_
   refine Wk.idle rfl (fun _ _=>stepG_cond (t:=true) rfl) ?_
   simp only[if_true]
   refine Wk.idle rfl (fun _ _=>stepG_skip) ?_
   refine Wk.idle rfl (fun _ _=>stepG_seq) ?_
   refine Wk.idle rfl (fun _ _=>stepG_block) ?_
   refine Wk.idle rfl (fun _ _=>stepG_seq) ?_
   refine Wk.idle rfl (fun _ _=>stepG_region) ?_
   simp only[List.size_toArray,List.length_cons,List.length_nil,Nat.reduceAdd,Nat.zero_add,List.range,List.range.loop]
   refine F5 (v:=int i64 k) rfl rfl (by k_ne) (fun _=>by go_simp) (fun _=>by simp[go_sem]) ?_
   walk_nrm
   refine WT (obj:=.cells #[int i64 0] 3) rfl rfl (by k_ne) (fun w2=>by go_simp) (fun w2=>by simp[go_sem]) fun w2 k2 v2=>?_
   walk_nrm
   generalize hbx:w2.heap.size=bx
   have hb3:(w2.alloc (.cells #[int i64 0] 3)).heap[bx]? =some (.cells #[int i64 0] 3):=by
    subst hbx;exact Im _ _
   generalize w2.alloc (.cells #[int i64 0] 3)=w3 at *
   refine WY (ad:=⟨bx,0,none⟩) (v:=int i64 k) rfl rfl (by k_ne) (.inr rfl) (fun w4 k4 v4=>?_) fun w4 k4 v4=>?_
   ·have hb4:=(k4 bx (.inl (.inr rfl))).trans hb3
    have hc:w4.cell? ⟨bx,0,none⟩=some (int i64 0):=by simp[World.cell?,hb4]
    have hf:w4.frozen? ⟨bx,0,none⟩=false:=by simp[World.frozen?,hb4]
    constructor
    ·go_simp
    ·refine(congrArg (seen _ _) (?_:_=#[⟨.cell ⟨bx,0,none⟩,true,false⟩])).trans (Ou _ zs)
     simp[go_sem,hc,hf]
   walk_nrm
   have hb5:(w4.setCell ⟨bx,0,none⟩ (int i64 k)).heap[bx]? =some (S.TG k):=by
    have hb4:=(k4 bx (.inl (.inr rfl))).trans hb3
    simp only[World.setCell,Array.getElem?_modify,if_true,hb4]
    subst hS
    rfl
   have hl5:WgLive link.tWg (N+3) (w4.setCell ⟨bx,0,none⟩ (int i64 k)):=by
    have hw2:WgLive link.tWg (N+3) w2:=by subst hS;exact v2.live
    have hw4:WgLive link.tWg (N+3) w4:=by subst hS;exact v4.live
    obtain⟨st,sm,h2⟩:=hw2
    obtain⟨st4,sm4,h4⟩:=hw4
    have hlt:N+3<w2.heap.size:=(Array.getElem?_eq_some_iff.1 h2).1
    refine⟨st4,sm4,?_⟩
    show(w4.setCell ⟨bx,0,none⟩ (int i64 k)).heap[N+3]? =_
    simp only[World.setCell,Array.getElem?_modify]
    rw[if_neg zo]
    exact h4
   generalize w4.setCell ⟨bx,0,none⟩ (int i64 k)=w5 at *
   refine Wk.idle rfl (fun _ _=>stepG_region_end) ?_
   refine Wk.idle rfl (fun _ _=>stepG_seq) ?_
   refine Wk.idle rfl (fun _ _=>stepG_region) ?_
   simp only[List.size_toArray,List.length_cons,List.length_nil,Nat.reduceAdd,Nat.zero_add,List.range,List.range.loop]
   have H:=OJ
   refine WU (f:=126) (fn:=addFn link) (c:=body_add link) rfl rfl (by k_ne) rfl H.f_add (nm_add link) rfl ?_
   rw[show(addFn link).ntmps=117 from rfl]
   walk_nrm
   have hw:=fun(w:World) (hF:WgLive link.tWg (N+3) w)=>@Tk ⟨0⟩ link prog (N+3) (base 99) ⟨Rw n fG N k (pt bx) (.bool true) (int i64 k) x16 x17 x18,[]⟩ oB 0 [] (.code WI :: .inBlock 1 :: .code bk :: rB) cs H w hF
   subst hS
   refine UQ (S:=rO n fG N cs tab bit w0) (m:=20) (w:=w5) (R:=qK (base 99) ⟨Rw n fG N k (pt bx) (.bool true) (int i64 k) x16 x17 x18,[]⟩ oB 0 [] (.code WI :: .inBlock 1 :: .code bk :: rB) cs) (hw w5 hl5) ?_
   intro w6 k6 v6
   have hb6:=(k6 bx (.inl (.inr rfl))).trans hb5
   simp only[qK,oB,WI,Ca,Tryz.f99,Rw]
   walk_nrm
   refine Wk.idle rfl (fun _ _=>stepG_region_end) ?_
   refine Wk.idle rfl (fun _ _=>stepG_region) ?_
   simp only[List.size_toArray,List.length_cons,List.length_nil,Nat.reduceAdd,Nat.zero_add,List.range,List.range.loop]
   refine F5 (v:=.func (.func 127) #[] #[pt (N+3),pt N,pt bx,pt (N+2)]) rfl rfl (by k_ne) (fun _=>by go_simp) (fun _=>by simp[go_sem]) ?_
   walk_nrm
   refine .stop fun w7 k7 v7=>?_
   have xZ:=(k7 bx (.inl (.inr rfl))).trans hb6
   refine⟨rfl,FT n fG N cs k (pt bx) (.bool true) (int i64 k) (.tuple #[]) (.func (.func 127) #[] #[pt (N+3),pt N,pt bx,pt (N+2)]) x18,born prog (DQ N bx),bx,?_,rfl,fun b=>⟨fun h=>h.elim False.elim id,.inr⟩,xZ,hwk k bx (by show k<n;omega) w7 ⟨v7,xZ⟩,?_⟩
   ·rw[stepG_spawn (d:=DQ N bx) (w':=w7) rfl rfl (by k_ne) (by go_simp;rfl) rfl,listed_nil (by simp[go_sem])]
    rfl
   ·have hnx:=bt (n:=n) (fG:=fG) (N:=N) (cs:=cs) (k:=k) zo v7.live (pt bx) (.bool true) (int i64 k) (.tuple #[]) (.func (.func 127) #[] #[pt (N+3),pt N,pt bx,pt (N+2)]) x18
    cases r with
    | zero=>
      obtain rfl:k+1=n:=zo
      exact⟨_,Nu 20 (fun g w hl hs=>by subst hs;exact OE hl _ _ _ _ _ _) hnx v7.live⟩
    | succ r=>exact AB (fun _ v=>v.live) hnx v7 fun g' w8 _ v8 hs=>by subst hs;exact ih _ _ _ _ _ _ w8 v8
end
noncomputable def qo:Frame:={(default:Frame) with fn:=Tryz.prog.funcs.size,defers:=[],mode:=.panicking [goexitEntry] }
noncomputable def MQ:Code:=match Tryz.f127.body with
 | some c=>c
 | none=>.skip
theorem D5:Tryz.f127.body=some MQ:=rfl
theorem Mq{P:Program}{main:Bool}{b:Frame}{a:Act}{k:List Item}{cs:List Frame}{w:World}{ops:Array Oper}{i:Nat}{rest:List Nat}{o:Oper}{cases:Array CommCase}{blocking:Bool}{shape:CommShape}(ho:ops[i]? =some o)(hw:Region.wanted o (yielded ops a.tmps)=true)
 (hk:b.kind≠.early)(hr:(execOp a.eval o).run P w=.ok (.comm cases blocking shape) w)(he:(execOp a.eval o).events P w #[]=#[]):
 stepG P main (G (b.at a (.inRegion ops (i :: rest) :: k)) cs) w=.comm (G (b.at a (.inRegion ops (i :: rest) :: k)) cs) cases blocking shape w #[]:=by
 rw[stepG_comm ho hw hk hr,listed_nil he]
theorem Jl(N bx:Nat)(w:World):stepG prog false (born prog (DQ N bx)) w=
 .go (G ((baseD 127).at ⟨#[pt (N+3),pt N,pt bx,pt (N+2),undef,undef,undef,undef,undef],[]⟩ [.code MQ]) [qo]) w #[]:=by
 have h1:¬ Tryz.f127.name= "runtime.NumGoroutine":=zD
 have e:=enter_atD (P:=prog) #[pt (N+3),pt N,pt bx,pt (N+2)] func127 D5
 have e2:(#[pt (N+3),pt N,pt bx,pt (N+2)] ++ Array.replicate (Tryz.f127.ntmps - #[pt (N+3),pt N,pt bx,pt (N+2)].size) undef:Array Value)=#[pt (N+3),pt N,pt bx,pt (N+2),undef,undef,undef,undef,undef]:=rfl
 rw[e2] at e
 rw[← e]
 simp[born,stepG,unwind,callDeferred,DQ,invoke,callFunc,func127,h1,D5,GStep.after,seen_none,qo,G]
theorem WX{tmps:Array Value}{todo:List Item}:QuitsD prog 2 0 (G {(baseD 127).at ⟨tmps,[]⟩ todo with mode:=.returning } [qo]):=by
 have e:Tryz.prog.funcs[Tryz.prog.funcs.size]? =none:=zs
 refine QuitsD.ctl (g':=G qo []) rfl (fun w=>?_) (QuitsD.ctl (g':={frame:=qo,callers:=[],status:=.finished,dying:=none }) rfl (fun w=>?_) ⟨rfl,rfl⟩)
 ·have hr:=results_none (fn:=Tryz.f127) rfl tmps prog w
  have he:(results Tryz.f127 tmps).events prog w #[]=#[]:=events_results_none (fn:=Tryz.f127) rfl tmps #[]
  simp[G,stepG,unwind,Frame.at,baseD,func127,hr,he,seen,GStep.after,doReturn,qo,goexitEntry]
 ·simp[G,stepG,unwind,qo,Frame.catches,e,goexitEntry,doReturn]
  rfl
section
variable{n:Nat}{N cb:Nat}{cs:List Frame}{tab:Nat→Option Obj}{bit:Nat→Bool}{w0:World}
abbrev fG(cb:Nat):Value:=.func (.func 100) #[] #[pt cb]
theorem OL(hS:(rO n (fG cb) N cs tab bit w0).Ok){C O:Nat→Prop}{V:World→Prop}(hV:∀w,V w→(rO n (fG cb) N cs tab bit w0).V0 w){tmps:Array Value}{w:World}:
 Wk prog false C V (rO n (fG cb) N cs tab bit w0).K7 (G ((baseD 127).at ⟨tmps,[dcall 128 #[pt (N+3)]]⟩ []) [qo]) w O:=by
 have H:=OJ
 refine Wk.idle rfl (fun _ _=>stepG_end) ?_
 refine Wk.idle rfl (fun _ _=>stepG_unwind_enter (f:=128) (c:=body_done link) rfl H.f_done (nm_done link) rfl) ?_
 rw[show(doneFn link).ntmps=4 from rfl]
 walk_nrm
 refine .stop fun w2 k2 v2=>?_
 exact Yf (S:=rO n (fG cb) N cs tab bit w0) H hS rfl WX (hV _ v2)
theorem tC(e:Event)(h:∀m,e.loc=.mark m→mC m=true):seen prog (baseD 127).fn #[e]=#[e]:=Ov e func127 rfl h
theorem PU(args:Array Value)(w:World):(callFunc 100 args).events prog w #[]=#[]:=by
 have h1:¬ Tryz.f100.name= "runtime.NumGoroutine":=zD
 have h2:Tryz.f100.body.isNone=false:=rfl
 have h3:Tryz.f100.body≠none:=fun h=>by rw[h] at h2;cases h2
 simp[callFunc,func100,h1,h3,go_sem]
theorem Eg(hS:(rO n (fG cb) N cs tab bit w0).Ok)(hB:tab N=some (.cells #[fG cb] 103))(hC:tab (N+2)=some (.cells #[.chan (some (N+1))] 170)){F:Fence}(hF:gP prog F.fn)(hin:∀g,F.fn g→Tryz.prog.inits.idxOf? g=none)(hal:F.alive=true){m:Nat}(hroom:F.room (1+m))
 {D:Nat→Prop}{wz:World}(hcl:Closed D wz)(hD:∀b,D b→tab b=wz.heap[b]?)(hcb:D cb)(hcall:∀i:Nat,i<n→∀σ:Tape,CallsIn F m prog 100 #[int i64 i,pt cb] (on (wK D wz) σ) (fun e _=>e=.returned (.bool (bit i)))):
 D3 (rO n (fG cb) N cs tab bit w0) N:=by
 intro i bx hi w hv
 have htab:∀ {w2:World},(rO n (fG cb) N cs tab bit w0).V1 i bx w2→∀ {b o},tab b=some o→w2.heap[b]? =some o:=fun v _ _ h=>v.1.tab _ _ h
 have hcell:∀ {w2:World} {b:Nat} {v:Value} {t:TypeId},w2.heap[b]? =some (.cells #[v] t)→w2.cell? ⟨b,0,none⟩=some v:=fun h=>by simp[World.cell?,h]
 have RQ:∀ {b o},tab b=some o→(rO n (fG cb) N cs tab bit w0).C1 bx b:=fun h=>.inl (by show tab _≠none;rw[h];simp)
 show Wk prog false _ _ _ _ _ _
 refine Wk.idle rfl (fun _ _=>Jl N bx _) ?_
 simp only[MQ,Tryz.f127,pt]
 refine Wk.idle rfl (fun _ _=>stepG_seq) ?_
 refine Wk.idle rfl (fun _ _=>stepG_region) ?_
 simp only[List.size_toArray,List.length_cons,List.length_nil,Nat.reduceAdd,Nat.zero_add,List.range,List.range.loop]
 refine Wk.idle rfl (fun _ _=>stepG_defer rfl rfl (by k_ne) rfl) ?_
 walk_nrm
 refine Wk.idle rfl (fun _ _=>stepG_region_end) ?_
 refine Wk.idle rfl (fun _ _=>stepG_seq) ?_
 refine Wk.idle rfl (fun _ _=>stepG_region) ?_
 simp only[List.size_toArray,List.length_cons,List.length_nil,Nat.reduceAdd,Nat.zero_add,List.range,List.range.loop]
 refine wV (v:=fG cb) (ad:=⟨N,0,none⟩) rfl rfl (by k_ne) (.inr (RQ hB)) (fun w2 k2 v2=>?_) ?_
 ·have hc:=hcell (htab v2 hB)
  constructor
  ·go_simp
  ·refine(congrArg (seen _ _) (?_:_=#[⟨.cell ⟨N,0,none⟩,false,false⟩])).trans (tC _ zs)
   simp[go_sem,hc]
 walk_nrm
 refine wV (v:=int i64 i) (ad:=⟨bx,0,none⟩) rfl rfl (by k_ne) (.inr (.inr rfl)) (fun w2 k2 v2=>?_) ?_
 ·have hc:=hcell (b:=bx) v2.2
  constructor
  ·go_simp
  ·refine(congrArg (seen _ _) (?_:_=#[⟨.cell ⟨bx,0,none⟩,false,false⟩])).trans (tC _ zs)
   simp[go_sem,hc]
 walk_nrm
 refine WV (f:=100) (args:=#[int i64 i,pt cb]) rfl rfl (by k_ne) (fun _=>?_) (fun _=>?_) ?_
 ·go_simp
 ·simp[go_sem,PU]
 have hk:∀b,D b→wz.heap[b]? =w.heap[b]?:=fun b hb=>by
  obtain⟨c,e,f,h1,_⟩:=hcl b hb
  rw[h1]
  exact(htab hv ((hD b hb).trans h1)).symm
 refine FZ (P:=prog) (F:=F) (D:=D) (w0:=wz) (r:=bit i) zr hF hin hal hroom (hcall i hi) ?_ (hcl.keeps fun b hb=>(hk b hb).symm) hk (fun b hb=>?_) fun w3 O3 hO=>?_
 ·refine⟨rfl,fun j h h'=>?_⟩
  match j,h with
  | 0,_=>exact .int _ _
  | 1,_=>exact .ptr ⟨NV hcb,rfl,rfl⟩
 ·obtain⟨c,e,f,h1,_⟩:=hcl b hb
  exact RQ ((hD b hb).trans h1)
 rw[Frame.finish_at]
 walk_nrm
 refine Wk.idle rfl (fun _ _=>stepG_region_end) ?_
 cases hb:bit i with
 | false=>
   refine Wk.idle rfl (fun _ _=>stepG_cond (t:=false) rfl) ?_
   simp only[if_false,Bool.false_eq_true,↓reduceIte]
   refine Wk.idle rfl (fun _ _=>stepG_skip) ?_
   exact Wk.mono (fun g w O h=>.inr ⟨hb,h⟩) (OL hS fun _ v=>v.1)
 | true=>
   refine Wk.idle rfl (fun _ _=>stepG_cond (t:=true) rfl) ?_
   simp only[if_true]
   refine Wk.idle rfl (fun _ _=>stepG_region) ?_
   simp only[List.size_toArray,List.length_cons,List.length_nil,Nat.reduceAdd,Nat.zero_add,List.range,List.range.loop]
   refine wV (v:=.chan (some (N+1))) (ad:=⟨N+2,0,none⟩) rfl rfl (by k_ne) (.inr (RQ hC)) (fun w2 k2 v2=>?_) ?_
   ·have hc:=hcell (htab v2 hC)
    constructor
    ·go_simp
    ·refine(congrArg (seen _ _) (?_:_=#[⟨.cell ⟨N+2,0,none⟩,false,false⟩])).trans (tC _ zs)
     simp[go_sem,hc]
   walk_nrm
   refine wV (v:=int i64 i) (ad:=⟨bx,0,none⟩) rfl rfl (by k_ne) (.inr (.inr rfl)) (fun w2 k2 v2=>?_) ?_
   ·have hc:=hcell (b:=bx) v2.2
    constructor
    ·go_simp
    ·refine(congrArg (seen _ _) (?_:_=#[⟨.cell ⟨bx,0,none⟩,false,false⟩])).trans (tC _ zs)
     simp[go_sem,hc]
   walk_nrm
   refine .stop fun w2 k2 v2=>.inl ⟨hb,rfl,?_⟩
   refine⟨_,undef,Mq (cases:=#[scase (N+1) (int i64 i) undef]) (blocking:=true) (shape:=.send) rfl rfl (by k_ne) (by go_simp;rfl) (by simp[go_sem]),fun w4 k4 v4=>?_⟩
   rw[finishComm_send]
   have e:∀ (fr:Frame) (v:Value),Go.Conc.served (G fr [qo]) v=G (fr.finish v) [qo]:=fun _ _=>rfl
   rw[e,Frame.finish_at]
   walk_nrm
   refine Wk.idle rfl (fun _ _=>stepG_region_end) ?_
   exact OL hS fun _ v=>v.1
end
end
end Go.Proofs.YtpmafoalhnaokaaGreat
