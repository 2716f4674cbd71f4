/- It WF0 GF YF -/
import Derived.Test.YtmjjocnfidnelaaGreatC7
import Derived.RangeFuncNested
import Derived.RangeFuncBound
import Derived.RangeFuncCalls
import Derived.RangeFuncLeaves
set_option maxRecDepth 100000
set_option maxHeartbeats 16000000
set_option linter.unusedVariables false
set_option linter.unusedSectionVars false
open Go.IntKind(i64)
open Go.Lib(hid)
open Go.Proofs.Tryz
open Go.Value(int)
namespace Go.Proofs.YtmjjocnfidnelaaGreat
section
open Go Go.RowKit
structure Keeps(C:Nat→Prop)(A B:World):Prop where
 os:B.os=A.os
 tape:B.tape=A.tape
 output:B.output=A.output
 size:A.heap.size≤B.heap.size
 block:∀b,b<A.heap.size→¬ C b→B.heap[b]? =A.heap[b]?
section
variable{C C':Nat→Prop}{A B D:World}
theorem Keeps.refl(C:Nat→Prop)(A:World):Keeps C A A:=⟨rfl,rfl,rfl,Nat.le_refl _,fun _ _ _=>rfl⟩
theorem Keeps.trans(h:Keeps C A B)(k:Keeps C B D):Keeps C A D:=
 ⟨k.os.trans h.os,k.tape.trans h.tape,k.output.trans h.output,Nat.le_trans h.size k.size,fun b hb hc=>(k.block b (Nat.lt_of_lt_of_le hb h.size) hc).trans (h.block b hb hc)⟩
theorem Keeps.more(h:Keeps C A B)(hC:∀b,b<A.heap.size→C b→C' b):Keeps C' A B:=⟨h.os,h.tape,h.output,h.size,fun b hb hc=>h.block b hb fun k=>hc (hC b hb k)⟩
theorem Keeps.of_below{n:Nat}(h:Below n A B)(hC:∀b,n≤b→b<A.heap.size→C b):Keeps C A B:=
 ⟨h.os,h.tape,h.output,h.size,fun b hb hc=>h.block b (Nat.lt_of_not_le fun k=>hc (hC b k hb))⟩
theorem Keeps.bL(h:Below A.heap.size A B):Keeps C A B:=Keeps.of_below h fun b h1 h2=>zo
theorem Keeps.below{n:Nat}(h:Keeps C A B)(hC:∀b,b<n→¬ C b)(hn:n≤A.heap.size):Below n A B:=⟨h.os,h.tape,h.output,h.size,fun b hb=>h.block b zo (hC b hb)⟩
theorem Keeps.cell(h:Keeps C A B){p:Addr}(hp:p.block<A.heap.size)(hC:¬ C p.block):B.cell? p=A.cell? p:=by
 unfold World.cell?
 rw[h.block _ hp hC]
theorem Keeps.frozen(h:Keeps C A B){p:Addr}(hp:p.block<A.heap.size)(hC:¬ C p.block):B.frozen? p=A.frozen? p:=by
 unfold World.frozen?
 rw[h.block _ hp hC]
theorem Keeps.set{p:Addr}(h:Keeps C A B)(hp:C p.block)(u:Value):Keeps C A (B.setCell p u):=
 h.trans ⟨rfl,rfl,rfl,by simp[World.setCell],fun b _ hc=>Below.heap_setCell _ _ _ _ (fun e=>hc (e ▸ hp))⟩
end
structure Same(l:Nat)(A B:World):Prop where
 os:B.os=A.os
 tape:B.tape=A.tape
 output:B.output=A.output
 size:B.heap.size=A.heap.size
 block:∀b,b≠l→B.heap[b]? =A.heap[b]?
 loop:∃r,B.heap[l]? =some (.loop r)
theorem og{l:Nat}{A:World}(h:l<A.heap.size)(r:Loop):Same l A (A.putObj l (.loop r)):=
 ⟨rfl,rfl,rfl,by simp[World.putObj],fun b hb=>World.putObj_heap_other hb,r,World.putObj_heap_same h⟩
theorem Same.below{l:Nat}{A B:World}(h:Same l A B){n:Nat}(hn:n≤l):Below n A B:=⟨h.os,h.tape,h.output,by rw[h.size];exact Nat.le_refl _,fun b hb=>h.block b zo⟩
theorem Same.keeps{l:Nat}{A B:World}(h:Same l A B){C:Nat→Prop}(hC:C l):Keeps C A B:=⟨h.os,h.tape,h.output,by rw[h.size];exact Nat.le_refl _,fun b _ hc=>h.block b (fun e=>hc (e ▸ hC))⟩
def wI(C:Nat→Prop)(N:World→Prop)(X:Code→World→Prop)(W:World):Exit→Act→World→Prop
 | .normal,_,W'=>Keeps C W W'∧N W'
 | .ret,_,W'=>Keeps C W W'∧X .ret W'
 | .exit id,_,W'=>Keeps C W W'∧X (.exit id) W'
 | .goto t,_,W'=>Keeps C W W'∧X (.goto t) W'
 | .panic _,_,_=>False
 | .outgrown,_,_=>False
theorem LD{F:Fence}{P:Program}{l:Nat}{r:Loop}{args:Array Value}{C:Nat→Prop}{W:World}{N:World→Prop}{X:Code→World→Prop}(hl:W.heap[l]? =some (.loop r))(hr:r.state=.ready)(hp:r.pending=none)(hfn:F.fn r.fn)(hsz:args.size=r.params.size)(hC:¬ C l)
 (h:r.assign.wpIn (F.inRound l) 0 P (Exit.then (fun a1 W1=>Below W.heap.size W W1∧∀W2,Same l W1 W2→r.body.wpIn (F.inRound l) 0 P (wI C N X W2) a1 W2) (fun _ _ _=>False)) {tmps:=(r.params.zip args).foldl (fun t (p,v)=>t.setIfInBounds p v) r.tmps,defers:=[] } W):
 YieldAt F 0 P l args W fun e B=>Keeps (fun b=>C b∨b=l) W B∧((e=.returned (.bool true)∧B.heap[l]? =some (.loop r)∧∃W3,N W3∧Same l W3 B)∨(e=.returned (.bool false)∧∃c,B.heap[l]? =some (.loop {r with state:=.done,pending:=some c })∧∃W3,X c W3∧Same l W3 B)):=by
 have hlt:l<W.heap.size:=(Array.getElem?_eq_some_iff.1 hl).1
 refine⟨r.fn,_,r.assign,r.body,run_yield hl hsz,roundIn_of_wpIn hfn (wpIn_mono h ?_)⟩
 rintro e a1 W1 hx
 cases e with
 | normal=>
   obtain⟨hb1,hbody⟩:=hx
   have hl1:W1.heap[l]? =some (.loop r):=(hb1.block l hlt).trans hl
   have hlt1:l<W1.heap.size:=(Array.getElem?_eq_some_iff.1 hl1).1
   refine⟨_,run_beginRound hl1 hr,wpIn_mono (hbody _ (og hlt1 _)) ?_⟩
   have hl2:(W1.putObj l (.loop {r with state:=.busy })).heap[l]? =some (.loop {r with state:=.busy }):=World.putObj_heap_same hlt1
   have hk1:Keeps (fun b=>C b∨b=l) W W1:=Keeps.bL hb1
   have hk2:Keeps (fun b=>C b∨b=l) W1 (W1.putObj l (.loop {r with state:=.busy })):=(og hlt1 _).keeps (.inr rfl)
   have fin:∀ (jump:Option Code) (W3:World),Keeps C (W1.putObj l (.loop {r with state:=.busy })) W3→
    ∃B,(Instr.endRound l jump).run P W3=.ok (.bool jump.isNone) B∧Keeps (fun b=>C b∨b=l) W B∧B.heap[l]? =some (.loop {r with state:=if jump.isNone then .ready else .done,pending:=jump })∧Same l W3 B:=fun jump W3 hk3=>by
    have hl3:W3.heap[l]? =some (.loop {r with state:=.busy }):=(hk3.block l (by simp[World.putObj];exact hlt1) hC).trans hl2
    have hlt3:l<W3.heap.size:=(Array.getElem?_eq_some_iff.1 hl3).1
    have hs:=og (A:=W3) hlt3 {r with state:=if jump.isNone then .ready else .done,pending:=jump }
    refine⟨_,run_endRound jump hl3,?_,World.putObj_heap_same hlt3,hs⟩
    exact((hk1.trans hk2).trans (hk3.more fun b _ h=>.inl h)).trans (hs.keeps (.inr rfl))
   rintro e a3 W3 hq
   cases e with
   | normal=>
     obtain⟨hk3,hn⟩:=hq
     obtain⟨B,hr1,hk,hlB,hs⟩:=fin none W3 hk3
     refine⟨_,_,hr1,hk,.inl ⟨rfl,?_,W3,hn,hs⟩⟩
     rw[hlB]
     obtain⟨st,pe,_,_,_,_,_,_⟩:=r
     cases hr
     cases hp
     rfl
   | ret=>
     obtain⟨hk3,hn⟩:=hq
     obtain⟨B,hr1,hk,hlB,hs⟩:=fin (some .ret) W3 hk3
     exact⟨_,_,hr1,hk,.inr ⟨rfl,.ret,hlB,W3,hn,hs⟩⟩
   | exit id=>
     obtain⟨hk3,hn⟩:=hq
     obtain⟨B,hr1,hk,hlB,hs⟩:=fin (some (.exit id)) W3 hk3
     exact⟨_,_,hr1,hk,.inr ⟨rfl,.exit id,hlB,W3,hn,hs⟩⟩
   | goto t=>
     obtain⟨hk3,hn⟩:=hq
     obtain⟨B,hr1,hk,hlB,hs⟩:=fin (some (.goto t)) W3 hk3
     exact⟨_,_,hr1,hk,.inr ⟨rfl,.goto t,hlB,W3,hn,hs⟩⟩
   | panic ch=>exact hq.elim
   | outgrown=>exact hq.elim
 | exit id=>exact hx.elim
 | goto t=>exact hx.elim
 | ret=>exact hx.elim
 | panic chain=>exact hx.elim
 | outgrown=>exact hx.elim
def Iter{α:Type}(F:Fence)(P:Program)(g:Nat)(lb:Array Value)(encs:α→Array Value)(xs:List α)(C:Nat→Prop)(W:World):Prop:=
 ∀ (l:Nat) (J Jx:List α→World→Prop),
   (∀pre A B,J pre A→Below W.heap.size A B→J pre B)→(∀pre A B,Jx pre A→Below W.heap.size A B→Jx pre B)→
   (∀pre x A,pre ++ [x]<+:xs→J pre A→Keeps C W A→YieldAt F 0 P l (encs x) A fun e B=>Keeps C A B∧((e=.returned (.bool true)∧J (pre ++ [x]) B)∨(e=.returned (.bool false)∧Jx (pre ++ [x]) B)))→
   J [] W→
   CallsIn F 0 P g (#[.func (.yield l) #[] #[]] ++ lb) W fun e B=>(∃v,e=.returned v)∧Keeps C W B∧(J xs B∨∃pre,pre<+:xs∧Jx pre B)
theorem Iter.inRound{α:Type}{F:Fence}{P:Program}{g:Nat}{lb:Array Value}{encs:α→Array Value}{xs:List α}{C:Nat→Prop}{W:World}(l:Nat)(h:Iter F P g lb encs xs C W):Iter (F.inRound l) P g lb encs xs C W:=h
theorem iK{F:Fence}{P:Program}{α:Type}{g:Operand}{ps:Array Tmp}{assign body:Code}{Q:Exit→Act→World→Prop}{a:Act}{w:World}(hro:F.round=none)(hd:F.depth=none)
 {gf:Nat}{lb:Array Value}(hg:a.eval g=.func (.func gf) #[] lb)(hFg:F.fn gf)(eg:∀args w,(callFunc gf args).run P w=.ok (.enter gf args) w)
 {encs:α→Array Value}{xs:List α}{C:Nat→Prop}(hC:∀b,C b→b<w.heap.size)
 (hseq:∀W1,Below w.heap.size w W1→W1.heap.size=w.heap.size+2→Iter F P gf lb encs xs (fun b=>C b∨b=w.heap.size∨b=w.heap.size+1) W1)(hps:∀x,(encs x).size=ps.size)
 (I:List α→World→Prop)(Ix:Code→List α→World→Prop)(hI:∀pre A B,I pre A→Below w.heap.size A B→I pre B)(hIx:∀c pre A B,Ix c pre A→Below w.heap.size A B→Ix c pre B)(h0:I [] w)
 (gD:∀ (l:Nat) (pre:List α) (x:α) (W:World),l=w.heap.size+1→pre ++ [x]<+:xs→I pre W→Keeps C w W→w.heap.size+2≤W.heap.size→(∃r,W.heap[l]? =some (.loop r))→
  assign.wpIn (F.inRound l) 0 P (Exit.then (fun a1 W1=>Below W.heap.size W W1∧∀W2,Same l W1 W2→body.wpIn (F.inRound l) 0 P (wI C (I (pre ++ [x])) (fun c=>Ix c (pre ++ [x])) W2) a1 W2) (fun _ _ _=>False)) {tmps:=(ps.zip (encs x)).foldl (fun t (p,v)=>t.setIfInBounds p v) a.tmps,defers:=[] } W)
 (hdone:∀W,I xs W→Keeps C w W→W.heap[w.heap.size]? =some (.deferred (some []))→Q .normal {a with defers:={target:=.collected w.heap.size,args:=#[] } :: a.defers } W)
 (hstop:∀c pre W,pre<+:xs→Ix c pre W→Keeps C w W→W.heap[w.heap.size]? =some (.deferred (some []))→c.wpIn F 0 P Q {a with defers:={target:=.collected w.heap.size,args:=#[] } :: a.defers } W):
 (Code.rangeFunc g ps assign body).wpIn F 0 P Q a w:=by
 refine wpIn_rangeFunc ?_
 intro fn hfn
 rw[hro]
 obtain⟨rec,hrec⟩:∃rec:LoopState→Option Code→Loop,rec=fun st pe=>{state:=st,pending:=pe,fn,tmps:=a.tmps,params:=ps,assign,body,defers:=w.heap.size }:=⟨_,rfl⟩
 obtain⟨W1,hW1⟩:∃W1,(w.alloc (.deferred (some []))).alloc (.loop (rec .ready none))=W1:=⟨_,rfl⟩
 have hL1:W1.heap[w.heap.size+1]? =some (.loop (rec .ready none)):=by
  rw[← hW1];have:=World.alloc_heap_new (w.alloc (.deferred (some []))) (.loop (rec .ready none));rwa[World.size_alloc] at this
 have hK1:W1.heap[w.heap.size]? =some (.deferred (some [])):=by
  rw[← hW1];exact(Below.heap_alloc _ _ _ zs).trans (World.alloc_heap_new w _)
 have hb1:Below w.heap.size w W1:=by
  rw[← hW1];exact((Below.refl _ w).alloc (Nat.le_refl _) _).alloc zs _
 have hs1:W1.heap.size=w.heap.size+2:=by rw[← hW1];simp
 have hback:∀W,Keeps (fun b=>C b∨b=w.heap.size∨b=w.heap.size+1) W1 W→Keeps C w W:=fun W hk=>by
  refine⟨hk.os.trans hb1.os,hk.tape.trans hb1.tape,hk.output.trans hb1.output,by have:=hk.size;omega,fun b hb hc=>?_⟩
  exact(hk.block b zo (by rintro(h|h|h) <;> first|exact hc h|omega)).trans (hb1.block b hb)
 have he:∀ (pe:Option Code) (W2:World),W2.heap[w.heap.size+1]? =some (.loop (rec (if pe.isNone then .ready else .done) pe))→(Instr.endLoop (w.heap.size+1)).run P W2=.ok pe (W2.putObj (w.heap.size+1) (.loop {rec (if pe.isNone then .ready else .done) pe with state:=.exhausted })):=fun pe W2 h=>by
  have hp:(rec (if pe.isNone then .ready else .done) pe).pending=pe:=by rw[hrec]
  have:=run_endLoop (P:=P) h (by rw[hrec];cases pe <;> simp)
  exact this.trans (congrArg (fun o=>Result.ok o _) hp)
 refine⟨w.heap.size+1,[{target:=.collected w.heap.size,args:=#[] }],W1,{target:=.fn (.func gf) lb,args:=#[.func (.yield (w.heap.size+1)) #[] #[]] },W1,gf,
  #[.func (.yield (w.heap.size+1)) #[] #[]] ++ lb,W1,?_,?_,?_,?_,(fun h=>by rw[hd] at h;cases h),?_⟩
 ·rw[← hW1,hrec];exact run_enterLoop_outer _ _ _ _ _
 ·simp only[resolve,hg]
  simp[go_sem]
 ·intro f' hf';simp[Target.leads] at hf';subst hf';exact hFg
 ·simp[invoke,go_sem,eg]
 ·refine(hseq W1 hb1 hs1 (w.heap.size+1)
   (fun pre W=>I pre W∧W.heap[w.heap.size+1]? =some (.loop (rec .ready none))∧W.heap[w.heap.size]? =some (.deferred (some [])))
   (fun pre W=>∃c,Ix c pre W∧W.heap[w.heap.size+1]? =some (.loop (rec .done (some c)))∧W.heap[w.heap.size]? =some (.deferred (some [])))
   (fun pre A B h hb=>⟨hI pre A B h.1 (hb.mono zo),(hb.block _ zo).trans h.2.1,(hb.block _ zo).trans h.2.2⟩)
   (fun pre A B h hb=>by
    obtain⟨c,h1,h2,h3⟩:=h
    exact⟨c,hIx c pre A B h1 (hb.mono zo),(hb.block _ zo).trans h2,(hb.block _ zo).trans h3⟩)
   ?_ ⟨hI [] _ _ h0 hb1,hL1,hK1⟩).mono ?_
  ·rintro pre x W hpre ⟨hi,hl,hk⟩ hkp
   obtain⟨fn',tmps,ay,bd,hy,hR⟩:=LD (F:=F) (P:=P) (args:=encs x) (C:=C) (N:=I (pre ++ [x])) (X:=fun c=>Ix c (pre ++ [x])) hl (by rw[hrec]) (by rw[hrec]) (by rw[hrec];exact hfn) (by rw[hrec];exact hps x) (fun h=>by have:=hC _ h;omega)
    (by
     have:=gD (w.heap.size+1) pre x W rfl hpre hi (hback W hkp) (by have:=hkp.size;omega) ⟨_,hl⟩
     rw[hrec]
     exact this)
   refine⟨fn',tmps,ay,bd,hy,hR.mono ?_⟩
   rintro e B ⟨hkB,(⟨rfl,hlB,W3,hn,hs⟩|⟨rfl,c,hlB,W3,hn,hs⟩)⟩
   ·have hDl:B.heap[w.heap.size]? =some (.deferred (some [])):=(hkB.block _ (by have:=hkp.size;omega) (fun h=>h.elim (fun h=>by have:=hC _ h;omega) (fun h=>zo))).trans hk
    exact⟨hkB.more (fun b _ h=>h.elim .inl fun h=>.inr (.inr h)),.inl ⟨rfl,hI _ _ _ hn (hs.below zo),hlB,hDl⟩⟩
   ·have hDl:B.heap[w.heap.size]? =some (.deferred (some [])):=(hkB.block _ (by have:=hkp.size;omega) (fun h=>h.elim (fun h=>by have:=hC _ h;omega) (fun h=>zo))).trans hk
    exact⟨hkB.more (fun b _ h=>h.elim .inl fun h=>.inr (.inr h)),.inr ⟨rfl,c,hIx _ _ _ _ hn (hs.below zo),by rw[hrec] at hlB⊢;exact hlB,hDl⟩⟩
  ·rintro e W2 ⟨⟨v,rfl⟩,hkW,(⟨hi,hl,hk⟩|⟨pre,hpre,c,hi,hl,hk⟩)⟩
   ·have hlt:w.heap.size+1<W2.heap.size:=(Array.getElem?_eq_some_iff.1 hl).1
    have hs:=og hlt {rec .ready none with state:=.exhausted }
    have Ln:=hkW.trans (hs.keeps (C:=fun b=>C b∨b=w.heap.size∨b=w.heap.size+1) (.inr (.inr rfl)))
    exact⟨none,_,he none _ hl,hdone _ (hI _ _ _ hi (hs.below zo)) (hback _ Ln) ((World.putObj_heap_other zo).trans hk)⟩
   ·have hlt:w.heap.size+1<W2.heap.size:=(Array.getElem?_eq_some_iff.1 hl).1
    have hs:=og hlt {rec .done (some c) with state:=.exhausted }
    have Ln:=hkW.trans (hs.keeps (C:=fun b=>C b∨b=w.heap.size∨b=w.heap.size+1) (.inr (.inr rfl)))
    exact⟨some c,_,he (some c) _ hl,hstop c pre _ hpre (hIx c _ _ _ hi (hs.below zo)) (hback _ Ln) ((World.putObj_heap_other zo).trans hk)⟩
end
section
open Go.RowKit
open Go.Sort (grow)
def eT(h:Ht)(k:Nat)(n:Int):Ht:=⟨h.f,fun i=>if i=k then n else h.m i,h.lies⟩
def kJ(b:Bk):Nat→Nat→Ht→(Nat→Int)→List Ht
 | 0,k,h,s=>if jS b s (jU b k) (jT b k)=true then[h] else[]
 | Nat.succ n,k,h,s=>if jS b s (jU b k) (jT b k)=true then(bM (b.m k).lo ((b.m k).hi - (b.m k).lo+1).toNat).flatMap fun x=>kJ b n (k+1) (eT h k x) (Fy b s (eT h k x) k) else[]
def jZ(b:Bk)(lies:Nat):List Ht:=(bU b b.ng).flatMap fun s=>kJ b b.nm 0 ⟨s,fun _=>0,lies⟩ s
def aH(b:Bk)(ls:List Nat):List Ht:=(ls.filter fun s=>decide (pop s≤b.most)).flatMap fun s=>jZ b s
structure FM(b:Bk)(C:Nat→Prop)(N0 Bb By Bf l:Nat)(W:World):Prop where
 wb:Whole W Bb 71 b.cells
 wy:Whole W By 101 #[.func (.yield l) #[] #[]]
 wf:Whole W Bf 150 #[.func (.func 103) #[] #[.pointer (some ⟨Bb,0,none⟩),.pointer (some ⟨By,0,none⟩),.pointer (some ⟨Bf,0,none⟩)]]
 at_:b.At W N0
 n0:N0≤W.heap.size
 cb:¬ C Bb
 cy:¬ C By
 cf:¬ C Bf
 cn:∀x,x<N0→¬ C x
theorem Whole.keeps{C:Nat→Prop}{w w':World}{b:Nat}{t:TypeId}{cs:Array Value}(h:Whole w b t cs)(hk:Keeps C w w')(hc:¬ C b):Whole w' b t cs:=h.of (hk.block b h.lt hc)
theorem Rows.keeps{C:Nat→Prop}{w w':World}{B size n:Nat}{A:Option Addr}{f:Nat→Nat→Value}(h:Rows w B size A n f)(hk:Keeps C w w')(hB:B≤w.heap.size)(hc:∀x,x<B→¬ C x):Rows w' B size A n f:=
 h.keep fun p hp=>hk.cell zo (hc _ hp)
theorem Bk.At.keeps{b:Bk}{C:Nat→Prop}{w w':World}{B:Nat}(h:b.At w B)(hk:Keeps C w w')(hB:B≤w.heap.size)(hc:∀x,x<B→¬ C x):b.At w' B:=
 ⟨h.g.keeps hk hB hc,h.m.keeps hk hB hc,h.c.keeps hk hB hc,h.ng,h.nm,h.nc,h.name⟩
theorem FM.keeps{b:Bk}{C:Nat→Prop}{N0 Bb By Bf l:Nat}{W W':World}(h:FM b C N0 Bb By Bf l W)(hk:Keeps C W W'):FM b C N0 Bb By Bf l W':=
 ⟨h.wb.keeps hk h.cb,h.wy.keeps hk h.cy,h.wf.keeps hk h.cf,h.at_.keeps hk h.n0 h.cn,Nat.le_trans h.n0 hk.size,h.cb,h.cy,h.cf,h.cn⟩
theorem NV{f m:Nat→Int}{l k:Nat}(hk:k<6)(n:Int):((⟨f,m,l⟩:Ht).cells).setIfInBounds (3+k) (int i64 n)=(⟨f,fun i=>if i=k then n else m i,l⟩:Ht).cells:=by
 rcases(show k=0∨k=1∨k=2∨k=3∨k=4∨k=5 by omega) with rfl|rfl|rfl|rfl|rfl|rfl <;> rfl
theorem RZ{f m:Nat→Int}{l k:Nat}(hk:k<6):((⟨f,m,l⟩:Ht).cells)[3+k]? =some (int i64 (m k)):=by
 rcases(show k=0∨k=1∨k=2∨k=3∨k=4∨k=5 by omega) with rfl|rfl|rfl|rfl|rfl|rfl <;> rfl
theorem Keeps.then{C C1:Nat→Prop}{A B D:World}(h:Keeps C A B)(k:Keeps C1 B D)(hc:∀b,b<A.heap.size→C1 b→C b):Keeps C A D:=
 ⟨k.os.trans h.os,k.tape.trans h.tape,k.output.trans h.output,Nat.le_trans h.size k.size,fun b hb hn=>(k.block b (Nat.lt_of_lt_of_le hb h.size) (fun h1=>hn (hc b hb h1))).trans (h.block b hb hn)⟩
theorem tQ(b:Bk)(h:ku b):∀k,k≤b.ng→∀s∈bU b k,∀q,q<3→0≤s q∧s q≤99
 | 0,_,s,hs,q,_=>by
   obtain rfl:s=fun _=>0:=by simpa [bU] using hs
   simp
 | Nat.succ k,hk,s,hs,q,hq=>by
   have hf:=lQ (h.2 k zo).few
   simp only[bU] at hs
   obtain⟨s0,hs0,hs1⟩:=List.mem_flatMap.1 hs
   obtain⟨n,hn,rfl⟩:=List.mem_map.1 hs1
   have ih:=tQ b h k zo s0 hs0 q hq
   unfold bM at hn
   obtain⟨i,hi,rfl⟩:=List.mem_map.1 hn
   have hi':=List.mem_range.1 hi
   unfold ext
   split <;> omega
end
section
open Go
def FW(p:FuncId→Prop):Fence:={fn:=p }
@[simp] theorem p6(p:FuncId→Prop):(FW p).depth=none:=rfl
@[simp] theorem p7(p:FuncId→Prop):(FW p).round=none:=rfl
class AB(p:FuncId→Prop):Prop where
 fn:∀g,SF.fn g→p g
instance:AB SF.fn:=⟨fun _ h=>h⟩
instance:AB FF.fn:=⟨fun _ h=>Ia h⟩
section
variable{p:FuncId→Prop}[AB p]
@[simp] theorem ET{g:FuncId}(h:SF.fn g):(FW p).fn g:=show p g from AB.fn g h
theorem CallsIn.wide{n:Nat}{P:Program}{f:FuncId}{args:Array Value}{w:World}{R:Ending→World→Prop}(h:CallsIn SF n P f args w R):CallsIn (FW p) n P f args w R:=by
 refine⟨ET h.1,fun cs _=>?_⟩
 obtain⟨e,w',fr,r,hs,rest⟩:=h.2 cs (fun d hd=>by cases hd)
 have hm:∀m:Machine,m.fenced P SF→m.fenced P (FW p):=fun m hm g hg=>by
  obtain⟨a,b,c,d⟩:=hm g hg
  exact⟨a,b.imp ET id,fun f hf=>ET (c f hf),fun d hd=>by cases hd⟩
 refine⟨e,w',fr,r,?_,rest⟩
 cases e with
 | returned v=>exact fU hm hs
 | panicked c=>exact fU hm hs
 | outgrown=>exact hs
end
end
section
open Go.RowKit
open Go.Sort (grow)
attribute [local go_sem] Oper.semAt_some
theorem e8{p:FuncId→Prop}[AB p](b:Bk)(ok:b.Ok)(C:Nat→Prop)(N0 Bb By Bf l:Nat)(W0:World)(J Jx:List Ht→World→Prop)(xs:List Ht)(hC:∀x,C x→x<W0.heap.size)
 (hJ:∀pre A B,J pre A→Below W0.heap.size A B→J pre B)
 (hY:∀pre x A,pre ++ [x]<+:xs→J pre A→Keeps C W0 A→YieldAt (FW p) 0 prog l #[x.val] A fun e B=>Keeps C A B∧((e=.returned (.bool true)∧J (pre ++ [x]) B)∨(e=.returned (.bool false)∧Jx (pre ++ [x]) B))):
 ∀ (fuel k:Nat) (h:Ht) (s:Nat→Int) (pre:List Ht) (W:World),k+fuel=b.nm→FM b C N0 Bb By Bf l W→Keeps C W0 W→J pre W→(pre ++ kJ b fuel k h s)<+:xs→(∀q,q<3→-99 * (k:Int)≤s q∧s q≤99 * ((k:Int)+1))→h.lies<64→
   CallsIn (FW p) 0 prog 103 #[h.val,mE s,int i64 k,.pointer (some ⟨Bb,0,none⟩),.pointer (some ⟨By,0,none⟩),.pointer (some ⟨Bf,0,none⟩)] W fun e W'=>Keeps C W W'∧((e=.returned (.bool true)∧J (pre ++ kJ b fuel k h s) W')∨(e=.returned (.bool false)∧∃q,q<+:kJ b fuel k h s∧Jx (pre ++ q) W')):=by
 have HhC:=hid hC
 have dc:=hid hJ
 have HhY:=hid hY
 clear hC hJ hY
 intro fuel
 induction fuel with
 | zero=>
   intro k h s pre W hkn hM mB hj hpre hs hl
   have Tc:=ok.moves.1
   have DV:∀w,b.At w w.heap.size→CallsIn (FW p) 0 prog 105 #[b.val,int i64 k] w fun e w'=>e=.returned (.agg #[int i64 (jU b k),int i64 (jT b k)])∧Below w.heap.size w w':=fun w hA=>CallsIn.wide (CU b k w hA zo ok.moves.1 (fun i hi=>by have:=(ok.moves.2 i hi).day;have:=ok.days;omega))
   have RV:∀w,b.At w w.heap.size→CallsIn (FW p) 0 prog 104 #[b.val,mE s,.agg #[int i64 (jU b k),int i64 (jT b k)]] w fun e w'=>e=.returned (.bool (jS b s (jU b k) (jT b k)))∧Below w.heap.size w w':=fun w hA=>CallsIn.wide (Cm b s _ _ w hA ok.counts.1 (fun i hi=>by have:=(ok.counts.2 i hi).good;have:=ok.dn.1;omega))
   obtain⟨L1,hL1⟩:∃x,x=jU b k:=⟨_,rfl⟩
   obtain⟨L2,hL2⟩:∃x,x=jT b k:=⟨_,rfl⟩
   obtain⟨R,hR⟩:∃R,R=jS b s (jU b k) (jT b k):=⟨_,rfl⟩
   have hfl:kJ b 0 k h s=if R=true then[h] else[]:=by rw[hR];rfl
   rw[← hL1,← hL2] at DV RV
   rw[← hL1,← hL2] at hR
   rw[← hR] at RV
   rw[hfl] at hpre⊢
   have hbk:b.nm=k:=zo
   clear hfl hL1 hL2 hR hs
   obtain⟨days,most,gA,ng,gc,g,mA,nm,mc,m,cA,nc,cc,c⟩:=b
   simp only at Tc hbk
   subst hbk
   have hdk:decide ((nm:Int)=(nm:Int))=true:=decide_eq_true rfl
   have HOK:=hid ok
   clear ok hkn
   obtain⟨hf,hmm,lies⟩:=h
   simp only[Bk.val,Bk.cells,mE] at DV RV
   have cv:=hid DV
   have D4:=hid RV
   have HM:=hid hM
   have Nv:=hid mB
   have oc:=hid hj
   have oB:=hid hpre
   clear DV RV hM mB hj hpre
   simp only[mE,Ht.val,Ht.cells]
   obtain⟨w2,hw2⟩:∃w2,w2=(W.alloc (.cells #[int i64 (hf 0),int i64 (hf 1),int i64 (hf 2),int i64 (hmm 0),int i64 (hmm 1),int i64 (hmm 2),int i64 (hmm 3),int i64 (hmm 4),int i64 (hmm 5),int i64 lies] 78)).alloc (.cells #[int i64 (s 0),int i64 (s 1),int i64 (s 2)] 75):=⟨_,rfl⟩
   have H2:Hid (Whole w2 W.heap.size 78 #[int i64 (hf 0),int i64 (hf 1),int i64 (hf 2),int i64 (hmm 0),int i64 (hmm 1),int i64 (hmm 2),int i64 (hmm 3),int i64 (hmm 4),int i64 (hmm 5),int i64 lies]):=hid (by rw[hw2];exact(Whole.new _ _ _).alloc _)
   have S2:Hid (Whole w2 (W.heap.size+1) 75 #[int i64 (s 0),int i64 (s 1),int i64 (s 2)]):=hid (by
    have:=Whole.new (W.alloc (.cells #[int i64 (hf 0),int i64 (hf 1),int i64 (hf 2),int i64 (hmm 0),int i64 (hmm 1),int i64 (hmm 2),int i64 (hmm 3),int i64 (hmm 4),int i64 (hmm 5),int i64 lies] 78)) 75 #[int i64 (s 0),int i64 (s 1),int i64 (s 2)]
    rw[World.size_alloc] at this;rw[hw2];exact this)
   have B2:Hid (Below W.heap.size W w2):=hid (by rw[hw2];exact bw)
   have M2:=hid (HM.out.keeps (Keeps.bL B2.out))
   have E9:=hid hw2
   clear hw2
   have q0:∀d os,(grow (redrawn w2 d) os).cell? ⟨Bb,0,none⟩=some (int i64 days):=cell_regrown (M2.out.wb.cell 0)
   have q1:∀d os,(grow (redrawn w2 d) os).cell? ⟨Bb,1,none⟩=some (int i64 most):=cell_regrown (M2.out.wb.cell 1)
   have q2:∀d os,(grow (redrawn w2 d) os).cell? ⟨Bb,2,none⟩=some (.slice gA ng gc):=cell_regrown (M2.out.wb.cell 2)
   have q3:∀d os,(grow (redrawn w2 d) os).cell? ⟨Bb,3,none⟩=some (.slice mA nm mc):=cell_regrown (M2.out.wb.cell 3)
   have q4:∀d os,(grow (redrawn w2 d) os).cell? ⟨Bb,4,none⟩=some (.slice cA nc cc):=cell_regrown (M2.out.wb.cell 4)
   have r0:=cell_regrown (S2.out.cell 0)
   have r1:=cell_regrown (S2.out.cell 1)
   have r2:=cell_regrown (S2.out.cell 2)
   have cS:∀d os,CallsIn (FW p) 0 prog 105 #[.agg #[int i64 days,int i64 most,.slice gA ng gc,.slice mA nm mc,.slice cA nc cc],int i64 nm] (grow (redrawn w2 d) os) fun e w''=>e=.returned (.agg #[int i64 L1,int i64 L2])∧∃p:Regrown,w''=grow (redrawn w2 p.d) p.os:=fun d os=>CallsIn.regrown_of (cv.out _ (((M2.out.at_.more M2.out.n0).below (below_regrown w2 d os)).more (below_regrown w2 d os).size))
   have cR:∀d os,CallsIn (FW p) 0 prog 104 #[.agg #[int i64 days,int i64 most,.slice gA ng gc,.slice mA nm mc,.slice cA nc cc],.agg #[int i64 (s 0),int i64 (s 1),int i64 (s 2)],.agg #[int i64 L1,int i64 L2]] (grow (redrawn w2 d) os) fun e w''=>e=.returned (.bool R)∧∃p:Regrown,w''=grow (redrawn w2 p.d) p.os:=fun d os=>CallsIn.regrown_of (D4.out _ (((M2.out.at_.more M2.out.n0).below (below_regrown w2 d os)).more (below_regrown w2 d os).size))
   gi_enter func103,ntmps103
   gi_wp2
   rw[← E9.out]
   cases R
   ·refine wpIn_region_quiet_below rfl zk zk ?_
    repeat (quiet_step_in (first|exact cS _ _|exact cR _ _))
    refine wpQuietIn_nil ?_
    rintro w' ⟨⟨dq,osq⟩,rfl⟩
    have bE:=below_regrown w2 dq osq
    clear q0 q1 q2 q3 q4 r0 r1 r2 cS cR
    generalize grow (redrawn w2 dq) osq=w3 at bE⊢
    gi_wp2
    go_ret
    have hb:Below W.heap.size W w3:=B2.out.trans (bE.mono B2.out.size)
    exact⟨Keeps.bL hb,.inl ⟨rfl,by simpa using dc.out _ _ _ oc.out (hb.mono Nv.out.size)⟩⟩
   ·refine wpIn_region_quiet_below rfl zk zk ?_
    repeat (quiet_step_in (first|exact cS _ _|exact cR _ _))
    refine wpQuietIn_nil ?_
    rintro w' ⟨⟨dq,osq⟩,rfl⟩
    have bE:=below_regrown w2 dq osq
    clear q0 q1 q2 q3 q4 r0 r1 r2 cS cR
    generalize grow (redrawn w2 dq) osq=w3 at bE⊢
    have H3:=hid (H2.out.below bE H2.out.lt)
    have hb:Below W.heap.size W w3:=B2.out.trans (bE.mono B2.out.size)
    have M3:=hid (HM.out.keeps (Keeps.bL hb))
    have J3:=dc.out _ _ _ oc.out (hb.mono Nv.out.size)
    have K3:=Nv.out.trans (Keeps.bL hb)
    have mi:Hid (Keeps C W w3):=hid (Keeps.bL hb)
    obtain⟨fn,tmps,as1,bd,hy,mL⟩:=HhY.out pre ⟨hf,hmm,lies⟩ w3 (by simpa using oB.out) J3 K3
    simp only[Ht.val,Ht.cells] at hy
    have c3:∀i,w3.cell? ⟨Bb,i,none⟩=(#[int i64 days,int i64 most,.slice gA ng gc,.slice mA nm mc,.slice cA nc cc]:Array Value)[i]?:=M3.out.wb.cell
    have y3:w3.cell? ⟨By,0,none⟩=some (.func (.yield l) #[] #[]):=M3.out.wy.cell 0
    have h3:=H3.out.cell
    have D3:=hid mL
    clear bE hb H2 S2 B2 M2 E9 oB J3 K3 mL
    gi_wp2
    refine D3.out.mono ?_
    rintro e W5 ⟨hk5,(⟨rfl,ff⟩|⟨rfl,hx5⟩)⟩
    ·gi_wp2
     go_ret
     exact⟨mi.out.trans hk5,.inl ⟨rfl,by simpa using ff⟩⟩
    ·gi_wp2
     go_ret
     exact⟨mi.out.trans hk5,.inr ⟨rfl,[⟨hf,hmm,lies⟩],zs,hx5⟩⟩
 | succ fuel ih=>
   intro k h s pre W hkn hM mB hj hpre hs hl
   have Tc:=ok.moves.1
   have On:=ok.moves.2 k zo
   have hsz0:=mB.size
   have DV:∀w,b.At w w.heap.size→CallsIn (FW p) 0 prog 105 #[b.val,int i64 k] w fun e w'=>e=.returned (.agg #[int i64 (jU b k),int i64 (jT b k)])∧Below w.heap.size w w':=fun w hA=>CallsIn.wide (CU b k w hA zo ok.moves.1 (fun i hi=>by have:=(ok.moves.2 i hi).day;have:=ok.days;omega))
   have RV:∀w,b.At w w.heap.size→CallsIn (FW p) 0 prog 104 #[b.val,mE s,.agg #[int i64 (jU b k),int i64 (jT b k)]] w fun e w'=>e=.returned (.bool (jS b s (jU b k) (jT b k)))∧Below w.heap.size w w':=fun w hA=>CallsIn.wide (Cm b s _ _ w hA ok.counts.1 (fun i hi=>by have:=(ok.counts.2 i hi).good;have:=ok.dn.1;omega))
   obtain⟨L1,hL1⟩:∃x,x=jU b k:=⟨_,rfl⟩
   obtain⟨L2,hL2⟩:∃x,x=jT b k:=⟨_,rfl⟩
   obtain⟨R,hR⟩:∃R,R=jS b s (jU b k) (jT b k):=⟨_,rfl⟩
   have hfl:kJ b (fuel+1) k h s=if R=true then(bM (b.m k).lo ((b.m k).hi - (b.m k).lo+1).toNat).flatMap fun x=>kJ b fuel (k+1) (eT h k x) (Fy b s (eT h k x) k) else[]:=by rw[hR];rfl
   rw[← hL1,← hL2] at DV RV
   rw[← hL1,← hL2] at hR
   rw[← hR] at RV
   rw[hfl] at hpre⊢
   have ep:∀x w,0≤x→x≤99→b.At w w.heap.size→CallsIn (FW p) 0 prog 65 #[b.val,mE s,(eT h k x).val,int i64 k] w fun e w'=>e=.returned (mE (Fy b s (eT h k x) k))∧Below w.heap.size w w':=fun x w hx1 hx2 hA=>CallsIn.wide (Go.Proofs.YtmjjocnfidnelaaGreat.W.vZ b s (eT h k x) k w hA zo On ok.dn.1.2 zo hl (fun q hq=>by have:=hs q hq;omega) (by
    unfold Ht.real
    split
    ·omega
    ·simp[eT];omega))
   have hsA:∀x,0≤x→x≤99→∀q,q<3→-99 * ((k+1:Nat):Int)≤Fy b s (eT h k x) k q∧Fy b s (eT h k x) k q≤99 * (((k+1:Nat):Int)+1):=fun x hx1 hx2 q hq=>by
    have h1:=hs q hq
    have h2:0≤(eT h k x).real k∧(eT h k x).real k≤99:=by
     unfold Ht.real
     split
     ·omega
     ·simp[eT];omega
    unfold Fy pT
    push_cast
    split <;> (try split) <;> omega
   have Xk:=lQ On.few
   obtain⟨AF,yy⟩:∃AF,AF=fun x=>Fy b s (eT h k x) k:=⟨_,rfl⟩
   obtain⟨FL,yz⟩:∃FL,FL=fun x=>kJ b fuel (k+1) (eT h k x) (AF x):=⟨_,rfl⟩
   have sf:(fun x=>kJ b fuel (k+1) (eT h k x) (Fy b s (eT h k x) k))=FL:=by rw[yz,yy]
   rw[sf] at hpre⊢
   have ihx:∀x pre W,0≤x→x≤99→FM b C N0 Bb By Bf l W→Keeps C W0 W→J pre W→(pre ++ FL x)<+:xs→CallsIn (FW p) 0 prog 103 #[(eT h k x).val,mE (AF x),int i64 ((k:Int)+1),.pointer (some ⟨Bb,0,none⟩),.pointer (some ⟨By,0,none⟩),.pointer (some ⟨Bf,0,none⟩)] W fun e W'=>Keeps C W W'∧((e=.returned (.bool true)∧J (pre ++ FL x) W')∨(e=.returned (.bool false)∧∃q,q<+:FL x∧Jx (pre ++ q) W')):=fun x pre W h1 h2 hM hK hj hp=>by
    have:=ih (k+1) (eT h k x) (AF x) pre W zo hM hK hj (by rw[yz] at hp;exact hp) (by rw[yy];exact hsA x h1 h2) hl
    rw[yz]
    exact_mod_cast this
   have pH:∀x w,0≤x→x≤99→b.At w w.heap.size→CallsIn (FW p) 0 prog 65 #[b.val,mE s,(eT h k x).val,int i64 k] w fun e w'=>e=.returned (mE (AF x))∧Below w.heap.size w w':=by rw[yy];exact ep
   have hbk:b.nm=k+(fuel+1):=hkn.symm
   have hM0:=hM
   clear ih ep hsA hfl sf yz yy hL1 hL2 hR hs On
   obtain⟨cnt,hcnt⟩:∃cnt,cnt=((b.m k).hi - (b.m k).lo+1).toNat:=⟨_,rfl⟩
   rw[← hcnt] at hpre⊢
   obtain⟨days,most,gA,ng,gc,g,mA,nm,mc,m,cA,nc,cc,c⟩:=b
   obtain⟨lo,hlo⟩:∃lo,lo=(m k).lo:=⟨_,rfl⟩
   obtain⟨hi,hhi⟩:∃hi,hi=(m k).hi:=⟨_,rfl⟩
   simp only at Tc hbk Xk hcnt hpre
   rw[← hlo,← hhi] at Xk hcnt
   rw[← hlo] at hpre
   simp only
   rw[← hlo]
   have hc3:cnt≤3:=zo
   have HC:Hid ((cnt:Int)=hi - lo+1):=hid zo
   have HF:=hid Xk
   clear hcnt Xk
   have HKN:=hid hbk
   have HOK:=hid ok
   clear hkn ok
   have hdk:decide ((k:Int)=(nm:Int))=false:=decide_eq_false zo
   have aau:((k:Int) == (nm:Int))=false:=zm
   obtain⟨ad,hA',-,-⟩:=hM.at_.m (show 0<nm by omega)
   have hkl:k<nm:=zo
   clear hbk hsz0
   simp only at hA'
   subst hA'
   have row:∀w',Keeps C W w'→w'.cell? ⟨(ad.add (k * 5)).block,(ad.add (k * 5)).off+3,none⟩=some (int i64 lo)∧w'.cell? ⟨(ad.add (k * 5)).block,(ad.add (k * 5)).off+3+1,none⟩=some (int i64 hi):=fun w' hk=>by
    have hr:=(hM.keeps hk).at_.m.row hkl
    rw[hlo,hhi]
    exact⟨hr.2 3 zD,hr.2 4 zD⟩
   have Row:=hid row
   clear row hlo hhi
   obtain⟨hf,hmm,lies⟩:=h
   simp only[Bk.val,Bk.cells,mE] at DV RV
   have cv:=hid DV
   have D4:=hid RV
   have B6:=hid pH
   have HIh:=hid ihx
   have HM:=hid hM
   clear DV RV pH ihx hM0 hM
   have Nv:=hid mB
   have oc:=hid hj
   have oB:=hid hpre
   clear mB hj hpre
   simp only[mE,Ht.val,Ht.cells]
   obtain⟨w2,hw2⟩:∃w2,w2=(W.alloc (.cells #[int i64 (hf 0),int i64 (hf 1),int i64 (hf 2),int i64 (hmm 0),int i64 (hmm 1),int i64 (hmm 2),int i64 (hmm 3),int i64 (hmm 4),int i64 (hmm 5),int i64 lies] 78)).alloc (.cells #[int i64 (s 0),int i64 (s 1),int i64 (s 2)] 75):=⟨_,rfl⟩
   have H2:Hid (Whole w2 W.heap.size 78 #[int i64 (hf 0),int i64 (hf 1),int i64 (hf 2),int i64 (hmm 0),int i64 (hmm 1),int i64 (hmm 2),int i64 (hmm 3),int i64 (hmm 4),int i64 (hmm 5),int i64 lies]):=hid (by rw[hw2];exact(Whole.new _ _ _).alloc _)
   have S2:Hid (Whole w2 (W.heap.size+1) 75 #[int i64 (s 0),int i64 (s 1),int i64 (s 2)]):=hid (by
    have:=Whole.new (W.alloc (.cells #[int i64 (hf 0),int i64 (hf 1),int i64 (hf 2),int i64 (hmm 0),int i64 (hmm 1),int i64 (hmm 2),int i64 (hmm 3),int i64 (hmm 4),int i64 (hmm 5),int i64 lies] 78)) 75 #[int i64 (s 0),int i64 (s 1),int i64 (s 2)]
    rw[World.size_alloc] at this;rw[hw2];exact this)
   have B2:Hid (Below W.heap.size W w2):=hid (by rw[hw2];exact bw)
   have M2:=hid (HM.out.keeps (Keeps.bL B2.out))
   have E9:=hid hw2
   clear hw2
   have q0:∀d os,(grow (redrawn w2 d) os).cell? ⟨Bb,0,none⟩=some (int i64 days):=cell_regrown (M2.out.wb.cell 0)
   have q1:∀d os,(grow (redrawn w2 d) os).cell? ⟨Bb,1,none⟩=some (int i64 most):=cell_regrown (M2.out.wb.cell 1)
   have q2:∀d os,(grow (redrawn w2 d) os).cell? ⟨Bb,2,none⟩=some (.slice gA ng gc):=cell_regrown (M2.out.wb.cell 2)
   have q3:∀d os,(grow (redrawn w2 d) os).cell? ⟨Bb,3,none⟩=some (.slice (some ad) nm mc):=cell_regrown (M2.out.wb.cell 3)
   have q4:∀d os,(grow (redrawn w2 d) os).cell? ⟨Bb,4,none⟩=some (.slice cA nc cc):=cell_regrown (M2.out.wb.cell 4)
   have r0:=cell_regrown (S2.out.cell 0)
   have r1:=cell_regrown (S2.out.cell 1)
   have r2:=cell_regrown (S2.out.cell 2)
   have cS:∀d os,CallsIn (FW p) 0 prog 105 #[.agg #[int i64 days,int i64 most,.slice gA ng gc,.slice (some ad) nm mc,.slice cA nc cc],int i64 k] (grow (redrawn w2 d) os) fun e w''=>e=.returned (.agg #[int i64 L1,int i64 L2])∧∃p:Regrown,w''=grow (redrawn w2 p.d) p.os:=fun d os=>CallsIn.regrown_of (cv.out _ (((M2.out.at_.more M2.out.n0).below (below_regrown w2 d os)).more (below_regrown w2 d os).size))
   have cR:∀d os,CallsIn (FW p) 0 prog 104 #[.agg #[int i64 days,int i64 most,.slice gA ng gc,.slice (some ad) nm mc,.slice cA nc cc],.agg #[int i64 (s 0),int i64 (s 1),int i64 (s 2)],.agg #[int i64 L1,int i64 L2]] (grow (redrawn w2 d) os) fun e w''=>e=.returned (.bool R)∧∃p:Regrown,w''=grow (redrawn w2 p.d) p.os:=fun d os=>CallsIn.regrown_of (D4.out _ (((M2.out.at_.more M2.out.n0).below (below_regrown w2 d os)).more (below_regrown w2 d os).size))
   gi_enter func103,ntmps103
   gi_wp2
   rw[← E9.out]
   cases R
   ·refine wpIn_region_quiet_below rfl zk zk ?_
    repeat (quiet_step_in (first|exact cS _ _|exact cR _ _))
    refine wpQuietIn_nil ?_
    rintro w' ⟨⟨dq,osq⟩,rfl⟩
    have bE:=below_regrown w2 dq osq
    clear q0 q1 q2 q3 q4 r0 r1 r2 cS cR
    generalize grow (redrawn w2 dq) osq=w3 at bE⊢
    gi_wp2
    go_ret
    have hb:Below W.heap.size W w3:=B2.out.trans (bE.mono B2.out.size)
    exact⟨Keeps.bL hb,.inl ⟨rfl,by simpa using dc.out _ _ _ oc.out (hb.mono Nv.out.size)⟩⟩
   ·refine wpIn_region_quiet_below rfl zk zk ?_
    repeat (quiet_step_in (first|exact cS _ _|exact cR _ _))
    refine wpQuietIn_nil ?_
    rintro w' ⟨⟨dq,osq⟩,rfl⟩
    have bE:=below_regrown w2 dq osq
    clear q0 q1 q2 q3 q4 r0 r1 r2 cS cR
    generalize grow (redrawn w2 dq) osq=w3 at bE⊢
    have H3:=hid (H2.out.below bE H2.out.lt)
    have S3:=hid (S2.out.below bE S2.out.lt)
    have hb:Below W.heap.size W w3:=B2.out.trans (bE.mono B2.out.size)
    have M3:=hid (HM.out.keeps (Keeps.bL hb))
    have J3:=hid (dc.out _ _ _ oc.out (hb.mono Nv.out.size))
    have K3:=hid (Nv.out.trans (Keeps.bL hb))
    have mi:Hid (Keeps C W w3):=hid (Keeps.bL hb)
    have hs3:=S3.out.lt
    have c3:∀i,w3.cell? ⟨Bb,i,none⟩=(#[int i64 days,int i64 most,.slice gA ng gc,.slice (some ad) nm mc,.slice cA nc cc]:Array Value)[i]?:=M3.out.wb.cell
    obtain⟨r3,r4⟩:=Row.out w3 mi.out
    have DO:Hid (pre ++ (bM lo cnt).flatMap FL<+:xs):=hid (by simpa using oB.out)
    clear bE hb H2 S2 B2 M2 E9 oB
    gi_wp2
    have ta:∀x,W.heap.size≤x→¬ C x:=fun x hx hc=>by have:=HhC.out x hc;have:=Nv.out.size;omega
    have xx:=hid ta
    obtain⟨w4,hw4⟩:∃w4,w4=w3.alloc (.cells #[int i64 lo,int i64 hi] 39):=⟨_,rfl⟩
    have P4:Hid (Whole w4 w3.heap.size 39 #[int i64 lo,int i64 hi]):=hid (by rw[hw4];exact Whole.new _ _ _)
    have H4:Hid (Whole w4 W.heap.size 78 (⟨hf,hmm,lies⟩:Ht).cells):=hid (by rw[hw4];exact H3.out.alloc _)
    have S4:Hid (Whole w4 (W.heap.size+1) 75 #[int i64 (s 0),int i64 (s 1),int i64 (s 2)]):=hid (by rw[hw4];exact S3.out.alloc _)
    have KW4:Hid (Keeps C W w4):=hid (by rw[hw4];exact mi.out.trans (Keeps.bL ((Below.refl _ _).alloc (Nat.le_refl _) _)))
    have J4:Hid (J pre w4):=hid (by rw[hw4];exact dc.out _ _ _ J3.out ((Below.refl _ _).alloc K3.out.size _))
    have hs4:w3.heap.size<w4.heap.size:=P4.out.lt
    rw[← hw4]
    have hWs:W.heap.size+1<w3.heap.size:=hs3
    clear hw4 H3 S3 mi J3 K3 M3 c3 r3 r4 ta
    gi_loopw [11] (fun n wr=>∃i:Nat,i≤cnt∧n=int i64 (lo+i)∧∃hm:Nat→Int,Hid (Keeps (fun x=>C x∨x=W.heap.size) w4 wr∧Whole wr W.heap.size 78 (⟨hf,hm,lies⟩:Ht).cells∧(∀x,eT ⟨hf,hm,lies⟩ k x=eT ⟨hf,hmm,lies⟩ k x)∧J (pre ++ (bM lo i).flatMap FL) wr)) (fun n _=>(hi+1 - intOf n).toNat)
    case atStart=>exact⟨0,Nat.zero_le _,zs,hmm,hid ⟨Keeps.refl _ _,H4.out,fun _=>rfl,by simpa [bM] using J4.out⟩⟩
    case round=>
     obtain⟨i,hii,rfl,hm,hT⟩:=hrel
     clear J4 H4
     have hKr:Keeps C W wr:=KW4.out.then hT.out.1 fun x hx h=>h.elim id fun h=>zo
     have Ss:=hid hKr
     have Mr:=hid (HM.out.keeps hKr)
     have Sr:=hid (S4.out.keeps hT.out.1 (fun h=>h.elim (xx.out _ zo) (fun h=>zo)))
     have Pr:=hid (P4.out.keeps hT.out.1 (fun h=>h.elim (xx.out _ zo) (fun h=>zo)))
     have g1:wr.cell? ⟨w3.heap.size,1,none⟩=some (int i64 hi):=Pr.out.cell 1
     have hst:=hT.out.1.size
     clear hKr
     by_cases hic:i<cnt
     ·have hd:decide (lo+(i:Int)≤hi)=true:=decide_eq_true (by have:=HC.out;omega)
      have hk0:(0:Int)≤(k:Int):=zo
      have Ta:(k:Int)<6:=zo
      have x0:wr.cell? ⟨W.heap.size,3+k,none⟩=some (int i64 (hm k)):=(hT.out.2.1.cell _).trans (RZ zo)
      have xf:=hT.out.2.1.thaw
      have hWr:=hT.out.2.1.lt
      have hn0:0≤lo+(i:Int)∧lo+(i:Int)≤99:=by have:=HC.out;have:=HF.out;omega
      have Su:=hid hn0
      have hnw:wrap64 (lo+(i:Int)+1)=lo+(i:Int)+1:=IntWalk.wrap64_in _ zo
      have ot:=hid hnw
      clear hn0
      obtain⟨nv,fx⟩:∃nv,nv=lo+(i:Int):=⟨_,rfl⟩
      have LJ:=hid fx
      rw[← fx] at hd Su hnw⊢
      clear fx
      gi_wp2
      obtain⟨hx,hhx⟩:∃hx,hx=eT ⟨hf,hmm,lies⟩ k nv:=⟨_,rfl⟩
      obtain⟨sx,hsx⟩:∃sx,sx=AF nv:=⟨_,rfl⟩
      have hx2:hx=(⟨hf,fun i=>if i=k then nv else hm i,lies⟩:Ht):=by rw[hhx,← hT.out.2.2.1 nv];rfl
      obtain⟨w7,hw7⟩:∃w7,w7=wr.setCell ⟨W.heap.size,3+k,none⟩ (int i64 nv):=⟨_,rfl⟩
      have W7:Hid (Whole w7 W.heap.size 78 #[int i64 (hx.f 0),int i64 (hx.f 1),int i64 (hx.f 2),int i64 (hx.m 0),int i64 (hx.m 1),int i64 (hx.m 2),int i64 (hx.m 3),int i64 (hx.m 4),int i64 (hx.m 5),int i64 hx.lies]):=hid (by
       have:=hT.out.2.1.set (3+k) (int i64 nv)
       rw[NV zo,← hx2,← hw7] at this
       exact this)
      have K7:Hid (Keeps (fun x=>C x∨x=W.heap.size) wr w7):=hid (by rw[hw7];exact(Keeps.refl _ _).set (p:=⟨W.heap.size,3+k,none⟩) (.inr rfl) _)
      have Ft:Hid (Keeps C W w7):=hid (Ss.out.then K7.out fun x hx h=>h.elim id fun h=>zo)
      have M7:=hid (HM.out.keeps Ft.out)
      have S7:=hid (Sr.out.keeps K7.out (fun h=>h.elim (xx.out _ zo) (fun h=>zo)))
      have J7:Hid (J (pre ++ (bM lo i).flatMap FL) w7):=hid (by rw[hw7];exact dc.out _ _ _ hT.out.2.2.2 ((Below.refl _ _).setCell (p:=⟨W.heap.size,3+k,none⟩) (by have:=Nv.out.size;exact this) _))
      have HX2:=hid hx2
      have Rm:=Su.out
      have ep:=fun w=>B6.out nv w Rm.1 Rm.2
      have yn:=fun pre W=>HIh.out nv pre W Rm.1 Rm.2
      rw[← hhx,← hsx] at ep yn
      simp only[Bk.val,Bk.cells,Ht.val,Ht.cells,mE] at ep yn
      have HcI:=hid yn
      have Wf:∀d os,CallsIn (FW p) 0 prog 65 #[.agg #[int i64 days,int i64 most,.slice gA ng gc,.slice (some ad) nm mc,.slice cA nc cc],.agg #[int i64 (s 0),int i64 (s 1),int i64 (s 2)],.agg #[int i64 (hx.f 0),int i64 (hx.f 1),int i64 (hx.f 2),int i64 (hx.m 0),int i64 (hx.m 1),int i64 (hx.m 2),int i64 (hx.m 3),int i64 (hx.m 4),int i64 (hx.m 5),int i64 hx.lies],int i64 k] (grow (redrawn w7 d) os) fun e w''=>e=.returned (.agg #[int i64 (sx 0),int i64 (sx 1),int i64 (sx 2)])∧∃p:Regrown,w''=grow (redrawn w7 p.d) p.os:=fun d os=>CallsIn.regrown_of (ep _ (((M7.out.at_.more M7.out.n0).below (below_regrown w7 d os)).more (below_regrown w7 d os).size))
      have ek:IntKind.i64.wrap ((k:Int)+1)=(k:Int)+1:=IntWalk.i64_in _ zo
      rw[← hw7]
      clear hw7 hx2 Rm ep yn hhx hsx x0 xf g1 hnw
      have q0:∀d os,(grow (redrawn w7 d) os).cell? ⟨Bb,0,none⟩=some (int i64 days):=cell_regrown (M7.out.wb.cell 0)
      have q1:∀d os,(grow (redrawn w7 d) os).cell? ⟨Bb,1,none⟩=some (int i64 most):=cell_regrown (M7.out.wb.cell 1)
      have q2:∀d os,(grow (redrawn w7 d) os).cell? ⟨Bb,2,none⟩=some (.slice gA ng gc):=cell_regrown (M7.out.wb.cell 2)
      have q3:∀d os,(grow (redrawn w7 d) os).cell? ⟨Bb,3,none⟩=some (.slice (some ad) nm mc):=cell_regrown (M7.out.wb.cell 3)
      have q4:∀d os,(grow (redrawn w7 d) os).cell? ⟨Bb,4,none⟩=some (.slice cA nc cc):=cell_regrown (M7.out.wb.cell 4)
      have q5:∀d os,(grow (redrawn w7 d) os).cell? ⟨Bf,0,none⟩=some (.func (.func 103) #[] #[.pointer (some ⟨Bb,0,none⟩),.pointer (some ⟨By,0,none⟩),.pointer (some ⟨Bf,0,none⟩)]):=cell_regrown (M7.out.wf.cell 0)
      have r0:=cell_regrown (S7.out.cell 0)
      have r1:=cell_regrown (S7.out.cell 1)
      have r2:=cell_regrown (S7.out.cell 2)
      have y0:=cell_regrown (W7.out.cell 0)
      have y1:=cell_regrown (W7.out.cell 1)
      have y2:=cell_regrown (W7.out.cell 2)
      have y3:=cell_regrown (W7.out.cell 3)
      have y4:=cell_regrown (W7.out.cell 4)
      have y5:=cell_regrown (W7.out.cell 5)
      have y6:=cell_regrown (W7.out.cell 6)
      have y7:=cell_regrown (W7.out.cell 7)
      have y8:=cell_regrown (W7.out.cell 8)
      have y9:=cell_regrown (W7.out.cell 9)
      refine aJ 9 rfl zk zk ?_
      simp only[List.take_succ_cons,List.take_zero,List.drop_succ_cons,List.drop_zero]
      repeat (quiet_step_in (exact Wf _ _))
      refine wpQuietIn_nil ?_
      rintro w' ⟨⟨dq,osq⟩,rfl⟩
      have bE:=below_regrown w7 dq osq
      clear q0 q1 q2 q3 q4 q5 r0 r1 r2 y0 y1 y2 y3 y4 y5 y6 y7 y8 y9 Wf ek
      generalize grow (redrawn w7 dq) osq=w9 at bE⊢
      have K9:Hid (Keeps (fun x=>C x∨x=W.heap.size) wr w9):=hid (K7.out.trans (Keeps.bL bE))
      have FA:Hid (Keeps C W w9):=hid (Ft.out.trans (Keeps.bL bE))
      have M9:=hid (HM.out.keeps FA.out)
      have W9:=hid (W7.out.below bE W7.out.lt)
      have J9:=hid (dc.out _ _ _ J7.out (bE.mono (Nat.le_trans Nv.out.size Ft.out.size)))
      obtain⟨rest,hrest⟩:∃rest,rest=((bM lo cnt).drop (i+1)).flatMap FL:=⟨_,rfl⟩
      have e:(bM lo cnt).flatMap FL=(bM lo i).flatMap FL ++ (FL nv ++ rest):=by
       rw[hrest]
       have h1:bM lo cnt=bM lo i ++ nv :: (bM lo cnt).drop (i+1):=by
        have h2:(bM lo cnt).take i=bM lo i:=by
         unfold bM
         rw[← List.map_take,List.take_range,Nat.min_eq_left zo]
        have h3:(bM lo cnt)[i]'(by simp[bM];exact hic)=nv:=by rw[LJ.out];simp[bM]
        have h4:=List.take_append_drop i (bM lo cnt)
        rw[h2,List.drop_eq_getElem_cons (by simp[bM];exact hic),h3] at h4
        exact h4.symm
       rw[h1,List.flatMap_append,List.flatMap_cons]
       congr 2
       rw[← h1]
      have HE:=hid e
      have hpx:(pre ++ (bM lo i).flatMap FL) ++ FL nv<+:xs:=by
       have h:=DO.out
       rw[e] at h
       exact List.IsPrefix.trans ⟨rest,zs⟩ h
      have ZG:=hid hpx
      clear bE hpx e hrest
      gi_wp2_with (gi_at_call 103;refine(HcI.out (pre ++ (bM lo i).flatMap FL) w9 M9.out (Nv.out.trans FA.out) J9.out ZG.out).mono ?_;rintro e W5 ⟨hk5,(⟨rfl,ff⟩|⟨rfl,q,hq,hx5⟩)⟩)
      ·refine⟨⟨i+1,zo,by rw[LJ.out,ot.out];congr 1;push_cast;omega,fun i=>if i=k then nv else hm i,hid ⟨hT.out.1.trans (K9.out.trans (hk5.more fun b _ h=>.inl h)),?_,fun x=>?_,?_⟩⟩,?_⟩
       ·have:=W9.out.keeps hk5 (xx.out _ (Nat.le_refl _))
        rw[← HX2.out]
        exact this
       ·rw[← hT.out.2.2.1 x]
        unfold eT
        simp only
        congr 1
        funext y
        split <;> rfl
       ·rw[mV,List.flatMap_append,← List.append_assoc,← LJ.out]
        simpa using ff
       ·have h1:=ot.out
        have h2:=LJ.out
        have h3:=HC.out
        rw[h2,h1]
        simp only[intOf]
        omega
      ·go_ret
       refine⟨FA.out.trans hk5,.inr ⟨rfl,(bM lo i).flatMap FL ++ q,?_,by rw[← List.append_assoc];exact hx5⟩⟩
       rw[HE.out]
       obtain⟨r,hr⟩:=hq
       exact⟨r ++ rest,by rw[← hr];simp⟩
     ·obtain rfl:i=cnt:=zo
      have hd:decide (lo+(i:Int)≤hi)=false:=decide_eq_false (by have:=HC.out;omega)
      gi_wp2
      go_ret
      exact⟨Ss.out,.inl ⟨rfl,hT.out.2.2.2⟩⟩
end
end Go.Proofs.YtmjjocnfidnelaaGreat
