/- OP -/
import Derived.Test.YtoldgagdgjilgaaGreatF0
import Derived.Carry
import Derived.SizedLaws
import Derived.WideShapes
import Derived.ChangeShapes
import Derived.ChangeSlices
set_option maxRecDepth 100000
set_option maxHeartbeats 16000000
set_option linter.unusedVariables false
set_option linter.unusedSectionVars false
open Go.IntKind(i64)
open Go.Proofs.Tryz
open Go.Value(int)
namespace Go.Proofs.YtoldgagdgjilgaaGreat
section
open Go
section
variable{H:Type}{enc:TypeId × Value→H}{w:World}{fuel:Nat}
noncomputable abbrev TR (enc:TypeId × Value→H) (w:World):Nat→TypeId→List Value→Option (DataW H × List MemPlace):=DataW.trod enc prog w 0 (fun _=>true) true
theorem c3:Tryz.prog.cellsOf 3=1:=zk
theorem c37:Tryz.prog.cellsOf 82=1:=zk
theorem c9:Tryz.prog.cellsOf 9=1:=zk
theorem c39:Tryz.prog.cellsOf 30=2:=zk
theorem c68:Tryz.prog.cellsOf 77=5:=zk
theorem c41:Tryz.prog.cellsOf 84=5:=zk
theorem c88:Tryz.prog.cellsOf 81=4:=zk
theorem c22:Tryz.prog.cellsOf 22=1:=zk
theorem c23:Tryz.prog.cellsOf 23=1:=zk
theorem c24:Tryz.prog.cellsOf 24=1:=zk
theorem c26:Tryz.prog.cellsOf 26=5:=zk
theorem gB{t:TypeId}{k:IntKind}(ht:Tryz.prog.underlying t=some (.int k)){cs:List Value}{o:Nat}{y:DataW H × List MemPlace}(h:TR enc w fuel t ((cs.drop o).take 1)=some y):∃n,cs[o]? =some (.int k n)∧(Lit.int k n).wf=true:=by
 obtain⟨n,e,_,hw⟩:=DataW.trod_int ht h
 exact⟨n,WideShapes.cell_of_cut e,hw⟩
theorem UZ{t:TypeId}(ht:Tryz.prog.underlying t=some .string){cs:List Value}{o:Nat}{y:DataW H × List MemPlace}(h:TR enc w fuel t ((cs.drop o).take 1)=some y):∃s,cs[o]? =some (.string s)∧s.size≤maxLen:=by
 obtain⟨n,e,_,hw⟩:=DataW.trod_string ht h
 exact⟨n,WideShapes.cell_of_cut e,hw⟩
theorem Ku{cs:List Value}{o j n:Nat}{v:Value}(h:((cs.drop o).take n)[j]? =some v):cs[o+j]? =some v:=by
 rw[List.getElem?_take] at h
 split at h
 ·rwa[List.getElem?_drop] at h
 ·cases h
theorem vV{cs:List Value}{o:Nat}{y:DataW H × List MemPlace}(h:TR enc w fuel 30 ((cs.drop o).take 2)=some y):∃a b,cs[o]? =some (int i64 a)∧cs[o+1]? =some (int i64 b):=by
 obtain⟨xs,n,rfl,rfl,hl,hx,hf⟩:=DataW.trod_struct underlying30 h
 have f0:TR enc w n 3 ((((cs.drop o).take 2).drop 0).take (Tryz.prog.cellsOf 3))=xs[0]?:=hf 0 _ rfl
 have f1:TR enc w n 3 ((((cs.drop o).take 2).drop 1).take (Tryz.prog.cellsOf 3))=xs[1]?:=hf 1 _ rfl
 rw[c3] at f0
 rw[c3] at f1
 have hx:xs.length=2:=hx
 rw[List.getElem?_eq_getElem zo] at f0 f1
 obtain⟨a,h0,_⟩:=gB underlying3 f0
 obtain⟨b,h1,_⟩:=gB underlying3 f1
 exact⟨a,b,Ku h0,Ku h1⟩
theorem Sd{cs:List Value}{y:DataW H × List MemPlace}(h:TR enc w fuel 77 cs=some y):∃g:Good,(∀j,j<5→cs[j]? =some (g.cell j))∧g.name.size≤maxLen:=by
 obtain⟨xs,n,rfl,rfl,hl,hx,hf⟩:=DataW.trod_struct underlying77 h
 have f0:TR enc w n 9 ((cs.drop 0).take (Tryz.prog.cellsOf 9))=xs[0]?:=hf 0 _ rfl
 have f1:TR enc w n 3 ((cs.drop 1).take (Tryz.prog.cellsOf 3))=xs[1]?:=hf 1 _ rfl
 have f2:TR enc w n 3 ((cs.drop 2).take (Tryz.prog.cellsOf 3))=xs[2]?:=hf 2 _ rfl
 have f3:TR enc w n 30 ((cs.drop 3).take (Tryz.prog.cellsOf 30))=xs[3]?:=hf 3 _ rfl
 rw[c9] at f0
 rw[c3] at f1
 rw[c3] at f2
 rw[c39] at f3
 have hx:xs.length=4:=hx
 rw[List.getElem?_eq_getElem zo] at f0 f1 f2 f3
 obtain⟨s,h0,hs⟩:=UZ underlying9 f0
 obtain⟨c,h1,_⟩:=gB underlying3 f1
 obtain⟨p,h2,_⟩:=gB underlying3 f2
 obtain⟨lo,hi,h3,h4⟩:=vV f3
 refine⟨⟨s,c,p,lo,hi⟩,fun j hj=>?_,hs⟩
 rcases(by omega:j=0∨j=1∨j=2∨j=3∨j=4) with rfl|rfl|rfl|rfl|rfl <;> assumption
theorem cv{cs:List Value}{y:DataW H × List MemPlace}(h:TR enc w fuel 84 cs=some y):∃g:Mv,(∀j,j<5→cs[j]? =some (g.cell j))∧True:=by
 obtain⟨xs,n,rfl,rfl,hl,hx,hf⟩:=DataW.trod_struct underlying84 h
 have f0:TR enc w n 82 ((cs.drop 0).take (Tryz.prog.cellsOf 82))=xs[0]?:=hf 0 _ rfl
 have f1:TR enc w n 3 ((cs.drop 1).take (Tryz.prog.cellsOf 3))=xs[1]?:=hf 1 _ rfl
 have f2:TR enc w n 3 ((cs.drop 2).take (Tryz.prog.cellsOf 3))=xs[2]?:=hf 2 _ rfl
 have f3:TR enc w n 30 ((cs.drop 3).take (Tryz.prog.cellsOf 30))=xs[3]?:=hf 3 _ rfl
 rw[c37] at f0
 rw[c3] at f1
 rw[c3] at f2
 rw[c39] at f3
 have hx:xs.length=4:=hx
 rw[List.getElem?_eq_getElem zo] at f0 f1 f2 f3
 obtain⟨s,h0,_⟩:=gB underlying82 f0
 obtain⟨c,h1,_⟩:=gB underlying3 f1
 obtain⟨p,h2,_⟩:=gB underlying3 f2
 obtain⟨lo,hi,h3,h4⟩:=vV f3
 refine⟨⟨s,c,p,lo,hi⟩,fun j hj=>?_,trivial⟩
 rcases(by omega:j=0∨j=1∨j=2∨j=3∨j=4) with rfl|rfl|rfl|rfl|rfl <;> assumption
theorem cr{cs:List Value}{y:DataW H × List MemPlace}(h:TR enc w fuel 81 cs=some y):∃g:Ct,(∀j,j<4→cs[j]? =some (g.cell j))∧True:=by
 obtain⟨xs,n,rfl,rfl,hl,hx,hf⟩:=DataW.trod_struct underlying81 h
 have f0:TR enc w n 3 ((cs.drop 0).take (Tryz.prog.cellsOf 3))=xs[0]?:=hf 0 _ rfl
 have f1:TR enc w n 3 ((cs.drop 1).take (Tryz.prog.cellsOf 3))=xs[1]?:=hf 1 _ rfl
 have f2:TR enc w n 30 ((cs.drop 2).take (Tryz.prog.cellsOf 30))=xs[2]?:=hf 2 _ rfl
 rw[c3] at f0
 rw[c3] at f1
 rw[c39] at f2
 have hx:xs.length=3:=hx
 rw[List.getElem?_eq_getElem zo] at f0 f1 f2
 obtain⟨s,h0,_⟩:=gB underlying3 f0
 obtain⟨c,h1,_⟩:=gB underlying3 f1
 obtain⟨lo,hi,h3,h4⟩:=vV f2
 refine⟨⟨s,c,lo,hi⟩,fun j hj=>?_,trivial⟩
 rcases(by omega:j=0∨j=1∨j=2∨j=3) with rfl|rfl|rfl|rfl <;> assumption
theorem Nv{α:Type}[Inhabited α]{t e:TypeId}{size:Nat}(ht:Tryz.prog.underlying t=some (.slice e))(hc:Tryz.prog.cellsOf e=size)(hpos:0<size)(cell:α→Nat→Value)(Q:α→Prop)
 (hel:∀ (n:Nat) (cs:List Value) (y:DataW H × List MemPlace),TR enc w n e cs=some y→∃a,(∀j,j<size→cs[j]? =some (cell a j))∧Q a){cs:List Value}{x:DataW H × List MemPlace}(h:TR enc w fuel t cs=some x):
 ∃ (A:Option Addr) (len cap:Nat) (f:Nat→α),cs=[.slice A len cap]∧len≤cap∧cap≤maxLen∧Rows w w.heap.size size A len (fun i=>cell (f i))∧∀i,i<len→Q (f i):=by
 rcases DataW.trod_slice ht h with⟨rfl,_⟩|⟨a,len,cap,elems,rest,n,_,rfl,rfl,hb,hl,hm,hlen,xr,_,_⟩
 ·exact⟨none,0,0,fun _=>default,rfl,Nat.le_refl _,Nat.zero_le _,fun h=>absurd h zo,fun i hi=>absurd hi zo⟩
 have each:∀i,∃b:α,i<len→(a.block<w.heap.size∧∀j,j<size→w.cell? (a.add (i * size+j))=some (cell b j))∧Q b:=fun i=>by
  by_cases hi:i<len
  ·have h1:=xr i hi
   rw[List.getElem?_eq_getElem zo,Option.bind_eq_some_iff,hc] at h1
   obtain⟨cs',h2,h3⟩:=h1
   obtain⟨b,h4,h5⟩:=hel n cs' _ h3
   have hblk:=World.cells?_block h2 hpos
   obtain⟨_,_,h6⟩:=World.cells?_some h2
   refine⟨b,fun _=>⟨⟨by rwa[aJ] at hblk,fun j hj=>?_⟩,h5⟩⟩
   rw[← pq,h6 j hj,h4 j hj]
  ·exact⟨default,fun h=>absurd h hi⟩
 obtain⟨f,hf⟩:=Classical.axiomOfChoice each
 exact⟨some a,len,cap,f,rfl,hl,hm,fun hn=>⟨a,rfl,(hf 0 hn).1.1,fun i j hi hj=>(hf i hi).1.2 j hj⟩,fun i hi=>(hf i hi).2⟩
instance:Inhabited Good:=⟨⟨.empty,0,0,0,0⟩⟩
instance:Inhabited Mv:=⟨⟨0,0,0,0,0⟩⟩
instance:Inhabited Ct:=⟨⟨0,0,0,0⟩⟩
theorem CI{n:Int}(h:(Lit.int .i64 n).wf=true):-9223372036854775808≤n∧n≤9223372036854775807:=by
 simp[Lit.wf,IntKind.min,IntKind.max,IntKind.signed,IntKind.bits] at h
 omega
theorem vU{α:Type}[Inhabited α]{t e:TypeId}{size:Nat}(ht:Tryz.prog.underlying t=some (.slice e))(hc:Tryz.prog.cellsOf e=size)(hpos:0<size)(cell:α→Nat→Value)(Q:α→Prop)
 (hel:∀ (n:Nat) (cs:List Value) (y:DataW H × List MemPlace),TR enc w n e cs=some y→∃a,(∀j,j<size→cs[j]? =some (cell a j))∧Q a){cs:List Value}{o:Nat}{x:DataW H × List MemPlace}(h:TR enc w fuel t ((cs.drop o).take 1)=some x):
 ∃ (A:Option Addr) (len cap:Nat) (f:Nat→α),cs[o]? =some (.slice A len cap)∧len≤cap∧cap≤maxLen∧Rows w w.heap.size size A len (fun i=>cell (f i))∧∀i,i<len→Q (f i):=by
 obtain⟨A,len,cap,f,e1,h1⟩:=Nv ht hc hpos cell Q hel h
 exact⟨A,len,cap,f,WideShapes.cell_of_cut e1,h1⟩
theorem Nu{v:Value}{d:DataW H}{ps:List MemPlace}{base:Nat}(hv:Value.okWide prog w .any base 26 v)(h:DataW.Trod enc prog w 0 (fun _=>true) true 26 v d ps):
 ∃b:Bk,v=b.val∧b.At w w.heap.size∧b.ng≤b.gc∧-9223372036854775808≤b.days∧b.days≤9223372036854775807:=by
 obtain⟨cs,rfl,hsz⟩:=WideShapes.okWide_struct underlying26 hv
 rw[c26] at hsz
 obtain⟨fuel,h⟩:=h
 obtain⟨xs,n,rfl,hx2,hl,hx,hf⟩:=DataW.trod_struct underlying26 h
 have f0:TR enc w n 3 ((cs.toList.drop 0).take (Tryz.prog.cellsOf 3))=xs[0]?:=hf 0 _ rfl
 have f1:TR enc w n 3 ((cs.toList.drop 1).take (Tryz.prog.cellsOf 3))=xs[1]?:=hf 1 _ rfl
 have f2:TR enc w n 22 ((cs.toList.drop 2).take (Tryz.prog.cellsOf 22))=xs[2]?:=hf 2 _ rfl
 have f3:TR enc w n 23 ((cs.toList.drop 3).take (Tryz.prog.cellsOf 23))=xs[3]?:=hf 3 _ rfl
 have f4:TR enc w n 24 ((cs.toList.drop 4).take (Tryz.prog.cellsOf 24))=xs[4]?:=hf 4 _ rfl
 rw[c3] at f0
 rw[c3] at f1
 rw[c22] at f2
 rw[c23] at f3
 rw[c24] at f4
 have hx:xs.length=5:=hx
 rw[List.getElem?_eq_getElem zo] at f0 f1 f2 f3 f4
 obtain⟨days,h0,hd⟩:=gB underlying3 f0
 obtain⟨most,h1,_⟩:=gB underlying3 f1
 obtain⟨gA,ng,gc,g,h2,hgc,hgm,hg,hgn⟩:=vU underlying22 c68 zD Good.cell (fun g=>g.name.size≤maxLen) (fun _ _ _ h=>Sd h) f2
 obtain⟨mA,nm,mc,m,h3,hmc,hmm,hm,_⟩:=vU underlying23 c41 zD Mv.cell (fun _=>True) (fun _ _ _ h=>cv h) f3
 obtain⟨cA,nc,cc,c,h4,hcc,hcm,hc,_⟩:=vU underlying24 c88 zD Ct.cell (fun _=>True) (fun _ _ _ h=>cr h) f4
 refine⟨⟨days,most,gA,ng,gc,g,mA,nm,mc,m,cA,nc,cc,c⟩,?_,⟨hg,hm,hc,by show ng≤maxLen;omega,by show nm≤maxLen;omega,by show nc≤maxLen;omega,hgn⟩,hgc,CI hd⟩
 obtain⟨L⟩:=cs
 simp only[List.size_toArray] at hsz
 match L,hsz with
 | [a0,a1,a2,a3,a4],_=>
   simp only[List.getElem?_cons_zero,List.getElem?_cons_succ,Option.some.injEq] at h0 h1 h2 h3 h4
   subst h0;subst h1;subst h2;subst h3;subst h4
   rfl
end
end
end Go.Proofs.YtoldgagdgjilgaaGreat
