/- OP TL0 P1 TK2 P2 P3 P4 P5 P6 P7a Qt W0 WP1 WP7 P7 Scope P8 -/
import Derived.Test.YtpmafoalhnaokaaGreatA1
import Derived.Carry
import Derived.SizedLaws
import Derived.WideShapes
import Derived.ChangeShapes
import Derived.ChangeSlices
import Derived.Lib.RabinKarpLaws
import Derived.StillTail
import Derived.Lib.QuietBelowIn
import Derived.Scope
set_option maxRecDepth 100000
set_option maxHeartbeats 16000000
set_option linter.unusedVariables false
set_option linter.unusedSectionVars false
open Go.IntKind(i64)
open Go.Lib(hid)
open Go.Proofs.Tryz
open Go.Value(int)
namespace Go.Proofs.YtpmafoalhnaokaaGreat
section
open Go
section
variable{H:Type}{enc:TypeId × Value→H}{w:World}{fuel:Nat}
noncomputable abbrev TR (enc:TypeId × Value→H) (w:World):Nat→TypeId→List Value→Option (DataW H × List MemPlace):=DataW.trod enc prog w 0 (fun _=>true) true
theorem c3:Tryz.prog.cellsOf 3=1:=zk
theorem c37:Tryz.prog.cellsOf 37=1:=zk
theorem c9:Tryz.prog.cellsOf 9=1:=zk
theorem c39:Tryz.prog.cellsOf 28=2:=zk
theorem c68:Tryz.prog.cellsOf 83=5:=zk
theorem c41:Tryz.prog.cellsOf 39=5:=zk
theorem c88:Tryz.prog.cellsOf 45=4:=zk
theorem c22:Tryz.prog.cellsOf 22=1:=zk
theorem c23:Tryz.prog.cellsOf 23=1:=zk
theorem c24:Tryz.prog.cellsOf 24=1:=zk
theorem c26:Tryz.prog.cellsOf 26=5:=zk
theorem fV{t:TypeId}{k:IntKind}(ht:Tryz.prog.underlying t=some (.int k)){cs:List Value}{o:Nat}{y:DataW H × List MemPlace}(h:TR enc w fuel t ((cs.drop o).take 1)=some y):∃n,cs[o]? =some (.int k n)∧(Lit.int k n).wf=true:=by
 obtain⟨n,e,_,hw⟩:=DataW.trod_int ht h
 exact⟨n,WideShapes.cell_of_cut e,hw⟩
theorem XZ{t:TypeId}(ht:Tryz.prog.underlying t=some .string){cs:List Value}{o:Nat}{y:DataW H × List MemPlace}(h:TR enc w fuel t ((cs.drop o).take 1)=some y):∃s,cs[o]? =some (.string s)∧s.size≤maxLen:=by
 obtain⟨n,e,_,hw⟩:=DataW.trod_string ht h
 exact⟨n,WideShapes.cell_of_cut e,hw⟩
theorem MR{cs:List Value}{o j n:Nat}{v:Value}(h:((cs.drop o).take n)[j]? =some v):cs[o+j]? =some v:=by
 rw[List.getElem?_take] at h
 split at h
 ·rwa[List.getElem?_drop] at h
 ·cases h
theorem xQ{cs:List Value}{o:Nat}{y:DataW H × List MemPlace}(h:TR enc w fuel 28 ((cs.drop o).take 2)=some y):∃a b,cs[o]? =some (int i64 a)∧cs[o+1]? =some (int i64 b):=by
 obtain⟨xs,n,rfl,rfl,hl,hx,hf⟩:=DataW.trod_struct underlying28 h
 have f0:TR enc w n 3 ((((cs.drop o).take 2).drop 0).take (Tryz.prog.cellsOf 3))=xs[0]?:=hf 0 _ rfl
 have f1:TR enc w n 3 ((((cs.drop o).take 2).drop 1).take (Tryz.prog.cellsOf 3))=xs[1]?:=hf 1 _ rfl
 rw[c3] at f0
 rw[c3] at f1
 have hx:xs.length=2:=hx
 rw[List.getElem?_eq_getElem zo] at f0 f1
 obtain⟨a,h0,_⟩:=fV underlying3 f0
 obtain⟨b,h1,_⟩:=fV underlying3 f1
 exact⟨a,b,MR h0,MR h1⟩
theorem Vo{cs:List Value}{y:DataW H × List MemPlace}(h:TR enc w fuel 83 cs=some y):∃g:Good,(∀j,j<5→cs[j]? =some (g.cell j))∧g.name.size≤maxLen:=by
 obtain⟨xs,n,rfl,rfl,hl,hx,hf⟩:=DataW.trod_struct underlying83 h
 have f0:TR enc w n 9 ((cs.drop 0).take (Tryz.prog.cellsOf 9))=xs[0]?:=hf 0 _ rfl
 have f1:TR enc w n 3 ((cs.drop 1).take (Tryz.prog.cellsOf 3))=xs[1]?:=hf 1 _ rfl
 have f2:TR enc w n 3 ((cs.drop 2).take (Tryz.prog.cellsOf 3))=xs[2]?:=hf 2 _ rfl
 have f3:TR enc w n 28 ((cs.drop 3).take (Tryz.prog.cellsOf 28))=xs[3]?:=hf 3 _ rfl
 rw[c9] at f0
 rw[c3] at f1
 rw[c3] at f2
 rw[c39] at f3
 have hx:xs.length=4:=hx
 rw[List.getElem?_eq_getElem zo] at f0 f1 f2 f3
 obtain⟨s,h0,hs⟩:=XZ underlying9 f0
 obtain⟨c,h1,_⟩:=fV underlying3 f1
 obtain⟨p,h2,_⟩:=fV underlying3 f2
 obtain⟨lo,hi,h3,h4⟩:=xQ f3
 refine⟨⟨s,c,p,lo,hi⟩,fun j hj=>?_,hs⟩
 rcases(by omega:j=0∨j=1∨j=2∨j=3∨j=4) with rfl|rfl|rfl|rfl|rfl <;> assumption
theorem m5{cs:List Value}{y:DataW H × List MemPlace}(h:TR enc w fuel 39 cs=some y):∃g:Mv,(∀j,j<5→cs[j]? =some (g.cell j))∧True:=by
 obtain⟨xs,n,rfl,rfl,hl,hx,hf⟩:=DataW.trod_struct underlying39 h
 have f0:TR enc w n 37 ((cs.drop 0).take (Tryz.prog.cellsOf 37))=xs[0]?:=hf 0 _ rfl
 have f1:TR enc w n 3 ((cs.drop 1).take (Tryz.prog.cellsOf 3))=xs[1]?:=hf 1 _ rfl
 have f2:TR enc w n 3 ((cs.drop 2).take (Tryz.prog.cellsOf 3))=xs[2]?:=hf 2 _ rfl
 have f3:TR enc w n 28 ((cs.drop 3).take (Tryz.prog.cellsOf 28))=xs[3]?:=hf 3 _ rfl
 rw[c37] at f0
 rw[c3] at f1
 rw[c3] at f2
 rw[c39] at f3
 have hx:xs.length=4:=hx
 rw[List.getElem?_eq_getElem zo] at f0 f1 f2 f3
 obtain⟨s,h0,_⟩:=fV underlying37 f0
 obtain⟨c,h1,_⟩:=fV underlying3 f1
 obtain⟨p,h2,_⟩:=fV underlying3 f2
 obtain⟨lo,hi,h3,h4⟩:=xQ f3
 refine⟨⟨s,c,p,lo,hi⟩,fun j hj=>?_,zT⟩
 rcases(by omega:j=0∨j=1∨j=2∨j=3∨j=4) with rfl|rfl|rfl|rfl|rfl <;> assumption
theorem mT{cs:List Value}{y:DataW H × List MemPlace}(h:TR enc w fuel 45 cs=some y):∃g:Ct,(∀j,j<4→cs[j]? =some (g.cell j))∧True:=by
 obtain⟨xs,n,rfl,rfl,hl,hx,hf⟩:=DataW.trod_struct underlying45 h
 have f0:TR enc w n 3 ((cs.drop 0).take (Tryz.prog.cellsOf 3))=xs[0]?:=hf 0 _ rfl
 have f1:TR enc w n 3 ((cs.drop 1).take (Tryz.prog.cellsOf 3))=xs[1]?:=hf 1 _ rfl
 have f2:TR enc w n 28 ((cs.drop 2).take (Tryz.prog.cellsOf 28))=xs[2]?:=hf 2 _ rfl
 rw[c3] at f0
 rw[c3] at f1
 rw[c39] at f2
 have hx:xs.length=3:=hx
 rw[List.getElem?_eq_getElem zo] at f0 f1 f2
 obtain⟨s,h0,_⟩:=fV underlying3 f0
 obtain⟨c,h1,_⟩:=fV underlying3 f1
 obtain⟨lo,hi,h3,h4⟩:=xQ f2
 refine⟨⟨s,c,lo,hi⟩,fun j hj=>?_,zT⟩
 rcases(by omega:j=0∨j=1∨j=2∨j=3) with rfl|rfl|rfl|rfl <;> assumption
theorem Qd{α:Type}[Inhabited α]{t e:TypeId}{size:Nat}(ht:Tryz.prog.underlying t=some (.slice e))(hc:Tryz.prog.cellsOf e=size)(hpos:0<size)(cell:α→Nat→Value)(Q:α→Prop)
 (hel:∀ (n:Nat) (cs:List Value) (y:DataW H × List MemPlace),TR enc w n e cs=some y→∃a,(∀j,j<size→cs[j]? =some (cell a j))∧Q a){cs:List Value}{x:DataW H × List MemPlace}(h:TR enc w fuel t cs=some x):
 ∃ (A:Option Addr) (len cap:Nat) (f:Nat→α),cs=[.slice A len cap]∧len≤cap∧cap≤maxLen∧Rows w w.heap.size size A len (fun i=>cell (f i))∧∀i,i<len→Q (f i):=by
 rcases DataW.trod_slice ht h with⟨rfl,_⟩|⟨a,len,cap,elems,rest,n,_,rfl,rfl,hb,hl,hm,hlen,So,_,_⟩
 ·exact⟨none,0,0,fun _=>default,rfl,zL,Nat.zero_le _,fun h=>absurd h zo,fun i hi=>absurd hi zo⟩
 have each:∀i,∃b:α,i<len→(a.block<w.heap.size∧∀j,j<size→w.cell? (a.add (i * size+j))=some (cell b j))∧Q b:=fun i=>by
  by_cases hi:i<len
  ·have h1:=So i hi
   rw[List.getElem?_eq_getElem zo,Option.bind_eq_some_iff,hc] at h1
   obtain⟨cs',h2,h3⟩:=h1
   obtain⟨b,h4,h5⟩:=hel n cs' _ h3
   have hblk:=World.cells?_block h2 hpos
   obtain⟨_,_,h6⟩:=World.cells?_some h2
   refine⟨b,fun _=>⟨⟨by rwa[aH] at hblk,fun j hj=>?_⟩,h5⟩⟩
   rw[← mF,h6 j hj,h4 j hj]
  ·exact⟨default,fun h=>absurd h hi⟩
 obtain⟨f,hf⟩:=Classical.axiomOfChoice each
 exact⟨some a,len,cap,f,rfl,hl,hm,fun hn=>⟨a,rfl,(hf 0 hn).1.1,fun i j hi hj=>(hf i hi).1.2 j hj⟩,fun i hi=>(hf i hi).2⟩
instance:Inhabited Good:=⟨⟨.empty,0,0,0,0⟩⟩
instance:Inhabited Mv:=⟨⟨0,0,0,0,0⟩⟩
instance:Inhabited Ct:=⟨⟨0,0,0,0⟩⟩
theorem YY{n:Int}(h:(Lit.int .i64 n).wf=true):-9223372036854775808≤n∧n≤9223372036854775807:=by
 simp[Lit.wf,IntKind.min,IntKind.max,IntKind.signed,IntKind.bits] at h
 omega
theorem xP{α:Type}[Inhabited α]{t e:TypeId}{size:Nat}(ht:Tryz.prog.underlying t=some (.slice e))(hc:Tryz.prog.cellsOf e=size)(hpos:0<size)(cell:α→Nat→Value)(Q:α→Prop)
 (hel:∀ (n:Nat) (cs:List Value) (y:DataW H × List MemPlace),TR enc w n e cs=some y→∃a,(∀j,j<size→cs[j]? =some (cell a j))∧Q a){cs:List Value}{o:Nat}{x:DataW H × List MemPlace}(h:TR enc w fuel t ((cs.drop o).take 1)=some x):
 ∃ (A:Option Addr) (len cap:Nat) (f:Nat→α),cs[o]? =some (.slice A len cap)∧len≤cap∧cap≤maxLen∧Rows w w.heap.size size A len (fun i=>cell (f i))∧∀i,i<len→Q (f i):=by
 obtain⟨A,len,cap,f,e1,h1⟩:=Qd ht hc hpos cell Q hel h
 exact⟨A,len,cap,f,WideShapes.cell_of_cut e1,h1⟩
theorem Qc{v:Value}{d:DataW H}{ps:List MemPlace}{base:Nat}(hv:Value.okWide prog w .any base 26 v)(h:DataW.Trod enc prog w 0 (fun _=>true) true 26 v d ps):
 ∃b:Bk,v=b.val∧b.At w w.heap.size∧b.ng≤b.gc∧-9223372036854775808≤b.dY∧b.dY≤9223372036854775807:=by
 obtain⟨cs,rfl,hsz⟩:=WideShapes.okWide_struct underlying26 hv
 rw[c26] at hsz
 obtain⟨fuel,h⟩:=h
 obtain⟨xs,n,rfl,hx2,hl,hx,hf⟩:=DataW.trod_struct underlying26 h
 have f0:TR enc w n 3 ((cs.toList.drop 0).take (Tryz.prog.cellsOf 3))=xs[0]?:=hf 0 _ rfl
 have f1:TR enc w n 3 ((cs.toList.drop 1).take (Tryz.prog.cellsOf 3))=xs[1]?:=hf 1 _ rfl
 have f2:TR enc w n 22 ((cs.toList.drop 2).take (Tryz.prog.cellsOf 22))=xs[2]?:=hf 2 _ rfl
 have f3:TR enc w n 23 ((cs.toList.drop 3).take (Tryz.prog.cellsOf 23))=xs[3]?:=hf 3 _ rfl
 have f4:TR enc w n 24 ((cs.toList.drop 4).take (Tryz.prog.cellsOf 24))=xs[4]?:=hf 4 _ rfl
 rw[c3] at f0
 rw[c3] at f1
 rw[c22] at f2
 rw[c23] at f3
 rw[c24] at f4
 have hx:xs.length=5:=hx
 rw[List.getElem?_eq_getElem zo] at f0 f1 f2 f3 f4
 obtain⟨dY,h0,hd⟩:=fV underlying3 f0
 obtain⟨mO,h1,_⟩:=fV underlying3 f1
 obtain⟨gA,ng,gc,g,h2,hgc,hgm,hg,hgn⟩:=xP underlying22 c68 zD Good.cell (fun g=>g.name.size≤maxLen) (fun _ _ _ h=>Vo h) f2
 obtain⟨mA,nm,mc,m,h3,hmc,hmm,hm,_⟩:=xP underlying23 c41 zD Mv.cell (fun _=>True) (fun _ _ _ h=>m5 h) f3
 obtain⟨cA,nc,cc,c,h4,hcc,hcm,hc,_⟩:=xP underlying24 c88 zD Ct.cell (fun _=>True) (fun _ _ _ h=>mT h) f4
 refine⟨⟨dY,mO,gA,ng,gc,g,mA,nm,mc,m,cA,nc,cc,c⟩,?_,⟨hg,hm,hc,by show ng≤maxLen;omega,by show nm≤maxLen;omega,by show nc≤maxLen;omega,hgn⟩,hgc,YY hd⟩
 obtain⟨L⟩:=cs
 simp only[List.size_toArray] at hsz
 match L,hsz with
 | [a0,a1,a2,a3,a4],_=>
   simp only[List.getElem?_cons_zero,List.getElem?_cons_succ,Option.some.injEq] at h0 h1 h2 h3 h4
   subst h0;subst h1;subst h2;subst h3;subst h4
   rfl
end
end
section
open Go Go.WideShapes
theorem Kj:Tryz.prog.cellsOf 28=2:=zk
section
variable{H:Type}{enc:TypeId × Value→H}{w:World}{fuel:Nat}
theorem Qe{v:Value}{d:DataW H}{ps:List MemPlace}{base:Nat}(hv:Value.okWide prog w .any base 28 v)(h:DataW.Trod enc prog w 0 (fun _=>true) true 28 v d ps):
 ∃xl xh:Int,v=.agg #[int i64 xl,int i64 xh]:=by
 obtain⟨cs,rfl,hsz⟩:=WideShapes.okWide_struct underlying28 hv
 rw[Kj] at hsz
 obtain⟨fuel,h⟩:=h
 obtain⟨xs,n,rfl,hx2,hl,hx,hf⟩:=DataW.trod_struct underlying28 h
 have f0:TR enc w n 3 ((cs.toList.drop 0).take (Tryz.prog.cellsOf 3))=xs[0]?:=hf 0 _ rfl
 have f1:TR enc w n 3 ((cs.toList.drop 1).take (Tryz.prog.cellsOf 3))=xs[1]?:=hf 1 _ rfl
 rw[c3] at f0 f1
 have hx:xs.length=2:=hx
 rw[List.getElem?_eq_getElem zo] at f0 f1
 obtain⟨lo,h0,_⟩:=fV underlying3 f0
 obtain⟨hi,h1,_⟩:=fV underlying3 f1
 refine⟨lo,hi,?_⟩
 obtain⟨L⟩:=cs
 simp only[List.size_toArray] at hsz
 match L,hsz with
 | [a0,a1],_=>
   simp only[List.getElem?_cons_zero,List.getElem?_cons_succ,Option.some.injEq] at h0 h1
   subst h0;subst h1
   rfl
end
end
section
open Go.RowKit
theorem dn(n lo hi:Int)(w:World):CallsIn FF 0 prog 65 #[int i64 n,int i64 lo,int i64 hi] w fun e w'=>e=.returned (.bool (gK n lo hi))∧w=w':=by
 gi_enter func65,ntmps65
 gi_wp2
 all_goals (go_ret;refine⟨?_,rfl⟩;congr 2;unfold gK;first|rfl|(simp;omega)|simp_all)
theorem WC(n lo hi:Int)(w:World):CallsIn FF 0 prog 65 #[int i64 n,int i64 lo,int i64 hi] w fun e w'=>e=.returned (.bool (gK n lo hi))∧∃m,w'=w.drewN m:=
 (dn n lo hi w).mono fun _ _ h=>⟨h.1,0,h.2 ▸ rfl⟩
def nG(a b lo hi:Int):Bool:=gK a lo b && decide (b≤hi)
theorem sM(a b lo hi:Int)(w:World):CallsIn FF 0 prog 32 #[.agg #[int i64 a,int i64 b],int i64 lo,int i64 hi] w fun e w'=>e=.returned (.bool (nG a b lo hi))∧Below w.heap.size w w':=by
 gi_enter func32,ntmps32
 gi_wp2_with (gi_at_call 65;refine(dn _ _ _ _).mono ?_;rintro e w' ⟨rfl,rfl⟩)
 all_goals (go_ret;refine⟨?_,bw⟩;congr 2;unfold nG;first|rfl|(simp;omega)|simp_all)
theorem mf(a b:Int)(w:World)(h:-1000≤a∧a≤1000∧-1000≤b∧b≤1000):CallsIn FF 0 prog 187 #[.agg #[int i64 a,int i64 b]] w fun e w'=>e=.returned (int i64 (b - a+1))∧Below w.heap.size w w':=by
 have e1:IntKind.i64.wrap (b - a)=b - a:=IntWalk.i64_in _ zo
 have e2:IntKind.i64.wrap (b - a+1)=b - a+1:=IntWalk.i64_in _ zo
 gi_enter func187,ntmps187
 gi_wp2
 all_goals (go_ret;refine⟨?_,bw⟩;first|rfl|(congr 2;simp_all))
theorem jc{a b:Int}(h:sG a b=true):0≤a∧a≤b∧b≤99∧b - a<3:=by
 unfold sG at h
 simp only[Bool.and_eq_true,decide_eq_true_eq] at h
 have:=jh.1 h.1
 omega
theorem uI(a b:Int)(w:World)(h:sG a b=true):CallsIn FF 0 prog 168 #[.agg #[int i64 a,int i64 b]] w fun e w'=>e=.returned (.bool true)∧Below w.heap.size w w':=by
 obtain⟨f1,f2,f3,f4⟩:=jc h
 have H1:∀w,CallsIn FF 0 prog 32 #[.agg #[int i64 a,int i64 b],int i64 0,int i64 99] w fun e w'=>e=.returned (.bool true)∧Below w.heap.size w w':=fun w=>by
  have e:nG a b 0 99=true:=by unfold nG gK;simp;omega
  have:=sM a b 0 99 w
  rwa[e] at this
 gi_enter func168,ntmps168
 gi_wp2_with (first|(gi_at_call 32;refine(H1 _).mono ?_;rintro e w1 ⟨rfl,hb1⟩;obtain⟨hc1,hf1⟩:=fH hb1)|(gi_at_call 187;refine(mf _ _ _ zo).mono ?_;rintro e w2 ⟨rfl,hb2⟩))
 go_ret
 exact⟨congrArg Ending.returned (congrArg Value.bool (decide_eq_true (show b - a+1≤3 by omega))),((zB.alloc zL _).trans (hb1.mono zs)).trans (hb2.mono (by have:=hb1.size;simp at this;omega))⟩
section
theorem uF(b:Bk)(i:Int)(w:World)(h:b.ng≤maxLen):CallsIn FF 0 prog 89 #[b.val,int i64 i] w fun e w'=>e=.returned (.bool (gK i 0 ((b.ng:Int) - 1)))∧Below w.heap.size w w':=by
 obtain⟨dY,mO,gA,ng,gc,g,mA,nm,mc,m,cA,nc,cc,c⟩:=b
 simp only[Bk.val,Bk.cells]
 simp only at h
 unfold maxLen at h
 have e1:IntKind.i64.wrap ((ng:Int) - 1)=(ng:Int) - 1:=IntWalk.i64_in _ zo
 gi_enter func89,ntmps89
 gi_wp2_with (gi_at_call 65;refine(dn _ _ _ _).mono ?_;rintro e w' ⟨rfl,rfl⟩)
 all_goals (go_ret;refine⟨?_,bw⟩;first|rfl|(rw[← e1];rfl)|(congr 2;simp_all))
theorem Cz(b:Bk)(i:Int)(w:World)(h:b.nm≤maxLen):CallsIn FF 0 prog 73 #[b.val,int i64 i] w fun e w'=>e=.returned (.bool (gK i 0 ((b.nm:Int) - 1)))∧Below w.heap.size w w':=by
 obtain⟨dY,mO,gA,ng,gc,g,mA,nm,mc,m,cA,nc,cc,c⟩:=b
 simp only[Bk.val,Bk.cells]
 simp only at h
 unfold maxLen at h
 have e1:IntKind.i64.wrap ((nm:Int) - 1)=(nm:Int) - 1:=IntWalk.i64_in _ zo
 gi_enter func73,ntmps73
 gi_wp2_with (gi_at_call 65;refine(dn _ _ _ _).mono ?_;rintro e w' ⟨rfl,rfl⟩)
 all_goals (go_ret;refine⟨?_,bw⟩;first|rfl|(rw[← e1];rfl)|(congr 2;simp_all))
theorem xU(b:Bk)(i:Int)(w:World):CallsIn FF 0 prog 51 #[b.val,int i64 i] w fun e w'=>e=.returned (.bool (gK i 0 b.dY))∧Below w.heap.size w w':=by
 obtain⟨dY,mO,gA,ng,gc,g,mA,nm,mc,m,cA,nc,cc,c⟩:=b
 simp only[Bk.val,Bk.cells]
 gi_enter func51,ntmps51
 gi_wp2_with (gi_at_call 65;refine(dn _ _ _ _).mono ?_;rintro e w' ⟨rfl,rfl⟩)
 all_goals (go_ret;refine⟨?_,bw⟩;first|rfl|(congr 2;simp_all))
theorem Ip(b:Bk)(w:World)(h:b.nm≤6):CallsIn FF 0 prog 135 #[b.val] w fun e w'=>e=.returned (.tuple #[int i64 b.nm,.bool true])∧Below w.heap.size w w':=by
 obtain⟨dY,mO,gA,ng,gc,g,mA,nm,mc,m,cA,nc,cc,c⟩:=b
 simp only[Bk.val,Bk.cells]
 simp only at h
 have e1:decide ((nm:Int)≤6)=true:=decide_eq_true zo
 gi_enter func135,ntmps135
 gi_wp2
 gi_quiet (fail)
 gi_wp2
 all_goals (go_ret2;refine⟨?_,bw⟩;first|rfl|(simp only[e1];rfl)|trace_state)
theorem EL(b:Bk)(w:World)(h:b.nc≤4):CallsIn FF 0 prog 137 #[b.val] w fun e w'=>e=.returned (.tuple #[int i64 b.nc,.bool true])∧Below w.heap.size w w':=by
 obtain⟨dY,mO,gA,ng,gc,g,mA,nm,mc,m,cA,nc,cc,c⟩:=b
 simp only[Bk.val,Bk.cells]
 simp only at h
 have e1:decide ((nc:Int)≤4)=true:=decide_eq_true zo
 gi_enter func137,ntmps137
 gi_wp2
 gi_quiet (fail)
 gi_wp2
 all_goals (go_ret2;refine⟨?_,bw⟩;first|rfl|(simp only[e1];rfl)|trace_state)
theorem Io(b:Bk)(w:World)(h:1≤b.ng∧b.ng≤3):CallsIn FF 0 prog 133 #[b.val] w fun e w'=>e=.returned (.tuple #[int i64 b.ng,.bool true])∧Below w.heap.size w w':=by
 obtain⟨dY,mO,gA,ng,gc,g,mA,nm,mc,m,cA,nc,cc,c⟩:=b
 simp only[Bk.val,Bk.cells]
 simp only at h
 have e1:gK (ng:Int) 1 3=true:=by unfold gK;simp;omega
 gi_enter func133,ntmps133
 gi_wp2
 gi_quiet ((gi_at_call 65;exact CallsIn.quiet_of (WC _ _ _ _)))
 gi_wp2
 all_goals (go_ret2;refine⟨?_,bw⟩;first|rfl|(simp only[e1];rfl)|trace_state)
end
end
section
open Go.RowKit
attribute [local go_sem] Oper.semAt_some
theorem Tz(a b c d:Int)(w:World):CallsIn FF 0 prog 33 #[.agg #[int i64 a,int i64 b],.agg #[int i64 c,int i64 d]] w fun e w'=>e=.returned (if max a c≤min b d then .tuple #[.agg #[int i64 (max a c),int i64 (min b d)],.bool true] else .tuple #[.agg #[int i64 0,int i64 0],.bool false])∧Below w.heap.size w w':=by
 obtain⟨x,hx⟩:∃x,x=max a c:=zE
 obtain⟨y,hy⟩:∃y,y=min b d:=zE
 rw[← hx,← hy]
 have hxy:(a<c∧x=c∨c≤a∧x=a)∧(b≤d∧y=b∨d<b∧y=d):=zo
 clear hx hy
 obtain⟨⟨hp,rfl⟩|⟨hp,rfl⟩,⟨hq,rfl⟩|⟨hq,rfl⟩⟩:=hxy
 all_goals by_cases h:x≤y
 all_goals first
  | (have hd:decide (y<x)=false:=decide_eq_false zo;rw[if_pos h];gi_enter func33,ntmps33;gi_wp2)
  | (have hd:decide (y<x)=true:=decide_eq_true zo;rw[if_neg h];gi_enter func33,ntmps33;gi_wp2)
 all_goals first
  | (exact absurd ‹_› zo)
  | (refine bodyPost_ret (v:=.tuple #[.agg #[int i64 x,int i64 y],.bool true]) (by simp[results,results33,go_sem] <;> omega) rfl ⟨rfl,bw⟩)
  | (refine bodyPost_ret (v:=.tuple #[.agg #[int i64 0,int i64 0],.bool false]) (by simp[results,results33,go_sem] <;> omega) rfl ⟨rfl,bw⟩)
theorem TA(a b c d:Int)(w:World):CallsIn FF 0 prog 36 #[.agg #[int i64 a,int i64 b],.agg #[int i64 c,int i64 d]] w fun e w'=>e=.returned (.agg #[int i64 (max a c),int i64 (min b d)])∧Below w.heap.size w w':=by
 gi_enter func36,ntmps36
 gi_wp2
 all_goals refine bodyPost_ret (v:=.agg #[int i64 (max a c),int i64 (min b d)]) (by simp[results,results36,go_sem] <;> omega) rfl ⟨rfl,bw⟩
theorem KT(A B:Option Addr)(n p m q:Nat)(xs ys:Nat→Int)(K:Nat)(w:World)(h:Ints w K A n xs)(h':Ints w K B m ys)(hn:n≤maxLen)(hm:m≤maxLen)(hin:∀i,i<n→hasB m ys (xs i)=true):
 CallsIn FF 0 prog 41 #[.slice A n p,.slice B m q] w fun e w'=>e=.returned (.bool true)∧w=w':=by
 have HA:=hid h
 have HIn:=hid hin
 have HB:=hid fun v=>Yh B m q ys v K w h' hm
 clear h h' hin
 unfold maxLen at hn hm
 gi_enter func41,ntmps41
 gi_wp2
 gi_loop [5] (fun i=>∃k:Nat,k≤n∧i=int i64 k) (fun i=>n - (intOf i).toNat)
 case atStart=>exact⟨0,Nat.zero_le _,rfl⟩
 case round=>
  obtain⟨k,hk,rfl⟩:=hrel
  by_cases hlt:k<n
  ·obtain⟨ad,rfl,-⟩:=HA.out (show 0<n by omega)
   have d0:=Ints.at_ HA.out hlt
   have hh:=HB.out (xs k)
   rw[HIn.out k hlt] at hh
   generalize xs k=x at d0 hh
   have HH:=hid hh
   clear hh
   gi_wp2_with (gi_at_call 82;refine HH.out.mono ?_;rintro e w' ⟨rfl,rfl⟩)
   go_round
   case rel=>exact⟨k+1,zo,by go_num⟩
   case measure=>simp[intOf];omega
  ·obtain rfl:n=k:=zo
   gi_wp2
   go_ret
   exact⟨rfl,rfl⟩
end
section
open Go.RowKit
theorem UM{s:ByteArray}(h:jU s=true):1≤s.size∧s.size≤10∧∀i,i<s.size→nameAt s i=true:=by
 unfold jU at h
 simp only[Bool.and_eq_true,decide_eq_true_eq] at h
 exact⟨h.1.1,h.1.2,h.2⟩
theorem mr(s:ByteArray)(w:World)(hs:jU s=true):
 CallsIn FF 0 prog 165 #[.string s] w fun e w'=>e=.returned (.bool true)∧w'=w:=by
 obtain⟨h1,h10,hN⟩:=UM hs
 have H:∀w,CallsIn FF 0 prog 65 #[int i64 s.size,int i64 1,int i64 10] w fun e w'=>e=.returned (.bool true)∧w=w':=fun w=>by
  have:=dn s.size 1 10 w
  rwa[show gK (s.size:Int) 1 10=true by unfold gK;simp;omega] at this
 gi_enter func165,ntmps165
 gi_wp2_with (gi_at_call 65;refine(H _).mono ?_;rintro e w' ⟨rfl,rfl⟩)
 gi_loop [13] (fun i=>∃k:Nat,k≤s.size∧i=int i64 k) (fun i=>s.size - (intOf i).toNat)
 case atStart=>exact⟨0,Nat.zero_le _,rfl⟩
 case round=>
  obtain⟨k,hk,rfl⟩:=hrel
  by_cases hlt:k<s.size
  ·have hn:=hN k hlt
   rw[lU hlt] at hn
   unfold EI Kv at hn
   simp at hn
   gi_wp2_with (first|(exact absurd ‹some undef=some (Value.bool _)› (by simp[undef])))
   all_goals first
    | (go_round
       case rel=>exact⟨k+1,zo,by go_num⟩
       case measure=>simp[intOf];omega)
    | (exfalso;simp_all;omega)
    | trace_state
  ·gi_wp2
   go_ret
   exact⟨rfl,rfl⟩
theorem Ti(b:ByteArray):∀ (n i:Nat) (r:List UInt8),b.size - i=n→ByteArray.toList.loop b i r=r.reverse ++ b.data.toList.drop i:=by
 have hsz:b.data.toList.length=b.size:=rfl
 intro n
 induction n with
 | zero=>
   intro i r h
   rw[ByteArray.toList.loop.eq_def,if_neg zo]
   rw[List.drop_eq_nil_of_le zo]
   rw[List.append_nil]
 | succ n ih=>
   intro i r h
   have hi:i<b.size:=zo
   rw[ByteArray.toList.loop.eq_def,if_pos hi,ih (i+1) _ zo]
   have hi':i<b.data.toList.length:=zo
   have hi2:i<b.data.size:=hi
   rw[List.drop_eq_getElem_cons hi']
   have:b.get! i=b.data.toList[i]:=by
    cases b with
    | mk d=>exact(getElem!_pos d i hi2).trans (Array.getElem_toList hi2).symm
   rw[this,List.reverse_cons,List.append_assoc]
   rfl
theorem xC(b:ByteArray):b.toList=b.data.toList:=by
 unfold ByteArray.toList
 rw[Ti b _ 0 [] rfl]
 rfl
theorem Tp{a b:ByteArray}(h:a≠b):(a.toList == b.toList)=false:=by
 rw[Bool.eq_false_iff]
 intro e
 apply h
 have e':=eq_of_beq e
 rw[xC,xC] at e'
 cases a;cases b
 exact congrArg _ (Array.toList_inj.1 e')
abbrev Cy(q:Good):Value:=.agg #[.string q.name,int i64 q.cost,int i64 q.pack,int i64 q.lo,int i64 q.hi]
theorem YQ(q:Good)(nm:ByteArray)(B:Nat)(w:World)(hB:B<w.heap.size)(hc:w.cell? ⟨B,0,none⟩=some (.string nm))(hne:q.name≠nm):CallsIn FF 0 prog 167 #[Cy q,.pointer (some ⟨B,0,none⟩)] w fun e w'=>e=.returned (.bool false)∧Below w.heap.size w w':=by
 have hc1:(w.alloc (.cells #[.string q.name,int i64 q.cost,int i64 q.pack,int i64 q.lo,int i64 q.hi] 83)).cell? ⟨B,0,none⟩=some (.string nm):=(World.cell?_alloc_lt w _ _ zm).trans hc
 have hne:=Tp hne
 gi_enter func167,ntmps167
 gi_wp2
 go_ret
 exact⟨rfl,bw⟩
theorem Yu(g:Nat→Good)(A:Option Addr)(n cap:Nat)(nm:ByteArray)(B:Nat)(w:World)(hr:Rows w w.heap.size 5 A n (fun i=>(g i).cell))(hn:n≤maxLen)(hB:B<w.heap.size)(hc:w.cell? ⟨B,0,none⟩=some (.string nm))(hne:∀i,i<n→(g i).name≠nm):
 CallsIn FF 0 prog 186 #[.slice A n cap,.func (.func 167) #[] #[.pointer (some ⟨B,0,none⟩)]] w fun e w'=>e=.returned (int i64 (-1))∧Below w.heap.size w w':=by
 unfold maxLen at hn
 have Hr:=hid hr
 have Hn:=hid hne
 clear hr hne
 gi_enter func186,ntmps186
 gi_wp2
 gi_loopw [8] (fun i wr=>∃k:Nat,k≤n∧i=int i64 k∧Below w.heap.size w wr) (fun i _=>n - (intOf i).toNat)
 case atStart=>exact⟨0,Nat.zero_le _,rfl,zB⟩
 case round=>
  obtain⟨k,hk,rfl,hb⟩:=hrel
  by_cases hlt:k<n
  ·obtain⟨ad,rfl,-⟩:=Hr.out (show 0<n by omega)
   have hr:=(Hr.out.below hb).row hlt
   have c0:wr.cell? (ad.add (k * 5))=some (.string (g k).name):=hr.2 0 zD
   have c1:wr.cell? ⟨(ad.add (k * 5)).block,(ad.add (k * 5)).off+1,none⟩=some (int i64 (g k).cost):=hr.2 1 zD
   have c2:wr.cell? ⟨(ad.add (k * 5)).block,(ad.add (k * 5)).off+2,none⟩=some (int i64 (g k).pack):=hr.2 2 zD
   have c3:wr.cell? ⟨(ad.add (k * 5)).block,(ad.add (k * 5)).off+3,none⟩=some (int i64 (g k).lo):=hr.2 3 zD
   have c4:wr.cell? ⟨(ad.add (k * 5)).block,(ad.add (k * 5)).off+4,none⟩=some (int i64 (g k).hi):=hr.2 4 zD
   clear hr
   have hs:=hb.size
   have hO:CallsIn FF 0 prog 167 #[Cy (g k),.pointer (some ⟨B,0,none⟩)] wr fun e w'=>e=.returned (.bool false)∧Below wr.heap.size wr w':=YQ (g k) nm B wr zo ((hb.cell (p:=⟨B,0,none⟩) hB).trans hc) (Hn.out k hlt)
   gi_wp2_with (gi_at_call 167;refine hO.mono ?_;rintro e w' ⟨rfl,hb2⟩)
   go_roundw
   case rel=>exact⟨k+1,zo,by go_num,hb.trans (hb2.mono hs)⟩
   case measure=>simp[intOf];omega
  ·gi_wp2
   go_ret
   exact⟨rfl,hb⟩
theorem Kq(g:Nat→Good)(A:Option Addr)(n cap:Nat)(nm:ByteArray)(B:Nat)(w:World)(hr:Rows w w.heap.size 5 A n (fun i=>(g i).cell))(hn:n≤maxLen)(hB:B<w.heap.size)(hc:w.cell? ⟨B,0,none⟩=some (.string nm))(hne:∀i,i<n→(g i).name≠nm):
 CallsIn FF 0 prog 166 #[.slice A n cap,.func (.func 167) #[] #[.pointer (some ⟨B,0,none⟩)]] w fun e w'=>e=.returned (.bool false)∧Below w.heap.size w w':=by
 have H:=Yu g A n cap nm B w hr hn hB hc hne
 gi_enter func166,ntmps166
 gi_wp2_with (gi_at_call 186;refine H.mono ?_;rintro e w' ⟨rfl,hb⟩)
 go_ret
 exact⟨rfl,hb⟩
theorem Rows.less{w:World}{B size n k:Nat}{A:Option Addr}{f:Nat→Nat→Value}(h:Rows w B size A n f)(hk:k≤n):Rows w B size A k f:=fun h0=>by
 obtain⟨a,e,hb,hc⟩:=h zo
 exact⟨a,e,hb,fun i j hi hj=>hc i j zo hj⟩
theorem Gm(b:Bk)(k:Nat)(w:World)(h:b.At w w.heap.size)(hk:k<b.ng)(hcap:b.ng≤b.gc)(ok:Good.ok b k):CallsIn FF 0 prog 134 #[b.val,int i64 k] w fun e w'=>e=.returned (int i64 0)∧Below w.heap.size w w':=by
 obtain⟨dY,mO,gA,ng,gc,g,mA,nm,mc,m,cA,nc,cc,c⟩:=b
 simp only at hk hcap
 obtain⟨o1,o2,o3,o4,o5⟩:=ok
 simp only at o1 o2 o3 o4 o5
 have wm:=h.ng
 simp only at wm
 unfold maxLen at wm
 obtain⟨ad,hA,hbl,-⟩:=h.g (show 0<ng by omega)
 simp only at hA
 subst hA
 simp only[Bk.val,Bk.cells]
 have Hg:=hid (h.g.alloc zL (.cells #[int i64 dY,int i64 mO,.slice (some ad) ng gc,.slice mA nm mc,.slice cA nc cc] 73))
 have hr:=(h.g.alloc zL (.cells #[int i64 dY,int i64 mO,.slice (some ad) ng gc,.slice mA nm mc,.slice cA nc cc] 73)).row hk
 have c0:(w.alloc (.cells #[int i64 dY,int i64 mO,.slice (some ad) ng gc,.slice mA nm mc,.slice cA nc cc] 73)).cell? (ad.add (k * 5))=some (.string (g k).name):=hr.2 0 zD
 have c1:(w.alloc (.cells #[int i64 dY,int i64 mO,.slice (some ad) ng gc,.slice mA nm mc,.slice cA nc cc] 73)).cell? ⟨(ad.add (k * 5)).block,(ad.add (k * 5)).off+1,none⟩=some (int i64 (g k).cost):=hr.2 1 zD
 have c2:(w.alloc (.cells #[int i64 dY,int i64 mO,.slice (some ad) ng gc,.slice mA nm mc,.slice cA nc cc] 73)).cell? ⟨(ad.add (k * 5)).block,(ad.add (k * 5)).off+2,none⟩=some (int i64 (g k).pack):=hr.2 2 zD
 have c3:(w.alloc (.cells #[int i64 dY,int i64 mO,.slice (some ad) ng gc,.slice mA nm mc,.slice cA nc cc] 73)).cell? ⟨(ad.add (k * 5)).block,(ad.add (k * 5)).off+3,none⟩=some (int i64 (g k).lo):=hr.2 3 zD
 have c4:(w.alloc (.cells #[int i64 dY,int i64 mO,.slice (some ad) ng gc,.slice mA nm mc,.slice cA nc cc] 73)).cell? ⟨(ad.add (k * 5)).block,(ad.add (k * 5)).off+4,none⟩=some (int i64 (g k).hi):=hr.2 4 zD
 clear hr h
 have i1:=hid (bH.2 o3)
 have i2:=hid (bH.2 o4)
 gi_enter func134,ntmps134
 gi_wp2_with (first
  | (gi_at_call 165;refine(mr _ _ o1).mono ?_;rintro e w' ⟨rfl,rfl⟩)
  | (gi_at_call 166;refine(Kq g (some ad) k gc (g k).name (w.heap.size+1) _ (((Hg.out.alloc zs _).more zm).less zo) zU zs zs o2).mono ?_;rintro e w2 ⟨rfl,hb2⟩;obtain⟨hc2,hf2⟩:=fH hb2;have hs2:=hb2.size)
  | (gi_at_call 65;refine(dn _ _ _ _).mono ?_;rintro e w' ⟨he,rfl⟩;(first|rw[i1.out] at he|rw[i2.out] at he);subst he)
  | (gi_at_call 168;refine(uI _ _ _ o5).mono ?_;rintro e w3 ⟨rfl,hb3⟩))
 go_ret
 exact⟨rfl,(((zB.alloc zL _).alloc zs _).trans (hb2.mono zm)).trans (hb3.mono (by simp at hs2;omega))⟩
theorem Gn(b:Bk)(k:Nat)(w:World)(h:b.At w w.heap.size)(hk:k<b.nm)(ok:Mv.ok b k):CallsIn FF 0 prog 136 #[b.val,int i64 k] w fun e w'=>e=.returned (int i64 0)∧Below w.heap.size w w':=by
 obtain⟨dY,mO,gA,ng,gc,g,mA,nm,mc,m,cA,nc,cc,c⟩:=b
 simp only at hk
 obtain⟨o1,o2,o3,o4,o5⟩:=ok
 simp only at o1 o2 o3 o4 o5
 have hnm:=h.nm
 simp only at hnm
 unfold maxLen at hnm
 have hG:∀i w,CallsIn FF 0 prog 89 #[.agg #[int i64 dY,int i64 mO,.slice gA ng gc,.slice mA nm mc,.slice cA nc cc],int i64 i] w fun e w'=>e=.returned (.bool (gK i 0 ((ng:Int) - 1)))∧Below w.heap.size w w':=fun i w=>uF ⟨dY,mO,gA,ng,gc,g,mA,nm,mc,m,cA,nc,cc,c⟩ i w h.ng
 obtain⟨ad,hA,hbl,-⟩:=h.m (show 0<nm by omega)
 simp only at hA
 subst hA
 simp only[Bk.val,Bk.cells]
 have Hg:=hid (h.m.alloc zL (.cells #[int i64 dY,int i64 mO,.slice gA ng gc,.slice (some ad) nm mc,.slice cA nc cc] 73))
 have hr:=Hg.out.row hk
 have c0:(w.alloc (.cells #[int i64 dY,int i64 mO,.slice gA ng gc,.slice (some ad) nm mc,.slice cA nc cc] 73)).cell? (ad.add (k * 5))=some (int i64 (m k).kind):=hr.2 0 zD
 have c1:(w.alloc (.cells #[int i64 dY,int i64 mO,.slice gA ng gc,.slice (some ad) nm mc,.slice cA nc cc] 73)).cell? ⟨(ad.add (k * 5)).block,(ad.add (k * 5)).off+1,none⟩=some (int i64 (m k).good):=hr.2 1 zD
 have c2:(w.alloc (.cells #[int i64 dY,int i64 mO,.slice gA ng gc,.slice (some ad) nm mc,.slice cA nc cc] 73)).cell? ⟨(ad.add (k * 5)).block,(ad.add (k * 5)).off+2,none⟩=some (int i64 (m k).day):=hr.2 2 zD
 have c3:(w.alloc (.cells #[int i64 dY,int i64 mO,.slice gA ng gc,.slice (some ad) nm mc,.slice cA nc cc] 73)).cell? ⟨(ad.add (k * 5)).block,(ad.add (k * 5)).off+3,none⟩=some (int i64 (m k).lo):=hr.2 3 zD
 have c4:(w.alloc (.cells #[int i64 dY,int i64 mO,.slice gA ng gc,.slice (some ad) nm mc,.slice cA nc cc] 73)).cell? ⟨(ad.add (k * 5)).block,(ad.add (k * 5)).off+4,none⟩=some (int i64 (m k).hi):=hr.2 4 zD
 clear hr h
 have i1:=hid (bH.2 o1)
 have i2:=hid (bH.2 o2)
 have i3:=hid (bH.2 o3)
 gi_enter func136,ntmps136
 gi_wp2_with (first
  | (gi_at_call 65;refine(dn _ _ _ _).mono ?_;rintro e w' ⟨he,rfl⟩;(first|rw[i1.out] at he|rw[i3.out] at he);subst he)
  | (gi_at_call 89;refine(hG _ _).mono ?_;rintro e w2 ⟨he,hb2⟩;rw[i2.out] at he;subst he;obtain⟨hc2,hf2⟩:=fH hb2;have hs2:=hb2.size))
 clear c0 c1 c2 c3 c4
 have hbx:∀o,w2.cell? ⟨w.heap.size,o,none⟩=(w.alloc (.cells #[int i64 dY,int i64 mO,.slice gA ng gc,.slice (some ad) nm mc,.slice cA nc cc] 73)).cell? ⟨w.heap.size,o,none⟩:=fun o=>(hc2 _ o zm).trans (World.cell?_alloc_lt _ _ _ zs)
 have hmx:∀o,w2.cell? ⟨w.heap.size+1,o,none⟩=((w.alloc (.cells #[int i64 dY,int i64 mO,.slice gA ng gc,.slice (some ad) nm mc,.slice cA nc cc] 73)).alloc (.cells #[int i64 (m k).kind,int i64 (m k).good,int i64 (m k).day,int i64 (m k).lo,int i64 (m k).hi] 39)).cell? ⟨w.heap.size+1,o,none⟩:=fun o=>(hc2 _ o zs)
 have hB:Below w.heap.size w w2:=((zB.alloc zL _).alloc zs _).trans (hb2.mono zm)
 have hs:w.heap.size+1<w2.heap.size:=by simp at hs2;omega
 by_cases hk0:0<k
 ·have hd:decide (0<(k:Int))=true:=zm
  have hr:=(((Hg.out.more (Nat.le_succ _)).alloc zs (.cells #[int i64 (m k).kind,int i64 (m k).good,int i64 (m k).day,int i64 (m k).lo,int i64 (m k).hi] 39)).below (hb2.mono zs)).row (show k - 1<nm by omega)
  have d2:w2.cell? ⟨(ad.add ((k - 1) * 5)).block,(ad.add ((k - 1) * 5)).off+2,none⟩=some (int i64 (m (k - 1)).day):=hr.2 2 zD
  have hl2:(ad.add ((k - 1) * 5)).block<w2.heap.size:=by rw[aH];have:=hr.1;omega
  clear hr
  clear hc2 hf2 hs2
  have hd2:decide ((m k).day<(m (k - 1)).day)=false:=decide_eq_false (by have:=o4 hk0;omega)
  have e2:0≤(k:Int) - 1:=zo
  have e2':1≤(k:Int):=zo
  have e4:(k:Int) - 1<nm:=zo
  have e3:((k:Int) - 1).toNat=k - 1:=zo
  have e1:IntKind.i64.wrap ((k:Int) - 1)=(k:Int) - 1:=IntWalk.i64_in _ zo
  gi_quiet (fail)
  clear e1 e3
  gi_wp2_with (gi_at_call 168;refine(uI _ _ _ o5).mono ?_;rintro e w3 ⟨rfl,hb3⟩)
  go_ret
  exact⟨rfl,hB.trans ((bw:Below w.heap.size w2 _).trans (hb3.mono zm))⟩
 ·have hd:decide (0<(k:Int))=false:=zm
  clear hc2 hf2 hs2
  gi_quiet (fail)
  gi_wp2_with (gi_at_call 168;refine(uI _ _ _ o5).mono ?_;rintro e w3 ⟨rfl,hb3⟩)
  go_ret
  exact⟨rfl,hB.trans ((bw:Below w.heap.size w2 _).trans (hb3.mono zm))⟩
theorem En(b:Bk)(k:Nat)(w:World)(h:b.At w w.heap.size)(hk:k<b.nc)(ok:Ct.ok b (b.c k)):CallsIn FF 0 prog 138 #[b.val,int i64 k] w fun e w'=>e=.returned (int i64 0)∧Below w.heap.size w w':=by
 obtain⟨dY,mO,gA,ng,gc,g,mA,nm,mc,m,cA,nc,cc,c⟩:=b
 simp only at hk
 obtain⟨o1,o2,o3⟩:=ok
 simp only at o1 o2 o3
 have hnc:=h.nc
 simp only at hnc
 unfold maxLen at hnc
 have hG:∀i w,CallsIn FF 0 prog 89 #[.agg #[int i64 dY,int i64 mO,.slice gA ng gc,.slice mA nm mc,.slice cA nc cc],int i64 i] w fun e w'=>e=.returned (.bool (gK i 0 ((ng:Int) - 1)))∧Below w.heap.size w w':=fun i w=>uF ⟨dY,mO,gA,ng,gc,g,mA,nm,mc,m,cA,nc,cc,c⟩ i w h.ng
 have hE:∀i w,CallsIn FF 0 prog 51 #[.agg #[int i64 dY,int i64 mO,.slice gA ng gc,.slice mA nm mc,.slice cA nc cc],int i64 i] w fun e w'=>e=.returned (.bool (gK i 0 dY))∧Below w.heap.size w w':=fun i w=>xU ⟨dY,mO,gA,ng,gc,g,mA,nm,mc,m,cA,nc,cc,c⟩ i w
 obtain⟨ad,hA,hbl,-⟩:=h.c (show 0<nc by omega)
 simp only at hA
 subst hA
 simp only[Bk.val,Bk.cells]
 have hr:=(h.c.alloc zL (.cells #[int i64 dY,int i64 mO,.slice gA ng gc,.slice mA nm mc,.slice (some ad) nc cc] 73)).row hk
 have c0:(w.alloc (.cells #[int i64 dY,int i64 mO,.slice gA ng gc,.slice mA nm mc,.slice (some ad) nc cc] 73)).cell? (ad.add (k * 4))=some (int i64 (c k).good):=hr.2 0 zD
 have c1:(w.alloc (.cells #[int i64 dY,int i64 mO,.slice gA ng gc,.slice mA nm mc,.slice (some ad) nc cc] 73)).cell? ⟨(ad.add (k * 4)).block,(ad.add (k * 4)).off+1,none⟩=some (int i64 (c k).day):=hr.2 1 zD
 have c2:(w.alloc (.cells #[int i64 dY,int i64 mO,.slice gA ng gc,.slice mA nm mc,.slice (some ad) nc cc] 73)).cell? ⟨(ad.add (k * 4)).block,(ad.add (k * 4)).off+2,none⟩=some (int i64 (c k).lo):=hr.2 2 zD
 have c3:(w.alloc (.cells #[int i64 dY,int i64 mO,.slice gA ng gc,.slice mA nm mc,.slice (some ad) nc cc] 73)).cell? ⟨(ad.add (k * 4)).block,(ad.add (k * 4)).off+3,none⟩=some (int i64 (c k).hi):=hr.2 3 zD
 clear hr h
 have i1:=hid (bH.2 o1)
 have i2:=hid (bH.2 o2)
 have i3:Hid (nG (c k).lo (c k).hi 0 999=true):=hid (by unfold nG gK;simp;omega)
 gi_enter func138,ntmps138
 gi_wp2_with (first
  | (gi_at_call 89;refine(hG _ _).mono ?_;rintro e w2 ⟨he,hb2⟩;rw[i1.out] at he;subst he;obtain⟨hc2,hf2⟩:=fH hb2;have hs2:w.heap.size+1<w2.heap.size:=by have:=hb2.size;simp at this;omega)
  | (gi_at_call 51;refine(hE _ _).mono ?_;rintro e w3 ⟨he,hb3⟩;rw[i2.out] at he;subst he;obtain⟨hc3,hf3⟩:=fH hb3;have hs3:=hb3.size)
  | (gi_at_call 32;refine(sM _ _ _ _ _).mono ?_;rintro e w4 ⟨he,hb4⟩;rw[i3.out] at he;subst he))
 go_ret
 exact⟨rfl,((((zB.alloc zL _).alloc zs _).trans (hb2.mono zm)).trans (hb3.mono zo)).trans (hb4.mono zo)⟩
@[go_sem] theorem Rz (P:Program) (w:World) (a:Addr) (m:Mode) (f:Fn) (x y:Array Value):Sem.run P (store a (.func f x y) m) w=stored P w a (.func f x y) m:=run_store P w a _ m rfl
def CS:Array Value:=#[.func (.func 133) #[] #[],.func (.func 134) #[] #[],.func (.func 135) #[] #[],.func (.func 136) #[] #[],.func (.func 137) #[] #[],.func (.func 138) #[] #[]]
theorem XW(b:Bk)(B:Nat)(w:World)(h:b.At w w.heap.size)(ok:b.Ok)(hcap:b.ng≤b.gc)(hB:B<w.heap.size)(hl:∀o,w.cell? ⟨B,o,none⟩=CS[o]?):
 CallsIn FF 0 prog 109 #[b.val,.slice (some ⟨B,0,none⟩) 3 3] w fun e w'=>e=.returned (int i64 0)∧Below w.heap.size w w':=by
 obtain⟨dY,mO,gA,ng,gc,g,mA,nm,mc,m,cA,nc,cc,c⟩:=b
 obtain⟨-,-,rl,okm,jr⟩:=ok
 simp only[Bk.val,Bk.cells]
 simp only at hcap jr
 have Hh:=hid h
 have Og:=hid rl
 have Om:=hid okm
 have Oc:=hid jr
 clear h rl okm jr
 gi_enter func109,ntmps109
 gi_wp2
 gi_loopw [13] (fun i wr=>∃k:Nat,k≤3∧i=int i64 k∧Below (w.heap.size+1) (w.alloc (.cells #[int i64 dY,int i64 mO,.slice gA ng gc,.slice mA nm mc,.slice cA nc cc] 73)) wr) (fun i _=>3 - (intOf i).toNat)
 case atStart=>exact⟨0,zo,rfl,zB⟩
 case round=>
  obtain⟨k,hk,rfl,hb⟩:=hrel
  have hsz:w.heap.size+1≤wr.heap.size:=by have:=hb.size;simpa using this
  have kY:∀o,wr.cell? ⟨w.heap.size,o,none⟩=(w.alloc (.cells #[int i64 dY,int i64 mO,.slice gA ng gc,.slice mA nm mc,.slice cA nc cc] 73)).cell? ⟨w.heap.size,o,none⟩:=fun o=>hb.cell (p:=⟨w.heap.size,o,none⟩) zs
  have hls:∀o,wr.cell? ⟨B,o,none⟩=CS[o]?:=fun o=>((hb.cell (p:=⟨B,o,none⟩) zm).trans (World.cell?_alloc_lt w _ _ zm)).trans (hl o)
  have hat:Hid ((⟨dY,mO,gA,ng,gc,g,mA,nm,mc,m,cA,nc,cc,c⟩:Bk).At wr (w.heap.size+1)):=hid (((Hh.out.alloc zL _).more (Nat.le_succ _)).below hb)
  have Yn:w.heap.size<wr.heap.size:=hsz
  by_cases hlt:k<3
  ·rcases(show k=0∨k=1∨k=2 by omega) with rfl|rfl|rfl
   ·have l0:wr.cell? ⟨B,0,none⟩=some (.func (.func 133) #[] #[]):=hls 0
    have l1:wr.cell? ⟨B,1,none⟩=some (.func (.func 134) #[] #[]):=hls 1
    clear hls
    obtain⟨wo,rfl⟩:∃wo:World,wo=wr:=zE
    have hL:∀w,CallsIn FF 0 prog 133 #[.agg #[int i64 dY,int i64 mO,.slice gA ng gc,.slice mA nm mc,.slice cA nc cc]] w fun e w'=>e=.returned (.tuple #[int i64 ng,.bool true])∧Below w.heap.size w w':=fun w=>Io ⟨dY,mO,gA,ng,gc,g,mA,nm,mc,m,cA,nc,cc,c⟩ w Og.out.1
    gi_wp2_with (gi_at_call 133;refine(hL _).mono ?_;rintro e w2 ⟨rfl,hb2⟩;obtain⟨hc2,hf2⟩:=fH hb2;have hs2:wo.heap.size<w2.heap.size:=by have:=hb2.size;simp at this;omega)
    have Br:∀o,w2.cell? ⟨w.heap.size,o,none⟩=(w.alloc (.cells #[int i64 dY,int i64 mO,.slice gA ng gc,.slice mA nm mc,.slice cA nc cc] 73)).cell? ⟨w.heap.size,o,none⟩:=fun o=>((hc2 _ o zm).trans (World.cell?_alloc_lt _ _ _ zm)).trans (kY o)
    have Ug:w2.cell? ⟨wo.heap.size,1,none⟩=some (.func (.func 134) #[] #[]):=(hc2 _ 1 zs).trans zs
    have KL:Hid ((⟨dY,mO,gA,ng,gc,g,mA,nm,mc,m,cA,nc,cc,c⟩:Bk).At w2 (w.heap.size+1)):=hid ((hat.out.alloc hsz _).below (hb2.mono zm))
    have hB2:Below (w.heap.size+1) wo w2:=(zB.alloc hsz _).trans (hb2.mono zm)
    clear hc2 hf2 kY l0 l1 hL
    have hnn:ng≤2 ^ 63 - 1:=Hh.out.ng
    gi_loopw [27] (fun j wj=>∃q:Nat,q≤ng∧j=int i64 q∧Below w2.heap.size w2 wj) (fun j _=>ng - (intOf j).toNat)
    case atStart=>exact⟨0,Nat.zero_le _,rfl,zB⟩
    case round=>
     obtain⟨q,hq,rfl,hbj⟩:=hrel
     have hs:=hbj.size
     have hx:∀o,wr.cell? ⟨w.heap.size,o,none⟩=(w.alloc (.cells #[int i64 dY,int i64 mO,.slice gA ng gc,.slice mA nm mc,.slice cA nc cc] 73)).cell? ⟨w.heap.size,o,none⟩:=fun o=>(hbj.cell (p:=⟨w.heap.size,o,none⟩) zm).trans (Br o)
     have hf:wr.cell? ⟨wo.heap.size,1,none⟩=some (.func (.func 134) #[] #[]):=(hbj.cell (p:=⟨wo.heap.size,1,none⟩) zm).trans Ug
     have hlt1:w.heap.size<wr.heap.size:=zo
     have hlt2:wo.heap.size<wr.heap.size:=zo
     by_cases hq2:q<ng
     ·have hC:CallsIn FF 0 prog 134 #[.agg #[int i64 dY,int i64 mO,.slice gA ng gc,.slice mA nm mc,.slice cA nc cc],int i64 q] wr fun e w'=>e=.returned (int i64 0)∧Below wr.heap.size wr w':=Gm ⟨dY,mO,gA,ng,gc,g,mA,nm,mc,m,cA,nc,cc,c⟩ q wr ((KL.out.below (hbj.mono zo)).more zo) hq2 hcap (Og.out.2 q hq2)
      gi_wp2_with (gi_at_call 134;refine hC.mono ?_;rintro e w3 ⟨rfl,hb3⟩)
      go_roundw
      case rel=>exact⟨q+1,zo,by go_num,hbj.trans (hb3.mono hs)⟩
      case measure=>simp[intOf];omega
     ·obtain rfl:q=ng:=zo
      gi_wp2
      go_roundw
      case rel=>exact⟨0+1,zo,by go_num,(hb.trans hB2).trans (hbj.mono zo)⟩
      case measure=>simp[intOf]
   ·have l0:wr.cell? ⟨B,2,none⟩=some (.func (.func 135) #[] #[]):=hls 2
    have l1:wr.cell? ⟨B,3,none⟩=some (.func (.func 136) #[] #[]):=hls 3
    clear hls
    obtain⟨wo,rfl⟩:∃wo:World,wo=wr:=zE
    have hL:∀w,CallsIn FF 0 prog 135 #[.agg #[int i64 dY,int i64 mO,.slice gA ng gc,.slice mA nm mc,.slice cA nc cc]] w fun e w'=>e=.returned (.tuple #[int i64 nm,.bool true])∧Below w.heap.size w w':=fun w=>Ip ⟨dY,mO,gA,ng,gc,g,mA,nm,mc,m,cA,nc,cc,c⟩ w Om.out.1
    gi_wp2_with (gi_at_call 135;refine(hL _).mono ?_;rintro e w2 ⟨rfl,hb2⟩;obtain⟨hc2,hf2⟩:=fH hb2;have hs2:wo.heap.size<w2.heap.size:=by have:=hb2.size;simp at this;omega)
    have Br:∀o,w2.cell? ⟨w.heap.size,o,none⟩=(w.alloc (.cells #[int i64 dY,int i64 mO,.slice gA ng gc,.slice mA nm mc,.slice cA nc cc] 73)).cell? ⟨w.heap.size,o,none⟩:=fun o=>((hc2 _ o zm).trans (World.cell?_alloc_lt _ _ _ zm)).trans (kY o)
    have Ug:w2.cell? ⟨wo.heap.size,1,none⟩=some (.func (.func 136) #[] #[]):=(hc2 _ 1 zs).trans zs
    have KL:Hid ((⟨dY,mO,gA,ng,gc,g,mA,nm,mc,m,cA,nc,cc,c⟩:Bk).At w2 (w.heap.size+1)):=hid ((hat.out.alloc hsz _).below (hb2.mono zm))
    have hB2:Below (w.heap.size+1) wo w2:=(zB.alloc hsz _).trans (hb2.mono zm)
    clear hc2 hf2 kY l0 l1 hL
    have hnn:nm≤2 ^ 63 - 1:=Hh.out.nm
    gi_loopw [27] (fun j wj=>∃q:Nat,q≤nm∧j=int i64 q∧Below w2.heap.size w2 wj) (fun j _=>nm - (intOf j).toNat)
    case atStart=>exact⟨0,Nat.zero_le _,rfl,zB⟩
    case round=>
     obtain⟨q,hq,rfl,hbj⟩:=hrel
     have hs:=hbj.size
     have hx:∀o,wr.cell? ⟨w.heap.size,o,none⟩=(w.alloc (.cells #[int i64 dY,int i64 mO,.slice gA ng gc,.slice mA nm mc,.slice cA nc cc] 73)).cell? ⟨w.heap.size,o,none⟩:=fun o=>(hbj.cell (p:=⟨w.heap.size,o,none⟩) zm).trans (Br o)
     have hf:wr.cell? ⟨wo.heap.size,1,none⟩=some (.func (.func 136) #[] #[]):=(hbj.cell (p:=⟨wo.heap.size,1,none⟩) zm).trans Ug
     have hlt1:w.heap.size<wr.heap.size:=zo
     have hlt2:wo.heap.size<wr.heap.size:=zo
     by_cases hq2:q<nm
     ·have hC:CallsIn FF 0 prog 136 #[.agg #[int i64 dY,int i64 mO,.slice gA ng gc,.slice mA nm mc,.slice cA nc cc],int i64 q] wr fun e w'=>e=.returned (int i64 0)∧Below wr.heap.size wr w':=Gn ⟨dY,mO,gA,ng,gc,g,mA,nm,mc,m,cA,nc,cc,c⟩ q wr ((KL.out.below (hbj.mono zo)).more zo) hq2 (Om.out.2 q hq2)
      gi_wp2_with (gi_at_call 136;refine hC.mono ?_;rintro e w3 ⟨rfl,hb3⟩)
      go_roundw
      case rel=>exact⟨q+1,zo,by go_num,hbj.trans (hb3.mono hs)⟩
      case measure=>simp[intOf];omega
     ·obtain rfl:q=nm:=zo
      gi_wp2
      go_roundw
      case rel=>exact⟨1+1,zo,by go_num,(hb.trans hB2).trans (hbj.mono zo)⟩
      case measure=>simp[intOf]
   ·have l0:wr.cell? ⟨B,4,none⟩=some (.func (.func 137) #[] #[]):=hls 4
    have l1:wr.cell? ⟨B,5,none⟩=some (.func (.func 138) #[] #[]):=hls 5
    clear hls
    obtain⟨wo,rfl⟩:∃wo:World,wo=wr:=zE
    have hL:∀w,CallsIn FF 0 prog 137 #[.agg #[int i64 dY,int i64 mO,.slice gA ng gc,.slice mA nm mc,.slice cA nc cc]] w fun e w'=>e=.returned (.tuple #[int i64 nc,.bool true])∧Below w.heap.size w w':=fun w=>EL ⟨dY,mO,gA,ng,gc,g,mA,nm,mc,m,cA,nc,cc,c⟩ w Oc.out.1
    gi_wp2_with (gi_at_call 137;refine(hL _).mono ?_;rintro e w2 ⟨rfl,hb2⟩;obtain⟨hc2,hf2⟩:=fH hb2;have hs2:wo.heap.size<w2.heap.size:=by have:=hb2.size;simp at this;omega)
    have Br:∀o,w2.cell? ⟨w.heap.size,o,none⟩=(w.alloc (.cells #[int i64 dY,int i64 mO,.slice gA ng gc,.slice mA nm mc,.slice cA nc cc] 73)).cell? ⟨w.heap.size,o,none⟩:=fun o=>((hc2 _ o zm).trans (World.cell?_alloc_lt _ _ _ zm)).trans (kY o)
    have Ug:w2.cell? ⟨wo.heap.size,1,none⟩=some (.func (.func 138) #[] #[]):=(hc2 _ 1 zs).trans zs
    have KL:Hid ((⟨dY,mO,gA,ng,gc,g,mA,nm,mc,m,cA,nc,cc,c⟩:Bk).At w2 (w.heap.size+1)):=hid ((hat.out.alloc hsz _).below (hb2.mono zm))
    have hB2:Below (w.heap.size+1) wo w2:=(zB.alloc hsz _).trans (hb2.mono zm)
    clear hc2 hf2 kY l0 l1 hL
    have hnn:nc≤2 ^ 63 - 1:=Hh.out.nc
    gi_loopw [27] (fun j wj=>∃q:Nat,q≤nc∧j=int i64 q∧Below w2.heap.size w2 wj) (fun j _=>nc - (intOf j).toNat)
    case atStart=>exact⟨0,Nat.zero_le _,rfl,zB⟩
    case round=>
     obtain⟨q,hq,rfl,hbj⟩:=hrel
     have hs:=hbj.size
     have hx:∀o,wr.cell? ⟨w.heap.size,o,none⟩=(w.alloc (.cells #[int i64 dY,int i64 mO,.slice gA ng gc,.slice mA nm mc,.slice cA nc cc] 73)).cell? ⟨w.heap.size,o,none⟩:=fun o=>(hbj.cell (p:=⟨w.heap.size,o,none⟩) zm).trans (Br o)
     have hf:wr.cell? ⟨wo.heap.size,1,none⟩=some (.func (.func 138) #[] #[]):=(hbj.cell (p:=⟨wo.heap.size,1,none⟩) zm).trans Ug
     have hlt1:w.heap.size<wr.heap.size:=zo
     have hlt2:wo.heap.size<wr.heap.size:=zo
     by_cases hq2:q<nc
     ·have hC:CallsIn FF 0 prog 138 #[.agg #[int i64 dY,int i64 mO,.slice gA ng gc,.slice mA nm mc,.slice cA nc cc],int i64 q] wr fun e w'=>e=.returned (int i64 0)∧Below wr.heap.size wr w':=En ⟨dY,mO,gA,ng,gc,g,mA,nm,mc,m,cA,nc,cc,c⟩ q wr ((KL.out.below (hbj.mono zo)).more zo) hq2 (Oc.out.2 q hq2)
      gi_wp2_with (gi_at_call 138;refine hC.mono ?_;rintro e w3 ⟨rfl,hb3⟩)
      go_roundw
      case rel=>exact⟨q+1,zo,by go_num,hbj.trans (hb3.mono hs)⟩
      case measure=>simp[intOf];omega
     ·obtain rfl:q=nc:=zo
      gi_wp2
      go_roundw
      case rel=>exact⟨2+1,zo,by go_num,(hb.trans hB2).trans (hbj.mono zo)⟩
      case measure=>simp[intOf]
  ·obtain rfl:k=3:=zo
   gi_wp2
   go_ret
   exact⟨rfl,((zB.alloc zL _).trans (hb.mono zs))⟩
theorem YE(b:Bk)(w:World):CallsIn FF 0 prog 110 #[b.val] w fun e w'=>∃B,e=.returned (.slice (some ⟨B,0,none⟩) 3 3)∧w.heap.size≤B∧B<w'.heap.size∧(∀o,w'.cell? ⟨B,o,none⟩=CS[o]?)∧Below w.heap.size w w':=by
 obtain⟨dY,mO,gA,ng,gc,g,mA,nm,mc,m,cA,nc,cc,c⟩:=b
 simp only[Bk.val,Bk.cells]
 gi_enter func110,ntmps110
 gi_wp2
 go_ret
 refine⟨w.heap.size+1,rfl,zo,zs,fun o=>?_,bw⟩
 have e:=(Whole.new (w.alloc (.cells #[int i64 dY,int i64 mO,.slice gA ng gc,.slice mA nm mc,.slice cA nc cc] 73)) 188 CS).cell o
 rw[show(w.alloc (.cells #[int i64 dY,int i64 mO,.slice gA ng gc,.slice mA nm mc,.slice cA nc cc] 73)).heap.size=w.heap.size+1 by simp] at e
 exact e
theorem im(b:Bk)(w:World)(h:b.At w w.heap.size)(ok:b.Ok)(hcap:b.ng≤b.gc):CallsIn FF 0 prog 83 #[b.val] w fun e w'=>e=.returned (int i64 0)∧Below w.heap.size w w':=by
 have i1:=hid (bH.2 ok.dY)
 have i2:=hid (bH.2 ok.mO)
 obtain⟨dY,mO,gA,ng,gc,g,mA,nm,mc,m,cA,nc,cc,c⟩:=b
 have hL:∀w,CallsIn FF 0 prog 110 #[.agg #[int i64 dY,int i64 mO,.slice gA ng gc,.slice mA nm mc,.slice cA nc cc]] w fun e w'=>∃B,e=.returned (.slice (some ⟨B,0,none⟩) 3 3)∧w.heap.size≤B∧B<w'.heap.size∧(∀o,w'.cell? ⟨B,o,none⟩=CS[o]?)∧Below w.heap.size w w':=fun w=>YE ⟨dY,mO,gA,ng,gc,g,mA,nm,mc,m,cA,nc,cc,c⟩ w
 have hF:∀B w,(⟨dY,mO,gA,ng,gc,g,mA,nm,mc,m,cA,nc,cc,c⟩:Bk).At w w.heap.size→B<w.heap.size→(∀o,w.cell? ⟨B,o,none⟩=CS[o]?)→CallsIn FF 0 prog 109 #[.agg #[int i64 dY,int i64 mO,.slice gA ng gc,.slice mA nm mc,.slice cA nc cc],.slice (some ⟨B,0,none⟩) 3 3] w fun e w'=>e=.returned (int i64 0)∧Below w.heap.size w w':=fun B w hA hB hl=>XW ⟨dY,mO,gA,ng,gc,g,mA,nm,mc,m,cA,nc,cc,c⟩ B w hA ok hcap hB hl
 simp only[Bk.val,Bk.cells]
 have Hh:=hid h
 clear h ok hcap
 simp only at i1 i2
 gi_enter func83,ntmps83
 gi_wp2_with (gi_at_call 65;refine(dn _ _ _ _).mono ?_;rintro e w' ⟨he,rfl⟩;(first|rw[i1.out] at he|rw[i2.out] at he);subst he)
 gi_region_with (first
  | (gi_at_call 110;refine(hL _).mono ?_;rintro e w2 ⟨B,rfl,hB1,hB2,hl2,hb2⟩;have hW:Below w.heap.size w w2:=(bw:Below w.heap.size w _).trans (hb2.mono zs);obtain⟨hc2,hf2⟩:=fH hb2;have hs2:w.heap.size<w2.heap.size:=by have:=hb2.size;simp at this;omega)
  | (gi_at_call 109;refine(hF B _ ((Hh.out.below hW).more hW.size) hB2 hl2).mono ?_;rintro e w3 ⟨rfl,hb3⟩))
 all_goals (gi_wp2;go_ret;exact⟨rfl,hW.trans (hb3.mono hW.size)⟩)
theorem XJ(b:Bk)(w:World)(h:b.At w w.heap.size)(ok:b.Ok)(hcap:b.ng≤b.gc):CallsIn FF 0 prog 42 #[b.val] w fun e w'=>e=.returned (int i64 0)∧Below w.heap.size w w':=by
 obtain⟨dY,mO,gA,ng,gc,g,mA,nm,mc,m,cA,nc,cc,c⟩:=b
 have hL:∀w,(⟨dY,mO,gA,ng,gc,g,mA,nm,mc,m,cA,nc,cc,c⟩:Bk).At w w.heap.size→CallsIn FF 0 prog 83 #[.agg #[int i64 dY,int i64 mO,.slice gA ng gc,.slice mA nm mc,.slice cA nc cc]] w fun e w'=>e=.returned (int i64 0)∧Below w.heap.size w w':=fun w h=>im ⟨dY,mO,gA,ng,gc,g,mA,nm,mc,m,cA,nc,cc,c⟩ w h ok hcap
 simp only[Bk.val,Bk.cells]
 have Hh:=hid h
 clear h ok hcap
 gi_enter func42,ntmps42
 gi_wp2_with (gi_at_call 83;refine(hL _ ((Hh.out.alloc zL _).more zs)).mono ?_;rintro e w2 ⟨rfl,hb2⟩)
 go_ret
 exact⟨rfl,(bw:Below w.heap.size w _).trans (hb2.mono zs)⟩
def aM(s k:Nat):List Int:=((List.range k).filter fun n=>s / 2 ^ n % 2 == 1).map fun(n:Nat)=>(n:Int)
theorem yJ(s k:Nat):aM s (k+1)=aM s k ++ if s / 2 ^ k % 2=1 then[(k:Int)] else[]:=by
 unfold aM
 rw[List.range_succ,List.filter_append,List.map_append]
 by_cases h:s / 2 ^ k % 2=1 <;> simp[h]
theorem uO(s k:Nat):(aM s k).length≤k:=by
 unfold aM
 rw[List.length_map]
 exact Nat.le_trans (List.length_filter_le _ _) zs
theorem Dn(s k:Nat)(h:s / 2 ^ k=0):∀j,aM s (k+j)=aM s k
 | 0=>rfl
 | j+1=>by
   rw[← Nat.add_assoc,yJ,Dn s k h j,if_neg,List.append_nil]
   rw[Nat.pow_add,← Nat.div_div_eq_div_mul,h,Nat.zero_div]
   decide
end
section
open Go Go.Sort Go.RowKit
section
variable{F:Fence}{n:Nat}{P:Program}{ops:Array Oper}{Q:Exit→Act→World→Prop}{md:Region.Mode}{S:World→Prop}{T:Act→World→Prop}{N:Nat}
def ny(md:Region.Mode)(ops:Array Oper):Nat→Nat→Array Bool→Bool
 | 0,_,listed=>Region.ready md ops listed == []
 | c+1,t,listed=>Region.ready md ops listed == [t] && ny md ops c (t+1) (listed.setIfInBounds t true)
theorem jv:∀ (l:List Oper) (t:Nat) (listed:Array Bool) (a:Act) (w:World),(∀j,j<l.length→l[j]? =ops[t+j]?)→ny md ops l.length t listed=true→wpListIn F n P ops Q l a w→wpAnyIn F n P md ops Q l.length listed a w
 | [],_,_,_,_,_,hB,h=>⟨by simpa [ny] using hB,h⟩
 | o :: l,t,listed,a,w,hl,hB,h=>by
   have h0:ops[t]? =some o:=by simpa using (hl 0 zs).symm
   simp only[List.length_cons,ny,Bool.and_eq_true,beq_iff_eq] at hB
   refine⟨(fun h0=>by rw[hB.1] at h0;cases h0),fun i hi=>?_⟩
   rw[hB.1] at hi
   obtain rfl:i=t:=by simpa using hi
   have hK:∀a w,wpListIn F n P ops Q l a w→wpAnyIn F n P md ops Q l.length (listed.setIfInBounds i true) a w:=fun a w h=>jv l (i+1) _ a w (fun j hj=>by have:=hl (j+1) (by simpa using hj);simpa [Nat.add_assoc,Nat.add_comm 1 j] using this) hB.2 h
   refine wpOpIn_mono (fun a' w' hq=>hK a' w' hq) ?_
   unfold wpOpIn
   simp only[h0]
   exact h
def Av(F:Fence)(n:Nat)(P:Program)(md:Region.Mode)(ops:Array Oper)(S:World→Prop)(T:Act→World→Prop)(N:Nat):Nat→Array Bool→Act→Prop
 | 0,listed,a=>(ny md ops (ops.size - N) N listed=true∧Region.ready md ops listed=[N])∧∀w,S w→T a w
 | fuel+1,listed,a=>(Region.ready md ops listed≠[]∧∀i∈Region.ready md ops listed,i<N)∧∀i∈Region.ready md ops listed,qOpIn F n P ops S i (Av F n P md ops S T N fuel (listed.setIfInBounds i true)) a
theorem nC(hro:F.round=none)(hT:∀listed a w,ny md ops (ops.size - N) N listed=true→T a w→wpAnyIn F n P md ops Q (ops.size - N) listed a w):∀ (fuel:Nat) (listed:Array Bool) (a:Act) (w:World),S w→Av F n P md ops S T N fuel listed a→wpAnyIn F n P md ops Q (ops.size - N+fuel) listed a w
 | 0,_,a,w,hw,h=>hT _ a w h.1.1 (h.2 w hw)
 | fuel+1,_,_,_,hw,h=>⟨fun h0=>absurd h0 h.1.1,fun i hi=>wpOpIn_of_qOpIn hro hw (fun a' w' hw'=>nC hro hT fuel _ a' w' hw') (h.2 i hi)⟩
theorem FK{i:Nat}{oi:Oper}{v:Value}(hs:Region.sinkB md ops N=true)(hc:Region.chainB md ops N=true)(hN:N<ops.size)(hi:ops[i]? =some oi)(hsel:∀ (j:Nat) (o:Oper) cs b,ops[j]? =some o→o.op≠.select cs b)(hiN:i<N):
 ∀ (fuel:Nat) (listed:Array Bool) (a:Act),HeadInv md ops N listed→
   (∀j oj,ops[j]? =some oj→j≠i→listed.getD j true=false→(∀e∈oj.after,Region.binds md e=true→e.on≠i)→oi.apart ops oj=true)→
   i∈Region.ready md ops listed→YieldsQuiet F n P ops S oi v a→
   Av F n P md ops S T N fuel (listed.setIfInBounds i true) (a.put oi.dst v)→Av F n P md ops S T N (fuel+1) listed a:=by
 intro fuel
 induction fuel with
 | zero=>
   intro listed a inv _ hr hy H
   have hun:=(mem_ready.1 hr).1
   have hlt:∀t∈Region.ready md ops listed,t<N:=fun t ht=>Nat.lt_of_not_le fun h=>tail_waits hs hc hN inv _ i rfl hiN hun t h ht
   refine⟨⟨fun h=>(by rw[h] at hr;cases hr),hlt⟩,fun j hj=>?_⟩
   by_cases hji:j=i
   ·subst hji;exact hy.qOpIn hi H
   ·have:=ready_mono hj hji
    rw[H.1.2] at this
    have h1:j=N:=by simpa using this
    have:=hlt j hj
    omega
 | succ fuel ih=>
   intro listed a inv hfree hr hy H
   have hun:=(mem_ready.1 hr).1
   have hlt:∀t∈Region.ready md ops listed,t<N:=fun t ht=>Nat.lt_of_not_le fun h=>tail_waits hs hc hN inv _ i rfl hiN hun t h ht
   refine⟨⟨fun h=>(by rw[h] at hr;cases hr),hlt⟩,fun j hj=>?_⟩
   by_cases hji:j=i
   ·subst hji;exact hy.qOpIn hi H
   ·have h1:=H.2 j (ready_mono hj hji)
    obtain⟨hjun,oj,hoj,hall⟩:=mem_ready.1 hj
    have hnot:∀e∈oj.after,Region.binds md e=true→e.on≠i:=fun e he hb heq=>by
     have h1:=hall e he hb
     have h0:=(mem_ready.1 hr).1
     rw[heq] at h1
     rcases Nat.lt_or_ge i listed.size with h'|h'
     ·simp[h'] at h0 h1;rw[h0] at h1;cases h1
     ·simp[Array.getElem?_eq_none h'] at h1
    have h2:=qOpIn_put hoj (hfree j oj hoj hji hjun hnot) (fun cs b=>hsel i oi cs b hi) (fun cs b=>hsel j oj cs b hoj) hy h1
    have hfree':∀k ok,ops[k]? =some ok→k≠i→(listed.setIfInBounds j true).getD k true=false→
     (∀e∈ok.after,Region.binds md e=true→e.on≠i)→oi.apart ops ok=true:=fun k ok hk hki hun hno=>by
     refine hfree k ok hk hki ?_ hno
     by_cases hjk:j=k
     ·subst hjk;exact hjun
     ·rw[getD_set_ne true hjk] at hun;exact hun
    refine qOpIn_mono (fun a' h3=>ih (listed.setIfInBounds j true) a' (inv.set hj (hlt j hj)) hfree' (ready_mono hr (Ne.symm hji)) h3.1 ?_) h2
    rw[Array.setIfInBounds_comm _ _ hji]
    exact h3.2
def oH(md:Region.Mode)(ops:Array Oper)(N:Nat):Nat→Nat→Array Bool→Bool
 | 0,_,listed=>ny md ops (ops.size - N) N listed && Region.ready md ops listed == [N]
 | fuel+1,k,listed=>(Region.ready md ops listed).contains k && Region.free md ops listed k && oH md ops N fuel (k+1) (listed.setIfInBounds k true)
theorem rT(hsel:Region.noSelect ops=true)(hs:Region.sinkB md ops N=true)(hc:Region.chainB md ops N=true)(hN:N<ops.size):∀ (l:List Oper) (k:Nat) (listed:Array Bool) (a:Act),(∀j,j<l.length→l[j]? =ops[k+j]?)→k+l.length=N→HeadInv md ops N listed→
 oH md ops N l.length k listed=true→wpQuietIn F n P ops S (fun a=>∀w,S w→T a w) l a→Av F n P md ops S T N l.length listed a
 | [],_,_,_,_,_,_,hB,h=>by
   simp only[List.length_nil,oH,Bool.and_eq_true,beq_iff_eq] at hB
   exact⟨hB,h⟩
 | o :: l,k,listed,a,hl,hk,inv,hB,h=>by
   have h0:ops[k]? =some o:=by simpa using (hl 0 zs).symm
   simp only[List.length_cons] at hk
   simp only[List.length_cons,oH,Bool.and_eq_true] at hB
   obtain⟨⟨hr,hf⟩,hB'⟩:=hB
   have hr':k∈Region.ready md ops listed:=by simpa using hr
   have hst:qOpIn F n P ops S k (wpQuietIn F n P ops S (fun a=>∀w,S w→T a w) l) a:=by unfold qOpIn;simp only[h0];exact h
   obtain⟨v,hy,hK⟩:=yieldsQuiet_of_qOpIn h0 hst
   exact FK hs hc hN h0 (Region.noSelect_spec hsel) zo l.length listed a inv (Region.free_spec h0 hf) hr' hy
    (rT hsel hs hc hN l (k+1) _ _ (fun j hj=>by have:=hl (j+1) (by simpa using hj);simpa [Nat.add_assoc,Nat.add_comm 1 j] using this) zo (inv.set hr' zo) hB' hK)
def Jm(ops:Array Oper)(N:Nat):Bool:=Region.noSelect ops && Region.sinkB .any ops N && Region.chainB .any ops N && decide (N<ops.size) && oH .any ops N N 0 (Array.replicate ops.size false)
theorem aJ{id:Nat}{a:Act}{w:World}{l:List Oper}(N:Nat)(hro:F.round=none)(hm:P.follows .mixedOrders=true)(hB:Jm l.toArray N=true)
 (h:wpQuietIn F n P l.toArray (fun w'=>∃p:Regrown,w'=grow (redrawn w p.d) p.os) (fun a'=>∀w',(∃p:Regrown,w'=grow (redrawn w p.d) p.os)→wpListIn F n P l.toArray Q (l.drop N) a' w') (l.take N) a):(Code.region id l.toArray true).wpIn F n P Q a w:=by
 simp only[Jm,Bool.and_eq_true,decide_eq_true_eq] at hB
 obtain⟨⟨⟨⟨h1,h2⟩,h3⟩,h4⟩,h5⟩:=hB
 have hlen:N<l.length:=by simpa using h4
 refine wpIn_region_any hm ?_
 have htl:(l.take N).length=N:=zm
 have inv:HeadInv .any l.toArray N (Array.replicate l.toArray.size false):=⟨zs,fun j oj hj hl=>by rw[getD_replicate_false] at *;simp_all,fun t ht ht'=>getD_in (by simpa using ht') (getD_replicate_false _ _)⟩
 have:=rT (F:=F) (n:=n) (P:=P) (md:=.any) (ops:=l.toArray) (N:=N) (S:=fun w'=>∃p:Regrown,w'=grow (redrawn w p.d) p.os) (T:=wpListIn F n P l.toArray Q (l.drop N)) h1 h2 h3 h4 (l.take N) 0 (Array.replicate l.toArray.size false) a
  (fun j hj=>by rw[htl] at hj;simp[hj]) zo inv (by rw[htl];exact h5) h
 rw[htl] at this
 have h6:=nC (Q:=Q) hro (N:=N) (fun listed a w hB h=>by
  have hd:(l.drop N).length=l.toArray.size - N:=zs
  have:=jv (F:=F) (n:=n) (P:=P) (md:=.any) (ops:=l.toArray) (Q:=Q) (l.drop N) N listed a w (fun j hj=>zs) (by rw[hd];exact hB) h
  rw[hd] at this
  exact this) N _ a {w with drawn:=w.drawn+1 } ⟨⟨w.drawn+1,#[]⟩,by rw[grow_empty];rfl⟩ this
 rw[show l.toArray.size - N+N=l.toArray.size by omega] at h6
 exact h6
end
end
section
open Go
def SF:Fence:={fn:=fun g=>g=100∨g=101∨g=102∨g=39∨g=79∨g=80∨g=103∨g=130∨g=131∨g=81∨g=104∨g=105∨g=106∨g=107∨g=108∨g=132∨g=92∨g=65∨g=88∨g=120∨g=139∨g=140∨g=55∨g=59∨g=77 }
@[simp] theorem Vv(g:FuncId):SF.fn g↔g=100∨g=101∨g=102∨g=39∨g=79∨g=80∨g=103∨g=130∨g=131∨g=81∨g=104∨g=105∨g=106∨g=107∨g=108∨g=132∨g=92∨g=65∨g=88∨g=120∨g=139∨g=140∨g=55∨g=59∨g=77:=Iff.rfl
@[simp] theorem B0:SF.depth=none:=rfl
@[simp] theorem Cd:SF.round=none:=rfl
theorem IW{g:FuncId}(h:SF.fn g):FF.fn g:=by
 rw[qU]
 rcases(Vv g).1 h with h|h|h|h|h|h|h|h|h|h|h|h|h|h|h|h|h|h|h|h|h|h|h|h|h <;> subst h <;> simp
theorem gq{I I':Machine→Prop}(hI:∀m,I m→I' m){P:Program}{m m':Machine}(h:StepsIn I P m m'):StepsIn I' P m m':=by
 induction h with
 | refl=>exact .refl _
 | head h1 h2 h3 ih=>exact .head (hI _ h1) h2 ih
theorem CallsIn.wider{n:Nat}{P:Program}{f:FuncId}{args:Array Value}{w:World}{R:Ending→World→Prop}(h:CallsIn SF n P f args w R):CallsIn FF n P f args w R:=by
 refine⟨IW h.1,fun cs _=>?_⟩
 obtain⟨e,w',fr,r,hs,rest⟩:=h.2 cs (fun d hd=>by cases hd)
 have hm:∀m:Machine,m.fenced P SF→m.fenced P FF:=fun m hm g hg=>by
  obtain⟨a,b,c,d⟩:=hm g hg
  exact⟨a,b.imp IW id,fun f hf=>IW (c f hf),fun d hd=>by cases hd⟩
 refine⟨e,w',fr,r,?_,rest⟩
 cases e with
 | returned v=>exact gq hm hs
 | panicked c=>exact gq hm hs
 | outgrown=>exact hs
end
end Go.Proofs.YtpmafoalhnaokaaGreat
namespace Go.Proofs.YtpmafoalhnaokaaGreat.W
section
open Go.RowKit
theorem dn(n lo hi:Int)(w:World):CallsIn SF 0 prog 65 #[int i64 n,int i64 lo,int i64 hi] w fun e w'=>e=.returned (.bool (gK n lo hi))∧w=w':=by
 gi_enter func65,ntmps65
 gi_wp2
 all_goals (go_ret;refine⟨?_,rfl⟩;congr 2;unfold gK;first|rfl|(simp;omega)|simp_all)
theorem mn(a b:Int)(w:World):CallsIn SF 0 prog 139 #[int i64 a,int i64 b] w fun e w'=>e=.returned (int i64 (wrap64 (a+b)))∧w=w':=by
 gi_enter func139,ntmps139
 gi_wp2
 all_goals (go_ret;refine⟨?_,rfl⟩;rfl)
theorem lR(a b:Int)(w:World):CallsIn SF 0 prog 140 #[int i64 a,int i64 b] w fun e w'=>e=.returned (int i64 (wrap64 (a - b)))∧w=w':=by
 gi_enter func140,ntmps140
 gi_wp2
 all_goals (go_ret;refine⟨?_,rfl⟩;rfl)
theorem mQ(s:Nat)(w:World)(hs:s<1024):CallsIn SF 0 prog 102 #[int i64 s] w fun e w'=>∃v,e=.returned v∧w'.ownsRow w.heap.size 3 1 v (aM s 10).length ((aM s 10).map (int i64))∧Below w.heap.size w w':=by
 obtain⟨i0,hi,hz0,hz1,hz2⟩:=info_parts info3
 have hi0:=hid hi
 clear hi
 gi_enter func102,ntmps102
 gi_wp2
 gi_loopw [3,4] (fun l i wr=>∃k:Nat,k≤10∧i=int i64 k∧Hid (wr.ownsRow w.heap.size 3 1 l (aM s k).length ((aM s k).map (int i64))∧Below w.heap.size w wr)) (fun _ i _=>11 - (intOf i).toNat)
 case atStart=>exact⟨0,zo,rfl,hid ⟨pq w w.heap.size 3,zB⟩⟩
 case round=>
  obtain⟨k,hk,rfl,hR⟩:=hrel
  obtain⟨A,n,c,rfl⟩:=iq hR.out.1
  have e1:(s:Int) / 2 ^ k=((s / 2 ^ k:Nat):Int):=by push_cast;rfl
  have e2:bits BinOp.and IntKind.i64 ((s / 2 ^ k:Nat):Int) 1=((s / 2 ^ k % 2:Nat):Int):=and_one _ (by have:=Nat.div_le_self s (2 ^ k);omega)
  by_cases h0:s / 2 ^ k=0
  ·have e3:aM s 10=aM s k:=by have:=Dn s k h0 (10 - k);rwa[show k+(10 - k)=10 by omega] at this
   have c1:decide (0<(s:Int) / 2 ^ k)=false:=by rw[e1,h0];rfl
   clear e1 e2
   gi_wp2
   all_goals first
    | (go_ret
       exact⟨_,rfl,by rw[e3];exact hR.out.1,hR.out.2⟩)
    | trace_state
  ·have hk2:k<10:=by
    rcases Nat.lt_or_ge k 10 with h|h
    ·exact h
    ·exact absurd (Nat.div_eq_of_lt (Nat.lt_of_lt_of_le hs (Nat.pow_le_pow_right (n:=2) zD h))) h0
   have c1:(0:Int)<(s:Int) / 2 ^ k:=by rw[e1];exact Int.natCast_pos.2 (Nat.pos_of_ne_zero h0)
   have c2:bits BinOp.and IntKind.i64 ((s:Int) / 2 ^ k) 1=((s / 2 ^ k % 2:Nat):Int):=by rw[e1];exact e2
   have e4:=yJ s k
   have hlen:=uO s k
   have hB:=hR.out.2.size
   clear e1 e2
   by_cases h1:s / 2 ^ k % 2=1
   ·rw[if_pos h1] at e4
    have c3:(bits BinOp.and IntKind.i64 ((s:Int) / 2 ^ k) 1 == 1)=true:=by rw[c2,h1];rfl
    clear c2
    have Hc:=hid e4
    clear e4
    gi_wp2_with (gi_at_builtin;refine aD rfl rfl rfl fun K5 iH=>?_;refine wp_append_lies _ _ _ _ rfl w.heap.size 3 i0 _ 1 8 underlying51 hi0.out hz0 hz1 hz2 rfl zo (.slice A n c) (aM s k).length _ rfl (bD hR.out.1 _) ⟨wr.heap.size,0,none⟩ 1 1 [_] rfl rfl (World.news_of_block (heap_alloc_new wr _)) (by simp[Value.oneCell']) zo zU zo zm (wr.heap.size+1) zs ?_;intro jN gQ w5 hown5 aN kX mP;refine iH _ _ ?_;clear iH K5)
    exact⟨⟨k+1,zo,by go_num,hid ⟨by rw[Hc.out,List.length_append,List.map_append];exact hown5,(hR.out.2.alloc hB _).trans (below_grown aN zm (fun g hg=>(bL hR.out.1 hg).1))⟩⟩,by simp[intOf];omega⟩
   ·rw[if_neg h1,List.append_nil] at e4
    have c3:(bits BinOp.and IntKind.i64 ((s:Int) / 2 ^ k) 1 == 1)=false:=by rw[c2];exact beq_eq_false_iff_ne.2 (fun h=>h1 (by exact_mod_cast h))
    clear c2
    gi_wp2
    go_roundw
    case rel=>exact⟨k+1,zo,by go_num,hid ⟨by rw[e4];exact hR.out.1,hR.out.2⟩⟩
    case measure=>simp[intOf];omega
end
end Go.Proofs.YtpmafoalhnaokaaGreat.W
namespace Go.Proofs.YtpmafoalhnaokaaGreat
section
open Go.RowKit
theorem uG(b:Bk)(i:Nat)(w:World)(h:b.At w w.heap.size)(hi:i<b.nm):CallsIn FF 0 prog 56 #[b.val,int i64 i] w fun e w'=>e=.returned (.bool (decide ((b.m i).kind=0)))∧Below w.heap.size w w':=by
 obtain⟨dY,mO,gA,ng,gc,g,mA,nm,mc,m,cA,nc,cc,c⟩:=b
 simp only at hi
 have hnm:=h.nm
 have hM:∀w,CallsIn FF 0 prog 73 #[.agg #[int i64 dY,int i64 mO,.slice gA ng gc,.slice mA nm mc,.slice cA nc cc],int i64 i] w fun e w'=>e=.returned (.bool true)∧Below w.heap.size w w':=fun w=>by
  have:=Cz ⟨dY,mO,gA,ng,gc,g,mA,nm,mc,m,cA,nc,cc,c⟩ i w hnm
  rwa[show gK (i:Int) 0 ((nm:Int) - 1)=true by unfold gK;simp;omega] at this
 simp only at hnm
 unfold maxLen at hnm
 obtain⟨ad,hA,hbl,-⟩:=h.m (show 0<nm by omega)
 simp only at hA
 subst hA
 simp only[Bk.val,Bk.cells]
 have Hg:=hid (h.m.alloc zL (.cells #[int i64 dY,int i64 mO,.slice gA ng gc,.slice (some ad) nm mc,.slice cA nc cc] 73))
 clear h
 gi_enter func56,ntmps56
 gi_wp2_with (gi_at_call 73;refine(hM _).mono ?_;rintro e w2 ⟨rfl,hb2⟩;obtain⟨hc2,hf2⟩:=fH hb2;have hs2:w.heap.size<w2.heap.size:=(by have:=hb2.size;simp at this;omega);have c0:w2.cell? (ad.add (i * 5))=some (int i64 (m i).kind):=((Hg.out.below (hb2.mono zs)).row hi).2 0 zD)
 all_goals (go_ret;refine⟨?_,(bw:Below w.heap.size w _).trans (hb2.mono zs)⟩;first|rfl|simp_all)
theorem mQ(s:Nat)(w:World)(hs:s<1024):CallsIn FF 0 prog 102 #[int i64 s] w fun e w'=>∃v,e=.returned v∧w'.ownsRow w.heap.size 3 1 v (aM s 10).length ((aM s 10).map (int i64))∧Below w.heap.size w w':=
 CallsIn.wider (Go.Proofs.YtpmafoalhnaokaaGreat.W.mQ s w hs)
section
variable{F:Fence}{n:Nat}{P:Program}{b:Frame}{a:Act}{k:List Item}{cs:List Frame}{w:World}{Q:Exit→Act→World→Prop}
theorem gN{c:Code}:step P (lone (b.atR a (.code (.scope c) :: k)) cs w)=.next (lone (b.atR a (.code c :: .inScope c :: k)) cs w):=
 step_lone_go (by simp[stepG,stepG.exec,Frame.atR])
theorem BG{c:Code}:step P (lone (b.atR a (.inScope c :: k)) cs w)=.next (lone (b.atR a k) cs w):=
 step_lone_go (by simp[stepG,stepG.exec,Frame.atR])
theorem Mt{c:Code}(h:c.wpIn F n P (Exit.noGoto Q) a w):(Code.scope c).wpIn F n P Q a w:=by
 intro b k cs hro hb hr
 have h0:(lone (b.atR a (.code (.scope c) :: k)) cs w).fenced P F:=fenced_calm hb hr rfl
 obtain⟨e,a₁,w₁,hq,harr⟩:=h b (.inScope c :: k) cs hro hb hr
 cases e with
 | normal=>exact⟨.normal,a₁,w₁,hq,.head h0 gN (StepsIn.trans harr (.one (fenced_calm hb hr rfl) BG))⟩
 | exit id'=>
   have hx:exitTo id' (.inScope c :: k)=exitTo id' k:=by simp[exitTo]
   exact⟨.exit id',a₁,w₁,hq,fun k' hk=>.head h0 gN (harr.1 k' (by rw[hx];exact hk)),
    fun hr' hk=>let ⟨k₁,h1,h2⟩:=harr.2 hr' (by rw[hx];exact hk);⟨k₁,h1,.head h0 gN h2⟩⟩
 | goto l=>exact hq.elim
 | ret=>exact⟨_,a₁,w₁,hq,.of_steps (.one h0 gN) harr⟩
 | panic ch=>exact⟨_,a₁,w₁,hq,.of_steps (.one h0 gN) harr⟩
 | outgrown=>exact⟨_,a₁,w₁,hq,.of_steps (.one h0 gN) harr⟩
end
@[go_sem] theorem noGoto_normal {Q:Exit→Act→World→Prop} {a:Act} {w:World}:Exit.noGoto Q .normal a w=Q .normal a w:=rfl
@[go_sem] theorem noGoto_exit {Q:Exit→Act→World→Prop} {a:Act} {w:World} (id:Nat):Exit.noGoto Q (.exit id) a w=Q (.exit id) a w:=rfl
@[go_sem] theorem noGoto_ret {Q:Exit→Act→World→Prop} {a:Act} {w:World}:Exit.noGoto Q .ret a w=Q .ret a w:=rfl
def EJ(b:Bk)(s:Nat):Bool:=decide (∀i,i<b.nm→s / 2 ^ i % 2=1→(b.m i).kind=0)
def bP(b:Bk)(k:Nat):List Int:=((List.range k).filter fun s=>EJ b s).map fun(n:Nat)=>(n:Int)
theorem vD(b:Bk)(k:Nat):bP b (k+1)=bP b k ++ if EJ b k=true then[(k:Int)] else[]:=by
 unfold bP
 rw[List.range_succ,List.filter_append,List.map_append]
 by_cases h:EJ b k=true <;> simp[h]
theorem Ld(b:Bk)(k:Nat):(bP b k).length≤k:=by
 unfold bP
 rw[List.length_map]
 exact Nat.le_trans (List.length_filter_le _ _) zs
theorem Qo{s k:Nat}{x:Int}(h:x∈aM s k):∃i:Nat,x=i∧i<k∧s / 2 ^ i % 2=1:=by
 unfold aM at h
 obtain⟨i,hi,rfl⟩:=List.mem_map.1 h
 obtain⟨h1,h2⟩:=List.mem_filter.1 hi
 exact⟨i,rfl,List.mem_range.1 h1,by simpa using h2⟩
theorem Qn{s k i:Nat}(hi:i<k)(h:s / 2 ^ i % 2=1):(i:Int)∈aM s k:=by
 unfold aM
 exact List.mem_map.2 ⟨i,List.mem_filter.2 ⟨List.mem_range.2 hi,by simp[h]⟩,rfl⟩
theorem ir{s n i:Nat}(hs:s<2 ^ n)(h:s / 2 ^ i % 2=1):i<n:=by
 rcases Nat.lt_or_ge i n with h1|h1
 ·exact h1
 ·rw[Nat.div_eq_of_lt (Nat.lt_of_lt_of_le hs (Nat.pow_le_pow_right (n:=2) zD h1))] at h
  cases h
def jQ(w:World)(v:Value):Prop:=∀g,v.ownBlock=some g→∃c e,w.heap[g]? =some (.cells c e (0,0))∧∀x∈c.toList,∃n,x=int i64 n
section
variable{w w':World}{v v':Value}
theorem jQ.nil(w:World):jQ w (.slice none 0 0):=fun g h=>by cases h
theorem jQ.of(h:jQ w v)(hk:∀g,v.ownBlock=some g→g<w.heap.size→w'.heap[g]? =w.heap[g]?):jQ w' v:=fun g hg=>by
 obtain⟨c,e,h1,h2⟩:=h g hg
 exact⟨c,e,(hk g hg (Array.getElem?_eq_some_iff.1 h1).1).trans h1,h2⟩
theorem jQ.below(h:jQ w v)(hb:Below w.heap.size w w'):jQ w' v:=h.of fun _ _ hl=>hb.block _ hl
theorem jQ.alloc(h:jQ w v)(o:Obj):jQ (w.alloc o) v:=h.of fun _ _ hl=>Below.heap_alloc _ _ _ hl
theorem jQ.other{p:Addr}(h:jQ w v)(hne:∀g,v.ownBlock=some g→g≠p.block)(x:Value):jQ (w.setCell p x) v:=h.of fun g hg _=>Below.heap_setCell _ _ _ _ (hne g hg)
theorem DR(k:Nat):∀x∈(Builtin.zeroCells (int i64 0).cells k).toList,∃n,x=int i64 n:=fun x hx=>by
 unfold Builtin.zeroCells at hx
 rw[Array.toList_map] at hx
 obtain⟨i,hi,rfl⟩:=List.mem_map.1 hx
 exact⟨0,by simp[Value.cells,Nat.mod_one]⟩
theorem Bz{base n m c:Nat}{xs news:List Value}{ad:Addr}{ty:TypeId}{i:TypeInfo}(hi:Tryz.prog.info? 3=some i)(hz:i.zero=some (int i64 0))(hs:i.size=1)(hby:i.bytes=8)(hown:w.ownsRow base 3 1 v n xs)(hib:jQ w v)
 (hl:news.length=m)(hnews:∀j u,news[j]? =some u→w.cell? (ad.add j)=some u)(hint:∀u∈news,∃k,u=int i64 k)(hm:0<m)(h63:n+m≤maxLen)(hbytes:(n+m) * 8≤140737488355328)
 (hr:(Builtin.append_ #[51,51] ty #[v,.slice (some ad) m c]).run prog w=.ok v' w'):jQ w' v':=by
 have hsmall:n+m≤9223372036854775807:=by simp only[maxLen] at h63;omega
 have h1:∀u∈news,u.oneCell'=true:=fun u hu=>by obtain⟨k,rfl⟩:=hint u hu;rfl
 have hl':news.length=m * i.size:=by rw[hs,hl];omega
 rcases hown.2 with⟨rfl,rfl⟩|⟨g,cap,cur,rfl,hbg,hg,hnc,hcm,hcs,htake⟩
 ·have hr':=run_append_nil (P:=prog) w 51 ty 3 i _ underlying51 hi hz ad m c news hl' hnews hm zo (by rw[hby];omega)
  rw[hr] at hr'
  injection hr' with e1 e2
  subst e1
  subst e2
  intro g hg
  cases hg
  refine⟨_,_,heap_alloc_new w.drew _,fun x hx=>?_⟩
  simp only[Array.toList_append,List.mem_append] at hx
  rcases hx with hx|hx
  ·exact hint x hx
  ·exact DR _ x hx
 ·obtain⟨c2,e2,h2,h3⟩:=hib g rfl
  rw[hg] at h2
  cases h2
  by_cases hroom:n+m≤cap
  ·have hr':=run_append_room (P:=prog) w 51 ty 3 i underlying51 hi g n cap cur hg ad m c news hl' hnews h1 hroom (by rw[hl',hs,hcs];omega)
   rw[hr] at hr'
   injection hr' with e1 e2
   subst e1
   subst e2
   intro g' hg'
   cases hg'
   refine⟨_,_,setRow_heap w g cur _ _ _ hg,fun x hx=>?_⟩
   simp only[List.mem_append] at hx
   rcases hx with(hx|hx)|hx
   ·exact h3 x (List.mem_of_mem_take hx)
   ·exact hint x hx
   ·exact h3 x (List.mem_of_mem_drop hx)
  ·have holds:∀j u,xs[j]? =some u→w.cell? ((⟨g,0,none⟩:Addr).add j)=some u:=hown.cells (g:=g) rfl
   have hr':=run_append_grow (P:=prog) w 51 ty 3 i _ underlying51 hi hz ⟨g,0,none⟩ n cap xs (by rw[hs];exact hown.1) holds ad m c news hl' hnews zo zo (by rw[hby];exact growslice_fits zo hbytes)
   rw[hr] at hr'
   injection hr' with e1 e2
   subst e1
   subst e2
   intro g' hg'
   cases hg'
   refine⟨_,_,heap_alloc_new w.drew _,fun x hx=>?_⟩
   simp only[Array.toList_append,List.mem_append] at hx
   rcases hx with(hx|hx)|hx
   ·rw[← htake] at hx
    exact h3 x (List.mem_of_mem_take hx)
   ·exact hint x hx
   ·exact DR _ x hx
theorem FN{o:Oper}{a:Act}{K:Act→World→Prop}{Q:Exit→Act→World→Prop}{s x:Operand}{i:TypeInfo}(ho:o.op=.call {callee:=.builtin .append,args:=#[s,x],argTypes:=#[51,51] })
 (base:Nat)(hi:Tryz.prog.info? 3=some i)(hz:i.zero=some (int i64 0))(hs:i.size=1)(hby:i.bytes=8)(v:Value)(n:Nat)(xs:List Value)(hv:a.eval s=v)(hown:w.ownsRow base 3 1 v n xs)(hib:jQ w v)
 (ad:Addr)(m c:Nat)(news:List Value)(hx:a.eval x=.slice (some ad) m c)(hl:news.length=m)(hnews:∀j u,news[j]? =some u→w.cell? (ad.add j)=some u)(hint:∀u∈news,∃k,u=int i64 k)(hm:0<m)(h63:n+m≤maxLen)(hbytes:(n+m) * 8≤140737488355328)(hbase:base≤w.heap.size)(H:Nat)(hH:w.heap.size=H)
 (h:∀g cap w',w'.ownsRow base 3 1 (.slice (some ⟨g,0,none⟩) (n+m) cap) (n+m) (xs ++ news)→w.grownBy w' v.ownBlock→(v.ownBlock=some g∨g=H)→g<w'.heap.size→jQ w' (.slice (some ⟨g,0,none⟩) (n+m) cap)→K (a.put o.dst (.slice (some ⟨g,0,none⟩) (n+m) cap)) w'):o.wp prog a w K Q:=by
 have h1:∀u∈news,u.oneCell'=true:=fun u hu=>by obtain⟨k,rfl⟩:=hint u hu;rfl
 obtain⟨g,cap,w',hr,h2,h3,h4,h5⟩:=run_append_lies (P:=prog) w 51 o.type base 3 i _ 1 8 underlying51 hi hz hs hby rfl zo v n xs hown ad m c news zo hnews h1 hm h63 hbytes hbase H hH
 have h6:=Bz hi hz hs hby hown hib hl hnews hint hm h63 hbytes hr
 unfold Oper.wp execOp
 simp only[ho,resolve,invoke,builtin,Sem.run_bind,Sem.run_pure,Result.andThen_ok,List.map_toArray,List.map_cons,List.map_nil,hv,hx,hr]
 exact h g cap w' h2 h3 h4 h5 h6
end
theorem Ox(b:Bk)(w:World)(h:b.At w w.heap.size)(hm:b.nm≤6):CallsIn FF 0 prog 78 #[b.val] w fun e w'=>∃v,e=.returned v∧w'.ownsRow w.heap.size 3 1 v (bP b (2 ^ b.nm)).length ((bP b (2 ^ b.nm)).map (int i64))∧Below w.heap.size w w'∧jQ w' v:=by
 obtain⟨dY,mO,gA,ng,gc,g,mA,nm,mc,m,cA,nc,cc,c⟩:=b
 simp only[Bk.val,Bk.cells]
 simp only at hm
 have vd:2 ^ nm≤64:=Nat.le_trans (Nat.pow_le_pow_right zD hm) zD
 have eW:wrap64 ((2:Int) ^ nm)=((2 ^ nm:Nat):Int):=by
  have e:((2:Int) ^ nm)=((2 ^ nm:Nat):Int):=by push_cast;rfl
  have key:∀M:Nat,M≤64→wrap64 (M:Int)=(M:Int):=fun M h=>IntWalk.wrap64_in _ zo
  rw[e];exact key _ vd
 have Hh:=hid h
 clear h
 obtain⟨i0,hi,hz0,hz1,hz2⟩:=info_parts info3
 have hi0:=hid hi
 clear hi
 gi_enter func78,ntmps78
 gi_wp2
 apply Mt
 gi_wp2
 apply wpIn_label
 gi_wp2
 rw[eW]
 clear eW
 obtain⟨M,hM⟩:∃M:Nat,M=2 ^ nm:=zE
 rw[← hM] at vd⊢
 have HM:=hid hM
 clear hM
 gi_loopw [3,12] (fun l i wr=>∃k:Nat,k≤M∧i=int i64 k∧Hid (wr.ownsRow (w.heap.size+1) 3 1 l (bP (⟨dY,mO,gA,ng,gc,g,mA,nm,mc,m,cA,nc,cc,c⟩:Bk) k).length ((bP (⟨dY,mO,gA,ng,gc,g,mA,nm,mc,m,cA,nc,cc,c⟩:Bk) k).map (int i64))∧Below (w.heap.size+1) (w.alloc (.cells #[int i64 dY,int i64 mO,.slice gA ng gc,.slice mA nm mc,.slice cA nc cc] 73)) wr∧jQ wr l)) (fun _ i _=>M - (intOf i).toNat)
 case atStart=>exact⟨0,Nat.zero_le _,rfl,hid ⟨pq _ (w.heap.size+1) 3,zB,jQ.nil _⟩⟩
 case round=>
  obtain⟨k,hk,rfl,hR⟩:=hrel
  obtain⟨A,n,cp,rfl⟩:=iq hR.out.1
  have hsz:w.heap.size+1≤wr.heap.size:=by have:=hR.out.2.1.size;simpa using this
  by_cases hlt:k<M
  ·obtain⟨wo,rfl⟩:∃wo:World,wo=wr:=zE
   gi_wp2_with (gi_at_call 102;refine(mQ k wo zo).mono ?_;rintro e w2 ⟨v2,rfl,hown2,hb2⟩;obtain⟨A2,c2,rfl⟩:=fZ hown2;have HB2:=hid hb2;have Xk:=hid hown2;clear hb2 hown2)
   have SZ:k<2 ^ nm:=by have:=HM.out;omega
   have hs2:wo.heap.size≤w2.heap.size:=HB2.out.size
   have KL:Hid ((⟨dY,mO,gA,ng,gc,g,mA,nm,mc,m,cA,nc,cc,c⟩:Bk).At w2 (w.heap.size+1)):=hid (((Hh.out.alloc zL (.cells #[int i64 dY,int i64 mO,.slice gA ng gc,.slice mA nm mc,.slice cA nc cc] 73)).more (Nat.le_succ _)).below (hR.out.2.1.trans (HB2.out.mono hsz)))
   have Br:Hid (∀o,w2.cell? ⟨w.heap.size,o,none⟩=(w.alloc (.cells #[int i64 dY,int i64 mO,.slice gA ng gc,.slice mA nm mc,.slice cA nc cc] 73)).cell? ⟨w.heap.size,o,none⟩):=hid fun o=>(HB2.out.cell (p:=⟨w.heap.size,o,none⟩) zm).trans (hR.out.2.1.cell (p:=⟨w.heap.size,o,none⟩) zs)
   have hI2:Hid (Ints w2 w2.heap.size A2 (aM k 10).length (fun i=>(aM k 10).getD i 0)):=hid (eG Xk.out)
   have hll:=uO k 10
   obtain⟨L,hL⟩:∃L:List Int,L=aM k 10:=zE
   have HL:=hid hL
   rw[← hL] at hI2 hll⊢
   clear hL
   gi_loopw [18] (fun j wj=>∃q:Nat,q≤L.length∧j=int i64 q∧Hid (Below w2.heap.size w2 wj∧∀i,i<q→(m (L.getD i 0).toNat).kind=0)) (fun j _=>L.length - (intOf j).toNat)
   case atStart=>exact⟨0,Nat.zero_le _,rfl,hid ⟨zB,fun i hi=>absurd hi (Nat.not_lt_zero i)⟩⟩
   case round=>
    obtain⟨q,hq,rfl,hS⟩:=hrel
    have hs3:w2.heap.size≤wr.heap.size:=hS.out.1.size
    have Yn:w.heap.size<wr.heap.size:=zo
    have hbx:∀o,wr.cell? ⟨w.heap.size,o,none⟩=(w.alloc (.cells #[int i64 dY,int i64 mO,.slice gA ng gc,.slice mA nm mc,.slice cA nc cc] 73)).cell? ⟨w.heap.size,o,none⟩:=fun o=>(hS.out.1.cell (p:=⟨w.heap.size,o,none⟩) zm).trans (Br.out o)
    have HB3:Hid (Below (w.heap.size+1) wo wr):=hid ((HB2.out.mono hsz).trans (hS.out.1.mono zo))
    by_cases hq2:q<L.length
    ·obtain⟨ad,rfl,hbl,hcl⟩:=hI2.out (show 0<L.length by omega)
     obtain⟨i,hi,aaC,hib⟩:=Qo (s:=k) (k:=10) (x:=L[q]) (by rw[← HL.out];exact List.getElem_mem hq2)
     have hig:L.getD q 0=(i:Int):=by rw[← hi];simp[hq2]
     have hin:i<nm:=ir SZ hib
     have cq:wr.cell? (ad.add q)=some (int i64 i):=by
      have e:=Ints.at_ hI2.out hq2
      rw[hig] at e
      exact(hS.out.1.cell (by rw[aH];exact hbl)).trans e
     have hN:CallsIn FF 0 prog 56 #[.agg #[int i64 dY,int i64 mO,.slice gA ng gc,.slice mA nm mc,.slice cA nc cc],int i64 i] wr fun e w'=>e=.returned (.bool (decide ((m i).kind=0)))∧Below wr.heap.size wr w':=uG ⟨dY,mO,gA,ng,gc,g,mA,nm,mc,m,cA,nc,cc,c⟩ i wr ((KL.out.below (hS.out.1.mono zo)).more zo) hin
     clear hcl hi
     by_cases hz:(m i).kind=0
     ·rw[decide_eq_true hz] at hN
      gi_wp2_with (gi_at_call 56;refine hN.mono ?_;rintro e w3 ⟨rfl,hb3⟩)
      go_roundw
      case rel=>exact⟨q+1,zo,by go_num,hid ⟨hS.out.1.trans (hb3.mono hs3),eY hS.out.2 (by rw[hig];exact hz)⟩⟩
      case measure=>simp[intOf];omega
     ·rw[decide_eq_false hz] at hN
      gi_wp2_with (gi_at_call 56;refine hN.mono ?_;rintro e w3 ⟨rfl,hb3⟩)
      have hw3:Below wo.heap.size wo w3:=HB2.out.trans ((hS.out.1.trans (hb3.mono hs3)).mono hs2)
      have e4:=vD ⟨dY,mO,gA,ng,gc,g,mA,nm,mc,m,cA,nc,cc,c⟩ k
      rw[if_neg (by unfold EJ;rw[decide_eq_false (fun h=>hz (h i hin hib))];decide),List.append_nil] at e4
      exact⟨⟨k+1,zo,by go_num,hid ⟨by rw[e4];exact own_below hR.out.1 hw3,hR.out.2.1.trans (hw3.mono hsz),hR.out.2.2.below hw3⟩⟩,by simp[intOf];omega⟩
    ·obtain rfl:q=L.length:=zo
     have xz:EJ ⟨dY,mO,gA,ng,gc,g,mA,nm,mc,m,cA,nc,cc,c⟩ k=true:=decide_eq_true (fun i hi hib=>by
      have hmem:(i:Int)∈L:=by rw[HL.out];exact Qn (by simp only at hi;omega) hib
      obtain⟨j,hj,rj⟩:=List.mem_iff_getElem.1 hmem
      have:=hS.out.2 j hj
      rwa[show L.getD j 0=(i:Int) by rw[← rj];simp[hj]] at this)
     have e4:=vD ⟨dY,mO,gA,ng,gc,g,mA,nm,mc,m,cA,nc,cc,c⟩ k
     rw[if_pos xz] at e4
     have E4:=hid e4
     have hle:=Ld ⟨dY,mO,gA,ng,gc,g,mA,nm,mc,m,cA,nc,cc,c⟩ k
     have hw3:Below wo.heap.size wo wr:=HB2.out.trans (hS.out.1.mono hs2)
     have hown:=own_below hR.out.1 hw3
     have Ho:=hid hown
     have HI9:=hid (hR.out.2.2.below hw3)
     have p7:=hid hw3
     clear e4 hown hw3 xz
     gi_wp2_with (gi_at_builtin;refine aD rfl rfl rfl fun K5 iH=>?_;refine FN rfl (w.heap.size+1) hi0.out hz0 hz1 hz2 (.slice A n cp) (bP ⟨dY,mO,gA,ng,gc,g,mA,nm,mc,m,cA,nc,cc,c⟩ k).length _ rfl (bD Ho.out _) (HI9.out.alloc _) ⟨wr.heap.size,0,none⟩ 1 1 [_] rfl rfl (World.news_of_block (heap_alloc_new wr _)) zs zo zU zo zm (wr.heap.size+1) zs ?_;intro jN gQ w5 hown5 aN kX mP SU;refine iH _ _ ?_;clear iH K5)
     exact⟨⟨k+1,zo,by go_num,hid ⟨by rw[E4.out,List.length_append,List.map_append];exact hown5,((hR.out.2.1.trans (p7.out.mono hsz)).alloc zo _).trans (below_grown aN zm (fun g hg=>(bL Ho.out hg).1)),SU⟩⟩,by simp[intOf];omega⟩
  ·obtain rfl:k=M:=zo
   have HM2:=HM.out
   gi_wp2
   rw[Exit.noGoto_ret]
   go_ret
   exact⟨_,rfl,by rw[← HM2];exact⟨hR.out.1.1,hR.out.1.2.imp id (fun⟨g,cap,cur,h1,h2,h3⟩=>⟨g,cap,cur,h1,zo,h3⟩)⟩,(zB.alloc zL _).trans (hR.out.2.1.mono zs),hR.out.2.2⟩
end
end Go.Proofs.YtpmafoalhnaokaaGreat
