/- OP AF1 P1 P2 P3 P4 -/
import Derived.Test.YthaelabgfnnebaaGreatA2
import Derived.Carry
import Derived.SizedLaws
import Derived.WideShapes
import Derived.ChangeShapes
import Derived.ChangeSlices
set_option maxRecDepth 100000
set_option maxHeartbeats 16000000
set_option linter.unusedVariables false
set_option linter.unusedSectionVars false
open Go.IntKind(i64)
open Go.Lib(hid)
open Go.Proofs.Tryz
open Go.Value(int)
namespace Go.Proofs.YthaelabgfnnebaaGreat
section
open Go
section
variable{H:Type}{enc:TypeId × Value→H}{w:World}{fuel:Nat}
noncomputable abbrev TR (enc:TypeId × Value→H) (w:World):Nat→TypeId→List Value→Option (DataW H × List MemPlace):=DataW.trod enc prog w 0 (fun _=>true) true
theorem c3:Tryz.prog.cellsOf 3=1:=zk
theorem c37:Tryz.prog.cellsOf 50=1:=zk
theorem c9:Tryz.prog.cellsOf 9=1:=zk
theorem c39:Tryz.prog.cellsOf 38=2:=zk
theorem c68:Tryz.prog.cellsOf 40=5:=zk
theorem c41:Tryz.prog.cellsOf 52=5:=zk
theorem c88:Tryz.prog.cellsOf 99=4:=zk
theorem c22:Tryz.prog.cellsOf 22=1:=zk
theorem c23:Tryz.prog.cellsOf 23=1:=zk
theorem c24:Tryz.prog.cellsOf 24=1:=zk
theorem c26:Tryz.prog.cellsOf 26=5:=zk
theorem gI{t:TypeId}{k:IntKind}(ht:Tryz.prog.underlying t=some (.int k)){cs:List Value}{o:Nat}{y:DataW H × List MemPlace}(h:TR enc w fuel t ((cs.drop o).take 1)=some y):∃n,cs[o]? =some (.int k n)∧(Lit.int k n).wf=true:=by
 obtain⟨n,e,_,hw⟩:=DataW.trod_int ht h
 exact⟨n,WideShapes.cell_of_cut e,hw⟩
theorem Vu{t:TypeId}(ht:Tryz.prog.underlying t=some .string){cs:List Value}{o:Nat}{y:DataW H × List MemPlace}(h:TR enc w fuel t ((cs.drop o).take 1)=some y):∃s,cs[o]? =some (.string s)∧s.size≤maxLen:=by
 obtain⟨n,e,_,hw⟩:=DataW.trod_string ht h
 exact⟨n,WideShapes.cell_of_cut e,hw⟩
theorem KU{cs:List Value}{o j n:Nat}{v:Value}(h:((cs.drop o).take n)[j]? =some v):cs[o+j]? =some v:=by
 rw[List.getElem?_take] at h
 split at h
 ·rwa[List.getElem?_drop] at h
 ·cases h
theorem wu{cs:List Value}{o:Nat}{y:DataW H × List MemPlace}(h:TR enc w fuel 38 ((cs.drop o).take 2)=some y):∃a b,cs[o]? =some (int i64 a)∧cs[o+1]? =some (int i64 b):=by
 obtain⟨xs,n,rfl,rfl,hl,hx,hf⟩:=DataW.trod_struct underlying38 h
 have f0:TR enc w n 3 ((((cs.drop o).take 2).drop 0).take (Tryz.prog.cellsOf 3))=xs[0]?:=hf 0 _ rfl
 have f1:TR enc w n 3 ((((cs.drop o).take 2).drop 1).take (Tryz.prog.cellsOf 3))=xs[1]?:=hf 1 _ rfl
 rw[c3] at f0
 rw[c3] at f1
 have hx:xs.length=2:=hx
 rw[List.getElem?_eq_getElem zo] at f0 f1
 obtain⟨a,h0,_⟩:=gI underlying3 f0
 obtain⟨b,h1,_⟩:=gI underlying3 f1
 exact⟨a,b,KU h0,KU h1⟩
theorem SY{cs:List Value}{y:DataW H × List MemPlace}(h:TR enc w fuel 40 cs=some y):∃g:Good,(∀j,j<5→cs[j]? =some (g.cell j))∧g.name.size≤maxLen:=by
 obtain⟨xs,n,rfl,rfl,hl,hx,hf⟩:=DataW.trod_struct underlying40 h
 have f0:TR enc w n 9 ((cs.drop 0).take (Tryz.prog.cellsOf 9))=xs[0]?:=hf 0 _ rfl
 have f1:TR enc w n 3 ((cs.drop 1).take (Tryz.prog.cellsOf 3))=xs[1]?:=hf 1 _ rfl
 have f2:TR enc w n 3 ((cs.drop 2).take (Tryz.prog.cellsOf 3))=xs[2]?:=hf 2 _ rfl
 have f3:TR enc w n 38 ((cs.drop 3).take (Tryz.prog.cellsOf 38))=xs[3]?:=hf 3 _ rfl
 rw[c9] at f0
 rw[c3] at f1
 rw[c3] at f2
 rw[c39] at f3
 have hx:xs.length=4:=hx
 rw[List.getElem?_eq_getElem zo] at f0 f1 f2 f3
 obtain⟨s,h0,hs⟩:=Vu underlying9 f0
 obtain⟨c,h1,_⟩:=gI underlying3 f1
 obtain⟨p,h2,_⟩:=gI underlying3 f2
 obtain⟨lo,hi,h3,h4⟩:=wu f3
 refine⟨⟨s,c,p,lo,hi⟩,fun j hj=>?_,hs⟩
 rcases(by omega:j=0∨j=1∨j=2∨j=3∨j=4) with rfl|rfl|rfl|rfl|rfl <;> assumption
theorem df{cs:List Value}{y:DataW H × List MemPlace}(h:TR enc w fuel 52 cs=some y):∃g:Mv,(∀j,j<5→cs[j]? =some (g.cell j))∧True:=by
 obtain⟨xs,n,rfl,rfl,hl,hx,hf⟩:=DataW.trod_struct underlying52 h
 have f0:TR enc w n 50 ((cs.drop 0).take (Tryz.prog.cellsOf 50))=xs[0]?:=hf 0 _ rfl
 have f1:TR enc w n 3 ((cs.drop 1).take (Tryz.prog.cellsOf 3))=xs[1]?:=hf 1 _ rfl
 have f2:TR enc w n 3 ((cs.drop 2).take (Tryz.prog.cellsOf 3))=xs[2]?:=hf 2 _ rfl
 have f3:TR enc w n 38 ((cs.drop 3).take (Tryz.prog.cellsOf 38))=xs[3]?:=hf 3 _ rfl
 rw[c37] at f0
 rw[c3] at f1
 rw[c3] at f2
 rw[c39] at f3
 have hx:xs.length=4:=hx
 rw[List.getElem?_eq_getElem zo] at f0 f1 f2 f3
 obtain⟨s,h0,_⟩:=gI underlying50 f0
 obtain⟨c,h1,_⟩:=gI underlying3 f1
 obtain⟨p,h2,_⟩:=gI underlying3 f2
 obtain⟨lo,hi,h3,h4⟩:=wu f3
 refine⟨⟨s,c,p,lo,hi⟩,fun j hj=>?_,trivial⟩
 rcases(by omega:j=0∨j=1∨j=2∨j=3∨j=4) with rfl|rfl|rfl|rfl|rfl <;> assumption
theorem de{cs:List Value}{y:DataW H × List MemPlace}(h:TR enc w fuel 99 cs=some y):∃g:Ct,(∀j,j<4→cs[j]? =some (g.cell j))∧True:=by
 obtain⟨xs,n,rfl,rfl,hl,hx,hf⟩:=DataW.trod_struct underlying99 h
 have f0:TR enc w n 3 ((cs.drop 0).take (Tryz.prog.cellsOf 3))=xs[0]?:=hf 0 _ rfl
 have f1:TR enc w n 3 ((cs.drop 1).take (Tryz.prog.cellsOf 3))=xs[1]?:=hf 1 _ rfl
 have f2:TR enc w n 38 ((cs.drop 2).take (Tryz.prog.cellsOf 38))=xs[2]?:=hf 2 _ rfl
 rw[c3] at f0
 rw[c3] at f1
 rw[c39] at f2
 have hx:xs.length=3:=hx
 rw[List.getElem?_eq_getElem zo] at f0 f1 f2
 obtain⟨s,h0,_⟩:=gI underlying3 f0
 obtain⟨c,h1,_⟩:=gI underlying3 f1
 obtain⟨lo,hi,h3,h4⟩:=wu f2
 refine⟨⟨s,c,lo,hi⟩,fun j hj=>?_,trivial⟩
 rcases(by omega:j=0∨j=1∨j=2∨j=3) with rfl|rfl|rfl|rfl <;> assumption
theorem Bn{α:Type}[Inhabited α]{t e:TypeId}{size:Nat}(ht:Tryz.prog.underlying t=some (.slice e))(hc:Tryz.prog.cellsOf e=size)(hpos:0<size)(cell:α→Nat→Value)(Q:α→Prop)
 (hel:∀ (n:Nat) (cs:List Value) (y:DataW H × List MemPlace),TR enc w n e cs=some y→∃a,(∀j,j<size→cs[j]? =some (cell a j))∧Q a){cs:List Value}{x:DataW H × List MemPlace}(h:TR enc w fuel t cs=some x):
 ∃ (A:Option Addr) (len cap:Nat) (f:Nat→α),cs=[.slice A len cap]∧len≤cap∧cap≤maxLen∧Rows w w.heap.size size A len (fun i=>cell (f i))∧∀i,i<len→Q (f i):=by
 rcases DataW.trod_slice ht h with⟨rfl,_⟩|⟨a,len,cap,elems,rest,n,_,rfl,rfl,hb,hl,hm,hlen,yz,_,_⟩
 ·exact⟨none,0,0,fun _=>default,rfl,Nat.le_refl _,Nat.zero_le _,fun h=>absurd h zo,fun i hi=>absurd hi zo⟩
 have each:∀i,∃b:α,i<len→(a.block<w.heap.size∧∀j,j<size→w.cell? (a.add (i * size+j))=some (cell b j))∧Q b:=fun i=>by
  by_cases hi:i<len
  ·have h1:=yz i hi
   rw[List.getElem?_eq_getElem zo,Option.bind_eq_some_iff,hc] at h1
   obtain⟨cs',h2,h3⟩:=h1
   obtain⟨b,h4,h5⟩:=hel n cs' _ h3
   have hblk:=World.cells?_block h2 hpos
   obtain⟨_,_,h6⟩:=World.cells?_some h2
   refine⟨b,fun _=>⟨⟨by rwa[aH] at hblk,fun j hj=>?_⟩,h5⟩⟩
   rw[← p8,h6 j hj,h4 j hj]
  ·exact⟨default,fun h=>absurd h hi⟩
 obtain⟨f,hf⟩:=Classical.axiomOfChoice each
 exact⟨some a,len,cap,f,rfl,hl,hm,fun hn=>⟨a,rfl,(hf 0 hn).1.1,fun i j hi hj=>(hf i hi).1.2 j hj⟩,fun i hi=>(hf i hi).2⟩
instance:Inhabited Good:=⟨⟨.empty,0,0,0,0⟩⟩
instance:Inhabited Mv:=⟨⟨0,0,0,0,0⟩⟩
instance:Inhabited Ct:=⟨⟨0,0,0,0⟩⟩
theorem Ex{n:Int}(h:(Lit.int .i64 n).wf=true):-9223372036854775808≤n∧n≤9223372036854775807:=by
 simp[Lit.wf,IntKind.min,IntKind.max,IntKind.signed,IntKind.bits] at h
 omega
theorem wm{α:Type}[Inhabited α]{t e:TypeId}{size:Nat}(ht:Tryz.prog.underlying t=some (.slice e))(hc:Tryz.prog.cellsOf e=size)(hpos:0<size)(cell:α→Nat→Value)(Q:α→Prop)
 (hel:∀ (n:Nat) (cs:List Value) (y:DataW H × List MemPlace),TR enc w n e cs=some y→∃a,(∀j,j<size→cs[j]? =some (cell a j))∧Q a){cs:List Value}{o:Nat}{x:DataW H × List MemPlace}(h:TR enc w fuel t ((cs.drop o).take 1)=some x):
 ∃ (A:Option Addr) (len cap:Nat) (f:Nat→α),cs[o]? =some (.slice A len cap)∧len≤cap∧cap≤maxLen∧Rows w w.heap.size size A len (fun i=>cell (f i))∧∀i,i<len→Q (f i):=by
 obtain⟨A,len,cap,f,e1,h1⟩:=Bn ht hc hpos cell Q hel h
 exact⟨A,len,cap,f,WideShapes.cell_of_cut e1,h1⟩
theorem NT{v:Value}{d:DataW H}{ps:List MemPlace}{base:Nat}(hv:Value.okWide prog w .any base 26 v)(h:DataW.Trod enc prog w 0 (fun _=>true) true 26 v d ps):
 ∃b:Bk,v=b.val∧b.At w w.heap.size∧b.ng≤b.gc∧-9223372036854775808≤b.days∧b.days≤9223372036854775807:=by
 obtain⟨cs,rfl,hsz⟩:=WideShapes.okWide_struct underlying26 hv
 rw[c26] at hsz
 obtain⟨fuel,h⟩:=h
 obtain⟨xs,n,rfl,hx2,hl,hx,hf⟩:=DataW.trod_struct underlying26 h
 have f0:TR enc w n 3 ((cs.toList.drop 0).take (Tryz.prog.cellsOf 3))=xs[0]?:=hf 0 _ rfl
 have f1:TR enc w n 3 ((cs.toList.drop 1).take (Tryz.prog.cellsOf 3))=xs[1]?:=hf 1 _ rfl
 have f2:TR enc w n 22 ((cs.toList.drop 2).take (Tryz.prog.cellsOf 22))=xs[2]?:=hf 2 _ rfl
 have f3:TR enc w n 23 ((cs.toList.drop 3).take (Tryz.prog.cellsOf 23))=xs[3]?:=hf 3 _ rfl
 have f4:TR enc w n 24 ((cs.toList.drop 4).take (Tryz.prog.cellsOf 24))=xs[4]?:=hf 4 _ rfl
 rw[c3] at f0
 rw[c3] at f1
 rw[c22] at f2
 rw[c23] at f3
 rw[c24] at f4
 have hx:xs.length=5:=hx
 rw[List.getElem?_eq_getElem zo] at f0 f1 f2 f3 f4
 obtain⟨days,h0,hd⟩:=gI underlying3 f0
 obtain⟨most,h1,_⟩:=gI underlying3 f1
 obtain⟨gA,ng,gc,g,h2,hgc,hgm,hg,hgn⟩:=wm underlying22 c68 zD Good.cell (fun g=>g.name.size≤maxLen) (fun _ _ _ h=>SY h) f2
 obtain⟨mA,nm,mc,m,h3,hmc,hmm,hm,_⟩:=wm underlying23 c41 zD Mv.cell (fun _=>True) (fun _ _ _ h=>df h) f3
 obtain⟨cA,nc,cc,c,h4,hcc,hcm,hc,_⟩:=wm underlying24 c88 zD Ct.cell (fun _=>True) (fun _ _ _ h=>de h) f4
 refine⟨⟨days,most,gA,ng,gc,g,mA,nm,mc,m,cA,nc,cc,c⟩,?_,⟨hg,hm,hc,by show ng≤maxLen;omega,by show nm≤maxLen;omega,by show nc≤maxLen;omega,hgn⟩,hgc,Ex hd⟩
 obtain⟨L⟩:=cs
 simp only[List.size_toArray] at hsz
 match L,hsz with
 | [a0,a1,a2,a3,a4],_=>
   simp only[List.getElem?_cons_zero,List.getElem?_cons_succ,Option.some.injEq] at h0 h1 h2 h3 h4
   subst h0;subst h1;subst h2;subst h3;subst h4
   rfl
end
end
section
open Go Go.WideShapes Go.RowKit
def ZI(w:World)(B:Nat)(A:Option Addr)(n:Nat)(xs:Nat→Int):Prop:=Rows w B 1 A n (fun i _=>.int .u8 (xs i))∧∀i,i<n→0≤xs i∧xs i≤255
theorem ZI.at_{w:World}{B n:Nat}{ad:Addr}{xs:Nat→Int}(h:ZI w B (some ad) n xs){k:Nat}(hk:k<n):w.cell? (ad.add k)=some (.int .u8 (xs k)):=by
 have:=(Rows.row h.1 hk).2 0 zD
 rwa[Nat.mul_one,add_zero'] at this
theorem QV:Tryz.prog.cellsOf 5=1:=zk
section
variable{H:Type}{enc:TypeId × Value→H}{w:World}{fuel:Nat}
theorem dg{cs:List Value}{y:DataW H × List MemPlace}(h:TR enc w fuel 5 cs=some y):∃n:Int,(∀j,j<1→cs[j]? =some (.int .u8 n))∧(0≤n∧n≤255):=by
 obtain⟨n,rfl,_,hw⟩:=DataW.trod_int underlying5 h
 refine⟨n,fun j hj=>?_,?_⟩
 ·obtain rfl:j=0:=zo
  rfl
 ·simp[Lit.wf,IntKind.min,IntKind.max,IntKind.signed,IntKind.bits] at hw
  omega
theorem JQ{v:Value}{d:DataW H}{ps:List MemPlace}(hv:∃A n c,v=.slice A n c)(h:DataW.Trod enc prog w 0 (fun _=>true) true 27 v d ps):
 ∃ (A:Option Addr) (np pc:Nat) (f:Nat→Int),v=.slice A np pc∧np≤maxLen∧ZI w w.heap.size A np f:=by
 obtain⟨A,n,c,rfl⟩:=hv
 obtain⟨fuel,h⟩:=h
 obtain⟨A,np,pc,f,e,h1,h2,h3,h4⟩:=Bn underlying27 QV zD (fun n _=>.int .u8 n) (fun n=>0≤n∧n≤255) (fun _ _ _ h=>dg h) h
 exact⟨A,np,pc,f,by simpa [Value.cells] using e,zo,h3,h4⟩
end
end
section
open Go.RowKit
theorem bZ(n lo hi:Int)(w:World):CallsIn FF 0 prog 35 #[int i64 n,int i64 lo,int i64 hi] w fun e w'=>e=.returned (.bool (fO n lo hi))∧w=w':=by
 gi_enter func35,ntmps35
 gi_wp2
 all_goals (go_ret;refine⟨?_,rfl⟩;congr 2;unfold fO;first|rfl|(simp;omega)|simp_all)
theorem Ue(n lo hi:Int)(w:World):CallsIn FF 0 prog 35 #[int i64 n,int i64 lo,int i64 hi] w fun e w'=>e=.returned (.bool (fO n lo hi))∧∃m,w'=w.drewN m:=
 (bZ n lo hi w).mono fun _ _ h=>⟨h.1,0,h.2 ▸ rfl⟩
def tQ(a b lo hi:Int):Bool:=fO a lo b && decide (b≤hi)
theorem wG(a b lo hi:Int)(w:World):CallsIn FF 0 prog 62 #[.agg #[int i64 a,int i64 b],int i64 lo,int i64 hi] w fun e w'=>e=.returned (.bool (tQ a b lo hi))∧Below w.heap.size w w':=by
 gi_enter func62,ntmps62
 gi_wp2_with (gi_at_call 35;refine(bZ _ _ _ _).mono ?_;rintro e w' ⟨rfl,rfl⟩)
 all_goals (go_ret;refine⟨?_,bw⟩;congr 2;unfold tQ;first|rfl|(simp;omega)|simp_all)
theorem cz(a b:Int)(w:World)(h:-1000≤a∧a≤1000∧-1000≤b∧b≤1000):CallsIn FF 0 prog 186 #[.agg #[int i64 a,int i64 b]] w fun e w'=>e=.returned (int i64 (b - a+1))∧Below w.heap.size w w':=by
 have e1:IntKind.i64.wrap (b - a)=b - a:=IntWalk.i64_in _ zo
 have e2:IntKind.i64.wrap (b - a+1)=b - a+1:=IntWalk.i64_in _ zo
 gi_enter func186,ntmps186
 gi_wp2
 all_goals (go_ret;refine⟨?_,bw⟩;first|rfl|(congr 2;simp_all))
theorem jH{a b:Int}(h:vX a b=true):0≤a∧a≤b∧b≤99∧b - a<3:=by
 unfold vX at h
 simp only[Bool.and_eq_true,decide_eq_true_eq] at h
 have:=nU.1 h.1
 omega
theorem sN(a b:Int)(w:World)(h:vX a b=true):CallsIn FF 0 prog 179 #[.agg #[int i64 a,int i64 b]] w fun e w'=>e=.returned (.bool true)∧Below w.heap.size w w':=by
 obtain⟨f1,f2,f3,f4⟩:=jH h
 have H1:∀w,CallsIn FF 0 prog 62 #[.agg #[int i64 a,int i64 b],int i64 0,int i64 99] w fun e w'=>e=.returned (.bool true)∧Below w.heap.size w w':=fun w=>by
  have e:tQ a b 0 99=true:=by unfold tQ fO;simp;omega
  have:=wG a b 0 99 w
  rwa[e] at this
 gi_enter func179,ntmps179
 gi_wp2_with (first|(gi_at_call 62;refine(H1 _).mono ?_;rintro e w1 ⟨rfl,hb1⟩;obtain⟨hc1,hf1⟩:=fC hb1)|(gi_at_call 186;refine(cz _ _ _ zo).mono ?_;rintro e w2 ⟨rfl,hb2⟩))
 go_ret
 exact⟨congrArg Ending.returned (congrArg Value.bool (decide_eq_true (show b - a+1≤3 by omega))),(((Below.refl _ _).alloc (Nat.le_refl _) _).trans (hb1.mono zs)).trans (hb2.mono (by have:=hb1.size;simp at this;omega))⟩
section
theorem sJ(b:Bk)(i:Int)(w:World)(h:b.ng≤maxLen):CallsIn FF 0 prog 73 #[b.val,int i64 i] w fun e w'=>e=.returned (.bool (fO i 0 ((b.ng:Int) - 1)))∧Below w.heap.size w w':=by
 obtain⟨days,most,gA,ng,gc,g,mA,nm,mc,m,cA,nc,cc,c⟩:=b
 simp only[Bk.val,Bk.cells]
 simp only at h
 unfold maxLen at h
 have e1:IntKind.i64.wrap ((ng:Int) - 1)=(ng:Int) - 1:=IntWalk.i64_in _ zo
 gi_enter func73,ntmps73
 gi_wp2_with (gi_at_call 35;refine(bZ _ _ _ _).mono ?_;rintro e w' ⟨rfl,rfl⟩)
 all_goals (go_ret;refine⟨?_,bw⟩;first|rfl|(rw[← e1];rfl)|(congr 2;simp_all))
theorem Au(b:Bk)(i:Int)(w:World)(h:b.nm≤maxLen):CallsIn FF 0 prog 90 #[b.val,int i64 i] w fun e w'=>e=.returned (.bool (fO i 0 ((b.nm:Int) - 1)))∧Below w.heap.size w w':=by
 obtain⟨days,most,gA,ng,gc,g,mA,nm,mc,m,cA,nc,cc,c⟩:=b
 simp only[Bk.val,Bk.cells]
 simp only at h
 unfold maxLen at h
 have e1:IntKind.i64.wrap ((nm:Int) - 1)=(nm:Int) - 1:=IntWalk.i64_in _ zo
 gi_enter func90,ntmps90
 gi_wp2_with (gi_at_call 35;refine(bZ _ _ _ _).mono ?_;rintro e w' ⟨rfl,rfl⟩)
 all_goals (go_ret;refine⟨?_,bw⟩;first|rfl|(rw[← e1];rfl)|(congr 2;simp_all))
theorem qZ(b:Bk)(i:Int)(w:World):CallsIn FF 0 prog 38 #[b.val,int i64 i] w fun e w'=>e=.returned (.bool (fO i 0 b.days))∧Below w.heap.size w w':=by
 obtain⟨days,most,gA,ng,gc,g,mA,nm,mc,m,cA,nc,cc,c⟩:=b
 simp only[Bk.val,Bk.cells]
 gi_enter func38,ntmps38
 gi_wp2_with (gi_at_call 35;refine(bZ _ _ _ _).mono ?_;rintro e w' ⟨rfl,rfl⟩)
 all_goals (go_ret;refine⟨?_,bw⟩;first|rfl|(congr 2;simp_all))
theorem FZ(b:Bk)(w:World)(h:b.nm≤6):CallsIn FF 0 prog 155 #[b.val] w fun e w'=>e=.returned (.tuple #[int i64 b.nm,.bool true])∧Below w.heap.size w w':=by
 obtain⟨days,most,gA,ng,gc,g,mA,nm,mc,m,cA,nc,cc,c⟩:=b
 simp only[Bk.val,Bk.cells]
 simp only at h
 have e1:decide ((nm:Int)≤6)=true:=decide_eq_true zo
 gi_enter func155,ntmps155
 gi_wp2
 gi_quiet (fail)
 gi_wp2
 all_goals (go_ret2;refine⟨?_,bw⟩;first|rfl|(simp only[e1];rfl)|trace_state)
theorem Du(b:Bk)(w:World)(h:b.nc≤4):CallsIn FF 0 prog 157 #[b.val] w fun e w'=>e=.returned (.tuple #[int i64 b.nc,.bool true])∧Below w.heap.size w w':=by
 obtain⟨days,most,gA,ng,gc,g,mA,nm,mc,m,cA,nc,cc,c⟩:=b
 simp only[Bk.val,Bk.cells]
 simp only at h
 have e1:decide ((nc:Int)≤4)=true:=decide_eq_true zo
 gi_enter func157,ntmps157
 gi_wp2
 gi_quiet (fail)
 gi_wp2
 all_goals (go_ret2;refine⟨?_,bw⟩;first|rfl|(simp only[e1];rfl)|trace_state)
theorem FY(b:Bk)(w:World)(h:1≤b.ng∧b.ng≤3):CallsIn FF 0 prog 153 #[b.val] w fun e w'=>e=.returned (.tuple #[int i64 b.ng,.bool true])∧Below w.heap.size w w':=by
 obtain⟨days,most,gA,ng,gc,g,mA,nm,mc,m,cA,nc,cc,c⟩:=b
 simp only[Bk.val,Bk.cells]
 simp only at h
 have e1:fO (ng:Int) 1 3=true:=by unfold fO;simp;omega
 gi_enter func153,ntmps153
 gi_wp2
 gi_quiet ((gi_at_call 35;exact CallsIn.quiet_of (Ue _ _ _ _)))
 gi_wp2
 all_goals (go_ret2;refine⟨?_,bw⟩;first|rfl|(simp only[e1];rfl)|trace_state)
end
theorem Sj{s:ByteArray}(h:jK s=true):1≤s.size∧s.size≤10∧∀i,i<s.size→nameAt s i=true:=by
 unfold jK at h
 simp only[Bool.and_eq_true,decide_eq_true_eq] at h
 exact⟨h.1.1,h.1.2,h.2⟩
theorem cJ(s:ByteArray)(w:World)(hs:jK s=true):
 CallsIn FF 0 prog 176 #[.string s] w fun e w'=>e=.returned (.bool true)∧w'=w:=by
 obtain⟨h1,h10,hN⟩:=Sj hs
 have H:∀w,CallsIn FF 0 prog 35 #[int i64 s.size,int i64 1,int i64 10] w fun e w'=>e=.returned (.bool true)∧w=w':=fun w=>by
  have:=bZ s.size 1 10 w
  rwa[show fO (s.size:Int) 1 10=true by unfold fO;simp;omega] at this
 gi_enter func176,ntmps176
 gi_wp2_with (gi_at_call 35;refine(H _).mono ?_;rintro e w' ⟨rfl,rfl⟩)
 gi_loop [13] (fun i=>∃k:Nat,k≤s.size∧i=int i64 k) (fun i=>s.size - (intOf i).toNat)
 case atStart=>exact⟨0,Nat.zero_le _,rfl⟩
 case round=>
  obtain⟨k,hk,rfl⟩:=hrel
  by_cases hlt:k<s.size
  ·have hn:=hN k hlt
   rw[lF hlt] at hn
   unfold Dr I9 at hn
   simp at hn
   gi_wp2_with (first|(exact absurd ‹some undef=some (Value.bool _)› (by simp[undef])))
   all_goals first
    | (go_round
       case rel=>exact⟨k+1,zo,by go_num⟩
       case measure=>simp[intOf];omega)
    | (exfalso;simp_all;omega)
    | trace_state
  ·gi_wp2
   go_ret
   exact⟨rfl,rfl⟩
theorem QJ(b:ByteArray):∀ (n i:Nat) (r:List UInt8),b.size - i=n→ByteArray.toList.loop b i r=r.reverse ++ b.data.toList.drop i:=by
 have hsz:b.data.toList.length=b.size:=rfl
 intro n
 induction n with
 | zero=>
   intro i r h
   rw[ByteArray.toList.loop.eq_def,if_neg zo]
   rw[List.drop_eq_nil_of_le zo]
   rw[List.append_nil]
 | succ n ih=>
   intro i r h
   have hi:i<b.size:=zo
   rw[ByteArray.toList.loop.eq_def,if_pos hi,ih (i+1) _ zo]
   have hi':i<b.data.toList.length:=zo
   have hi2:i<b.data.size:=hi
   rw[List.drop_eq_getElem_cons hi']
   have:b.get! i=b.data.toList[i]:=by
    cases b with
    | mk d=>exact(getElem!_pos d i hi2).trans (Array.getElem_toList hi2).symm
   rw[this,List.reverse_cons,List.append_assoc]
   rfl
theorem vP(b:ByteArray):b.toList=b.data.toList:=by
 unfold ByteArray.toList
 rw[QJ b _ 0 [] rfl]
 rfl
theorem QN{a b:ByteArray}(h:a≠b):(a.toList == b.toList)=false:=by
 rw[Bool.eq_false_iff]
 intro e
 apply h
 have e':=eq_of_beq e
 rw[vP,vP] at e'
 cases a;cases b
 exact congrArg _ (Array.toList_inj.1 e')
abbrev Ar(q:Good):Value:=.agg #[.string q.name,int i64 q.cost,int i64 q.pack,int i64 q.lo,int i64 q.hi]
theorem Ws(q:Good)(nm:ByteArray)(B:Nat)(w:World)(hB:B<w.heap.size)(hc:w.cell? ⟨B,0,none⟩=some (.string nm))(hne:q.name≠nm):CallsIn FF 0 prog 178 #[Ar q,.pointer (some ⟨B,0,none⟩)] w fun e w'=>e=.returned (.bool false)∧Below w.heap.size w w':=by
 have hc1:(w.alloc (.cells #[.string q.name,int i64 q.cost,int i64 q.pack,int i64 q.lo,int i64 q.hi] 40)).cell? ⟨B,0,none⟩=some (.string nm):=(World.cell?_alloc_lt w _ _ zm).trans hc
 have hne:=QN hne
 gi_enter func178,ntmps178
 gi_wp2
 go_ret
 exact⟨rfl,bw⟩
theorem VN(g:Nat→Good)(A:Option Addr)(n cap:Nat)(nm:ByteArray)(B:Nat)(w:World)(hr:Rows w w.heap.size 5 A n (fun i=>(g i).cell))(hn:n≤maxLen)(hB:B<w.heap.size)(hc:w.cell? ⟨B,0,none⟩=some (.string nm))(hne:∀i,i<n→(g i).name≠nm):
 CallsIn FF 0 prog 185 #[.slice A n cap,.func (.func 178) #[] #[.pointer (some ⟨B,0,none⟩)]] w fun e w'=>e=.returned (int i64 (-1))∧Below w.heap.size w w':=by
 unfold maxLen at hn
 have Hr:=hid hr
 have Hn:=hid hne
 clear hr hne
 gi_enter func185,ntmps185
 gi_wp2
 gi_loopw [8] (fun i wr=>∃k:Nat,k≤n∧i=int i64 k∧Below w.heap.size w wr) (fun i _=>n - (intOf i).toNat)
 case atStart=>exact⟨0,Nat.zero_le _,rfl,Below.refl _ _⟩
 case round=>
  obtain⟨k,hk,rfl,hb⟩:=hrel
  by_cases hlt:k<n
  ·obtain⟨ad,rfl,-⟩:=Hr.out (show 0<n by omega)
   have hr:=(Hr.out.below hb).row hlt
   have c0:wr.cell? (ad.add (k * 5))=some (.string (g k).name):=hr.2 0 zD
   have c1:wr.cell? ⟨(ad.add (k * 5)).block,(ad.add (k * 5)).off+1,none⟩=some (int i64 (g k).cost):=hr.2 1 zD
   have c2:wr.cell? ⟨(ad.add (k * 5)).block,(ad.add (k * 5)).off+2,none⟩=some (int i64 (g k).pack):=hr.2 2 zD
   have c3:wr.cell? ⟨(ad.add (k * 5)).block,(ad.add (k * 5)).off+3,none⟩=some (int i64 (g k).lo):=hr.2 3 zD
   have c4:wr.cell? ⟨(ad.add (k * 5)).block,(ad.add (k * 5)).off+4,none⟩=some (int i64 (g k).hi):=hr.2 4 zD
   clear hr
   have hs:=hb.size
   have hO:CallsIn FF 0 prog 178 #[Ar (g k),.pointer (some ⟨B,0,none⟩)] wr fun e w'=>e=.returned (.bool false)∧Below wr.heap.size wr w':=Ws (g k) nm B wr zo ((hb.cell (p:=⟨B,0,none⟩) hB).trans hc) (Hn.out k hlt)
   gi_wp2_with (gi_at_call 178;refine hO.mono ?_;rintro e w' ⟨rfl,hb2⟩)
   go_roundw
   case rel=>exact⟨k+1,zo,by go_num,hb.trans (hb2.mono hs)⟩
   case measure=>simp[intOf];omega
  ·gi_wp2
   go_ret
   exact⟨rfl,hb⟩
theorem I7(g:Nat→Good)(A:Option Addr)(n cap:Nat)(nm:ByteArray)(B:Nat)(w:World)(hr:Rows w w.heap.size 5 A n (fun i=>(g i).cell))(hn:n≤maxLen)(hB:B<w.heap.size)(hc:w.cell? ⟨B,0,none⟩=some (.string nm))(hne:∀i,i<n→(g i).name≠nm):
 CallsIn FF 0 prog 177 #[.slice A n cap,.func (.func 178) #[] #[.pointer (some ⟨B,0,none⟩)]] w fun e w'=>e=.returned (.bool false)∧Below w.heap.size w w':=by
 have H:=VN g A n cap nm B w hr hn hB hc hne
 gi_enter func177,ntmps177
 gi_wp2_with (gi_at_call 185;refine H.mono ?_;rintro e w' ⟨rfl,hb⟩)
 go_ret
 exact⟨rfl,hb⟩
theorem Rows.less{w:World}{B size n k:Nat}{A:Option Addr}{f:Nat→Nat→Value}(h:Rows w B size A n f)(hk:k≤n):Rows w B size A k f:=fun h0=>by
 obtain⟨a,e,hb,hc⟩:=h zo
 exact⟨a,e,hb,fun i j hi hj=>hc i j zo hj⟩
theorem EL(b:Bk)(k:Nat)(w:World)(h:b.At w w.heap.size)(hk:k<b.ng)(hcap:b.ng≤b.gc)(ok:Good.ok b k):CallsIn FF 0 prog 154 #[b.val,int i64 k] w fun e w'=>e=.returned (int i64 0)∧Below w.heap.size w w':=by
 obtain⟨days,most,gA,ng,gc,g,mA,nm,mc,m,cA,nc,cc,c⟩:=b
 simp only at hk hcap
 obtain⟨o1,o2,o3,o4,o5⟩:=ok
 simp only at o1 o2 o3 o4 o5
 have Ay:=h.ng
 simp only at Ay
 unfold maxLen at Ay
 obtain⟨ad,hA,hbl,-⟩:=h.g (show 0<ng by omega)
 simp only at hA
 subst hA
 simp only[Bk.val,Bk.cells]
 have Hg:=hid (h.g.alloc (Nat.le_refl _) (.cells #[int i64 days,int i64 most,.slice (some ad) ng gc,.slice mA nm mc,.slice cA nc cc] 74))
 have hr:=(h.g.alloc (Nat.le_refl _) (.cells #[int i64 days,int i64 most,.slice (some ad) ng gc,.slice mA nm mc,.slice cA nc cc] 74)).row hk
 have c0:(w.alloc (.cells #[int i64 days,int i64 most,.slice (some ad) ng gc,.slice mA nm mc,.slice cA nc cc] 74)).cell? (ad.add (k * 5))=some (.string (g k).name):=hr.2 0 zD
 have c1:(w.alloc (.cells #[int i64 days,int i64 most,.slice (some ad) ng gc,.slice mA nm mc,.slice cA nc cc] 74)).cell? ⟨(ad.add (k * 5)).block,(ad.add (k * 5)).off+1,none⟩=some (int i64 (g k).cost):=hr.2 1 zD
 have c2:(w.alloc (.cells #[int i64 days,int i64 most,.slice (some ad) ng gc,.slice mA nm mc,.slice cA nc cc] 74)).cell? ⟨(ad.add (k * 5)).block,(ad.add (k * 5)).off+2,none⟩=some (int i64 (g k).pack):=hr.2 2 zD
 have c3:(w.alloc (.cells #[int i64 days,int i64 most,.slice (some ad) ng gc,.slice mA nm mc,.slice cA nc cc] 74)).cell? ⟨(ad.add (k * 5)).block,(ad.add (k * 5)).off+3,none⟩=some (int i64 (g k).lo):=hr.2 3 zD
 have c4:(w.alloc (.cells #[int i64 days,int i64 most,.slice (some ad) ng gc,.slice mA nm mc,.slice cA nc cc] 74)).cell? ⟨(ad.add (k * 5)).block,(ad.add (k * 5)).off+4,none⟩=some (int i64 (g k).hi):=hr.2 4 zD
 clear hr h
 have i1:=hid (bF.2 o3)
 have i2:=hid (bF.2 o4)
 gi_enter func154,ntmps154
 gi_wp2_with (first
  | (gi_at_call 176;refine(cJ _ _ o1).mono ?_;rintro e w' ⟨rfl,rfl⟩)
  | (gi_at_call 177;refine(I7 g (some ad) k gc (g k).name (w.heap.size+1) _ (((Hg.out.alloc zs _).more zm).less zo) zU zs zs o2).mono ?_;rintro e w2 ⟨rfl,hb2⟩;obtain⟨hc2,hf2⟩:=fC hb2;have hs2:=hb2.size)
  | (gi_at_call 35;refine(bZ _ _ _ _).mono ?_;rintro e w' ⟨he,rfl⟩;(first|rw[i1.out] at he|rw[i2.out] at he);subst he)
  | (gi_at_call 179;refine(sN _ _ _ o5).mono ?_;rintro e w3 ⟨rfl,hb3⟩))
 go_ret
 exact⟨rfl,((((Below.refl _ _).alloc (Nat.le_refl _) _).alloc zs _).trans (hb2.mono zm)).trans (hb3.mono (by simp at hs2;omega))⟩
theorem EM(b:Bk)(k:Nat)(w:World)(h:b.At w w.heap.size)(hk:k<b.nm)(ok:Mv.ok b k):CallsIn FF 0 prog 156 #[b.val,int i64 k] w fun e w'=>e=.returned (int i64 0)∧Below w.heap.size w w':=by
 obtain⟨days,most,gA,ng,gc,g,mA,nm,mc,m,cA,nc,cc,c⟩:=b
 simp only at hk
 obtain⟨o1,o2,o3,o4,o5⟩:=ok
 simp only at o1 o2 o3 o4 o5
 have hnm:=h.nm
 simp only at hnm
 unfold maxLen at hnm
 have hG:∀i w,CallsIn FF 0 prog 73 #[.agg #[int i64 days,int i64 most,.slice gA ng gc,.slice mA nm mc,.slice cA nc cc],int i64 i] w fun e w'=>e=.returned (.bool (fO i 0 ((ng:Int) - 1)))∧Below w.heap.size w w':=fun i w=>sJ ⟨days,most,gA,ng,gc,g,mA,nm,mc,m,cA,nc,cc,c⟩ i w h.ng
 obtain⟨ad,hA,hbl,-⟩:=h.m (show 0<nm by omega)
 simp only at hA
 subst hA
 simp only[Bk.val,Bk.cells]
 have Hg:=hid (h.m.alloc (Nat.le_refl _) (.cells #[int i64 days,int i64 most,.slice gA ng gc,.slice (some ad) nm mc,.slice cA nc cc] 74))
 have hr:=Hg.out.row hk
 have c0:(w.alloc (.cells #[int i64 days,int i64 most,.slice gA ng gc,.slice (some ad) nm mc,.slice cA nc cc] 74)).cell? (ad.add (k * 5))=some (int i64 (m k).kind):=hr.2 0 zD
 have c1:(w.alloc (.cells #[int i64 days,int i64 most,.slice gA ng gc,.slice (some ad) nm mc,.slice cA nc cc] 74)).cell? ⟨(ad.add (k * 5)).block,(ad.add (k * 5)).off+1,none⟩=some (int i64 (m k).good):=hr.2 1 zD
 have c2:(w.alloc (.cells #[int i64 days,int i64 most,.slice gA ng gc,.slice (some ad) nm mc,.slice cA nc cc] 74)).cell? ⟨(ad.add (k * 5)).block,(ad.add (k * 5)).off+2,none⟩=some (int i64 (m k).day):=hr.2 2 zD
 have c3:(w.alloc (.cells #[int i64 days,int i64 most,.slice gA ng gc,.slice (some ad) nm mc,.slice cA nc cc] 74)).cell? ⟨(ad.add (k * 5)).block,(ad.add (k * 5)).off+3,none⟩=some (int i64 (m k).lo):=hr.2 3 zD
 have c4:(w.alloc (.cells #[int i64 days,int i64 most,.slice gA ng gc,.slice (some ad) nm mc,.slice cA nc cc] 74)).cell? ⟨(ad.add (k * 5)).block,(ad.add (k * 5)).off+4,none⟩=some (int i64 (m k).hi):=hr.2 4 zD
 clear hr h
 have i1:=hid (bF.2 o1)
 have i2:=hid (bF.2 o2)
 have i3:=hid (bF.2 o3)
 gi_enter func156,ntmps156
 gi_wp2_with (first
  | (gi_at_call 35;refine(bZ _ _ _ _).mono ?_;rintro e w' ⟨he,rfl⟩;(first|rw[i1.out] at he|rw[i3.out] at he);subst he)
  | (gi_at_call 73;refine(hG _ _).mono ?_;rintro e w2 ⟨he,hb2⟩;rw[i2.out] at he;subst he;obtain⟨hc2,hf2⟩:=fC hb2;have hs2:=hb2.size))
 clear c0 c1 c2 c3 c4
 have hbx:∀o,w2.cell? ⟨w.heap.size,o,none⟩=(w.alloc (.cells #[int i64 days,int i64 most,.slice gA ng gc,.slice (some ad) nm mc,.slice cA nc cc] 74)).cell? ⟨w.heap.size,o,none⟩:=fun o=>(hc2 _ o zm).trans (World.cell?_alloc_lt _ _ _ zs)
 have hmx:∀o,w2.cell? ⟨w.heap.size+1,o,none⟩=((w.alloc (.cells #[int i64 days,int i64 most,.slice gA ng gc,.slice (some ad) nm mc,.slice cA nc cc] 74)).alloc (.cells #[int i64 (m k).kind,int i64 (m k).good,int i64 (m k).day,int i64 (m k).lo,int i64 (m k).hi] 52)).cell? ⟨w.heap.size+1,o,none⟩:=fun o=>(hc2 _ o zs)
 have hB:Below w.heap.size w w2:=(((Below.refl _ _).alloc (Nat.le_refl _) _).alloc zs _).trans (hb2.mono zm)
 have hs:w.heap.size+1<w2.heap.size:=by simp at hs2;omega
 by_cases hk0:0<k
 ·have hd:decide (0<(k:Int))=true:=zm
  have hr:=(((Hg.out.more (Nat.le_succ _)).alloc zs (.cells #[int i64 (m k).kind,int i64 (m k).good,int i64 (m k).day,int i64 (m k).lo,int i64 (m k).hi] 52)).below (hb2.mono zs)).row (show k - 1<nm by omega)
  have d2:w2.cell? ⟨(ad.add ((k - 1) * 5)).block,(ad.add ((k - 1) * 5)).off+2,none⟩=some (int i64 (m (k - 1)).day):=hr.2 2 zD
  have hl2:(ad.add ((k - 1) * 5)).block<w2.heap.size:=by rw[aH];have:=hr.1;omega
  clear hr
  clear hc2 hf2 hs2
  have hd2:decide ((m k).day<(m (k - 1)).day)=false:=decide_eq_false (by have:=o4 hk0;omega)
  have e2:0≤(k:Int) - 1:=zo
  have e2':1≤(k:Int):=zo
  have e4:(k:Int) - 1<nm:=zo
  have e3:((k:Int) - 1).toNat=k - 1:=zo
  have e1:IntKind.i64.wrap ((k:Int) - 1)=(k:Int) - 1:=IntWalk.i64_in _ zo
  gi_quiet (fail)
  clear e1 e3
  gi_wp2_with (gi_at_call 179;refine(sN _ _ _ o5).mono ?_;rintro e w3 ⟨rfl,hb3⟩)
  go_ret
  exact⟨rfl,hB.trans ((bw:Below w.heap.size w2 _).trans (hb3.mono zm))⟩
 ·have hd:decide (0<(k:Int))=false:=zm
  clear hc2 hf2 hs2
  gi_quiet (fail)
  gi_wp2_with (gi_at_call 179;refine(sN _ _ _ o5).mono ?_;rintro e w3 ⟨rfl,hb3⟩)
  go_ret
  exact⟨rfl,hB.trans ((bw:Below w.heap.size w2 _).trans (hb3.mono zm))⟩
theorem CV(b:Bk)(k:Nat)(w:World)(h:b.At w w.heap.size)(hk:k<b.nc)(ok:Ct.ok b (b.c k)):CallsIn FF 0 prog 158 #[b.val,int i64 k] w fun e w'=>e=.returned (int i64 0)∧Below w.heap.size w w':=by
 obtain⟨days,most,gA,ng,gc,g,mA,nm,mc,m,cA,nc,cc,c⟩:=b
 simp only at hk
 obtain⟨o1,o2,o3⟩:=ok
 simp only at o1 o2 o3
 have hnc:=h.nc
 simp only at hnc
 unfold maxLen at hnc
 have hG:∀i w,CallsIn FF 0 prog 73 #[.agg #[int i64 days,int i64 most,.slice gA ng gc,.slice mA nm mc,.slice cA nc cc],int i64 i] w fun e w'=>e=.returned (.bool (fO i 0 ((ng:Int) - 1)))∧Below w.heap.size w w':=fun i w=>sJ ⟨days,most,gA,ng,gc,g,mA,nm,mc,m,cA,nc,cc,c⟩ i w h.ng
 have hE:∀i w,CallsIn FF 0 prog 38 #[.agg #[int i64 days,int i64 most,.slice gA ng gc,.slice mA nm mc,.slice cA nc cc],int i64 i] w fun e w'=>e=.returned (.bool (fO i 0 days))∧Below w.heap.size w w':=fun i w=>qZ ⟨days,most,gA,ng,gc,g,mA,nm,mc,m,cA,nc,cc,c⟩ i w
 obtain⟨ad,hA,hbl,-⟩:=h.c (show 0<nc by omega)
 simp only at hA
 subst hA
 simp only[Bk.val,Bk.cells]
 have hr:=(h.c.alloc (Nat.le_refl _) (.cells #[int i64 days,int i64 most,.slice gA ng gc,.slice mA nm mc,.slice (some ad) nc cc] 74)).row hk
 have c0:(w.alloc (.cells #[int i64 days,int i64 most,.slice gA ng gc,.slice mA nm mc,.slice (some ad) nc cc] 74)).cell? (ad.add (k * 4))=some (int i64 (c k).good):=hr.2 0 zD
 have c1:(w.alloc (.cells #[int i64 days,int i64 most,.slice gA ng gc,.slice mA nm mc,.slice (some ad) nc cc] 74)).cell? ⟨(ad.add (k * 4)).block,(ad.add (k * 4)).off+1,none⟩=some (int i64 (c k).day):=hr.2 1 zD
 have c2:(w.alloc (.cells #[int i64 days,int i64 most,.slice gA ng gc,.slice mA nm mc,.slice (some ad) nc cc] 74)).cell? ⟨(ad.add (k * 4)).block,(ad.add (k * 4)).off+2,none⟩=some (int i64 (c k).lo):=hr.2 2 zD
 have c3:(w.alloc (.cells #[int i64 days,int i64 most,.slice gA ng gc,.slice mA nm mc,.slice (some ad) nc cc] 74)).cell? ⟨(ad.add (k * 4)).block,(ad.add (k * 4)).off+3,none⟩=some (int i64 (c k).hi):=hr.2 3 zD
 clear hr h
 have i1:=hid (bF.2 o1)
 have i2:=hid (bF.2 o2)
 have i3:Hid (tQ (c k).lo (c k).hi 0 999=true):=hid (by unfold tQ fO;simp;omega)
 gi_enter func158,ntmps158
 gi_wp2_with (first
  | (gi_at_call 73;refine(hG _ _).mono ?_;rintro e w2 ⟨he,hb2⟩;rw[i1.out] at he;subst he;obtain⟨hc2,hf2⟩:=fC hb2;have hs2:w.heap.size+1<w2.heap.size:=by have:=hb2.size;simp at this;omega)
  | (gi_at_call 38;refine(hE _ _).mono ?_;rintro e w3 ⟨he,hb3⟩;rw[i2.out] at he;subst he;obtain⟨hc3,hf3⟩:=fC hb3;have hs3:=hb3.size)
  | (gi_at_call 62;refine(wG _ _ _ _ _).mono ?_;rintro e w4 ⟨he,hb4⟩;rw[i3.out] at he;subst he))
 go_ret
 exact⟨rfl,(((((Below.refl _ _).alloc (Nat.le_refl _) _).alloc zs _).trans (hb2.mono zm)).trans (hb3.mono zo)).trans (hb4.mono zo)⟩
end
end Go.Proofs.YthaelabgfnnebaaGreat
