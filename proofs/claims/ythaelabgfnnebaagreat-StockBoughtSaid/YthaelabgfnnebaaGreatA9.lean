/- WF0 MK Sq GF YC1 K1 K2 -/
import Derived.Test.YthaelabgfnnebaaGreatA8
import Derived.Shelf.Abstract
set_option maxRecDepth 100000
set_option maxHeartbeats 16000000
set_option linter.unusedVariables false
set_option linter.unusedSectionVars false
open Go.IntKind(i64)
open Go.Lib(hid)
open Go.Proofs.Tryz
open Go.Value(int)
namespace Go.Proofs.YthaelabgfnnebaaGreat
section
open Go.RowKit
open Go.Sort (grow)
def bS(h:Ht)(k:Nat)(n:Int):Ht:=⟨h.f,fun i=>if i=k then n else h.m i,h.lies⟩
def fJ(b:Bk):Nat→Nat→Ht→(Nat→Int)→List Ht
 | 0,k,h,s=>if iD b s (jh b k) (jg b k)=true then[h] else[]
 | Nat.succ n,k,h,s=>if iD b s (jh b k) (jg b k)=true then(bf (b.m k).lo ((b.m k).hi - (b.m k).lo+1).toNat).flatMap fun x=>fJ b n (k+1) (bS h k x) (yA b s (bS h k x) k) else[]
def gW(b:Bk)(lies:Nat):List Ht:=(bL b b.ng).flatMap fun s=>fJ b b.nm 0 ⟨s,fun _=>0,lies⟩ s
def aD(b:Bk)(ls:List Nat):List Ht:=(ls.filter fun s=>decide (pop s≤b.most)).flatMap fun s=>gW b s
structure FM(b:Bk)(C:Nat→Prop)(N0 Bb By Bf l:Nat)(W:World):Prop where
 wb:Whole W Bb 74 b.cells
 wy:Whole W By 107 #[.func (.yield l) #[] #[]]
 wf:Whole W Bf 142 #[.func (.func 102) #[] #[.pointer (some ⟨Bb,0,none⟩),.pointer (some ⟨By,0,none⟩),.pointer (some ⟨Bf,0,none⟩)]]
 at_:b.At W N0
 n0:N0≤W.heap.size
 cb:¬ C Bb
 cy:¬ C By
 cf:¬ C Bf
 cn:∀x,x<N0→¬ C x
theorem Whole.keeps{C:Nat→Prop}{w w':World}{b:Nat}{t:TypeId}{cs:Array Value}(h:Whole w b t cs)(hk:Keeps C w w')(hc:¬ C b):Whole w' b t cs:=h.of (hk.block b h.lt hc)
theorem Rows.keeps{C:Nat→Prop}{w w':World}{B size n:Nat}{A:Option Addr}{f:Nat→Nat→Value}(h:Rows w B size A n f)(hk:Keeps C w w')(hB:B≤w.heap.size)(hc:∀x,x<B→¬ C x):Rows w' B size A n f:=
 h.keep fun p hp=>hk.cell zo (hc _ hp)
theorem Bk.At.keeps{b:Bk}{C:Nat→Prop}{w w':World}{B:Nat}(h:b.At w B)(hk:Keeps C w w')(hB:B≤w.heap.size)(hc:∀x,x<B→¬ C x):b.At w' B:=
 ⟨h.g.keeps hk hB hc,h.m.keeps hk hB hc,h.c.keeps hk hB hc,h.ng,h.nm,h.nc,h.name⟩
theorem FM.keeps{b:Bk}{C:Nat→Prop}{N0 Bb By Bf l:Nat}{W W':World}(h:FM b C N0 Bb By Bf l W)(hk:Keeps C W W'):FM b C N0 Bb By Bf l W':=
 ⟨h.wb.keeps hk h.cb,h.wy.keeps hk h.cy,h.wf.keeps hk h.cf,h.at_.keeps hk h.n0 h.cn,Nat.le_trans h.n0 hk.size,h.cb,h.cy,h.cf,h.cn⟩
theorem MP{f m:Nat→Int}{l k:Nat}(hk:k<6)(n:Int):((⟨f,m,l⟩:Ht).cells).setIfInBounds (3+k) (int i64 n)=(⟨f,fun i=>if i=k then n else m i,l⟩:Ht).cells:=by
 rcases(show k=0∨k=1∨k=2∨k=3∨k=4∨k=5 by omega) with rfl|rfl|rfl|rfl|rfl|rfl <;> rfl
theorem QU{f m:Nat→Int}{l k:Nat}(hk:k<6):((⟨f,m,l⟩:Ht).cells)[3+k]? =some (int i64 (m k)):=by
 rcases(show k=0∨k=1∨k=2∨k=3∨k=4∨k=5 by omega) with rfl|rfl|rfl|rfl|rfl|rfl <;> rfl
theorem Keeps.then{C C1:Nat→Prop}{A B D:World}(h:Keeps C A B)(k:Keeps C1 B D)(hc:∀b,b<A.heap.size→C1 b→C b):Keeps C A D:=
 ⟨k.os.trans h.os,k.tape.trans h.tape,k.output.trans h.output,Nat.le_trans h.size k.size,fun b hb hn=>(k.block b (Nat.lt_of_lt_of_le hb h.size) (fun h1=>hn (hc b hb h1))).trans (h.block b hb hn)⟩
theorem sH(b:Bk)(h:jX b):∀k,k≤b.ng→∀s∈bL b k,∀q,q<3→0≤s q∧s q≤99
 | 0,_,s,hs,q,_=>by
   obtain rfl:s=fun _=>0:=by simpa [bL] using hs
   simp
 | Nat.succ k,hk,s,hs,q,hq=>by
   have hf:=jH (h.2 k zo).few
   simp only[bL] at hs
   obtain⟨s0,hs0,hs1⟩:=List.mem_flatMap.1 hs
   obtain⟨n,hn,rfl⟩:=List.mem_map.1 hs1
   have ih:=sH b h k zo s0 hs0 q hq
   unfold bf at hn
   obtain⟨i,hi,rfl⟩:=List.mem_map.1 hn
   have hi':=List.mem_range.1 hi
   unfold ext
   split <;> omega
end
section
open Go.RowKit
def Marks(lo:Nat):Nat→List Deferred→World→Prop
 | _,[],_=>True
 | hi,d :: ds,W=>∃r,d={target:=.collected r,args:=#[] }∧lo≤r∧r<hi∧W.heap[r]? =some (.deferred (some []))∧Marks lo r ds W
theorem Marks.of{lo:Nat}{W B:World}:∀ {ds:List Deferred} {hi:Nat},Marks lo hi ds W→(∀r,lo≤r→r<hi→B.heap[r]? =W.heap[r]?)→Marks lo hi ds B
 | [],_,_,_=>trivial
 | _ :: _,_,h,hb=>by
   obtain⟨r,e,h1,h2,h3,h4⟩:=h
   exact⟨r,e,h1,h2,(hb r h1 h2).trans h3,h4.of fun x hx hx2=>hb x hx zo⟩
theorem Marks.more{lo:Nat}{W:World}{ds:List Deferred}{hi hi':Nat}(h:Marks lo hi ds W)(hh:hi≤hi'):Marks lo hi' ds W:=by
 cases ds with
 | nil=>trivial
 | cons d ds=>
   obtain⟨r,e,h1,h2,h3,h4⟩:=h
   exact⟨r,e,h1,zo,h3,h4⟩
theorem Marks.keeps{lo hi:Nat}{C:Nat→Prop}{W B:World}{ds:List Deferred}(h:Marks lo hi ds W)(hk:Keeps C W B)(hC:∀x,C x→x<lo)(hh:hi≤W.heap.size):Marks lo hi ds B:=
 h.of fun r h1 h2=>hk.block r zo fun hc=>by have:=hC r hc;omega
theorem dn{F:Fence}{n:Nat}{P:Program}{fn:Func}{tmps:Array Value}{R:Ending→World→Prop}{lo:Nat}:∀ {ds:List Deferred} {hi:Nat} {W:World},Marks lo hi ds W→
 (∀B,Below lo W B→∃v,(results fn tmps).run P B=.ok v B∧R (.returned v) B)→lo≤W.heap.size→LeavesInM F n P fn tmps R ds .returning W
 | [],_,W,_,hR,_=>hR W (Below.refl _ _)
 | _ :: ds,_,W,h,hR,hlo=>by
   obtain⟨r,rfl,h1,h2,h3,h4⟩:=h
   have hb:Below lo W (W.putObj r (.deferred none)):=⟨rfl,rfl,rfl,by simp[World.putObj],fun b hb=>World.putObj_heap_other zo⟩
   refine⟨zs,.inl ⟨_,_,rfl,run_takeDeferred h3,?_⟩⟩
   exact dn (h4.of fun x _ hx2=>World.putObj_heap_other zo) (fun B hB=>hR B (hb.trans hB)) (Nat.le_trans hlo hb.size)
theorem Keeps.and{C:Nat→Prop}{n:Nat}{A B D:World}(h:Keeps C A B)(k:Below n B D)(hn:A.heap.size≤n):Keeps C A D:=
 ⟨k.os.trans h.os,k.tape.trans h.tape,k.output.trans h.output,Nat.le_trans h.size k.size,fun b hb hc=>(k.block b zo).trans (h.block b hb hc)⟩
def oF(F:Fence)(gf:Nat)(lb:Array Value)(xs:List Ht)(w:World):Prop:=
 F.fn gf∧(∀args W,(callFunc gf args).run prog W=.ok (.enter gf args) W)∧∀ (C:Nat→Prop) (W:World),Below w.heap.size w W→(∀x,C x→w.heap.size≤x∧x<W.heap.size)→Iter F prog gf lb (fun h:Ht=>#[h.val]) xs C W
theorem oF.below{F:Fence}{gf:Nat}{lb:Array Value}{xs:List Ht}{w w':World}(h:oF F gf lb xs w)(hb:Below w.heap.size w w'):oF F gf lb xs w':=
 ⟨h.1,h.2.1,fun C W hW hC=>h.2.2 C W (hb.trans (hW.mono hb.size)) fun x hx=>⟨Nat.le_trans hb.size (hC x hx).1,(hC x hx).2⟩⟩
def rX(F:Fence)(g:Nat)(lb:Array Value)(xs:List Ht)(f:Ht→Value)(w:World):Prop:=
 F.fn g∧(∀args W,(callFunc g args).run prog W=.ok (.enter g args) W)∧∀ (W:World) (h:Ht),h∈xs→Below w.heap.size w W→CallsIn F 0 prog g (#[h.val] ++ lb) W fun e W'=>e=.returned (f h)∧Below W.heap.size W W'
theorem rX.below{F:Fence}{g:Nat}{lb:Array Value}{xs:List Ht}{f:Ht→Value}{w w':World}(h:rX F g lb xs f w)(hb:Below w.heap.size w w'):rX F g lb xs f w':=
 ⟨h.1,h.2.1,fun W x hx hW=>h.2.2 W x hx (hb.trans (hW.mono hb.size))⟩
theorem eu{α:Type}{pre xs:List α}{x:α}(h:pre ++ [x]<+:xs):x∈xs:=h.subset zs
theorem CallsIn.inRound{F:Fence}{P:Program}{n g l:Nat}{args:Array Value}{w:World}{R:Ending→World→Prop}(h:CallsIn F n P g args w R):CallsIn (F.inRound l) n P g args w R:=h
end
section
open Go
def FW(p:FuncId→Prop):Fence:={fn:=p }
@[simp] theorem lz(p:FuncId→Prop):(FW p).depth=none:=rfl
@[simp] theorem lB(p:FuncId→Prop):(FW p).round=none:=rfl
class yx(p:FuncId→Prop):Prop where
 fn:∀g,SF.fn g→p g
instance:yx SF.fn:=⟨fun _ h=>h⟩
instance:yx FF.fn:=⟨fun _ h=>Gm h⟩
section
variable{p:FuncId→Prop}[yx p]
@[simp] theorem Eb{g:FuncId}(h:SF.fn g):(FW p).fn g:=show p g from yx.fn g h
theorem CallsIn.wide{n:Nat}{P:Program}{f:FuncId}{args:Array Value}{w:World}{R:Ending→World→Prop}(h:CallsIn SF n P f args w R):CallsIn (FW p) n P f args w R:=by
 refine⟨Eb h.1,fun cs _=>?_⟩
 obtain⟨e,w',fr,r,hs,rest⟩:=h.2 cs (fun d hd=>by cases hd)
 have hm:∀m:Machine,m.fenced P SF→m.fenced P (FW p):=fun m hm g hg=>by
  obtain⟨a,b,c,d⟩:=hm g hg
  exact⟨a,b.imp Eb id,fun f hf=>Eb (c f hf),fun d hd=>by cases hd⟩
 refine⟨e,w',fr,r,?_,rest⟩
 cases e with
 | returned v=>exact fI hm hs
 | panicked c=>exact fI hm hs
 | outgrown=>exact hs
end
end
section
open Go.RowKit
attribute [local go_sem] Oper.semAt_some
theorem Yq{p:FuncId→Prop}[yx p](gf:Nat)(lb:Array Value)(xs:List Ht)(w:World)(h:oF (FW p) gf lb xs w):CallsIn (FW p) 0 prog 80 #[.func (.func gf) #[] lb] w fun e w'=>e=.returned (.bool (!xs.isEmpty))∧Below w.heap.size w w':=by
 obtain⟨hfn,FB,hit⟩:=h
 have HIT:=hid hit
 have KI:=hid FB
 clear hit FB
 refine callsIn_of_wp_marks func80 rfl zs ?_ rfl
 simp only[ntmps80,List.size_toArray,List.length_cons,List.length_nil,Nat.reduceAdd,Nat.reduceSub,Array.replicate_succ,Array.replicate_zero,List.push_toArray,List.append_toArray,List.nil_append,List.cons_append]
 gi_wp2
 obtain⟨w1,hw1⟩:∃w1,w1=w.alloc (.cells #[.bool false] 4):=⟨_,rfl⟩
 have B1:Hid (Below w.heap.size w w1):=hid (by rw[hw1];exact bw)
 have W1:Hid (Whole w1 w.heap.size 4 #[.bool false]):=hid (by rw[hw1];exact Whole.new _ _ _)
 have hs1:w1.heap.size=w.heap.size+1:=by rw[hw1];simp
 rw[← hw1]
 clear hw1
 have leave:∀ (tmps:Array Value) (t:Bool) (W:World),tmps[2]?.getD undef=.pointer (some ⟨w.heap.size,0,none⟩)→Whole W w.heap.size 4 #[.bool t]→(results Tryz.f80 tmps).run prog W=.ok (.bool t) W:=fun tmps t W ht hW=>by
  have:=hW.cell 0
  simp at this
  simp[results,Tryz.f80,go_sem,this,ht]
 refine gB (C:=fun x=>x=w.heap.size) rfl rfl (gf:=gf) (lb:=lb) rfl hfn KI.out (encs:=fun h:Ht=>#[h.val]) (xs:=xs)
  (fun x hx=>zo) ?hseq (fun _=>rfl) (fun pre W'=>pre=[]∧Whole W' w.heap.size 4 #[.bool false]) (fun c pre W'=>c=.ret∧pre≠[]∧Whole W' w.heap.size 4 #[.bool true])
  (fun pre A B h hb=>⟨h.1,h.2.below hb zo⟩) (fun c pre A B h hb=>⟨h.1,h.2.1,h.2.2.below hb zo⟩) ⟨rfl,W1.out⟩ ?fD ?hdone ?hstop
 case hseq=>exact fun W2 hb2 hs2=>HIT.out _ W2 (B1.out.trans (hb2.mono B1.out.size)) fun x hx=>zo
 case fD=>
  intro l' pre h A hl' hpre hj hk hsz hrec
  gi_wp2
  refine⟨Below.refl _ _,fun W2 hS=>?_⟩
  have ZJ:Whole W2 w.heap.size 4 #[.bool false]:=hj.2.of (hS.block _ zo)
  have c0:W2.cell? ⟨w.heap.size,0,none⟩=some (.bool false):=ZJ.cell 0
  have f0:=ZJ.thaw
  gi_wp2
  exact⟨Keeps.set (C:=fun x=>x=w.heap.size) (p:=⟨w.heap.size,0,none⟩) (Keeps.refl _ _) rfl _,rfl,zs,ZJ.set 0 (.bool true)⟩
 case hdone=>
  intro W' hj hk hm
  have c0:W'.cell? ⟨w.heap.size,0,none⟩=some (.bool false):=hj.2.cell 0
  have f0:=hj.2.thaw
  simp only[Exit.inBlock,Exit.then]
  go_at_K
  gi_wp2
  have WW:=hj.2.set 0 (.bool false)
  have hms:Marks w1.heap.size (w1.heap.size+1) [{target:=.collected w1.heap.size,args:=#[] }] (W'.setCell ⟨w.heap.size,0,none⟩ (.bool false)):=⟨_,rfl,Nat.le_refl _,Nat.lt_succ_self _,(Below.heap_setCell _ _ _ _ zm).trans hm,trivial⟩
  have hk':=hk.set (p:=⟨w.heap.size,0,none⟩) rfl (.bool false)
  refine dn hms (fun B hB=>⟨_,leave _ false B rfl (WW.below hB zo),?_,?_⟩) hk'.size
  ·cases xs with
   | nil=>rfl
   | cons x xs=>exact absurd hj.1 zs
  ·exact(B1.out.trans (hk'.below (n:=w.heap.size) (fun b hb hc=>zo) zo)).trans (hB.mono zo)
 case hstop=>
  rintro c pre W' hpre ⟨rfl,hne,hx⟩ hk hm
  gi_wp2
  have hms:Marks w1.heap.size (w1.heap.size+1) [{target:=.collected w1.heap.size,args:=#[] }] W':=⟨_,rfl,Nat.le_refl _,Nat.lt_succ_self _,hm,trivial⟩
  refine dn hms (fun B hB=>⟨_,leave _ true B rfl (hx.below hB zo),?_,?_⟩) hk.size
  ·cases xs with
   | nil=>exact absurd (List.prefix_nil.1 hpre) hne
   | cons x xs=>rfl
  ·exact(B1.out.trans (hk.below (n:=w.heap.size) (fun b hb hc=>zo) zo)).trans (hB.mono zo)
end
section
open Go.RowKit
open Go.Sort (grow)
attribute [local go_sem] Oper.semAt_some
theorem iB{α:Type}{pre xs:List α}{x:α}(h:pre ++ [x]<+:xs):pre.length<xs.length:=by
 have:=h.length_le
 simp at this
 omega
theorem Vn(gf:Nat)(lb:Array Value)(xs:List Ht)(w:World)(hlen:xs.length<2 ^ 40)(h:oF FF gf lb xs w):CallsIn FF 0 prog 46 #[.func (.func gf) #[] lb] w fun e w'=>e=.returned (int i64 xs.length)∧Below w.heap.size w w':=by
 obtain⟨hfn,FB,hit⟩:=h
 have HIT:=hid hit
 have KI:=hid FB
 clear hit FB
 refine callsIn_of_wp_marks func46 rfl zs ?_ rfl
 simp only[ntmps46,List.size_toArray,List.length_cons,List.length_nil,Nat.reduceAdd,Nat.reduceSub,Array.replicate_succ,Array.replicate_zero,List.push_toArray,List.append_toArray,List.nil_append,List.cons_append]
 gi_wp2
 obtain⟨w1,hw1⟩:∃w1,w1=w.alloc (.cells #[int i64 0] 3):=⟨_,rfl⟩
 have B1:Hid (Below w.heap.size w w1):=hid (by rw[hw1];exact bw)
 have W1:Hid (Whole w1 w.heap.size 3 #[int i64 0]):=hid (by rw[hw1];exact Whole.new _ _ _)
 have hs1:w1.heap.size=w.heap.size+1:=by rw[hw1];simp
 rw[← hw1]
 clear hw1
 refine gB (C:=fun x=>x=w.heap.size) rfl rfl (gf:=gf) (lb:=lb) rfl hfn KI.out (encs:=fun h:Ht=>#[h.val]) (xs:=xs)
  (fun x hx=>zo) ?hseq (fun _=>rfl) (fun pre W'=>Whole W' w.heap.size 3 #[int i64 pre.length]) (fun c pre W'=>False)
  (fun pre A B h hb=>h.below hb zo) (fun c pre A B h hb=>h.elim) W1.out ?fD ?hdone ?hstop
 case hseq=>exact fun W2 hb2 hs2=>HIT.out _ W2 (B1.out.trans (hb2.mono B1.out.size)) fun x hx=>zo
 case fD=>
  intro l' pre h A hl' hpre hj hk hsz hrec
  gi_wp2
  refine⟨Below.refl _ _,fun W2 hS=>?_⟩
  have ZJ:Whole W2 w.heap.size 3 #[int i64 pre.length]:=hj.of (hS.block _ zo)
  have c0:W2.cell? ⟨w.heap.size,0,none⟩=some (int i64 pre.length):=ZJ.cell 0
  have f0:=ZJ.thaw
  have e1:wrap64 ((pre.length:Int)+1)=(pre.length:Int)+1:=IntWalk.wrap64_in _ (by have:=iB hpre;omega)
  gi_wp2
  exact⟨Keeps.set (C:=fun x=>x=w.heap.size) (p:=⟨w.heap.size,0,none⟩) (Keeps.refl _ _) rfl _,by simpa using ZJ.set 0 (int i64 (pre.length+1))⟩
 case hdone=>
  intro W' hj hk hm
  have c0:W'.cell? ⟨w.heap.size,0,none⟩=some (int i64 xs.length):=hj.cell 0
  simp only[Exit.inBlock,Exit.then]
  go_at_K
  gi_wp2
  have hms:Marks w1.heap.size (w1.heap.size+1) [{target:=.collected w1.heap.size,args:=#[] }] W':=⟨_,rfl,Nat.le_refl _,Nat.lt_succ_self _,hm,trivial⟩
  refine dn hms (fun B hB=>⟨_,results_tmp rfl _ _ _,rfl,?_⟩) hk.size
  exact(B1.out.trans (hk.below (n:=w.heap.size) (fun b hb hc=>zo) zo)).trans (hB.mono zo)
 case hstop=>
  rintro c pre W' hpre hx hk hm
  exact hx.elim
def Mc(n so:Nat):Int:=if n=0 then 0 else if so=n then 1 else if so=0 then 2 else 0
def QI(n:Nat):Int:=if n=0 then 9 else 0
theorem et(gf:Nat)(lb:Array Value)(g:Nat)(lg:Array Value)(p:Ht→Bool)(xs:List Ht)(w:World)(hlen:xs.length<2 ^ 40)(h:oF FF gf lb xs w)(hg:rX FF g lg xs (fun h=>.bool (p h)) w):CallsIn FF 0 prog 59 #[.func (.func gf) #[] lb,.func (.func g) #[] lg] w fun e w'=>e=.returned (.tuple #[int i64 (Mc xs.length (xs.filter p).length),int i64 (QI xs.length)])∧Below w.heap.size w w':=by
 obtain⟨so,hso⟩:∃so,so=(xs.filter p).length:=⟨_,rfl⟩
 obtain⟨n,hn⟩:∃n,n=xs.length:=⟨_,rfl⟩
 have hle:so≤n:=by rw[hso,hn];exact List.length_filter_le _ _
 have HD:=hid hso
 have Hs:=hid hn
 have aac:n<2 ^ 40:=zo
 rw[← hso,← hn]
 clear hso hn
 obtain⟨hfn,FB,hit⟩:=h
 have HIT:=hid hit
 have KI:=hid FB
 obtain⟨hgf,hge,hgc⟩:=hg
 rw[qm] at hgf
 have HG:=hid hgc
 clear hit FB hgc
 refine callsIn_of_wp_marks func59 rfl zs ?_ rfl
 simp only[ntmps59,List.size_toArray,List.length_cons,List.length_nil,Nat.reduceAdd,Nat.reduceSub,Array.replicate_succ,Array.replicate_zero,List.push_toArray,List.append_toArray,List.nil_append,List.cons_append]
 gi_wp2
 obtain⟨w1,hw1⟩:∃w1,w1=((w.alloc (.cells #[.func (.func g) #[] lg] 107)).alloc (.cells #[int i64 0] 3)).alloc (.cells #[int i64 0] 3):=⟨_,rfl⟩
 have B1:Hid (Below w.heap.size w w1):=hid (by rw[hw1];exact bw)
 have F1:Hid (Whole w1 w.heap.size 107 #[.func (.func g) #[] lg]):=hid (by rw[hw1];exact((Whole.new _ _ _).alloc _).alloc _)
 have M1:Hid (Whole w1 (w.heap.size+1) 3 #[int i64 0]):=hid (by
  have:=Whole.new (w.alloc (.cells #[.func (.func g) #[] lg] 107)) 3 #[int i64 0]
  rw[World.size_alloc] at this;rw[hw1];exact this.alloc _)
 have S1:Hid (Whole w1 (w.heap.size+1+1) 3 #[int i64 0]):=hid (by
  have:=Whole.new ((w.alloc (.cells #[.func (.func g) #[] lg] 107)).alloc (.cells #[int i64 0] 3)) 3 #[int i64 0]
  rw[World.size_alloc,World.size_alloc] at this;rw[hw1];exact this)
 have hs1:w1.heap.size=w.heap.size+3:=by rw[hw1];simp
 rw[← hw1]
 clear hw1
 obtain⟨CC,Ld⟩:∃CC:Nat→Prop,CC=fun x=>x=w.heap.size+1∨x=w.heap.size+1+1:=⟨_,rfl⟩
 have kY:∀x,CC x↔x=w.heap.size+1∨x=w.heap.size+1+1:=fun x=>by rw[Ld]
 clear Ld
 refine gB (C:=CC) rfl rfl (gf:=gf) (lb:=lb) rfl hfn KI.out (encs:=fun h:Ht=>#[h.val]) (xs:=xs)
  (fun x hx=>by have:=(kY x).1 hx;omega) ?hseq (fun _=>rfl) (fun pre W'=>Hid (Whole W' w.heap.size 107 #[.func (.func g) #[] lg]∧Whole W' (w.heap.size+1) 3 #[int i64 pre.length]∧Whole W' (w.heap.size+1+1) 3 #[int i64 (pre.filter p).length])) (fun c pre W'=>False)
  (fun pre A B h hb=>hid ⟨h.out.1.below hb zo,h.out.2.1.below hb zo,h.out.2.2.below hb zo⟩) (fun c pre A B h hb=>h.elim) (hid ⟨F1.out,M1.out,S1.out⟩) ?fD ?hdone ?hstop
 case hseq=>exact fun W2 hb2 hs2=>HIT.out _ W2 (B1.out.trans (hb2.mono B1.out.size)) fun x hx=>by rw[kY] at hx;omega
 case fD=>
  intro l' pre h A hl' hpre hj hk hsz hrec
  obtain⟨hf,hmm,tT⟩:=h
  simp only[Ht.val,Ht.cells]
  gi_wp2
  refine⟨bw,fun W2 hS=>?_⟩
  have nZ:Below (w.heap.size+3) A W2:=((Below.refl _ A).alloc zo _).trans (hS.below zo)
  have X2:Whole W2 A.heap.size 88 (⟨hf,hmm,tT⟩:Ht).cells:=(Whole.new A _ _).of (hS.block _ zo)
  have F2:=hid (hj.out.1.below nZ zo)
  have M2:=hid (hj.out.2.1.below nZ zo)
  have S2:=hid (hj.out.2.2.below nZ zo)
  have e1:wrap64 ((pre.length:Int)+1)=(pre.length:Int)+1:=IntWalk.wrap64_in _ (by have:=iB hpre;omega)
  have hfl:(pre.filter p).length≤pre.length:=List.length_filter_le _ _
  have e2:wrap64 (((pre.filter p).length:Int)+1)=((pre.filter p).length:Int)+1:=IntWalk.wrap64_in _ (by have:=iB hpre;omega)
  have c6:W2.cell? ⟨w.heap.size+1,0,none⟩=some (int i64 pre.length):=M2.out.cell 0
  have f6:=M2.out.thaw
  have hsA:A.heap.size+1≤W2.heap.size:=by have:=hS.size;simp at this;exact Nat.le_of_eq this.symm
  obtain⟨W3,hW3⟩:∃W3,W3=W2.setCell ⟨w.heap.size+1,0,none⟩ (int i64 (pre.length+1)):=⟨_,rfl⟩
  have F3:=hid (by rw[hW3];exact F2.out.other zF _:Whole W3 w.heap.size 107 #[.func (.func g) #[] lg])
  have X3:Hid (Whole W3 A.heap.size 88 (⟨hf,hmm,tT⟩:Ht).cells):=hid (by rw[hW3];exact X2.other zF _)
  have M3:Hid (Whole W3 (w.heap.size+1) 3 #[int i64 (pre.length+1)]):=hid (by rw[hW3];exact M2.out.set 0 (int i64 (pre.length+1)))
  have S3:Hid (Whole W3 (w.heap.size+1+1) 3 #[int i64 (pre.filter p).length]):=hid (by rw[hW3];exact S2.out.other zF _)
  have K3:Hid (Keeps CC W2 W3):=hid (by rw[hW3];exact Keeps.set (p:=⟨w.heap.size+1,0,none⟩) (Keeps.refl _ _) ((kY _).2 (.inl rfl)) _)
  have hs3:W3.heap.size=W2.heap.size:=by rw[hW3];simp[World.setCell]
  have q0:W3.cell? ⟨w.heap.size,0,none⟩=some (.func (.func g) #[] lg):=F3.out.cell 0
  have x0:W3.cell? ⟨A.heap.size,0,none⟩=some (int i64 (hf 0)):=X3.out.cell 0
  have x1:W3.cell? ⟨A.heap.size,1,none⟩=some (int i64 (hf 1)):=X3.out.cell 1
  have x2:W3.cell? ⟨A.heap.size,2,none⟩=some (int i64 (hf 2)):=X3.out.cell 2
  have x3:W3.cell? ⟨A.heap.size,3,none⟩=some (int i64 (hmm 0)):=X3.out.cell 3
  have x4:W3.cell? ⟨A.heap.size,4,none⟩=some (int i64 (hmm 1)):=X3.out.cell 4
  have x5:W3.cell? ⟨A.heap.size,5,none⟩=some (int i64 (hmm 2)):=X3.out.cell 5
  have x6:W3.cell? ⟨A.heap.size,6,none⟩=some (int i64 (hmm 3)):=X3.out.cell 6
  have x7:W3.cell? ⟨A.heap.size,7,none⟩=some (int i64 (hmm 4)):=X3.out.cell 7
  have x8:W3.cell? ⟨A.heap.size,8,none⟩=some (int i64 (hmm 5)):=X3.out.cell 8
  have x9:W3.cell? ⟨A.heap.size,9,none⟩=some (int i64 tT):=X3.out.cell 9
  have hB3:Below w.heap.size w W3:=by
   rw[hW3]
   exact(((B1.out.trans (hk.below (n:=w.heap.size) (fun b hb hc=>by have:=(kY b).1 hc;omega) zo)).trans (nZ.mono zo))).setCell zs _
  have cG:=HG.out W3 ⟨hf,hmm,tT⟩ (eu hpre) hB3
  simp only[Ht.val,Ht.cells] at cG
  rw[hW3] at q0 x0 x1 x2 x3 x4 x5 x6 x7 x8 x9
  have HW3:=hid hW3
  have fX:=hid cG
  have hpf:∀b,p ⟨hf,hmm,tT⟩=b→(pre ++ [(⟨hf,hmm,tT⟩:Ht)]).filter p=pre.filter p ++ if b=true then[⟨hf,hmm,tT⟩] else[]:=fun b hb=>by
   rw[List.filter_append,List.filter_cons,hb];cases b <;> rfl
  obtain⟨t,ht⟩:∃t,p ⟨hf,hmm,tT⟩=t:=⟨_,rfl⟩
  have Hv:=hid (hpf t ht)
  rw[ht] at fX
  clear hpf hW3 cG hB3 X2 nZ ht
  have fin:∀W5,Keeps CC W2 W5→Whole W5 w.heap.size 107 #[.func (.func g) #[] lg]→Whole W5 (w.heap.size+1) 3 #[int i64 (pre.length+1)]→Whole W5 (w.heap.size+1+1) 3 #[int i64 ((pre ++ [(⟨hf,hmm,tT⟩:Ht)]).filter p).length]→
   vo CC (fun W'=>Hid (Whole W' w.heap.size 107 #[.func (.func g) #[] lg]∧Whole W' (w.heap.size+1) 3 #[int i64 (pre ++ [(⟨hf,hmm,tT⟩:Ht)]).length]∧Whole W' (w.heap.size+1+1) 3 #[int i64 ((pre ++ [(⟨hf,hmm,tT⟩:Ht)]).filter p).length])) (fun c W'=>False) W2 .normal {tmps:=#[],defers:=[] } W5:=fun W5 k f m s=>⟨k,hid ⟨f,by simpa using m,s⟩⟩
  have FIN:=hid fin
  clear fin
  cases t
  ·gi_wp2_with (rw[← HW3.out];refine fX.out.mono ?_;rintro e W4 ⟨rfl,hb4⟩)
   refine FIN.out W4 (K3.out.trans (Keeps.bG hb4)) (F3.out.below hb4 F3.out.lt) (M3.out.below hb4 M3.out.lt) ?_
   rw[Hv.out]
   simpa using S3.out.below hb4 S3.out.lt
  ·gi_wp2_with (rw[← HW3.out];refine fX.out.mono ?_;rintro e W4 ⟨rfl,hb4⟩;have S4:=S3.out.below hb4 S3.out.lt;have c7:W4.cell? ⟨w.heap.size+1+1,0,none⟩=some (int i64 (pre.filter p).length):=S4.cell 0;have f7:=S4.thaw)
   refine FIN.out _ (Keeps.set (p:=⟨w.heap.size+1+1,0,none⟩) (K3.out.trans (Keeps.bG hb4)) ((kY _).2 (.inr rfl)) _) ((F3.out.below hb4 F3.out.lt).other zF _) ((M3.out.below hb4 M3.out.lt).other zF _) ?_
   rw[Hv.out]
   simpa using S4.set 0 (int i64 ((pre.filter p).length+1))
 case hdone=>
  intro W' hj hk hm
  have c6:W'.cell? ⟨w.heap.size+1,0,none⟩=some (int i64 n):=by rw[Hs.out];exact hj.out.2.1.cell 0
  have c7:W'.cell? ⟨w.heap.size+1+1,0,none⟩=some (int i64 so):=by rw[HD.out];exact hj.out.2.2.cell 0
  have hms:Marks w1.heap.size (w1.heap.size+1) [{target:=.collected w1.heap.size,args:=#[] }] W':=⟨_,rfl,Nat.le_refl _,Nat.lt_succ_self _,hm,trivial⟩
  have Ql:=hid hms
  have HKK:=hid hk
  have Es:Hid (Below w.heap.size w W'):=hid (B1.out.trans (hk.below (n:=w.heap.size) (fun b hb hc=>by have:=(kY b).1 hc;omega) zo))
  clear hj hms hk hm
  simp only[Exit.inBlock,Exit.then]
  go_at_K
  gi_wp2
  all_goals
   refine dn Ql.out (fun B hB=>⟨_,results_tmp2 rfl _ _ _,?_,Es.out.trans (hB.mono zo)⟩) HKK.out.size
   clear Ql HKK Es HIT KI HG hge hgf hfn c6 c7 kY HD Hs
   simp_all [Mc,QI]
  all_goals first|omega|(intro hh;exact absurd (show so=n by omega) hh)
 case hstop=>
  rintro c pre W' hpre hx hk hm
  exact hx.elim
def bR(v:Ht→Int)(pre:List Ht):Int × Int × Bool:=pre.foldl (fun s h=>if s.2.2 then(min s.1 (v h),max s.2.1 (v h),true) else(v h,v h,true)) (0,0,false)
theorem wY(v:Ht→Int)(pre:List Ht)(h:Ht):bR v (pre ++ [h])=if (bR v pre).2.2 then(min (bR v pre).1 (v h),max (bR v pre).2.1 (v h),true) else(v h,v h,true):=by unfold bR;rw[List.foldl_append];rfl
theorem Kc(v:Ht→Int)(xs:List Ht)(h:(bR v xs).2.2=false):bR v xs=(0,0,false):=by
 rcases List.eq_nil_or_concat xs with rfl|⟨l,b,rfl⟩
 ·rfl
 ·rw[List.concat_eq_append,wY] at h
  split at h <;> simp at h
theorem wZ(gf:Nat)(lb:Array Value)(g:Nat)(lg:Array Value)(v:Ht→Int)(xs:List Ht)(w:World)(h:oF FF gf lb xs w)(hg:rX FF g lg xs (fun h=>int i64 (v h)) w):CallsIn FF 0 prog 43 #[.func (.func gf) #[] lb,.func (.func g) #[] lg] w fun e w'=>e=.returned (.tuple #[.agg #[int i64 (bR v xs).1,int i64 (bR v xs).2.1],int i64 (if (bR v xs).2.2 then 0 else 9)])∧Below w.heap.size w w':=by
 obtain⟨SS,hSS⟩:∃SS,SS=bR v xs:=⟨_,rfl⟩
 rw[← hSS]
 have vm:=hid hSS
 clear hSS
 obtain⟨hfn,FB,hit⟩:=h
 have HIT:=hid hit
 have KI:=hid FB
 obtain⟨hgf,hge,hgc⟩:=hg
 rw[qm] at hgf
 have HG:=hid hgc
 clear hit FB hgc
 refine callsIn_of_wp_marks func43 rfl zs ?_ rfl
 simp only[ntmps43,List.size_toArray,List.length_cons,List.length_nil,Nat.reduceAdd,Nat.reduceSub,Array.replicate_succ,Array.replicate_zero,List.push_toArray,List.append_toArray,List.nil_append,List.cons_append]
 gi_wp2
 obtain⟨wa,FH⟩:∃wa,wa=w.alloc (.cells #[.func (.func g) #[] lg] 93):=⟨_,rfl⟩
 obtain⟨wb,hwb⟩:∃wb,wb=wa.alloc (.cells #[int i64 0,int i64 0] 38):=⟨_,rfl⟩
 obtain⟨wc,hwc⟩:∃wc,wc=wb.alloc (.cells #[int i64 0,int i64 0] 38):=⟨_,rfl⟩
 obtain⟨w1,hw1⟩:∃w1,w1=wc.alloc (.cells #[.bool false] 4):=⟨_,rfl⟩
 have sa:wa.heap.size=w.heap.size+1:=by rw[FH];simp
 have sb:wb.heap.size=w.heap.size+1+1:=by rw[hwb];simp[sa]
 have sc:wc.heap.size=w.heap.size+1+1+1:=by rw[hwc];simp[sb]
 have hs1:w1.heap.size=w.heap.size+4:=by rw[hw1];simp[sc]
 have B1:Hid (Below w.heap.size w w1):=hid (by rw[hw1,hwc,hwb,FH];exact bw)
 have F1:Hid (Whole w1 w.heap.size 93 #[.func (.func g) #[] lg]):=hid (by rw[hw1,hwc,hwb,FH];exact(((Whole.new _ _ _).alloc _).alloc _).alloc _)
 have R1:Hid (Whole w1 (w.heap.size+1) 38 #[int i64 0,int i64 0]):=hid (by rw[← sa,hw1,hwc,hwb];exact((Whole.new _ _ _).alloc _).alloc _)
 have S1:Hid (Whole w1 (w.heap.size+1+1) 38 #[int i64 0,int i64 0]):=hid (by rw[← sb,hw1,hwc];exact(Whole.new _ _ _).alloc _)
 have T1:Hid (Whole w1 (w.heap.size+1+1+1) 4 #[.bool false]):=hid (by rw[← sc,hw1];exact Whole.new _ _ _)
 rw[← FH,← hwb,← hwc,← hw1]
 clear hw1 FH hwb hwc sa sb sc
 obtain⟨CC,Ld⟩:∃CC:Nat→Prop,CC=fun x=>x=w.heap.size+1+1∨x=w.heap.size+1+1+1:=⟨_,rfl⟩
 have kY:∀x,CC x↔x=w.heap.size+1+1∨x=w.heap.size+1+1+1:=fun x=>by rw[Ld]
 clear Ld
 refine gB (C:=CC) rfl rfl (gf:=gf) (lb:=lb) rfl hfn KI.out (encs:=fun h:Ht=>#[h.val]) (xs:=xs)
  (fun x hx=>by have:=(kY x).1 hx;omega) ?hseq (fun _=>rfl) (fun pre W'=>Hid (Whole W' w.heap.size 93 #[.func (.func g) #[] lg]∧Whole W' (w.heap.size+1) 38 #[int i64 0,int i64 0]∧Whole W' (w.heap.size+1+1) 38 #[int i64 (bR v pre).1,int i64 (bR v pre).2.1]∧Whole W' (w.heap.size+1+1+1) 4 #[.bool (bR v pre).2.2])) (fun c pre W'=>False)
  (fun pre A B h hb=>hid ⟨h.out.1.below hb zo,h.out.2.1.below hb zo,h.out.2.2.1.below hb zo,h.out.2.2.2.below hb zo⟩) (fun c pre A B h hb=>h.elim) (hid ⟨F1.out,R1.out,S1.out,T1.out⟩) ?fD ?hdone ?hstop
 case hseq=>exact fun W2 hb2 hs2=>HIT.out _ W2 (B1.out.trans (hb2.mono B1.out.size)) fun x hx=>by rw[kY] at hx;omega
 case fD=>
  intro l' pre h A hl' hpre hj hk hsz hrec
  have hsn:=wY v pre h
  obtain⟨st',hst'⟩:∃st',st'=bR v (pre ++ [h]):=⟨_,rfl⟩
  obtain⟨vh,YP⟩:∃vh,vh=v h:=⟨_,rfl⟩
  rw[← hst'] at hsn⊢
  rw[← YP] at hsn
  obtain⟨⟨a,c,t⟩,hst⟩:∃st,st=bR v pre:=⟨_,rfl⟩
  rw[← hst] at hj hsn
  simp only at hj hsn
  clear hst' hst
  have Ve:=fun W hW=>HG.out W h (eu hpre) hW
  rw[← YP] at Ve
  clear YP
  obtain⟨hf,hmm,tT⟩:=h
  simp only[Ht.val,Ht.cells]
  simp only[Ht.val,Ht.cells] at Ve
  gi_wp2
  refine⟨bw,fun W2 hS=>?_⟩
  have nZ:Below (w.heap.size+4) A W2:=((Below.refl _ A).alloc zo _).trans (hS.below zo)
  have X2:Whole W2 A.heap.size 88 (⟨hf,hmm,tT⟩:Ht).cells:=(Whole.new A _ _).of (hS.block _ zo)
  have F2:=hid (hj.out.1.below nZ zo)
  have R2:=hid (hj.out.2.1.below nZ zo)
  have S2:=hid (hj.out.2.2.1.below nZ zo)
  have T2:=hid (hj.out.2.2.2.below nZ zo)
  have q0:W2.cell? ⟨w.heap.size,0,none⟩=some (.func (.func g) #[] lg):=F2.out.cell 0
  have x0:W2.cell? ⟨A.heap.size,0,none⟩=some (int i64 (hf 0)):=X2.cell 0
  have x1:W2.cell? ⟨A.heap.size,1,none⟩=some (int i64 (hf 1)):=X2.cell 1
  have x2:W2.cell? ⟨A.heap.size,2,none⟩=some (int i64 (hf 2)):=X2.cell 2
  have x3:W2.cell? ⟨A.heap.size,3,none⟩=some (int i64 (hmm 0)):=X2.cell 3
  have x4:W2.cell? ⟨A.heap.size,4,none⟩=some (int i64 (hmm 1)):=X2.cell 4
  have x5:W2.cell? ⟨A.heap.size,5,none⟩=some (int i64 (hmm 2)):=X2.cell 5
  have x6:W2.cell? ⟨A.heap.size,6,none⟩=some (int i64 (hmm 3)):=X2.cell 6
  have x7:W2.cell? ⟨A.heap.size,7,none⟩=some (int i64 (hmm 4)):=X2.cell 7
  have x8:W2.cell? ⟨A.heap.size,8,none⟩=some (int i64 (hmm 5)):=X2.cell 8
  have x9:W2.cell? ⟨A.heap.size,9,none⟩=some (int i64 tT):=X2.cell 9
  have fX:=hid (Ve W2 ((B1.out.trans (hk.below (n:=w.heap.size) (fun b hb hc=>by have:=(kY b).1 hc;omega) zo)).trans (nZ.mono zo)))
  have Yi:=hid hsn
  clear X2 nZ Ve hsn
  have FIN:=hid (show ∀W5,Keeps CC W2 W5→Whole W5 w.heap.size 93 #[.func (.func g) #[] lg]→Whole W5 (w.heap.size+1) 38 #[int i64 0,int i64 0]→Whole W5 (w.heap.size+1+1) 38 #[int i64 st'.1,int i64 st'.2.1]→Whole W5 (w.heap.size+1+1+1) 4 #[.bool st'.2.2]→
   vo CC (fun W'=>Hid (Whole W' w.heap.size 93 #[.func (.func g) #[] lg]∧Whole W' (w.heap.size+1) 38 #[int i64 0,int i64 0]∧Whole W' (w.heap.size+1+1) 38 #[int i64 st'.1,int i64 st'.2.1]∧Whole W' (w.heap.size+1+1+1) 4 #[.bool st'.2.2])) (fun c W'=>False) W2 .normal {tmps:=#[],defers:=[] } W5 from fun W5 k f r s t=>⟨k,hid ⟨f,r,s,t⟩⟩)
  cases t
  ·gi_wp2_with (refine fX.out.mono ?_;rintro e W4 ⟨rfl,hb4⟩;have S4:=S2.out.below hb4 S2.out.lt;have T4:=T2.out.below hb4 T2.out.lt;have c7:W4.cell? ⟨w.heap.size+1+1+1,0,none⟩=some (.bool false):=T4.cell 0;have c60:W4.cell? ⟨w.heap.size+1+1,0,none⟩=some (int i64 a):=S4.cell 0;have c61:W4.cell? ⟨w.heap.size+1+1,1,none⟩=some (int i64 c):=S4.cell 1;have f7:=T4.thaw;have f6:=S4.thaw)
   simp only[Bool.false_eq_true,if_false] at Yi
   refine FIN.out _ (Keeps.set (Keeps.set (Keeps.set (Keeps.set (Keeps.set (Keeps.bG hb4) ((kY _).2 (.inl rfl)) _) ((kY _).2 (.inl rfl)) _) ((kY _).2 (.inr rfl)) _) ((kY _).2 (.inl rfl)) _) ((kY _).2 (.inl rfl)) _)
    ((((((F2.out.below hb4 F2.out.lt).other zF _).other zF _).other zF _).other zF _).other zF _)
    ((((((R2.out.below hb4 R2.out.lt).other zF _).other zF _).other zF _).other zF _).other zF _) ?_ ?_
   ·rw[Yi.out]
    exact((((S4.set 0 (int i64 vh)).set 1 (int i64 vh)).other zF _).set 0 (int i64 vh)).set 1 (int i64 vh)
   ·rw[Yi.out]
    exact((((T4.other zF _).other zF _).set 0 (.bool true)).other zF _).other zF _
  ·gi_wp2_with (refine fX.out.mono ?_;rintro e W4 ⟨rfl,hb4⟩;have S4:=S2.out.below hb4 S2.out.lt;have T4:=T2.out.below hb4 T2.out.lt;have c7:W4.cell? ⟨w.heap.size+1+1+1,0,none⟩=some (.bool true):=T4.cell 0;have c60:W4.cell? ⟨w.heap.size+1+1,0,none⟩=some (int i64 a):=S4.cell 0;have c61:W4.cell? ⟨w.heap.size+1+1,1,none⟩=some (int i64 c):=S4.cell 1;have f7:=T4.thaw;have f6:=S4.thaw)
   simp only[if_true] at Yi
   refine FIN.out _ (Keeps.set (Keeps.set (Keeps.bG hb4) ((kY _).2 (.inl rfl)) _) ((kY _).2 (.inl rfl)) _) (((F2.out.below hb4 F2.out.lt).other zF _).other zF _) (((R2.out.below hb4 R2.out.lt).other zF _).other zF _) ?_ ?_
   ·rw[Yi.out]
    exact(S4.set 0 (int i64 (min a vh))).set 1 (int i64 (max c vh))
   ·rw[Yi.out]
    exact(T4.other zF _).other zF _
 case hdone=>
  intro W' hj hk hm
  rw[← vm.out] at hj
  have hms:Marks w1.heap.size (w1.heap.size+1) [{target:=.collected w1.heap.size,args:=#[] }] W':=⟨_,rfl,Nat.le_refl _,Nat.lt_succ_self _,hm,trivial⟩
  have Es:Hid (Below w.heap.size w W'):=hid (B1.out.trans (hk.below (n:=w.heap.size) (fun b hb hc=>by have:=(kY b).1 hc;omega) zo))
  obtain⟨a,c,t⟩:=SS
  simp only at hj⊢
  have c40:W'.cell? ⟨w.heap.size+1,0,none⟩=some (int i64 0):=hj.out.2.1.cell 0
  have c41:W'.cell? ⟨w.heap.size+1,1,none⟩=some (int i64 0):=hj.out.2.1.cell 1
  have f4:=hj.out.2.1.thaw
  have c60:W'.cell? ⟨w.heap.size+1+1,0,none⟩=some (int i64 a):=hj.out.2.2.1.cell 0
  have c61:W'.cell? ⟨w.heap.size+1+1,1,none⟩=some (int i64 c):=hj.out.2.2.1.cell 1
  have c7:W'.cell? ⟨w.heap.size+1+1+1,0,none⟩=some (.bool t):=hj.out.2.2.2.cell 0
  rw[hs1] at hms
  have Ql:Hid (∀u z,Marks (w.heap.size+4) (w.heap.size+4+1) [{target:=.collected (w.heap.size+4),args:=#[] }] ((W'.setCell ⟨w.heap.size+1,0,none⟩ u).setCell ⟨w.heap.size+1,1,none⟩ z)):=hid fun u z=>hms.of fun r h1 h2=>(Below.heap_setCell _ _ _ _ zF).trans (Below.heap_setCell _ _ _ _ zF)
  have LV:Hid (∀ (a c bl:Int) (tmps:Array Value) (B:World),tmps[4]?.getD undef=.pointer (some ⟨w.heap.size+1,0,none⟩)→tmps[5]?.getD undef=int i64 bl→Whole B (w.heap.size+1) 38 #[int i64 a,int i64 c]→(results Tryz.f43 tmps).run prog B=.ok (.tuple #[.agg #[int i64 a,int i64 c],int i64 bl]) B):=hid fun a c bl tmps B h4 h5 hB=>by
   have k0:B.cell? ⟨w.heap.size+1,0,none⟩=some (int i64 a):=hB.cell 0
   have k1:B.cell? ⟨w.heap.size+1,1,none⟩=some (int i64 c):=hB.cell 1
   simp[results,Tryz.f43,go_sem,k0,k1,h4,h5]
  have R5:=hid hj.out.2.1
  have Zl:=hid hk.size
  have SP:Hid (t=false→a=0∧c=0):=hid fun ht=>by
   have:=Kc v xs (by rw[← vm.out,ht])
   rw[← vm.out] at this
   simpa [ht] using this
  clear hms hk hm
  simp only[Exit.inBlock,Exit.then]
  go_at_K
  cases t
  ·gi_wp2
   obtain⟨rfl,rfl⟩:=SP.out zs
   refine dn (Ql.out _ _) (fun B hB=>⟨_,LV.out 0 0 9 _ B rfl rfl (((R5.out.set 0 (int i64 0)).set 1 (int i64 0)).below hB zo),rfl,?_⟩) (by have:=Zl.out;simp;omega)
   exact((Es.out.setCell (p:=⟨w.heap.size+1,0,none⟩) zF _).setCell (p:=⟨w.heap.size+1,1,none⟩) zF _).trans (hB.mono zo)
  ·gi_wp2
   refine dn (Ql.out _ _) (fun B hB=>⟨_,LV.out a c 0 _ B rfl rfl (((R5.out.set 0 (int i64 a)).set 1 (int i64 c)).below hB zo),rfl,?_⟩) (by have:=Zl.out;simp;omega)
   exact((Es.out.setCell (p:=⟨w.heap.size+1,0,none⟩) zF _).setCell (p:=⟨w.heap.size+1,1,none⟩) zF _).trans (hB.mono zo)
 case hstop=>
  rintro c pre W' hpre hx hk hm
  exact hx.elim
end
end Go.Proofs.YthaelabgfnnebaaGreat
