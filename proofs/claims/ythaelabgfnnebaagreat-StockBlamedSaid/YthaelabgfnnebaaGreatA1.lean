/- S0 F00 S1 S2 S3 S4 -/
import Derived.Test.YthaelabgfnnebaaGreatA0
import Derived.Test.YthaelabgfnnebaaGreatProg
import Derived.WalkKit
import Derived.BigGuardPart
import Derived.BigQuiet
import Derived.TacticsIn
import Derived.TacticsInMore
import Derived.LoopIn
import Derived.BigFrameIn
import Derived.BigGuardIn
import Derived.BigGuardPartIn
import Derived.BigRegionIn
import Derived.OwnWalkIn
import Derived.LoopNIn
import Derived.IntWalk
import Derived.Sort.QuietIn
import Derived.Sort.BigQuietIn
import Derived.Stop.RegionWithIn
set_option maxRecDepth 100000
set_option maxHeartbeats 16000000
set_option linter.unusedVariables false
set_option linter.unusedSectionVars false
open Go.IntKind(i64)
open Go.Lib(hid)
open Go.Proofs.Tryz
open Go.Value(int)
namespace Go.Proofs.YthaelabgfnnebaaGreat
section
open Go.RowKit
theorem fF{W w1:World}(hb:Below W.heap.size W w1):(∀b o,b<W.heap.size→w1.cell? ⟨b,o,none⟩=W.cell? ⟨b,o,none⟩)∧(∀b o,b<W.heap.size→w1.frozen? ⟨b,o,none⟩=W.frozen? ⟨b,o,none⟩):=
 ⟨fun b o h=>hb.cell (p:=⟨b,o,none⟩) h,fun b o h=>hb.frozen (p:=⟨b,o,none⟩) h⟩
def Rows(w:World)(B size:Nat)(A:Option Addr)(n:Nat)(f:Nat→Nat→Value):Prop:=
 0<n→∃ad,A=some ad∧ad.block<B∧∀i j,i<n→j<size→w.cell? (ad.add (i * size+j))=some (f i j)
theorem aH(a:Addr)(n:Nat):(a.add n).block=a.block:=by unfold Addr.add;split <;> rfl
section
variable{w w':World}{B size n:Nat}{A:Option Addr}{f:Nat→Nat→Value}
theorem Rows.keep(h:Rows w B size A n f)(hk:∀p:Addr,p.block<B→w'.cell? p=w.cell? p):Rows w' B size A n f:=fun hn=>by
 obtain⟨ad,e,hb,hc⟩:=h hn
 exact⟨ad,e,hb,fun i j hi hj=>(hk _ (by rw[aH];exact hb)).trans (hc i j hi hj)⟩
theorem Rows.more{B':Nat}(h:Rows w B size A n f)(hB:B≤B'):Rows w B' size A n f:=fun hn=>by
 obtain⟨ad,e,hb,hc⟩:=h hn
 exact⟨ad,e,zo,hc⟩
theorem Rows.below(h:Rows w B size A n f)(hb:Below B w w'):Rows w' B size A n f:=h.keep fun _ hp=>hb.cell hp
theorem Rows.alloc(h:Rows w B size A n f)(hB:B≤w.heap.size)(o:Obj):Rows (w.alloc o) B size A n f:=h.keep fun p hp=>World.cell?_alloc_lt w o p zo
end
theorem qo(a:Addr)(i j:Nat):(a.add i).add j=a.add (i+j):=by
 unfold Addr.add
 by_cases hi:i=0 <;> by_cases hj:j=0 <;> simp[hi,hj,Nat.add_assoc]
theorem add_zero'(a:Addr):a.add 0=a:=rfl
theorem Rows.row{w:World}{B size n:Nat}{ad:Addr}{f:Nat→Nat→Value}(h:Rows w B size (some ad) n f){i:Nat}(hi:i<n):ad.block<B∧∀j,j<size→w.cell? ((ad.add (i * size)).add j)=some (f i j):=by
 obtain⟨a,e,hb,hc⟩:=h zo
 obtain rfl:ad=a:=Option.some.inj e
 exact⟨hb,fun j hj=>by rw[qo];exact hc i j hi hj⟩
theorem fG{B:Nat}{a w:World}(h:Below B a w):Below B a w.drew:=⟨h.os,h.tape,h.output,h.size,h.block⟩
theorem Fp{B:Nat}{a w:World}(h:Below B a.drew w):Below B a w:=⟨h.os,h.tape,h.output,h.size,h.block⟩
theorem below_drewN{B:Nat}{a w:World}(h:Below B a w)(n:Nat):Below B a (w.drewN n):=⟨h.os,h.tape,h.output,h.size,h.block⟩
theorem bw{B:Nat}{a w:World}(h:Below B a w:=by repeat (first|exact Below.refl _ _|assumption|refine Below.alloc ?_ (by first|omega|(simp;omega)|simp) _|refine Below.setCell ?_ (by first|omega|(simp;omega)|simp) _|refine Below.drew ?_|refine below_drewN ?_ _)):Below B a w:=h
theorem eG{p:Nat→Prop}{k:Nat}(h:∀j,j<k→p j)(hk:p k):∀j,j<k+1→p j:=fun j hj=>by
 rcases Nat.lt_or_ge j k with h1|h1
 ·exact h j h1
 ·obtain rfl:j=k:=zo
  exact hk
theorem GI{a b:ByteArray}(h:(a.toList == b.toList)=false):a≠b:=fun e=>by subst e;simp at h
def Whole(w:World)(b:Nat)(t:TypeId)(cs:Array Value):Prop:=w.heap[b]? =some (.cells cs t (0,0))
section
variable{w w':World}{b:Nat}{t:TypeId}{cs:Array Value}
theorem Whole.lt(h:Whole w b t cs):b<w.heap.size:=by
 rcases Nat.lt_or_ge b w.heap.size with h1|h1
 ·exact h1
 ·unfold Whole at h;rw[Array.getElem?_eq_none h1] at h;cases h
theorem Whole.cell(h:Whole w b t cs)(i:Nat):w.cell? ⟨b,i,none⟩=cs[i]?:=by unfold Whole at h;simp[World.cell?,h]
theorem Whole.thaw(h:Whole w b t cs)(i:Nat):w.frozen? ⟨b,i,none⟩=false:=by unfold Whole at h;simp[World.frozen?,h]
theorem Whole.of(h:Whole w b t cs)(e:w'.heap[b]? =w.heap[b]?):Whole w' b t cs:=e.trans h
theorem Whole.below{B:Nat}(h:Whole w b t cs)(hb:Below B w w')(hl:b<B):Whole w' b t cs:=h.of (hb.block b hl)
theorem Whole.alloc(h:Whole w b t cs)(o:Obj):Whole (w.alloc o) b t cs:=h.of (Below.heap_alloc w o b h.lt)
theorem Whole.grown{row:Option Nat}(h:Whole w b t cs)(hg:w.grownBy w' row)(hr:some b≠row):Whole w' b t cs:=h.of (hg.block b h.lt hr)
theorem Whole.new(w:World)(t:TypeId)(cs:Array Value):Whole (w.alloc (.cells cs t)) w.heap.size t cs:=heap_alloc_new w _
theorem Whole.set(h:Whole w b t cs)(i:Nat)(v:Value):Whole (w.setCell ⟨b,i,none⟩ v) b t (cs.setIfInBounds i v):=by
 unfold Whole at h⊢
 simp[World.setCell,Array.getElem?_modify,h]
theorem Whole.other(h:Whole w b t cs){p:Addr}(hp:b≠p.block)(v:Value):Whole (w.setCell p v) b t cs:=h.of (Below.heap_setCell w p v b hp)
end
theorem jl(w:World)(base:Nat)(e:TypeId):w.ownsRow base e 1 (.slice none 0 0) ([]:List Int).length (([]:List Int).map (int i64)):=⟨rfl,.inl ⟨rfl,rfl⟩⟩
theorem eX{w:World}{base:Nat}{e:TypeId}{size n:Nat}{v:Value}{xs:List Value}(h:w.ownsRow base e size v n xs):∃A m c,v=.slice A m c:=by
 rcases h.2 with⟨rfl,_⟩|⟨g,cap,cur,rfl,_⟩
 ·exact⟨_,_,_,rfl⟩
 ·exact⟨_,_,_,rfl⟩
theorem dF{w:World}{base:Nat}{e:TypeId}{size n:Nat}{v:Value}{xs:List Value}(h:w.ownsRow base e size v n xs):∃A c,v=.slice A n c:=by
 rcases h.2 with⟨rfl,rfl⟩|⟨g,cap,cur,rfl,_⟩
 ·exact⟨_,_,rfl⟩
 ·exact⟨_,_,rfl⟩
theorem jS{w w':World}{base:Nat}{e:TypeId}{size n:Nat}{v:Value}{xs:List Value}(h:w.ownsRow base e size v n xs)(hk:∀g,v.ownBlock=some g→g<w.heap.size→w'.heap[g]? =w.heap[g]?):w'.ownsRow base e size v n xs:=by
 refine⟨h.1,?_⟩
 rcases h.2 with h0|⟨g,cap,cur,rfl,h1,h2,h3⟩
 ·exact .inl h0
 ·refine .inr ⟨g,cap,cur,rfl,h1,?_,h3⟩
  have hl:g<w.heap.size:=by
   rcases Nat.lt_or_ge g w.heap.size with x|x
   ·exact x
   ·rw[Array.getElem?_eq_none x] at h2;cases h2
  exact(hk g rfl hl).trans h2
theorem bR{w:World}{base:Nat}{e:TypeId}{size n:Nat}{v:Value}{xs:List Value}(h:w.ownsRow base e size v n xs){g:Nat}(hg:v.ownBlock=some g):base≤g∧g<w.heap.size:=by
 rcases h.2 with⟨rfl,_⟩|⟨g',cap,cur,rfl,h1,h2,h3⟩
 ·cases hg
 ·cases hg
  refine⟨h1,?_⟩
  rcases Nat.lt_or_ge g' w.heap.size with x|x
  ·exact x
  ·rw[Array.getElem?_eq_none x] at h2;cases h2
theorem own_below{w w':World}{base:Nat}{e:TypeId}{size n:Nat}{v:Value}{xs:List Value}(h:w.ownsRow base e size v n xs)(hb:Below w.heap.size w w'):w'.ownsRow base e size v n xs:=jS h fun g _ hl=>hb.block g hl
theorem aQ{w:World}{base:Nat}{e:TypeId}{size n:Nat}{v:Value}{xs:List Value}(h:w.ownsRow base e size v n xs)(o:Obj):(w.alloc o).ownsRow base e size v n xs:=jS h fun g _ hl=>Below.heap_alloc w o g hl
theorem iN{w:World}{base:Nat}{e:TypeId}{size n:Nat}{v:Value}{xs:List Value}(h:w.ownsRow base e size v n xs){p:Addr}(hp:p.block<base)(u:Value):(w.setCell p u).ownsRow base e size v n xs:=jS h fun g hg _=>Below.heap_setCell w p u g (by have:=bR h hg;omega)
theorem oC{w w':World}{base:Nat}{e:TypeId}{size n:Nat}{v:Value}{xs:List Value}(h:w.ownsRow base e size v n xs){row:Option Nat}(hg:w.grownBy w' row)(hr:∀g,v.ownBlock=some g→some g≠row):w'.ownsRow base e size v n xs:=jS h fun g he hl=>hg.block g hl (hr g he)
theorem below_grown{w w':World}{B:Nat}{row:Option Nat}(hg:w.grownBy w' row)(hB:B≤w.heap.size)(hr:∀g,row=some g→B≤g):Below B w w':=(Below.refl B w).grown hg hB hr
structure Good where
 name:ByteArray
 cost:Int
 pack:Int
 lo:Int
 hi:Int
def Good.cell(g:Good):Nat→Value
 | 0=>.string g.name
 | 1=>int i64 g.cost
 | 2=>int i64 g.pack
 | 3=>int i64 g.lo
 | _=>int i64 g.hi
structure Mv where
 kind:Int
 good:Int
 day:Int
 lo:Int
 hi:Int
def Mv.cell(g:Mv):Nat→Value
 | 0=>int i64 g.kind
 | 1=>int i64 g.good
 | 2=>int i64 g.day
 | 3=>int i64 g.lo
 | _=>int i64 g.hi
structure Ct where
 good:Int
 day:Int
 lo:Int
 hi:Int
def Ct.cell(g:Ct):Nat→Value
 | 0=>int i64 g.good
 | 1=>int i64 g.day
 | 2=>int i64 g.lo
 | _=>int i64 g.hi
structure Bk where
 days:Int
 most:Int
 gA:Option Addr
 ng:Nat
 gc:Nat
 g:Nat→Good
 mA:Option Addr
 nm:Nat
 mc:Nat
 m:Nat→Mv
 cA:Option Addr
 nc:Nat
 cc:Nat
 c:Nat→Ct
def Bk.cells(b:Bk):Array Value:=#[int i64 b.days,int i64 b.most,.slice b.gA b.ng b.gc,.slice b.mA b.nm b.mc,.slice b.cA b.nc b.cc]
def Bk.val(b:Bk):Value:=.agg b.cells
structure Bk.At(b:Bk)(w:World)(B:Nat):Prop where
 g:Rows w B 5 b.gA b.ng (fun i=>(b.g i).cell)
 m:Rows w B 5 b.mA b.nm (fun i=>(b.m i).cell)
 c:Rows w B 4 b.cA b.nc (fun i=>(b.c i).cell)
 ng:b.ng≤maxLen
 nm:b.nm≤maxLen
 nc:b.nc≤maxLen
 name:∀i,i<b.ng→(b.g i).name.size≤maxLen
section
variable{b:Bk}{w w':World}{B:Nat}
theorem Bk.At.below(h:b.At w B)(hb:Below B w w'):b.At w' B:=⟨h.g.below hb,h.m.below hb,h.c.below hb,h.ng,h.nm,h.nc,h.name⟩
theorem Bk.At.alloc(h:b.At w B)(hB:B≤w.heap.size)(o:Obj):b.At (w.alloc o) B:=⟨h.g.alloc hB o,h.m.alloc hB o,h.c.alloc hB o,h.ng,h.nm,h.nc,h.name⟩
theorem Bk.At.more{B':Nat}(h:b.At w B)(hB:B≤B'):b.At w B':=⟨h.g.more hB,h.m.more hB,h.c.more hB,h.ng,h.nm,h.nc,h.name⟩
end
end
section
open Go
def FF:Fence:={fn:=fun g=>(3≤g∧g<109)∨(113≤g∧g<135)∨(153≤g∧g<171)∨(176≤g∧g<188) }
@[simp] theorem qz(g:FuncId):FF.fn g↔(3≤g∧g<109)∨(113≤g∧g<135)∨(153≤g∧g<171)∨(176≤g∧g<188):=Iff.rfl
@[simp] theorem ov:FF.depth=none:=rfl
@[simp] theorem ox:FF.round=none:=rfl
theorem bL(n:Nat):FF.room n:=fun d h=>by cases h
theorem rC:FF.alive=true:=rfl
def eK(g:Nat):Bool:=(decide (3≤g) && decide (g<109)) || (decide (113≤g) && decide (g<135)) || (decide (153≤g) && decide (g<171)) || (decide (176≤g) && decide (g<188))
theorem SN{g:Nat}:FF.fn g↔eK g=true:=by
 rw[qz]
 simp only[eK,Bool.or_eq_true,Bool.and_eq_true,decide_eq_true_eq,or_assoc]
end
section
open Go.RowKit
def fU(n lo hi:Int):Bool:=decide (lo≤n) && decide (n≤hi)
theorem bI{n lo hi:Int}:fU n lo hi=true↔lo≤n∧n≤hi:=by simp[fU]
theorem qC(n lo hi:Int)(w:World):
 CallsIn FF 0 prog 11 #[int i64 n,int i64 lo,int i64 hi] w fun e w'=>e=.returned (.bool (fU n lo hi))∧w=w':=by
 gi_enter func11,ntmps11
 gi_wp2
 all_goals (go_ret;refine⟨?_,rfl⟩;congr 2;unfold fU;first|rfl|(simp;omega)|simp_all)
def kP(a b lo hi:Int):Bool:=decide (lo≤a) && decide (a≤b) && decide (b≤hi)
theorem og{a b lo hi:Int}:kP a b lo hi=true↔(lo≤a∧a≤b)∧b≤hi:=by simp[kP]
theorem yJ(a b lo hi:Int)(w:World):
 CallsIn FF 0 prog 87 #[.agg #[int i64 a,int i64 b],int i64 lo,int i64 hi] w fun e w'=>e=.returned (.bool (kP a b lo hi))∧Below w.heap.size w w':=by
 gi_enter func87,ntmps87
 gi_wp2
 all_goals (go_ret;refine⟨?_,bw⟩;congr 2;unfold kP;first|rfl|(simp;omega)|simp_all)
def wM(a b:Int):Bool:=kP a b 0 99 && decide (b - a<3)
theorem DK(a b:Int)(w:World):
 CallsIn FF 0 prog 86 #[.agg #[int i64 a,int i64 b]] w fun e w'=>e=.returned (.bool (wM a b))∧Below w.heap.size w w':=by
 gi_enter func86,ntmps86
 gi_wp2_with (gi_at_call 87;refine(yJ _ _ _ _ _).mono ?_;rintro e w' ⟨rfl,hb⟩;obtain⟨hc,hf⟩:=fF hb)
 all_goals (go_ret;refine⟨?_,((Below.refl _ _).alloc (Nat.le_refl _) _).trans (hb.mono zs)⟩;congr 2)
 ·have h:kP a b 0 99=true:=zt
  have h':=og.1 h
  have e:wrap64 (b - a)=b - a:=IntWalk.wrap64_in _ zo
  show Value.bool (decide (wrap64 (b - a)<3))=_
  unfold wM
  rw[h,e]
  rfl
 ·have h:kP a b 0 99=false:=zt
  unfold wM
  rw[h]
  rfl
def Ea(c:Int):Bool:=decide (97≤c) && decide (c≤122)
def Jz(c:Int):Bool:=decide (48≤c) && decide (c≤57)
theorem Xe(c:Int)(w:World):
 CallsIn FF 0 prog 113 #[.int .u8 c] w fun e w'=>e=.returned (.bool (Ea c))∧w=w':=by
 gi_enter func113,ntmps113
 gi_wp2
 all_goals (go_ret;refine⟨?_,rfl⟩;congr 2;unfold Ea;first|rfl|(simp;omega)|simp_all)
theorem Wp(c:Int)(w:World):
 CallsIn FF 0 prog 114 #[.int .u8 c] w fun e w'=>e=.returned (.bool (Jz c))∧w=w':=by
 gi_enter func114,ntmps114
 gi_wp2
 all_goals (go_ret;refine⟨?_,rfl⟩;congr 2;unfold Jz;first|rfl|(simp;omega)|simp_all)
def nameAt(s:ByteArray)(i:Nat):Bool:=Ea ((s[i]?.getD 0).toNat:Int) || (decide (i≠0) && Jz ((s[i]?.getD 0).toNat:Int))
def jO(s:ByteArray):Bool:=decide (1≤s.size) && decide (s.size≤10) && decide (∀i,i<s.size→nameAt s i=true)
theorem CS{p:Nat→Bool}{k:Nat}(h:∀j,j<k→p j=true)(hk:p k=true):∀j,j<k+1→p j=true:=fun j hj=>by
 rcases Nat.lt_or_ge j k with h1|h1
 ·exact h j h1
 ·obtain rfl:j=k:=zo
  exact hk
theorem GH{s:ByteArray}(h:s.size<1):jO s=false:=by unfold jO;rw[decide_eq_false zo];rfl
theorem Kc{s:ByteArray}(h:10<s.size):jO s=false:=by unfold jO;rw[decide_eq_false (p:=s.size≤10) zo];simp
theorem OE{s:ByteArray}(h:1≤s.size)(h':s.size≤10)(hN:∀j,j<s.size→nameAt s j=true):jO s=true:=by unfold jO;simp[h,h'];exact hN
theorem lJ{s:ByteArray}{k:Nat}(hk:k<s.size):nameAt s k=(Ea (s[k].toNat:Int) || (decide (k≠0) && Jz (s[k].toNat:Int))):=by
 unfold nameAt
 have e:s[k]? =some s[k]:=by simp[hk]
 rw[e]
 rfl
theorem Ce{s:ByteArray}{k:Nat}(hk:k<s.size)(h:nameAt s k=false):jO s=false:=by
 unfold jO
 rw[decide_eq_false (p:=∀i,i<s.size→nameAt s i=true) (fun hh=>by rw[hh k hk] at h;cases h)];simp
theorem Tp(s:ByteArray)(w:World)(hs:s.size≤maxLen):
 CallsIn FF 0 prog 85 #[.string s] w fun e w'=>e=.returned (.bool (jO s))∧w'=w:=by
 unfold maxLen at hs
 gi_enter func85,ntmps85
 gi_wp2
 ·have h:(s.size:Int)<1:=by assumption
  go_ret
  exact⟨by rw[GH zo];rfl,rfl⟩
 ·have h:10<(s.size:Int):=by assumption
  go_ret
  exact⟨by rw[Kc zo];rfl,rfl⟩
 ·have h:(s.size:Int)≤10:=by assumption
  have h1:1≤(s.size:Int):=by assumption
  gi_loop [3] (fun i=>∃k:Nat,k≤s.size∧i=int i64 k∧Hid (∀j,j<k→nameAt s j=true)) (fun i=>s.size - (intOf i).toNat)
  case atStart=>exact⟨0,Nat.zero_le _,rfl,hid (fun j hj=>absurd hj (Nat.not_lt_zero j))⟩
  case round=>
   obtain⟨k,hk,rfl,hN⟩:=hrel
   by_cases hlt:k<s.size
   ·gi_wp2_with (first|(exact absurd ‹some undef=some (Value.bool _)› (by simp[undef]))|(gi_at_call 113;refine(Xe _ _).mono ?_;rintro e w' ⟨rfl,rfl⟩)|(gi_at_call 114;refine(Wp _ _).mono ?_;rintro e w' ⟨rfl,rfl⟩))
    ·have hl:Ea (s[k].toNat:Int)=false:=zt
     have h0:(k:Int)=0:=by assumption
     go_ret
     exact⟨by rw[Ce hlt (by rw[lJ hlt,hl,decide_eq_false zo];rfl)];rfl,rfl⟩
    ·have hl:Ea (s[k].toNat:Int)=false:=zt
     have hd:(!Jz (s[k].toNat:Int))=true:=zt
     go_ret
     exact⟨by rw[Ce hlt (by rw[lJ hlt,hl];simp at hd;simp[hd])];rfl,rfl⟩
    ·have hl:Ea (s[k].toNat:Int)=false:=zt
     have h0:¬ (k:Int)=0:=by assumption
     have hd:(!Jz (s[k].toNat:Int))=false:=zt
     have hk1:nameAt s k=true:=by rw[lJ hlt,hl,decide_eq_true zo];simp at hd;simp[hd]
     go_round
     case rel=>exact⟨k+1,zo,by go_num,hid (CS hN.out hk1)⟩
     case measure=>simp[intOf];omega
    ·have hl:Ea (s[k].toNat:Int)=true:=zt
     have hk1:nameAt s k=true:=by rw[lJ hlt,hl];rfl
     go_round
     case rel=>exact⟨k+1,zo,by go_num,hid (CS hN.out hk1)⟩
     case measure=>simp[intOf];omega
   ·gi_wp2
    go_ret
    exact⟨by rw[OE zo zo (by obtain rfl:k=s.size:=zo
                             exact hN.out)];rfl,rfl⟩
structure Good.ok(b:Bk)(i:Nat):Prop where
 name:jO (b.g i).name=true
 other:∀j,j<i→(b.g j).name≠(b.g i).name
 cost:0≤(b.g i).cost∧(b.g i).cost≤999
 pack:1≤(b.g i).pack∧(b.g i).pack≤20
 few:wM (b.g i).lo (b.g i).hi=true
def kg(b:Bk):Prop:=(1≤b.ng∧b.ng≤3)∧∀i,i<b.ng→Good.ok b i
def gI(Q:Prop)(w:World)(e:Ending)(w':World):Prop:=∃l:Int,e=.returned (int i64 l)∧(l=0→Q)∧Below w.heap.size w w'
theorem JI(b:Bk)(w:World)(h:¬ (1≤b.ng∧b.ng≤3))(hn:b.ng≤maxLen):CallsIn FF 0 prog 49 #[b.val] w (gI (kg b) w):=by
 unfold Bk.val Bk.cells
 unfold maxLen at hn
 have hI:fU (b.ng:Int) 1 3=false:=by unfold fU;simp;omega
 have H:∀w,CallsIn FF 0 prog 11 #[int i64 b.ng,int i64 1,int i64 3] w fun e w'=>e=.returned (.bool false)∧w=w':=fun w=>by have:=qC b.ng 1 3 w;rwa[hI] at this
 clear hI
 gi_enter func49,ntmps49
 gi_wp2_with (gi_at_call 11;refine(H _).mono ?_;rintro e w' ⟨rfl,rfl⟩)
 go_ret
 exact⟨2,rfl,(fun h=>absurd h zD),bw⟩
theorem JJ(b:Bk)(ad:Addr)(w:World)(h:b.At w w.heap.size)(hA:b.gA=some ad)(hn:1≤b.ng∧b.ng≤3):CallsIn FF 0 prog 49 #[b.val] w (gI (kg b) w):=by
 obtain⟨days,most,gA,ng,gc,g,mA,nm,mc,m,cA,nc,cc,c⟩:=b
 simp only at hA hn
 subst hA
 obtain⟨hn1,Qk⟩:=hn
 have hI:fU (ng:Int) 1 3=true:=by unfold fU;simp;omega
 have H:∀w,CallsIn FF 0 prog 11 #[int i64 ng,int i64 1,int i64 3] w fun e w'=>e=.returned (.bool true)∧w=w':=fun w=>by have:=qC ng 1 3 w;rwa[hI] at this
 clear hI
 simp only[Bk.val,Bk.cells]
 have Hh:=hid h
 have hg:=h.g
 clear h
 gi_enter func49,ntmps49
 gi_wp2_with (gi_at_call 11;refine(H _).mono ?_;rintro e w' ⟨rfl,rfl⟩)
 gi_loopw [3] (fun i wr=>∃k:Nat,k≤ng∧i=int i64 k∧Below (w.heap.size+1) (w.alloc (.cells #[int i64 days,int i64 most,.slice (some ad) ng gc,.slice mA nm mc,.slice cA nc cc] 26)) wr∧Hid (∀i,i<k→Good.ok ⟨days,most,some ad,ng,gc,g,mA,nm,mc,m,cA,nc,cc,c⟩ i)) (fun i _=>ng - (intOf i).toNat)
 case atStart=>exact⟨0,Nat.zero_le _,rfl,Below.refl _ _,hid (fun j hj=>absurd hj (Nat.not_lt_zero j))⟩
 case round=>
  obtain⟨k,hk,rfl,hb,hN⟩:=hrel
  have hsz:w.heap.size+1≤wr.heap.size:=by have:=hb.size;simpa using this
  have jM:∀o,wr.cell? ⟨w.heap.size,o,none⟩=(w.alloc (.cells #[int i64 days,int i64 most,.slice (some ad) ng gc,.slice mA nm mc,.slice cA nc cc] 26)).cell? ⟨w.heap.size,o,none⟩:=fun o=>hb.cell (p:=⟨w.heap.size,o,none⟩) zs
  by_cases hlt:k<ng
  ·have hr:=(((hg.alloc (Nat.le_refl _) _).more (Nat.le_succ _)).below hb).row hlt
   have c0:wr.cell? (ad.add (k * 5))=some (.string (g k).name):=hr.2 0 zD
   have c1:wr.cell? ⟨(ad.add (k * 5)).block,(ad.add (k * 5)).off+1,none⟩=some (int i64 (g k).cost):=hr.2 1 zD
   have c2:wr.cell? ⟨(ad.add (k * 5)).block,(ad.add (k * 5)).off+2,none⟩=some (int i64 (g k).pack):=hr.2 2 zD
   have c3:wr.cell? ⟨(ad.add (k * 5)).block,(ad.add (k * 5)).off+3,none⟩=some (int i64 (g k).lo):=hr.2 3 zD
   have c4:wr.cell? ⟨(ad.add (k * 5)).block,(ad.add (k * 5)).off+4,none⟩=some (int i64 (g k).hi):=hr.2 4 zD
   clear hr
   have hnm:(g k).name.size≤maxLen:=Hh.out.name k hlt
   gi_wp2_with (gi_at_call 85;refine(Tp _ _ hnm).mono ?_;rintro e w' ⟨rfl,rfl⟩)
   ·have hbad:(!jO (g k).name)=true:=zt
    go_ret
    exact⟨4,rfl,(fun h=>absurd h zD),((((Below.refl _ _).alloc (Nat.le_refl _) _).trans (hb.mono zs))).trans (bw)⟩
   ·have hname:(!jO (g k).name)=false:=zt
    obtain⟨wo,rfl⟩:∃wo:World,wo=wr:=⟨_,rfl⟩
    gi_loopw [5] (fun j wj=>∃q:Nat,q≤k∧j=int i64 q∧Below (wo.heap.size+1) (wo.alloc (.cells #[.string (g k).name,int i64 (g k).cost,int i64 (g k).pack,int i64 (g k).lo,int i64 (g k).hi] 40)) wj∧Hid (∀i,i<q→(g i).name≠(g k).name)) (fun j _=>k - (intOf j).toNat)
    case atStart=>exact⟨0,Nat.zero_le _,rfl,Below.refl _ _,hid (fun j hj=>absurd hj (Nat.not_lt_zero j))⟩
    case round=>
     obtain⟨q,hq,rfl,hbj,hM⟩:=hrel
     have hxj:∀o,wr.cell? ⟨wo.heap.size,o,none⟩=(wo.alloc (.cells #[.string (g k).name,int i64 (g k).cost,int i64 (g k).pack,int i64 (g k).lo,int i64 (g k).hi] 40)).cell? ⟨wo.heap.size,o,none⟩:=fun o=>hbj.cell (p:=⟨wo.heap.size,o,none⟩) zs
     have Sc:∀o,wr.cell? ⟨w.heap.size,o,none⟩=(w.alloc (.cells #[int i64 days,int i64 most,.slice (some ad) ng gc,.slice mA nm mc,.slice cA nc cc] 26)).cell? ⟨w.heap.size,o,none⟩:=fun o=>((hbj.cell (p:=⟨w.heap.size,o,none⟩) zm).trans (World.cell?_alloc_lt wo _ _ zm)).trans (jM o)
     clear jM
     have hB:Below w.heap.size w wr:=(((Below.refl _ _).alloc (Nat.le_refl _) _).trans (hb.mono zs)).trans (((Below.refl _ _).alloc zo _).trans (hbj.mono zo))
     have hsz2:wo.heap.size+1≤wr.heap.size:=by have:=hbj.size;simpa using this
     by_cases hq2:q<k
     ·have hr:=((((hg.alloc (Nat.le_refl _) _).more (Nat.le_succ _)).below hb).more hsz).alloc (Nat.le_refl _) (.cells #[.string (g k).name,int i64 (g k).cost,int i64 (g k).pack,int i64 (g k).lo,int i64 (g k).hi] 40)
      have d0:wr.cell? (ad.add (q * 5))=some (.string (g q).name):=((hr.more (Nat.le_succ _)).below hbj |>.row (show q<ng by omega)).2 0 zD
      clear hr
      clear c0 c1 c2 c3 c4
      gi_wp2
      gi_quiet (fail)
      gi_wp2
      ·go_ret
       exact⟨5,rfl,(fun h=>absurd h zD),below_drewN hB _⟩
      ·have hne:((g q).name.toList == (g k).name.toList)=false:=zt
       go_roundw
       case rel=>exact⟨q+1,zo,by go_num,below_drewN hbj _,hid (eG hM.out (GI hne))⟩
       case measure=>simp[intOf];omega
     ·obtain rfl:q=k:=zo
      gi_wp2_with (first|(exact absurd ‹some undef=some (Value.bool _)› (by simp[undef]))|(gi_at_call 11;refine(qC _ _ _ _).mono ?_;rintro e w' ⟨rfl,rfl⟩)|(gi_at_call 86;refine(DK _ _ _).mono ?_;rintro e w' ⟨rfl,hbf⟩;obtain⟨hcf,pT⟩:=fF hbf))
      ·go_ret
       exact⟨1,rfl,(fun h=>absurd h zD),hB⟩
      ·go_ret
       exact⟨1,rfl,(fun h=>absurd h zD),hB⟩
      ·go_ret
       exact⟨1,rfl,(fun h=>absurd h zD),hB.trans (hbf.mono zo)⟩
      ·have h1:fU (g q).cost 0 999=true:=zt
       have h2:fU (g q).pack 1 20=true:=zt
       have h3:(!wM (g q).lo (g q).hi)=false:=zt
       go_roundw
       case rel=>exact⟨q+1,zo,by go_num,(hb.trans (((Below.refl _ _).alloc zo _).trans (hbj.mono zo))).trans (hbf.mono zo),hid (eG hN.out ⟨by simpa using hname,hM.out,bI.1 h1,bI.1 h2,by simpa using h3⟩)⟩
       case measure=>simp[intOf];omega
  ·obtain rfl:k=ng:=zo
   gi_wp2_with fail
   go_ret
   exact⟨0,rfl,(fun _=>⟨⟨hn1,Qk⟩,hN.out⟩),(((Below.refl _ _).alloc (Nat.le_refl _) _).trans (hb.mono zs))⟩
theorem NY(b:Bk)(w:World)(h:b.At w w.heap.size):CallsIn FF 0 prog 49 #[b.val] w (gI (kg b) w):=by
 by_cases hn:1≤b.ng∧b.ng≤3
 ·obtain⟨ad,hA,_⟩:=h.g zo
  exact JJ b ad w h hA hn
 ·exact JI b w hn h.ng
structure Mv.ok(b:Bk)(i:Nat):Prop where
 kind:0≤(b.m i).kind∧(b.m i).kind≤4
 good:0≤(b.m i).good∧(b.m i).good≤(b.ng:Int) - 1
 day:1≤(b.m i).day∧(b.m i).day≤b.days
 order:0<i→(b.m (i - 1)).day≤(b.m i).day
 few:wM (b.m i).lo (b.m i).hi=true
def kr(b:Bk):Prop:=b.nm≤6∧∀i,i<b.nm→Mv.ok b i
theorem J8(b:Bk)(w:World)(h0:b.nm=0)(hn:b.ng≤maxLen):CallsIn FF 0 prog 50 #[b.val] w (gI (kr b) w):=by
 obtain⟨days,most,gA,ng,gc,g,mA,nm,mc,m,cA,nc,cc,c⟩:=b
 simp only at h0 hn
 subst h0
 simp only[Bk.val,Bk.cells]
 unfold maxLen at hn
 gi_enter func50,ntmps50
 gi_wp2
 refine wpIn_loop_rounds 1 ?_
 rw[roundsIn_succ]
 gi_wp2
 go_ret
 exact⟨0,rfl,(fun _=>⟨zs,fun i hi=>absurd hi (Nat.not_lt_zero i)⟩),bw⟩
theorem Ka(b:Bk)(ad:Addr)(w:World)(h:b.At w w.heap.size)(hA:b.mA=some ad)(hd:-9223372036854775808≤b.days∧b.days≤9223372036854775807):CallsIn FF 0 prog 50 #[b.val] w (gI (kr b) w):=by
 obtain⟨days,most,gA,ng,gc,g,mA,nm,mc,m,cA,nc,cc,c⟩:=b
 simp only at hA hd
 subst hA
 obtain⟨hd1,hd2⟩:=hd
 simp only[Bk.val,Bk.cells]
 have Hh:=hid h
 have hm:=h.m
 have hn:=h.ng
 have hnm:=h.nm
 simp only at hm hn hnm
 unfold maxLen at hn hnm
 clear h
 gi_enter func50,ntmps50
 gi_wp2
 ·go_ret
  exact⟨2,rfl,(fun h=>absurd h zD),bw⟩
 have hn6:(nm:Int)≤6:=by assumption
 gi_loopw [3] (fun i wr=>∃k:Nat,k≤nm∧i=int i64 k∧Below (w.heap.size+1) (w.alloc (.cells #[int i64 days,int i64 most,.slice gA ng gc,.slice (some ad) nm mc,.slice cA nc cc] 26)) wr∧Hid (∀i,i<k→Mv.ok ⟨days,most,gA,ng,gc,g,some ad,nm,mc,m,cA,nc,cc,c⟩ i)) (fun i _=>nm - (intOf i).toNat)
 case atStart=>exact⟨0,Nat.zero_le _,rfl,Below.refl _ _,hid (fun j hj=>absurd hj (Nat.not_lt_zero j))⟩
 case round=>
  obtain⟨k,hk,rfl,hb,hN⟩:=hrel
  have hsz:w.heap.size+1≤wr.heap.size:=by have:=hb.size;simpa using this
  have jM:∀o,wr.cell? ⟨w.heap.size,o,none⟩=(w.alloc (.cells #[int i64 days,int i64 most,.slice gA ng gc,.slice (some ad) nm mc,.slice cA nc cc] 26)).cell? ⟨w.heap.size,o,none⟩:=fun o=>hb.cell (p:=⟨w.heap.size,o,none⟩) zs
  have hB:Below w.heap.size w wr:=((Below.refl _ _).alloc (Nat.le_refl _) _).trans (hb.mono zs)
  by_cases hlt:k<nm
  ·have hr:=(((hm.alloc (Nat.le_refl _) _).more (Nat.le_succ _)).below hb).row hlt
   have c0:wr.cell? (ad.add (k * 5))=some (int i64 (m k).kind):=hr.2 0 zD
   have c1:wr.cell? ⟨(ad.add (k * 5)).block,(ad.add (k * 5)).off+1,none⟩=some (int i64 (m k).good):=hr.2 1 zD
   have c2:wr.cell? ⟨(ad.add (k * 5)).block,(ad.add (k * 5)).off+2,none⟩=some (int i64 (m k).day):=hr.2 2 zD
   have c3:wr.cell? ⟨(ad.add (k * 5)).block,(ad.add (k * 5)).off+3,none⟩=some (int i64 (m k).lo):=hr.2 3 zD
   have c4:wr.cell? ⟨(ad.add (k * 5)).block,(ad.add (k * 5)).off+4,none⟩=some (int i64 (m k).hi):=hr.2 4 zD
   clear hr
   have Sq:w.heap.size<wr.heap.size:=hsz
   gi_wp2_with (gi_at_call 11;refine(qC _ _ _ _).mono ?_;rintro e w' ⟨rfl,rfl⟩)
   ·go_ret
    exact⟨1,rfl,(fun h=>absurd h zD),hB.trans (bw)⟩
   ·go_ret
    exact⟨1,rfl,(fun h=>absurd h zD),hB.trans (bw)⟩
   ·go_ret
    exact⟨6,rfl,(fun h=>absurd h zD),hB.trans (bw)⟩
   ·go_ret
    exact⟨1,rfl,(fun h=>absurd h zD),hB.trans (bw)⟩
   have k1:(m k).kind≤4:=by assumption
   have k2:0≤(m k).kind:=by assumption
   have k3:(!fU (m k).good 0 ((ng:Int) - 1))=false:=zt
   have k4:(!fU (m k).day 1 days)=false:=zt
   by_cases hk0:0<k
   ·have hd:decide (0<(k:Int))=true:=zm
    have hr:=(((hm.alloc (Nat.le_refl _) _).more (Nat.le_succ _)).below hb).row (show k - 1<nm by omega)
    have d2:wr.cell? ⟨(ad.add ((k - 1) * 5)).block,(ad.add ((k - 1) * 5)).off+2,none⟩=some (int i64 (m (k - 1)).day):=hr.2 2 zD
    have hl2:(ad.add ((k - 1) * 5)).block<wr.heap.size:=by rw[aH];have:=hr.1;omega
    clear hr c0 c1 c2 c3 c4
    have e2:0≤(k:Int) - 1:=zo
    have e2':1≤(k:Int):=zo
    have e4:(k:Int) - 1<nm:=zo
    have e3:((k:Int) - 1).toNat=k - 1:=zo
    have e1:IntKind.i64.wrap ((k:Int) - 1)=(k:Int) - 1:=IntWalk.i64_in _ zo
    gi_quiet (fail)
    clear e1 e3
    gi_wp2_with (gi_at_call 86;refine(DK _ _ _).mono ?_;rintro e w' ⟨rfl,hbf⟩;obtain⟨hcf,pT⟩:=fF hbf)
    ·go_ret
     exact⟨7,rfl,(fun h=>absurd h zD),hB.trans (bw)⟩
    ·go_ret
     exact⟨1,rfl,(fun h=>absurd h zD),hB.trans ((bw:Below w.heap.size wr _).trans (hbf.mono zm))⟩
    ·have k5:(!wM (m k).lo (m k).hi)=false:=zt
     have k6:(m (k - 1)).day≤(m k).day:=by assumption
     go_roundw
     case rel=>exact⟨k+1,zo,by go_num,hb.trans ((bw:Below (w.heap.size+1) wr _).trans (hbf.mono zm)),hid (eG hN.out ⟨⟨k2,k1⟩,bI.1 (by simpa using k3),bI.1 (by simpa using k4),(fun _=>k6),by simpa using k5⟩)⟩
     case measure=>simp[intOf];omega
   ·have hd:decide (0<(k:Int))=false:=zm
    clear c0 c1 c2 c3 c4
    gi_quiet (fail)
    gi_wp2_with (gi_at_call 86;refine(DK _ _ _).mono ?_;rintro e w' ⟨rfl,hbf⟩;obtain⟨hcf,pT⟩:=fF hbf)
    ·go_ret
     exact⟨1,rfl,(fun h=>absurd h zD),hB.trans ((bw:Below w.heap.size wr _).trans (hbf.mono zm))⟩
    ·have k5:(!wM (m k).lo (m k).hi)=false:=zt
     go_roundw
     case rel=>exact⟨k+1,zo,by go_num,hb.trans ((bw:Below (w.heap.size+1) wr _).trans (hbf.mono zm)),hid (eG hN.out ⟨⟨k2,k1⟩,bI.1 (by simpa using k3),bI.1 (by simpa using k4),(fun h=>absurd h hk0),by simpa using k5⟩)⟩
     case measure=>simp[intOf];omega
  ·obtain rfl:k=nm:=zo
   gi_wp2_with fail
   go_ret
   exact⟨0,rfl,(fun _=>⟨zn,hN.out⟩),hB⟩
theorem OC(b:Bk)(w:World)(h:b.At w w.heap.size)(hd:-9223372036854775808≤b.days∧b.days≤9223372036854775807):CallsIn FF 0 prog 50 #[b.val] w (gI (kr b) w):=by
 by_cases hn:b.nm=0
 ·exact J8 b w hn h.ng
 ·obtain⟨ad,hA,_⟩:=h.m zo
  exact Ka b ad w h hA hd
structure Ct.ok(b:Bk)(c:Ct):Prop where
 good:0≤c.good∧c.good≤(b.ng:Int) - 1
 day:0≤c.day∧c.day≤b.days
 many:(0≤c.lo∧c.lo≤c.hi)∧c.hi≤999
theorem ND(b:Bk)(c:Ct)(w:World)(hn:b.ng≤maxLen):CallsIn FF 0 prog 51 #[b.val,.agg #[int i64 c.good,int i64 c.day,int i64 c.lo,int i64 c.hi]] w (gI (Ct.ok b c) w):=by
 simp only[Bk.val,Bk.cells]
 unfold maxLen at hn
 gi_enter func51,ntmps51
 gi_wp2_with (first|(exact absurd ‹some undef=some (Value.bool _)› (by simp[undef]))|(gi_at_call 11;refine(qC _ _ _ _).mono ?_;rintro e w' ⟨rfl,rfl⟩)|(gi_at_call 87;refine(yJ _ _ _ _ _).mono ?_;rintro e w' ⟨rfl,hbf⟩;obtain⟨hcf,pT⟩:=fF hbf))
 ·go_ret
  exact⟨6,rfl,(fun h=>absurd h zD),bw⟩
 ·go_ret
  exact⟨1,rfl,(fun h=>absurd h zD),bw⟩
 ·go_ret
  exact⟨1,rfl,(fun h=>absurd h zD),(bw:Below w.heap.size w _).trans (hbf.mono zm)⟩
 ·have k1:(!fU c.good 0 ((b.ng:Int) - 1))=false:=zt
  have k2:fU c.day 0 b.days=true:=zt
  have k3:(!kP c.lo c.hi 0 999)=false:=zt
  go_ret
  exact⟨0,rfl,(fun _=>⟨bI.1 (by simpa using k1),bI.1 k2,og.1 (by simpa using k3)⟩),(bw:Below w.heap.size w _).trans (hbf.mono zm)⟩
structure Bk.Ok(b:Bk):Prop where
 days:1≤b.days∧b.days≤99
 most:0≤b.most∧b.most≤2
 bM:kg b
 moves:kr b
 counts:b.nc≤4∧∀i,i<b.nc→Ct.ok b (b.c i)
section
variable{days most:Int}{gA mA cA:Option Addr}{ng gc nm mc nc cc:Nat}{g:Nat→Good}{m:Nat→Mv}{c:Nat→Ct}
theorem LK(w:World)(h:(⟨days,most,gA,ng,gc,g,mA,nm,mc,m,cA,nc,cc,c⟩:Bk).At w w.heap.size):CallsIn FF 0 prog 49 #[.agg #[int i64 days,int i64 most,.slice gA ng gc,.slice mA nm mc,.slice cA nc cc]] w (gI (kg ⟨days,most,gA,ng,gc,g,mA,nm,mc,m,cA,nc,cc,c⟩) w):=NY _ w h
theorem Mk(w:World)(h:(⟨days,most,gA,ng,gc,g,mA,nm,mc,m,cA,nc,cc,c⟩:Bk).At w w.heap.size)(hd:-9223372036854775808≤days∧days≤9223372036854775807):CallsIn FF 0 prog 50 #[.agg #[int i64 days,int i64 most,.slice gA ng gc,.slice mA nm mc,.slice cA nc cc]] w (gI (kr ⟨days,most,gA,ng,gc,g,mA,nm,mc,m,cA,nc,cc,c⟩) w):=OC _ w h hd
theorem Wm(k:Nat)(w:World)(hn:ng≤maxLen):CallsIn FF 0 prog 51 #[.agg #[int i64 days,int i64 most,.slice gA ng gc,.slice mA nm mc,.slice cA nc cc],.agg #[int i64 (c k).good,int i64 (c k).day,int i64 (c k).lo,int i64 (c k).hi]] w (gI (Ct.ok ⟨days,most,gA,ng,gc,g,mA,nm,mc,m,cA,nc,cc,c⟩ (c k)) w):=ND ⟨days,most,gA,ng,gc,g,mA,nm,mc,m,cA,nc,cc,c⟩ (c k) w hn
theorem Jr(w:World)(h:(⟨days,most,gA,ng,gc,g,mA,nm,mc,m,cA,0,cc,c⟩:Bk).At w w.heap.size)(hd:-9223372036854775808≤days∧days≤9223372036854775807):CallsIn FF 0 prog 23 #[.agg #[int i64 days,int i64 most,.slice gA ng gc,.slice mA nm mc,.slice cA 0 cc]] w (gI (Bk.Ok ⟨days,most,gA,ng,gc,g,mA,nm,mc,m,cA,0,cc,c⟩) w):=by
 have Hh:=hid h
 clear h
 gi_enter func23,ntmps23
 gi_wp2_with (first
  | (gi_at_call 11;refine(qC _ _ _ _).mono ?_;rintro e w' ⟨rfl,rfl⟩)
  | (gi_at_call 49;refine(LK _ ((Hh.out.alloc (Nat.le_refl _) _).more zs)).mono ?_;rintro e w1 ⟨l1,rfl,hl1,hb1⟩;obtain⟨hc1,hf1⟩:=fF hb1;have hs1:=hb1.size;have H1:=hid (((Hh.out.alloc (Nat.le_refl _) _).more zs).below hb1 |>.more hs1);have L1:=hid hl1;clear hl1;simp at hs1;have hlt1:w.heap.size<w1.heap.size:=hs1)
  | (gi_at_call 50;refine(Mk _ H1.out hd).mono ?_;rintro e w2 ⟨l2,rfl,hl2,hb2⟩;obtain⟨hc2,hf2⟩:=fF hb2;have hs2:=hb2.size;have L2:=hid hl2;clear hl2))
 ·go_ret
  exact⟨1,rfl,(fun h=>absurd h zD),bw⟩
 ·go_ret
  exact⟨1,rfl,(fun h=>absurd h zD),bw⟩
 ·have hne:(l1 != 0)=true:=zt
  go_ret
  exact⟨l1,rfl,(fun h=>by rw[h] at hne;cases hne),((Below.refl _ _).alloc (Nat.le_refl _) _).trans (hb1.mono zs)⟩
 ·have hne:(l2 != 0)=true:=zt
  go_ret
  exact⟨l2,rfl,(fun h=>by rw[h] at hne;cases hne),(((Below.refl _ _).alloc (Nat.le_refl _) _).trans (hb1.mono zs)).trans (hb2.mono zo)⟩
 ·have k1:fU days 1 99=true:=zt
  have k2:(!fU most 0 2)=false:=zt
  have k3:(l1 != 0)=false:=zt
  have k4:(l2 != 0)=false:=zt
  refine wpIn_loop_rounds 1 ?_
  rw[roundsIn_succ]
  gi_wp2
  go_ret
  exact⟨0,rfl,(fun _=>⟨bI.1 k1,bI.1 (by simpa using k2),L1.out (by simpa using k3),L2.out (by simpa using k4),zs,fun i hi=>absurd hi (Nat.not_lt_zero i)⟩),(((Below.refl _ _).alloc (Nat.le_refl _) _).trans (hb1.mono zs)).trans (hb2.mono zo)⟩
theorem Js(ad:Addr)(w:World)(h:(⟨days,most,gA,ng,gc,g,mA,nm,mc,m,some ad,nc,cc,c⟩:Bk).At w w.heap.size)(hd:-9223372036854775808≤days∧days≤9223372036854775807):CallsIn FF 0 prog 23 #[.agg #[int i64 days,int i64 most,.slice gA ng gc,.slice mA nm mc,.slice (some ad) nc cc]] w (gI (Bk.Ok ⟨days,most,gA,ng,gc,g,mA,nm,mc,m,some ad,nc,cc,c⟩) w):=by
 have Hh:=hid h
 have hnc:=h.nc
 simp only at hnc
 unfold maxLen at hnc
 have BK:=h.ng
 clear h
 gi_enter func23,ntmps23
 gi_wp2_with (first
  | (gi_at_call 11;refine(qC _ _ _ _).mono ?_;rintro e w' ⟨rfl,rfl⟩)
  | (gi_at_call 49;refine(LK _ ((Hh.out.alloc (Nat.le_refl _) _).more zs)).mono ?_;rintro e w1 ⟨l1,rfl,hl1,hb1⟩;obtain⟨hc1,hf1⟩:=fF hb1;have hs1:=hb1.size;have H1:=hid (((Hh.out.alloc (Nat.le_refl _) _).more zs).below hb1 |>.more hs1);have L1:=hid hl1;clear hl1;simp at hs1;have hlt1:w.heap.size<w1.heap.size:=hs1)
  | (gi_at_call 50;refine(Mk _ H1.out hd).mono ?_;rintro e w2 ⟨l2,rfl,hl2,hb2⟩;obtain⟨hc2,hf2⟩:=fF hb2;have hs2:=hb2.size;have L2:=hid hl2;clear hl2))
 ·go_ret
  exact⟨1,rfl,(fun h=>absurd h zD),bw⟩
 ·go_ret
  exact⟨1,rfl,(fun h=>absurd h zD),bw⟩
 ·have hne:(l1 != 0)=true:=zt
  go_ret
  exact⟨l1,rfl,(fun h=>by rw[h] at hne;cases hne),((Below.refl _ _).alloc (Nat.le_refl _) _).trans (hb1.mono zs)⟩
 ·have hne:(l2 != 0)=true:=zt
  go_ret
  exact⟨l2,rfl,(fun h=>by rw[h] at hne;cases hne),(((Below.refl _ _).alloc (Nat.le_refl _) _).trans (hb1.mono zs)).trans (hb2.mono zo)⟩
 ·go_ret
  exact⟨2,rfl,(fun h=>absurd h zD),(((Below.refl _ _).alloc (Nat.le_refl _) _).trans (hb1.mono zs)).trans (hb2.mono zo)⟩
 have k1:fU days 1 99=true:=zt
 have k2:(!fU most 0 2)=false:=zt
 have k3:(l1 != 0)=false:=zt
 have k4:(l2 != 0)=false:=zt
 have k5:(nc:Int)≤4:=by assumption
 have Sc:∀o,w2.cell? ⟨w.heap.size,o,none⟩=(w.alloc (.cells #[int i64 days,int i64 most,.slice gA ng gc,.slice mA nm mc,.slice (some ad) nc cc] 26)).cell? ⟨w.heap.size,o,none⟩:=fun o=>(hb2.cell (p:=⟨w.heap.size,o,none⟩) hlt1).trans (hb1.cell (p:=⟨w.heap.size,o,none⟩) zs)
 have hB2:Below w.heap.size w w2:=(((Below.refl _ _).alloc (Nat.le_refl _) _).trans (hb1.mono zs)).trans (hb2.mono zo)
 have hsz2:w.heap.size<w2.heap.size:=zo
 have H2:=hid ((H1.out.below hb2).more hs2)
 clear hc1 hf1 hc2 hf2 H1 hb1 hb2 hs1 hs2 hlt1
 simp only[k4]
 gi_loopw [5] (fun i wr=>∃k:Nat,k≤nc∧i=int i64 k∧Below w2.heap.size w2 wr∧Hid (∀i,i<k→Ct.ok ⟨days,most,gA,ng,gc,g,mA,nm,mc,m,some ad,nc,cc,c⟩ (c i))) (fun i _=>nc - (intOf i).toNat)
 case atStart=>exact⟨0,Nat.zero_le _,rfl,Below.refl _ _,hid (fun j hj=>absurd hj (Nat.not_lt_zero j))⟩
 case round=>
  obtain⟨k,hk,rfl,hb,hN⟩:=hrel
  have hsz:w.heap.size<wr.heap.size:=by have:=hb.size;omega
  have jM:∀o,wr.cell? ⟨w.heap.size,o,none⟩=(w.alloc (.cells #[int i64 days,int i64 most,.slice gA ng gc,.slice mA nm mc,.slice (some ad) nc cc] 26)).cell? ⟨w.heap.size,o,none⟩:=fun o=>(hb.cell (p:=⟨w.heap.size,o,none⟩) hsz2).trans (Sc o)
  by_cases hlt:k<nc
  ·have hr:=((H2.out.below hb).c).row hlt
   have c0:wr.cell? (ad.add (k * 4))=some (int i64 (c k).good):=hr.2 0 zD
   have c1:wr.cell? ⟨(ad.add (k * 4)).block,(ad.add (k * 4)).off+1,none⟩=some (int i64 (c k).day):=hr.2 1 zD
   have c2:wr.cell? ⟨(ad.add (k * 4)).block,(ad.add (k * 4)).off+2,none⟩=some (int i64 (c k).lo):=hr.2 2 zD
   have c3:wr.cell? ⟨(ad.add (k * 4)).block,(ad.add (k * 4)).off+3,none⟩=some (int i64 (c k).hi):=hr.2 3 zD
   clear hr Sc
   gi_wp2
   gi_region_with (gi_at_call 51;refine(Wm (g:=g) (m:=m) (c:=c) k _ BK).mono ?_;rintro e w3 ⟨l3,rfl,hl3,hb3⟩;have L3:=hid hl3;clear hl3)
   all_goals gi_wp2
   all_goals first
    | (have hne:(l3 != 0)=true:=by assumption
       go_ret
       exact⟨l3,rfl,(fun h=>by rw[h] at hne;cases hne),hB2.trans ((fG (hb.mono zo)).trans (hb3.mono zm))⟩)
    | (have hz:(l3 != 0)=false:=by assumption
       go_roundw
       case rel=>exact⟨k+1,zo,by go_num,(fG hb).trans (hb3.mono (by have:=hb.size;simpa using this)),hid (eG hN.out (L3.out (by simpa using hz)))⟩
       case measure=>simp[intOf];omega)
  ·obtain rfl:k=nc:=zo
   gi_wp2_with fail
   go_ret
   exact⟨0,rfl,(fun _=>⟨bI.1 k1,bI.1 (by simpa using k2),L1.out (by simpa using k3),L2.out (by simpa using k4),zn,hN.out⟩),hB2.trans (hb.mono zo)⟩
end
theorem Nv(b:Bk)(w:World)(h:b.At w w.heap.size)(hd:-9223372036854775808≤b.days∧b.days≤9223372036854775807):CallsIn FF 0 prog 23 #[b.val] w (gI b.Ok w):=by
 obtain⟨days,most,gA,ng,gc,g,mA,nm,mc,m,cA,nc,cc,c⟩:=b
 by_cases hn:nc=0
 ·subst hn
  exact Jr w h hd
 ·obtain⟨ad,hA,_⟩:=h.c zn
  simp only at hA
  subst hA
  exact Js ad w h hd
end
end Go.Proofs.YthaelabgfnnebaaGreat
