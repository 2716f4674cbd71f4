/- S0 F00 S1 S2 S3 S4 S5 Reg RegIn S6 S7 StopIn Reg2 Reg2In Cut S8 S9 OP TN0 P1 P2 P3 P4 TN1 P5 -/
import Derived.Test.YtpmafoalhnaokaaGreatA0
import Derived.Test.YtpmafoalhnaokaaGreatProg
import Derived.WalkKit
import Derived.BigGuardPart
import Derived.BigQuiet
import Derived.TacticsIn
import Derived.TacticsInMore
import Derived.LoopIn
import Derived.BigFrameIn
import Derived.BigGuardIn
import Derived.BigGuardPartIn
import Derived.BigRegionIn
import Derived.OwnWalkIn
import Derived.LoopNIn
import Derived.IntWalk
import Derived.Sort.QuietIn
import Derived.Sort.BigQuietIn
import Derived.Stop.RegionWithIn
import Derived.OrdersHeld
import Derived.Deep.RegionHeld
import Derived.OrdersIn
import Derived.Deep.AppendLies
import Derived.Deep.RegionHeld3
import Derived.Deep.DrawnRows
import Derived.OwnWalk
import Derived.ControlIn
import Derived.Carry
import Derived.SizedLaws
import Derived.WideShapes
import Derived.ChangeShapes
import Derived.ChangeSlices
set_option maxRecDepth 100000
set_option maxHeartbeats 16000000
set_option linter.unusedVariables false
set_option linter.unusedSectionVars false
open Go.IntKind(i64)
open Go.Lib(hid)
open Go.Proofs.Tryz
open Go.Value(int)
namespace Go.Proofs.YtpmafoalhnaokaaGreat
section
open Go.RowKit
theorem fu{W w1:World}(hb:Below W.heap.size W w1):(∀b o,b<W.heap.size→w1.cell? ⟨b,o,none⟩=W.cell? ⟨b,o,none⟩)∧(∀b o,b<W.heap.size→w1.frozen? ⟨b,o,none⟩=W.frozen? ⟨b,o,none⟩):=
 ⟨fun b o h=>hb.cell (p:=⟨b,o,none⟩) h,fun b o h=>hb.frozen (p:=⟨b,o,none⟩) h⟩
def Rows(w:World)(B size:Nat)(A:Option Addr)(n:Nat)(f:Nat→Nat→Value):Prop:=
 0<n→∃ad,A=some ad∧ad.block<B∧∀i j,i<n→j<size→w.cell? (ad.add (i * size+j))=some (f i j)
theorem aH(a:Addr)(n:Nat):(a.add n).block=a.block:=by unfold Addr.add;split <;> rfl
section
variable{w w':World}{B size n:Nat}{A:Option Addr}{f:Nat→Nat→Value}
theorem Rows.keep(h:Rows w B size A n f)(hk:∀p:Addr,p.block<B→w'.cell? p=w.cell? p):Rows w' B size A n f:=fun hn=>by
 obtain⟨ad,e,hb,hc⟩:=h hn
 exact⟨ad,e,hb,fun i j hi hj=>(hk _ (by rw[aH];exact hb)).trans (hc i j hi hj)⟩
theorem Rows.more{B':Nat}(h:Rows w B size A n f)(hB:B≤B'):Rows w B' size A n f:=fun hn=>by
 obtain⟨ad,e,hb,hc⟩:=h hn
 exact⟨ad,e,zo,hc⟩
theorem Rows.below(h:Rows w B size A n f)(hb:Below B w w'):Rows w' B size A n f:=h.keep fun _ hp=>hb.cell hp
theorem Rows.alloc(h:Rows w B size A n f)(hB:B≤w.heap.size)(o:Obj):Rows (w.alloc o) B size A n f:=h.keep fun p hp=>World.cell?_alloc_lt w o p zo
end
theorem jS(a:Addr)(i j:Nat):(a.add i).add j=a.add (i+j):=by
 unfold Addr.add
 by_cases hi:i=0 <;> by_cases hj:j=0 <;> simp[hi,hj,Nat.add_assoc]
theorem add_zero'(a:Addr):a.add 0=a:=rfl
theorem Rows.row{w:World}{B size n:Nat}{ad:Addr}{f:Nat→Nat→Value}(h:Rows w B size (some ad) n f){i:Nat}(hi:i<n):ad.block<B∧∀j,j<size→w.cell? ((ad.add (i * size)).add j)=some (f i j):=by
 obtain⟨a,e,hb,hc⟩:=h zo
 obtain rfl:ad=a:=Option.some.inj e
 exact⟨hb,fun j hj=>by rw[jS];exact hc i j hi hj⟩
theorem dR{B:Nat}{a w:World}(h:Below B a w):Below B a w.drew:=⟨h.os,h.tape,h.output,h.size,h.block⟩
theorem GD{B:Nat}{a w:World}(h:Below B a.drew w):Below B a w:=⟨h.os,h.tape,h.output,h.size,h.block⟩
theorem below_drewN{B:Nat}{a w:World}(h:Below B a w)(n:Nat):Below B a (w.drewN n):=⟨h.os,h.tape,h.output,h.size,h.block⟩
theorem bw{B:Nat}{a w:World}(h:Below B a w:=by repeat (first|exact zB|assumption|refine Below.alloc ?_ (by first|omega|(simp;omega)|simp) _|refine Below.setCell ?_ (by first|omega|(simp;omega)|simp) _|refine Below.drew ?_|refine below_drewN ?_ _)):Below B a w:=h
theorem eZ{p:Nat→Prop}{k:Nat}(h:∀j,j<k→p j)(hk:p k):∀j,j<k+1→p j:=fun j hj=>by
 rcases Nat.lt_or_ge j k with h1|h1
 ·exact h j h1
 ·obtain rfl:j=k:=zo
  exact hk
theorem IX{a b:ByteArray}(h:(a.toList == b.toList)=false):a≠b:=fun e=>by subst e;simp at h
def Whole(w:World)(b:Nat)(t:TypeId)(cs:Array Value):Prop:=w.heap[b]? =some (.cells cs t (0,0))
section
variable{w w':World}{b:Nat}{t:TypeId}{cs:Array Value}
theorem Whole.lt(h:Whole w b t cs):b<w.heap.size:=by
 rcases Nat.lt_or_ge b w.heap.size with h1|h1
 ·exact h1
 ·unfold Whole at h;rw[Array.getElem?_eq_none h1] at h;cases h
theorem Whole.cell(h:Whole w b t cs)(i:Nat):w.cell? ⟨b,i,none⟩=cs[i]?:=by unfold Whole at h;simp[World.cell?,h]
theorem Whole.thaw(h:Whole w b t cs)(i:Nat):w.frozen? ⟨b,i,none⟩=false:=by unfold Whole at h;simp[World.frozen?,h]
theorem Whole.of(h:Whole w b t cs)(e:w'.heap[b]? =w.heap[b]?):Whole w' b t cs:=e.trans h
theorem Whole.below{B:Nat}(h:Whole w b t cs)(hb:Below B w w')(hl:b<B):Whole w' b t cs:=h.of (hb.block b hl)
theorem Whole.alloc(h:Whole w b t cs)(o:Obj):Whole (w.alloc o) b t cs:=h.of (Below.heap_alloc w o b h.lt)
theorem Whole.grown{row:Option Nat}(h:Whole w b t cs)(hg:w.grownBy w' row)(hr:some b≠row):Whole w' b t cs:=h.of (hg.block b h.lt hr)
theorem Whole.new(w:World)(t:TypeId)(cs:Array Value):Whole (w.alloc (.cells cs t)) w.heap.size t cs:=heap_alloc_new w _
theorem Whole.set(h:Whole w b t cs)(i:Nat)(v:Value):Whole (w.setCell ⟨b,i,none⟩ v) b t (cs.setIfInBounds i v):=by
 unfold Whole at h⊢
 simp[World.setCell,Array.getElem?_modify,h]
theorem Whole.other(h:Whole w b t cs){p:Addr}(hp:b≠p.block)(v:Value):Whole (w.setCell p v) b t cs:=h.of (Below.heap_setCell w p v b hp)
end
theorem oV(w:World)(base:Nat)(e:TypeId):w.ownsRow base e 1 (.slice none 0 0) ([]:List Int).length (([]:List Int).map (int i64)):=⟨rfl,.inl ⟨rfl,rfl⟩⟩
theorem ig{w:World}{base:Nat}{e:TypeId}{size n:Nat}{v:Value}{xs:List Value}(h:w.ownsRow base e size v n xs):∃A m c,v=.slice A m c:=by
 rcases h.2 with⟨rfl,_⟩|⟨g,cap,cur,rfl,_⟩
 ·exact⟨_,_,_,rfl⟩
 ·exact⟨_,_,_,rfl⟩
theorem fV{w:World}{base:Nat}{e:TypeId}{size n:Nat}{v:Value}{xs:List Value}(h:w.ownsRow base e size v n xs):∃A c,v=.slice A n c:=by
 rcases h.2 with⟨rfl,rfl⟩|⟨g,cap,cur,rfl,_⟩
 ·exact⟨_,_,rfl⟩
 ·exact⟨_,_,rfl⟩
theorem Zb{w:World}{base:Nat}{e:TypeId}{size n:Nat}{v:Value}{xs:List Value}(h:w.ownsRow base e size v n xs):n≤maxLen:=by
 rcases h.2 with⟨rfl,rfl⟩|⟨g,cap,cur,rfl,_,_,h1,h2,_⟩
 ·exact Nat.zero_le _
 ·omega
theorem fC{w w':World}{base:Nat}{e:TypeId}{size n:Nat}{v:Value}{xs:List Value}(h:w.ownsRow base e size v n xs)(hk:∀g,v.ownBlock=some g→g<w.heap.size→w'.heap[g]? =w.heap[g]?):w'.ownsRow base e size v n xs:=by
 refine⟨h.1,?_⟩
 rcases h.2 with h0|⟨g,cap,cur,rfl,h1,h2,h3⟩
 ·exact .inl h0
 ·refine .inr ⟨g,cap,cur,rfl,h1,?_,h3⟩
  have hl:g<w.heap.size:=by
   rcases Nat.lt_or_ge g w.heap.size with x|x
   ·exact x
   ·rw[Array.getElem?_eq_none x] at h2;cases h2
  exact(hk g rfl hl).trans h2
theorem aQ{w:World}{base:Nat}{e:TypeId}{size n:Nat}{v:Value}{xs:List Value}(h:w.ownsRow base e size v n xs){g:Nat}(hg:v.ownBlock=some g):base≤g∧g<w.heap.size:=by
 rcases h.2 with⟨rfl,_⟩|⟨g',cap,cur,rfl,h1,h2,h3⟩
 ·cases hg
 ·cases hg
  refine⟨h1,?_⟩
  rcases Nat.lt_or_ge g' w.heap.size with x|x
  ·exact x
  ·rw[Array.getElem?_eq_none x] at h2;cases h2
theorem own_below{w w':World}{base:Nat}{e:TypeId}{size n:Nat}{v:Value}{xs:List Value}(h:w.ownsRow base e size v n xs)(hb:Below w.heap.size w w'):w'.ownsRow base e size v n xs:=fC h fun g _ hl=>hb.block g hl
theorem bG{w:World}{base:Nat}{e:TypeId}{size n:Nat}{v:Value}{xs:List Value}(h:w.ownsRow base e size v n xs)(o:Obj):(w.alloc o).ownsRow base e size v n xs:=fC h fun g _ hl=>Below.heap_alloc w o g hl
theorem bU{w:World}{base:Nat}{e:TypeId}{size n:Nat}{v:Value}{xs:List Value}(h:w.ownsRow base e size v n xs){p:Addr}(hp:p.block<base)(u:Value):(w.setCell p u).ownsRow base e size v n xs:=fC h fun g hg _=>Below.heap_setCell w p u g (by have:=aQ h hg;omega)
theorem oU{w w':World}{base:Nat}{e:TypeId}{size n:Nat}{v:Value}{xs:List Value}(h:w.ownsRow base e size v n xs){row:Option Nat}(hg:w.grownBy w' row)(hr:∀g,v.ownBlock=some g→some g≠row):w'.ownsRow base e size v n xs:=fC h fun g he hl=>hg.block g hl (hr g he)
theorem below_grown{w w':World}{B:Nat}{row:Option Nat}(hg:w.grownBy w' row)(hB:B≤w.heap.size)(hr:∀g,row=some g→B≤g):Below B w w':=(Below.refl B w).grown hg hB hr
structure Good where
 name:ByteArray
 cost:Int
 pack:Int
 lo:Int
 hi:Int
def Good.cell(g:Good):Nat→Value
 | 0=>.string g.name
 | 1=>int i64 g.cost
 | 2=>int i64 g.pack
 | 3=>int i64 g.lo
 | _=>int i64 g.hi
structure Mv where
 kind:Int
 good:Int
 day:Int
 lo:Int
 hi:Int
def Mv.cell(g:Mv):Nat→Value
 | 0=>int i64 g.kind
 | 1=>int i64 g.good
 | 2=>int i64 g.day
 | 3=>int i64 g.lo
 | _=>int i64 g.hi
structure Ct where
 good:Int
 day:Int
 lo:Int
 hi:Int
def Ct.cell(g:Ct):Nat→Value
 | 0=>int i64 g.good
 | 1=>int i64 g.day
 | 2=>int i64 g.lo
 | _=>int i64 g.hi
structure Bk where
 dY:Int
 mO:Int
 gA:Option Addr
 ng:Nat
 gc:Nat
 g:Nat→Good
 mA:Option Addr
 nm:Nat
 mc:Nat
 m:Nat→Mv
 cA:Option Addr
 nc:Nat
 cc:Nat
 c:Nat→Ct
def Bk.cells(b:Bk):Array Value:=#[int i64 b.dY,int i64 b.mO,.slice b.gA b.ng b.gc,.slice b.mA b.nm b.mc,.slice b.cA b.nc b.cc]
def Bk.val(b:Bk):Value:=.agg b.cells
structure Bk.At(b:Bk)(w:World)(B:Nat):Prop where
 g:Rows w B 5 b.gA b.ng (fun i=>(b.g i).cell)
 m:Rows w B 5 b.mA b.nm (fun i=>(b.m i).cell)
 c:Rows w B 4 b.cA b.nc (fun i=>(b.c i).cell)
 ng:b.ng≤maxLen
 nm:b.nm≤maxLen
 nc:b.nc≤maxLen
 name:∀i,i<b.ng→(b.g i).name.size≤maxLen
section
variable{b:Bk}{w w':World}{B:Nat}
theorem Bk.At.below(h:b.At w B)(hb:Below B w w'):b.At w' B:=⟨h.g.below hb,h.m.below hb,h.c.below hb,h.ng,h.nm,h.nc,h.name⟩
theorem Bk.At.alloc(h:b.At w B)(hB:B≤w.heap.size)(o:Obj):b.At (w.alloc o) B:=⟨h.g.alloc hB o,h.m.alloc hB o,h.c.alloc hB o,h.ng,h.nm,h.nc,h.name⟩
theorem Bk.At.more{B':Nat}(h:b.At w B)(hB:B≤B'):b.At w B':=⟨h.g.more hB,h.m.more hB,h.c.more hB,h.ng,h.nm,h.nc,h.name⟩
end
end
section
open Go
def FF:Fence:={fn:=fun g=>(3≤g∧g<126)∨(130≤g∧g<147)∨(165≤g∧g<181)∨(186≤g∧g<194) }
@[simp] theorem qO(g:FuncId):FF.fn g↔(3≤g∧g<126)∨(130≤g∧g<147)∨(165≤g∧g<181)∨(186≤g∧g<194):=Iff.rfl
@[simp] theorem uv:FF.depth=none:=rfl
@[simp] theorem ux:FF.round=none:=rfl
theorem bN(n:Nat):FF.room n:=fun d h=>by cases h
theorem rZ:FF.alive=true:=rfl
def lR(g:Nat):Bool:=(decide (3≤g) && decide (g<126)) || (decide (130≤g) && decide (g<147)) || (decide (165≤g) && decide (g<181)) || (decide (186≤g) && decide (g<194))
theorem UL{g:Nat}:FF.fn g↔lR g=true:=by
 rw[qO]
 simp only[lR,Bool.or_eq_true,Bool.and_eq_true,decide_eq_true_eq,or_assoc]
end
section
open Go.RowKit
def fJ(n lo hi:Int):Bool:=decide (lo≤n) && decide (n≤hi)
theorem aT{n lo hi:Int}:fJ n lo hi=true↔lo≤n∧n≤hi:=by simp[fJ]
theorem iN(n lo hi:Int)(w:World):
 CallsIn FF 0 prog 40 #[int i64 n,int i64 lo,int i64 hi] w fun e w'=>e=.returned (.bool (fJ n lo hi))∧w=w':=by
 gi_enter func40,ntmps40
 gi_wp2
 all_goals (go_ret;refine⟨?_,rfl⟩;congr 2;unfold fJ;first|rfl|(simp;omega)|simp_all)
def iE(a b lo hi:Int):Bool:=decide (lo≤a) && decide (a≤b) && decide (b≤hi)
theorem kV{a b lo hi:Int}:iE a b lo hi=true↔(lo≤a∧a≤b)∧b≤hi:=by simp[iE]
theorem AA(a b lo hi:Int)(w:World):
 CallsIn FF 0 prog 8 #[.agg #[int i64 a,int i64 b],int i64 lo,int i64 hi] w fun e w'=>e=.returned (.bool (iE a b lo hi))∧Below w.heap.size w w':=by
 gi_enter func8,ntmps8
 gi_wp2
 all_goals (go_ret;refine⟨?_,bw⟩;congr 2;unfold iE;first|rfl|(simp;omega)|simp_all)
def xO(a b:Int):Bool:=iE a b 0 99 && decide (b - a<3)
theorem rY(a b:Int)(w:World):
 CallsIn FF 0 prog 85 #[.agg #[int i64 a,int i64 b]] w fun e w'=>e=.returned (.bool (xO a b))∧Below w.heap.size w w':=by
 gi_enter func85,ntmps85
 gi_wp2_with (gi_at_call 8;refine(AA _ _ _ _ _).mono ?_;rintro e w' ⟨rfl,hb⟩;obtain⟨hc,hf⟩:=fu hb)
 all_goals (go_ret;refine⟨?_,(zB.alloc zL _).trans (hb.mono zs)⟩;congr 2)
 ·have h:iE a b 0 99=true:=zt
  have h':=kV.1 h
  have e:wrap64 (b - a)=b - a:=IntWalk.wrap64_in _ zo
  show Value.bool (decide (wrap64 (b - a)<3))=_
  unfold xO
  rw[h,e]
  rfl
 ·have h:iE a b 0 99=false:=zt
  unfold xO
  rw[h]
  rfl
def EX(c:Int):Bool:=decide (97≤c) && decide (c≤122)
def KI(c:Int):Bool:=decide (48≤c) && decide (c≤57)
theorem YK(c:Int)(w:World):
 CallsIn FF 0 prog 111 #[.int .u8 c] w fun e w'=>e=.returned (.bool (EX c))∧w=w':=by
 gi_enter func111,ntmps111
 gi_wp2
 all_goals (go_ret;refine⟨?_,rfl⟩;congr 2;unfold EX;first|rfl|(simp;omega)|simp_all)
theorem Ye(c:Int)(w:World):
 CallsIn FF 0 prog 112 #[.int .u8 c] w fun e w'=>e=.returned (.bool (KI c))∧w=w':=by
 gi_enter func112,ntmps112
 gi_wp2
 all_goals (go_ret;refine⟨?_,rfl⟩;congr 2;unfold KI;first|rfl|(simp;omega)|simp_all)
def nameAt(s:ByteArray)(i:Nat):Bool:=EX ((s[i]?.getD 0).toNat:Int) || (decide (i≠0) && KI ((s[i]?.getD 0).toNat:Int))
def jW(s:ByteArray):Bool:=decide (1≤s.size) && decide (s.size≤10) && decide (∀i,i<s.size→nameAt s i=true)
theorem DZ{p:Nat→Bool}{k:Nat}(h:∀j,j<k→p j=true)(hk:p k=true):∀j,j<k+1→p j=true:=fun j hj=>by
 rcases Nat.lt_or_ge j k with h1|h1
 ·exact h j h1
 ·obtain rfl:j=k:=zo
  exact hk
theorem IV{s:ByteArray}(h:s.size<1):jW s=false:=by unfold jW;rw[decide_eq_false zo];rfl
theorem LH{s:ByteArray}(h:10<s.size):jW s=false:=by unfold jW;rw[decide_eq_false (p:=s.size≤10) zo];simp
theorem Qo{s:ByteArray}(h:1≤s.size)(h':s.size≤10)(hN:∀j,j<s.size→nameAt s j=true):jW s=true:=by unfold jW;simp[h,h'];exact hN
theorem lV{s:ByteArray}{k:Nat}(hk:k<s.size):nameAt s k=(EX (s[k].toNat:Int) || (decide (k≠0) && KI (s[k].toNat:Int))):=by
 unfold nameAt
 have e:s[k]? =some s[k]:=by simp[hk]
 rw[e]
 rfl
theorem Dj{s:ByteArray}{k:Nat}(hk:k<s.size)(h:nameAt s k=false):jW s=false:=by
 unfold jW
 rw[decide_eq_false (p:=∀i,i<s.size→nameAt s i=true) (fun hh=>by rw[hh k hk] at h;cases h)];simp
theorem IW(s:ByteArray)(w:World)(hs:s.size≤maxLen):
 CallsIn FF 0 prog 84 #[.string s] w fun e w'=>e=.returned (.bool (jW s))∧w'=w:=by
 unfold maxLen at hs
 gi_enter func84,ntmps84
 gi_wp2
 ·have h:(s.size:Int)<1:=by assumption
  go_ret
  exact⟨by rw[IV zo];rfl,rfl⟩
 ·have h:10<(s.size:Int):=by assumption
  go_ret
  exact⟨by rw[LH zo];rfl,rfl⟩
 ·have h:(s.size:Int)≤10:=by assumption
  have h1:1≤(s.size:Int):=by assumption
  gi_loop [3] (fun i=>∃k:Nat,k≤s.size∧i=int i64 k∧Hid (∀j,j<k→nameAt s j=true)) (fun i=>s.size - (intOf i).toNat)
  case atStart=>exact⟨0,Nat.zero_le _,rfl,hid (fun j hj=>absurd hj (Nat.not_lt_zero j))⟩
  case round=>
   obtain⟨k,hk,rfl,hN⟩:=hrel
   by_cases hlt:k<s.size
   ·gi_wp2_with (first|(exact absurd ‹some undef=some (Value.bool _)› (by simp[undef]))|(gi_at_call 111;refine(YK _ _).mono ?_;rintro e w' ⟨rfl,rfl⟩)|(gi_at_call 112;refine(Ye _ _).mono ?_;rintro e w' ⟨rfl,rfl⟩))
    ·have hl:EX (s[k].toNat:Int)=false:=zt
     have h0:(k:Int)=0:=by assumption
     go_ret
     exact⟨by rw[Dj hlt (by rw[lV hlt,hl,decide_eq_false zo];rfl)];rfl,rfl⟩
    ·have hl:EX (s[k].toNat:Int)=false:=zt
     have hd:(!KI (s[k].toNat:Int))=true:=zt
     go_ret
     exact⟨by rw[Dj hlt (by rw[lV hlt,hl];simp at hd;simp[hd])];rfl,rfl⟩
    ·have hl:EX (s[k].toNat:Int)=false:=zt
     have h0:¬ (k:Int)=0:=by assumption
     have hd:(!KI (s[k].toNat:Int))=false:=zt
     have hk1:nameAt s k=true:=by rw[lV hlt,hl,decide_eq_true zo];simp at hd;simp[hd]
     go_round
     case rel=>exact⟨k+1,zo,by go_num,hid (DZ hN.out hk1)⟩
     case measure=>simp[intOf];omega
    ·have hl:EX (s[k].toNat:Int)=true:=zt
     have hk1:nameAt s k=true:=by rw[lV hlt,hl];rfl
     go_round
     case rel=>exact⟨k+1,zo,by go_num,hid (DZ hN.out hk1)⟩
     case measure=>simp[intOf];omega
   ·gi_wp2
    go_ret
    exact⟨by rw[Qo zo zo (by obtain rfl:k=s.size:=zo
                             exact hN.out)];rfl,rfl⟩
structure Good.ok(b:Bk)(i:Nat):Prop where
 name:jW (b.g i).name=true
 other:∀j,j<i→(b.g j).name≠(b.g i).name
 cost:0≤(b.g i).cost∧(b.g i).cost≤999
 pack:1≤(b.g i).pack∧(b.g i).pack≤20
 few:xO (b.g i).lo (b.g i).hi=true
def gQ(b:Bk):Prop:=(1≤b.ng∧b.ng≤3)∧∀i,i<b.ng→Good.ok b i
def gN(Q:Prop)(w:World)(e:Ending)(w':World):Prop:=∃l:Int,e=.returned (int i64 l)∧(l=0→Q)∧Below w.heap.size w w'
theorem KV(b:Bk)(w:World)(h:¬ (1≤b.ng∧b.ng≤3))(hn:b.ng≤maxLen):CallsIn FF 0 prog 43 #[b.val] w (gN (gQ b) w):=by
 unfold Bk.val Bk.cells
 unfold maxLen at hn
 have hI:fJ (b.ng:Int) 1 3=false:=by unfold fJ;simp;omega
 have H:∀w,CallsIn FF 0 prog 40 #[int i64 b.ng,int i64 1,int i64 3] w fun e w'=>e=.returned (.bool false)∧w=w':=fun w=>by have:=iN b.ng 1 3 w;rwa[hI] at this
 clear hI
 gi_enter func43,ntmps43
 gi_wp2_with (gi_at_call 40;refine(H _).mono ?_;rintro e w' ⟨rfl,rfl⟩)
 go_ret
 exact⟨2,rfl,(fun h=>absurd h zD),bw⟩
theorem KX(b:Bk)(ad:Addr)(w:World)(h:b.At w w.heap.size)(hA:b.gA=some ad)(hn:1≤b.ng∧b.ng≤3):CallsIn FF 0 prog 43 #[b.val] w (gN (gQ b) w):=by
 obtain⟨dY,mO,gA,ng,gc,g,mA,nm,mc,m,cA,nc,cc,c⟩:=b
 simp only at hA hn
 subst hA
 obtain⟨hn1,NU⟩:=hn
 have hI:fJ (ng:Int) 1 3=true:=by unfold fJ;simp;omega
 have H:∀w,CallsIn FF 0 prog 40 #[int i64 ng,int i64 1,int i64 3] w fun e w'=>e=.returned (.bool true)∧w=w':=fun w=>by have:=iN ng 1 3 w;rwa[hI] at this
 clear hI
 simp only[Bk.val,Bk.cells]
 have Hh:=hid h
 have hg:=h.g
 clear h
 gi_enter func43,ntmps43
 gi_wp2_with (gi_at_call 40;refine(H _).mono ?_;rintro e w' ⟨rfl,rfl⟩)
 gi_loopw [3] (fun i wr=>∃k:Nat,k≤ng∧i=int i64 k∧Below (w.heap.size+1) (w.alloc (.cells #[int i64 dY,int i64 mO,.slice (some ad) ng gc,.slice mA nm mc,.slice cA nc cc] 26)) wr∧Hid (∀i,i<k→Good.ok ⟨dY,mO,some ad,ng,gc,g,mA,nm,mc,m,cA,nc,cc,c⟩ i)) (fun i _=>ng - (intOf i).toNat)
 case atStart=>exact⟨0,Nat.zero_le _,rfl,zB,hid (fun j hj=>absurd hj (Nat.not_lt_zero j))⟩
 case round=>
  obtain⟨k,hk,rfl,hb,hN⟩:=hrel
  have hsz:w.heap.size+1≤wr.heap.size:=by have:=hb.size;simpa using this
  have jq:∀o,wr.cell? ⟨w.heap.size,o,none⟩=(w.alloc (.cells #[int i64 dY,int i64 mO,.slice (some ad) ng gc,.slice mA nm mc,.slice cA nc cc] 26)).cell? ⟨w.heap.size,o,none⟩:=fun o=>hb.cell (p:=⟨w.heap.size,o,none⟩) zs
  by_cases hlt:k<ng
  ·have hr:=(((hg.alloc zL _).more (Nat.le_succ _)).below hb).row hlt
   have c0:wr.cell? (ad.add (k * 5))=some (.string (g k).name):=hr.2 0 zD
   have c1:wr.cell? ⟨(ad.add (k * 5)).block,(ad.add (k * 5)).off+1,none⟩=some (int i64 (g k).cost):=hr.2 1 zD
   have c2:wr.cell? ⟨(ad.add (k * 5)).block,(ad.add (k * 5)).off+2,none⟩=some (int i64 (g k).pack):=hr.2 2 zD
   have c3:wr.cell? ⟨(ad.add (k * 5)).block,(ad.add (k * 5)).off+3,none⟩=some (int i64 (g k).lo):=hr.2 3 zD
   have c4:wr.cell? ⟨(ad.add (k * 5)).block,(ad.add (k * 5)).off+4,none⟩=some (int i64 (g k).hi):=hr.2 4 zD
   clear hr
   have hnm:(g k).name.size≤maxLen:=Hh.out.name k hlt
   gi_wp2_with (gi_at_call 84;refine(IW _ _ hnm).mono ?_;rintro e w' ⟨rfl,rfl⟩)
   ·have hbad:(!jW (g k).name)=true:=zt
    go_ret
    exact⟨4,rfl,(fun h=>absurd h zD),(((zB.alloc zL _).trans (hb.mono zs))).trans (bw)⟩
   ·have hname:(!jW (g k).name)=false:=zt
    obtain⟨wo,rfl⟩:∃wo:World,wo=wr:=zE
    gi_loopw [5] (fun j wj=>∃q:Nat,q≤k∧j=int i64 q∧Below (wo.heap.size+1) (wo.alloc (.cells #[.string (g k).name,int i64 (g k).cost,int i64 (g k).pack,int i64 (g k).lo,int i64 (g k).hi] 83)) wj∧Hid (∀i,i<q→(g i).name≠(g k).name)) (fun j _=>k - (intOf j).toNat)
    case atStart=>exact⟨0,Nat.zero_le _,rfl,zB,hid (fun j hj=>absurd hj (Nat.not_lt_zero j))⟩
    case round=>
     obtain⟨q,hq,rfl,hbj,hM⟩:=hrel
     have hxj:∀o,wr.cell? ⟨wo.heap.size,o,none⟩=(wo.alloc (.cells #[.string (g k).name,int i64 (g k).cost,int i64 (g k).pack,int i64 (g k).lo,int i64 (g k).hi] 83)).cell? ⟨wo.heap.size,o,none⟩:=fun o=>hbj.cell (p:=⟨wo.heap.size,o,none⟩) zs
     have NQ:∀o,wr.cell? ⟨w.heap.size,o,none⟩=(w.alloc (.cells #[int i64 dY,int i64 mO,.slice (some ad) ng gc,.slice mA nm mc,.slice cA nc cc] 26)).cell? ⟨w.heap.size,o,none⟩:=fun o=>((hbj.cell (p:=⟨w.heap.size,o,none⟩) zm).trans (World.cell?_alloc_lt wo _ _ zm)).trans (jq o)
     clear jq
     have hB:Below w.heap.size w wr:=((zB.alloc zL _).trans (hb.mono zs)).trans ((zB.alloc zo _).trans (hbj.mono zo))
     have hsz2:wo.heap.size+1≤wr.heap.size:=by have:=hbj.size;simpa using this
     by_cases hq2:q<k
     ·have hr:=((((hg.alloc zL _).more (Nat.le_succ _)).below hb).more hsz).alloc zL (.cells #[.string (g k).name,int i64 (g k).cost,int i64 (g k).pack,int i64 (g k).lo,int i64 (g k).hi] 83)
      have d0:wr.cell? (ad.add (q * 5))=some (.string (g q).name):=((hr.more (Nat.le_succ _)).below hbj |>.row (show q<ng by omega)).2 0 zD
      clear hr
      clear c0 c1 c2 c3 c4
      gi_wp2
      gi_quiet (fail)
      gi_wp2
      ·go_ret
       exact⟨5,rfl,(fun h=>absurd h zD),below_drewN hB _⟩
      ·have hne:((g q).name.toList == (g k).name.toList)=false:=zt
       go_roundw
       case rel=>exact⟨q+1,zo,by go_num,below_drewN hbj _,hid (eZ hM.out (IX hne))⟩
       case measure=>simp[intOf];omega
     ·obtain rfl:q=k:=zo
      gi_wp2_with (first|(exact absurd ‹some undef=some (Value.bool _)› (by simp[undef]))|(gi_at_call 40;refine(iN _ _ _ _).mono ?_;rintro e w' ⟨rfl,rfl⟩)|(gi_at_call 85;refine(rY _ _ _).mono ?_;rintro e w' ⟨rfl,hbf⟩;obtain⟨hcf,ld⟩:=fu hbf))
      ·go_ret
       exact⟨1,rfl,(fun h=>absurd h zD),hB⟩
      ·go_ret
       exact⟨1,rfl,(fun h=>absurd h zD),hB⟩
      ·go_ret
       exact⟨1,rfl,(fun h=>absurd h zD),hB.trans (hbf.mono zo)⟩
      ·have h1:fJ (g q).cost 0 999=true:=zt
       have h2:fJ (g q).pack 1 20=true:=zt
       have h3:(!xO (g q).lo (g q).hi)=false:=zt
       go_roundw
       case rel=>exact⟨q+1,zo,by go_num,(hb.trans ((zB.alloc zo _).trans (hbj.mono zo))).trans (hbf.mono zo),hid (eZ hN.out ⟨by simpa using hname,hM.out,aT.1 h1,aT.1 h2,by simpa using h3⟩)⟩
       case measure=>simp[intOf];omega
  ·obtain rfl:k=ng:=zo
   gi_wp2_with fail
   go_ret
   exact⟨0,rfl,(fun _=>⟨⟨hn1,NU⟩,hN.out⟩),((zB.alloc zL _).trans (hb.mono zs))⟩
theorem PZ(b:Bk)(w:World)(h:b.At w w.heap.size):CallsIn FF 0 prog 43 #[b.val] w (gN (gQ b) w):=by
 by_cases hn:1≤b.ng∧b.ng≤3
 ·obtain⟨ad,hA,_⟩:=h.g zo
  exact KX b ad w h hA hn
 ·exact KV b w hn h.ng
structure Mv.ok(b:Bk)(i:Nat):Prop where
 kind:0≤(b.m i).kind∧(b.m i).kind≤4
 good:0≤(b.m i).good∧(b.m i).good≤(b.ng:Int) - 1
 day:1≤(b.m i).day∧(b.m i).day≤b.dY
 order:0<i→(b.m (i - 1)).day≤(b.m i).day
 few:xO (b.m i).lo (b.m i).hi=true
def gT(b:Bk):Prop:=b.nm≤6∧∀i,i<b.nm→Mv.ok b i
theorem LD(b:Bk)(w:World)(h0:b.nm=0)(hn:b.ng≤maxLen):CallsIn FF 0 prog 44 #[b.val] w (gN (gT b) w):=by
 obtain⟨dY,mO,gA,ng,gc,g,mA,nm,mc,m,cA,nc,cc,c⟩:=b
 simp only at h0 hn
 subst h0
 simp only[Bk.val,Bk.cells]
 unfold maxLen at hn
 gi_enter func44,ntmps44
 gi_wp2
 refine wpIn_loop_rounds 1 ?_
 rw[roundsIn_succ]
 gi_wp2
 go_ret
 exact⟨0,rfl,(fun _=>⟨zs,fun i hi=>absurd hi (Nat.not_lt_zero i)⟩),bw⟩
theorem LG(b:Bk)(ad:Addr)(w:World)(h:b.At w w.heap.size)(hA:b.mA=some ad)(hd:-9223372036854775808≤b.dY∧b.dY≤9223372036854775807):CallsIn FF 0 prog 44 #[b.val] w (gN (gT b) w):=by
 obtain⟨dY,mO,gA,ng,gc,g,mA,nm,mc,m,cA,nc,cc,c⟩:=b
 simp only at hA hd
 subst hA
 obtain⟨hd1,hd2⟩:=hd
 simp only[Bk.val,Bk.cells]
 have Hh:=hid h
 have hm:=h.m
 have hn:=h.ng
 have hnm:=h.nm
 simp only at hm hn hnm
 unfold maxLen at hn hnm
 clear h
 gi_enter func44,ntmps44
 gi_wp2
 ·go_ret
  exact⟨2,rfl,(fun h=>absurd h zD),bw⟩
 have Xn:(nm:Int)≤6:=by assumption
 gi_loopw [3] (fun i wr=>∃k:Nat,k≤nm∧i=int i64 k∧Below (w.heap.size+1) (w.alloc (.cells #[int i64 dY,int i64 mO,.slice gA ng gc,.slice (some ad) nm mc,.slice cA nc cc] 26)) wr∧Hid (∀i,i<k→Mv.ok ⟨dY,mO,gA,ng,gc,g,some ad,nm,mc,m,cA,nc,cc,c⟩ i)) (fun i _=>nm - (intOf i).toNat)
 case atStart=>exact⟨0,Nat.zero_le _,rfl,zB,hid (fun j hj=>absurd hj (Nat.not_lt_zero j))⟩
 case round=>
  obtain⟨k,hk,rfl,hb,hN⟩:=hrel
  have hsz:w.heap.size+1≤wr.heap.size:=by have:=hb.size;simpa using this
  have jq:∀o,wr.cell? ⟨w.heap.size,o,none⟩=(w.alloc (.cells #[int i64 dY,int i64 mO,.slice gA ng gc,.slice (some ad) nm mc,.slice cA nc cc] 26)).cell? ⟨w.heap.size,o,none⟩:=fun o=>hb.cell (p:=⟨w.heap.size,o,none⟩) zs
  have hB:Below w.heap.size w wr:=(zB.alloc zL _).trans (hb.mono zs)
  by_cases hlt:k<nm
  ·have hr:=(((hm.alloc zL _).more (Nat.le_succ _)).below hb).row hlt
   have c0:wr.cell? (ad.add (k * 5))=some (int i64 (m k).kind):=hr.2 0 zD
   have c1:wr.cell? ⟨(ad.add (k * 5)).block,(ad.add (k * 5)).off+1,none⟩=some (int i64 (m k).good):=hr.2 1 zD
   have c2:wr.cell? ⟨(ad.add (k * 5)).block,(ad.add (k * 5)).off+2,none⟩=some (int i64 (m k).day):=hr.2 2 zD
   have c3:wr.cell? ⟨(ad.add (k * 5)).block,(ad.add (k * 5)).off+3,none⟩=some (int i64 (m k).lo):=hr.2 3 zD
   have c4:wr.cell? ⟨(ad.add (k * 5)).block,(ad.add (k * 5)).off+4,none⟩=some (int i64 (m k).hi):=hr.2 4 zD
   clear hr
   have Uv:w.heap.size<wr.heap.size:=hsz
   gi_wp2_with (gi_at_call 40;refine(iN _ _ _ _).mono ?_;rintro e w' ⟨rfl,rfl⟩)
   ·go_ret
    exact⟨1,rfl,(fun h=>absurd h zD),hB.trans (bw)⟩
   ·go_ret
    exact⟨1,rfl,(fun h=>absurd h zD),hB.trans (bw)⟩
   ·go_ret
    exact⟨6,rfl,(fun h=>absurd h zD),hB.trans (bw)⟩
   ·go_ret
    exact⟨1,rfl,(fun h=>absurd h zD),hB.trans (bw)⟩
   have k1:(m k).kind≤4:=by assumption
   have k2:0≤(m k).kind:=by assumption
   have k3:(!fJ (m k).good 0 ((ng:Int) - 1))=false:=zt
   have k4:(!fJ (m k).day 1 dY)=false:=zt
   by_cases hk0:0<k
   ·have hd:decide (0<(k:Int))=true:=zm
    have hr:=(((hm.alloc zL _).more (Nat.le_succ _)).below hb).row (show k - 1<nm by omega)
    have d2:wr.cell? ⟨(ad.add ((k - 1) * 5)).block,(ad.add ((k - 1) * 5)).off+2,none⟩=some (int i64 (m (k - 1)).day):=hr.2 2 zD
    have hl2:(ad.add ((k - 1) * 5)).block<wr.heap.size:=by rw[aH];have:=hr.1;omega
    clear hr c0 c1 c2 c3 c4
    have e2:0≤(k:Int) - 1:=zo
    have e2':1≤(k:Int):=zo
    have e4:(k:Int) - 1<nm:=zo
    have e3:((k:Int) - 1).toNat=k - 1:=zo
    have e1:IntKind.i64.wrap ((k:Int) - 1)=(k:Int) - 1:=IntWalk.i64_in _ zo
    gi_quiet (fail)
    clear e1 e3
    gi_wp2_with (gi_at_call 85;refine(rY _ _ _).mono ?_;rintro e w' ⟨rfl,hbf⟩;obtain⟨hcf,ld⟩:=fu hbf)
    ·go_ret
     exact⟨7,rfl,(fun h=>absurd h zD),hB.trans (bw)⟩
    ·go_ret
     exact⟨1,rfl,(fun h=>absurd h zD),hB.trans ((bw:Below w.heap.size wr _).trans (hbf.mono zm))⟩
    ·have k5:(!xO (m k).lo (m k).hi)=false:=zt
     have k6:(m (k - 1)).day≤(m k).day:=by assumption
     go_roundw
     case rel=>exact⟨k+1,zo,by go_num,hb.trans ((bw:Below (w.heap.size+1) wr _).trans (hbf.mono zm)),hid (eZ hN.out ⟨⟨k2,k1⟩,aT.1 (by simpa using k3),aT.1 (by simpa using k4),(fun _=>k6),by simpa using k5⟩)⟩
     case measure=>simp[intOf];omega
   ·have hd:decide (0<(k:Int))=false:=zm
    clear c0 c1 c2 c3 c4
    gi_quiet (fail)
    gi_wp2_with (gi_at_call 85;refine(rY _ _ _).mono ?_;rintro e w' ⟨rfl,hbf⟩;obtain⟨hcf,ld⟩:=fu hbf)
    ·go_ret
     exact⟨1,rfl,(fun h=>absurd h zD),hB.trans ((bw:Below w.heap.size wr _).trans (hbf.mono zm))⟩
    ·have k5:(!xO (m k).lo (m k).hi)=false:=zt
     go_roundw
     case rel=>exact⟨k+1,zo,by go_num,hb.trans ((bw:Below (w.heap.size+1) wr _).trans (hbf.mono zm)),hid (eZ hN.out ⟨⟨k2,k1⟩,aT.1 (by simpa using k3),aT.1 (by simpa using k4),(fun h=>absurd h hk0),by simpa using k5⟩)⟩
     case measure=>simp[intOf];omega
  ·obtain rfl:k=nm:=zo
   gi_wp2_with fail
   go_ret
   exact⟨0,rfl,(fun _=>⟨zn,hN.out⟩),hB⟩
theorem Qm(b:Bk)(w:World)(h:b.At w w.heap.size)(hd:-9223372036854775808≤b.dY∧b.dY≤9223372036854775807):CallsIn FF 0 prog 44 #[b.val] w (gN (gT b) w):=by
 by_cases hn:b.nm=0
 ·exact LD b w hn h.ng
 ·obtain⟨ad,hA,_⟩:=h.m zo
  exact LG b ad w h hA hd
structure Ct.ok(b:Bk)(c:Ct):Prop where
 good:0≤c.good∧c.good≤(b.ng:Int) - 1
 day:0≤c.day∧c.day≤b.dY
 many:(0≤c.lo∧c.lo≤c.hi)∧c.hi≤999
def nR(b:Bk)(x:Ct):Int:=if fJ x.good 0 ((b.ng:Int) - 1)=true then(if fJ x.day 0 b.dY=true∧iE x.lo x.hi 0 999=true then 0 else 1) else 6
theorem nS(b:Bk)(x:Ct):nR b x=0↔Ct.ok b x:=by
 unfold nR
 constructor
 ·intro h
  by_cases h1:fJ x.good 0 ((b.ng:Int) - 1)=true
  ·rw[if_pos h1] at h
   by_cases h2:fJ x.day 0 b.dY=true∧iE x.lo x.hi 0 999=true
   ·exact⟨aT.1 h1,aT.1 h2.1,kV.1 h2.2⟩
   ·rw[if_neg h2] at h;cases h
  ·rw[if_neg h1] at h;cases h
 ·rintro⟨h1,h2,h3⟩
  rw[if_pos (aT.2 h1),if_pos ⟨aT.2 h2,kV.2 h3⟩]
theorem Nl(b:Bk)(c:Ct)(w:World)(hn:b.ng≤maxLen):CallsIn FF 0 prog 45 #[b.val,.agg #[int i64 c.good,int i64 c.day,int i64 c.lo,int i64 c.hi]] w fun e w'=>e=.returned (int i64 (nR b c))∧Below w.heap.size w w':=by
 simp only[Bk.val,Bk.cells]
 unfold maxLen at hn
 unfold nR
 obtain⟨q1,hq1⟩:∃q,q=fJ c.good 0 ((b.ng:Int) - 1):=zE
 obtain⟨q2,hq2⟩:∃q,q=fJ c.day 0 b.dY:=zE
 obtain⟨q3,hq3⟩:∃q,q=iE c.lo c.hi 0 999:=zE
 rw[← hq1,← hq2,← hq3]
 have H1:=hid hq1
 have H2:=hid hq2
 have H3:=hid hq3
 clear hq1 hq2 hq3
 cases q1 <;> cases q2 <;> cases q3 <;>
 (gi_enter func45,ntmps45
  gi_wp2_with (first
   | (gi_at_call 40;refine(iN _ _ _ _).mono ?_;rintro e w' ⟨he,rfl⟩;(first|rw[← H1.out] at he|rw[← H2.out] at he);subst he)
   | (gi_at_call 8;refine(AA _ _ _ _ _).mono ?_;rintro e w' ⟨he,hbf⟩;rw[← H3.out] at he;subst he))
  go_ret
  first
   | exact⟨rfl,(bw:Below w.heap.size w _).trans (hbf.mono zm)⟩
   | exact⟨rfl,bw⟩)
theorem PD(b:Bk)(c:Ct)(w:World)(hn:b.ng≤maxLen):CallsIn FF 0 prog 45 #[b.val,.agg #[int i64 c.good,int i64 c.day,int i64 c.lo,int i64 c.hi]] w (gN (Ct.ok b c) w):=
 (Nl b c w hn).mono fun _ _ h=>⟨_,h.1,(nS b c).1,h.2⟩
structure Bk.Ok(b:Bk):Prop where
 dY:1≤b.dY∧b.dY≤99
 mO:0≤b.mO∧b.mO≤2
 bE:gQ b
 moves:gT b
 counts:b.nc≤4∧∀i,i<b.nc→Ct.ok b (b.c i)
section
variable{dY mO:Int}{gA mA cA:Option Addr}{ng gc nm mc nc cc:Nat}{g:Nat→Good}{m:Nat→Mv}{c:Nat→Ct}
theorem Nw(w:World)(h:(⟨dY,mO,gA,ng,gc,g,mA,nm,mc,m,cA,nc,cc,c⟩:Bk).At w w.heap.size):CallsIn FF 0 prog 43 #[.agg #[int i64 dY,int i64 mO,.slice gA ng gc,.slice mA nm mc,.slice cA nc cc]] w (gN (gQ ⟨dY,mO,gA,ng,gc,g,mA,nm,mc,m,cA,nc,cc,c⟩) w):=PZ _ w h
theorem Oa(w:World)(h:(⟨dY,mO,gA,ng,gc,g,mA,nm,mc,m,cA,nc,cc,c⟩:Bk).At w w.heap.size)(hd:-9223372036854775808≤dY∧dY≤9223372036854775807):CallsIn FF 0 prog 44 #[.agg #[int i64 dY,int i64 mO,.slice gA ng gc,.slice mA nm mc,.slice cA nc cc]] w (gN (gT ⟨dY,mO,gA,ng,gc,g,mA,nm,mc,m,cA,nc,cc,c⟩) w):=Qm _ w h hd
theorem Yd(k:Nat)(w:World)(hn:ng≤maxLen):CallsIn FF 0 prog 45 #[.agg #[int i64 dY,int i64 mO,.slice gA ng gc,.slice mA nm mc,.slice cA nc cc],.agg #[int i64 (c k).good,int i64 (c k).day,int i64 (c k).lo,int i64 (c k).hi]] w (gN (Ct.ok ⟨dY,mO,gA,ng,gc,g,mA,nm,mc,m,cA,nc,cc,c⟩ (c k)) w):=PD ⟨dY,mO,gA,ng,gc,g,mA,nm,mc,m,cA,nc,cc,c⟩ (c k) w hn
theorem Kz(w:World)(h:(⟨dY,mO,gA,ng,gc,g,mA,nm,mc,m,cA,0,cc,c⟩:Bk).At w w.heap.size)(hd:-9223372036854775808≤dY∧dY≤9223372036854775807):CallsIn FF 0 prog 15 #[.agg #[int i64 dY,int i64 mO,.slice gA ng gc,.slice mA nm mc,.slice cA 0 cc]] w (gN (Bk.Ok ⟨dY,mO,gA,ng,gc,g,mA,nm,mc,m,cA,0,cc,c⟩) w):=by
 have Hh:=hid h
 clear h
 gi_enter func15,ntmps15
 gi_wp2_with (first
  | (gi_at_call 40;refine(iN _ _ _ _).mono ?_;rintro e w' ⟨rfl,rfl⟩)
  | (gi_at_call 43;refine(Nw _ ((Hh.out.alloc zL _).more zs)).mono ?_;rintro e w1 ⟨l1,rfl,hl1,hb1⟩;obtain⟨hc1,hf1⟩:=fu hb1;have hs1:=hb1.size;have H1:=hid (((Hh.out.alloc zL _).more zs).below hb1 |>.more hs1);have L1:=hid hl1;clear hl1;simp at hs1;have hlt1:w.heap.size<w1.heap.size:=hs1)
  | (gi_at_call 44;refine(Oa _ H1.out hd).mono ?_;rintro e w2 ⟨l2,rfl,hl2,hb2⟩;obtain⟨hc2,hf2⟩:=fu hb2;have hs2:=hb2.size;have L2:=hid hl2;clear hl2))
 ·go_ret
  exact⟨1,rfl,(fun h=>absurd h zD),bw⟩
 ·go_ret
  exact⟨1,rfl,(fun h=>absurd h zD),bw⟩
 ·have hne:(l1 != 0)=true:=zt
  go_ret
  exact⟨l1,rfl,(fun h=>by rw[h] at hne;cases hne),(zB.alloc zL _).trans (hb1.mono zs)⟩
 ·have hne:(l2 != 0)=true:=zt
  go_ret
  exact⟨l2,rfl,(fun h=>by rw[h] at hne;cases hne),((zB.alloc zL _).trans (hb1.mono zs)).trans (hb2.mono zo)⟩
 ·have k1:fJ dY 1 99=true:=zt
  have k2:(!fJ mO 0 2)=false:=zt
  have k3:(l1 != 0)=false:=zt
  have k4:(l2 != 0)=false:=zt
  refine wpIn_loop_rounds 1 ?_
  rw[roundsIn_succ]
  gi_wp2
  go_ret
  exact⟨0,rfl,(fun _=>⟨aT.1 k1,aT.1 (by simpa using k2),L1.out (by simpa using k3),L2.out (by simpa using k4),zs,fun i hi=>absurd hi (Nat.not_lt_zero i)⟩),((zB.alloc zL _).trans (hb1.mono zs)).trans (hb2.mono zo)⟩
theorem KA(ad:Addr)(w:World)(h:(⟨dY,mO,gA,ng,gc,g,mA,nm,mc,m,some ad,nc,cc,c⟩:Bk).At w w.heap.size)(hd:-9223372036854775808≤dY∧dY≤9223372036854775807):CallsIn FF 0 prog 15 #[.agg #[int i64 dY,int i64 mO,.slice gA ng gc,.slice mA nm mc,.slice (some ad) nc cc]] w (gN (Bk.Ok ⟨dY,mO,gA,ng,gc,g,mA,nm,mc,m,some ad,nc,cc,c⟩) w):=by
 have Hh:=hid h
 have hnc:=h.nc
 simp only at hnc
 unfold maxLen at hnc
 have wu:=h.ng
 clear h
 gi_enter func15,ntmps15
 gi_wp2_with (first
  | (gi_at_call 40;refine(iN _ _ _ _).mono ?_;rintro e w' ⟨rfl,rfl⟩)
  | (gi_at_call 43;refine(Nw _ ((Hh.out.alloc zL _).more zs)).mono ?_;rintro e w1 ⟨l1,rfl,hl1,hb1⟩;obtain⟨hc1,hf1⟩:=fu hb1;have hs1:=hb1.size;have H1:=hid (((Hh.out.alloc zL _).more zs).below hb1 |>.more hs1);have L1:=hid hl1;clear hl1;simp at hs1;have hlt1:w.heap.size<w1.heap.size:=hs1)
  | (gi_at_call 44;refine(Oa _ H1.out hd).mono ?_;rintro e w2 ⟨l2,rfl,hl2,hb2⟩;obtain⟨hc2,hf2⟩:=fu hb2;have hs2:=hb2.size;have L2:=hid hl2;clear hl2))
 ·go_ret
  exact⟨1,rfl,(fun h=>absurd h zD),bw⟩
 ·go_ret
  exact⟨1,rfl,(fun h=>absurd h zD),bw⟩
 ·have hne:(l1 != 0)=true:=zt
  go_ret
  exact⟨l1,rfl,(fun h=>by rw[h] at hne;cases hne),(zB.alloc zL _).trans (hb1.mono zs)⟩
 ·have hne:(l2 != 0)=true:=zt
  go_ret
  exact⟨l2,rfl,(fun h=>by rw[h] at hne;cases hne),((zB.alloc zL _).trans (hb1.mono zs)).trans (hb2.mono zo)⟩
 ·go_ret
  exact⟨2,rfl,(fun h=>absurd h zD),((zB.alloc zL _).trans (hb1.mono zs)).trans (hb2.mono zo)⟩
 have k1:fJ dY 1 99=true:=zt
 have k2:(!fJ mO 0 2)=false:=zt
 have k3:(l1 != 0)=false:=zt
 have k4:(l2 != 0)=false:=zt
 have k5:(nc:Int)≤4:=by assumption
 have NQ:∀o,w2.cell? ⟨w.heap.size,o,none⟩=(w.alloc (.cells #[int i64 dY,int i64 mO,.slice gA ng gc,.slice mA nm mc,.slice (some ad) nc cc] 26)).cell? ⟨w.heap.size,o,none⟩:=fun o=>(hb2.cell (p:=⟨w.heap.size,o,none⟩) hlt1).trans (hb1.cell (p:=⟨w.heap.size,o,none⟩) zs)
 have hB2:Below w.heap.size w w2:=((zB.alloc zL _).trans (hb1.mono zs)).trans (hb2.mono zo)
 have hsz2:w.heap.size<w2.heap.size:=zo
 have H2:=hid ((H1.out.below hb2).more hs2)
 clear hc1 hf1 hc2 hf2 H1 hb1 hb2 hs1 hs2 hlt1
 simp only[k4]
 gi_loopw [5] (fun i wr=>∃k:Nat,k≤nc∧i=int i64 k∧Below w2.heap.size w2 wr∧Hid (∀i,i<k→Ct.ok ⟨dY,mO,gA,ng,gc,g,mA,nm,mc,m,some ad,nc,cc,c⟩ (c i))) (fun i _=>nc - (intOf i).toNat)
 case atStart=>exact⟨0,Nat.zero_le _,rfl,zB,hid (fun j hj=>absurd hj (Nat.not_lt_zero j))⟩
 case round=>
  obtain⟨k,hk,rfl,hb,hN⟩:=hrel
  have hsz:w.heap.size<wr.heap.size:=by have:=hb.size;omega
  have jq:∀o,wr.cell? ⟨w.heap.size,o,none⟩=(w.alloc (.cells #[int i64 dY,int i64 mO,.slice gA ng gc,.slice mA nm mc,.slice (some ad) nc cc] 26)).cell? ⟨w.heap.size,o,none⟩:=fun o=>(hb.cell (p:=⟨w.heap.size,o,none⟩) hsz2).trans (NQ o)
  by_cases hlt:k<nc
  ·have hr:=((H2.out.below hb).c).row hlt
   have c0:wr.cell? (ad.add (k * 4))=some (int i64 (c k).good):=hr.2 0 zD
   have c1:wr.cell? ⟨(ad.add (k * 4)).block,(ad.add (k * 4)).off+1,none⟩=some (int i64 (c k).day):=hr.2 1 zD
   have c2:wr.cell? ⟨(ad.add (k * 4)).block,(ad.add (k * 4)).off+2,none⟩=some (int i64 (c k).lo):=hr.2 2 zD
   have c3:wr.cell? ⟨(ad.add (k * 4)).block,(ad.add (k * 4)).off+3,none⟩=some (int i64 (c k).hi):=hr.2 3 zD
   clear hr NQ
   gi_wp2
   gi_region_with (gi_at_call 45;refine(Yd (g:=g) (m:=m) (c:=c) k _ wu).mono ?_;rintro e w3 ⟨l3,rfl,hl3,hb3⟩;have L3:=hid hl3;clear hl3)
   all_goals gi_wp2
   all_goals first
    | (have hne:(l3 != 0)=true:=by assumption
       go_ret
       exact⟨l3,rfl,(fun h=>by rw[h] at hne;cases hne),hB2.trans ((dR (hb.mono zo)).trans (hb3.mono zm))⟩)
    | (have hz:(l3 != 0)=false:=by assumption
       go_roundw
       case rel=>exact⟨k+1,zo,by go_num,(dR hb).trans (hb3.mono (by have:=hb.size;simpa using this)),hid (eZ hN.out (L3.out (by simpa using hz)))⟩
       case measure=>simp[intOf];omega)
  ·obtain rfl:k=nc:=zo
   gi_wp2_with fail
   go_ret
   exact⟨0,rfl,(fun _=>⟨aT.1 k1,aT.1 (by simpa using k2),L1.out (by simpa using k3),L2.out (by simpa using k4),zn,hN.out⟩),hB2.trans (hb.mono zo)⟩
end
theorem Pp(b:Bk)(w:World)(h:b.At w w.heap.size)(hd:-9223372036854775808≤b.dY∧b.dY≤9223372036854775807):CallsIn FF 0 prog 15 #[b.val] w (gN b.Ok w):=by
 obtain⟨dY,mO,gA,ng,gc,g,mA,nm,mc,m,cA,nc,cc,c⟩:=b
 by_cases hn:nc=0
 ·subst hn
  exact Kz w h hd
 ·obtain⟨ad,hA,_⟩:=h.c zn
  simp only at hA
  subst hA
  exact KA ad w h hd
def Gs(Q:Bool→Prop)(w:World)(e:Ending)(w':World):Prop:=∃t:Bool,e=.returned (.bool t)∧Q t∧Below w.heap.size w w'
section
variable{dY mO:Int}{gA mA cA:Option Addr}{ng gc nm mc nc cc:Nat}{g:Nat→Good}{m:Nat→Mv}{c:Nat→Ct}
theorem P6(w:World)(h:(⟨dY,mO,gA,ng,gc,g,mA,nm,mc,m,cA,nc,cc,c⟩:Bk).At w w.heap.size):CallsIn FF 0 prog 16 #[.agg #[int i64 dY,int i64 mO,.slice gA ng gc,.slice mA nm mc,.slice cA nc cc]] w (Gs (fun _=>True) w):=by
 have Hh:=hid h
 have h1:=h.ng
 have h2:=h.nm
 have h3:=h.nc
 simp only at h1 h2 h3
 unfold maxLen at h1 h2 h3
 clear h
 gi_enter func16,ntmps16
 gi_wp2
 ·go_ret
  exact⟨true,rfl,zT,bw⟩
 ·go_ret
  exact⟨true,rfl,zT,bw⟩
 ·go_ret
  exact⟨true,rfl,zT,bw⟩
 gi_loop [3] (fun i=>∃k:Nat,k≤ng∧i=int i64 k) (fun i=>ng - (intOf i).toNat)
 case atStart=>exact⟨0,Nat.zero_le _,rfl⟩
 case round=>
  obtain⟨k,hk,rfl⟩:=hrel
  by_cases hlt:k<ng
  ·obtain⟨ad,hA,hblk,hc⟩:=Hh.out.g (show 0<ng by omega)
   simp only at hA hc
   subst hA
   have hr:=(Hh.out.g.alloc zL (.cells #[int i64 dY,int i64 mO,.slice (some ad) ng gc,.slice mA nm mc,.slice cA nc cc] 26)).row hlt
   have c0:(w.alloc (.cells #[int i64 dY,int i64 mO,.slice (some ad) ng gc,.slice mA nm mc,.slice cA nc cc] 26)).cell? (ad.add (k * 5))=some (.string (g k).name):=hr.2 0 zD
   have hnm:(g k).name.size≤maxLen:=Hh.out.name k hlt
   unfold maxLen at hnm
   clear hr hc
   gi_wp2
   ·go_ret
    exact⟨true,rfl,zT,bw⟩
   ·go_round
    case rel=>exact⟨k+1,zo,by go_num⟩
    case measure=>simp[intOf];omega
  ·gi_wp2
   go_ret
   exact⟨false,rfl,zT,bw⟩
theorem XW(w:World)(h:(⟨dY,mO,gA,ng,gc,g,mA,nm,mc,m,cA,nc,cc,c⟩:Bk).At w w.heap.size)(hd:-9223372036854775808≤dY∧dY≤9223372036854775807):CallsIn FF 0 prog 15 #[.agg #[int i64 dY,int i64 mO,.slice gA ng gc,.slice mA nm mc,.slice cA nc cc]] w (gN (Bk.Ok ⟨dY,mO,gA,ng,gc,g,mA,nm,mc,m,cA,nc,cc,c⟩) w):=Pp _ w h hd
theorem Yi(w:World)(h:(⟨dY,mO,gA,ng,gc,g,mA,nm,mc,m,cA,nc,cc,c⟩:Bk).At w w.heap.size)(hd:-9223372036854775808≤dY∧dY≤9223372036854775807):CallsIn FF 0 prog 5 #[.agg #[int i64 dY,int i64 mO,.slice gA ng gc,.slice mA nm mc,.slice cA nc cc]] w
 (Gs (fun t=>t=true→Bk.Ok ⟨dY,mO,gA,ng,gc,g,mA,nm,mc,m,cA,nc,cc,c⟩) w):=by
 have Hh:=hid h
 clear h
 gi_enter func5,ntmps5
 gi_wp2_with (first
  | (gi_at_call 16;refine(P6 _ ((Hh.out.alloc zL _).more zs)).mono ?_;rintro e w1 ⟨t1,rfl,_,hb1⟩;obtain⟨hc1,hf1⟩:=fu hb1;have hs1:=hb1.size;have H1:=hid (((Hh.out.alloc zL _).more zs).below hb1 |>.more hs1);simp at hs1;have hlt1:w.heap.size<w1.heap.size:=hs1)
  | (gi_at_call 15;refine(XW _ H1.out hd).mono ?_;rintro e w2 ⟨l2,rfl,hl2,hb2⟩;have L2:=hid hl2;clear hl2))
 ·go_ret
  exact⟨_,rfl,(fun h=>L2.out (by simpa using h)),((zB.alloc zL _).trans (hb1.mono zs)).trans (hb2.mono zo)⟩
 ·go_ret
  exact⟨_,rfl,(fun h=>by cases h),((zB.alloc zL _).trans (hb1.mono zs))⟩
end
def Ints(w:World)(B:Nat)(A:Option Addr)(n:Nat)(xs:Nat→Int):Prop:=Rows w B 1 A n (fun i _=>int i64 (xs i))
theorem Ints.at_{w:World}{B n:Nat}{ad:Addr}{xs:Nat→Int}(h:Ints w B (some ad) n xs){k:Nat}(hk:k<n):w.cell? (ad.add k)=some (int i64 (xs k)):=by
 have:=(Rows.row h hk).2 0 zD
 rwa[Nat.mul_one,add_zero'] at this
def hasB(n:Nat)(xs:Nat→Int)(v:Int):Bool:=decide (∃i,i<n∧xs i=v)
theorem Yp(A:Option Addr)(n cap:Nat)(xs:Nat→Int)(v:Int)(B:Nat)(w:World)(h:Ints w B A n xs)(hn:n≤maxLen):
 CallsIn FF 0 prog 82 #[.slice A n cap,int i64 v] w fun e w'=>e=.returned (.bool (hasB n xs v))∧w=w':=by
 have Hh:=hid h
 clear h
 unfold maxLen at hn
 gi_enter func82,ntmps82
 gi_wp2
 gi_loop [5] (fun i=>∃k:Nat,k≤n∧i=int i64 k∧Hid (∀j,j<k→xs j≠v)) (fun i=>n - (intOf i).toNat)
 case atStart=>exact⟨0,Nat.zero_le _,rfl,hid (fun j hj=>absurd hj (Nat.not_lt_zero j))⟩
 case round=>
  obtain⟨k,hk,rfl,hN⟩:=hrel
  by_cases hlt:k<n
  ·obtain⟨ad,hA,-⟩:=Hh.out (show 0<n by omega)
   subst hA
   have c0:=Ints.at_ Hh.out hlt
   gi_wp2
   ·have he':(xs k == v)=true:=zt
    have he:xs k=v:=by simpa using he'
    go_ret
    exact⟨by rw[show hasB n xs v=true from decide_eq_true ⟨k,hlt,he⟩];rfl,rfl⟩
   ·have he':(xs k == v)=false:=zt
    have he:¬ xs k=v:=by simpa using he'
    go_round
    case rel=>exact⟨k+1,zo,by go_num,hid (eZ hN.out he)⟩
    case measure=>simp[intOf];omega
  ·obtain rfl:k=n:=zo
   gi_wp2
   go_ret
   exact⟨by rw[show hasB k xs v=false from decide_eq_false (fun⟨i,hi,e⟩=>hN.out i hi e)];rfl,rfl⟩
theorem VG(A A':Option Addr)(n cap cap':Nat)(xs:Nat→Int)(B:Nat)(w:World)(h:Ints w B A n xs)(h':Ints w B A' n xs)(hn:n≤maxLen):
 CallsIn FF 0 prog 72 #[.slice A n cap,.slice A' n cap'] w fun e w'=>e=.returned (.bool true)∧∃q,w'=w.drewN q:=by
 have Hh:=hid h
 have tA:=hid h'
 clear h h'
 unfold maxLen at hn
 gi_enter func72,ntmps72
 gi_wp2
 gi_loopw [5] (fun i wr=>∃k q:Nat,k≤n∧i=int i64 k∧wr=w.drewN q) (fun i _=>n - (intOf i).toNat)
 case atStart=>exact⟨0,0,Nat.zero_le _,rfl,rfl⟩
 case round=>
  obtain⟨k,q,hk,rfl,rfl⟩:=hrel
  by_cases hlt:k<n
  ·obtain⟨ad,hA,-⟩:=Hh.out (show 0<n by omega)
   obtain⟨Pe,hA',-⟩:=tA.out (show 0<n by omega)
   subst hA
   subst hA'
   have c0:=Ints.at_ Hh.out hlt
   have c0':=Ints.at_ tA.out hlt
   gi_wp2
   gi_quiet (fail)
   gi_wp2
   go_roundw
   case rel=>exact⟨k+1,_,zo,by go_num,rfl⟩
   case measure=>simp[intOf];omega
  ·obtain rfl:k=n:=zo
   gi_wp2
   go_ret
   exact⟨rfl,q,rfl⟩
def Lists(w:World)(B:Nat)(A:Option Addr)(n:Nat)(P:Nat→Option Addr)(len cap:Nat→Nat):Prop:=Rows w B 1 A n (fun i _=>.slice (P i) (len i) (cap i))
theorem Lists.at_{w:World}{B n:Nat}{ad:Addr}{P:Nat→Option Addr}{len cap:Nat→Nat}(h:Lists w B (some ad) n P len cap){k:Nat}(hk:k<n):w.cell? (ad.add k)=some (.slice (P k) (len k) (cap k)):=by
 have:=(Rows.row h hk).2 0 zD
 rwa[Nat.mul_one,add_zero'] at this
theorem QF(A A':Option Addr)(n cap cap':Nat)(P P':Nat→Option Addr)(len c1 c2:Nat→Nat)(xs:Nat→Nat→Int)(B:Nat)(w:World)(h:Lists w B A n P len c1)(h':Lists w B A' n P' len c2)(hn:n≤maxLen)
 (hx:∀i,i<n→Ints w B (P i) (len i) (xs i))(hx':∀i,i<n→Ints w B (P' i) (len i) (xs i))(hl:∀i,i<n→len i≤maxLen):
 CallsIn FF 0 prog 30 #[.slice A n cap,.slice A' n cap'] w fun e w'=>e=.returned (.bool true)∧∃q,w'=w.drewN q:=by
 have Hh:=hid h
 have tA:=hid h'
 have Hx:=hid hx
 have Hx':=hid hx'
 have Hl:=hid hl
 clear h h' hx hx' hl
 unfold maxLen at hn
 gi_enter func30,ntmps30
 gi_wp2
 gi_loopw [5] (fun i wr=>∃k:Nat,k≤n∧i=int i64 k∧Hid (∃q,wr=w.drewN q)) (fun i _=>n - (intOf i).toNat)
 case atStart=>exact⟨0,Nat.zero_le _,rfl,hid ⟨0,rfl⟩⟩
 case round=>
  obtain⟨k,hk,rfl,hq⟩:=hrel
  have hcl:∀p,wr.cell? p=w.cell? p:=fun p=>by obtain⟨q,rfl⟩:=hq.out;rfl
  by_cases hlt:k<n
  ·obtain⟨ad,hA,-⟩:=Hh.out (show 0<n by omega)
   obtain⟨Pe,hA',-⟩:=tA.out (show 0<n by omega)
   subst hA
   subst hA'
   have c0:=(hcl _).trans (Lists.at_ Hh.out hlt)
   have c0':=(hcl _).trans (Lists.at_ tA.out hlt)
   have hS:∀q2,CallsIn FF 0 prog 72 #[.slice (P k) (len k) (c1 k),.slice (P' k) (len k) (c2 k)] (wr.drewN q2) fun e w2=>e=.returned (.bool true)∧∃m,w2=(wr.drewN q2).drewN m:=fun q2=>
    VG _ _ _ _ _ _ B _ ((Hx.out k hlt).keep fun p _=>hcl p) ((Hx'.out k hlt).keep fun p _=>hcl p) (Hl.out k hlt)
   clear hcl
   gi_wp2
   gi_quiet ((gi_at_call 72;exact CallsIn.quiet_of (hS _)))
   gi_wp2
   go_roundw
   case rel=>exact⟨k+1,zo,by go_num,hid (by obtain⟨q,rfl⟩:=hq.out;exact⟨_,World.drewN_drewN _ _ _⟩)⟩
   case measure=>simp[intOf];omega
  ·obtain rfl:k=n:=zo
   gi_wp2
   go_ret
   exact⟨rfl,hq.out⟩
end
section
open Go
section
variable{P:Program}{ops:Array Oper}{Q:Exit→Act→World→Prop}{md:Region.Mode}{S:World→Prop}{L:Nat}
def waits(md:Region.Mode)(ops:Array Oper)(L i:Nat):Bool:=match ops[L]? with
 | some o=>o.after.any fun e=>Region.binds md e && e.on == i
 | none=>false
theorem qX{i:Nat}{listed:Array Bool}(h:waits md ops L i=true)(hi:listed.getD i true=false):L∉Region.ready md ops listed:=fun hr=>by
 obtain⟨_,o,ho,hall⟩:=mem_ready.1 hr
 unfold waits at h
 rw[ho] at h
 obtain⟨k,hk,he⟩:=Array.any_eq_true.1 h
 simp only[Bool.and_eq_true,beq_iff_eq] at he
 have:=hall _ (Array.getElem_mem hk) he.1
 rw[he.2] at this
 rcases Nat.lt_or_ge i listed.size with h'|h'
 ·simp[h'] at hi this;rw[hi] at this;cases this
 ·simp[Array.getElem?_eq_none h'] at this
end
section
variable{F:Fence}{n:Nat}{P:Program}{ops:Array Oper}{Q:Exit→Act→World→Prop}{md:Region.Mode}{S:World→Prop}{L:Nat}
structure bP(P:Program)(ops:Array Oper)(S:World→Prop)(o:Oper)(v:Value)(a:Act):Prop where
 y:YieldsIf P ops S o v a
 quiet:∀w,o.about P w a.eval=none
theorem bP.wpOpIn{i:Nat}{o:Oper}{v:Value}{a:Act}(hro:F.round=none)(hi:ops[i]? =some o)(hy:bP P ops S o v a){K:Act→World→Prop}{w:World}(hS:S w)(h:K (a.put o.dst v) w):wpOpIn F n P ops Q i K a w:=by
 have hab:∀f,o.about P w a.eval=some f→F.fn f:=fun f hf=>by rw[hy.quiet w] at hf;cases hf
 unfold Go.wpOpIn
 simp only[hi]
 rcases hy.y with⟨hw,hv⟩|⟨hw,rfl⟩
 ·rw[if_pos hw]
  refine⟨hab,?_⟩
  rw[hro,Oper.semAt_none,hv w hS]
  exact h
 ·rw[if_neg (by rw[hw];simp)]
  exact⟨hab,h⟩
theorem RA{o:Oper}{r:Result Next}{a b:Act}{K K':Act→World→Prop}(hv:∀u w,K (b.put o.dst u) w→K' (a.put o.dst u) w)(hd:∀d w,K (Act.put {b with defers:=d :: b.defers } o.dst undef) w→K' (Act.put {a with defers:=d :: a.defers } o.dst undef) w)
 (hQ:∀c w,Q (.panic c) b w→Q (.panic c) a w)(h:o.uponIn F n P b K Q r):o.uponIn F n P a K' Q r:=by
 have both:∀e w,(match (e:Ending),(w:World) with
  | .returned v,w=>K (b.put o.dst v) w
  | .panicked c,w=>Q (.panic c) b w
  | .outgrown,_=>LetsOut Q)→(match e,w with
  | .returned v,w=>K' (a.put o.dst v) w
  | .panicked c,w=>Q (.panic c) a w
  | .outgrown,_=>LetsOut Q):=fun e w h=>by
  cases e with
  | returned v=>exact hv v w h
  | panicked c=>exact hQ c w h
  | outgrown=>exact h
 cases r with
 | halt x w=>
   cases x with
   | panic v=>exact hQ _ w h
   | _=>exact h
 | ok x w=>
   cases x with
   | value v=>exact hv v w h
   | skip=>exact hv undef w h
   | defer d=>exact hd d w h
   | enter f args=>exact⟨h.1,h.2.mono both⟩
   | row r args=>exact⟨h.1,h.2.mono fun v w h=>hv v w h⟩
   | round l f t x y=>exact⟨h.1,h.2.mono both⟩
   | _=>exact h
theorem tY(hro:F.round=none){j:Nat}{oi oj:Oper}{v:Value}(hj:ops[j]? =some oj)(hap:oi.apart ops oj=true)(hsi:∀cs b,oi.op≠.select cs b)(hsj:∀cs b,oj.op≠.select cs b)
 (hQ:∀c a w,Q (.panic c) (a.put oi.dst v) w→Q (.panic c) a w){K:Act→World→Prop}{a:Act}{w:World}(hy:bP P ops S oi v a)(h:wpOpIn F n P ops Q j K (a.put oi.dst v) w):
 wpOpIn F n P ops Q j (fun a' w'=>bP P ops S oi v a'∧K (a'.put oi.dst v) w') a w:=by
 obtain⟨h1,h2,h3⟩:=Oper.apart_spec hap
 have still:∀ (b:Act),bP P ops S oi v b→∀u,bP P ops S oi v (b.put oj.dst u):=fun b hb u=>
  ⟨hb.y.of_same (execOp_put oi hsi b oj.dst u h3) (wanted_put oi b oj.dst u h3),fun w=>(about_put oi w b oj.dst u h3).trans (hb.quiet w)⟩
 unfold wpOpIn at h⊢
 simp only[hj] at h⊢
 rw[wanted_put oj a oi.dst v h1,about_put oj w a oi.dst v h1] at h
 by_cases hw:Region.wanted oj (yielded ops a.tmps)=true
 ·rw[if_pos hw] at h⊢
  obtain⟨h4,h5⟩:=h
  refine⟨by rw[about_put oj w a oi.dst v h1] at h4;exact h4,?_⟩
  rw[hro,Oper.semAt_none] at h5⊢
  rw[execOp_put oj hsj a oi.dst v h1] at h5
  refine RA (fun u w' hk=>⟨still a hy u,?_⟩) (fun d w' hk=>⟨still {a with defers:=d :: a.defers } ⟨hy.y.of_same rfl rfl,hy.quiet⟩ undef,?_⟩) (fun c w' hq=>hQ c a w' hq) h5
  ·rw[← Act.put_comm a v u h2];exact hk
  ·rw[← Act.put_comm _ v undef h2,← Act.put_defers];exact hk
 ·rw[if_neg hw] at h⊢
  exact⟨h.1,still a hy _,by rw[← Act.put_comm a v undef h2];exact h.2⟩
def bg(F:Fence)(n:Nat)(P:Program)(md:Region.Mode)(ops:Array Oper)(Q:Exit→Act→World→Prop)(S:World→Prop)(L:Nat):Nat→Array Bool→Act→World→Prop
 | 0,listed,a,w=>Region.ready md ops listed=[]∧Q .normal a w
 | fuel+1,listed,a,w=>
   (Region.ready md ops listed=[]→Q .normal a w)∧
   ∀i∈Region.ready md ops listed,wpOpIn F n P ops Q i (fun a' w'=>(i≠L→S w')∧bg F n P md ops Q S L fuel (listed.setIfInBounds i true) a' w') a w
theorem nD:∀ (fuel:Nat) (listed:Array Bool) (a:Act) (w:World),bg F n P md ops Q S L fuel listed a w→wpAnyIn F n P md ops Q fuel listed a w
 | 0,_,_,_,h=>h
 | fuel+1,_,_,_,h=>⟨h.1,fun i hi=>wpOpIn_mono (fun a' w' h'=>nD fuel _ a' w' h'.2) (h.2 i hi)⟩
theorem AO{i:Nat}{oi:Oper}{v:Value}(hro:F.round=none)(hi:ops[i]? =some oi)(hsel:∀ (j:Nat) (o:Oper) cs b,ops[j]? =some o→o.op≠.select cs b)
 (hQ:∀c a w,Q (.panic c) (a.put oi.dst v) w→Q (.panic c) a w)(hL:waits md ops L i=true):
 ∀ (fuel:Nat) (listed:Array Bool) (a:Act) (w:World),
   (∀j oj,ops[j]? =some oj→j≠i→listed.getD j true=false→(∀e∈oj.after,Region.binds md e=true→e.on≠i)→oi.apart ops oj=true)→
   i∈Region.ready md ops listed→bP P ops S oi v a→S w→
   bg F n P md ops Q S L fuel (listed.setIfInBounds i true) (a.put oi.dst v) w→bg F n P md ops Q S L (fuel+1) listed a w:=by
 intro fuel
 induction fuel with
 | zero=>
   intro listed a w _ hr hy hS H
   refine⟨fun h=>(by rw[h] at hr;cases hr),fun j hj=>?_⟩
   by_cases hji:j=i
   ·subst hji;exact hy.wpOpIn hro hi hS ⟨fun _=>hS,H⟩
   ·have:=ready_mono hj hji
    rw[H.1] at this
    cases this
 | succ fuel ih=>
   intro listed a w hfree hr hy hS H
   refine⟨fun h=>(by rw[h] at hr;cases hr),fun j hj=>?_⟩
   by_cases hji:j=i
   ·subst hji;exact hy.wpOpIn hro hi hS ⟨fun _=>hS,H⟩
   ·have SZ:j≠L:=fun e=>qX hL (mem_ready.1 hr).1 (e ▸ hj)
    have h1:=H.2 j (ready_mono hj hji)
    obtain⟨hjun,oj,hoj,hall⟩:=mem_ready.1 hj
    have hnot:∀e∈oj.after,Region.binds md e=true→e.on≠i:=fun e he hb heq=>by
     have h1:=hall e he hb
     have h0:=(mem_ready.1 hr).1
     rw[heq] at h1
     rcases Nat.lt_or_ge i listed.size with h'|h'
     ·simp[h'] at h0 h1;rw[h0] at h1;cases h1
     ·simp[Array.getElem?_eq_none h'] at h1
    have h2:=tY hro hoj (hfree j oj hoj hji hjun hnot) (fun cs b=>hsel i oi cs b hi) (fun cs b=>hsel j oj cs b hoj) hQ hy h1
    have hfree':∀k ok,ops[k]? =some ok→k≠i→(listed.setIfInBounds j true).getD k true=false→
     (∀e∈ok.after,Region.binds md e=true→e.on≠i)→oi.apart ops ok=true:=fun k ok hk hki hun hno=>by
     refine hfree k ok hk hki ?_ hno
     by_cases hjk:j=k
     ·subst hjk;exact hjun
     ·rw[getD_set_ne true hjk] at hun;exact hun
    refine wpOpIn_mono (fun a' w' h3=>⟨h3.2.1,ih (listed.setIfInBounds j true) a' w' hfree' (ready_mono hr (Ne.symm hji)) h3.1 (h3.2.1 SZ) ?_⟩) h2
    rw[Array.setIfInBounds_comm _ _ hji]
    exact h3.2.2
theorem Cg{i:Nat}{oi:Oper}{v:Value}{fuel:Nat}{listed:Array Bool}{a:Act}{w:World}(hro:F.round=none)(hi:ops[i]? =some oi)
 (hs:Region.noSelect ops=true)(hf:Region.free md ops listed i=true)(hr:(Region.ready md ops listed).contains i=true)(hL:waits md ops L i=true)
 (hQ:∀c a w,Q (.panic c) (a.put oi.dst v) w→Q (.panic c) a w)(hy:bP P ops S oi v a)(hS:S w)
 (h:bg F n P md ops Q S L fuel (listed.setIfInBounds i true) (a.put oi.dst v) w):bg F n P md ops Q S L (fuel+1) listed a w:=
 AO hro hi (Region.noSelect_spec hs) hQ hL fuel listed a w (Region.free_spec hi hf) (by simpa using hr) hy hS h
theorem AQ{i:Nat}(d:Option Tmp){oi:Oper}{v:Value}{fuel:Nat}{listed:Array Bool}{a:Act}{w:World}(hro:F.round=none)(hi:ops[i]? =some oi)
 (hs:Region.noSelect ops=true)(hf:Region.free md ops listed i=true)(hr:(Region.ready md ops listed).contains i=true)(hL:waits md ops L i=true)(hd:oi.dst=d)
 (hQ:∀c a w,Q (.panic c) (a.put d v) w→Q (.panic c) a w)(hy:bP P ops S oi v a)(hS:S w)
 (h:bg F n P md ops Q S L fuel (listed.setIfInBounds i true) (a.put d v) w):bg F n P md ops Q S L (fuel+1) listed a w:=by
 subst hd
 exact Cg hro hi hs hf hr hL hQ hy hS h
theorem Cc{i:Nat}(d:Option Tmp){oi:Oper}{v:Value}{fuel:Nat}{listed:Array Bool}{a:Act}{w:World}(hS:S w)(h:bg F n P md ops Q S L fuel (listed.setIfInBounds i true) (a.put d v) w)
 (hro:F.round=none:=by exact rfl)(hi:ops[i]? =some oi:=by exact rfl)(hs:Region.noSelect ops=true:=by kernel_rfl)(hf:Region.free md ops listed i=true:=by kernel_rfl)
 (hr:(Region.ready md ops listed).contains i=true:=by kernel_rfl)(hL:waits md ops L i=true:=by kernel_rfl)(hd:oi.dst=d:=by rfl)(hQ:∀c a w,Q (.panic c) (a.put d v) w→Q (.panic c) a w:=by exact fun _ _ _ h=>h)
 (hy:bP P ops S oi v a:=by exact⟨Or.inl ⟨zr,by intro wq Rr;(try dsimp only at Rr);go_simp;all_goals with_reducible rfl⟩,fun _=>rfl⟩):bg F n P md ops Q S L (fuel+1) listed a w:=
 AQ d hro hi hs hf hr hL hd hQ hy hS h
theorem bf(i:Nat){o:Oper}{fuel:Nat}{listed:Array Bool}{a:Act}{w:World}
 (h:∀K':Act→World→Prop,Shut (∀a w,(i≠L→S w)→bg F n P md ops Q S L fuel (listed.setIfInBounds i true) a w→K' a w)→if Region.wanted o (yielded ops a.tmps)=true then Oper.wpIn F n P o a w K' Q else(∀f,o.about P w a.eval=some f→F.fn f)∧K' (a.put o.dst undef) w)(hr:Region.ready md ops listed=[i]:=by kernel_rfl)(ho:ops[i]? =some o:=by exact rfl):
 bg F n P md ops Q S L (fuel+1) listed a w:=by
 refine⟨(fun h0=>by rw[hr] at h0;cases h0),fun j hj=>?_⟩
 rw[hr] at hj
 obtain rfl:j=i:=by simpa using hj
 exact wpOpIn_step ho fun K' hK=>h K' fun a w hS hW=>hK a w ⟨hS,hW⟩
theorem aG{listed:Array Bool}{a:Act}{w:World}(hr:Region.ready md ops listed=[])(h:Q .normal a w):∀fuel,bg F n P md ops Q S L fuel listed a w
 | 0=>⟨hr,h⟩
 | _+1=>⟨fun _=>h,by rw[hr];simp⟩
theorem iY{id:Nat}{a:Act}{w:World}(L:Nat)(S:World→Prop)(hm:P.follows .mixedOrders=true)
 (h:bg F n P .any ops Q S L ops.size (Array.replicate ops.size false) a w.drew):(Code.region id ops true).wpIn F n P Q a w:=
 wpIn_region_any hm (nD _ _ _ _ h)
theorem qb{o:Oper}{b:Builtin}{args:Array Operand}{ts:Array TypeId}(ho:o.op=.call {callee:=.builtin b,args,argTypes:=ts })(ρ:Operand→Value)(w:World):o.about P w ρ=none:=by
 unfold Oper.about
 rw[ho]
 rfl
theorem Es{o:Oper}{args:Array Operand}{ts:Array TypeId}(ho:o.op=.call {callee:=.builtin .append,args,argTypes:=ts })(ρ:Operand→Value)(w:World):∀x w',(execOp ρ o).run P w=.ok x w'→∃v,x=.value v:=by
 intro x w' h
 have e:execOp ρ o=(Builtin.append_ ts o.type (args.map ρ)) >>= fun v=>pure (.value v):=by unfold execOp;rw[ho];rfl
 rw[e,Sem.run_bind] at h
 cases hr:(Builtin.append_ ts o.type (args.map ρ)).run P w with
 | ok v w1=>rw[hr] at h;cases h;exact⟨v,rfl⟩
 | halt y w1=>rw[hr] at h;cases h
theorem sD{o:Oper}{args:Array Operand}{ts:Array TypeId}(hro:F.round=none)(ho:o.op=.call {callee:=.builtin .append,args,argTypes:=ts }){a:Act}{w:World}{K:Act→World→Prop}(h:o.wp P a w K Q):o.wpIn F n P a w K Q:=by
 refine⟨fun f hf=>(by rw[qb ho] at hf;cases hf),?_⟩
 have hv:=Es (P:=P) ho a.eval w
 unfold Oper.wp at h
 rw[hro,Oper.semAt_none]
 generalize (execOp a.eval o).run P w=r at h hv
 cases r with
 | ok x w'=>
   obtain⟨v,rfl⟩:=hv x w' rfl
   exact h
 | halt x w'=>cases x <;> exact h
theorem dh{o:Oper}{args:Array Operand}{ts:Array TypeId}(hro:F.round=none)(ho:o.op=.call {callee:=.builtin .append,args,argTypes:=ts }){a:Act}{w:World}{K:Act→World→Prop}{E E':Prop}(hg:o.guard=none)
 (h:if Region.wanted o (yielded ops a.tmps)=true then Oper.wp P o a w K Q else E):if Region.wanted o (yielded ops a.tmps)=true then Oper.wpIn F n P o a w K Q else E':=by
 have hw:Region.wanted o (yielded ops a.tmps)=true:=by simp[Region.wanted,hg]
 rw[if_pos hw] at h⊢
 exact sD hro ho h
theorem aD{o:Oper}{rest:List Oper}{args:Array Operand}{ts:Array TypeId}(hro:F.round=none)(hg:o.guard=none)(ho:o.op=.call {callee:=.builtin .append,args,argTypes:=ts }){a:Act}{w:World}
 (h:∀K:Act→World→Prop,(∀a w,wpListIn F n P ops Q rest a w→K a w)→o.wp P a w K Q):wpListIn F n P ops Q (o :: rest) a w:=
 wpListIn_plain hg fun K hK=>sD hro ho (h K hK)
end
end
section
open Go.RowKit
def pick(n:Nat)(xs:Nat→Int)(k:Nat):Int:=if k<n then xs k else 0
theorem info3:(Tryz.prog.info? 3).map (fun i=>(i.zero,i.size,i.bytes))=some (some (int i64 0),1,8):=zk
structure wY(b:Bk)(l1 l2 l3:List Int):Prop where
 n1:l1.length=b.ng
 n2:l2.length=b.nm
 b1:∀x∈l1,0≤x∧x≤99
 b2:∀x∈l2,0≤x∧x≤99
 up:l3.Pairwise (· < ·)
 came:∀x∈l3,∃i:Nat,x=i∧i<b.nm∧(b.m i).kind=0
section
variable{w wr w1 w2:World}{bx:Array Value}{v1 v2 v3:Value}{l1 l2 l3:List Int}{x:Int}{o:Obj}{gg cap:Nat}
end
section
variable{dY mO:Int}{gA mA cA:Option Addr}{ng gc nm mc nc cc:Nat}{g:Nat→Good}{m:Nat→Mv}{c:Nat→Ct}
end
end
def PT(b:Bk)(l2:List Int)(g:Nat)(i:Nat):Int:=if (b.m i).good=g then(if (b.m i).kind=0∨(b.m i).kind=4 then l2.getD i 0 else - l2.getD i 0) else 0
open Classical in
noncomputable def wT(b:Bk)(l1 l2 l3:List Int)(g:Nat)(d:Int):Int:=l1.getD g 0+((List.range b.nm).map fun i=>if (b.m i).day≤d∧¬ (i:Int)∈l3 then PT b l2 g i else 0).sum
noncomputable def EW(b:Bk)(l1 l2 l3:List Int)(g:Nat):Int:=wT b l1 l2 l3 g b.dY
noncomputable def NZ(b:Bk)(l1 l2 l3:List Int)(g:Nat):Int:=(List.range (b.dY.toNat+1)).foldl (fun x (d:Nat)=>min x (wT b l1 l2 l3 g d)) (l1.getD g 0)
section
open Classical
noncomputable def kept(l3:List Int)(k:Nat):List Nat:=(List.range k).filter fun i=>decide (¬ (i:Int)∈l3)
noncomputable def Bk.without(b:Bk)(l3:List Int)(mA':Option Addr)(mc':Nat):Bk:={b with mA:=mA',nm:=(kept l3 b.nm).length,mc:=mc',m:=fun j=>b.m ((kept l3 b.nm).getD j 0),cA:=none,nc:=0,cc:=0 }
noncomputable def IB(l2 l3:List Int)(k:Nat):List Int:=(kept l3 k).map fun i=>l2.getD i 0
end
theorem Uf(l:List Int)(v:Int):hasB l.length (fun i=>l.getD i 0) v=true↔v∈l:=by
 unfold hasB
 rw[decide_eq_true_iff]
 constructor
 ·rintro⟨i,hi,rfl⟩
  simp[hi]
 ·intro h
  obtain⟨i,hi,rfl⟩:=List.getElem_of_mem h
  exact⟨i,hi,by simp[hi]⟩
section
open Go
def jm(P:Program)(Stop:List Code→Act→World→Prop)(l:List Code)(a:Act)(w:World):Prop:=
 ∀ (b:Frame) (k:List Item) (cs:List Frame),b.roundOf=none→FF.fn b.fn→∃l' a' w',Stop l' a' w'∧StepsIn (Machine.fenced P FF) P (lone (b.atR a (l.map Item.code ++ k)) cs w) (lone (b.atR a' (l'.map Item.code ++ k)) cs w')
section
variable{P:Program}{Stop:List Code→Act→World→Prop}{l:List Code}{a:Act}{w:World}{x y:Code}
theorem jm.of_steps{l':List Code}{a':Act}{w':World}(hs:∀ (b:Frame) (k:List Item) (cs:List Frame),b.roundOf=none→FF.fn b.fn→StepsIn (Machine.fenced P FF) P (lone (b.atR a (l.map Item.code ++ k)) cs w) (lone (b.atR a' (l'.map Item.code ++ k)) cs w'))
 (h:jm P Stop l' a' w'):jm P Stop l a w:=fun b k cs hb hf=>by
 obtain⟨l2,a2,w2,h1,h2⟩:=h b k cs hb hf
 exact⟨l2,a2,w2,h1,(hs b k cs hb hf).trans h2⟩
theorem jm.cond{c:Operand}{t:Bool}(hc:a.eval c=.bool t)(h:jm P Stop ((if t then x else y) :: l) a w):jm P Stop (.cond c x y :: l) a w:=.of_steps (fun _ _ _ _ hf=>.head (fenced_calm (n:=0) hf (bN _) rfl) (stepR_cond hc) (.refl _)) h
theorem jm.cond_true{c:Operand}(hc:a.eval c=.bool true)(h:jm P Stop (x :: l) a w):jm P Stop (.cond c x y :: l) a w:=.cond hc h
theorem jm.cond_false{c:Operand}(hc:a.eval c=.bool false)(h:jm P Stop (y :: l) a w):jm P Stop (.cond c x y :: l) a w:=.cond hc h
end
section
variable{P:Program}{ops:Array Oper}{Q:Exit→Act→World→Prop}{md:Region.Mode}{S:World→Prop}{E:List Nat}
def before(md:Region.Mode)(ops:Array Oper):Nat→Nat→Nat→Bool
 | 0,_,_=>false
 | n+1,L,i=>match ops[L]? with
   | some o=>o.after.any fun e=>Region.binds md e && (e.on == i || before md ops n e.on i)
   | none=>false
def wZ(md:Region.Mode)(ops:Array Oper)(listed:Array Bool):Prop:=∀ (j:Nat) (o:Oper),ops[j]? =some o→listed.getD j false=true→∀e∈o.after,Region.binds md e=true→listed.getD e.on false=true
def Fy(md:Region.Mode)(ops:Array Oper)(listed:Array Bool):Bool:=(List.range ops.size).all fun j=>!(listed.getD j false) || (match ops[j]? with|some o=>o.after.all fun e=>!(Region.binds md e) || listed.getD e.on false|none=>true)
theorem VL{listed:Array Bool}(h:Fy md ops listed=true):wZ md ops listed:=fun j o ho hj e he hb=>by
 unfold Fy at h
 have hj':j<ops.size:=by
  rcases Nat.lt_or_ge j ops.size with h'|h'
  ·exact h'
  ·rw[Array.getElem?_eq_none h'] at ho;cases ho
 have h1:=List.all_eq_true.1 h j (List.mem_range.2 hj')
 rw[hj,ho] at h1
 simp only[Bool.not_true,Bool.false_or] at h1
 obtain⟨k,hk,rfl⟩:=Array.mem_iff_getElem.1 he
 have h2:=Array.all_eq_true.1 h1 k hk
 rw[hb] at h2
 simpa using h2
theorem Nt{l:Array Bool}{i j:Nat}(h:l.getD j false=true):(l.setIfInBounds i true).getD j false=true:=by
 by_cases hj:i=j
 ·subst hj
  rcases Nat.lt_or_ge i l.size with h'|h'
  ·simp[h']
  ·simp[Array.getElem?_eq_none h'] at h
 ·rw[getD_set_ne false hj];exact h
theorem wZ.set{listed:Array Bool}{j:Nat}(h:wZ md ops listed)(hr:j∈Region.ready md ops listed):wZ md ops (listed.setIfInBounds j true):=fun k o ho hk e he hb=>by
 obtain⟨_,oj,hoj,hall⟩:=mem_ready.1 hr
 by_cases hjk:j=k
 ·subst hjk
  rw[ho] at hoj
  obtain rfl:o=oj:=by simpa using hoj
  exact Nt (hall e he hb)
 ·rw[getD_set_ne false hjk] at hk
  exact Nt (h k o ho hk e he hb)
theorem nZ{listed:Array Bool}{i:Nat}(hs:listed.size=ops.size)(hc:wZ md ops listed)(hi:listed.getD i true=false):
 ∀ (n L:Nat),before md ops n L i=true→∃o,ops[L]? =some o∧∃e∈o.after,Region.binds md e=true∧listed.getD e.on false=false
 | 0,_,h=>by cases h
 | n+1,L,h=>by
   unfold before at h
   cases ho:ops[L]? with
   | none=>rw[ho] at h;cases h
   | some o=>
     rw[ho] at h
     obtain⟨k,hk,he⟩:=Array.any_eq_true.1 h
     simp only[Bool.and_eq_true,Bool.or_eq_true,beq_iff_eq] at he
     refine⟨o,rfl,_,Array.getElem_mem hk,he.1,?_⟩
     rcases he.2 with h1|h1
     ·rw[h1]
      rcases Nat.lt_or_ge i listed.size with h'|h'
      ·simp[h'] at hi⊢;exact hi
      ·simp[Array.getElem?_eq_none h']
     ·obtain⟨o',ho',e',he',hb',hl'⟩:=nZ hs hc hi n _ h1
      have hlt:(o.after[k]).on<ops.size:=by
       rcases Nat.lt_or_ge (o.after[k]).on ops.size with h'|h'
       ·exact h'
       ·rw[Array.getElem?_eq_none h'] at ho';cases ho'
      cases hx:listed.getD (o.after[k]).on false with
      | false=>rfl
      | true=>
        have:=hc _ o' ho' hx e' he' hb'
        rw[this] at hl'
        cases hl'
theorem pR{listed:Array Bool}{n L i:Nat}(hs:listed.size=ops.size)(hc:wZ md ops listed)(hi:listed.getD i true=false)(h:before md ops n L i=true):L∉Region.ready md ops listed:=fun hr=>by
 obtain⟨o,ho,e,he,hb,hl⟩:=nZ hs hc hi n L h
 obtain⟨_,o',ho',hall⟩:=mem_ready.1 hr
 rw[ho] at ho'
 obtain rfl:o=o':=by simpa using ho'
 have:=hall e he hb
 rw[this] at hl
 cases hl
end
section
variable{F:Fence}{n0:Nat}{P:Program}{ops:Array Oper}{Q:Exit→Act→World→Prop}{md:Region.Mode}{S:World→Prop}{E:List Nat}
def dJ(F:Fence)(n0:Nat)(P:Program)(md:Region.Mode)(ops:Array Oper)(Q:Exit→Act→World→Prop)(S:World→Prop)(E:List Nat):Nat→Array Bool→Act→World→Prop
 | 0,listed,a,w=>Region.ready md ops listed=[]∧Q .normal a w
 | fuel+1,listed,a,w=>
   (Region.ready md ops listed=[]→Q .normal a w)∧
   ∀i∈Region.ready md ops listed,wpOpIn F n0 P ops Q i (fun a' w'=>(i∉E→S w')∧dJ F n0 P md ops Q S E fuel (listed.setIfInBounds i true) a' w') a w
theorem tX:∀ (fuel:Nat) (listed:Array Bool) (a:Act) (w:World),dJ F n0 P md ops Q S E fuel listed a w→wpAnyIn F n0 P md ops Q fuel listed a w
 | 0,_,_,_,h=>h
 | fuel+1,_,_,_,h=>⟨h.1,fun i hi=>wpOpIn_mono (fun a' w' h'=>tX fuel _ a' w' h'.2) (h.2 i hi)⟩
theorem AZ{i n:Nat}{oi:Oper}{v:Value}(hro:F.round=none)(hi:ops[i]? =some oi)(hsel:∀ (j:Nat) (o:Oper) cs b,ops[j]? =some o→o.op≠.select cs b)
 (hQ:∀c a w,Q (.panic c) (a.put oi.dst v) w→Q (.panic c) a w)(hL:∀L∈E,before md ops n L i=true):
 ∀ (fuel:Nat) (listed:Array Bool) (a:Act) (w:World),listed.size=ops.size→wZ md ops listed→
   (∀j oj,ops[j]? =some oj→j≠i→listed.getD j true=false→(∀e∈oj.after,Region.binds md e=true→e.on≠i)→oi.apart ops oj=true)→
   i∈Region.ready md ops listed→bP P ops S oi v a→S w→
   dJ F n0 P md ops Q S E fuel (listed.setIfInBounds i true) (a.put oi.dst v) w→dJ F n0 P md ops Q S E (fuel+1) listed a w:=by
 intro fuel
 induction fuel with
 | zero=>
   intro listed a w _ _ _ hr hy hS H
   refine⟨fun h=>(by rw[h] at hr;cases hr),fun j hj=>?_⟩
   by_cases hji:j=i
   ·subst hji;exact hy.wpOpIn hro hi hS ⟨fun _=>hS,H⟩
   ·have:=ready_mono hj hji
    rw[H.1] at this
    cases this
 | succ fuel ih=>
   intro listed a w hsz hcl hfree hr hy hS H
   refine⟨fun h=>(by rw[h] at hr;cases hr),fun j hj=>?_⟩
   by_cases hji:j=i
   ·subst hji;exact hy.wpOpIn hro hi hS ⟨fun _=>hS,H⟩
   ·have SZ:j∉E:=fun e=>pR hsz hcl (mem_ready.1 hr).1 (hL j e) hj
    have h1:=H.2 j (ready_mono hj hji)
    obtain⟨hjun,oj,hoj,hall⟩:=mem_ready.1 hj
    have hnot:∀e∈oj.after,Region.binds md e=true→e.on≠i:=fun e he hb heq=>by
     have h1:=hall e he hb
     have h0:=(mem_ready.1 hr).1
     rw[heq] at h1
     rcases Nat.lt_or_ge i listed.size with h'|h'
     ·simp[h'] at h0 h1;rw[h0] at h1;cases h1
     ·simp[Array.getElem?_eq_none h'] at h1
    have h2:=tY hro hoj (hfree j oj hoj hji hjun hnot) (fun cs b=>hsel i oi cs b hi) (fun cs b=>hsel j oj cs b hoj) hQ hy h1
    have hfree':∀k ok,ops[k]? =some ok→k≠i→(listed.setIfInBounds j true).getD k true=false→
     (∀e∈ok.after,Region.binds md e=true→e.on≠i)→oi.apart ops ok=true:=fun k ok hk hki hun hno=>by
     refine hfree k ok hk hki ?_ hno
     by_cases hjk:j=k
     ·subst hjk;exact hjun
     ·rw[getD_set_ne true hjk] at hun;exact hun
    refine wpOpIn_mono (fun a' w' h3=>⟨h3.2.1,ih (listed.setIfInBounds j true) a' w' (by simp[hsz]) (hcl.set hj) hfree' (ready_mono hr (Ne.symm hji)) h3.1 (h3.2.1 SZ) ?_⟩) h2
    rw[Array.setIfInBounds_comm _ _ hji]
    exact h3.2.2
theorem Ci{i:Nat}(d:Option Tmp){oi:Oper}{v:Value}{fuel:Nat}{listed:Array Bool}{a:Act}{w:World}(hro:F.round=none)(hi:ops[i]? =some oi)
 (hc:(Region.noSelect ops && Region.free md ops listed i && (Region.ready md ops listed).contains i && E.all (fun L=>before md ops 8 L i) && (listed.size == ops.size) && Fy md ops listed)=true)(hd:oi.dst=d)
 (hQ:∀c a w,Q (.panic c) (a.put d v) w→Q (.panic c) a w)(hy:bP P ops S oi v a)(hS:S w)
 (h:dJ F n0 P md ops Q S E fuel (listed.setIfInBounds i true) (a.put d v) w):dJ F n0 P md ops Q S E (fuel+1) listed a w:=by
 subst hd
 simp only[Bool.and_eq_true,beq_iff_eq,List.all_eq_true] at hc
 obtain⟨⟨⟨⟨⟨h1,h2⟩,h3⟩,h4⟩,h5⟩,h6⟩:=hc
 exact AZ hro hi (Region.noSelect_spec h1) hQ h4 fuel listed a w h5 (VL h6) (Region.free_spec hi h2) (by simpa using h3) hy hS h
theorem Zs{i:Nat}(d:Option Tmp){oi:Oper}{v:Value}{fuel:Nat}{listed:Array Bool}{a:Act}{w:World}(hS:S w)(h:dJ F n0 P md ops Q S E fuel (listed.setIfInBounds i true) (a.put d v) w)
 (hro:F.round=none:=by exact rfl)(hi:ops[i]? =some oi:=by exact rfl)
 (hc:(Region.noSelect ops && Region.free md ops listed i && (Region.ready md ops listed).contains i && E.all (fun L=>before md ops 8 L i) && (listed.size == ops.size) && Fy md ops listed)=true:=by kernel_rfl)(hd:oi.dst=d:=by rfl)
 (hQ:∀c a w,Q (.panic c) (a.put d v) w→Q (.panic c) a w:=by exact fun _ _ _ h=>h)(hy:bP P ops S oi v a:=by exact⟨Or.inl ⟨zr,by intro wq Rr;(try dsimp only at Rr);go_simp;all_goals with_reducible rfl⟩,fun _=>rfl⟩):dJ F n0 P md ops Q S E (fuel+1) listed a w:=
 Ci d hro hi hc hd hQ hy hS h
theorem uP(i:Nat){o:Oper}{fuel:Nat}{listed:Array Bool}{a:Act}{w:World}
 (h:∀K':Act→World→Prop,Shut (∀a w,(i∉E→S w)→dJ F n0 P md ops Q S E fuel (listed.setIfInBounds i true) a w→K' a w)→if Region.wanted o (yielded ops a.tmps)=true then Oper.wpIn F n0 P o a w K' Q else(∀f,o.about P w a.eval=some f→F.fn f)∧K' (a.put o.dst undef) w)(hr:Region.ready md ops listed=[i]:=by kernel_rfl)(ho:ops[i]? =some o:=by exact rfl):
 dJ F n0 P md ops Q S E (fuel+1) listed a w:=by
 refine⟨(fun h0=>by rw[hr] at h0;cases h0),fun j hj=>?_⟩
 rw[hr] at hj
 obtain rfl:j=i:=by simpa using hj
 exact wpOpIn_step ho fun K' hK=>h K' fun a w hS hW=>hK a w ⟨hS,hW⟩
theorem tV{i i':Nat}{o o':Oper}{fuel:Nat}{listed:Array Bool}{a:Act}{w:World}(hr:Region.ready md ops listed=[i,i'])(ho:ops[i]? =some o)(ho':ops[i']? =some o')
 (h:∀K':Act→World→Prop,Shut (∀a w,(i∉E→S w)→dJ F n0 P md ops Q S E fuel (listed.setIfInBounds i true) a w→K' a w)→if Region.wanted o (yielded ops a.tmps)=true then Oper.wpIn F n0 P o a w K' Q else(∀f,o.about P w a.eval=some f→F.fn f)∧K' (a.put o.dst undef) w)
 (h':∀K':Act→World→Prop,Shut (∀a w,(i'∉E→S w)→dJ F n0 P md ops Q S E fuel (listed.setIfInBounds i' true) a w→K' a w)→if Region.wanted o' (yielded ops a.tmps)=true then Oper.wpIn F n0 P o' a w K' Q else(∀f,o'.about P w a.eval=some f→F.fn f)∧K' (a.put o'.dst undef) w):
 dJ F n0 P md ops Q S E (fuel+1) listed a w:=by
 refine⟨(fun h0=>by rw[hr] at h0;cases h0),fun j hj=>?_⟩
 rw[hr] at hj
 simp only[List.mem_cons,List.not_mem_nil,or_false] at hj
 rcases hj with rfl|rfl
 ·exact wpOpIn_step ho fun K' hK=>h K' fun a w hS hW=>hK a w ⟨hS,hW⟩
 ·exact wpOpIn_step ho' fun K' hK=>h' K' fun a w hS hW=>hK a w ⟨hS,hW⟩
theorem lI{listed:Array Bool}{a:Act}{w:World}(hr:Region.ready md ops listed=[])(h:Q .normal a w):∀fuel,dJ F n0 P md ops Q S E fuel listed a w
 | 0=>⟨hr,h⟩
 | _+1=>⟨fun _=>h,by rw[hr];simp⟩
theorem Ck{id:Nat}{a:Act}{w:World}(E:List Nat)(S:World→Prop)(hm:P.follows .mixedOrders=true)
 (h:dJ F n0 P .any ops Q S E ops.size (Array.replicate ops.size false) a w.drew):(Code.region id ops true).wpIn F n0 P Q a w:=
 wpIn_region_any hm (tX _ _ _ _ h)
end
end
section
open Go.RowKit
def Mv.flat(x:Mv):List Value:=[int i64 x.kind,int i64 x.good,int i64 x.day,int i64 x.lo,int i64 x.hi]
structure uW(b:Bk)(l2 l3:List Int)(X:Nat)(wx wl:World)(vB vM mv:Value)(k1 k2:Nat):Prop where
 box:Whole wl X 26 #[int i64 b.dY,int i64 b.mO,.slice b.gA b.ng b.gc,vB,.slice none 0 0]
 rM:wl.ownsRow (X+1) 39 5 vM (kept l3 k1).length ((kept l3 k1).flatMap fun i=>(b.m i).flat)
 rI:wl.ownsRow (X+1) 3 1 mv (kept l3 k2).length ((IB l2 l3 k2).map (int i64))
 d:∀g,vM.ownBlock=some g→mv.ownBlock≠some g
 below:Below X wx wl
section
variable{b:Bk}{l2 l3:List Int}{X:Nat}{wx wl w':World}{vB vM mv:Value}{k k1 k2 gg cap:Nat}
theorem uW.alloc(h:uW b l2 l3 X wx wl vB vM mv k1 k2)(o:Obj):uW b l2 l3 X wx (wl.alloc o) vB vM mv k1 k2:=
 ⟨h.box.alloc o,bG h.rM o,bG h.rI o,h.d,h.below.alloc (Nat.le_of_lt h.box.lt) o⟩
theorem uW.start(b:Bk)(l2 l3:List Int){X:Nat}{w1 wx:World}(hb:Below X w1 wx)(jq:Whole wx X 26 #[int i64 b.dY,int i64 b.mO,.slice b.gA b.ng b.gc,.slice none 0 0,.slice none 0 0]):
 uW b l2 l3 X w1 wx (.slice none 0 0) (.slice none 0 0) (.slice none 0 0) 0 0:=
 ⟨jq,⟨by simp[kept],.inl ⟨rfl,by simp[kept]⟩⟩,⟨by simp[kept,IB],.inl ⟨rfl,by simp[kept]⟩⟩,fun g e=>(by cases e),hb⟩
theorem uW.store(h:uW b l2 l3 X wx wl vB vM mv k1 k2):uW b l2 l3 X wx (wl.setCell ⟨X,3,none⟩ vM) vM vM mv k1 k2:=
 ⟨by simpa using h.box.set 3 vM,bU h.rM (by show X<X+1;omega) _,bU h.rI (by show X<X+1;omega) _,h.d,h.below.setCell (by show X≤X;omega) _⟩
end
def Gp(b:Bk)(l1 l2 l3:List Int)(w:World)(e:Ending)(w':World):Prop:=∃A p A' p',e=.returned (.tuple #[.slice A b.ng p,.slice A' b.ng p',int i64 0])∧
 Ints w' w'.heap.size A b.ng (fun i=>EW b l1 l2 l3 i)∧Ints w' w'.heap.size A' b.ng (fun i=>NZ b l1 l2 l3 i)∧Below w.heap.size w w'
def XJ:Prop:=∀ (b:Bk) (l1 l2 l3:List Int) (w:World),b.Ok→b.ng≤b.gc→wY b l1 l2 l3→b.At w w.heap.size→∀ (A1 A2 A3:Option Addr) (p1 p2 p3:Nat),
 Ints w w.heap.size A1 l1.length (fun i=>l1.getD i 0)→Ints w w.heap.size A2 l2.length (fun i=>l2.getD i 0)→Ints w w.heap.size A3 l3.length (fun i=>l3.getD i 0)→
 CallsIn FF 0 prog 18 #[b.val,.slice A1 l1.length p1,.slice A2 l2.length p2,.slice A3 l3.length p3] w (Gp b l1 l2 l3 w)
theorem eH{w:World}{base:Nat}{e:TypeId}{A:Option Addr}{c:Nat}{l:List Int}(h:w.ownsRow base e 1 (.slice A l.length c) l.length (l.map (int i64))):Ints w w.heap.size A l.length (fun i=>l.getD i 0):=fun hn=>by
 obtain⟨g,cap,hv,_,hlt⟩:=h.form hn
 have hA:A=some ⟨g,0,none⟩:=by injection hv
 subst hA
 refine⟨_,rfl,hlt,fun i j hi hj=>?_⟩
 obtain rfl:j=0:=zo
 have:=h.cells (g:=g) rfl i (int i64 (l.getD i 0)) (by simp[hi])
 simpa [Addr.add] using this
theorem Tryz.infoM:(Tryz.prog.info? 39).map (fun i=>(i.zero,i.size,i.bytes))=some (some (.agg #[int i64 0,int i64 0,int i64 0,int i64 0,int i64 0]),5,40):=zk
section
variable{dY mO:Int}{gA mA cA:Option Addr}{ng gc nm mc nc cc:Nat}{g:Nat→Good}{m:Nat→Mv}{c:Nat→Ct}
end
section
variable{dY mO:Int}{gA mA cA:Option Addr}{ng gc nm mc nc cc:Nat}{g:Nat→Good}{m:Nat→Mv}{c:Nat→Ct}
end
end
section
open Go
section
variable{H:Type}{enc:TypeId × Value→H}{w:World}{fuel:Nat}
noncomputable abbrev TR (enc:TypeId × Value→H) (w:World):Nat→TypeId→List Value→Option (DataW H × List MemPlace):=DataW.trod enc prog w 0 (fun _=>true) true
theorem c3:Tryz.prog.cellsOf 3=1:=zk
theorem c37:Tryz.prog.cellsOf 37=1:=zk
theorem c9:Tryz.prog.cellsOf 9=1:=zk
theorem c39:Tryz.prog.cellsOf 28=2:=zk
theorem c68:Tryz.prog.cellsOf 83=5:=zk
theorem c41:Tryz.prog.cellsOf 39=5:=zk
theorem c88:Tryz.prog.cellsOf 45=4:=zk
theorem c22:Tryz.prog.cellsOf 22=1:=zk
theorem c23:Tryz.prog.cellsOf 23=1:=zk
theorem c24:Tryz.prog.cellsOf 24=1:=zk
theorem c26:Tryz.prog.cellsOf 26=5:=zk
theorem gV{t:TypeId}{k:IntKind}(ht:Tryz.prog.underlying t=some (.int k)){cs:List Value}{o:Nat}{y:DataW H × List MemPlace}(h:TR enc w fuel t ((cs.drop o).take 1)=some y):∃n,cs[o]? =some (.int k n)∧(Lit.int k n).wf=true:=by
 obtain⟨n,e,_,hw⟩:=DataW.trod_int ht h
 exact⟨n,WideShapes.cell_of_cut e,hw⟩
theorem Yj{t:TypeId}(ht:Tryz.prog.underlying t=some .string){cs:List Value}{o:Nat}{y:DataW H × List MemPlace}(h:TR enc w fuel t ((cs.drop o).take 1)=some y):∃s,cs[o]? =some (.string s)∧s.size≤maxLen:=by
 obtain⟨n,e,_,hw⟩:=DataW.trod_string ht h
 exact⟨n,WideShapes.cell_of_cut e,hw⟩
theorem Np{cs:List Value}{o j n:Nat}{v:Value}(h:((cs.drop o).take n)[j]? =some v):cs[o+j]? =some v:=by
 rw[List.getElem?_take] at h
 split at h
 ·rwa[List.getElem?_drop] at h
 ·cases h
theorem xU{cs:List Value}{o:Nat}{y:DataW H × List MemPlace}(h:TR enc w fuel 28 ((cs.drop o).take 2)=some y):∃a b,cs[o]? =some (int i64 a)∧cs[o+1]? =some (int i64 b):=by
 obtain⟨xs,n,rfl,rfl,hl,hx,hf⟩:=DataW.trod_struct underlying28 h
 have f0:TR enc w n 3 ((((cs.drop o).take 2).drop 0).take (Tryz.prog.cellsOf 3))=xs[0]?:=hf 0 _ rfl
 have f1:TR enc w n 3 ((((cs.drop o).take 2).drop 1).take (Tryz.prog.cellsOf 3))=xs[1]?:=hf 1 _ rfl
 rw[c3] at f0
 rw[c3] at f1
 have hx:xs.length=2:=hx
 rw[List.getElem?_eq_getElem zo] at f0 f1
 obtain⟨a,h0,_⟩:=gV underlying3 f0
 obtain⟨b,h1,_⟩:=gV underlying3 f1
 exact⟨a,b,Np h0,Np h1⟩
theorem VD{cs:List Value}{y:DataW H × List MemPlace}(h:TR enc w fuel 83 cs=some y):∃g:Good,(∀j,j<5→cs[j]? =some (g.cell j))∧g.name.size≤maxLen:=by
 obtain⟨xs,n,rfl,rfl,hl,hx,hf⟩:=DataW.trod_struct underlying83 h
 have f0:TR enc w n 9 ((cs.drop 0).take (Tryz.prog.cellsOf 9))=xs[0]?:=hf 0 _ rfl
 have f1:TR enc w n 3 ((cs.drop 1).take (Tryz.prog.cellsOf 3))=xs[1]?:=hf 1 _ rfl
 have f2:TR enc w n 3 ((cs.drop 2).take (Tryz.prog.cellsOf 3))=xs[2]?:=hf 2 _ rfl
 have f3:TR enc w n 28 ((cs.drop 3).take (Tryz.prog.cellsOf 28))=xs[3]?:=hf 3 _ rfl
 rw[c9] at f0
 rw[c3] at f1
 rw[c3] at f2
 rw[c39] at f3
 have hx:xs.length=4:=hx
 rw[List.getElem?_eq_getElem zo] at f0 f1 f2 f3
 obtain⟨s,h0,hs⟩:=Yj underlying9 f0
 obtain⟨c,h1,_⟩:=gV underlying3 f1
 obtain⟨p,h2,_⟩:=gV underlying3 f2
 obtain⟨lo,hi,h3,h4⟩:=xU f3
 refine⟨⟨s,c,p,lo,hi⟩,fun j hj=>?_,hs⟩
 rcases(by omega:j=0∨j=1∨j=2∨j=3∨j=4) with rfl|rfl|rfl|rfl|rfl <;> assumption
theorem m5{cs:List Value}{y:DataW H × List MemPlace}(h:TR enc w fuel 39 cs=some y):∃g:Mv,(∀j,j<5→cs[j]? =some (g.cell j))∧True:=by
 obtain⟨xs,n,rfl,rfl,hl,hx,hf⟩:=DataW.trod_struct underlying39 h
 have f0:TR enc w n 37 ((cs.drop 0).take (Tryz.prog.cellsOf 37))=xs[0]?:=hf 0 _ rfl
 have f1:TR enc w n 3 ((cs.drop 1).take (Tryz.prog.cellsOf 3))=xs[1]?:=hf 1 _ rfl
 have f2:TR enc w n 3 ((cs.drop 2).take (Tryz.prog.cellsOf 3))=xs[2]?:=hf 2 _ rfl
 have f3:TR enc w n 28 ((cs.drop 3).take (Tryz.prog.cellsOf 28))=xs[3]?:=hf 3 _ rfl
 rw[c37] at f0
 rw[c3] at f1
 rw[c3] at f2
 rw[c39] at f3
 have hx:xs.length=4:=hx
 rw[List.getElem?_eq_getElem zo] at f0 f1 f2 f3
 obtain⟨s,h0,_⟩:=gV underlying37 f0
 obtain⟨c,h1,_⟩:=gV underlying3 f1
 obtain⟨p,h2,_⟩:=gV underlying3 f2
 obtain⟨lo,hi,h3,h4⟩:=xU f3
 refine⟨⟨s,c,p,lo,hi⟩,fun j hj=>?_,zT⟩
 rcases(by omega:j=0∨j=1∨j=2∨j=3∨j=4) with rfl|rfl|rfl|rfl|rfl <;> assumption
theorem VA{cs:List Value}{y:DataW H × List MemPlace}(h:TR enc w fuel 45 cs=some y):∃g:Ct,(∀j,j<4→cs[j]? =some (g.cell j))∧True:=by
 obtain⟨xs,n,rfl,rfl,hl,hx,hf⟩:=DataW.trod_struct underlying45 h
 have f0:TR enc w n 3 ((cs.drop 0).take (Tryz.prog.cellsOf 3))=xs[0]?:=hf 0 _ rfl
 have f1:TR enc w n 3 ((cs.drop 1).take (Tryz.prog.cellsOf 3))=xs[1]?:=hf 1 _ rfl
 have f2:TR enc w n 28 ((cs.drop 2).take (Tryz.prog.cellsOf 28))=xs[2]?:=hf 2 _ rfl
 rw[c3] at f0
 rw[c3] at f1
 rw[c39] at f2
 have hx:xs.length=3:=hx
 rw[List.getElem?_eq_getElem zo] at f0 f1 f2
 obtain⟨s,h0,_⟩:=gV underlying3 f0
 obtain⟨c,h1,_⟩:=gV underlying3 f1
 obtain⟨lo,hi,h3,h4⟩:=xU f2
 refine⟨⟨s,c,lo,hi⟩,fun j hj=>?_,zT⟩
 rcases(by omega:j=0∨j=1∨j=2∨j=3) with rfl|rfl|rfl|rfl <;> assumption
theorem Qy{α:Type}[Inhabited α]{t e:TypeId}{size:Nat}(ht:Tryz.prog.underlying t=some (.slice e))(hc:Tryz.prog.cellsOf e=size)(hpos:0<size)(cell:α→Nat→Value)(Q:α→Prop)
 (hel:∀ (n:Nat) (cs:List Value) (y:DataW H × List MemPlace),TR enc w n e cs=some y→∃a,(∀j,j<size→cs[j]? =some (cell a j))∧Q a){cs:List Value}{x:DataW H × List MemPlace}(h:TR enc w fuel t cs=some x):
 ∃ (A:Option Addr) (len cap:Nat) (f:Nat→α),cs=[.slice A len cap]∧len≤cap∧cap≤maxLen∧Rows w w.heap.size size A len (fun i=>cell (f i))∧∀i,i<len→Q (f i):=by
 rcases DataW.trod_slice ht h with⟨rfl,_⟩|⟨a,len,cap,elems,rest,n,_,rfl,rfl,hb,hl,hm,hlen,Ss,_,_⟩
 ·exact⟨none,0,0,fun _=>default,rfl,zL,Nat.zero_le _,fun h=>absurd h zo,fun i hi=>absurd hi zo⟩
 have each:∀i,∃b:α,i<len→(a.block<w.heap.size∧∀j,j<size→w.cell? (a.add (i * size+j))=some (cell b j))∧Q b:=fun i=>by
  by_cases hi:i<len
  ·have h1:=Ss i hi
   rw[List.getElem?_eq_getElem zo,Option.bind_eq_some_iff,hc] at h1
   obtain⟨cs',h2,h3⟩:=h1
   obtain⟨b,h4,h5⟩:=hel n cs' _ h3
   have hblk:=World.cells?_block h2 hpos
   obtain⟨_,_,h6⟩:=World.cells?_some h2
   refine⟨b,fun _=>⟨⟨by rwa[aH] at hblk,fun j hj=>?_⟩,h5⟩⟩
   rw[← jS,h6 j hj,h4 j hj]
  ·exact⟨default,fun h=>absurd h hi⟩
 obtain⟨f,hf⟩:=Classical.axiomOfChoice each
 exact⟨some a,len,cap,f,rfl,hl,hm,fun hn=>⟨a,rfl,(hf 0 hn).1.1,fun i j hi hj=>(hf i hi).1.2 j hj⟩,fun i hi=>(hf i hi).2⟩
instance:Inhabited Good:=⟨⟨.empty,0,0,0,0⟩⟩
instance:Inhabited Mv:=⟨⟨0,0,0,0,0⟩⟩
instance:Inhabited Ct:=⟨⟨0,0,0,0⟩⟩
theorem ZD{n:Int}(h:(Lit.int .i64 n).wf=true):-9223372036854775808≤n∧n≤9223372036854775807:=by
 simp[Lit.wf,IntKind.min,IntKind.max,IntKind.signed,IntKind.bits] at h
 omega
theorem xS{α:Type}[Inhabited α]{t e:TypeId}{size:Nat}(ht:Tryz.prog.underlying t=some (.slice e))(hc:Tryz.prog.cellsOf e=size)(hpos:0<size)(cell:α→Nat→Value)(Q:α→Prop)
 (hel:∀ (n:Nat) (cs:List Value) (y:DataW H × List MemPlace),TR enc w n e cs=some y→∃a,(∀j,j<size→cs[j]? =some (cell a j))∧Q a){cs:List Value}{o:Nat}{x:DataW H × List MemPlace}(h:TR enc w fuel t ((cs.drop o).take 1)=some x):
 ∃ (A:Option Addr) (len cap:Nat) (f:Nat→α),cs[o]? =some (.slice A len cap)∧len≤cap∧cap≤maxLen∧Rows w w.heap.size size A len (fun i=>cell (f i))∧∀i,i<len→Q (f i):=by
 obtain⟨A,len,cap,f,e1,h1⟩:=Qy ht hc hpos cell Q hel h
 exact⟨A,len,cap,f,WideShapes.cell_of_cut e1,h1⟩
theorem Qx{v:Value}{d:DataW H}{ps:List MemPlace}{base:Nat}(hv:Value.okWide prog w .any base 26 v)(h:DataW.Trod enc prog w 0 (fun _=>true) true 26 v d ps):
 ∃b:Bk,v=b.val∧b.At w w.heap.size∧b.ng≤b.gc∧-9223372036854775808≤b.dY∧b.dY≤9223372036854775807:=by
 obtain⟨cs,rfl,hsz⟩:=WideShapes.okWide_struct underlying26 hv
 rw[c26] at hsz
 obtain⟨fuel,h⟩:=h
 obtain⟨xs,n,rfl,hx2,hl,hx,hf⟩:=DataW.trod_struct underlying26 h
 have f0:TR enc w n 3 ((cs.toList.drop 0).take (Tryz.prog.cellsOf 3))=xs[0]?:=hf 0 _ rfl
 have f1:TR enc w n 3 ((cs.toList.drop 1).take (Tryz.prog.cellsOf 3))=xs[1]?:=hf 1 _ rfl
 have f2:TR enc w n 22 ((cs.toList.drop 2).take (Tryz.prog.cellsOf 22))=xs[2]?:=hf 2 _ rfl
 have f3:TR enc w n 23 ((cs.toList.drop 3).take (Tryz.prog.cellsOf 23))=xs[3]?:=hf 3 _ rfl
 have f4:TR enc w n 24 ((cs.toList.drop 4).take (Tryz.prog.cellsOf 24))=xs[4]?:=hf 4 _ rfl
 rw[c3] at f0
 rw[c3] at f1
 rw[c22] at f2
 rw[c23] at f3
 rw[c24] at f4
 have hx:xs.length=5:=hx
 rw[List.getElem?_eq_getElem zo] at f0 f1 f2 f3 f4
 obtain⟨dY,h0,hd⟩:=gV underlying3 f0
 obtain⟨mO,h1,_⟩:=gV underlying3 f1
 obtain⟨gA,ng,gc,g,h2,hgc,hgm,hg,hgn⟩:=xS underlying22 c68 zD Good.cell (fun g=>g.name.size≤maxLen) (fun _ _ _ h=>VD h) f2
 obtain⟨mA,nm,mc,m,h3,hmc,hmm,hm,_⟩:=xS underlying23 c41 zD Mv.cell (fun _=>True) (fun _ _ _ h=>m5 h) f3
 obtain⟨cA,nc,cc,c,h4,hcc,hcm,hc,_⟩:=xS underlying24 c88 zD Ct.cell (fun _=>True) (fun _ _ _ h=>VA h) f4
 refine⟨⟨dY,mO,gA,ng,gc,g,mA,nm,mc,m,cA,nc,cc,c⟩,?_,⟨hg,hm,hc,by show ng≤maxLen;omega,by show nm≤maxLen;omega,by show nc≤maxLen;omega,hgn⟩,hgc,ZD hd⟩
 obtain⟨L⟩:=cs
 simp only[List.size_toArray] at hsz
 match L,hsz with
 | [a0,a1,a2,a3,a4],_=>
   simp only[List.getElem?_cons_zero,List.getElem?_cons_succ,Option.some.injEq] at h0 h1 h2 h3 h4
   subst h0;subst h1;subst h2;subst h3;subst h4
   rfl
end
end
section
open Go Go.WideShapes
theorem GN:Tryz.prog.cellsOf 45=4:=zk
section
variable{H:Type}{enc:TypeId × Value→H}{w:World}{fuel:Nat}
theorem L8{v:Value}{d:DataW H}{ps:List MemPlace}{base:Nat}(hv:Value.okWide prog w .any base 45 v)(h:DataW.Trod enc prog w 0 (fun _=>true) true 45 v d ps):
 ∃x:Ct,v=.agg #[int i64 x.good,int i64 x.day,int i64 x.lo,int i64 x.hi]:=by
 obtain⟨cs,rfl,hsz⟩:=WideShapes.okWide_struct underlying45 hv
 rw[GN] at hsz
 obtain⟨fuel,h⟩:=h
 obtain⟨x,hx,-⟩:=VA (cs:=cs.toList) h
 refine⟨x,?_⟩
 obtain⟨L⟩:=cs
 simp only[List.size_toArray] at hsz
 match L,hsz with
 | [a0,a1,a2,a3],_=>
   have h0:=hx 0 zD
   have h1:=hx 1 zD
   have h2:=hx 2 zD
   have h3:=hx 3 zD
   simp only[List.getElem?_cons_zero,List.getElem?_cons_succ,Option.some.injEq] at h0 h1 h2 h3
   subst h0;subst h1;subst h2;subst h3
   rfl
end
end
section
open Go.RowKit
theorem dw(n lo hi:Int)(w:World):CallsIn FF 0 prog 65 #[int i64 n,int i64 lo,int i64 hi] w fun e w'=>e=.returned (.bool (fJ n lo hi))∧w=w':=by
 gi_enter func65,ntmps65
 gi_wp2
 all_goals (go_ret;refine⟨?_,rfl⟩;congr 2;unfold fJ;first|rfl|(simp;omega)|simp_all)
theorem WS(n lo hi:Int)(w:World):CallsIn FF 0 prog 65 #[int i64 n,int i64 lo,int i64 hi] w fun e w'=>e=.returned (.bool (fJ n lo hi))∧∃m,w'=w.drewN m:=
 (dw n lo hi w).mono fun _ _ h=>⟨h.1,0,h.2 ▸ rfl⟩
def xW(a b lo hi:Int):Bool:=fJ a lo b && decide (b≤hi)
theorem yu(a b lo hi:Int)(w:World):CallsIn FF 0 prog 32 #[.agg #[int i64 a,int i64 b],int i64 lo,int i64 hi] w fun e w'=>e=.returned (.bool (xW a b lo hi))∧Below w.heap.size w w':=by
 gi_enter func32,ntmps32
 gi_wp2_with (gi_at_call 65;refine(dw _ _ _ _).mono ?_;rintro e w' ⟨rfl,rfl⟩)
 all_goals (go_ret;refine⟨?_,bw⟩;congr 2;unfold xW;first|rfl|(simp;omega)|simp_all)
theorem mn(a b:Int)(w:World)(h:-1000≤a∧a≤1000∧-1000≤b∧b≤1000):CallsIn FF 0 prog 187 #[.agg #[int i64 a,int i64 b]] w fun e w'=>e=.returned (int i64 (b - a+1))∧Below w.heap.size w w':=by
 have e1:IntKind.i64.wrap (b - a)=b - a:=IntWalk.i64_in _ zo
 have e2:IntKind.i64.wrap (b - a+1)=b - a+1:=IntWalk.i64_in _ zo
 gi_enter func187,ntmps187
 gi_wp2
 all_goals (go_ret;refine⟨?_,bw⟩;first|rfl|(congr 2;simp_all))
theorem jT{a b:Int}(h:xO a b=true):0≤a∧a≤b∧b≤99∧b - a<3:=by
 unfold xO at h
 simp only[Bool.and_eq_true,decide_eq_true_eq] at h
 have:=kV.1 h.1
 omega
theorem uJ(a b:Int)(w:World)(h:xO a b=true):CallsIn FF 0 prog 168 #[.agg #[int i64 a,int i64 b]] w fun e w'=>e=.returned (.bool true)∧Below w.heap.size w w':=by
 obtain⟨f1,f2,f3,f4⟩:=jT h
 have H1:∀w,CallsIn FF 0 prog 32 #[.agg #[int i64 a,int i64 b],int i64 0,int i64 99] w fun e w'=>e=.returned (.bool true)∧Below w.heap.size w w':=fun w=>by
  have e:xW a b 0 99=true:=by unfold xW fJ;simp;omega
  have:=yu a b 0 99 w
  rwa[e] at this
 gi_enter func168,ntmps168
 gi_wp2_with (first|(gi_at_call 32;refine(H1 _).mono ?_;rintro e w1 ⟨rfl,hb1⟩;obtain⟨hc1,hf1⟩:=fu hb1)|(gi_at_call 187;refine(mn _ _ _ zo).mono ?_;rintro e w2 ⟨rfl,hb2⟩))
 go_ret
 exact⟨congrArg Ending.returned (congrArg Value.bool (decide_eq_true (show b - a+1≤3 by omega))),((zB.alloc zL _).trans (hb1.mono zs)).trans (hb2.mono (by have:=hb1.size;simp at this;omega))⟩
section
theorem uG(b:Bk)(i:Int)(w:World)(h:b.ng≤maxLen):CallsIn FF 0 prog 89 #[b.val,int i64 i] w fun e w'=>e=.returned (.bool (fJ i 0 ((b.ng:Int) - 1)))∧Below w.heap.size w w':=by
 obtain⟨dY,mO,gA,ng,gc,g,mA,nm,mc,m,cA,nc,cc,c⟩:=b
 simp only[Bk.val,Bk.cells]
 simp only at h
 unfold maxLen at h
 have e1:IntKind.i64.wrap ((ng:Int) - 1)=(ng:Int) - 1:=IntWalk.i64_in _ zo
 gi_enter func89,ntmps89
 gi_wp2_with (gi_at_call 65;refine(dw _ _ _ _).mono ?_;rintro e w' ⟨rfl,rfl⟩)
 all_goals (go_ret;refine⟨?_,bw⟩;first|rfl|(rw[← e1];rfl)|(congr 2;simp_all))
theorem CV(b:Bk)(i:Int)(w:World)(h:b.nm≤maxLen):CallsIn FF 0 prog 73 #[b.val,int i64 i] w fun e w'=>e=.returned (.bool (fJ i 0 ((b.nm:Int) - 1)))∧Below w.heap.size w w':=by
 obtain⟨dY,mO,gA,ng,gc,g,mA,nm,mc,m,cA,nc,cc,c⟩:=b
 simp only[Bk.val,Bk.cells]
 simp only at h
 unfold maxLen at h
 have e1:IntKind.i64.wrap ((nm:Int) - 1)=(nm:Int) - 1:=IntWalk.i64_in _ zo
 gi_enter func73,ntmps73
 gi_wp2_with (gi_at_call 65;refine(dw _ _ _ _).mono ?_;rintro e w' ⟨rfl,rfl⟩)
 all_goals (go_ret;refine⟨?_,bw⟩;first|rfl|(rw[← e1];rfl)|(congr 2;simp_all))
theorem xY(b:Bk)(i:Int)(w:World):CallsIn FF 0 prog 51 #[b.val,int i64 i] w fun e w'=>e=.returned (.bool (fJ i 0 b.dY))∧Below w.heap.size w w':=by
 obtain⟨dY,mO,gA,ng,gc,g,mA,nm,mc,m,cA,nc,cc,c⟩:=b
 simp only[Bk.val,Bk.cells]
 gi_enter func51,ntmps51
 gi_wp2_with (gi_at_call 65;refine(dw _ _ _ _).mono ?_;rintro e w' ⟨rfl,rfl⟩)
 all_goals (go_ret;refine⟨?_,bw⟩;first|rfl|(congr 2;simp_all))
theorem IL(b:Bk)(w:World)(h:b.nm≤6):CallsIn FF 0 prog 135 #[b.val] w fun e w'=>e=.returned (.tuple #[int i64 b.nm,.bool true])∧Below w.heap.size w w':=by
 obtain⟨dY,mO,gA,ng,gc,g,mA,nm,mc,m,cA,nc,cc,c⟩:=b
 simp only[Bk.val,Bk.cells]
 simp only at h
 have e1:decide ((nm:Int)≤6)=true:=decide_eq_true zo
 gi_enter func135,ntmps135
 gi_wp2
 gi_quiet (fail)
 gi_wp2
 all_goals (go_ret2;refine⟨?_,bw⟩;first|rfl|(simp only[e1];rfl)|trace_state)
theorem IK(b:Bk)(w:World)(h:1≤b.ng∧b.ng≤3):CallsIn FF 0 prog 133 #[b.val] w fun e w'=>e=.returned (.tuple #[int i64 b.ng,.bool true])∧Below w.heap.size w w':=by
 obtain⟨dY,mO,gA,ng,gc,g,mA,nm,mc,m,cA,nc,cc,c⟩:=b
 simp only[Bk.val,Bk.cells]
 simp only at h
 have e1:fJ (ng:Int) 1 3=true:=by unfold fJ;simp;omega
 gi_enter func133,ntmps133
 gi_wp2
 gi_quiet ((gi_at_call 65;exact CallsIn.quiet_of (WS _ _ _ _)))
 gi_wp2
 all_goals (go_ret2;refine⟨?_,bw⟩;first|rfl|(simp only[e1];rfl)|trace_state)
end
theorem Vg{s:ByteArray}(h:jW s=true):1≤s.size∧s.size≤10∧∀i,i<s.size→nameAt s i=true:=by
 unfold jW at h
 simp only[Bool.and_eq_true,decide_eq_true_eq] at h
 exact⟨h.1.1,h.1.2,h.2⟩
theorem my(s:ByteArray)(w:World)(hs:jW s=true):
 CallsIn FF 0 prog 165 #[.string s] w fun e w'=>e=.returned (.bool true)∧w'=w:=by
 obtain⟨h1,h10,hN⟩:=Vg hs
 have H:∀w,CallsIn FF 0 prog 65 #[int i64 s.size,int i64 1,int i64 10] w fun e w'=>e=.returned (.bool true)∧w=w':=fun w=>by
  have:=dw s.size 1 10 w
  rwa[show fJ (s.size:Int) 1 10=true by unfold fJ;simp;omega] at this
 gi_enter func165,ntmps165
 gi_wp2_with (gi_at_call 65;refine(H _).mono ?_;rintro e w' ⟨rfl,rfl⟩)
 gi_loop [13] (fun i=>∃k:Nat,k≤s.size∧i=int i64 k) (fun i=>s.size - (intOf i).toNat)
 case atStart=>exact⟨0,Nat.zero_le _,rfl⟩
 case round=>
  obtain⟨k,hk,rfl⟩:=hrel
  by_cases hlt:k<s.size
  ·have hn:=hN k hlt
   rw[lV hlt] at hn
   unfold EX KI at hn
   simp at hn
   gi_wp2_with (first|(exact absurd ‹some undef=some (Value.bool _)› (by simp[undef])))
   all_goals first
    | (go_round
       case rel=>exact⟨k+1,zo,by go_num⟩
       case measure=>simp[intOf];omega)
    | (exfalso;simp_all;omega)
    | trace_state
  ·gi_wp2
   go_ret
   exact⟨rfl,rfl⟩
theorem TF(b:ByteArray):∀ (n i:Nat) (r:List UInt8),b.size - i=n→ByteArray.toList.loop b i r=r.reverse ++ b.data.toList.drop i:=by
 have hsz:b.data.toList.length=b.size:=rfl
 intro n
 induction n with
 | zero=>
   intro i r h
   rw[ByteArray.toList.loop.eq_def,if_neg zo]
   rw[List.drop_eq_nil_of_le zo]
   rw[List.append_nil]
 | succ n ih=>
   intro i r h
   have hi:i<b.size:=zo
   rw[ByteArray.toList.loop.eq_def,if_pos hi,ih (i+1) _ zo]
   have hi':i<b.data.toList.length:=zo
   have hi2:i<b.data.size:=hi
   rw[List.drop_eq_getElem_cons hi']
   have:b.get! i=b.data.toList[i]:=by
    cases b with
    | mk d=>exact(getElem!_pos d i hi2).trans (Array.getElem_toList hi2).symm
   rw[this,List.reverse_cons,List.append_assoc]
   rfl
theorem xE(b:ByteArray):b.toList=b.data.toList:=by
 unfold ByteArray.toList
 rw[TF b _ 0 [] rfl]
 rfl
theorem GH{a b:ByteArray}(h:a≠b):(a.toList == b.toList)=false:=by
 rw[Bool.eq_false_iff]
 intro e
 apply h
 have e':=eq_of_beq e
 rw[xE,xE] at e'
 cases a;cases b
 exact congrArg _ (Array.toList_inj.1 e')
abbrev CU(q:Good):Value:=.agg #[.string q.name,int i64 q.cost,int i64 q.pack,int i64 q.lo,int i64 q.hi]
theorem Za(q:Good)(nm:ByteArray)(B:Nat)(w:World)(hB:B<w.heap.size)(hc:w.cell? ⟨B,0,none⟩=some (.string nm))(hne:q.name≠nm):CallsIn FF 0 prog 167 #[CU q,.pointer (some ⟨B,0,none⟩)] w fun e w'=>e=.returned (.bool false)∧Below w.heap.size w w':=by
 have hc1:(w.alloc (.cells #[.string q.name,int i64 q.cost,int i64 q.pack,int i64 q.lo,int i64 q.hi] 83)).cell? ⟨B,0,none⟩=some (.string nm):=(World.cell?_alloc_lt w _ _ zm).trans hc
 have hne:=GH hne
 gi_enter func167,ntmps167
 gi_wp2
 go_ret
 exact⟨rfl,bw⟩
theorem YC(g:Nat→Good)(A:Option Addr)(n cap:Nat)(nm:ByteArray)(B:Nat)(w:World)(hr:Rows w w.heap.size 5 A n (fun i=>(g i).cell))(hn:n≤maxLen)(hB:B<w.heap.size)(hc:w.cell? ⟨B,0,none⟩=some (.string nm))(hne:∀i,i<n→(g i).name≠nm):
 CallsIn FF 0 prog 186 #[.slice A n cap,.func (.func 167) #[] #[.pointer (some ⟨B,0,none⟩)]] w fun e w'=>e=.returned (int i64 (-1))∧Below w.heap.size w w':=by
 unfold maxLen at hn
 have Hr:=hid hr
 have Hn:=hid hne
 clear hr hne
 gi_enter func186,ntmps186
 gi_wp2
 gi_loopw [8] (fun i wr=>∃k:Nat,k≤n∧i=int i64 k∧Below w.heap.size w wr) (fun i _=>n - (intOf i).toNat)
 case atStart=>exact⟨0,Nat.zero_le _,rfl,zB⟩
 case round=>
  obtain⟨k,hk,rfl,hb⟩:=hrel
  by_cases hlt:k<n
  ·obtain⟨ad,rfl,-⟩:=Hr.out (show 0<n by omega)
   have hr:=(Hr.out.below hb).row hlt
   have c0:wr.cell? (ad.add (k * 5))=some (.string (g k).name):=hr.2 0 zD
   have c1:wr.cell? ⟨(ad.add (k * 5)).block,(ad.add (k * 5)).off+1,none⟩=some (int i64 (g k).cost):=hr.2 1 zD
   have c2:wr.cell? ⟨(ad.add (k * 5)).block,(ad.add (k * 5)).off+2,none⟩=some (int i64 (g k).pack):=hr.2 2 zD
   have c3:wr.cell? ⟨(ad.add (k * 5)).block,(ad.add (k * 5)).off+3,none⟩=some (int i64 (g k).lo):=hr.2 3 zD
   have c4:wr.cell? ⟨(ad.add (k * 5)).block,(ad.add (k * 5)).off+4,none⟩=some (int i64 (g k).hi):=hr.2 4 zD
   clear hr
   have hs:=hb.size
   have hO:CallsIn FF 0 prog 167 #[CU (g k),.pointer (some ⟨B,0,none⟩)] wr fun e w'=>e=.returned (.bool false)∧Below wr.heap.size wr w':=Za (g k) nm B wr zo ((hb.cell (p:=⟨B,0,none⟩) hB).trans hc) (Hn.out k hlt)
   gi_wp2_with (gi_at_call 167;refine hO.mono ?_;rintro e w' ⟨rfl,hb2⟩)
   go_roundw
   case rel=>exact⟨k+1,zo,by go_num,hb.trans (hb2.mono hs)⟩
   case measure=>simp[intOf];omega
  ·gi_wp2
   go_ret
   exact⟨rfl,hb⟩
theorem KF(g:Nat→Good)(A:Option Addr)(n cap:Nat)(nm:ByteArray)(B:Nat)(w:World)(hr:Rows w w.heap.size 5 A n (fun i=>(g i).cell))(hn:n≤maxLen)(hB:B<w.heap.size)(hc:w.cell? ⟨B,0,none⟩=some (.string nm))(hne:∀i,i<n→(g i).name≠nm):
 CallsIn FF 0 prog 166 #[.slice A n cap,.func (.func 167) #[] #[.pointer (some ⟨B,0,none⟩)]] w fun e w'=>e=.returned (.bool false)∧Below w.heap.size w w':=by
 have H:=YC g A n cap nm B w hr hn hB hc hne
 gi_enter func166,ntmps166
 gi_wp2_with (gi_at_call 186;refine H.mono ?_;rintro e w' ⟨rfl,hb⟩)
 go_ret
 exact⟨rfl,hb⟩
theorem Rows.less{w:World}{B size n k:Nat}{A:Option Addr}{f:Nat→Nat→Value}(h:Rows w B size A n f)(hk:k≤n):Rows w B size A k f:=fun h0=>by
 obtain⟨a,e,hb,hc⟩:=h zo
 exact⟨a,e,hb,fun i j hi hj=>hc i j zo hj⟩
theorem GQ(b:Bk)(k:Nat)(w:World)(h:b.At w w.heap.size)(hk:k<b.ng)(hcap:b.ng≤b.gc)(ok:Good.ok b k):CallsIn FF 0 prog 134 #[b.val,int i64 k] w fun e w'=>e=.returned (int i64 0)∧Below w.heap.size w w':=by
 obtain⟨dY,mO,gA,ng,gc,g,mA,nm,mc,m,cA,nc,cc,c⟩:=b
 simp only at hk hcap
 obtain⟨o1,o2,o3,o4,o5⟩:=ok
 simp only at o1 o2 o3 o4 o5
 have wu:=h.ng
 simp only at wu
 unfold maxLen at wu
 obtain⟨ad,hA,hbl,-⟩:=h.g (show 0<ng by omega)
 simp only at hA
 subst hA
 simp only[Bk.val,Bk.cells]
 have Hg:=hid (h.g.alloc zL (.cells #[int i64 dY,int i64 mO,.slice (some ad) ng gc,.slice mA nm mc,.slice cA nc cc] 73))
 have hr:=(h.g.alloc zL (.cells #[int i64 dY,int i64 mO,.slice (some ad) ng gc,.slice mA nm mc,.slice cA nc cc] 73)).row hk
 have c0:(w.alloc (.cells #[int i64 dY,int i64 mO,.slice (some ad) ng gc,.slice mA nm mc,.slice cA nc cc] 73)).cell? (ad.add (k * 5))=some (.string (g k).name):=hr.2 0 zD
 have c1:(w.alloc (.cells #[int i64 dY,int i64 mO,.slice (some ad) ng gc,.slice mA nm mc,.slice cA nc cc] 73)).cell? ⟨(ad.add (k * 5)).block,(ad.add (k * 5)).off+1,none⟩=some (int i64 (g k).cost):=hr.2 1 zD
 have c2:(w.alloc (.cells #[int i64 dY,int i64 mO,.slice (some ad) ng gc,.slice mA nm mc,.slice cA nc cc] 73)).cell? ⟨(ad.add (k * 5)).block,(ad.add (k * 5)).off+2,none⟩=some (int i64 (g k).pack):=hr.2 2 zD
 have c3:(w.alloc (.cells #[int i64 dY,int i64 mO,.slice (some ad) ng gc,.slice mA nm mc,.slice cA nc cc] 73)).cell? ⟨(ad.add (k * 5)).block,(ad.add (k * 5)).off+3,none⟩=some (int i64 (g k).lo):=hr.2 3 zD
 have c4:(w.alloc (.cells #[int i64 dY,int i64 mO,.slice (some ad) ng gc,.slice mA nm mc,.slice cA nc cc] 73)).cell? ⟨(ad.add (k * 5)).block,(ad.add (k * 5)).off+4,none⟩=some (int i64 (g k).hi):=hr.2 4 zD
 clear hr h
 have i1:=hid (aT.2 o3)
 have i2:=hid (aT.2 o4)
 gi_enter func134,ntmps134
 gi_wp2_with (first
  | (gi_at_call 165;refine(my _ _ o1).mono ?_;rintro e w' ⟨rfl,rfl⟩)
  | (gi_at_call 166;refine(KF g (some ad) k gc (g k).name (w.heap.size+1) _ (((Hg.out.alloc zs _).more zm).less zo) zU zs zs o2).mono ?_;rintro e w2 ⟨rfl,hb2⟩;obtain⟨hc2,hf2⟩:=fu hb2;have hs2:=hb2.size)
  | (gi_at_call 65;refine(dw _ _ _ _).mono ?_;rintro e w' ⟨he,rfl⟩;(first|rw[i1.out] at he|rw[i2.out] at he);subst he)
  | (gi_at_call 168;refine(uJ _ _ _ o5).mono ?_;rintro e w3 ⟨rfl,hb3⟩))
 go_ret
 exact⟨rfl,(((zB.alloc zL _).alloc zs _).trans (hb2.mono zm)).trans (hb3.mono (by simp at hs2;omega))⟩
theorem GR(b:Bk)(k:Nat)(w:World)(h:b.At w w.heap.size)(hk:k<b.nm)(ok:Mv.ok b k):CallsIn FF 0 prog 136 #[b.val,int i64 k] w fun e w'=>e=.returned (int i64 0)∧Below w.heap.size w w':=by
 obtain⟨dY,mO,gA,ng,gc,g,mA,nm,mc,m,cA,nc,cc,c⟩:=b
 simp only at hk
 obtain⟨o1,o2,o3,o4,o5⟩:=ok
 simp only at o1 o2 o3 o4 o5
 have hnm:=h.nm
 simp only at hnm
 unfold maxLen at hnm
 have hG:∀i w,CallsIn FF 0 prog 89 #[.agg #[int i64 dY,int i64 mO,.slice gA ng gc,.slice mA nm mc,.slice cA nc cc],int i64 i] w fun e w'=>e=.returned (.bool (fJ i 0 ((ng:Int) - 1)))∧Below w.heap.size w w':=fun i w=>uG ⟨dY,mO,gA,ng,gc,g,mA,nm,mc,m,cA,nc,cc,c⟩ i w h.ng
 obtain⟨ad,hA,hbl,-⟩:=h.m (show 0<nm by omega)
 simp only at hA
 subst hA
 simp only[Bk.val,Bk.cells]
 have Hg:=hid (h.m.alloc zL (.cells #[int i64 dY,int i64 mO,.slice gA ng gc,.slice (some ad) nm mc,.slice cA nc cc] 73))
 have hr:=Hg.out.row hk
 have c0:(w.alloc (.cells #[int i64 dY,int i64 mO,.slice gA ng gc,.slice (some ad) nm mc,.slice cA nc cc] 73)).cell? (ad.add (k * 5))=some (int i64 (m k).kind):=hr.2 0 zD
 have c1:(w.alloc (.cells #[int i64 dY,int i64 mO,.slice gA ng gc,.slice (some ad) nm mc,.slice cA nc cc] 73)).cell? ⟨(ad.add (k * 5)).block,(ad.add (k * 5)).off+1,none⟩=some (int i64 (m k).good):=hr.2 1 zD
 have c2:(w.alloc (.cells #[int i64 dY,int i64 mO,.slice gA ng gc,.slice (some ad) nm mc,.slice cA nc cc] 73)).cell? ⟨(ad.add (k * 5)).block,(ad.add (k * 5)).off+2,none⟩=some (int i64 (m k).day):=hr.2 2 zD
 have c3:(w.alloc (.cells #[int i64 dY,int i64 mO,.slice gA ng gc,.slice (some ad) nm mc,.slice cA nc cc] 73)).cell? ⟨(ad.add (k * 5)).block,(ad.add (k * 5)).off+3,none⟩=some (int i64 (m k).lo):=hr.2 3 zD
 have c4:(w.alloc (.cells #[int i64 dY,int i64 mO,.slice gA ng gc,.slice (some ad) nm mc,.slice cA nc cc] 73)).cell? ⟨(ad.add (k * 5)).block,(ad.add (k * 5)).off+4,none⟩=some (int i64 (m k).hi):=hr.2 4 zD
 clear hr h
 have i1:=hid (aT.2 o1)
 have i2:=hid (aT.2 o2)
 have i3:=hid (aT.2 o3)
 gi_enter func136,ntmps136
 gi_wp2_with (first
  | (gi_at_call 65;refine(dw _ _ _ _).mono ?_;rintro e w' ⟨he,rfl⟩;(first|rw[i1.out] at he|rw[i3.out] at he);subst he)
  | (gi_at_call 89;refine(hG _ _).mono ?_;rintro e w2 ⟨he,hb2⟩;rw[i2.out] at he;subst he;obtain⟨hc2,hf2⟩:=fu hb2;have hs2:=hb2.size))
 clear c0 c1 c2 c3 c4
 have hbx:∀o,w2.cell? ⟨w.heap.size,o,none⟩=(w.alloc (.cells #[int i64 dY,int i64 mO,.slice gA ng gc,.slice (some ad) nm mc,.slice cA nc cc] 73)).cell? ⟨w.heap.size,o,none⟩:=fun o=>(hc2 _ o zm).trans (World.cell?_alloc_lt _ _ _ zs)
 have hmx:∀o,w2.cell? ⟨w.heap.size+1,o,none⟩=((w.alloc (.cells #[int i64 dY,int i64 mO,.slice gA ng gc,.slice (some ad) nm mc,.slice cA nc cc] 73)).alloc (.cells #[int i64 (m k).kind,int i64 (m k).good,int i64 (m k).day,int i64 (m k).lo,int i64 (m k).hi] 39)).cell? ⟨w.heap.size+1,o,none⟩:=fun o=>(hc2 _ o zs)
 have hB:Below w.heap.size w w2:=((zB.alloc zL _).alloc zs _).trans (hb2.mono zm)
 have hs:w.heap.size+1<w2.heap.size:=by simp at hs2;omega
 by_cases hk0:0<k
 ·have hd:decide (0<(k:Int))=true:=zm
  have hr:=(((Hg.out.more (Nat.le_succ _)).alloc zs (.cells #[int i64 (m k).kind,int i64 (m k).good,int i64 (m k).day,int i64 (m k).lo,int i64 (m k).hi] 39)).below (hb2.mono zs)).row (show k - 1<nm by omega)
  have d2:w2.cell? ⟨(ad.add ((k - 1) * 5)).block,(ad.add ((k - 1) * 5)).off+2,none⟩=some (int i64 (m (k - 1)).day):=hr.2 2 zD
  have hl2:(ad.add ((k - 1) * 5)).block<w2.heap.size:=by rw[aH];have:=hr.1;omega
  clear hr
  clear hc2 hf2 hs2
  have hd2:decide ((m k).day<(m (k - 1)).day)=false:=decide_eq_false (by have:=o4 hk0;omega)
  have e2:0≤(k:Int) - 1:=zo
  have e2':1≤(k:Int):=zo
  have e4:(k:Int) - 1<nm:=zo
  have e3:((k:Int) - 1).toNat=k - 1:=zo
  have e1:IntKind.i64.wrap ((k:Int) - 1)=(k:Int) - 1:=IntWalk.i64_in _ zo
  gi_quiet (fail)
  clear e1 e3
  gi_wp2_with (gi_at_call 168;refine(uJ _ _ _ o5).mono ?_;rintro e w3 ⟨rfl,hb3⟩)
  go_ret
  exact⟨rfl,hB.trans ((bw:Below w.heap.size w2 _).trans (hb3.mono zm))⟩
 ·have hd:decide (0<(k:Int))=false:=zm
  clear hc2 hf2 hs2
  gi_quiet (fail)
  gi_wp2_with (gi_at_call 168;refine(uJ _ _ _ o5).mono ?_;rintro e w3 ⟨rfl,hb3⟩)
  go_ret
  exact⟨rfl,hB.trans ((bw:Below w.heap.size w2 _).trans (hb3.mono zm))⟩
theorem EA(b:Bk)(k:Nat)(w:World)(h:b.At w w.heap.size)(hk:k<b.nc)(hnc:b.nc≤6):CallsIn FF 0 prog 138 #[b.val,int i64 k] w fun e w'=>e=.returned (int i64 (nR b (b.c k)))∧Below w.heap.size w w':=by
 obtain⟨dY,mO,gA,ng,gc,g,mA,nm,mc,m,cA,nc,cc,c⟩:=b
 simp only at hk hnc
 have hG:∀i w,CallsIn FF 0 prog 89 #[.agg #[int i64 dY,int i64 mO,.slice gA ng gc,.slice mA nm mc,.slice cA nc cc],int i64 i] w fun e w'=>e=.returned (.bool (fJ i 0 ((ng:Int) - 1)))∧Below w.heap.size w w':=fun i w=>uG (⟨dY,mO,gA,ng,gc,g,mA,nm,mc,m,cA,nc,cc,c⟩:Bk) i w h.ng
 have hE:∀i w,CallsIn FF 0 prog 51 #[.agg #[int i64 dY,int i64 mO,.slice gA ng gc,.slice mA nm mc,.slice cA nc cc],int i64 i] w fun e w'=>e=.returned (.bool (fJ i 0 dY))∧Below w.heap.size w w':=fun i w=>xY (⟨dY,mO,gA,ng,gc,g,mA,nm,mc,m,cA,nc,cc,c⟩:Bk) i w
 obtain⟨ad,hA,hbl,-⟩:=h.c (show 0<nc by omega)
 simp only at hA
 subst hA
 simp only[Bk.val,Bk.cells]
 obtain⟨w1,hw1⟩:∃x,x=w.alloc (.cells #[int i64 dY,int i64 mO,.slice gA ng gc,.slice mA nm mc,.slice (some ad) nc cc] 73):=zE
 have hr:=(h.c.alloc zL (.cells #[int i64 dY,int i64 mO,.slice gA ng gc,.slice mA nm mc,.slice (some ad) nc cc] 73)).row hk
 rw[← hw1] at hr
 have c0:w1.cell? (ad.add (k * 4))=some (int i64 (c k).good):=hr.2 0 zD
 have c1:w1.cell? ⟨(ad.add (k * 4)).block,(ad.add (k * 4)).off+1,none⟩=some (int i64 (c k).day):=hr.2 1 zD
 have c2:w1.cell? ⟨(ad.add (k * 4)).block,(ad.add (k * 4)).off+2,none⟩=some (int i64 (c k).lo):=hr.2 2 zD
 have c3:w1.cell? ⟨(ad.add (k * 4)).block,(ad.add (k * 4)).off+3,none⟩=some (int i64 (c k).hi):=hr.2 3 zD
 rw[hw1] at c0 c1 c2 c3
 clear hr h hw1
 unfold nR
 obtain⟨q1,hq1⟩:∃q,q=fJ (c k).good 0 ((ng:Int) - 1):=zE
 obtain⟨q2,hq2⟩:∃q,q=fJ (c k).day 0 dY:=zE
 obtain⟨q3,hq3⟩:∃q,q=iE (c k).lo (c k).hi 0 999:=zE
 rw[← hq1,← hq2,← hq3]
 have H1:=hid hq1
 have H2:=hid hq2
 have H3:Hid (q3=xW (c k).lo (c k).hi 0 999):=hid hq3
 clear hq1 hq2 hq3
 cases q1 <;> cases q2 <;> cases q3 <;>
 (gi_enter func138,ntmps138
  gi_wp2_with (first
   | (gi_at_call 89;refine(hG _ _).mono ?_;rintro e w2 ⟨he,hb2⟩;rw[← H1.out] at he;subst he;obtain⟨hc2,hf2⟩:=fu hb2;have hs2:w.heap.size+1<w2.heap.size:=by have:=hb2.size;simp at this;omega)
   | (gi_at_call 51;refine(hE _ _).mono ?_;rintro e w3 ⟨he,hb3⟩;rw[← H2.out] at he;subst he;obtain⟨hc3,hf3⟩:=fu hb3;have hs3:=hb3.size)
   | (gi_at_call 32;refine(yu _ _ _ _ _).mono ?_;rintro e w4 ⟨he,hb4⟩;rw[← H3.out] at he;subst he))
  go_ret
  have hB2:=(((Below.refl w.heap.size w).alloc zL _).alloc zs _).trans (hb2.mono zm)
  first
   | exact⟨rfl,(hB2.trans (hb3.mono zo)).trans (hb4.mono zo)⟩
   | exact⟨rfl,hB2.trans (hb3.mono zo)⟩
   | exact⟨rfl,hB2⟩)
theorem EZ(b:Bk)(w:World)(h:b.nc≤maxLen):CallsIn FF 0 prog 137 #[b.val] w fun e w'=>e=.returned (.tuple #[int i64 b.nc,.bool (decide (b.nc≤4))])∧Below w.heap.size w w':=by
 obtain⟨dY,mO,gA,ng,gc,g,mA,nm,mc,m,cA,nc,cc,c⟩:=b
 simp only[Bk.val,Bk.cells]
 simp only at h
 unfold maxLen at h
 obtain⟨t,ht⟩:∃t,t=decide (nc≤4):=zE
 have e1:decide ((nc:Int)≤4)=t:=by rw[ht];congr 1;exact propext zo
 rw[← ht]
 clear ht
 gi_enter func137,ntmps137
 gi_wp2
 gi_quiet (fail)
 gi_wp2
 all_goals (go_ret2;refine⟨?_,bw⟩;first|rfl|(simp only[e1];rfl)|trace_state)
@[go_sem] theorem RV (P:Program) (w:World) (a:Addr) (m:Mode) (f:Fn) (x y:Array Value):Sem.run P (store a (.func f x y) m) w=stored P w a (.func f x y) m:=run_store P w a _ m rfl
def Da:Array Value:=#[.func (.func 133) #[] #[],.func (.func 134) #[] #[],.func (.func 135) #[] #[],.func (.func 136) #[] #[],.func (.func 137) #[] #[],.func (.func 138) #[] #[]]
theorem Yh(b:Bk)(B:Nat)(w:World)(h:b.At w w.heap.size)(rq:gQ b)(okm:gT b)(Xn:b.nc≤6)(jw:∀i,i+1<b.nc→Ct.ok b (b.c i))(r:Int)(hr2:¬ b.nc≤4→r=2)(hr4:b.nc≤4→0<b.nc→r=nR b (b.c (b.nc - 1)))(hr0:b.nc=0→r=0)(hcap:b.ng≤b.gc)(hB:B<w.heap.size)(hl:∀o,w.cell? ⟨B,o,none⟩=Da[o]?):
 CallsIn FF 0 prog 109 #[b.val,.slice (some ⟨B,0,none⟩) 3 3] w fun e w'=>e=.returned (int i64 r)∧Below w.heap.size w w':=by
 obtain⟨dY,mO,gA,ng,gc,g,mA,nm,mc,m,cA,nc,cc,c⟩:=b
 simp only[Bk.val,Bk.cells]
 simp only at hcap jw Xn hr2 hr4 hr0
 replace hr2:=hid hr2
 replace hr4:=hid hr4
 replace hr0:=hid hr0
 have Hh:=hid h
 have Og:=hid rq
 have Om:=hid okm
 have Oc:=hid jw
 clear h rq okm jw
 gi_enter func109,ntmps109
 gi_wp2
 gi_loopw [13] (fun i wr=>∃k:Nat,k≤3∧i=int i64 k∧Below (w.heap.size+1) (w.alloc (.cells #[int i64 dY,int i64 mO,.slice gA ng gc,.slice mA nm mc,.slice cA nc cc] 73)) wr∧Hid (k=3→r=0)) (fun i _=>3 - (intOf i).toNat)
 case atStart=>exact⟨0,zo,rfl,zB,hid zo⟩
 case round=>
  obtain⟨k,hk,rfl,hb,hk3⟩:=hrel
  have hsz:w.heap.size+1≤wr.heap.size:=by have:=hb.size;simpa using this
  have jq:∀o,wr.cell? ⟨w.heap.size,o,none⟩=(w.alloc (.cells #[int i64 dY,int i64 mO,.slice gA ng gc,.slice mA nm mc,.slice cA nc cc] 73)).cell? ⟨w.heap.size,o,none⟩:=fun o=>hb.cell (p:=⟨w.heap.size,o,none⟩) zs
  have hls:∀o,wr.cell? ⟨B,o,none⟩=Da[o]?:=fun o=>((hb.cell (p:=⟨B,o,none⟩) zm).trans (World.cell?_alloc_lt w _ _ zm)).trans (hl o)
  have hat:Hid ((⟨dY,mO,gA,ng,gc,g,mA,nm,mc,m,cA,nc,cc,c⟩:Bk).At wr (w.heap.size+1)):=hid (((Hh.out.alloc zL _).more (Nat.le_succ _)).below hb)
  have Uv:w.heap.size<wr.heap.size:=hsz
  by_cases hlt:k<3
  ·rcases(show k=0∨k=1∨k=2 by omega) with rfl|rfl|rfl
   ·have l0:wr.cell? ⟨B,0,none⟩=some (.func (.func 133) #[] #[]):=hls 0
    have l1:wr.cell? ⟨B,1,none⟩=some (.func (.func 134) #[] #[]):=hls 1
    clear hls
    obtain⟨wo,rfl⟩:∃wo:World,wo=wr:=zE
    have hL:∀w,CallsIn FF 0 prog 133 #[.agg #[int i64 dY,int i64 mO,.slice gA ng gc,.slice mA nm mc,.slice cA nc cc]] w fun e w'=>e=.returned (.tuple #[int i64 ng,.bool true])∧Below w.heap.size w w':=fun w=>IK ⟨dY,mO,gA,ng,gc,g,mA,nm,mc,m,cA,nc,cc,c⟩ w Og.out.1
    gi_wp2_with (gi_at_call 133;refine(hL _).mono ?_;rintro e w2 ⟨rfl,hb2⟩;obtain⟨hc2,hf2⟩:=fu hb2;have hs2:wo.heap.size<w2.heap.size:=by have:=hb2.size;simp at this;omega)
    have BG:∀o,w2.cell? ⟨w.heap.size,o,none⟩=(w.alloc (.cells #[int i64 dY,int i64 mO,.slice gA ng gc,.slice mA nm mc,.slice cA nc cc] 73)).cell? ⟨w.heap.size,o,none⟩:=fun o=>((hc2 _ o zm).trans (World.cell?_alloc_lt _ _ _ zm)).trans (jq o)
    have Ur:w2.cell? ⟨wo.heap.size,1,none⟩=some (.func (.func 134) #[] #[]):=(hc2 _ 1 zs).trans zs
    have KZ:Hid ((⟨dY,mO,gA,ng,gc,g,mA,nm,mc,m,cA,nc,cc,c⟩:Bk).At w2 (w.heap.size+1)):=hid ((hat.out.alloc hsz _).below (hb2.mono zm))
    have hB2:Below (w.heap.size+1) wo w2:=(zB.alloc hsz _).trans (hb2.mono zm)
    clear hc2 hf2 jq l0 l1 hL
    have hnn:ng≤2 ^ 63 - 1:=Hh.out.ng
    gi_loopw [27] (fun j wj=>∃q:Nat,q≤ng∧j=int i64 q∧Below w2.heap.size w2 wj) (fun j _=>ng - (intOf j).toNat)
    case atStart=>exact⟨0,Nat.zero_le _,rfl,zB⟩
    case round=>
     obtain⟨q,hq,rfl,hbj⟩:=hrel
     have hs:=hbj.size
     have hx:∀o,wr.cell? ⟨w.heap.size,o,none⟩=(w.alloc (.cells #[int i64 dY,int i64 mO,.slice gA ng gc,.slice mA nm mc,.slice cA nc cc] 73)).cell? ⟨w.heap.size,o,none⟩:=fun o=>(hbj.cell (p:=⟨w.heap.size,o,none⟩) zm).trans (BG o)
     have hf:wr.cell? ⟨wo.heap.size,1,none⟩=some (.func (.func 134) #[] #[]):=(hbj.cell (p:=⟨wo.heap.size,1,none⟩) zm).trans Ur
     have hlt1:w.heap.size<wr.heap.size:=zo
     have hlt2:wo.heap.size<wr.heap.size:=zo
     by_cases hq2:q<ng
     ·have hC:CallsIn FF 0 prog 134 #[.agg #[int i64 dY,int i64 mO,.slice gA ng gc,.slice mA nm mc,.slice cA nc cc],int i64 q] wr fun e w'=>e=.returned (int i64 0)∧Below wr.heap.size wr w':=GQ ⟨dY,mO,gA,ng,gc,g,mA,nm,mc,m,cA,nc,cc,c⟩ q wr ((KZ.out.below (hbj.mono zo)).more zo) hq2 hcap (Og.out.2 q hq2)
      gi_wp2_with (gi_at_call 134;refine hC.mono ?_;rintro e w3 ⟨rfl,hb3⟩)
      go_roundw
      case rel=>exact⟨q+1,zo,by go_num,hbj.trans (hb3.mono hs)⟩
      case measure=>simp[intOf];omega
     ·obtain rfl:q=ng:=zo
      gi_wp2
      go_roundw
      case rel=>exact⟨0+1,zo,by go_num,(hb.trans hB2).trans (hbj.mono zo),hid zo⟩
      case measure=>simp[intOf]
   ·have l0:wr.cell? ⟨B,2,none⟩=some (.func (.func 135) #[] #[]):=hls 2
    have l1:wr.cell? ⟨B,3,none⟩=some (.func (.func 136) #[] #[]):=hls 3
    clear hls
    obtain⟨wo,rfl⟩:∃wo:World,wo=wr:=zE
    have hL:∀w,CallsIn FF 0 prog 135 #[.agg #[int i64 dY,int i64 mO,.slice gA ng gc,.slice mA nm mc,.slice cA nc cc]] w fun e w'=>e=.returned (.tuple #[int i64 nm,.bool true])∧Below w.heap.size w w':=fun w=>IL ⟨dY,mO,gA,ng,gc,g,mA,nm,mc,m,cA,nc,cc,c⟩ w Om.out.1
    gi_wp2_with (gi_at_call 135;refine(hL _).mono ?_;rintro e w2 ⟨rfl,hb2⟩;obtain⟨hc2,hf2⟩:=fu hb2;have hs2:wo.heap.size<w2.heap.size:=by have:=hb2.size;simp at this;omega)
    have BG:∀o,w2.cell? ⟨w.heap.size,o,none⟩=(w.alloc (.cells #[int i64 dY,int i64 mO,.slice gA ng gc,.slice mA nm mc,.slice cA nc cc] 73)).cell? ⟨w.heap.size,o,none⟩:=fun o=>((hc2 _ o zm).trans (World.cell?_alloc_lt _ _ _ zm)).trans (jq o)
    have Ur:w2.cell? ⟨wo.heap.size,1,none⟩=some (.func (.func 136) #[] #[]):=(hc2 _ 1 zs).trans zs
    have KZ:Hid ((⟨dY,mO,gA,ng,gc,g,mA,nm,mc,m,cA,nc,cc,c⟩:Bk).At w2 (w.heap.size+1)):=hid ((hat.out.alloc hsz _).below (hb2.mono zm))
    have hB2:Below (w.heap.size+1) wo w2:=(zB.alloc hsz _).trans (hb2.mono zm)
    clear hc2 hf2 jq l0 l1 hL
    have hnn:nm≤2 ^ 63 - 1:=Hh.out.nm
    gi_loopw [27] (fun j wj=>∃q:Nat,q≤nm∧j=int i64 q∧Below w2.heap.size w2 wj) (fun j _=>nm - (intOf j).toNat)
    case atStart=>exact⟨0,Nat.zero_le _,rfl,zB⟩
    case round=>
     obtain⟨q,hq,rfl,hbj⟩:=hrel
     have hs:=hbj.size
     have hx:∀o,wr.cell? ⟨w.heap.size,o,none⟩=(w.alloc (.cells #[int i64 dY,int i64 mO,.slice gA ng gc,.slice mA nm mc,.slice cA nc cc] 73)).cell? ⟨w.heap.size,o,none⟩:=fun o=>(hbj.cell (p:=⟨w.heap.size,o,none⟩) zm).trans (BG o)
     have hf:wr.cell? ⟨wo.heap.size,1,none⟩=some (.func (.func 136) #[] #[]):=(hbj.cell (p:=⟨wo.heap.size,1,none⟩) zm).trans Ur
     have hlt1:w.heap.size<wr.heap.size:=zo
     have hlt2:wo.heap.size<wr.heap.size:=zo
     by_cases hq2:q<nm
     ·have hC:CallsIn FF 0 prog 136 #[.agg #[int i64 dY,int i64 mO,.slice gA ng gc,.slice mA nm mc,.slice cA nc cc],int i64 q] wr fun e w'=>e=.returned (int i64 0)∧Below wr.heap.size wr w':=GR ⟨dY,mO,gA,ng,gc,g,mA,nm,mc,m,cA,nc,cc,c⟩ q wr ((KZ.out.below (hbj.mono zo)).more zo) hq2 (Om.out.2 q hq2)
      gi_wp2_with (gi_at_call 136;refine hC.mono ?_;rintro e w3 ⟨rfl,hb3⟩)
      go_roundw
      case rel=>exact⟨q+1,zo,by go_num,hbj.trans (hb3.mono hs)⟩
      case measure=>simp[intOf];omega
     ·obtain rfl:q=nm:=zo
      gi_wp2
      go_roundw
      case rel=>exact⟨1+1,zo,by go_num,(hb.trans hB2).trans (hbj.mono zo),hid zo⟩
      case measure=>simp[intOf]
   ·have l0:wr.cell? ⟨B,4,none⟩=some (.func (.func 137) #[] #[]):=hls 4
    have l1:wr.cell? ⟨B,5,none⟩=some (.func (.func 138) #[] #[]):=hls 5
    clear hls
    obtain⟨wo,rfl⟩:∃wo:World,wo=wr:=zE
    have hL:∀w,CallsIn FF 0 prog 137 #[.agg #[int i64 dY,int i64 mO,.slice gA ng gc,.slice mA nm mc,.slice cA nc cc]] w fun e w'=>e=.returned (.tuple #[int i64 nc,.bool (decide (nc≤4))])∧Below w.heap.size w w':=fun w=>EZ ⟨dY,mO,gA,ng,gc,g,mA,nm,mc,m,cA,nc,cc,c⟩ w Hh.out.nc
    by_cases h4:nc≤4
    rotate_left 1
    ·rw[decide_eq_false h4] at hL
     obtain rfl:=hr2.out h4
     gi_wp2_with (gi_at_call 137;refine(hL _).mono ?_;rintro e w2 ⟨rfl,hb2⟩)
     go_ret
     exact⟨rfl,((((Below.refl w.heap.size w).alloc zL _).trans (hb.mono zs)).alloc zo _).trans (hb2.mono zm)⟩
    rw[decide_eq_true h4] at hL
    gi_wp2_with (gi_at_call 137;refine(hL _).mono ?_;rintro e w2 ⟨rfl,hb2⟩;obtain⟨hc2,hf2⟩:=fu hb2;have hs2:wo.heap.size<w2.heap.size:=by have:=hb2.size;simp at this;omega)
    have BG:∀o,w2.cell? ⟨w.heap.size,o,none⟩=(w.alloc (.cells #[int i64 dY,int i64 mO,.slice gA ng gc,.slice mA nm mc,.slice cA nc cc] 73)).cell? ⟨w.heap.size,o,none⟩:=fun o=>((hc2 _ o zm).trans (World.cell?_alloc_lt _ _ _ zm)).trans (jq o)
    have Ur:w2.cell? ⟨wo.heap.size,1,none⟩=some (.func (.func 138) #[] #[]):=(hc2 _ 1 zs).trans zs
    have KZ:Hid ((⟨dY,mO,gA,ng,gc,g,mA,nm,mc,m,cA,nc,cc,c⟩:Bk).At w2 (w.heap.size+1)):=hid ((hat.out.alloc hsz _).below (hb2.mono zm))
    have hB2:Below (w.heap.size+1) wo w2:=(zB.alloc hsz _).trans (hb2.mono zm)
    clear hc2 hf2 jq l0 l1 hL
    have hnn:nc≤2 ^ 63 - 1:=Hh.out.nc
    gi_loopw [27] (fun j wj=>∃q:Nat,q≤nc∧j=int i64 q∧Below w2.heap.size w2 wj∧Hid (q=nc→r=0)) (fun j _=>nc - (intOf j).toNat)
    case atStart=>exact⟨0,Nat.zero_le _,rfl,zB,hid fun h=>hr0.out h.symm⟩
    case round=>
     obtain⟨q,hq,rfl,hbj,hqr⟩:=hrel
     have hs:=hbj.size
     have hx:∀o,wr.cell? ⟨w.heap.size,o,none⟩=(w.alloc (.cells #[int i64 dY,int i64 mO,.slice gA ng gc,.slice mA nm mc,.slice cA nc cc] 73)).cell? ⟨w.heap.size,o,none⟩:=fun o=>(hbj.cell (p:=⟨w.heap.size,o,none⟩) zm).trans (BG o)
     have hf:wr.cell? ⟨wo.heap.size,1,none⟩=some (.func (.func 138) #[] #[]):=(hbj.cell (p:=⟨wo.heap.size,1,none⟩) zm).trans Ur
     have hlt1:w.heap.size<wr.heap.size:=zo
     have hlt2:wo.heap.size<wr.heap.size:=zo
     by_cases hq2:q<nc
     ·have hC:=EA (⟨dY,mO,gA,ng,gc,g,mA,nm,mc,m,cA,nc,cc,c⟩:Bk) q wr ((KZ.out.below (hbj.mono zo)).more zo) hq2 Xn
      simp only[Bk.val,Bk.cells] at hC
      by_cases hq3:q+1<nc
      ·rw[(nS _ _).2 (Oc.out q hq3)] at hC
       have HC:=hid hC
       clear hC
       gi_wp2_with (gi_at_call 138;refine HC.out.mono ?_;rintro e w3 ⟨rfl,hb3⟩)
       go_roundw
       case rel=>exact⟨q+1,zo,by go_num,hbj.trans (hb3.mono hs),hid zo⟩
       case measure=>simp[intOf];omega
      ·have Ty:nc - 1=q:=zo
       rw[← Ty,← hr4.out h4 zo] at hC
       have HC:=hid hC
       clear hC
       by_cases hrz:r=0
       ·subst hrz
        rw[Ty] at HC
        gi_wp2_with (gi_at_call 138;refine HC.out.mono ?_;rintro e w3 ⟨rfl,hb3⟩)
        go_roundw
        case rel=>exact⟨q+1,zo,by go_num,hbj.trans (hb3.mono hs),hid (by intros;first|rfl|trivial)⟩
        case measure=>simp[intOf];omega
       ·have hne:(r != 0)=true:=by simpa using hrz
        rw[Ty] at HC
        gi_wp2_with (gi_at_call 138;refine HC.out.mono ?_;rintro e w3 ⟨rfl,hb3⟩)
        go_ret
        exact⟨rfl,((((((Below.refl w.heap.size w).alloc zL _).trans (hb.mono zs)).trans (hB2.mono zo)).trans (hbj.mono zo)).trans (hb3.mono zo))⟩
     ·obtain rfl:q=nc:=zo
      gi_wp2
      go_roundw
      case rel=>exact⟨2+1,zo,by go_num,(hb.trans hB2).trans (hbj.mono zo),hid fun _=>hqr.out rfl⟩
      case measure=>simp[intOf]
  ·obtain rfl:k=3:=zo
   obtain rfl:=hk3.out rfl
   gi_wp2
   go_ret
   exact⟨rfl,((zB.alloc zL _).trans (hb.mono zs))⟩
end
end Go.Proofs.YtpmafoalhnaokaaGreat
