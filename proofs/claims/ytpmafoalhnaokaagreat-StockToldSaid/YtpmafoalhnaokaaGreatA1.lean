/- S0 F00 S1 S2 S3 S4 S5 Reg RegIn S6 S7 StopIn Reg2 Reg2In Cut S8 S9 -/
import Derived.Test.YtpmafoalhnaokaaGreatA0
import Derived.Test.YtpmafoalhnaokaaGreatProg
import Derived.WalkKit
import Derived.BigGuardPart
import Derived.BigQuiet
import Derived.TacticsIn
import Derived.TacticsInMore
import Derived.LoopIn
import Derived.BigFrameIn
import Derived.BigGuardIn
import Derived.BigGuardPartIn
import Derived.BigRegionIn
import Derived.OwnWalkIn
import Derived.LoopNIn
import Derived.IntWalk
import Derived.Sort.QuietIn
import Derived.Sort.BigQuietIn
import Derived.Stop.RegionWithIn
import Derived.OrdersHeld
import Derived.Deep.RegionHeld
import Derived.OrdersIn
import Derived.Deep.AppendLies
import Derived.Deep.RegionHeld3
import Derived.Deep.DrawnRows
import Derived.OwnWalk
import Derived.ControlIn
set_option maxRecDepth 100000
set_option maxHeartbeats 16000000
set_option linter.unusedVariables false
set_option linter.unusedSectionVars false
open Go.IntKind(i64)
open Go.Lib(hid)
open Go.Proofs.Tryz
open Go.Value(int)
namespace Go.Proofs.YtpmafoalhnaokaaGreat
section
open Go.RowKit
theorem fH{W w1:World}(hb:Below W.heap.size W w1):(∀b o,b<W.heap.size→w1.cell? ⟨b,o,none⟩=W.cell? ⟨b,o,none⟩)∧(∀b o,b<W.heap.size→w1.frozen? ⟨b,o,none⟩=W.frozen? ⟨b,o,none⟩):=
 ⟨fun b o h=>hb.cell (p:=⟨b,o,none⟩) h,fun b o h=>hb.frozen (p:=⟨b,o,none⟩) h⟩
def Rows(w:World)(B size:Nat)(A:Option Addr)(n:Nat)(f:Nat→Nat→Value):Prop:=
 0<n→∃ad,A=some ad∧ad.block<B∧∀i j,i<n→j<size→w.cell? (ad.add (i * size+j))=some (f i j)
theorem aH(a:Addr)(n:Nat):(a.add n).block=a.block:=by unfold Addr.add;split <;> rfl
section
variable{w w':World}{B size n:Nat}{A:Option Addr}{f:Nat→Nat→Value}
theorem Rows.keep(h:Rows w B size A n f)(hk:∀p:Addr,p.block<B→w'.cell? p=w.cell? p):Rows w' B size A n f:=fun hn=>by
 obtain⟨ad,e,hb,hc⟩:=h hn
 exact⟨ad,e,hb,fun i j hi hj=>(hk _ (by rw[aH];exact hb)).trans (hc i j hi hj)⟩
theorem Rows.more{B':Nat}(h:Rows w B size A n f)(hB:B≤B'):Rows w B' size A n f:=fun hn=>by
 obtain⟨ad,e,hb,hc⟩:=h hn
 exact⟨ad,e,zo,hc⟩
theorem Rows.below(h:Rows w B size A n f)(hb:Below B w w'):Rows w' B size A n f:=h.keep fun _ hp=>hb.cell hp
theorem Rows.alloc(h:Rows w B size A n f)(hB:B≤w.heap.size)(o:Obj):Rows (w.alloc o) B size A n f:=h.keep fun p hp=>World.cell?_alloc_lt w o p zo
end
theorem mF(a:Addr)(i j:Nat):(a.add i).add j=a.add (i+j):=by
 unfold Addr.add
 by_cases hi:i=0 <;> by_cases hj:j=0 <;> simp[hi,hj,Nat.add_assoc]
theorem add_zero'(a:Addr):a.add 0=a:=rfl
theorem Rows.row{w:World}{B size n:Nat}{ad:Addr}{f:Nat→Nat→Value}(h:Rows w B size (some ad) n f){i:Nat}(hi:i<n):ad.block<B∧∀j,j<size→w.cell? ((ad.add (i * size)).add j)=some (f i j):=by
 obtain⟨a,e,hb,hc⟩:=h zo
 obtain rfl:ad=a:=Option.some.inj e
 exact⟨hb,fun j hj=>by rw[mF];exact hc i j hi hj⟩
theorem dD{B:Nat}{a w:World}(h:Below B a w):Below B a w.drew:=⟨h.os,h.tape,h.output,h.size,h.block⟩
theorem Gh{B:Nat}{a w:World}(h:Below B a.drew w):Below B a w:=⟨h.os,h.tape,h.output,h.size,h.block⟩
theorem below_drewN{B:Nat}{a w:World}(h:Below B a w)(n:Nat):Below B a (w.drewN n):=⟨h.os,h.tape,h.output,h.size,h.block⟩
theorem bw{B:Nat}{a w:World}(h:Below B a w:=by repeat (first|exact zB|assumption|refine Below.alloc ?_ (by first|omega|(simp;omega)|simp) _|refine Below.setCell ?_ (by first|omega|(simp;omega)|simp) _|refine Below.drew ?_|refine below_drewN ?_ _)):Below B a w:=h
theorem eY{p:Nat→Prop}{k:Nat}(h:∀j,j<k→p j)(hk:p k):∀j,j<k+1→p j:=fun j hj=>by
 rcases Nat.lt_or_ge j k with h1|h1
 ·exact h j h1
 ·obtain rfl:j=k:=zo
  exact hk
theorem Iw{a b:ByteArray}(h:(a.toList == b.toList)=false):a≠b:=fun e=>by subst e;simp at h
def Whole(w:World)(b:Nat)(t:TypeId)(cs:Array Value):Prop:=w.heap[b]? =some (.cells cs t (0,0))
section
variable{w w':World}{b:Nat}{t:TypeId}{cs:Array Value}
theorem Whole.lt(h:Whole w b t cs):b<w.heap.size:=by
 rcases Nat.lt_or_ge b w.heap.size with h1|h1
 ·exact h1
 ·unfold Whole at h;rw[Array.getElem?_eq_none h1] at h;cases h
theorem Whole.cell(h:Whole w b t cs)(i:Nat):w.cell? ⟨b,i,none⟩=cs[i]?:=by unfold Whole at h;simp[World.cell?,h]
theorem Whole.thaw(h:Whole w b t cs)(i:Nat):w.frozen? ⟨b,i,none⟩=false:=by unfold Whole at h;simp[World.frozen?,h]
theorem Whole.of(h:Whole w b t cs)(e:w'.heap[b]? =w.heap[b]?):Whole w' b t cs:=e.trans h
theorem Whole.below{B:Nat}(h:Whole w b t cs)(hb:Below B w w')(hl:b<B):Whole w' b t cs:=h.of (hb.block b hl)
theorem Whole.alloc(h:Whole w b t cs)(o:Obj):Whole (w.alloc o) b t cs:=h.of (Below.heap_alloc w o b h.lt)
theorem Whole.grown{row:Option Nat}(h:Whole w b t cs)(hg:w.grownBy w' row)(hr:some b≠row):Whole w' b t cs:=h.of (hg.block b h.lt hr)
theorem Whole.new(w:World)(t:TypeId)(cs:Array Value):Whole (w.alloc (.cells cs t)) w.heap.size t cs:=heap_alloc_new w _
theorem Whole.set(h:Whole w b t cs)(i:Nat)(v:Value):Whole (w.setCell ⟨b,i,none⟩ v) b t (cs.setIfInBounds i v):=by
 unfold Whole at h⊢
 simp[World.setCell,Array.getElem?_modify,h]
theorem Whole.other(h:Whole w b t cs){p:Addr}(hp:b≠p.block)(v:Value):Whole (w.setCell p v) b t cs:=h.of (Below.heap_setCell w p v b hp)
end
theorem pq(w:World)(base:Nat)(e:TypeId):w.ownsRow base e 1 (.slice none 0 0) ([]:List Int).length (([]:List Int).map (int i64)):=⟨rfl,.inl ⟨rfl,rfl⟩⟩
theorem iq{w:World}{base:Nat}{e:TypeId}{size n:Nat}{v:Value}{xs:List Value}(h:w.ownsRow base e size v n xs):∃A m c,v=.slice A m c:=by
 rcases h.2 with⟨rfl,_⟩|⟨g,cap,cur,rfl,_⟩
 ·exact⟨_,_,_,rfl⟩
 ·exact⟨_,_,_,rfl⟩
theorem fZ{w:World}{base:Nat}{e:TypeId}{size n:Nat}{v:Value}{xs:List Value}(h:w.ownsRow base e size v n xs):∃A c,v=.slice A n c:=by
 rcases h.2 with⟨rfl,rfl⟩|⟨g,cap,cur,rfl,_⟩
 ·exact⟨_,_,rfl⟩
 ·exact⟨_,_,rfl⟩
theorem YR{w:World}{base:Nat}{e:TypeId}{size n:Nat}{v:Value}{xs:List Value}(h:w.ownsRow base e size v n xs):n≤maxLen:=by
 rcases h.2 with⟨rfl,rfl⟩|⟨g,cap,cur,rfl,_,_,h1,h2,_⟩
 ·exact Nat.zero_le _
 ·omega
theorem iw{w w':World}{base:Nat}{e:TypeId}{size n:Nat}{v:Value}{xs:List Value}(h:w.ownsRow base e size v n xs)(hk:∀g,v.ownBlock=some g→g<w.heap.size→w'.heap[g]? =w.heap[g]?):w'.ownsRow base e size v n xs:=by
 refine⟨h.1,?_⟩
 rcases h.2 with h0|⟨g,cap,cur,rfl,h1,h2,h3⟩
 ·exact .inl h0
 ·refine .inr ⟨g,cap,cur,rfl,h1,?_,h3⟩
  have hl:g<w.heap.size:=by
   rcases Nat.lt_or_ge g w.heap.size with x|x
   ·exact x
   ·rw[Array.getElem?_eq_none x] at h2;cases h2
  exact(hk g rfl hl).trans h2
theorem bL{w:World}{base:Nat}{e:TypeId}{size n:Nat}{v:Value}{xs:List Value}(h:w.ownsRow base e size v n xs){g:Nat}(hg:v.ownBlock=some g):base≤g∧g<w.heap.size:=by
 rcases h.2 with⟨rfl,_⟩|⟨g',cap,cur,rfl,h1,h2,h3⟩
 ·cases hg
 ·cases hg
  refine⟨h1,?_⟩
  rcases Nat.lt_or_ge g' w.heap.size with x|x
  ·exact x
  ·rw[Array.getElem?_eq_none x] at h2;cases h2
theorem own_below{w w':World}{base:Nat}{e:TypeId}{size n:Nat}{v:Value}{xs:List Value}(h:w.ownsRow base e size v n xs)(hb:Below w.heap.size w w'):w'.ownsRow base e size v n xs:=iw h fun g _ hl=>hb.block g hl
theorem bD{w:World}{base:Nat}{e:TypeId}{size n:Nat}{v:Value}{xs:List Value}(h:w.ownsRow base e size v n xs)(o:Obj):(w.alloc o).ownsRow base e size v n xs:=iw h fun g _ hl=>Below.heap_alloc w o g hl
theorem bS{w:World}{base:Nat}{e:TypeId}{size n:Nat}{v:Value}{xs:List Value}(h:w.ownsRow base e size v n xs){p:Addr}(hp:p.block<base)(u:Value):(w.setCell p u).ownsRow base e size v n xs:=iw h fun g hg _=>Below.heap_setCell w p u g (by have:=bL h hg;omega)
theorem oZ{w w':World}{base:Nat}{e:TypeId}{size n:Nat}{v:Value}{xs:List Value}(h:w.ownsRow base e size v n xs){row:Option Nat}(hg:w.grownBy w' row)(hr:∀g,v.ownBlock=some g→some g≠row):w'.ownsRow base e size v n xs:=iw h fun g he hl=>hg.block g hl (hr g he)
theorem below_grown{w w':World}{B:Nat}{row:Option Nat}(hg:w.grownBy w' row)(hB:B≤w.heap.size)(hr:∀g,row=some g→B≤g):Below B w w':=(Below.refl B w).grown hg hB hr
structure Good where
 name:ByteArray
 cost:Int
 pack:Int
 lo:Int
 hi:Int
def Good.cell(g:Good):Nat→Value
 | 0=>.string g.name
 | 1=>int i64 g.cost
 | 2=>int i64 g.pack
 | 3=>int i64 g.lo
 | _=>int i64 g.hi
structure Mv where
 kind:Int
 good:Int
 day:Int
 lo:Int
 hi:Int
def Mv.cell(g:Mv):Nat→Value
 | 0=>int i64 g.kind
 | 1=>int i64 g.good
 | 2=>int i64 g.day
 | 3=>int i64 g.lo
 | _=>int i64 g.hi
structure Ct where
 good:Int
 day:Int
 lo:Int
 hi:Int
def Ct.cell(g:Ct):Nat→Value
 | 0=>int i64 g.good
 | 1=>int i64 g.day
 | 2=>int i64 g.lo
 | _=>int i64 g.hi
structure Bk where
 dY:Int
 mO:Int
 gA:Option Addr
 ng:Nat
 gc:Nat
 g:Nat→Good
 mA:Option Addr
 nm:Nat
 mc:Nat
 m:Nat→Mv
 cA:Option Addr
 nc:Nat
 cc:Nat
 c:Nat→Ct
def Bk.cells(b:Bk):Array Value:=#[int i64 b.dY,int i64 b.mO,.slice b.gA b.ng b.gc,.slice b.mA b.nm b.mc,.slice b.cA b.nc b.cc]
def Bk.val(b:Bk):Value:=.agg b.cells
structure Bk.At(b:Bk)(w:World)(B:Nat):Prop where
 g:Rows w B 5 b.gA b.ng (fun i=>(b.g i).cell)
 m:Rows w B 5 b.mA b.nm (fun i=>(b.m i).cell)
 c:Rows w B 4 b.cA b.nc (fun i=>(b.c i).cell)
 ng:b.ng≤maxLen
 nm:b.nm≤maxLen
 nc:b.nc≤maxLen
 name:∀i,i<b.ng→(b.g i).name.size≤maxLen
section
variable{b:Bk}{w w':World}{B:Nat}
theorem Bk.At.below(h:b.At w B)(hb:Below B w w'):b.At w' B:=⟨h.g.below hb,h.m.below hb,h.c.below hb,h.ng,h.nm,h.nc,h.name⟩
theorem Bk.At.alloc(h:b.At w B)(hB:B≤w.heap.size)(o:Obj):b.At (w.alloc o) B:=⟨h.g.alloc hB o,h.m.alloc hB o,h.c.alloc hB o,h.ng,h.nm,h.nc,h.name⟩
theorem Bk.At.more{B':Nat}(h:b.At w B)(hB:B≤B'):b.At w B':=⟨h.g.more hB,h.m.more hB,h.c.more hB,h.ng,h.nm,h.nc,h.name⟩
end
end
section
open Go
def FF:Fence:={fn:=fun g=>(3≤g∧g<126)∨(130≤g∧g<147)∨(165≤g∧g<181)∨(186≤g∧g<194) }
@[simp] theorem qU(g:FuncId):FF.fn g↔(3≤g∧g<126)∨(130≤g∧g<147)∨(165≤g∧g<181)∨(186≤g∧g<194):=Iff.rfl
@[simp] theorem ue:FF.depth=none:=rfl
@[simp] theorem ui:FF.round=none:=rfl
theorem bM(n:Nat):FF.room n:=fun d h=>by cases h
theorem sH:FF.alive=true:=rfl
def lE(g:Nat):Bool:=(decide (3≤g) && decide (g<126)) || (decide (130≤g) && decide (g<147)) || (decide (165≤g) && decide (g<181)) || (decide (186≤g) && decide (g<194))
theorem Uw{g:Nat}:FF.fn g↔lE g=true:=by
 rw[qU]
 simp only[lE,Bool.or_eq_true,Bool.and_eq_true,decide_eq_true_eq,or_assoc]
end
section
open Go.RowKit
def gK(n lo hi:Int):Bool:=decide (lo≤n) && decide (n≤hi)
theorem bH{n lo hi:Int}:gK n lo hi=true↔lo≤n∧n≤hi:=by simp[gK]
theorem nU(n lo hi:Int)(w:World):
 CallsIn FF 0 prog 40 #[int i64 n,int i64 lo,int i64 hi] w fun e w'=>e=.returned (.bool (gK n lo hi))∧w=w':=by
 gi_enter func40,ntmps40
 gi_wp2
 all_goals (go_ret;refine⟨?_,rfl⟩;congr 2;unfold gK;first|rfl|(simp;omega)|simp_all)
def jH(a b lo hi:Int):Bool:=decide (lo≤a) && decide (a≤b) && decide (b≤hi)
theorem jh{a b lo hi:Int}:jH a b lo hi=true↔(lo≤a∧a≤b)∧b≤hi:=by simp[jH]
theorem rQ(a b lo hi:Int)(w:World):
 CallsIn FF 0 prog 8 #[.agg #[int i64 a,int i64 b],int i64 lo,int i64 hi] w fun e w'=>e=.returned (.bool (jH a b lo hi))∧Below w.heap.size w w':=by
 gi_enter func8,ntmps8
 gi_wp2
 all_goals (go_ret;refine⟨?_,bw⟩;congr 2;unfold jH;first|rfl|(simp;omega)|simp_all)
def sG(a b:Int):Bool:=jH a b 0 99 && decide (b - a<3)
theorem Et(a b:Int)(w:World):
 CallsIn FF 0 prog 85 #[.agg #[int i64 a,int i64 b]] w fun e w'=>e=.returned (.bool (sG a b))∧Below w.heap.size w w':=by
 gi_enter func85,ntmps85
 gi_wp2_with (gi_at_call 8;refine(rQ _ _ _ _ _).mono ?_;rintro e w' ⟨rfl,hb⟩;obtain⟨hc,hf⟩:=fH hb)
 all_goals (go_ret;refine⟨?_,(zB.alloc zL _).trans (hb.mono zs)⟩;congr 2)
 ·have h:jH a b 0 99=true:=zt
  have h':=jh.1 h
  have e:wrap64 (b - a)=b - a:=IntWalk.wrap64_in _ zo
  show Value.bool (decide (wrap64 (b - a)<3))=_
  unfold sG
  rw[h,e]
  rfl
 ·have h:jH a b 0 99=false:=zt
  unfold sG
  rw[h]
  rfl
def EI(c:Int):Bool:=decide (97≤c) && decide (c≤122)
def Kv(c:Int):Bool:=decide (48≤c) && decide (c≤57)
theorem YD(c:Int)(w:World):
 CallsIn FF 0 prog 111 #[.int .u8 c] w fun e w'=>e=.returned (.bool (EI c))∧w=w':=by
 gi_enter func111,ntmps111
 gi_wp2
 all_goals (go_ret;refine⟨?_,rfl⟩;congr 2;unfold EI;first|rfl|(simp;omega)|simp_all)
theorem XT(c:Int)(w:World):
 CallsIn FF 0 prog 112 #[.int .u8 c] w fun e w'=>e=.returned (.bool (Kv c))∧w=w':=by
 gi_enter func112,ntmps112
 gi_wp2
 all_goals (go_ret;refine⟨?_,rfl⟩;congr 2;unfold Kv;first|rfl|(simp;omega)|simp_all)
def nameAt(s:ByteArray)(i:Nat):Bool:=EI ((s[i]?.getD 0).toNat:Int) || (decide (i≠0) && Kv ((s[i]?.getD 0).toNat:Int))
def jU(s:ByteArray):Bool:=decide (1≤s.size) && decide (s.size≤10) && decide (∀i,i<s.size→nameAt s i=true)
theorem DJ{p:Nat→Bool}{k:Nat}(h:∀j,j<k→p j=true)(hk:p k=true):∀j,j<k+1→p j=true:=fun j hj=>by
 rcases Nat.lt_or_ge j k with h1|h1
 ·exact h j h1
 ·obtain rfl:j=k:=zo
  exact hk
theorem Iu{s:ByteArray}(h:s.size<1):jU s=false:=by unfold jU;rw[decide_eq_false zo];rfl
theorem Ll{s:ByteArray}(h:10<s.size):jU s=false:=by unfold jU;rw[decide_eq_false (p:=s.size≤10) zo];simp
theorem P7{s:ByteArray}(h:1≤s.size)(h':s.size≤10)(hN:∀j,j<s.size→nameAt s j=true):jU s=true:=by unfold jU;simp[h,h'];exact hN
theorem lU{s:ByteArray}{k:Nat}(hk:k<s.size):nameAt s k=(EI (s[k].toNat:Int) || (decide (k≠0) && Kv (s[k].toNat:Int))):=by
 unfold nameAt
 have e:s[k]? =some s[k]:=by simp[hk]
 rw[e]
 rfl
theorem Da{s:ByteArray}{k:Nat}(hk:k<s.size)(h:nameAt s k=false):jU s=false:=by
 unfold jU
 rw[decide_eq_false (p:=∀i,i<s.size→nameAt s i=true) (fun hh=>by rw[hh k hk] at h;cases h)];simp
theorem UN(s:ByteArray)(w:World)(hs:s.size≤maxLen):
 CallsIn FF 0 prog 84 #[.string s] w fun e w'=>e=.returned (.bool (jU s))∧w'=w:=by
 unfold maxLen at hs
 gi_enter func84,ntmps84
 gi_wp2
 ·have h:(s.size:Int)<1:=by assumption
  go_ret
  exact⟨by rw[Iu zo];rfl,rfl⟩
 ·have h:10<(s.size:Int):=by assumption
  go_ret
  exact⟨by rw[Ll zo];rfl,rfl⟩
 ·have h:(s.size:Int)≤10:=by assumption
  have h1:1≤(s.size:Int):=by assumption
  gi_loop [3] (fun i=>∃k:Nat,k≤s.size∧i=int i64 k∧Hid (∀j,j<k→nameAt s j=true)) (fun i=>s.size - (intOf i).toNat)
  case atStart=>exact⟨0,Nat.zero_le _,rfl,hid (fun j hj=>absurd hj (Nat.not_lt_zero j))⟩
  case round=>
   obtain⟨k,hk,rfl,hN⟩:=hrel
   by_cases hlt:k<s.size
   ·gi_wp2_with (first|(exact absurd ‹some undef=some (Value.bool _)› (by simp[undef]))|(gi_at_call 111;refine(YD _ _).mono ?_;rintro e w' ⟨rfl,rfl⟩)|(gi_at_call 112;refine(XT _ _).mono ?_;rintro e w' ⟨rfl,rfl⟩))
    ·have hl:EI (s[k].toNat:Int)=false:=zt
     have h0:(k:Int)=0:=by assumption
     go_ret
     exact⟨by rw[Da hlt (by rw[lU hlt,hl,decide_eq_false zo];rfl)];rfl,rfl⟩
    ·have hl:EI (s[k].toNat:Int)=false:=zt
     have hd:(!Kv (s[k].toNat:Int))=true:=zt
     go_ret
     exact⟨by rw[Da hlt (by rw[lU hlt,hl];simp at hd;simp[hd])];rfl,rfl⟩
    ·have hl:EI (s[k].toNat:Int)=false:=zt
     have h0:¬ (k:Int)=0:=by assumption
     have hd:(!Kv (s[k].toNat:Int))=false:=zt
     have hk1:nameAt s k=true:=by rw[lU hlt,hl,decide_eq_true zo];simp at hd;simp[hd]
     go_round
     case rel=>exact⟨k+1,zo,by go_num,hid (DJ hN.out hk1)⟩
     case measure=>simp[intOf];omega
    ·have hl:EI (s[k].toNat:Int)=true:=zt
     have hk1:nameAt s k=true:=by rw[lU hlt,hl];rfl
     go_round
     case rel=>exact⟨k+1,zo,by go_num,hid (DJ hN.out hk1)⟩
     case measure=>simp[intOf];omega
   ·gi_wp2
    go_ret
    exact⟨by rw[P7 zo zo (by obtain rfl:k=s.size:=zo
                             exact hN.out)];rfl,rfl⟩
structure Good.ok(b:Bk)(i:Nat):Prop where
 name:jU (b.g i).name=true
 other:∀j,j<i→(b.g j).name≠(b.g i).name
 cost:0≤(b.g i).cost∧(b.g i).cost≤999
 pack:1≤(b.g i).pack∧(b.g i).pack≤20
 few:sG (b.g i).lo (b.g i).hi=true
def kF(b:Bk):Prop:=(1≤b.ng∧b.ng≤3)∧∀i,i<b.ng→Good.ok b i
def gU(Q:Prop)(w:World)(e:Ending)(w':World):Prop:=∃l:Int,e=.returned (int i64 l)∧(l=0→Q)∧Below w.heap.size w w'
theorem KG(b:Bk)(w:World)(h:¬ (1≤b.ng∧b.ng≤3))(hn:b.ng≤maxLen):CallsIn FF 0 prog 43 #[b.val] w (gU (kF b) w):=by
 unfold Bk.val Bk.cells
 unfold maxLen at hn
 have hI:gK (b.ng:Int) 1 3=false:=by unfold gK;simp;omega
 have H:∀w,CallsIn FF 0 prog 40 #[int i64 b.ng,int i64 1,int i64 3] w fun e w'=>e=.returned (.bool false)∧w=w':=fun w=>by have:=nU b.ng 1 3 w;rwa[hI] at this
 clear hI
 gi_enter func43,ntmps43
 gi_wp2_with (gi_at_call 40;refine(H _).mono ?_;rintro e w' ⟨rfl,rfl⟩)
 go_ret
 exact⟨2,rfl,(fun h=>absurd h zD),bw⟩
theorem KH(b:Bk)(ad:Addr)(w:World)(h:b.At w w.heap.size)(hA:b.gA=some ad)(hn:1≤b.ng∧b.ng≤3):CallsIn FF 0 prog 43 #[b.val] w (gU (kF b) w):=by
 obtain⟨dY,mO,gA,ng,gc,g,mA,nm,mc,m,cA,nc,cc,c⟩:=b
 simp only at hA hn
 subst hA
 obtain⟨hn1,Rw⟩:=hn
 have hI:gK (ng:Int) 1 3=true:=by unfold gK;simp;omega
 have H:∀w,CallsIn FF 0 prog 40 #[int i64 ng,int i64 1,int i64 3] w fun e w'=>e=.returned (.bool true)∧w=w':=fun w=>by have:=nU ng 1 3 w;rwa[hI] at this
 clear hI
 simp only[Bk.val,Bk.cells]
 have Hh:=hid h
 have hg:=h.g
 clear h
 gi_enter func43,ntmps43
 gi_wp2_with (gi_at_call 40;refine(H _).mono ?_;rintro e w' ⟨rfl,rfl⟩)
 gi_loopw [3] (fun i wr=>∃k:Nat,k≤ng∧i=int i64 k∧Below (w.heap.size+1) (w.alloc (.cells #[int i64 dY,int i64 mO,.slice (some ad) ng gc,.slice mA nm mc,.slice cA nc cc] 26)) wr∧Hid (∀i,i<k→Good.ok ⟨dY,mO,some ad,ng,gc,g,mA,nm,mc,m,cA,nc,cc,c⟩ i)) (fun i _=>ng - (intOf i).toNat)
 case atStart=>exact⟨0,Nat.zero_le _,rfl,zB,hid (fun j hj=>absurd hj (Nat.not_lt_zero j))⟩
 case round=>
  obtain⟨k,hk,rfl,hb,hN⟩:=hrel
  have hsz:w.heap.size+1≤wr.heap.size:=by have:=hb.size;simpa using this
  have kY:∀o,wr.cell? ⟨w.heap.size,o,none⟩=(w.alloc (.cells #[int i64 dY,int i64 mO,.slice (some ad) ng gc,.slice mA nm mc,.slice cA nc cc] 26)).cell? ⟨w.heap.size,o,none⟩:=fun o=>hb.cell (p:=⟨w.heap.size,o,none⟩) zs
  by_cases hlt:k<ng
  ·have hr:=(((hg.alloc zL _).more (Nat.le_succ _)).below hb).row hlt
   have c0:wr.cell? (ad.add (k * 5))=some (.string (g k).name):=hr.2 0 zD
   have c1:wr.cell? ⟨(ad.add (k * 5)).block,(ad.add (k * 5)).off+1,none⟩=some (int i64 (g k).cost):=hr.2 1 zD
   have c2:wr.cell? ⟨(ad.add (k * 5)).block,(ad.add (k * 5)).off+2,none⟩=some (int i64 (g k).pack):=hr.2 2 zD
   have c3:wr.cell? ⟨(ad.add (k * 5)).block,(ad.add (k * 5)).off+3,none⟩=some (int i64 (g k).lo):=hr.2 3 zD
   have c4:wr.cell? ⟨(ad.add (k * 5)).block,(ad.add (k * 5)).off+4,none⟩=some (int i64 (g k).hi):=hr.2 4 zD
   clear hr
   have hnm:(g k).name.size≤maxLen:=Hh.out.name k hlt
   gi_wp2_with (gi_at_call 84;refine(UN _ _ hnm).mono ?_;rintro e w' ⟨rfl,rfl⟩)
   ·have hbad:(!jU (g k).name)=true:=zt
    go_ret
    exact⟨4,rfl,(fun h=>absurd h zD),(((zB.alloc zL _).trans (hb.mono zs))).trans (bw)⟩
   ·have hname:(!jU (g k).name)=false:=zt
    obtain⟨wo,rfl⟩:∃wo:World,wo=wr:=zE
    gi_loopw [5] (fun j wj=>∃q:Nat,q≤k∧j=int i64 q∧Below (wo.heap.size+1) (wo.alloc (.cells #[.string (g k).name,int i64 (g k).cost,int i64 (g k).pack,int i64 (g k).lo,int i64 (g k).hi] 83)) wj∧Hid (∀i,i<q→(g i).name≠(g k).name)) (fun j _=>k - (intOf j).toNat)
    case atStart=>exact⟨0,Nat.zero_le _,rfl,zB,hid (fun j hj=>absurd hj (Nat.not_lt_zero j))⟩
    case round=>
     obtain⟨q,hq,rfl,hbj,hM⟩:=hrel
     have hxj:∀o,wr.cell? ⟨wo.heap.size,o,none⟩=(wo.alloc (.cells #[.string (g k).name,int i64 (g k).cost,int i64 (g k).pack,int i64 (g k).lo,int i64 (g k).hi] 83)).cell? ⟨wo.heap.size,o,none⟩:=fun o=>hbj.cell (p:=⟨wo.heap.size,o,none⟩) zs
     have Ud:∀o,wr.cell? ⟨w.heap.size,o,none⟩=(w.alloc (.cells #[int i64 dY,int i64 mO,.slice (some ad) ng gc,.slice mA nm mc,.slice cA nc cc] 26)).cell? ⟨w.heap.size,o,none⟩:=fun o=>((hbj.cell (p:=⟨w.heap.size,o,none⟩) zm).trans (World.cell?_alloc_lt wo _ _ zm)).trans (kY o)
     clear kY
     have hB:Below w.heap.size w wr:=((zB.alloc zL _).trans (hb.mono zs)).trans ((zB.alloc zo _).trans (hbj.mono zo))
     have hsz2:wo.heap.size+1≤wr.heap.size:=by have:=hbj.size;simpa using this
     by_cases hq2:q<k
     ·have hr:=((((hg.alloc zL _).more (Nat.le_succ _)).below hb).more hsz).alloc zL (.cells #[.string (g k).name,int i64 (g k).cost,int i64 (g k).pack,int i64 (g k).lo,int i64 (g k).hi] 83)
      have d0:wr.cell? (ad.add (q * 5))=some (.string (g q).name):=((hr.more (Nat.le_succ _)).below hbj |>.row (show q<ng by omega)).2 0 zD
      clear hr
      clear c0 c1 c2 c3 c4
      gi_wp2
      gi_quiet (fail)
      gi_wp2
      ·go_ret
       exact⟨5,rfl,(fun h=>absurd h zD),below_drewN hB _⟩
      ·have hne:((g q).name.toList == (g k).name.toList)=false:=zt
       go_roundw
       case rel=>exact⟨q+1,zo,by go_num,below_drewN hbj _,hid (eY hM.out (Iw hne))⟩
       case measure=>simp[intOf];omega
     ·obtain rfl:q=k:=zo
      gi_wp2_with (first|(exact absurd ‹some undef=some (Value.bool _)› (by simp[undef]))|(gi_at_call 40;refine(nU _ _ _ _).mono ?_;rintro e w' ⟨rfl,rfl⟩)|(gi_at_call 85;refine(Et _ _ _).mono ?_;rintro e w' ⟨rfl,hbf⟩;obtain⟨hcf,xi⟩:=fH hbf))
      ·go_ret
       exact⟨1,rfl,(fun h=>absurd h zD),hB⟩
      ·go_ret
       exact⟨1,rfl,(fun h=>absurd h zD),hB⟩
      ·go_ret
       exact⟨1,rfl,(fun h=>absurd h zD),hB.trans (hbf.mono zo)⟩
      ·have h1:gK (g q).cost 0 999=true:=zt
       have h2:gK (g q).pack 1 20=true:=zt
       have h3:(!sG (g q).lo (g q).hi)=false:=zt
       go_roundw
       case rel=>exact⟨q+1,zo,by go_num,(hb.trans ((zB.alloc zo _).trans (hbj.mono zo))).trans (hbf.mono zo),hid (eY hN.out ⟨by simpa using hname,hM.out,bH.1 h1,bH.1 h2,by simpa using h3⟩)⟩
       case measure=>simp[intOf];omega
  ·obtain rfl:k=ng:=zo
   gi_wp2_with fail
   go_ret
   exact⟨0,rfl,(fun _=>⟨⟨hn1,Rw⟩,hN.out⟩),((zB.alloc zL _).trans (hb.mono zs))⟩
theorem Pp(b:Bk)(w:World)(h:b.At w w.heap.size):CallsIn FF 0 prog 43 #[b.val] w (gU (kF b) w):=by
 by_cases hn:1≤b.ng∧b.ng≤3
 ·obtain⟨ad,hA,_⟩:=h.g zo
  exact KH b ad w h hA hn
 ·exact KG b w hn h.ng
structure Mv.ok(b:Bk)(i:Nat):Prop where
 kind:0≤(b.m i).kind∧(b.m i).kind≤4
 good:0≤(b.m i).good∧(b.m i).good≤(b.ng:Int) - 1
 day:1≤(b.m i).day∧(b.m i).day≤b.dY
 order:0<i→(b.m (i - 1)).day≤(b.m i).day
 few:sG (b.m i).lo (b.m i).hi=true
def kH(b:Bk):Prop:=b.nm≤6∧∀i,i<b.nm→Mv.ok b i
theorem Li(b:Bk)(w:World)(h0:b.nm=0)(hn:b.ng≤maxLen):CallsIn FF 0 prog 44 #[b.val] w (gU (kH b) w):=by
 obtain⟨dY,mO,gA,ng,gc,g,mA,nm,mc,m,cA,nc,cc,c⟩:=b
 simp only at h0 hn
 subst h0
 simp only[Bk.val,Bk.cells]
 unfold maxLen at hn
 gi_enter func44,ntmps44
 gi_wp2
 refine wpIn_loop_rounds 1 ?_
 rw[roundsIn_succ]
 gi_wp2
 go_ret
 exact⟨0,rfl,(fun _=>⟨zs,fun i hi=>absurd hi (Nat.not_lt_zero i)⟩),bw⟩
theorem Lj(b:Bk)(ad:Addr)(w:World)(h:b.At w w.heap.size)(hA:b.mA=some ad)(hd:-9223372036854775808≤b.dY∧b.dY≤9223372036854775807):CallsIn FF 0 prog 44 #[b.val] w (gU (kH b) w):=by
 obtain⟨dY,mO,gA,ng,gc,g,mA,nm,mc,m,cA,nc,cc,c⟩:=b
 simp only at hA hd
 subst hA
 obtain⟨hd1,hd2⟩:=hd
 simp only[Bk.val,Bk.cells]
 have Hh:=hid h
 have hm:=h.m
 have hn:=h.ng
 have hnm:=h.nm
 simp only at hm hn hnm
 unfold maxLen at hn hnm
 clear h
 gi_enter func44,ntmps44
 gi_wp2
 ·go_ret
  exact⟨2,rfl,(fun h=>absurd h zD),bw⟩
 have ye:(nm:Int)≤6:=by assumption
 gi_loopw [3] (fun i wr=>∃k:Nat,k≤nm∧i=int i64 k∧Below (w.heap.size+1) (w.alloc (.cells #[int i64 dY,int i64 mO,.slice gA ng gc,.slice (some ad) nm mc,.slice cA nc cc] 26)) wr∧Hid (∀i,i<k→Mv.ok ⟨dY,mO,gA,ng,gc,g,some ad,nm,mc,m,cA,nc,cc,c⟩ i)) (fun i _=>nm - (intOf i).toNat)
 case atStart=>exact⟨0,Nat.zero_le _,rfl,zB,hid (fun j hj=>absurd hj (Nat.not_lt_zero j))⟩
 case round=>
  obtain⟨k,hk,rfl,hb,hN⟩:=hrel
  have hsz:w.heap.size+1≤wr.heap.size:=by have:=hb.size;simpa using this
  have kY:∀o,wr.cell? ⟨w.heap.size,o,none⟩=(w.alloc (.cells #[int i64 dY,int i64 mO,.slice gA ng gc,.slice (some ad) nm mc,.slice cA nc cc] 26)).cell? ⟨w.heap.size,o,none⟩:=fun o=>hb.cell (p:=⟨w.heap.size,o,none⟩) zs
  have hB:Below w.heap.size w wr:=(zB.alloc zL _).trans (hb.mono zs)
  by_cases hlt:k<nm
  ·have hr:=(((hm.alloc zL _).more (Nat.le_succ _)).below hb).row hlt
   have c0:wr.cell? (ad.add (k * 5))=some (int i64 (m k).kind):=hr.2 0 zD
   have c1:wr.cell? ⟨(ad.add (k * 5)).block,(ad.add (k * 5)).off+1,none⟩=some (int i64 (m k).good):=hr.2 1 zD
   have c2:wr.cell? ⟨(ad.add (k * 5)).block,(ad.add (k * 5)).off+2,none⟩=some (int i64 (m k).day):=hr.2 2 zD
   have c3:wr.cell? ⟨(ad.add (k * 5)).block,(ad.add (k * 5)).off+3,none⟩=some (int i64 (m k).lo):=hr.2 3 zD
   have c4:wr.cell? ⟨(ad.add (k * 5)).block,(ad.add (k * 5)).off+4,none⟩=some (int i64 (m k).hi):=hr.2 4 zD
   clear hr
   have Yn:w.heap.size<wr.heap.size:=hsz
   gi_wp2_with (gi_at_call 40;refine(nU _ _ _ _).mono ?_;rintro e w' ⟨rfl,rfl⟩)
   ·go_ret
    exact⟨1,rfl,(fun h=>absurd h zD),hB.trans (bw)⟩
   ·go_ret
    exact⟨1,rfl,(fun h=>absurd h zD),hB.trans (bw)⟩
   ·go_ret
    exact⟨6,rfl,(fun h=>absurd h zD),hB.trans (bw)⟩
   ·go_ret
    exact⟨1,rfl,(fun h=>absurd h zD),hB.trans (bw)⟩
   have k1:(m k).kind≤4:=by assumption
   have k2:0≤(m k).kind:=by assumption
   have k3:(!gK (m k).good 0 ((ng:Int) - 1))=false:=zt
   have k4:(!gK (m k).day 1 dY)=false:=zt
   by_cases hk0:0<k
   ·have hd:decide (0<(k:Int))=true:=zm
    have hr:=(((hm.alloc zL _).more (Nat.le_succ _)).below hb).row (show k - 1<nm by omega)
    have d2:wr.cell? ⟨(ad.add ((k - 1) * 5)).block,(ad.add ((k - 1) * 5)).off+2,none⟩=some (int i64 (m (k - 1)).day):=hr.2 2 zD
    have hl2:(ad.add ((k - 1) * 5)).block<wr.heap.size:=by rw[aH];have:=hr.1;omega
    clear hr c0 c1 c2 c3 c4
    have e2:0≤(k:Int) - 1:=zo
    have e2':1≤(k:Int):=zo
    have e4:(k:Int) - 1<nm:=zo
    have e3:((k:Int) - 1).toNat=k - 1:=zo
    have e1:IntKind.i64.wrap ((k:Int) - 1)=(k:Int) - 1:=IntWalk.i64_in _ zo
    gi_quiet (fail)
    clear e1 e3
    gi_wp2_with (gi_at_call 85;refine(Et _ _ _).mono ?_;rintro e w' ⟨rfl,hbf⟩;obtain⟨hcf,xi⟩:=fH hbf)
    ·go_ret
     exact⟨7,rfl,(fun h=>absurd h zD),hB.trans (bw)⟩
    ·go_ret
     exact⟨1,rfl,(fun h=>absurd h zD),hB.trans ((bw:Below w.heap.size wr _).trans (hbf.mono zm))⟩
    ·have k5:(!sG (m k).lo (m k).hi)=false:=zt
     have k6:(m (k - 1)).day≤(m k).day:=by assumption
     go_roundw
     case rel=>exact⟨k+1,zo,by go_num,hb.trans ((bw:Below (w.heap.size+1) wr _).trans (hbf.mono zm)),hid (eY hN.out ⟨⟨k2,k1⟩,bH.1 (by simpa using k3),bH.1 (by simpa using k4),(fun _=>k6),by simpa using k5⟩)⟩
     case measure=>simp[intOf];omega
   ·have hd:decide (0<(k:Int))=false:=zm
    clear c0 c1 c2 c3 c4
    gi_quiet (fail)
    gi_wp2_with (gi_at_call 85;refine(Et _ _ _).mono ?_;rintro e w' ⟨rfl,hbf⟩;obtain⟨hcf,xi⟩:=fH hbf)
    ·go_ret
     exact⟨1,rfl,(fun h=>absurd h zD),hB.trans ((bw:Below w.heap.size wr _).trans (hbf.mono zm))⟩
    ·have k5:(!sG (m k).lo (m k).hi)=false:=zt
     go_roundw
     case rel=>exact⟨k+1,zo,by go_num,hb.trans ((bw:Below (w.heap.size+1) wr _).trans (hbf.mono zm)),hid (eY hN.out ⟨⟨k2,k1⟩,bH.1 (by simpa using k3),bH.1 (by simpa using k4),(fun h=>absurd h hk0),by simpa using k5⟩)⟩
     case measure=>simp[intOf];omega
  ·obtain rfl:k=nm:=zo
   gi_wp2_with fail
   go_ret
   exact⟨0,rfl,(fun _=>⟨zn,hN.out⟩),hB⟩
theorem P5(b:Bk)(w:World)(h:b.At w w.heap.size)(hd:-9223372036854775808≤b.dY∧b.dY≤9223372036854775807):CallsIn FF 0 prog 44 #[b.val] w (gU (kH b) w):=by
 by_cases hn:b.nm=0
 ·exact Li b w hn h.ng
 ·obtain⟨ad,hA,_⟩:=h.m zo
  exact Lj b ad w h hA hd
structure Ct.ok(b:Bk)(c:Ct):Prop where
 good:0≤c.good∧c.good≤(b.ng:Int) - 1
 day:0≤c.day∧c.day≤b.dY
 many:(0≤c.lo∧c.lo≤c.hi)∧c.hi≤999
theorem OZ(b:Bk)(c:Ct)(w:World)(hn:b.ng≤maxLen):CallsIn FF 0 prog 45 #[b.val,.agg #[int i64 c.good,int i64 c.day,int i64 c.lo,int i64 c.hi]] w (gU (Ct.ok b c) w):=by
 simp only[Bk.val,Bk.cells]
 unfold maxLen at hn
 gi_enter func45,ntmps45
 gi_wp2_with (first|(exact absurd ‹some undef=some (Value.bool _)› (by simp[undef]))|(gi_at_call 40;refine(nU _ _ _ _).mono ?_;rintro e w' ⟨rfl,rfl⟩)|(gi_at_call 8;refine(rQ _ _ _ _ _).mono ?_;rintro e w' ⟨rfl,hbf⟩;obtain⟨hcf,xi⟩:=fH hbf))
 ·go_ret
  exact⟨6,rfl,(fun h=>absurd h zD),bw⟩
 ·go_ret
  exact⟨1,rfl,(fun h=>absurd h zD),bw⟩
 ·go_ret
  exact⟨1,rfl,(fun h=>absurd h zD),(bw:Below w.heap.size w _).trans (hbf.mono zm)⟩
 ·have k1:(!gK c.good 0 ((b.ng:Int) - 1))=false:=zt
  have k2:gK c.day 0 b.dY=true:=zt
  have k3:(!jH c.lo c.hi 0 999)=false:=zt
  go_ret
  exact⟨0,rfl,(fun _=>⟨bH.1 (by simpa using k1),bH.1 k2,jh.1 (by simpa using k3)⟩),(bw:Below w.heap.size w _).trans (hbf.mono zm)⟩
structure Bk.Ok(b:Bk):Prop where
 dY:1≤b.dY∧b.dY≤99
 mO:0≤b.mO∧b.mO≤2
 bX:kF b
 moves:kH b
 counts:b.nc≤4∧∀i,i<b.nc→Ct.ok b (b.c i)
section
variable{dY mO:Int}{gA mA cA:Option Addr}{ng gc nm mc nc cc:Nat}{g:Nat→Good}{m:Nat→Mv}{c:Nat→Ct}
theorem M0(w:World)(h:(⟨dY,mO,gA,ng,gc,g,mA,nm,mc,m,cA,nc,cc,c⟩:Bk).At w w.heap.size):CallsIn FF 0 prog 43 #[.agg #[int i64 dY,int i64 mO,.slice gA ng gc,.slice mA nm mc,.slice cA nc cc]] w (gU (kF ⟨dY,mO,gA,ng,gc,g,mA,nm,mc,m,cA,nc,cc,c⟩) w):=Pp _ w h
theorem Nw(w:World)(h:(⟨dY,mO,gA,ng,gc,g,mA,nm,mc,m,cA,nc,cc,c⟩:Bk).At w w.heap.size)(hd:-9223372036854775808≤dY∧dY≤9223372036854775807):CallsIn FF 0 prog 44 #[.agg #[int i64 dY,int i64 mO,.slice gA ng gc,.slice mA nm mc,.slice cA nc cc]] w (gU (kH ⟨dY,mO,gA,ng,gc,g,mA,nm,mc,m,cA,nc,cc,c⟩) w):=P5 _ w h hd
theorem XR(k:Nat)(w:World)(hn:ng≤maxLen):CallsIn FF 0 prog 45 #[.agg #[int i64 dY,int i64 mO,.slice gA ng gc,.slice mA nm mc,.slice cA nc cc],.agg #[int i64 (c k).good,int i64 (c k).day,int i64 (c k).lo,int i64 (c k).hi]] w (gU (Ct.ok ⟨dY,mO,gA,ng,gc,g,mA,nm,mc,m,cA,nc,cc,c⟩ (c k)) w):=OZ ⟨dY,mO,gA,ng,gc,g,mA,nm,mc,m,cA,nc,cc,c⟩ (c k) w hn
theorem Kk(w:World)(h:(⟨dY,mO,gA,ng,gc,g,mA,nm,mc,m,cA,0,cc,c⟩:Bk).At w w.heap.size)(hd:-9223372036854775808≤dY∧dY≤9223372036854775807):CallsIn FF 0 prog 15 #[.agg #[int i64 dY,int i64 mO,.slice gA ng gc,.slice mA nm mc,.slice cA 0 cc]] w (gU (Bk.Ok ⟨dY,mO,gA,ng,gc,g,mA,nm,mc,m,cA,0,cc,c⟩) w):=by
 have Hh:=hid h
 clear h
 gi_enter func15,ntmps15
 gi_wp2_with (first
  | (gi_at_call 40;refine(nU _ _ _ _).mono ?_;rintro e w' ⟨rfl,rfl⟩)
  | (gi_at_call 43;refine(M0 _ ((Hh.out.alloc zL _).more zs)).mono ?_;rintro e w1 ⟨l1,rfl,hl1,hb1⟩;obtain⟨hc1,hf1⟩:=fH hb1;have hs1:=hb1.size;have H1:=hid (((Hh.out.alloc zL _).more zs).below hb1 |>.more hs1);have L1:=hid hl1;clear hl1;simp at hs1;have hlt1:w.heap.size<w1.heap.size:=hs1)
  | (gi_at_call 44;refine(Nw _ H1.out hd).mono ?_;rintro e w2 ⟨l2,rfl,hl2,hb2⟩;obtain⟨hc2,hf2⟩:=fH hb2;have hs2:=hb2.size;have L2:=hid hl2;clear hl2))
 ·go_ret
  exact⟨1,rfl,(fun h=>absurd h zD),bw⟩
 ·go_ret
  exact⟨1,rfl,(fun h=>absurd h zD),bw⟩
 ·have hne:(l1 != 0)=true:=zt
  go_ret
  exact⟨l1,rfl,(fun h=>by rw[h] at hne;cases hne),(zB.alloc zL _).trans (hb1.mono zs)⟩
 ·have hne:(l2 != 0)=true:=zt
  go_ret
  exact⟨l2,rfl,(fun h=>by rw[h] at hne;cases hne),((zB.alloc zL _).trans (hb1.mono zs)).trans (hb2.mono zo)⟩
 ·have k1:gK dY 1 99=true:=zt
  have k2:(!gK mO 0 2)=false:=zt
  have k3:(l1 != 0)=false:=zt
  have k4:(l2 != 0)=false:=zt
  refine wpIn_loop_rounds 1 ?_
  rw[roundsIn_succ]
  gi_wp2
  go_ret
  exact⟨0,rfl,(fun _=>⟨bH.1 k1,bH.1 (by simpa using k2),L1.out (by simpa using k3),L2.out (by simpa using k4),zs,fun i hi=>absurd hi (Nat.not_lt_zero i)⟩),((zB.alloc zL _).trans (hb1.mono zs)).trans (hb2.mono zo)⟩
theorem Kl(ad:Addr)(w:World)(h:(⟨dY,mO,gA,ng,gc,g,mA,nm,mc,m,some ad,nc,cc,c⟩:Bk).At w w.heap.size)(hd:-9223372036854775808≤dY∧dY≤9223372036854775807):CallsIn FF 0 prog 15 #[.agg #[int i64 dY,int i64 mO,.slice gA ng gc,.slice mA nm mc,.slice (some ad) nc cc]] w (gU (Bk.Ok ⟨dY,mO,gA,ng,gc,g,mA,nm,mc,m,some ad,nc,cc,c⟩) w):=by
 have Hh:=hid h
 have hnc:=h.nc
 simp only at hnc
 unfold maxLen at hnc
 have wm:=h.ng
 clear h
 gi_enter func15,ntmps15
 gi_wp2_with (first
  | (gi_at_call 40;refine(nU _ _ _ _).mono ?_;rintro e w' ⟨rfl,rfl⟩)
  | (gi_at_call 43;refine(M0 _ ((Hh.out.alloc zL _).more zs)).mono ?_;rintro e w1 ⟨l1,rfl,hl1,hb1⟩;obtain⟨hc1,hf1⟩:=fH hb1;have hs1:=hb1.size;have H1:=hid (((Hh.out.alloc zL _).more zs).below hb1 |>.more hs1);have L1:=hid hl1;clear hl1;simp at hs1;have hlt1:w.heap.size<w1.heap.size:=hs1)
  | (gi_at_call 44;refine(Nw _ H1.out hd).mono ?_;rintro e w2 ⟨l2,rfl,hl2,hb2⟩;obtain⟨hc2,hf2⟩:=fH hb2;have hs2:=hb2.size;have L2:=hid hl2;clear hl2))
 ·go_ret
  exact⟨1,rfl,(fun h=>absurd h zD),bw⟩
 ·go_ret
  exact⟨1,rfl,(fun h=>absurd h zD),bw⟩
 ·have hne:(l1 != 0)=true:=zt
  go_ret
  exact⟨l1,rfl,(fun h=>by rw[h] at hne;cases hne),(zB.alloc zL _).trans (hb1.mono zs)⟩
 ·have hne:(l2 != 0)=true:=zt
  go_ret
  exact⟨l2,rfl,(fun h=>by rw[h] at hne;cases hne),((zB.alloc zL _).trans (hb1.mono zs)).trans (hb2.mono zo)⟩
 ·go_ret
  exact⟨2,rfl,(fun h=>absurd h zD),((zB.alloc zL _).trans (hb1.mono zs)).trans (hb2.mono zo)⟩
 have k1:gK dY 1 99=true:=zt
 have k2:(!gK mO 0 2)=false:=zt
 have k3:(l1 != 0)=false:=zt
 have k4:(l2 != 0)=false:=zt
 have k5:(nc:Int)≤4:=by assumption
 have Ud:∀o,w2.cell? ⟨w.heap.size,o,none⟩=(w.alloc (.cells #[int i64 dY,int i64 mO,.slice gA ng gc,.slice mA nm mc,.slice (some ad) nc cc] 26)).cell? ⟨w.heap.size,o,none⟩:=fun o=>(hb2.cell (p:=⟨w.heap.size,o,none⟩) hlt1).trans (hb1.cell (p:=⟨w.heap.size,o,none⟩) zs)
 have hB2:Below w.heap.size w w2:=((zB.alloc zL _).trans (hb1.mono zs)).trans (hb2.mono zo)
 have hsz2:w.heap.size<w2.heap.size:=zo
 have H2:=hid ((H1.out.below hb2).more hs2)
 clear hc1 hf1 hc2 hf2 H1 hb1 hb2 hs1 hs2 hlt1
 simp only[k4]
 gi_loopw [5] (fun i wr=>∃k:Nat,k≤nc∧i=int i64 k∧Below w2.heap.size w2 wr∧Hid (∀i,i<k→Ct.ok ⟨dY,mO,gA,ng,gc,g,mA,nm,mc,m,some ad,nc,cc,c⟩ (c i))) (fun i _=>nc - (intOf i).toNat)
 case atStart=>exact⟨0,Nat.zero_le _,rfl,zB,hid (fun j hj=>absurd hj (Nat.not_lt_zero j))⟩
 case round=>
  obtain⟨k,hk,rfl,hb,hN⟩:=hrel
  have hsz:w.heap.size<wr.heap.size:=by have:=hb.size;omega
  have kY:∀o,wr.cell? ⟨w.heap.size,o,none⟩=(w.alloc (.cells #[int i64 dY,int i64 mO,.slice gA ng gc,.slice mA nm mc,.slice (some ad) nc cc] 26)).cell? ⟨w.heap.size,o,none⟩:=fun o=>(hb.cell (p:=⟨w.heap.size,o,none⟩) hsz2).trans (Ud o)
  by_cases hlt:k<nc
  ·have hr:=((H2.out.below hb).c).row hlt
   have c0:wr.cell? (ad.add (k * 4))=some (int i64 (c k).good):=hr.2 0 zD
   have c1:wr.cell? ⟨(ad.add (k * 4)).block,(ad.add (k * 4)).off+1,none⟩=some (int i64 (c k).day):=hr.2 1 zD
   have c2:wr.cell? ⟨(ad.add (k * 4)).block,(ad.add (k * 4)).off+2,none⟩=some (int i64 (c k).lo):=hr.2 2 zD
   have c3:wr.cell? ⟨(ad.add (k * 4)).block,(ad.add (k * 4)).off+3,none⟩=some (int i64 (c k).hi):=hr.2 3 zD
   clear hr Ud
   gi_wp2
   gi_region_with (gi_at_call 45;refine(XR (g:=g) (m:=m) (c:=c) k _ wm).mono ?_;rintro e w3 ⟨l3,rfl,hl3,hb3⟩;have L3:=hid hl3;clear hl3)
   all_goals gi_wp2
   all_goals first
    | (have hne:(l3 != 0)=true:=by assumption
       go_ret
       exact⟨l3,rfl,(fun h=>by rw[h] at hne;cases hne),hB2.trans ((dD (hb.mono zo)).trans (hb3.mono zm))⟩)
    | (have hz:(l3 != 0)=false:=by assumption
       go_roundw
       case rel=>exact⟨k+1,zo,by go_num,(dD hb).trans (hb3.mono (by have:=hb.size;simpa using this)),hid (eY hN.out (L3.out (by simpa using hz)))⟩
       case measure=>simp[intOf];omega)
  ·obtain rfl:k=nc:=zo
   gi_wp2_with fail
   go_ret
   exact⟨0,rfl,(fun _=>⟨bH.1 k1,bH.1 (by simpa using k2),L1.out (by simpa using k3),L2.out (by simpa using k4),zn,hN.out⟩),hB2.trans (hb.mono zo)⟩
end
theorem OQ(b:Bk)(w:World)(h:b.At w w.heap.size)(hd:-9223372036854775808≤b.dY∧b.dY≤9223372036854775807):CallsIn FF 0 prog 15 #[b.val] w (gU b.Ok w):=by
 obtain⟨dY,mO,gA,ng,gc,g,mA,nm,mc,m,cA,nc,cc,c⟩:=b
 by_cases hn:nc=0
 ·subst hn
  exact Kk w h hd
 ·obtain⟨ad,hA,_⟩:=h.c zn
  simp only at hA
  subst hA
  exact Kl ad w h hd
def F6(Q:Bool→Prop)(w:World)(e:Ending)(w':World):Prop:=∃t:Bool,e=.returned (.bool t)∧Q t∧Below w.heap.size w w'
section
variable{dY mO:Int}{gA mA cA:Option Addr}{ng gc nm mc nc cc:Nat}{g:Nat→Good}{m:Nat→Mv}{c:Nat→Ct}
theorem Pv(w:World)(h:(⟨dY,mO,gA,ng,gc,g,mA,nm,mc,m,cA,nc,cc,c⟩:Bk).At w w.heap.size):CallsIn FF 0 prog 16 #[.agg #[int i64 dY,int i64 mO,.slice gA ng gc,.slice mA nm mc,.slice cA nc cc]] w (F6 (fun _=>True) w):=by
 have Hh:=hid h
 have h1:=h.ng
 have h2:=h.nm
 have h3:=h.nc
 simp only at h1 h2 h3
 unfold maxLen at h1 h2 h3
 clear h
 gi_enter func16,ntmps16
 gi_wp2
 ·go_ret
  exact⟨true,rfl,zT,bw⟩
 ·go_ret
  exact⟨true,rfl,zT,bw⟩
 ·go_ret
  exact⟨true,rfl,zT,bw⟩
 gi_loop [3] (fun i=>∃k:Nat,k≤ng∧i=int i64 k) (fun i=>ng - (intOf i).toNat)
 case atStart=>exact⟨0,Nat.zero_le _,rfl⟩
 case round=>
  obtain⟨k,hk,rfl⟩:=hrel
  by_cases hlt:k<ng
  ·obtain⟨ad,hA,hblk,hc⟩:=Hh.out.g (show 0<ng by omega)
   simp only at hA hc
   subst hA
   have hr:=(Hh.out.g.alloc zL (.cells #[int i64 dY,int i64 mO,.slice (some ad) ng gc,.slice mA nm mc,.slice cA nc cc] 26)).row hlt
   have c0:(w.alloc (.cells #[int i64 dY,int i64 mO,.slice (some ad) ng gc,.slice mA nm mc,.slice cA nc cc] 26)).cell? (ad.add (k * 5))=some (.string (g k).name):=hr.2 0 zD
   have hnm:(g k).name.size≤maxLen:=Hh.out.name k hlt
   unfold maxLen at hnm
   clear hr hc
   gi_wp2
   ·go_ret
    exact⟨true,rfl,zT,bw⟩
   ·go_round
    case rel=>exact⟨k+1,zo,by go_num⟩
    case measure=>simp[intOf];omega
  ·gi_wp2
   go_ret
   exact⟨false,rfl,zT,bw⟩
theorem XK(w:World)(h:(⟨dY,mO,gA,ng,gc,g,mA,nm,mc,m,cA,nc,cc,c⟩:Bk).At w w.heap.size)(hd:-9223372036854775808≤dY∧dY≤9223372036854775807):CallsIn FF 0 prog 15 #[.agg #[int i64 dY,int i64 mO,.slice gA ng gc,.slice mA nm mc,.slice cA nc cc]] w (gU (Bk.Ok ⟨dY,mO,gA,ng,gc,g,mA,nm,mc,m,cA,nc,cc,c⟩) w):=OQ _ w h hd
theorem XY(w:World)(h:(⟨dY,mO,gA,ng,gc,g,mA,nm,mc,m,cA,nc,cc,c⟩:Bk).At w w.heap.size)(hd:-9223372036854775808≤dY∧dY≤9223372036854775807):CallsIn FF 0 prog 5 #[.agg #[int i64 dY,int i64 mO,.slice gA ng gc,.slice mA nm mc,.slice cA nc cc]] w
 (F6 (fun t=>t=true→Bk.Ok ⟨dY,mO,gA,ng,gc,g,mA,nm,mc,m,cA,nc,cc,c⟩) w):=by
 have Hh:=hid h
 clear h
 gi_enter func5,ntmps5
 gi_wp2_with (first
  | (gi_at_call 16;refine(Pv _ ((Hh.out.alloc zL _).more zs)).mono ?_;rintro e w1 ⟨t1,rfl,_,hb1⟩;obtain⟨hc1,hf1⟩:=fH hb1;have hs1:=hb1.size;have H1:=hid (((Hh.out.alloc zL _).more zs).below hb1 |>.more hs1);simp at hs1;have hlt1:w.heap.size<w1.heap.size:=hs1)
  | (gi_at_call 15;refine(XK _ H1.out hd).mono ?_;rintro e w2 ⟨l2,rfl,hl2,hb2⟩;have L2:=hid hl2;clear hl2))
 ·go_ret
  exact⟨_,rfl,(fun h=>L2.out (by simpa using h)),((zB.alloc zL _).trans (hb1.mono zs)).trans (hb2.mono zo)⟩
 ·go_ret
  exact⟨_,rfl,(fun h=>by cases h),((zB.alloc zL _).trans (hb1.mono zs))⟩
end
def Ints(w:World)(B:Nat)(A:Option Addr)(n:Nat)(xs:Nat→Int):Prop:=Rows w B 1 A n (fun i _=>int i64 (xs i))
theorem Ints.at_{w:World}{B n:Nat}{ad:Addr}{xs:Nat→Int}(h:Ints w B (some ad) n xs){k:Nat}(hk:k<n):w.cell? (ad.add k)=some (int i64 (xs k)):=by
 have:=(Rows.row h hk).2 0 zD
 rwa[Nat.mul_one,add_zero'] at this
def hasB(n:Nat)(xs:Nat→Int)(v:Int):Bool:=decide (∃i,i<n∧xs i=v)
theorem Yh(A:Option Addr)(n cap:Nat)(xs:Nat→Int)(v:Int)(B:Nat)(w:World)(h:Ints w B A n xs)(hn:n≤maxLen):
 CallsIn FF 0 prog 82 #[.slice A n cap,int i64 v] w fun e w'=>e=.returned (.bool (hasB n xs v))∧w=w':=by
 have Hh:=hid h
 clear h
 unfold maxLen at hn
 gi_enter func82,ntmps82
 gi_wp2
 gi_loop [5] (fun i=>∃k:Nat,k≤n∧i=int i64 k∧Hid (∀j,j<k→xs j≠v)) (fun i=>n - (intOf i).toNat)
 case atStart=>exact⟨0,Nat.zero_le _,rfl,hid (fun j hj=>absurd hj (Nat.not_lt_zero j))⟩
 case round=>
  obtain⟨k,hk,rfl,hN⟩:=hrel
  by_cases hlt:k<n
  ·obtain⟨ad,hA,-⟩:=Hh.out (show 0<n by omega)
   subst hA
   have c0:=Ints.at_ Hh.out hlt
   gi_wp2
   ·have he':(xs k == v)=true:=zt
    have he:xs k=v:=by simpa using he'
    go_ret
    exact⟨by rw[show hasB n xs v=true from decide_eq_true ⟨k,hlt,he⟩];rfl,rfl⟩
   ·have he':(xs k == v)=false:=zt
    have he:¬ xs k=v:=by simpa using he'
    go_round
    case rel=>exact⟨k+1,zo,by go_num,hid (eY hN.out he)⟩
    case measure=>simp[intOf];omega
  ·obtain rfl:k=n:=zo
   gi_wp2
   go_ret
   exact⟨by rw[show hasB k xs v=false from decide_eq_false (fun⟨i,hi,e⟩=>hN.out i hi e)];rfl,rfl⟩
theorem Vr(A A':Option Addr)(n cap cap':Nat)(xs:Nat→Int)(B:Nat)(w:World)(h:Ints w B A n xs)(h':Ints w B A' n xs)(hn:n≤maxLen):
 CallsIn FF 0 prog 72 #[.slice A n cap,.slice A' n cap'] w fun e w'=>e=.returned (.bool true)∧∃q,w'=w.drewN q:=by
 have Hh:=hid h
 have tp:=hid h'
 clear h h'
 unfold maxLen at hn
 gi_enter func72,ntmps72
 gi_wp2
 gi_loopw [5] (fun i wr=>∃k q:Nat,k≤n∧i=int i64 k∧wr=w.drewN q) (fun i _=>n - (intOf i).toNat)
 case atStart=>exact⟨0,0,Nat.zero_le _,rfl,rfl⟩
 case round=>
  obtain⟨k,q,hk,rfl,rfl⟩:=hrel
  by_cases hlt:k<n
  ·obtain⟨ad,hA,-⟩:=Hh.out (show 0<n by omega)
   obtain⟨OS,hA',-⟩:=tp.out (show 0<n by omega)
   subst hA
   subst hA'
   have c0:=Ints.at_ Hh.out hlt
   have c0':=Ints.at_ tp.out hlt
   gi_wp2
   gi_quiet (fail)
   gi_wp2
   go_roundw
   case rel=>exact⟨k+1,_,zo,by go_num,rfl⟩
   case measure=>simp[intOf];omega
  ·obtain rfl:k=n:=zo
   gi_wp2
   go_ret
   exact⟨rfl,q,rfl⟩
def Lists(w:World)(B:Nat)(A:Option Addr)(n:Nat)(P:Nat→Option Addr)(len cap:Nat→Nat):Prop:=Rows w B 1 A n (fun i _=>.slice (P i) (len i) (cap i))
theorem Lists.at_{w:World}{B n:Nat}{ad:Addr}{P:Nat→Option Addr}{len cap:Nat→Nat}(h:Lists w B (some ad) n P len cap){k:Nat}(hk:k<n):w.cell? (ad.add k)=some (.slice (P k) (len k) (cap k)):=by
 have:=(Rows.row h hk).2 0 zD
 rwa[Nat.mul_one,add_zero'] at this
theorem Ql(A A':Option Addr)(n cap cap':Nat)(P P':Nat→Option Addr)(len c1 c2:Nat→Nat)(xs:Nat→Nat→Int)(B:Nat)(w:World)(h:Lists w B A n P len c1)(h':Lists w B A' n P' len c2)(hn:n≤maxLen)
 (hx:∀i,i<n→Ints w B (P i) (len i) (xs i))(hx':∀i,i<n→Ints w B (P' i) (len i) (xs i))(hl:∀i,i<n→len i≤maxLen):
 CallsIn FF 0 prog 30 #[.slice A n cap,.slice A' n cap'] w fun e w'=>e=.returned (.bool true)∧∃q,w'=w.drewN q:=by
 have Hh:=hid h
 have tp:=hid h'
 have Hx:=hid hx
 have Hx':=hid hx'
 have Hl:=hid hl
 clear h h' hx hx' hl
 unfold maxLen at hn
 gi_enter func30,ntmps30
 gi_wp2
 gi_loopw [5] (fun i wr=>∃k:Nat,k≤n∧i=int i64 k∧Hid (∃q,wr=w.drewN q)) (fun i _=>n - (intOf i).toNat)
 case atStart=>exact⟨0,Nat.zero_le _,rfl,hid ⟨0,rfl⟩⟩
 case round=>
  obtain⟨k,hk,rfl,hq⟩:=hrel
  have hcl:∀p,wr.cell? p=w.cell? p:=fun p=>by obtain⟨q,rfl⟩:=hq.out;rfl
  by_cases hlt:k<n
  ·obtain⟨ad,hA,-⟩:=Hh.out (show 0<n by omega)
   obtain⟨OS,hA',-⟩:=tp.out (show 0<n by omega)
   subst hA
   subst hA'
   have c0:=(hcl _).trans (Lists.at_ Hh.out hlt)
   have c0':=(hcl _).trans (Lists.at_ tp.out hlt)
   have hS:∀q2,CallsIn FF 0 prog 72 #[.slice (P k) (len k) (c1 k),.slice (P' k) (len k) (c2 k)] (wr.drewN q2) fun e w2=>e=.returned (.bool true)∧∃m,w2=(wr.drewN q2).drewN m:=fun q2=>
    Vr _ _ _ _ _ _ B _ ((Hx.out k hlt).keep fun p _=>hcl p) ((Hx'.out k hlt).keep fun p _=>hcl p) (Hl.out k hlt)
   clear hcl
   gi_wp2
   gi_quiet ((gi_at_call 72;exact CallsIn.quiet_of (hS _)))
   gi_wp2
   go_roundw
   case rel=>exact⟨k+1,zo,by go_num,hid (by obtain⟨q,rfl⟩:=hq.out;exact⟨_,World.drewN_drewN _ _ _⟩)⟩
   case measure=>simp[intOf];omega
  ·obtain rfl:k=n:=zo
   gi_wp2
   go_ret
   exact⟨rfl,hq.out⟩
end
section
open Go
section
variable{P:Program}{ops:Array Oper}{Q:Exit→Act→World→Prop}{md:Region.Mode}{S:World→Prop}{L:Nat}
def waits(md:Region.Mode)(ops:Array Oper)(L i:Nat):Bool:=match ops[L]? with
 | some o=>o.after.any fun e=>Region.binds md e && e.on == i
 | none=>false
theorem qZ{i:Nat}{listed:Array Bool}(h:waits md ops L i=true)(hi:listed.getD i true=false):L∉Region.ready md ops listed:=fun hr=>by
 obtain⟨_,o,ho,hall⟩:=mem_ready.1 hr
 unfold waits at h
 rw[ho] at h
 obtain⟨k,hk,he⟩:=Array.any_eq_true.1 h
 simp only[Bool.and_eq_true,beq_iff_eq] at he
 have:=hall _ (Array.getElem_mem hk) he.1
 rw[he.2] at this
 rcases Nat.lt_or_ge i listed.size with h'|h'
 ·simp[h'] at hi this;rw[hi] at this;cases this
 ·simp[Array.getElem?_eq_none h'] at this
end
section
variable{F:Fence}{n:Nat}{P:Program}{ops:Array Oper}{Q:Exit→Act→World→Prop}{md:Region.Mode}{S:World→Prop}{L:Nat}
structure bN(P:Program)(ops:Array Oper)(S:World→Prop)(o:Oper)(v:Value)(a:Act):Prop where
 y:YieldsIf P ops S o v a
 quiet:∀w,o.about P w a.eval=none
theorem bN.wpOpIn{i:Nat}{o:Oper}{v:Value}{a:Act}(hro:F.round=none)(hi:ops[i]? =some o)(hy:bN P ops S o v a){K:Act→World→Prop}{w:World}(hS:S w)(h:K (a.put o.dst v) w):wpOpIn F n P ops Q i K a w:=by
 have hab:∀f,o.about P w a.eval=some f→F.fn f:=fun f hf=>by rw[hy.quiet w] at hf;cases hf
 unfold Go.wpOpIn
 simp only[hi]
 rcases hy.y with⟨hw,hv⟩|⟨hw,rfl⟩
 ·rw[if_pos hw]
  refine⟨hab,?_⟩
  rw[hro,Oper.semAt_none,hv w hS]
  exact h
 ·rw[if_neg (by rw[hw];simp)]
  exact⟨hab,h⟩
theorem Rh{o:Oper}{r:Result Next}{a b:Act}{K K':Act→World→Prop}(hv:∀u w,K (b.put o.dst u) w→K' (a.put o.dst u) w)(hd:∀d w,K (Act.put {b with defers:=d :: b.defers } o.dst undef) w→K' (Act.put {a with defers:=d :: a.defers } o.dst undef) w)
 (hQ:∀c w,Q (.panic c) b w→Q (.panic c) a w)(h:o.uponIn F n P b K Q r):o.uponIn F n P a K' Q r:=by
 have both:∀e w,(match (e:Ending),(w:World) with
  | .returned v,w=>K (b.put o.dst v) w
  | .panicked c,w=>Q (.panic c) b w
  | .outgrown,_=>LetsOut Q)→(match e,w with
  | .returned v,w=>K' (a.put o.dst v) w
  | .panicked c,w=>Q (.panic c) a w
  | .outgrown,_=>LetsOut Q):=fun e w h=>by
  cases e with
  | returned v=>exact hv v w h
  | panicked c=>exact hQ c w h
  | outgrown=>exact h
 cases r with
 | halt x w=>
   cases x with
   | panic v=>exact hQ _ w h
   | _=>exact h
 | ok x w=>
   cases x with
   | value v=>exact hv v w h
   | skip=>exact hv undef w h
   | defer d=>exact hd d w h
   | enter f args=>exact⟨h.1,h.2.mono both⟩
   | row r args=>exact⟨h.1,h.2.mono fun v w h=>hv v w h⟩
   | round l f t x y=>exact⟨h.1,h.2.mono both⟩
   | _=>exact h
theorem uf(hro:F.round=none){j:Nat}{oi oj:Oper}{v:Value}(hj:ops[j]? =some oj)(hap:oi.apart ops oj=true)(hsi:∀cs b,oi.op≠.select cs b)(hsj:∀cs b,oj.op≠.select cs b)
 (hQ:∀c a w,Q (.panic c) (a.put oi.dst v) w→Q (.panic c) a w){K:Act→World→Prop}{a:Act}{w:World}(hy:bN P ops S oi v a)(h:wpOpIn F n P ops Q j K (a.put oi.dst v) w):
 wpOpIn F n P ops Q j (fun a' w'=>bN P ops S oi v a'∧K (a'.put oi.dst v) w') a w:=by
 obtain⟨h1,h2,h3⟩:=Oper.apart_spec hap
 have still:∀ (b:Act),bN P ops S oi v b→∀u,bN P ops S oi v (b.put oj.dst u):=fun b hb u=>
  ⟨hb.y.of_same (execOp_put oi hsi b oj.dst u h3) (wanted_put oi b oj.dst u h3),fun w=>(about_put oi w b oj.dst u h3).trans (hb.quiet w)⟩
 unfold wpOpIn at h⊢
 simp only[hj] at h⊢
 rw[wanted_put oj a oi.dst v h1,about_put oj w a oi.dst v h1] at h
 by_cases hw:Region.wanted oj (yielded ops a.tmps)=true
 ·rw[if_pos hw] at h⊢
  obtain⟨h4,h5⟩:=h
  refine⟨by rw[about_put oj w a oi.dst v h1] at h4;exact h4,?_⟩
  rw[hro,Oper.semAt_none] at h5⊢
  rw[execOp_put oj hsj a oi.dst v h1] at h5
  refine Rh (fun u w' hk=>⟨still a hy u,?_⟩) (fun d w' hk=>⟨still {a with defers:=d :: a.defers } ⟨hy.y.of_same rfl rfl,hy.quiet⟩ undef,?_⟩) (fun c w' hq=>hQ c a w' hq) h5
  ·rw[← Act.put_comm a v u h2];exact hk
  ·rw[← Act.put_comm _ v undef h2,← Act.put_defers];exact hk
 ·rw[if_neg hw] at h⊢
  exact⟨h.1,still a hy _,by rw[← Act.put_comm a v undef h2];exact h.2⟩
def bf(F:Fence)(n:Nat)(P:Program)(md:Region.Mode)(ops:Array Oper)(Q:Exit→Act→World→Prop)(S:World→Prop)(L:Nat):Nat→Array Bool→Act→World→Prop
 | 0,listed,a,w=>Region.ready md ops listed=[]∧Q .normal a w
 | fuel+1,listed,a,w=>
   (Region.ready md ops listed=[]→Q .normal a w)∧
   ∀i∈Region.ready md ops listed,wpOpIn F n P ops Q i (fun a' w'=>(i≠L→S w')∧bf F n P md ops Q S L fuel (listed.setIfInBounds i true) a' w') a w
theorem nA:∀ (fuel:Nat) (listed:Array Bool) (a:Act) (w:World),bf F n P md ops Q S L fuel listed a w→wpAnyIn F n P md ops Q fuel listed a w
 | 0,_,_,_,h=>h
 | fuel+1,_,_,_,h=>⟨h.1,fun i hi=>wpOpIn_mono (fun a' w' h'=>nA fuel _ a' w' h'.2) (h.2 i hi)⟩
theorem Aq{i:Nat}{oi:Oper}{v:Value}(hro:F.round=none)(hi:ops[i]? =some oi)(hsel:∀ (j:Nat) (o:Oper) cs b,ops[j]? =some o→o.op≠.select cs b)
 (hQ:∀c a w,Q (.panic c) (a.put oi.dst v) w→Q (.panic c) a w)(hL:waits md ops L i=true):
 ∀ (fuel:Nat) (listed:Array Bool) (a:Act) (w:World),
   (∀j oj,ops[j]? =some oj→j≠i→listed.getD j true=false→(∀e∈oj.after,Region.binds md e=true→e.on≠i)→oi.apart ops oj=true)→
   i∈Region.ready md ops listed→bN P ops S oi v a→S w→
   bf F n P md ops Q S L fuel (listed.setIfInBounds i true) (a.put oi.dst v) w→bf F n P md ops Q S L (fuel+1) listed a w:=by
 intro fuel
 induction fuel with
 | zero=>
   intro listed a w _ hr hy hS H
   refine⟨fun h=>(by rw[h] at hr;cases hr),fun j hj=>?_⟩
   by_cases hji:j=i
   ·subst hji;exact hy.wpOpIn hro hi hS ⟨fun _=>hS,H⟩
   ·have:=ready_mono hj hji
    rw[H.1] at this
    cases this
 | succ fuel ih=>
   intro listed a w hfree hr hy hS H
   refine⟨fun h=>(by rw[h] at hr;cases hr),fun j hj=>?_⟩
   by_cases hji:j=i
   ·subst hji;exact hy.wpOpIn hro hi hS ⟨fun _=>hS,H⟩
   ·have SW:j≠L:=fun e=>qZ hL (mem_ready.1 hr).1 (e ▸ hj)
    have h1:=H.2 j (ready_mono hj hji)
    obtain⟨hjun,oj,hoj,hall⟩:=mem_ready.1 hj
    have hnot:∀e∈oj.after,Region.binds md e=true→e.on≠i:=fun e he hb heq=>by
     have h1:=hall e he hb
     have h0:=(mem_ready.1 hr).1
     rw[heq] at h1
     rcases Nat.lt_or_ge i listed.size with h'|h'
     ·simp[h'] at h0 h1;rw[h0] at h1;cases h1
     ·simp[Array.getElem?_eq_none h'] at h1
    have h2:=uf hro hoj (hfree j oj hoj hji hjun hnot) (fun cs b=>hsel i oi cs b hi) (fun cs b=>hsel j oj cs b hoj) hQ hy h1
    have hfree':∀k ok,ops[k]? =some ok→k≠i→(listed.setIfInBounds j true).getD k true=false→
     (∀e∈ok.after,Region.binds md e=true→e.on≠i)→oi.apart ops ok=true:=fun k ok hk hki hun hno=>by
     refine hfree k ok hk hki ?_ hno
     by_cases hjk:j=k
     ·subst hjk;exact hjun
     ·rw[getD_set_ne true hjk] at hun;exact hun
    refine wpOpIn_mono (fun a' w' h3=>⟨h3.2.1,ih (listed.setIfInBounds j true) a' w' hfree' (ready_mono hr (Ne.symm hji)) h3.1 (h3.2.1 SW) ?_⟩) h2
    rw[Array.setIfInBounds_comm _ _ hji]
    exact h3.2.2
theorem BX{i:Nat}{oi:Oper}{v:Value}{fuel:Nat}{listed:Array Bool}{a:Act}{w:World}(hro:F.round=none)(hi:ops[i]? =some oi)
 (hs:Region.noSelect ops=true)(hf:Region.free md ops listed i=true)(hr:(Region.ready md ops listed).contains i=true)(hL:waits md ops L i=true)
 (hQ:∀c a w,Q (.panic c) (a.put oi.dst v) w→Q (.panic c) a w)(hy:bN P ops S oi v a)(hS:S w)
 (h:bf F n P md ops Q S L fuel (listed.setIfInBounds i true) (a.put oi.dst v) w):bf F n P md ops Q S L (fuel+1) listed a w:=
 Aq hro hi (Region.noSelect_spec hs) hQ hL fuel listed a w (Region.free_spec hi hf) (by simpa using hr) hy hS h
theorem Ar{i:Nat}(d:Option Tmp){oi:Oper}{v:Value}{fuel:Nat}{listed:Array Bool}{a:Act}{w:World}(hro:F.round=none)(hi:ops[i]? =some oi)
 (hs:Region.noSelect ops=true)(hf:Region.free md ops listed i=true)(hr:(Region.ready md ops listed).contains i=true)(hL:waits md ops L i=true)(hd:oi.dst=d)
 (hQ:∀c a w,Q (.panic c) (a.put d v) w→Q (.panic c) a w)(hy:bN P ops S oi v a)(hS:S w)
 (h:bf F n P md ops Q S L fuel (listed.setIfInBounds i true) (a.put d v) w):bf F n P md ops Q S L (fuel+1) listed a w:=by
 subst hd
 exact BX hro hi hs hf hr hL hQ hy hS h
theorem BS{i:Nat}(d:Option Tmp){oi:Oper}{v:Value}{fuel:Nat}{listed:Array Bool}{a:Act}{w:World}(hS:S w)(h:bf F n P md ops Q S L fuel (listed.setIfInBounds i true) (a.put d v) w)
 (hro:F.round=none:=by exact rfl)(hi:ops[i]? =some oi:=by exact rfl)(hs:Region.noSelect ops=true:=by kernel_rfl)(hf:Region.free md ops listed i=true:=by kernel_rfl)
 (hr:(Region.ready md ops listed).contains i=true:=by kernel_rfl)(hL:waits md ops L i=true:=by kernel_rfl)(hd:oi.dst=d:=by rfl)(hQ:∀c a w,Q (.panic c) (a.put d v) w→Q (.panic c) a w:=by exact fun _ _ _ h=>h)
 (hy:bN P ops S oi v a:=by exact⟨Or.inl ⟨zr,by intro wq Re;(try dsimp only at Re);go_simp;all_goals with_reducible rfl⟩,fun _=>rfl⟩):bf F n P md ops Q S L (fuel+1) listed a w:=
 Ar d hro hi hs hf hr hL hd hQ hy hS h
theorem aZ(i:Nat){o:Oper}{fuel:Nat}{listed:Array Bool}{a:Act}{w:World}
 (h:∀K':Act→World→Prop,Shut (∀a w,(i≠L→S w)→bf F n P md ops Q S L fuel (listed.setIfInBounds i true) a w→K' a w)→if Region.wanted o (yielded ops a.tmps)=true then Oper.wpIn F n P o a w K' Q else(∀f,o.about P w a.eval=some f→F.fn f)∧K' (a.put o.dst undef) w)(hr:Region.ready md ops listed=[i]:=by kernel_rfl)(ho:ops[i]? =some o:=by exact rfl):
 bf F n P md ops Q S L (fuel+1) listed a w:=by
 refine⟨(fun h0=>by rw[hr] at h0;cases h0),fun j hj=>?_⟩
 rw[hr] at hj
 obtain rfl:j=i:=by simpa using hj
 exact wpOpIn_step ho fun K' hK=>h K' fun a w hS hW=>hK a w ⟨hS,hW⟩
theorem aG{listed:Array Bool}{a:Act}{w:World}(hr:Region.ready md ops listed=[])(h:Q .normal a w):∀fuel,bf F n P md ops Q S L fuel listed a w
 | 0=>⟨hr,h⟩
 | _+1=>⟨fun _=>h,by rw[hr];simp⟩
theorem iW{id:Nat}{a:Act}{w:World}(L:Nat)(S:World→Prop)(hm:P.follows .mixedOrders=true)
 (h:bf F n P .any ops Q S L ops.size (Array.replicate ops.size false) a w.drew):(Code.region id ops true).wpIn F n P Q a w:=
 wpIn_region_any hm (nA _ _ _ _ h)
theorem ql{o:Oper}{b:Builtin}{args:Array Operand}{ts:Array TypeId}(ho:o.op=.call {callee:=.builtin b,args,argTypes:=ts })(ρ:Operand→Value)(w:World):o.about P w ρ=none:=by
 unfold Oper.about
 rw[ho]
 rfl
theorem Ee{o:Oper}{args:Array Operand}{ts:Array TypeId}(ho:o.op=.call {callee:=.builtin .append,args,argTypes:=ts })(ρ:Operand→Value)(w:World):∀x w',(execOp ρ o).run P w=.ok x w'→∃v,x=.value v:=by
 intro x w' h
 have e:execOp ρ o=(Builtin.append_ ts o.type (args.map ρ)) >>= fun v=>pure (.value v):=by unfold execOp;rw[ho];rfl
 rw[e,Sem.run_bind] at h
 cases hr:(Builtin.append_ ts o.type (args.map ρ)).run P w with
 | ok v w1=>rw[hr] at h;cases h;exact⟨v,rfl⟩
 | halt y w1=>rw[hr] at h;cases h
theorem sJ{o:Oper}{args:Array Operand}{ts:Array TypeId}(hro:F.round=none)(ho:o.op=.call {callee:=.builtin .append,args,argTypes:=ts }){a:Act}{w:World}{K:Act→World→Prop}(h:o.wp P a w K Q):o.wpIn F n P a w K Q:=by
 refine⟨fun f hf=>(by rw[ql ho] at hf;cases hf),?_⟩
 have hv:=Ee (P:=P) ho a.eval w
 unfold Oper.wp at h
 rw[hro,Oper.semAt_none]
 generalize (execOp a.eval o).run P w=r at h hv
 cases r with
 | ok x w'=>
   obtain⟨v,rfl⟩:=hv x w' rfl
   exact h
 | halt x w'=>cases x <;> exact h
theorem wD{o:Oper}{args:Array Operand}{ts:Array TypeId}(hro:F.round=none)(ho:o.op=.call {callee:=.builtin .append,args,argTypes:=ts }){a:Act}{w:World}{K:Act→World→Prop}{E E':Prop}(hg:o.guard=none)
 (h:if Region.wanted o (yielded ops a.tmps)=true then Oper.wp P o a w K Q else E):if Region.wanted o (yielded ops a.tmps)=true then Oper.wpIn F n P o a w K Q else E':=by
 have hw:Region.wanted o (yielded ops a.tmps)=true:=by simp[Region.wanted,hg]
 rw[if_pos hw] at h⊢
 exact sJ hro ho h
theorem aD{o:Oper}{rest:List Oper}{args:Array Operand}{ts:Array TypeId}(hro:F.round=none)(hg:o.guard=none)(ho:o.op=.call {callee:=.builtin .append,args,argTypes:=ts }){a:Act}{w:World}
 (h:∀K:Act→World→Prop,(∀a w,wpListIn F n P ops Q rest a w→K a w)→o.wp P a w K Q):wpListIn F n P ops Q (o :: rest) a w:=
 wpListIn_plain hg fun K hK=>sJ hro ho (h K hK)
end
end
section
open Go.RowKit
def pick(n:Nat)(xs:Nat→Int)(k:Nat):Int:=if k<n then xs k else 0
theorem info3:(Tryz.prog.info? 3).map (fun i=>(i.zero,i.size,i.bytes))=some (some (int i64 0),1,8):=zk
structure wX(b:Bk)(l1 l2 l3:List Int):Prop where
 n1:l1.length=b.ng
 n2:l2.length=b.nm
 b1:∀x∈l1,0≤x∧x≤99
 b2:∀x∈l2,0≤x∧x≤99
 up:l3.Pairwise (· < ·)
 came:∀x∈l3,∃i:Nat,x=i∧i<b.nm∧(b.m i).kind=0
section
variable{w wr w1 w2:World}{bx:Array Value}{v1 v2 v3:Value}{l1 l2 l3:List Int}{x:Int}{o:Obj}{gg cap:Nat}
end
section
variable{dY mO:Int}{gA mA cA:Option Addr}{ng gc nm mc nc cc:Nat}{g:Nat→Good}{m:Nat→Mv}{c:Nat→Ct}
end
end
def PH(b:Bk)(l2:List Int)(g:Nat)(i:Nat):Int:=if (b.m i).good=g then(if (b.m i).kind=0∨(b.m i).kind=4 then l2.getD i 0 else - l2.getD i 0) else 0
open Classical in
noncomputable def wS(b:Bk)(l1 l2 l3:List Int)(g:Nat)(d:Int):Int:=l1.getD g 0+((List.range b.nm).map fun i=>if (b.m i).day≤d∧¬ (i:Int)∈l3 then PH b l2 g i else 0).sum
noncomputable def EH(b:Bk)(l1 l2 l3:List Int)(g:Nat):Int:=wS b l1 l2 l3 g b.dY
noncomputable def Nv(b:Bk)(l1 l2 l3:List Int)(g:Nat):Int:=(List.range (b.dY.toNat+1)).foldl (fun x (d:Nat)=>min x (wS b l1 l2 l3 g d)) (l1.getD g 0)
section
open Classical
noncomputable def kept(l3:List Int)(k:Nat):List Nat:=(List.range k).filter fun i=>decide (¬ (i:Int)∈l3)
noncomputable def Bk.without(b:Bk)(l3:List Int)(mA':Option Addr)(mc':Nat):Bk:={b with mA:=mA',nm:=(kept l3 b.nm).length,mc:=mc',m:=fun j=>b.m ((kept l3 b.nm).getD j 0),cA:=none,nc:=0,cc:=0 }
noncomputable def Ih(l2 l3:List Int)(k:Nat):List Int:=(kept l3 k).map fun i=>l2.getD i 0
end
theorem TS(l:List Int)(v:Int):hasB l.length (fun i=>l.getD i 0) v=true↔v∈l:=by
 unfold hasB
 rw[decide_eq_true_iff]
 constructor
 ·rintro⟨i,hi,rfl⟩
  simp[hi]
 ·intro h
  obtain⟨i,hi,rfl⟩:=List.getElem_of_mem h
  exact⟨i,hi,by simp[hi]⟩
section
open Go
def jl(P:Program)(Stop:List Code→Act→World→Prop)(l:List Code)(a:Act)(w:World):Prop:=
 ∀ (b:Frame) (k:List Item) (cs:List Frame),b.roundOf=none→FF.fn b.fn→∃l' a' w',Stop l' a' w'∧StepsIn (Machine.fenced P FF) P (lone (b.atR a (l.map Item.code ++ k)) cs w) (lone (b.atR a' (l'.map Item.code ++ k)) cs w')
section
variable{P:Program}{Stop:List Code→Act→World→Prop}{l:List Code}{a:Act}{w:World}{x y:Code}
theorem jl.of_steps{l':List Code}{a':Act}{w':World}(hs:∀ (b:Frame) (k:List Item) (cs:List Frame),b.roundOf=none→FF.fn b.fn→StepsIn (Machine.fenced P FF) P (lone (b.atR a (l.map Item.code ++ k)) cs w) (lone (b.atR a' (l'.map Item.code ++ k)) cs w'))
 (h:jl P Stop l' a' w'):jl P Stop l a w:=fun b k cs hb hf=>by
 obtain⟨l2,a2,w2,h1,h2⟩:=h b k cs hb hf
 exact⟨l2,a2,w2,h1,(hs b k cs hb hf).trans h2⟩
theorem jl.cond{c:Operand}{t:Bool}(hc:a.eval c=.bool t)(h:jl P Stop ((if t then x else y) :: l) a w):jl P Stop (.cond c x y :: l) a w:=.of_steps (fun _ _ _ _ hf=>.head (fenced_calm (n:=0) hf (bM _) rfl) (stepR_cond hc) (.refl _)) h
theorem jl.cond_true{c:Operand}(hc:a.eval c=.bool true)(h:jl P Stop (x :: l) a w):jl P Stop (.cond c x y :: l) a w:=.cond hc h
theorem jl.cond_false{c:Operand}(hc:a.eval c=.bool false)(h:jl P Stop (y :: l) a w):jl P Stop (.cond c x y :: l) a w:=.cond hc h
end
section
variable{P:Program}{ops:Array Oper}{Q:Exit→Act→World→Prop}{md:Region.Mode}{S:World→Prop}{E:List Nat}
def before(md:Region.Mode)(ops:Array Oper):Nat→Nat→Nat→Bool
 | 0,_,_=>false
 | n+1,L,i=>match ops[L]? with
   | some o=>o.after.any fun e=>Region.binds md e && (e.on == i || before md ops n e.on i)
   | none=>false
def wY(md:Region.Mode)(ops:Array Oper)(listed:Array Bool):Prop:=∀ (j:Nat) (o:Oper),ops[j]? =some o→listed.getD j false=true→∀e∈o.after,Region.binds md e=true→listed.getD e.on false=true
def EY(md:Region.Mode)(ops:Array Oper)(listed:Array Bool):Bool:=(List.range ops.size).all fun j=>!(listed.getD j false) || (match ops[j]? with|some o=>o.after.all fun e=>!(Region.binds md e) || listed.getD e.on false|none=>true)
theorem Vw{listed:Array Bool}(h:EY md ops listed=true):wY md ops listed:=fun j o ho hj e he hb=>by
 unfold EY at h
 have hj':j<ops.size:=by
  rcases Nat.lt_or_ge j ops.size with h'|h'
  ·exact h'
  ·rw[Array.getElem?_eq_none h'] at ho;cases ho
 have h1:=List.all_eq_true.1 h j (List.mem_range.2 hj')
 rw[hj,ho] at h1
 simp only[Bool.not_true,Bool.false_or] at h1
 obtain⟨k,hk,rfl⟩:=Array.mem_iff_getElem.1 he
 have h2:=Array.all_eq_true.1 h1 k hk
 rw[hb] at h2
 simpa using h2
theorem MW{l:Array Bool}{i j:Nat}(h:l.getD j false=true):(l.setIfInBounds i true).getD j false=true:=by
 by_cases hj:i=j
 ·subst hj
  rcases Nat.lt_or_ge i l.size with h'|h'
  ·simp[h']
  ·simp[Array.getElem?_eq_none h'] at h
 ·rw[getD_set_ne false hj];exact h
theorem wY.set{listed:Array Bool}{j:Nat}(h:wY md ops listed)(hr:j∈Region.ready md ops listed):wY md ops (listed.setIfInBounds j true):=fun k o ho hk e he hb=>by
 obtain⟨_,oj,hoj,hall⟩:=mem_ready.1 hr
 by_cases hjk:j=k
 ·subst hjk
  rw[ho] at hoj
  obtain rfl:o=oj:=by simpa using hoj
  exact MW (hall e he hb)
 ·rw[getD_set_ne false hjk] at hk
  exact MW (h k o ho hk e he hb)
theorem nY{listed:Array Bool}{i:Nat}(hs:listed.size=ops.size)(hc:wY md ops listed)(hi:listed.getD i true=false):
 ∀ (n L:Nat),before md ops n L i=true→∃o,ops[L]? =some o∧∃e∈o.after,Region.binds md e=true∧listed.getD e.on false=false
 | 0,_,h=>by cases h
 | n+1,L,h=>by
   unfold before at h
   cases ho:ops[L]? with
   | none=>rw[ho] at h;cases h
   | some o=>
     rw[ho] at h
     obtain⟨k,hk,he⟩:=Array.any_eq_true.1 h
     simp only[Bool.and_eq_true,Bool.or_eq_true,beq_iff_eq] at he
     refine⟨o,rfl,_,Array.getElem_mem hk,he.1,?_⟩
     rcases he.2 with h1|h1
     ·rw[h1]
      rcases Nat.lt_or_ge i listed.size with h'|h'
      ·simp[h'] at hi⊢;exact hi
      ·simp[Array.getElem?_eq_none h']
     ·obtain⟨o',ho',e',he',hb',hl'⟩:=nY hs hc hi n _ h1
      have hlt:(o.after[k]).on<ops.size:=by
       rcases Nat.lt_or_ge (o.after[k]).on ops.size with h'|h'
       ·exact h'
       ·rw[Array.getElem?_eq_none h'] at ho';cases ho'
      cases hx:listed.getD (o.after[k]).on false with
      | false=>rfl
      | true=>
        have:=hc _ o' ho' hx e' he' hb'
        rw[this] at hl'
        cases hl'
theorem qb{listed:Array Bool}{n L i:Nat}(hs:listed.size=ops.size)(hc:wY md ops listed)(hi:listed.getD i true=false)(h:before md ops n L i=true):L∉Region.ready md ops listed:=fun hr=>by
 obtain⟨o,ho,e,he,hb,hl⟩:=nY hs hc hi n L h
 obtain⟨_,o',ho',hall⟩:=mem_ready.1 hr
 rw[ho] at ho'
 obtain rfl:o=o':=by simpa using ho'
 have:=hall e he hb
 rw[this] at hl
 cases hl
end
section
variable{F:Fence}{n0:Nat}{P:Program}{ops:Array Oper}{Q:Exit→Act→World→Prop}{md:Region.Mode}{S:World→Prop}{E:List Nat}
def dI(F:Fence)(n0:Nat)(P:Program)(md:Region.Mode)(ops:Array Oper)(Q:Exit→Act→World→Prop)(S:World→Prop)(E:List Nat):Nat→Array Bool→Act→World→Prop
 | 0,listed,a,w=>Region.ready md ops listed=[]∧Q .normal a w
 | fuel+1,listed,a,w=>
   (Region.ready md ops listed=[]→Q .normal a w)∧
   ∀i∈Region.ready md ops listed,wpOpIn F n0 P ops Q i (fun a' w'=>(i∉E→S w')∧dI F n0 P md ops Q S E fuel (listed.setIfInBounds i true) a' w') a w
theorem tY:∀ (fuel:Nat) (listed:Array Bool) (a:Act) (w:World),dI F n0 P md ops Q S E fuel listed a w→wpAnyIn F n0 P md ops Q fuel listed a w
 | 0,_,_,_,h=>h
 | fuel+1,_,_,_,h=>⟨h.1,fun i hi=>wpOpIn_mono (fun a' w' h'=>tY fuel _ a' w' h'.2) (h.2 i hi)⟩
theorem Au{i n:Nat}{oi:Oper}{v:Value}(hro:F.round=none)(hi:ops[i]? =some oi)(hsel:∀ (j:Nat) (o:Oper) cs b,ops[j]? =some o→o.op≠.select cs b)
 (hQ:∀c a w,Q (.panic c) (a.put oi.dst v) w→Q (.panic c) a w)(hL:∀L∈E,before md ops n L i=true):
 ∀ (fuel:Nat) (listed:Array Bool) (a:Act) (w:World),listed.size=ops.size→wY md ops listed→
   (∀j oj,ops[j]? =some oj→j≠i→listed.getD j true=false→(∀e∈oj.after,Region.binds md e=true→e.on≠i)→oi.apart ops oj=true)→
   i∈Region.ready md ops listed→bN P ops S oi v a→S w→
   dI F n0 P md ops Q S E fuel (listed.setIfInBounds i true) (a.put oi.dst v) w→dI F n0 P md ops Q S E (fuel+1) listed a w:=by
 intro fuel
 induction fuel with
 | zero=>
   intro listed a w _ _ _ hr hy hS H
   refine⟨fun h=>(by rw[h] at hr;cases hr),fun j hj=>?_⟩
   by_cases hji:j=i
   ·subst hji;exact hy.wpOpIn hro hi hS ⟨fun _=>hS,H⟩
   ·have:=ready_mono hj hji
    rw[H.1] at this
    cases this
 | succ fuel ih=>
   intro listed a w hsz hcl hfree hr hy hS H
   refine⟨fun h=>(by rw[h] at hr;cases hr),fun j hj=>?_⟩
   by_cases hji:j=i
   ·subst hji;exact hy.wpOpIn hro hi hS ⟨fun _=>hS,H⟩
   ·have SW:j∉E:=fun e=>qb hsz hcl (mem_ready.1 hr).1 (hL j e) hj
    have h1:=H.2 j (ready_mono hj hji)
    obtain⟨hjun,oj,hoj,hall⟩:=mem_ready.1 hj
    have hnot:∀e∈oj.after,Region.binds md e=true→e.on≠i:=fun e he hb heq=>by
     have h1:=hall e he hb
     have h0:=(mem_ready.1 hr).1
     rw[heq] at h1
     rcases Nat.lt_or_ge i listed.size with h'|h'
     ·simp[h'] at h0 h1;rw[h0] at h1;cases h1
     ·simp[Array.getElem?_eq_none h'] at h1
    have h2:=uf hro hoj (hfree j oj hoj hji hjun hnot) (fun cs b=>hsel i oi cs b hi) (fun cs b=>hsel j oj cs b hoj) hQ hy h1
    have hfree':∀k ok,ops[k]? =some ok→k≠i→(listed.setIfInBounds j true).getD k true=false→
     (∀e∈ok.after,Region.binds md e=true→e.on≠i)→oi.apart ops ok=true:=fun k ok hk hki hun hno=>by
     refine hfree k ok hk hki ?_ hno
     by_cases hjk:j=k
     ·subst hjk;exact hjun
     ·rw[getD_set_ne true hjk] at hun;exact hun
    refine wpOpIn_mono (fun a' w' h3=>⟨h3.2.1,ih (listed.setIfInBounds j true) a' w' (by simp[hsz]) (hcl.set hj) hfree' (ready_mono hr (Ne.symm hji)) h3.1 (h3.2.1 SW) ?_⟩) h2
    rw[Array.setIfInBounds_comm _ _ hji]
    exact h3.2.2
theorem BZ{i:Nat}(d:Option Tmp){oi:Oper}{v:Value}{fuel:Nat}{listed:Array Bool}{a:Act}{w:World}(hro:F.round=none)(hi:ops[i]? =some oi)
 (hc:(Region.noSelect ops && Region.free md ops listed i && (Region.ready md ops listed).contains i && E.all (fun L=>before md ops 8 L i) && (listed.size == ops.size) && EY md ops listed)=true)(hd:oi.dst=d)
 (hQ:∀c a w,Q (.panic c) (a.put d v) w→Q (.panic c) a w)(hy:bN P ops S oi v a)(hS:S w)
 (h:dI F n0 P md ops Q S E fuel (listed.setIfInBounds i true) (a.put d v) w):dI F n0 P md ops Q S E (fuel+1) listed a w:=by
 subst hd
 simp only[Bool.and_eq_true,beq_iff_eq,List.all_eq_true] at hc
 obtain⟨⟨⟨⟨⟨h1,h2⟩,h3⟩,h4⟩,h5⟩,h6⟩:=hc
 exact Au hro hi (Region.noSelect_spec h1) hQ h4 fuel listed a w h5 (Vw h6) (Region.free_spec hi h2) (by simpa using h3) hy hS h
theorem uS{i:Nat}(d:Option Tmp){oi:Oper}{v:Value}{fuel:Nat}{listed:Array Bool}{a:Act}{w:World}(hS:S w)(h:dI F n0 P md ops Q S E fuel (listed.setIfInBounds i true) (a.put d v) w)
 (hro:F.round=none:=by exact rfl)(hi:ops[i]? =some oi:=by exact rfl)
 (hc:(Region.noSelect ops && Region.free md ops listed i && (Region.ready md ops listed).contains i && E.all (fun L=>before md ops 8 L i) && (listed.size == ops.size) && EY md ops listed)=true:=by kernel_rfl)(hd:oi.dst=d:=by rfl)
 (hQ:∀c a w,Q (.panic c) (a.put d v) w→Q (.panic c) a w:=by exact fun _ _ _ h=>h)(hy:bN P ops S oi v a:=by exact⟨Or.inl ⟨zr,by intro wq Re;(try dsimp only at Re);go_simp;all_goals with_reducible rfl⟩,fun _=>rfl⟩):dI F n0 P md ops Q S E (fuel+1) listed a w:=
 BZ d hro hi hc hd hQ hy hS h
theorem Iz(i:Nat){o:Oper}{fuel:Nat}{listed:Array Bool}{a:Act}{w:World}
 (h:∀K':Act→World→Prop,Shut (∀a w,(i∉E→S w)→dI F n0 P md ops Q S E fuel (listed.setIfInBounds i true) a w→K' a w)→if Region.wanted o (yielded ops a.tmps)=true then Oper.wpIn F n0 P o a w K' Q else(∀f,o.about P w a.eval=some f→F.fn f)∧K' (a.put o.dst undef) w)(hr:Region.ready md ops listed=[i]:=by kernel_rfl)(ho:ops[i]? =some o:=by exact rfl):
 dI F n0 P md ops Q S E (fuel+1) listed a w:=by
 refine⟨(fun h0=>by rw[hr] at h0;cases h0),fun j hj=>?_⟩
 rw[hr] at hj
 obtain rfl:j=i:=by simpa using hj
 exact wpOpIn_step ho fun K' hK=>h K' fun a w hS hW=>hK a w ⟨hS,hW⟩
theorem FJ{i i':Nat}{o o':Oper}{fuel:Nat}{listed:Array Bool}{a:Act}{w:World}(hr:Region.ready md ops listed=[i,i'])(ho:ops[i]? =some o)(ho':ops[i']? =some o')
 (h:∀K':Act→World→Prop,Shut (∀a w,(i∉E→S w)→dI F n0 P md ops Q S E fuel (listed.setIfInBounds i true) a w→K' a w)→if Region.wanted o (yielded ops a.tmps)=true then Oper.wpIn F n0 P o a w K' Q else(∀f,o.about P w a.eval=some f→F.fn f)∧K' (a.put o.dst undef) w)
 (h':∀K':Act→World→Prop,Shut (∀a w,(i'∉E→S w)→dI F n0 P md ops Q S E fuel (listed.setIfInBounds i' true) a w→K' a w)→if Region.wanted o' (yielded ops a.tmps)=true then Oper.wpIn F n0 P o' a w K' Q else(∀f,o'.about P w a.eval=some f→F.fn f)∧K' (a.put o'.dst undef) w):
 dI F n0 P md ops Q S E (fuel+1) listed a w:=by
 refine⟨(fun h0=>by rw[hr] at h0;cases h0),fun j hj=>?_⟩
 rw[hr] at hj
 simp only[List.mem_cons,List.not_mem_nil,or_false] at hj
 rcases hj with rfl|rfl
 ·exact wpOpIn_step ho fun K' hK=>h K' fun a w hS hW=>hK a w ⟨hS,hW⟩
 ·exact wpOpIn_step ho' fun K' hK=>h' K' fun a w hS hW=>hK a w ⟨hS,hW⟩
theorem lH{listed:Array Bool}{a:Act}{w:World}(hr:Region.ready md ops listed=[])(h:Q .normal a w):∀fuel,dI F n0 P md ops Q S E fuel listed a w
 | 0=>⟨hr,h⟩
 | _+1=>⟨fun _=>h,by rw[hr];simp⟩
theorem qJ{id:Nat}{a:Act}{w:World}(E:List Nat)(S:World→Prop)(hm:P.follows .mixedOrders=true)
 (h:dI F n0 P .any ops Q S E ops.size (Array.replicate ops.size false) a w.drew):(Code.region id ops true).wpIn F n0 P Q a w:=
 wpIn_region_any hm (tY _ _ _ _ h)
end
end
section
open Go.RowKit
def Mv.flat(x:Mv):List Value:=[int i64 x.kind,int i64 x.good,int i64 x.day,int i64 x.lo,int i64 x.hi]
structure uU(b:Bk)(l2 l3:List Int)(X:Nat)(wx wl:World)(vB vM mv:Value)(k1 k2:Nat):Prop where
 box:Whole wl X 26 #[int i64 b.dY,int i64 b.mO,.slice b.gA b.ng b.gc,vB,.slice none 0 0]
 rM:wl.ownsRow (X+1) 39 5 vM (kept l3 k1).length ((kept l3 k1).flatMap fun i=>(b.m i).flat)
 rI:wl.ownsRow (X+1) 3 1 mv (kept l3 k2).length ((Ih l2 l3 k2).map (int i64))
 d:∀g,vM.ownBlock=some g→mv.ownBlock≠some g
 below:Below X wx wl
section
variable{b:Bk}{l2 l3:List Int}{X:Nat}{wx wl w':World}{vB vM mv:Value}{k k1 k2 gg cap:Nat}
theorem uU.alloc(h:uU b l2 l3 X wx wl vB vM mv k1 k2)(o:Obj):uU b l2 l3 X wx (wl.alloc o) vB vM mv k1 k2:=
 ⟨h.box.alloc o,bD h.rM o,bD h.rI o,h.d,h.below.alloc (Nat.le_of_lt h.box.lt) o⟩
theorem uU.start(b:Bk)(l2 l3:List Int){X:Nat}{w1 wx:World}(hb:Below X w1 wx)(kY:Whole wx X 26 #[int i64 b.dY,int i64 b.mO,.slice b.gA b.ng b.gc,.slice none 0 0,.slice none 0 0]):
 uU b l2 l3 X w1 wx (.slice none 0 0) (.slice none 0 0) (.slice none 0 0) 0 0:=
 ⟨kY,⟨by simp[kept],.inl ⟨rfl,by simp[kept]⟩⟩,⟨by simp[kept,Ih],.inl ⟨rfl,by simp[kept]⟩⟩,fun g e=>(by cases e),hb⟩
theorem uU.store(h:uU b l2 l3 X wx wl vB vM mv k1 k2):uU b l2 l3 X wx (wl.setCell ⟨X,3,none⟩ vM) vM vM mv k1 k2:=
 ⟨by simpa using h.box.set 3 vM,bS h.rM (by show X<X+1;omega) _,bS h.rI (by show X<X+1;omega) _,h.d,h.below.setCell (by show X≤X;omega) _⟩
end
def F4(b:Bk)(l1 l2 l3:List Int)(w:World)(e:Ending)(w':World):Prop:=∃A p A' p',e=.returned (.tuple #[.slice A b.ng p,.slice A' b.ng p',int i64 0])∧
 Ints w' w'.heap.size A b.ng (fun i=>EH b l1 l2 l3 i)∧Ints w' w'.heap.size A' b.ng (fun i=>Nv b l1 l2 l3 i)∧Below w.heap.size w w'
def Xy:Prop:=∀ (b:Bk) (l1 l2 l3:List Int) (w:World),b.Ok→b.ng≤b.gc→wX b l1 l2 l3→b.At w w.heap.size→∀ (A1 A2 A3:Option Addr) (p1 p2 p3:Nat),
 Ints w w.heap.size A1 l1.length (fun i=>l1.getD i 0)→Ints w w.heap.size A2 l2.length (fun i=>l2.getD i 0)→Ints w w.heap.size A3 l3.length (fun i=>l3.getD i 0)→
 CallsIn FF 0 prog 18 #[b.val,.slice A1 l1.length p1,.slice A2 l2.length p2,.slice A3 l3.length p3] w (F4 b l1 l2 l3 w)
theorem eG{w:World}{base:Nat}{e:TypeId}{A:Option Addr}{c:Nat}{l:List Int}(h:w.ownsRow base e 1 (.slice A l.length c) l.length (l.map (int i64))):Ints w w.heap.size A l.length (fun i=>l.getD i 0):=fun hn=>by
 obtain⟨g,cap,hv,_,hlt⟩:=h.form hn
 have hA:A=some ⟨g,0,none⟩:=by injection hv
 subst hA
 refine⟨_,rfl,hlt,fun i j hi hj=>?_⟩
 obtain rfl:j=0:=zo
 have:=h.cells (g:=g) rfl i (int i64 (l.getD i 0)) (by simp[hi])
 simpa [Addr.add] using this
theorem Tryz.infoM:(Tryz.prog.info? 39).map (fun i=>(i.zero,i.size,i.bytes))=some (some (.agg #[int i64 0,int i64 0,int i64 0,int i64 0,int i64 0]),5,40):=zk
section
variable{dY mO:Int}{gA mA cA:Option Addr}{ng gc nm mc nc cc:Nat}{g:Nat→Good}{m:Nat→Mv}{c:Nat→Ct}
end
section
variable{dY mO:Int}{gA mA cA:Option Addr}{ng gc nm mc nc cc:Nat}{g:Nat→Good}{m:Nat→Mv}{c:Nat→Ct}
end
end
end Go.Proofs.YtpmafoalhnaokaaGreat
