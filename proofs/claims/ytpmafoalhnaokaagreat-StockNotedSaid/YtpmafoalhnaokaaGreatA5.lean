/- NT2 TN4 TN5 TN6 TK7 HM Qr HN HZ AF0 AD6 NT1 NT3 TN7 -/
import Derived.Test.YtpmafoalhnaokaaGreatA4
import Derived.Deep.Upon
import Derived.Shelf.SlIterI.Sorted
import Derived.Shelf.SortM.AssemblyIn
import Derived.Shelf.SortM.SortNone
import Derived.Ground.GgzProg
import Derived.Ground.SlgmProg
import Derived.Maps.OwnIn
import Derived.Maps.OwnSet
set_option maxRecDepth 100000
set_option maxHeartbeats 16000000
set_option linter.unusedVariables false
set_option linter.unusedSectionVars false
open Go.IntKind(i64)
open Go.Lib(hid)
open Go.Proofs.Tryz
open Go.Value(int)
namespace Go.Proofs.YtpmafoalhnaokaaGreat
section
open Go.RowKit
def Bk.noted(b:Bk)(x:Ct)(G:Option Addr)(gc:Nat)(A:Option Addr)(c:Nat)(C:Option Addr)(cc:Nat):Bk:={b with gA:=G,gc:=gc,mA:=A,mc:=c,cA:=C,cc:=cc,nc:=b.nc+1,c:=fun j=>if j=b.nc then x else b.c j }
section
variable(b:Bk)(x:Ct)(G:Option Addr)(gc:Nat)(A:Option Addr)(c:Nat)(C:Option Addr)(cc:Nat)
theorem vI(s:Nat→Int)(l u:Int)(h:eY (b.noted x G gc A c C cc) s l u=true):eY b s l u=true:=by
 rw[QC] at h⊢
 intro d h1 h2
 obtain⟨k1,k2⟩:=h d h1 h2
 refine⟨k1,fun i hi hd=>?_⟩
 have hi':i<(b.noted x G gc A c C cc).nc:=Nat.lt_succ_of_lt hi
 have e:(b.noted x G gc A c C cc).c i=b.c i:=by show(if i=b.nc then x else b.c i)=b.c i;rw[if_neg zo]
 have:=k2 i hi' (by rw[e];exact hd)
 rwa[e] at this
theorem Dp(h:Ht)(d:Int):∀k,stk (b.noted x G gc A c C cc) h d k=stk b h d k
 | 0=>rfl
 | Nat.succ k=>by
   unfold stk
   rw[Dp h d k]
   rfl
theorem sN:∀k:Nat,aS (b.noted x G gc A c C cc) k=aS b k
 | 0=>rfl
 | Nat.succ k=>by
   unfold aS
   rw[sN k]
   rfl
theorem yE:∀ (n k:Nat) (h:Ht) (s:Nat→Int),(eB (b.noted x G gc A c C cc) n k h s).Sublist (eB b n k h s)
 | 0,k,h,s=>by
   simp only[eB]
   by_cases hr:eY (b.noted x G gc A c C cc) s (iw (b.noted x G gc A c C cc) k) (iq (b.noted x G gc A c C cc) k)=true
   ·rw[if_pos hr,if_pos (show eY b s (iw b k) (iq b k)=true from vI b x G gc A c C cc s _ _ hr)]
    exact List.Sublist.refl _
   ·rw[if_neg hr]
    exact List.nil_sublist _
 | Nat.succ n,k,h,s=>by
   simp only[eB]
   by_cases hr:eY (b.noted x G gc A c C cc) s (iw (b.noted x G gc A c C cc) k) (iq (b.noted x G gc A c C cc) k)=true
   ·rw[if_pos hr,if_pos (show eY b s (iw b k) (iq b k)=true from vI b x G gc A c C cc s _ _ hr)]
    exact Ad (List.Sublist.refl _) fun z _=>yE n (k+1) _ _
   ·rw[if_neg hr]
    exact List.nil_sublist _
theorem Qt:Of (b.noted x G gc A c C cc) b:=by
 refine⟨rfl,rfl,rfl,rfl,?_,Dp b x G gc A c C cc⟩
 unfold aB
 refine Ad (List.Sublist.refl _) fun s _=>?_
 unfold gy
 rw[sN]
 exact Ad (List.Sublist.refl _) fun f _=>yE b x G gc A c C cc _ _ _ _
theorem sO(ok:b.Ok)(hn:b.nc<4)(hx:Ct.ok b x):(b.noted x G gc A c C cc).Ok:=by
 refine⟨ok.dY,ok.mO,⟨ok.bE.1,fun j hj=>?_⟩,⟨ok.moves.1,fun j hj=>?_⟩,hn,fun j hj=>?_⟩
 ·obtain⟨k1,k2,k3,k4,k5⟩:=ok.bE.2 j hj
  exact⟨k1,k2,k3,k4,k5⟩
 ·obtain⟨k1,k2,k3,k4,k5⟩:=ok.moves.2 j hj
  exact⟨k1,k2,k3,k4,k5⟩
 ·show Ct.ok _ (if j=b.nc then x else b.c j)
  have hj':j<b.nc+1:=hj
  by_cases h:j=b.nc
  ·rw[if_pos h]
   exact⟨hx.1,hx.2,hx.3⟩
  ·rw[if_neg h]
   obtain⟨k1,k2,k3⟩:=ok.counts.2 j zo
   exact⟨k1,k2,k3⟩
end
end
section
open Go.RowKit
attribute [local go_sem] Oper.semAt_some
theorem QE(sz:Nat)(f:Nat→Nat→Value)(n:Nat):dH sz f (n+1)=dH sz f n ++ (List.range sz).map (f n):=by unfold dH;rw[List.range_succ,List.flatMap_append];simp
theorem Dn(b:Bk)(x:Ct)(G:Option Addr)(gc:Nat)(A:Option Addr)(c:Nat)(C:Option Addr)(cc:Nat):dH 4 (fun j=>((b.noted x G gc A c C cc).c j).cell) (b.nc+1)=dH 4 (fun j=>(b.c j).cell) b.nc ++ [int i64 x.good,int i64 x.day,int i64 x.lo,int i64 x.hi]:=by
 rw[QE]
 congr 1
 ·refine Mg fun i j hi _=>?_
  show(if i=b.nc then x else b.c i).cell j=_
  rw[if_neg zo]
 ·show(List.range 4).map (if b.nc=b.nc then x else b.c b.nc).cell=_
  rw[if_pos rfl]
  rfl
def jX(b:Bk)(x:Ct):Int:=if b.nc+1≤4 then nR b x else 2
theorem Dl(b:Bk)(x:Ct)(G:Option Addr)(gc:Nat)(A:Option Addr)(c:Nat)(C:Option Addr)(cc:Nat)(ok:b.Ok):(b.noted x G gc A c C cc).But (jX b x):=by
 have o4:=ok.counts.1
 refine⟨ok.dY,ok.mO,⟨ok.bE.1,fun j hj=>?_⟩,⟨ok.moves.1,fun j hj=>?_⟩,?_,fun j hj=>?_,fun h=>if_neg h,fun h _=>?_,fun h=>absurd h (Nat.succ_ne_zero _)⟩
 ·obtain⟨k1,k2,k3,k4,k5⟩:=ok.bE.2 j hj
  exact⟨k1,k2,k3,k4,k5⟩
 ·obtain⟨k1,k2,k3,k4,k5⟩:=ok.moves.2 j hj
  exact⟨k1,k2,k3,k4,k5⟩
 ·show b.nc+1≤6
  omega
 ·have hj':j+1<b.nc+1:=hj
  show Ct.ok _ (if j=b.nc then x else b.c j)
  rw[if_neg zo]
  obtain⟨k1,k2,k3⟩:=ok.counts.2 j zo
  exact⟨k1,k2,k3⟩
 ·show jX b x=nR _ (if b.nc+1 - 1=b.nc then x else b.c (b.nc+1 - 1))
  rw[if_pos zo]
  exact if_pos h
def Bk.nM(b:Bk)(x:Ct):Bool:=(aB (b.noted x none 0 none 0 none 0) (ak (b.noted x none 0 none 0 none 0))).isEmpty
theorem sP(b:Bk)(x:Ct)(G:Option Addr)(gc:Nat)(A:Option Addr)(c:Nat)(C:Option Addr)(cc:Nat):aB (b.noted x G gc A c C cc) (ak (b.noted x G gc A c C cc))=aB (b.noted x none 0 none 0 none 0) (ak (b.noted x none 0 none 0 none 0)):=Yu (b.noted x none 0 none 0 none 0) G gc A c C cc
def Ke(b:Bk)(x:Ct)(w':World)(vs:Array Value)(l:Int):Prop:=
 (jX b x≠0∧vs=#[int i64 0,int i64 0,.slice none 0 0,.slice none 0 0,.slice none 0 0]∧l=jX b x)∨(jX b x=0∧b.nM x=true∧vs=#[int i64 0,int i64 0,.slice none 0 0,.slice none 0 0,.slice none 0 0]∧l=9)∨
 (jX b x=0∧b.nM x=false∧l=0∧∃G gc A c C cc,b.ng≤gc∧(b.noted x G gc A c C cc).At w' w'.heap.size∧vs=#[int i64 b.dY,int i64 b.mO,.slice G b.ng gc,.slice A b.nm c,.slice C (b.nc+1) cc])
def Gm(b:Bk)(x:Ct)(w:World)(e:Ending)(w':World):Prop:=∃a0 a1 A2 x2 y2 A3 x3 y3 A4 x4 y4 l,e=.returned (.tuple #[.agg #[int i64 a0,int i64 a1,.slice A2 x2 y2,.slice A3 x3 y3,.slice A4 x4 y4],int i64 l])∧Ke b x w' #[int i64 a0,int i64 a1,.slice A2 x2 y2,.slice A3 x3 y3,.slice A4 x4 y4] l∧Below w.heap.size w w'
theorem IZ{b:Bk}{x:Ct}{w w':World}{a0 a1:Int}{A2:Option Addr}{x2 y2:Nat}{A3:Option Addr}{x3 y3:Nat}{A4:Option Addr}{x4 y4:Nat}{l:Int}(h:Ke b x w' #[int i64 a0,int i64 a1,.slice A2 x2 y2,.slice A3 x3 y3,.slice A4 x4 y4] l)(hb:Below w.heap.size w w'):Gm b x w (.returned (.tuple #[.agg #[int i64 a0,int i64 a1,.slice A2 x2 y2,.slice A3 x3 y3,.slice A4 x4 y4],int i64 l])) w':=⟨_,_,_,_,_,_,_,_,_,_,_,_,rfl,h,hb⟩
theorem qV{b:Bk}{x:Ct}(h:jX b x=0):b.nc<4∧Ct.ok b x:=by
 unfold jX at h
 by_cases h4:b.nc+1≤4
 ·rw[if_pos h4] at h
  exact⟨zo,(nS b x).1 h⟩
 ·rw[if_neg h4] at h
  cases h
theorem yM(b:Bk)(ok:b.Ok)(x:Ct):∃l:Int,∀ (G:Option Addr) (gc:Nat) (A:Option Addr) (c:Nat) (C:Option Addr) (cc:Nat),b.ng≤gc→∃a0 a1 A2 x2 y2 A3 x3 y3 A4 x4 y4,(∀w,(b.noted x G gc A c C cc).At w w.heap.size→CallsIn FF 0 prog 35 #[.agg #[int i64 b.dY,int i64 b.mO,.slice G b.ng gc,.slice A b.nm c,.slice C (b.nc+1) cc]] w fun e w'=>e=.returned (.tuple #[.agg #[int i64 a0,int i64 a1,.slice A2 x2 y2,.slice A3 x3 y3,.slice A4 x4 y4],int i64 l])∧Below w.heap.size w w')∧
 ∀w',(b.noted x G gc A c C cc).At w' w'.heap.size→Ke b x w' #[int i64 a0,int i64 a1,.slice A2 x2 y2,.slice A3 x3 y3,.slice A4 x4 y4] l:=by
 by_cases h0:jX b x=0
 ·obtain⟨hn,hx⟩:=qV h0
  cases ht:b.nM x with
  | true=>
    refine⟨9,fun G gc A c C cc hg=>⟨_,_,_,_,_,_,_,_,_,_,_,fun w h=>?_,fun w' _=>.inr (.inl ⟨h0,ht,rfl,rfl⟩)⟩⟩
    have:=sw (b.noted x G gc A c C cc) (sO b x G gc A c C cc ok hn hx) hg w h
    rw[sP b x G gc A c C cc,show(aB (b.noted x none 0 none 0 none 0) (ak (b.noted x none 0 none 0 none 0))).isEmpty=true from ht] at this
    exact this
  | false=>
    refine⟨0,fun G gc A c C cc hg=>⟨_,_,_,_,_,_,_,_,_,_,_,fun w h=>?_,fun w' hat=>.inr (.inr ⟨h0,ht,rfl,G,gc,A,c,C,cc,hg,hat,rfl⟩)⟩⟩
    have:=sw (b.noted x G gc A c C cc) (sO b x G gc A c C cc ok hn hx) hg w h
    rw[sP b x G gc A c C cc,show(aB (b.noted x none 0 none 0 none 0) (ak (b.noted x none 0 none 0 none 0))).isEmpty=false from ht] at this
    exact this
 ·refine⟨jX b x,fun G gc A c C cc hg=>⟨_,_,_,_,_,_,_,_,_,_,_,fun w h=>?_,fun w' _=>.inl ⟨h0,rfl,rfl⟩⟩⟩
  exact ES (b.noted x G gc A c C cc) w h (Dl b x G gc A c C cc ok) hg h0
theorem YS(b:Bk)(ok:b.Ok)(hcap:b.ng≤b.gc)(x:Ct)(w:World)(h:b.At w w.heap.size):CallsIn FF 0 prog 14 #[.agg b.cells,.agg #[int i64 x.good,int i64 x.day,int i64 x.lo,int i64 x.hi]] w (Gm b x w):=by
 have HC:=hid fun w h=>Nj b w h ok hcap
 have sX:=hid fun(w:World) (h:b.At w w.heap.size)=>KG b w h (by have:=ok.bE.1;omega) ok.moves.1 (by have:=ok.counts.1;omega)
 obtain⟨lb,hlb⟩:=yM b ok x
 have HP:=hid hlb
 have HA:=hid h
 have o4:=ok.counts.1
 clear hlb h ok hcap
 obtain⟨dY,mO,gA,ng,gc,g,mA,nm,mc,m,cA,nc,cc,c⟩:=b
 obtain⟨xg,xd,xl,xh⟩:=x
 simp only[Bk.val,Bk.cells] at HC sX HP o4⊢
 obtain⟨w1,hw1⟩:∃w1,w1=((w.alloc (.cells #[int i64 dY,int i64 mO,.slice gA ng gc,.slice mA nm mc,.slice cA nc cc] 26)).alloc (.cells #[int i64 xg,int i64 xd,int i64 xl,int i64 xh] 45)).alloc (.cells #[int i64 0,int i64 0,.slice none 0 0,.slice none 0 0,.slice none 0 0] 26):=zE
 have B1:Hid (Below w.heap.size w w1):=hid (by rw[hw1];exact bw)
 have S1:Hid (Whole w1 (w.heap.size+1) 45 #[int i64 xg,int i64 xd,int i64 xl,int i64 xh]):=hid (by rw[hw1];exact(aK zs).alloc _)
 have K1:Hid (Whole w1 w.heap.size 26 #[int i64 dY,int i64 mO,.slice gA ng gc,.slice mA nm mc,.slice cA nc cc]):=hid (by rw[hw1];exact((Whole.new _ _ _).alloc _).alloc _)
 have Z1:Hid (Whole w1 (w.heap.size+1+1) 26 #[int i64 0,int i64 0,.slice none 0 0,.slice none 0 0,.slice none 0 0]):=hid (by rw[hw1];exact aK zs)
 have jd:=hid hw1
 clear hw1
 obtain⟨i0,hi',hz0,hz1,hz2⟩:=info_parts Tryz.infoC
 have hi0:=hid hi'
 clear hi'
 gi_enter func14,ntmps14
 gi_upto_region 5 with(first
  | (gi_at_call 42;rw[← jd.out];refine(HC.out _ (HA.out.up B1.out)).mono ?_;rintro e w2 ⟨rfl,hb2⟩;have k2:∀o,w2.cell? ⟨w.heap.size,o,none⟩=(#[int i64 dY,int i64 mO,.slice gA ng gc,.slice mA nm mc,.slice cA nc cc]:Array Value)[o]?:=fun o=>(K1.out.below hb2 K1.out.lt).cell o)
  | (gi_at_call 34;refine(sX.out _ ((HA.out.up B1.out).up hb2)).mono ?_;rintro e w10 ⟨G,mD,M,sM,C,mH,rfl,oG,oM,oC,xo,hdc,EL⟩;clear k2))
 obtain⟨w11,EO⟩:∃x,x=w10.alloc (.cells #[int i64 dY,int i64 mO,.slice G ng mD,.slice M nm sM,.slice C nc mH] 26):=zE
 rw[← EO]
 have b11:Below w1.heap.size w1 w11:=by rw[EO];exact Below.al (Below.next hb2 EL) _
 have N':Whole w11 w10.heap.size 26 #[int i64 dY,int i64 mO,.slice G ng mD,.slice M nm sM,.slice C nc mH]:=by rw[EO];exact Whole.new _ _ _
 have Uy:w11.heap.size=w10.heap.size+1:=by rw[EO];simp
 have S11:=S1.out.below b11 S1.out.lt
 have Z11:=Z1.out.below b11 Z1.out.lt
 have Gf:=Below.next B1.out b11
 have hz2':w.heap.size+1+1<w2.heap.size:=Nat.lt_of_lt_of_le Z1.out.lt hb2.size
 have rj:=Fj oG
 have qv:∀ad,G=some ad→w2.heap.size≤ad.block:=fun ad e=>(aQ oG (by rw[e];rfl)).1
 have qS:∀ad,M=some ad→w2.heap.size≤ad.block:=fun ad e=>(aQ oM (by rw[e];rfl)).1
 have dj:∀g,(Value.slice C nc mH).ownBlock=some g→w2.heap.size≤g∧g<w10.heap.size:=fun g hg=>aQ oC hg
 have rm:∀ad g,G=some ad→(Value.slice C nc mH).ownBlock=some g→ad.block≠g:=fun ad g e hg hc=>hdc g hg (by rw[e];exact congrArg some hc)
 have rp:∀ad g,M=some ad→(Value.slice C nc mH).ownBlock=some g→ad.block≠g:=fun ad g e hg hc=>(xo ad.block (by rw[e];rfl)).2 (by rw[hg,hc])
 have rG:Rows w11 w10.heap.size 5 G ng (fun i=>(g i).cell):=by rw[EO];exact(sU oG).2.alloc zL _
 have rM:Rows w11 w10.heap.size 5 M nm (fun i=>(m i).cell):=by rw[EO];exact(sU oM).2.alloc zL _
 have BW:=fC (w':=w11) oC fun g hg hlt=>by rw[EO];exact Below.heap_alloc _ _ _ hlt
 have sC:=hid EL.size
 clear EO EL hb2 oG oM oC xo hdc
 obtain⟨w12,EP⟩:∃x,x=w11.alloc (.cells #[int i64 xg,int i64 xd,int i64 xl,int i64 xh] 45):=zE
 have Ei:=hid (show w12.ownsRow w2.heap.size 45 4 (.slice C nc mH) nc (dH 4 (fun i=>(c i).cell) nc) by rw[EP];exact fC BW fun g _ hlt=>Below.heap_alloc _ _ _ hlt)
 have NF:=hid (show w12.heap[w11.heap.size]? =some (.cells #[int i64 xg,int i64 xd,int i64 xl,int i64 xh] 45) by rw[EP];exact heap_alloc_new w11 _)
 have gO:=hid EP
 clear EP BW
 have yr:w12.heap.size=w11.heap.size+1:=by rw[gO.out];simp
 have gh:=hid yr
 have b12:Below w11.heap.size w11 w12:=by rw[gO.out];exact Below.al zB _
 have fL:=hid b12
 have te:=hid N'
 have No:=hid Z11
 have FACTS:=hid (show _∧_∧_∧_∧_∧_∧_∧_∧_∧_∧_ from⟨Uy,rj,qv,qS,dj,rm,rp,rG,rM,Gf,hz2'⟩)
 have n4:w11.cell? ⟨w10.heap.size,4,none⟩=some (.slice C nc mH):=N'.cell 4
 have x11:∀o,w11.cell? ⟨w.heap.size+1,o,none⟩=(#[int i64 xg,int i64 xd,int i64 xl,int i64 xh]:Array Value)[o]?:=fun o=>S11.cell o
 clear Uy rj qv qS dj rm rp rG rM Gf hz2' yr b12 N' Z11 S11
 gi_upto_region 6 with(gi_at_builtin;rw[← gO.out];refine aD rfl rfl rfl fun K5 iI=>?_;refine wp_append_lies _ _ _ _ rfl w2.heap.size 45 i0 _ 4 32 underlying24 hi0.out hz0 hz1 hz2 rfl zo (.slice C nc mH) nc _ rfl Ei.out ⟨w11.heap.size,0,none⟩ 1 1 [int i64 xg,int i64 xd,int i64 xl,int i64 xh] rfl zr (World.news_of_block NF.out) (by simp[Value.oneCell']) zo zU zo (by have:=sC.out;have:=gh.out;have:=FACTS.out.1;omega) (w11.heap.size+1) gh.out ?_;intro gg cap w5 hown5 aN kI mR;have Xh:=hid hown5;have pM:=hid aN;have HAT:=hid kI;have ga:=hid (te.out.below fL.out te.out.lt);have hne5:some w10.heap.size≠(Value.slice C nc mH).ownBlock:=(fun e=>by have:=(FACTS.out.2.2.2.2.1 _ e.symm).2;omega);have cO:w5.cell? ⟨w10.heap.size,4,none⟩=some (.slice C nc mH):=(ga.out.grown pM.out hne5).cell 4;have fO:=(ga.out.grown pM.out hne5).thaw;clear hown5 aN kI mR n4 x11;refine iI _ _ ?_;clear iI K5)
 obtain⟨Uy,rj,qv,qS,dj,rm,rp,rG,rM,Gf,hz2'⟩:=FACTS.out
 have h210:=sC.out
 obtain⟨w6,wC⟩:∃x,x=w5.setCell ⟨w10.heap.size,4,none⟩ (.slice (some ⟨gg,0,none⟩) (nc+1) cap):=zE
 rw[← wC]
 have N6:Whole w6 w10.heap.size 26 #[int i64 dY,int i64 mO,.slice G ng mD,.slice M nm sM,.slice (some ⟨gg,0,none⟩) (nc+1) cap]:=by rw[wC];exact(ga.out.grown pM.out hne5).set 4 _
 have hgg:w2.heap.size≤gg:=(aQ Xh.out rfl).1
 have hgn:gg≠w10.heap.size:=fun e=>by
  rcases HAT.out with h|h
  ·have:=(dj _ h).2;omega
  ·omega
 have s5:=pM.out.size
 have s12:=gh.out
 have blk:∀B,B<w11.heap.size→(Value.slice C nc mH).ownBlock≠some B→B≠w10.heap.size→w6.heap[B]? =w11.heap[B]?:=fun B hB hc hn=>by
  rw[wC]
  exact((Below.heap_setCell _ _ _ _ hn).trans (pM.out.block B zo (fun e=>hc e.symm))).trans (fL.out.block B hB)
 have keep:∀ {sz n:Nat} {A:Option Addr} {f:Nat→Nat→Value},Rows w11 w10.heap.size sz A n f→(∀ad g,A=some ad→(Value.slice C nc mH).ownBlock=some g→ad.block≠g)→Rows w6 w6.heap.size sz A n f:=fun hr hne hn=>by
  obtain⟨ad,e,hb,hc⟩:=hr hn
  have hs6:w6.heap.size=w5.heap.size:=by rw[wC];simp
  refine⟨ad,e,zo,fun i j hi hj=>(World.cell?_of_block ?_).trans (hc i j hi hj)⟩
  rw[aH]
  exact blk _ zo (fun h=>hne ad _ e h rfl) zo
 have Wr:=fC (w':=w6) Xh.out fun g hg _=>by rw[wC];cases hg;exact Below.heap_setCell _ _ _ _ hgn
 rw[← Dn (⟨dY,mO,gA,ng,gc,g,mA,nm,mc,m,cA,nc,cc,c⟩:Bk) ⟨xg,xd,xl,xh⟩ G mD M sM (some ⟨gg,0,none⟩) cap] at Wr
 have sf:((⟨dY,mO,gA,ng,gc,g,mA,nm,mc,m,cA,nc,cc,c⟩:Bk).noted ⟨xg,xd,xl,xh⟩ G mD M sM (some ⟨gg,0,none⟩) cap).At w6 w6.heap.size:=⟨keep rG rm,keep rM rp,(sU Wr).2,HA.out.ng,HA.out.nm,by show nc+1≤maxLen;unfold maxLen;omega,HA.out.name⟩
 have Z6:Whole w6 (w.heap.size+1+1) 26 #[int i64 0,int i64 0,.slice none 0 0,.slice none 0 0,.slice none 0 0]:=No.out.of (blk _ zo (fun h=>by have:=(dj _ h).1;omega) zo)
 have pH:Below w.heap.size w w6:=by rw[wC];exact((Gf.trans (fL.out.mono Gf.size)).trans (below_grown pM.out (by have:=Gf.size;omega) (fun g hg=>by have:=(dj g hg).1;omega))).setCell (p:=⟨w10.heap.size,4,none⟩) (by show w.heap.size≤w10.heap.size;omega) _
 obtain⟨a0,a1,A2,x2,y2,A3,x3,y3,A4,x4,y4,hip,his⟩:=HP.out G mD M sM (some ⟨gg,0,none⟩) cap rj
 have HIP:=hid (hip w6 sf)
 have HIS:=hid his
 have AT6:=hid sf
 have Kx:=hid pH
 have HZ6:=hid Z6
 have HGG:=hid hgg
 have n6:∀o,w6.cell? ⟨w10.heap.size,o,none⟩=(#[int i64 dY,int i64 mO,.slice G ng mD,.slice M nm sM,.slice (some ⟨gg,0,none⟩) (nc+1) cap]:Array Value)[o]?:=fun o=>N6.cell o
 clear hip his sf pH Z6 hgg blk keep Wr wC N6 Uy rj qv qS dj rm rp rG rM Gf hz2' s5 s12 hgn hne5 cO fO
 gi_wp2_with (gi_at_call 35;refine HIP.out.mono ?_;rintro e w13 ⟨rfl,BF⟩;clear n6;have i4:=HZ6.out.below BF HZ6.out.lt;have z0:w13.cell? ⟨w.heap.size+1+1,0,none⟩=some (int i64 0):=i4.cell 0;have z1:w13.cell? ⟨w.heap.size+1+1,1,none⟩=some (int i64 0):=i4.cell 1;have z2:w13.cell? ⟨w.heap.size+1+1,2,none⟩=some (.slice none 0 0):=i4.cell 2;have z3:w13.cell? ⟨w.heap.size+1+1,3,none⟩=some (.slice none 0 0):=i4.cell 3;have z4:w13.cell? ⟨w.heap.size+1+1,4,none⟩=some (.slice none 0 0):=i4.cell 4;have zf:=i4.thaw)
 have u:=(i4.tF (int i64 a0) (int i64 a1) (.slice A2 x2 y2) (.slice A3 x3 y3) (.slice A4 x4 y4)).cell
 obtain⟨Uy,rj,qv,qS,dj,rm,rp,rG,rM,Gf,hz2'⟩:=FACTS.out
 refine bodyPost_ret (v:=.tuple #[.agg #[int i64 a0,int i64 a1,.slice A2 x2 y2,.slice A3 x3 y3,.slice A4 x4 y4],int i64 lb]) (by simp[results,results14,go_sem,u]) rfl (IZ (HIS.out _ ?_) (Below.tF (Below.next Kx.out BF) zo _ _ _ _ _))
 exact Nf (X:=w.heap.size+1+1) (AT6.out.up BF) (fun ad e _=>by have:=qv ad e;omega) (fun ad e _=>by have:=qS ad e;omega) (fun ad e _=>by cases e;have:=HGG.out;show gg≠_;omega) _ _ _ _ _
theorem Oo{w:World}{B sz n:Nat}{A:Option Addr}{f:Nat→Nat→Value}(h:Rows w B sz A n f){ad:Addr}(e:A=some ad)(hn:0<n):ad.block<B:=by
 obtain⟨Pe,e',hb,-⟩:=h hn
 rw[e] at e'
 cases e'
 exact hb
theorem uQ{w:World}{bx:Nat}{xg xd xl xh:Int}(h:w.heap[bx]? =some (.cells #[int i64 xg,int i64 xd,int i64 xl,int i64 xh] 45))(i j:Nat)(hi:i<1)(hj:j<4):w.cell? ((⟨bx,0,none⟩:Addr).add (i * 4+j))=some (Ct.cell ⟨xg,xd,xl,xh⟩ j):=by
 obtain rfl:i=0:=zo
 rw[tU]
 have hc:=Whole.cell (t:=45) h (0 * 4+j)
 rw[hc]
 match j,hj with
 | 0,_=>rfl
 | 1,_=>rfl
 | 2,_=>rfl
 | 3,_=>rfl
theorem uo{ops:Array Oper}{o:Oper}{a:Act}{w:World}{K:Act→World→Prop}{Q:Exit→Act→World→Prop}{E:Prop}(hgd:o.guard=none)(s x:Operand)(ho:o.op=.call {callee:=.builtin .append,args:=#[s,x],argTypes:=#[24,24] })
 {base n:Nat}{A0:Option Addr}{p0:Nat}{xs:List Value}(hs:a.eval s=.slice A0 n p0)(hown:w.ownsRow base 45 4 (.slice A0 n p0) n xs){A:Option Addr}{m c:Nat}(hx:a.eval x=.slice A m c){f:Nat→Nat→Value}(hr:Rows w w.heap.size 4 A m f)(h1:∀i q,(f i q).oneCell'=true)(hn:n≤6)(hm:m≤6)(hbase:base≤w.heap.size)
 (h:∀A' p' w',w'.ownsRow base 45 4 (.slice A' (n+m) p') (n+m) (xs ++ dH 4 f m)→w.grownBy w' (Value.slice A0 n p0).ownBlock→K (a.put o.dst (.slice A' (n+m) p')) w'):if Region.wanted o (yielded ops a.tmps)=true then Oper.wp prog o a w K Q else E:=by
 have hw:Region.wanted o (yielded ops a.tmps)=true:=by simp[Region.wanted,hgd]
 rw[if_pos hw]
 obtain⟨i0,hi,hz0,hz1,hz2⟩:=info_parts Tryz.infoC
 rcases Nat.eq_zero_or_pos m with rfl|hm0
 ·have hle:=Fj hown
  have hrun:(Builtin.append_ #[24,24] o.type #[.slice A0 n p0,.slice A 0 c]).run prog w=.ok (.slice A0 n p0) w:=by
   refine run_append_nothing w _ _ _ _ i0 underlying24 hi A0 n p0 hle _ ?_
   cases A with
   | none=>exact Src.ofNil w underlying24 c
   | some ad=>exact Src.ofSlice w underlying24 ad 0 c [] zs (fun j u hu=>by simp at hu) (fun u hu=>by simp at hu)
  unfold Oper.wp execOp
  simp only[ho,resolve,invoke,builtin,Sem.run_bind,Sem.run_pure,Result.andThen_ok,List.map_toArray,List.map_cons,List.map_nil,hs,hx,hrun]
  exact h A0 p0 w (by simpa [dH] using hown) ⟨rfl,rfl,rfl,zL,fun _ _ _=>rfl⟩
 ·obtain⟨ad,rfl,-⟩:=hr hm0
  refine wp_append_lies _ s x _ ho base 45 i0 _ 4 32 underlying24 hi hz0 hz1 hz2 rfl zo _ n xs hs hown ad m c (dH 4 f m) hx (ko _ _ _) (fun j u hu=>?_) (sS zD h1) hm0 zU zo hbase _ rfl fun g cap w' h2 h3 _ _=>h _ _ w' h2 h3
  obtain⟨i,q,hi,hq,rfl,rfl⟩:=Fv _ zD hu
  have:=(hr.row hi).2 q hq
  rwa[jS] at this
def Cw(b:Bk)(x:Ct)(w:World)(e:Ending)(w':World):Prop:=∃A k,e=.returned (.agg #[int i64 b.dY,int i64 b.mO,.slice b.gA b.ng b.gc,.slice b.mA b.nm b.mc,.slice A (b.nc+1) k])∧(b.noted x b.gA b.gc b.mA b.mc A k).At w' w'.heap.size∧Below w.heap.size w w'
theorem Fg{b:Bk}{x:Ct}{A:Option Addr}{k:Nat}{w w':World}(h:(b.noted x b.gA b.gc b.mA b.mc A k).At w' w'.heap.size)(hb:Below w.heap.size w w'):Cw b x w (.returned (.agg #[int i64 b.dY,int i64 b.mO,.slice b.gA b.ng b.gc,.slice b.mA b.nm b.mc,.slice A (b.nc+1) k])) w':=⟨A,k,rfl,h,hb⟩
theorem uy(x:Ct)(q:Nat):(x.cell q).oneCell'=true:=by unfold Ct.cell;split <;> rfl
theorem uN{b:Bk}{x:Ct}{w w2 w5:World}{A2:Option Addr}{p2:Nat}(o4:b.nc≤4)(h:b.At w w.heap.size)(h2:Below w.heap.size w w2)(hO:Whole w2 (w.heap.size+1+1+1) 26 #[int i64 b.dY,int i64 b.mO,.slice b.gA b.ng b.gc,.slice b.mA b.nm b.mc,.slice b.cA b.nc b.cc])(hZ:Whole w2 (w.heap.size+1+1) 26 #[int i64 0,int i64 0,.slice none 0 0,.slice none 0 0,.slice none 0 0])(h5:Below w2.heap.size w2 w5)
 (E5:w5.ownsRow w2.heap.size 45 4 (.slice A2 (b.nc+1) p2) (b.nc+1) (dH 4 (fun i=>(b.c i).cell) b.nc ++ dH 4 (fun _=>x.cell) 1)):
 ∃A k,Whole (w5.setCell ⟨w.heap.size+1+1+1,4,none⟩ (.slice A2 (b.nc+1) p2)) (w.heap.size+1+1+1) 26 #[int i64 b.dY,int i64 b.mO,.slice b.gA b.ng b.gc,.slice b.mA b.nm b.mc,.slice A (b.nc+1) k]∧Whole (w5.setCell ⟨w.heap.size+1+1+1,4,none⟩ (.slice A2 (b.nc+1) p2)) (w.heap.size+1+1) 26 #[int i64 0,int i64 0,.slice none 0 0,.slice none 0 0,.slice none 0 0]∧
  (b.noted x b.gA b.gc b.mA b.mc A k).At (w5.setCell ⟨w.heap.size+1+1+1,4,none⟩ (.slice A2 (b.nc+1) p2)) (w5.setCell ⟨w.heap.size+1+1+1,4,none⟩ (.slice A2 (b.nc+1) p2)).heap.size∧(∀ad,A=some ad→w2.heap.size≤ad.block)∧w.heap.size+1+1+1<w2.heap.size∧Below w.heap.size w (w5.setCell ⟨w.heap.size+1+1+1,4,none⟩ (.slice A2 (b.nc+1) p2)):=by
 have E6:=bU (p:=⟨w.heap.size+1+1+1,4,none⟩) E5 hO.lt (.slice A2 (b.nc+1) p2)
 have B6:=(h2.trans (h5.mono h2.size)).setCell (p:=⟨w.heap.size+1+1+1,4,none⟩) (show w.heap.size≤w.heap.size+1+1+1 by omega) (.slice A2 (b.nc+1) p2)
 have hg:∀ad,A2=some ad→w2.heap.size≤ad.block:=fun ad e=>(aQ E6 (by rw[e];rfl)).1
 rw[show dH 4 (fun _=>x.cell) 1=[int i64 x.good,int i64 x.day,int i64 x.lo,int i64 x.hi] from rfl,← Dn b x b.gA b.gc b.mA b.mc A2 p2] at E6
 have U:=h.up B6
 exact⟨A2,p2,(hO.below h5 hO.lt).set 4 _,(hZ.below h5 hZ.lt).other (by show w.heap.size+1+1≠w.heap.size+1+1+1;omega) _,⟨U.g,U.m,(sU E6).2,h.ng,h.nm,by show b.nc+1≤maxLen;unfold maxLen;omega,h.name⟩,hg,hO.lt,B6⟩
theorem YT(b:Bk)(o4:b.nc≤4)(x:Ct)(w:World)(h:b.At w w.heap.size):CallsIn FF 0 prog 13 #[.agg b.cells,.agg #[int i64 x.good,int i64 x.day,int i64 x.lo,int i64 x.hi]] w (Cw b x w):=by
 have HA:=hid h
 clear h
 obtain⟨dY,mO,gA,ng,gc,g,mA,nm,mc,m,cA,nc,cc,c⟩:=b
 obtain⟨xg,xd,xl,xh⟩:=x
 simp only at o4
 simp only[Bk.cells]
 gi_enter func13,ntmps13
 gi_upto_region 2 with fail
 obtain⟨w2,hw2⟩:∃x,x=(((w.alloc (.cells #[int i64 dY,int i64 mO,.slice gA ng gc,.slice mA nm mc,.slice cA nc cc] 26)).alloc (.cells #[int i64 xg,int i64 xd,int i64 xl,int i64 xh] 45)).alloc (.cells #[int i64 0,int i64 0,.slice none 0 0,.slice none 0 0,.slice none 0 0] 26)).alloc (.cells #[int i64 dY,int i64 mO,.slice gA ng gc,.slice mA nm mc,.slice cA nc cc] 26):=zE
 rw[← hw2]
 have K2:Whole w2 w.heap.size 26 #[int i64 dY,int i64 mO,.slice gA ng gc,.slice mA nm mc,.slice cA nc cc]:=by rw[hw2];exact(((Whole.new _ _ _).alloc _).alloc _).alloc _
 have S2:Whole w2 (w.heap.size+1) 45 #[int i64 xg,int i64 xd,int i64 xl,int i64 xh]:=by rw[hw2];exact((aK zs).alloc _).alloc _
 have HZ2:=hid (show Whole w2 (w.heap.size+1+1) 26 #[int i64 0,int i64 0,.slice none 0 0,.slice none 0 0,.slice none 0 0] by rw[hw2];exact(aK zs).alloc _)
 have Ta:=hid (show Whole w2 (w.heap.size+1+1+1) 26 #[int i64 dY,int i64 mO,.slice gA ng gc,.slice mA nm mc,.slice cA nc cc] by rw[hw2];exact aK zs)
 have HB2:=hid (show Below w.heap.size w w2 by rw[hw2];exact bw)
 clear hw2
 have gq:Hid (∀w',Below w2.heap.size w2 w'→w'.cell? ⟨w.heap.size,4,none⟩=some (.slice cA nc cc)∧w'.cell? ⟨w.heap.size+1,0,none⟩=some (int i64 xg)∧w'.cell? ⟨w.heap.size+1,1,none⟩=some (int i64 xd)∧w'.cell? ⟨w.heap.size+1,2,none⟩=some (int i64 xl)∧w'.cell? ⟨w.heap.size+1,3,none⟩=some (int i64 xh)):=hid fun w' hq=>⟨(K2.below hq K2.lt).cell 4,(S2.below hq S2.lt).cell 0,(S2.below hq S2.lt).cell 1,(S2.below hq S2.lt).cell 2,(S2.below hq S2.lt).cell 3⟩
 clear K2 S2
 gi_cut [] from 28 (fun w9=>∃A k,Whole w9 (w.heap.size+1+1+1) 26 #[int i64 dY,int i64 mO,.slice gA ng gc,.slice mA nm mc,.slice A (nc+1) k]∧Whole w9 (w.heap.size+1+1) 26 #[int i64 0,int i64 0,.slice none 0 0,.slice none 0 0,.slice none 0 0]∧((⟨dY,mO,gA,ng,gc,g,mA,nm,mc,m,cA,nc,cc,c⟩:Bk).noted ⟨xg,xd,xl,xh⟩ gA gc mA mc A k).At w9 w9.heap.size∧(∀ad,A=some ad→w2.heap.size≤ad.block)∧w.heap.size+1+1+1<w2.heap.size∧Below w.heap.size w w9)
 case first=>
  rename_i J K2 hJ hK2
  refine Ck [8] (fun w'=>w'.cell? ⟨w.heap.size,4,none⟩=some (.slice cA nc cc)∧w'.cell? ⟨w.heap.size+1,0,none⟩=some (int i64 xg)∧w'.cell? ⟨w.heap.size+1,1,none⟩=some (int i64 xd)∧w'.cell? ⟨w.heap.size+1,2,none⟩=some (int i64 xl)∧w'.cell? ⟨w.heap.size+1,3,none⟩=some (int i64 xh)) zk ?_
  obtain⟨u0,hu0⟩:∃x,x=w2.drew:=zE
  rw[← hu0]
  have Xq:=hid (show Below w2.heap.size w2 u0 by rw[hu0];exact dR zB)
  clear hu0
  have hS:=gq.out _ Xq.out
  refine Zs (i:=1) (some 8) hS ?_
  simp only[Act.put,List.setIfInBounds_toArray,List.set]
  refine Zs (i:=2) (some 9) hS ?_
  simp only[Act.put,List.setIfInBounds_toArray,List.set]
  refine Zs (i:=4) (some 11) hS ?_
  simp only[Act.put,List.setIfInBounds_toArray,List.set]
  clear hS
  refine tV (i:=0) (i':=5) zk rfl rfl (fun K hK=>?_) (fun K hK=>?_)
  ·go_simp
   obtain⟨u1,hu1⟩:∃x,x=u0.alloc (.cells #[] 45):=zE
   rw[← hu1]
   have Gh:=hid (show Below w2.heap.size w2 u1 by rw[hu1];exact Xq.out.alloc Xq.out.size _)
   have fj:=hid (show u1.ownsRow w2.heap.size 45 4 (.slice (some ⟨u0.heap.size,0,none⟩) 0 0) 0 [] by rw[hu1];exact bO (lX u0 45 4) Xq.out.size)
   obtain⟨ge,hge⟩:∃x,x=u0.heap.size:=zE
   rw[← hge] at fj⊢
   clear hu1 Xq hge
   refine hK.out _ _ (fun _=>gq.out _ Gh.out) ?_
   clear hK K
   refine tV (i:=3) (i':=5) zk rfl rfl (fun K hK=>?_) (fun K hK=>?_)
   ·refine dh rfl zr zr (uo (E:=True) zr _ _ zr zr fj.out (A:=cA) (m:=nc) (f:=fun i=>(c i).cell) zr ((HA.out.c.below (Below.trans HB2.out (Gh.out.mono HB2.out.size))).more (by have:=Gh.out.size;have:=HB2.out.size;omega)) (fun i q=>uy _ q) zo zo Gh.out.size ?_)
    intro A1 p1 u2 hown hgrow
    rw[Nat.zero_add,List.nil_append] at hown
    rw[Nat.zero_add]
    change K (Act.put _ (some 10) _) u2
    have Bn:=hid (Gh.out.trans (below_grown hgrow Gh.out.size fun g hg=>(aQ fj.out hg).1))
    have RJ:=hid hown
    clear hown hgrow Gh fj
    refine hK.out _ _ (fun _=>gq.out _ Bn.out) ?_
    clear hK K
    try simp only[Act.put,List.setIfInBounds_toArray,List.set]
    refine uP 5 fun K hK=>?_
    go_simp
    obtain⟨u3,hu3⟩:∃x,x=u2.alloc (.cells #[int i64 xg,int i64 xd,int i64 xl,int i64 xh] 45):=zE
    rw[← hu3]
    have MW:=hid (show Below w2.heap.size w2 u3 by rw[hu3];exact Bn.out.alloc Bn.out.size _)
    have XK:=hid (show u3.heap[u2.heap.size]? =some (.cells #[int i64 xg,int i64 xd,int i64 xl,int i64 xh] 45) by rw[hu3];exact heap_alloc_new u2 _)
    obtain⟨bx,hbx⟩:∃x,x=u2.heap.size:=zE
    rw[← hbx] at XK⊢
    have LX:=hid (show w2.heap.size≤bx by rw[hbx];exact Bn.out.size)
    have ca:=hid (fC (w':=u3) RJ.out fun g _ hlt=>by rw[hu3];exact Below.heap_alloc _ _ _ hlt)
    have NX:=hid (show ∀g,Value.ownBlock (.slice A1 nc p1)=some g→g≠bx from fun g hg e=>by have:=(aQ RJ.out hg).2;omega)
    clear RJ
    clear hu3 Bn hbx
    refine hK.out _ _ (fun _=>gq.out _ MW.out) ?_
    clear hK K
    refine uP 6 fun K hK=>?_
    refine dh rfl zr zr (uo (E:=True) zr _ _ zr zr ca.out zr (f:=fun _=>Ct.cell ⟨xg,xd,xl,xh⟩) (A:=some ⟨bx,0,none⟩) (m:=1) (fun _=>⟨_,rfl,Whole.lt (t:=45) XK.out,fun i j hi hj=>uQ XK.out i j hi hj⟩) (fun i q=>uy _ q) zo zo MW.out.size ?_)
    intro A2 p2 w5 hown hgrow
    change K (Act.put _ (some 13) _) w5
    have B5:=hid (MW.out.trans (below_grown hgrow MW.out.size fun g hg=>(aQ ca.out hg).1))
    have E5:=hid hown
    clear hown hgrow
    refine hK.out _ _ (fun _=>gq.out _ B5.out) ?_
    clear hK K
    try simp only[Act.put,List.setIfInBounds_toArray,List.set]
    refine uP 7 fun K hK=>?_
    go_simp
    refine hK.out _ _ (fun _=>gq.out _ B5.out) ?_
    clear hK K
    have dr:=Ta.out.below B5.out Ta.out.lt
    have cO:w5.cell? ⟨w.heap.size+1+1+1,4,none⟩=some (.slice cA nc cc):=dr.cell 4
    have fO:=dr.thaw
    refine uP 8 fun K hK=>?_
    go_simp
    refine hK.out _ _ (fun h=>absurd zD h) ?_
    refine lI zk ?_ _
    refine hK2 _ _ (Met.intro (hJ _ _ ?_))
    repeat apply Exists.intro
    refine⟨?_,rfl⟩
    exact uN (x:=⟨xg,xd,xl,xh⟩) o4 HA.out HB2.out Ta.out HZ2.out B5.out E5.out
   ·go_simp
    obtain⟨u2,hu2⟩:∃x,x=u1.alloc (.cells #[int i64 xg,int i64 xd,int i64 xl,int i64 xh] 45):=zE
    rw[← hu2]
    have Bn:=hid (show Below w2.heap.size w2 u2 by rw[hu2];exact Gh.out.alloc Gh.out.size _)
    have cU:=hid (show u2.heap[u1.heap.size]? =some (.cells #[int i64 xg,int i64 xd,int i64 xl,int i64 xh] 45) by rw[hu2];exact heap_alloc_new u1 _)
    obtain⟨bx,hbx⟩:∃x,x=u1.heap.size:=zE
    rw[← hbx] at cU⊢
    have LX:=hid (show w2.heap.size≤bx by rw[hbx];exact Gh.out.size)
    have RJ:=hid (fC (w':=u2) fj.out fun g _ hlt=>by rw[hu2];exact Below.heap_alloc _ _ _ hlt)
    have NX:=hid (show ∀g,Value.ownBlock (.slice (some ⟨ge,0,none⟩) 0 0)=some g→g≠bx from fun g hg e=>by have:=(aQ fj.out hg).2;omega)
    clear fj
    clear hu2 Gh hbx
    refine hK.out _ _ (fun _=>gq.out _ Bn.out) ?_
    clear hK K
    refine uP 3 fun K hK=>?_
    refine dh rfl zr zr (uo (E:=True) zr _ _ zr zr RJ.out (A:=cA) (m:=nc) (f:=fun i=>(c i).cell) zr ((HA.out.c.below (Below.trans HB2.out (Bn.out.mono HB2.out.size))).more (by have:=Bn.out.size;have:=HB2.out.size;omega)) (fun i q=>uy _ q) zo zo Bn.out.size ?_)
    intro A1 p1 u3 hown hgrow
    rw[Nat.zero_add,List.nil_append] at hown
    rw[Nat.zero_add]
    change K (Act.put _ (some 10) _) u3
    have MW:=hid (Bn.out.trans (below_grown hgrow Bn.out.size fun g hg=>(aQ RJ.out hg).1))
    have ca:=hid hown
    have XK:=hid (show u3.heap[bx]? =some (.cells #[int i64 xg,int i64 xd,int i64 xl,int i64 xh] 45) from(hgrow.block bx (Whole.lt (t:=45) cU.out) fun e=>NX.out _ e.symm rfl).trans cU.out)
    clear cU
    clear hown hgrow Bn RJ
    refine hK.out _ _ (fun _=>gq.out _ MW.out) ?_
    clear hK K
    try simp only[Act.put,List.setIfInBounds_toArray,List.set]
    refine uP 6 fun K hK=>?_
    refine dh rfl zr zr (uo (E:=True) zr _ _ zr zr ca.out zr (f:=fun _=>Ct.cell ⟨xg,xd,xl,xh⟩) (A:=some ⟨bx,0,none⟩) (m:=1) (fun _=>⟨_,rfl,Whole.lt (t:=45) XK.out,fun i j hi hj=>uQ XK.out i j hi hj⟩) (fun i q=>uy _ q) zo zo MW.out.size ?_)
    intro A2 p2 w5 hown hgrow
    change K (Act.put _ (some 13) _) w5
    have B5:=hid (MW.out.trans (below_grown hgrow MW.out.size fun g hg=>(aQ ca.out hg).1))
    have E5:=hid hown
    clear hown hgrow
    refine hK.out _ _ (fun _=>gq.out _ B5.out) ?_
    clear hK K
    try simp only[Act.put,List.setIfInBounds_toArray,List.set]
    refine uP 7 fun K hK=>?_
    go_simp
    refine hK.out _ _ (fun _=>gq.out _ B5.out) ?_
    clear hK K
    have dr:=Ta.out.below B5.out Ta.out.lt
    have cO:w5.cell? ⟨w.heap.size+1+1+1,4,none⟩=some (.slice cA nc cc):=dr.cell 4
    have fO:=dr.thaw
    refine uP 8 fun K hK=>?_
    go_simp
    refine hK.out _ _ (fun h=>absurd zD h) ?_
    refine lI zk ?_ _
    refine hK2 _ _ (Met.intro (hJ _ _ ?_))
    repeat apply Exists.intro
    refine⟨?_,rfl⟩
    exact uN (x:=⟨xg,xd,xl,xh⟩) o4 HA.out HB2.out Ta.out HZ2.out B5.out E5.out
  ·go_simp
   obtain⟨u1,hu1⟩:∃x,x=u0.alloc (.cells #[int i64 xg,int i64 xd,int i64 xl,int i64 xh] 45):=zE
   rw[← hu1]
   have Gh:=hid (show Below w2.heap.size w2 u1 by rw[hu1];exact Xq.out.alloc Xq.out.size _)
   have GS:=hid (show u1.heap[u0.heap.size]? =some (.cells #[int i64 xg,int i64 xd,int i64 xl,int i64 xh] 45) by rw[hu1];exact heap_alloc_new u0 _)
   obtain⟨bx,hbx⟩:∃x,x=u0.heap.size:=zE
   rw[← hbx] at GS⊢
   have LX:=hid (show w2.heap.size≤bx by rw[hbx];exact Xq.out.size)
   clear hu1 Xq hbx
   refine hK.out _ _ (fun _=>gq.out _ Gh.out) ?_
   clear hK K
   refine uP 0 fun K hK=>?_
   go_simp
   obtain⟨u2,hu2⟩:∃x,x=u1.alloc (.cells #[] 45):=zE
   rw[← hu2]
   have Bn:=hid (show Below w2.heap.size w2 u2 by rw[hu2];exact Gh.out.alloc Gh.out.size _)
   have RJ:=hid (show u2.ownsRow w2.heap.size 45 4 (.slice (some ⟨u1.heap.size,0,none⟩) 0 0) 0 [] by rw[hu2];exact bO (lX u1 45 4) Gh.out.size)
   have LTX:¬ (u1.heap.size≤bx):=Nat.not_le_of_lt (Whole.lt (t:=45) GS.out)
   have cU:=hid (show u2.heap[bx]? =some (.cells #[int i64 xg,int i64 xd,int i64 xl,int i64 xh] 45) by rw[hu2];exact(Whole.alloc (t:=45) GS.out _))
   clear GS
   obtain⟨ge,hge⟩:∃x,x=u1.heap.size:=zE
   have NXX:∀g,Value.ownBlock (.slice (some ⟨ge,0,none⟩) 0 0)=some g→g≠bx:=fun g hg e=>LTX (by have h1:ge=g:=Option.some.inj (show some ge=some g from hg);omega)
   rw[← hge] at RJ⊢
   clear hu2 Gh hge
   refine hK.out _ _ (fun _=>gq.out _ Bn.out) ?_
   clear hK K
   have NX:=hid (show ∀g,Value.ownBlock (.slice (some ⟨ge,0,none⟩) 0 0)=some g→g≠bx from NXX)
   refine uP 3 fun K hK=>?_
   refine dh rfl zr zr (uo (E:=True) zr _ _ zr zr RJ.out (A:=cA) (m:=nc) (f:=fun i=>(c i).cell) zr ((HA.out.c.below (Below.trans HB2.out (Bn.out.mono HB2.out.size))).more (by have:=Bn.out.size;have:=HB2.out.size;omega)) (fun i q=>uy _ q) zo zo Bn.out.size ?_)
   intro A1 p1 u3 hown hgrow
   rw[Nat.zero_add,List.nil_append] at hown
   rw[Nat.zero_add]
   change K (Act.put _ (some 10) _) u3
   have MW:=hid (Bn.out.trans (below_grown hgrow Bn.out.size fun g hg=>(aQ RJ.out hg).1))
   have ca:=hid hown
   have XK:=hid (show u3.heap[bx]? =some (.cells #[int i64 xg,int i64 xd,int i64 xl,int i64 xh] 45) from(hgrow.block bx (Whole.lt (t:=45) cU.out) fun e=>NX.out _ e.symm rfl).trans cU.out)
   clear cU
   clear hown hgrow Bn RJ
   refine hK.out _ _ (fun _=>gq.out _ MW.out) ?_
   clear hK K
   try simp only[Act.put,List.setIfInBounds_toArray,List.set]
   refine uP 6 fun K hK=>?_
   refine dh rfl zr zr (uo (E:=True) zr _ _ zr zr ca.out zr (f:=fun _=>Ct.cell ⟨xg,xd,xl,xh⟩) (A:=some ⟨bx,0,none⟩) (m:=1) (fun _=>⟨_,rfl,Whole.lt (t:=45) XK.out,fun i j hi hj=>uQ XK.out i j hi hj⟩) (fun i q=>uy _ q) zo zo MW.out.size ?_)
   intro A2 p2 w5 hown hgrow
   change K (Act.put _ (some 13) _) w5
   have B5:=hid (MW.out.trans (below_grown hgrow MW.out.size fun g hg=>(aQ ca.out hg).1))
   have E5:=hid hown
   clear hown hgrow
   refine hK.out _ _ (fun _=>gq.out _ B5.out) ?_
   clear hK K
   try simp only[Act.put,List.setIfInBounds_toArray,List.set]
   refine uP 7 fun K hK=>?_
   go_simp
   refine hK.out _ _ (fun _=>gq.out _ B5.out) ?_
   clear hK K
   have dr:=Ta.out.below B5.out Ta.out.lt
   have cO:w5.cell? ⟨w.heap.size+1+1+1,4,none⟩=some (.slice cA nc cc):=dr.cell 4
   have fO:=dr.thaw
   refine uP 8 fun K hK=>?_
   go_simp
   refine hK.out _ _ (fun h=>absurd zD h) ?_
   refine lI zk ?_ _
   refine hK2 _ _ (Met.intro (hJ _ _ ?_))
   repeat apply Exists.intro
   refine⟨?_,rfl⟩
   exact uN (x:=⟨xg,xd,xl,xh⟩) o4 HA.out HB2.out Ta.out HZ2.out B5.out E5.out
 case rest=>
  obtain⟨A2,p2,O6,Z6,Ug,hge,hlt,hb6⟩:=hcut
  obtain⟨w6,rfl⟩:∃x,x=wc:=zE
  have sf:=hid Ug
  have Ff:=hid hge
  have HLT:=hid hlt
  have lK:=hid hb6
  clear Ug hge hlt hb6 gq
  have o6:∀o,w6.cell? ⟨w.heap.size+1+1+1,o,none⟩=(#[int i64 dY,int i64 mO,.slice gA ng gc,.slice mA nm mc,.slice A2 (nc+1) p2]:Array Value)[o]?:=fun o=>O6.cell o
  have z0:w6.cell? ⟨w.heap.size+1+1,0,none⟩=some (int i64 0):=Z6.cell 0
  have z1:w6.cell? ⟨w.heap.size+1+1,1,none⟩=some (int i64 0):=Z6.cell 1
  have z2:w6.cell? ⟨w.heap.size+1+1,2,none⟩=some (.slice none 0 0):=Z6.cell 2
  have z3:w6.cell? ⟨w.heap.size+1+1,3,none⟩=some (.slice none 0 0):=Z6.cell 3
  have z4:w6.cell? ⟨w.heap.size+1+1,4,none⟩=some (.slice none 0 0):=Z6.cell 4
  have zf:=Z6.thaw
  gi_wp2
  have u:=(Z6.tF (int i64 dY) (int i64 mO) (.slice gA ng gc) (.slice mA nm mc) (.slice A2 (nc+1) p2)).cell
  refine bodyPost_ret (v:=.agg #[int i64 dY,int i64 mO,.slice gA ng gc,.slice mA nm mc,.slice A2 (nc+1) p2]) (by simp[results,results13,go_sem,u]) rfl (Fg (Nf (X:=w.heap.size+1+1) sf.out ?_ ?_ ?_ _ _ _ _ _) (Below.tF lK.out zo _ _ _ _ _))
  ·intro ad e hn;have:=Oo HA.out.g e hn;omega
  ·intro ad e hn;have:=Oo HA.out.m e hn;omega
  ·intro ad e _;have:=Ff.out ad e;have:=HLT.out;omega
end
section
open Go.RowKit
theorem KU(b:Bk)(w:World)(h:b.At w w.heap.size)(ok:gQ b):CallsIn FF 0 prog 43 #[b.val] w fun e w'=>e=.returned (int i64 0)∧Below w.heap.size w w':=by
 obtain⟨dY,mO,gA,ng,gc,g,mA,nm,mc,m,cA,nc,cc,c⟩:=b
 obtain⟨⟨hn1,NU⟩,ok⟩:=ok
 simp only at hn1 NU ok
 obtain⟨ad,hA,-⟩:=h.g (show 0<ng by omega)
 simp only at hA
 subst hA
 have H:=hid fun w=>iN ng 1 3 w
 rw[show fJ (ng:Int) 1 3=true by unfold fJ;simp;omega] at H
 simp only[Bk.val,Bk.cells]
 have Hh:=hid h
 have OK:=hid ok
 have hg:=hid h.g
 clear h ok
 gi_enter func43,ntmps43
 gi_wp2_with (gi_at_call 40;refine(H.out _).mono ?_;rintro e w' ⟨rfl,rfl⟩)
 gi_loopw [3] (fun i wr=>∃k:Nat,k≤ng∧i=int i64 k∧Below (w.heap.size+1) (w.alloc (.cells #[int i64 dY,int i64 mO,.slice (some ad) ng gc,.slice mA nm mc,.slice cA nc cc] 26)) wr) (fun i _=>ng - (intOf i).toNat)
 case atStart=>exact⟨0,Nat.zero_le _,rfl,zB⟩
 case round=>
  obtain⟨k,hk,rfl,hb⟩:=hrel
  have hsz:w.heap.size+1≤wr.heap.size:=by have:=hb.size;simpa using this
  have jq:∀o,wr.cell? ⟨w.heap.size,o,none⟩=(w.alloc (.cells #[int i64 dY,int i64 mO,.slice (some ad) ng gc,.slice mA nm mc,.slice cA nc cc] 26)).cell? ⟨w.heap.size,o,none⟩:=fun o=>hb.cell (p:=⟨w.heap.size,o,none⟩) zs
  by_cases hlt:k<ng
  ·have hr:=(((hg.out.alloc zL _).more (Nat.le_succ _)).below hb).row hlt
   have c0:wr.cell? (ad.add (k * 5))=some (.string (g k).name):=hr.2 0 zD
   have c1:wr.cell? ⟨(ad.add (k * 5)).block,(ad.add (k * 5)).off+1,none⟩=some (int i64 (g k).cost):=hr.2 1 zD
   have c2:wr.cell? ⟨(ad.add (k * 5)).block,(ad.add (k * 5)).off+2,none⟩=some (int i64 (g k).pack):=hr.2 2 zD
   have c3:wr.cell? ⟨(ad.add (k * 5)).block,(ad.add (k * 5)).off+3,none⟩=some (int i64 (g k).lo):=hr.2 3 zD
   have c4:wr.cell? ⟨(ad.add (k * 5)).block,(ad.add (k * 5)).off+4,none⟩=some (int i64 (g k).hi):=hr.2 4 zD
   clear hr
   obtain⟨q1,q2,q3,q4,q5⟩:=OK.out k hlt
   simp only at q1 q2 q3 q4 q5
   have HNM:=hid fun w=>IW (g k).name w (Hh.out.name k hlt)
   have HC:=hid (aT.2 q3)
   have HK:=hid (aT.2 q4)
   have HF:=hid fun w=>rY (g k).lo (g k).hi w
   rw[q1] at HNM
   rw[q5] at HF
   have HQ:=hid q2
   clear q1 q2 q3 q4 q5
   gi_wp2_with (gi_at_call 84;refine(HNM.out _).mono ?_;rintro e w' ⟨rfl,rfl⟩)
   obtain⟨wo,rfl⟩:∃wo:World,wo=wr:=zE
   gi_loopw [5] (fun j wj=>∃q:Nat,q≤k∧j=int i64 q∧Below (wo.heap.size+1) (wo.alloc (.cells #[.string (g k).name,int i64 (g k).cost,int i64 (g k).pack,int i64 (g k).lo,int i64 (g k).hi] 83)) wj) (fun j _=>k - (intOf j).toNat)
   case atStart=>exact⟨0,Nat.zero_le _,rfl,zB⟩
   case round=>
    obtain⟨q,hq,rfl,hbj⟩:=hrel
    have hxj:∀o,wr.cell? ⟨wo.heap.size,o,none⟩=(wo.alloc (.cells #[.string (g k).name,int i64 (g k).cost,int i64 (g k).pack,int i64 (g k).lo,int i64 (g k).hi] 83)).cell? ⟨wo.heap.size,o,none⟩:=fun o=>hbj.cell (p:=⟨wo.heap.size,o,none⟩) zs
    have NQ:∀o,wr.cell? ⟨w.heap.size,o,none⟩=(w.alloc (.cells #[int i64 dY,int i64 mO,.slice (some ad) ng gc,.slice mA nm mc,.slice cA nc cc] 26)).cell? ⟨w.heap.size,o,none⟩:=fun o=>((hbj.cell (p:=⟨w.heap.size,o,none⟩) zm).trans (World.cell?_alloc_lt wo _ _ zm)).trans (jq o)
    clear jq
    have hB:Below w.heap.size w wr:=((zB.alloc zL _).trans (hb.mono zs)).trans ((zB.alloc zo _).trans (hbj.mono zo))
    have hsz2:wo.heap.size+1≤wr.heap.size:=by have:=hbj.size;simpa using this
    by_cases hq2:q<k
    ·have hr:=((((hg.out.alloc zL _).more (Nat.le_succ _)).below hb).more hsz).alloc zL (.cells #[.string (g k).name,int i64 (g k).cost,int i64 (g k).pack,int i64 (g k).lo,int i64 (g k).hi] 83)
     have d0:wr.cell? (ad.add (q * 5))=some (.string (g q).name):=((hr.more (Nat.le_succ _)).below hbj |>.row (show q<ng by omega)).2 0 zD
     have hne:=GH (HQ.out q hq2)
     clear hr
     clear c0 c1 c2 c3 c4
     gi_wp2
     gi_quiet (fail)
     gi_wp2
     go_roundw
     case rel=>exact⟨q+1,zo,by go_num,below_drewN hbj _⟩
     case measure=>simp[intOf];omega
    ·obtain rfl:q=k:=zo
     gi_wp2_with (first|(gi_at_call 40;refine(iN _ _ _ _).mono ?_;rintro e w' ⟨he,rfl⟩;(first|rw[HC.out] at he|rw[HK.out] at he);subst he)|(gi_at_call 85;refine(HF.out _).mono ?_;rintro e w' ⟨rfl,hbf⟩;obtain⟨hcf,ld⟩:=fu hbf))
     go_roundw
     case rel=>exact⟨q+1,zo,by go_num,(hb.trans ((zB.alloc zo _).trans (hbj.mono zo))).trans (hbf.mono zo)⟩
     case measure=>simp[intOf];omega
  ·obtain rfl:k=ng:=zo
   gi_wp2_with fail
   go_ret
   exact⟨rfl,((zB.alloc zL _).trans (hb.mono zs))⟩
theorem LC(b:Bk)(w:World)(h:b.At w w.heap.size)(ok:gT b):CallsIn FF 0 prog 44 #[b.val] w fun e w'=>e=.returned (int i64 0)∧Below w.heap.size w w':=by
 obtain⟨dY,mO,gA,ng,gc,g,mA,nm,mc,m,cA,nc,cc,c⟩:=b
 obtain⟨Xn,ok⟩:=ok
 simp only at Xn ok
 have hn:=h.ng
 simp only at hn
 unfold maxLen at hn
 simp only[Bk.val,Bk.cells]
 have hd6:decide ((nm:Int)≤6)=true:=decide_eq_true zo
 rcases Nat.eq_zero_or_pos nm with rfl|h0
 ·gi_enter func44,ntmps44
  gi_wp2
  refine wpIn_loop_rounds 1 ?_
  rw[roundsIn_succ]
  gi_wp2
  go_ret
  exact⟨rfl,bw⟩
 obtain⟨ad,hA,-⟩:=h.m h0
 simp only at hA
 subst hA
 have OK:=hid ok
 have hm:=hid h.m
 clear h ok
 gi_enter func44,ntmps44
 gi_wp2
 gi_loopw [3] (fun i wr=>∃k:Nat,k≤nm∧i=int i64 k∧Below (w.heap.size+1) (w.alloc (.cells #[int i64 dY,int i64 mO,.slice gA ng gc,.slice (some ad) nm mc,.slice cA nc cc] 26)) wr) (fun i _=>nm - (intOf i).toNat)
 case atStart=>exact⟨0,Nat.zero_le _,rfl,zB⟩
 case round=>
  obtain⟨k,hk,rfl,hb⟩:=hrel
  have hsz:w.heap.size+1≤wr.heap.size:=by have:=hb.size;simpa using this
  have jq:∀o,wr.cell? ⟨w.heap.size,o,none⟩=(w.alloc (.cells #[int i64 dY,int i64 mO,.slice gA ng gc,.slice (some ad) nm mc,.slice cA nc cc] 26)).cell? ⟨w.heap.size,o,none⟩:=fun o=>hb.cell (p:=⟨w.heap.size,o,none⟩) zs
  have hB:Below w.heap.size w wr:=(zB.alloc zL _).trans (hb.mono zs)
  by_cases hlt:k<nm
  ·have hr:=(((hm.out.alloc zL _).more (Nat.le_succ _)).below hb).row hlt
   have c0:wr.cell? (ad.add (k * 5))=some (int i64 (m k).kind):=hr.2 0 zD
   have c1:wr.cell? ⟨(ad.add (k * 5)).block,(ad.add (k * 5)).off+1,none⟩=some (int i64 (m k).good):=hr.2 1 zD
   have c2:wr.cell? ⟨(ad.add (k * 5)).block,(ad.add (k * 5)).off+2,none⟩=some (int i64 (m k).day):=hr.2 2 zD
   have c3:wr.cell? ⟨(ad.add (k * 5)).block,(ad.add (k * 5)).off+3,none⟩=some (int i64 (m k).lo):=hr.2 3 zD
   have c4:wr.cell? ⟨(ad.add (k * 5)).block,(ad.add (k * 5)).off+4,none⟩=some (int i64 (m k).hi):=hr.2 4 zD
   clear hr
   have Uv:w.heap.size<wr.heap.size:=hsz
   obtain⟨⟨k2,k1⟩,q2,q3,k6,q5⟩:=OK.out k hlt
   simp only at k1 k2 q2 q3 k6 q5
   have HG:=hid (aT.2 q2)
   have HD:=hid (aT.2 q3)
   have HF:=hid fun w=>rY (m k).lo (m k).hi w
   rw[q5] at HF
   have HK6:=hid k6
   clear q2 q3 q5 k6
   gi_wp2_with (gi_at_call 40;refine(iN _ _ _ _).mono ?_;rintro e w' ⟨he,rfl⟩;(first|rw[HG.out] at he|rw[HD.out] at he);subst he)
   by_cases hk0:0<k
   ·have hd:decide (0<(k:Int))=true:=zm
    have hr:=(((hm.out.alloc zL _).more (Nat.le_succ _)).below hb).row (show k - 1<nm by omega)
    have d2:wr.cell? ⟨(ad.add ((k - 1) * 5)).block,(ad.add ((k - 1) * 5)).off+2,none⟩=some (int i64 (m (k - 1)).day):=hr.2 2 zD
    have hl2:(ad.add ((k - 1) * 5)).block<wr.heap.size:=by rw[aH];have:=hr.1;omega
    have hdd:decide ((m k).day<(m (k - 1)).day)=false:=decide_eq_false (by have:=HK6.out hk0;omega)
    clear hr c0 c1 c2 c3 c4
    have e2:0≤(k:Int) - 1:=zo
    have e2':1≤(k:Int):=zo
    have e4:(k:Int) - 1<nm:=zo
    have e3:((k:Int) - 1).toNat=k - 1:=zo
    have e1:IntKind.i64.wrap ((k:Int) - 1)=(k:Int) - 1:=IntWalk.i64_in _ zo
    gi_quiet (fail)
    clear e1 e3
    gi_wp2_with (gi_at_call 85;refine(HF.out _).mono ?_;rintro e w' ⟨rfl,hbf⟩;obtain⟨hcf,ld⟩:=fu hbf)
    go_roundw
    case rel=>exact⟨k+1,zo,by go_num,hb.trans ((bw:Below (w.heap.size+1) wr _).trans (hbf.mono zm))⟩
    case measure=>simp[intOf];omega
   ·have hd:decide (0<(k:Int))=false:=zm
    clear c0 c1 c2 c3 c4
    gi_quiet (fail)
    gi_wp2_with (gi_at_call 85;refine(HF.out _).mono ?_;rintro e w' ⟨rfl,hbf⟩;obtain⟨hcf,ld⟩:=fu hbf)
    go_roundw
    case rel=>exact⟨k+1,zo,by go_num,hb.trans ((bw:Below (w.heap.size+1) wr _).trans (hbf.mono zm))⟩
    case measure=>simp[intOf];omega
  ·obtain rfl:k=nm:=zo
   gi_wp2_with fail
   go_ret
   exact⟨rfl,hB⟩
theorem TN(b:Bk)(w:World)(h:b.At w w.heap.size){r:Int}(ok:b.But r)(hn1:1≤b.nc):CallsIn FF 0 prog 15 #[b.val] w fun e w'=>e=.returned (int i64 r)∧Below w.heap.size w w':=by
 have HG:=hid fun w h=>KU b w h ok.bE
 have HM:=hid fun w h=>LC b w h ok.moves
 have HK:=hid fun k w=>Nl b (b.c k) w h.ng
 have I1:=hid (aT.2 ok.dY)
 have I2:=hid (aT.2 ok.mO)
 have Xn:=ok.nc
 have OC:=hid ok.counts
 have O2:=hid ok.many
 have O4:=hid ok.few
 have Hh:=hid h
 clear h ok
 obtain⟨dY,mO,gA,ng,gc,g,mA,nm,mc,m,cA,nc,cc,c⟩:=b
 simp only at hn1 Xn OC O2 O4 I1 I2
 obtain⟨ad,hA,-⟩:=Hh.out.c (show 0<nc by omega)
 simp only at hA
 subst hA
 simp only[Bk.val,Bk.cells] at HG HM HK⊢
 obtain⟨w1,hw1⟩:∃x,x=w.alloc (.cells #[int i64 dY,int i64 mO,.slice gA ng gc,.slice mA nm mc,.slice (some ad) nc cc] 26):=zE
 have B1:Hid (Below w.heap.size w w1):=hid (by rw[hw1];exact bw)
 have K1:Hid (Whole w1 w.heap.size 26 #[int i64 dY,int i64 mO,.slice gA ng gc,.slice mA nm mc,.slice (some ad) nc cc]):=hid (by rw[hw1];exact Whole.new _ _ _)
 have jd:=hid hw1
 clear hw1
 obtain⟨t,ht⟩:∃t,t=decide ((nc:Int)≤4):=zE
 have h4:decide ((nc:Int)≤4)=t:=ht.symm
 have HT:=hid ht
 clear ht
 gi_enter func15,ntmps15
 cases t
 ·have h4n:(4:Int)<nc:=by have:=of_decide_eq_false h4;omega
  have h4d:decide ((4:Int)<nc)=true:=decide_eq_true h4n
  obtain rfl:=O2.out zo
  gi_wp2_with (first
   | (gi_at_call 40;refine(iN _ _ _ _).mono ?_;rintro e w' ⟨he,rfl⟩;(first|rw[I1.out] at he|rw[I2.out] at he);subst he)
   | (gi_at_call 43;rw[← jd.out];refine(HG.out _ (Hh.out.up B1.out)).mono ?_;rintro e w2 ⟨rfl,hb2⟩;have k2:∀o,w2.cell? ⟨w.heap.size,o,none⟩=(#[int i64 dY,int i64 mO,.slice gA ng gc,.slice mA nm mc,.slice (some ad) nc cc]:Array Value)[o]?:=fun o=>(K1.out.below hb2 K1.out.lt).cell o)
   | (gi_at_call 44;refine(HM.out _ ((Hh.out.up B1.out).up hb2)).mono ?_;rintro e w3 ⟨rfl,hb3⟩;have k3:∀o,w3.cell? ⟨w.heap.size,o,none⟩=(#[int i64 dY,int i64 mO,.slice gA ng gc,.slice mA nm mc,.slice (some ad) nc cc]:Array Value)[o]?:=fun o=>(K1.out.below (Below.next hb2 hb3) K1.out.lt).cell o;clear k2))
  go_ret
  exact⟨rfl,Below.next B1.out (Below.next hb2 hb3)⟩
 ·have hn4:nc≤4:=by have:=of_decide_eq_true h4;omega
  have hr:=hid (O4.out hn4 zo)
  gi_wp2_with (first
   | (gi_at_call 40;refine(iN _ _ _ _).mono ?_;rintro e w' ⟨he,rfl⟩;(first|rw[I1.out] at he|rw[I2.out] at he);subst he)
   | (gi_at_call 43;rw[← jd.out];refine(HG.out _ (Hh.out.up B1.out)).mono ?_;rintro e w2 ⟨rfl,hb2⟩;have k2:∀o,w2.cell? ⟨w.heap.size,o,none⟩=(#[int i64 dY,int i64 mO,.slice gA ng gc,.slice mA nm mc,.slice (some ad) nc cc]:Array Value)[o]?:=fun o=>(K1.out.below hb2 K1.out.lt).cell o)
   | (gi_at_call 44;refine(HM.out _ ((Hh.out.up B1.out).up hb2)).mono ?_;rintro e w3 ⟨rfl,hb3⟩;have k3:∀o,w3.cell? ⟨w.heap.size,o,none⟩=(#[int i64 dY,int i64 mO,.slice gA ng gc,.slice mA nm mc,.slice (some ad) nc cc]:Array Value)[o]?:=fun o=>(K1.out.below (Below.next hb2 hb3) K1.out.lt).cell o;clear k2))
  have K3:=K1.out.below (Below.next hb2 hb3) K1.out.lt
  have B3:=Below.next B1.out (Below.next hb2 hb3)
  have H3:=hid (Hh.out.up B3)
  have Uz:=K3.lt
  clear k3 hb2 hb3
  gi_loopw [5] (fun i wr=>∃k:Nat,k≤nc∧i=int i64 k∧Below w3.heap.size w3 wr∧Hid (k=nc→r=0)) (fun i _=>nc - (intOf i).toNat)
  case atStart=>exact⟨0,Nat.zero_le _,rfl,zB,hid zo⟩
  case round=>
   obtain⟨k,hk,rfl,hb,hkr⟩:=hrel
   have hbx:∀o,wr.cell? ⟨w.heap.size,o,none⟩=(#[int i64 dY,int i64 mO,.slice gA ng gc,.slice mA nm mc,.slice (some ad) nc cc]:Array Value)[o]?:=fun o=>(K3.below hb Uz).cell o
   by_cases hlt:k<nc
   ·have hrw:=((H3.out.below hb).c).row hlt
    have c0:wr.cell? (ad.add (k * 4))=some (int i64 (c k).good):=hrw.2 0 zD
    have c1:wr.cell? ⟨(ad.add (k * 4)).block,(ad.add (k * 4)).off+1,none⟩=some (int i64 (c k).day):=hrw.2 1 zD
    have c2:wr.cell? ⟨(ad.add (k * 4)).block,(ad.add (k * 4)).off+2,none⟩=some (int i64 (c k).lo):=hrw.2 2 zD
    have c3:wr.cell? ⟨(ad.add (k * 4)).block,(ad.add (k * 4)).off+3,none⟩=some (int i64 (c k).hi):=hrw.2 3 zD
    have hC:=HK.out k
    clear hrw
    obtain⟨l,hl⟩:∃l,l=nR (⟨dY,mO,gA,ng,gc,g,mA,nm,mc,m,some ad,nc,cc,c⟩:Bk) (c k):=zE
    rw[← hl] at hC
    have HL:Hid ((k+1<nc→l=0)∧(k+1=nc→l=r)):=hid ⟨fun h=>by rw[hl];exact(nS _ _).2 (OC.out k h),fun h=>by rw[hl,hr.out,show nc - 1=k by omega]⟩
    have HC:=hid hC
    clear hC hl
    by_cases hl0:l=0
    ·subst hl0
     gi_wp2
     gi_region_with (gi_at_call 45;refine(HC.out _).mono ?_;rintro e w4 ⟨rfl,hb4⟩)
     all_goals gi_wp2
     all_goals go_roundw
     all_goals first
      | exact⟨k+1,zo,by go_num,(dR hb).trans (hb4.mono (by have:=hb.size;simpa using this)),hid fun h=>(HL.out.2 h).symm⟩
      | (simp[intOf];omega)
    ·have hne:(l != 0)=true:=by simpa using hl0
     gi_wp2
     gi_region_with (gi_at_call 45;refine(HC.out _).mono ?_;rintro e w4 ⟨rfl,hb4⟩)
     all_goals gi_wp2
     all_goals go_ret
     all_goals exact⟨by rw[HL.out.2 (by have h1:=HL.out.1;omega)];rfl,B3.trans ((dR (hb.mono B3.size)).trans (hb4.mono (by have:=hb.size;have:=B3.size;simp;omega)))⟩
   ·obtain rfl:k=nc:=zo
    obtain rfl:=hkr.out rfl
    gi_wp2_with fail
    go_ret
    exact⟨rfl,B3.trans (hb.mono B3.size)⟩
end
section
open Go.RowKit
attribute [local go_sem] Oper.semAt_some
theorem VH(b:Bk)(G:Option Addr)(mD:Nat)(M:Option Addr)(sM:Nat)(C:Option Addr)(mH:Nat)(w:World)(h:b.At w w.heap.size)(h2:(b.re G mD M sM C mH).At w w.heap.size):CallsIn FF 0 prog 9 #[b.val,(b.re G mD M sM C mH).val] w fun e w'=>e=.returned (.bool true)∧Below w.heap.size w w':=by
 have HA:=hid h
 have HB:=hid h2
 clear h h2
 obtain⟨dY,mO,gA,ng,gc,g,mA,nm,mc,m,cA,nc,cc,c⟩:=b
 simp only[Bk.val,Bk.cells,Bk.re] at HB⊢
 have wu:ng≤maxLen:=HA.out.ng
 have hnm:nm≤maxLen:=HA.out.nm
 have hnc:nc≤maxLen:=HA.out.nc
 unfold maxLen at wu hnm hnc
 obtain⟨w1,hw1⟩:∃w1,w1=(w.alloc (.cells #[int i64 dY,int i64 mO,.slice gA ng gc,.slice mA nm mc,.slice cA nc cc] 26)).alloc (.cells #[int i64 dY,int i64 mO,.slice G ng mD,.slice M nm sM,.slice C nc mH] 26):=zE
 have B1:Hid (Below w.heap.size w w1):=hid (by rw[hw1];exact bw)
 have X1:Hid (Whole w1 w.heap.size 26 #[int i64 dY,int i64 mO,.slice gA ng gc,.slice mA nm mc,.slice cA nc cc]):=hid (by rw[hw1];exact(Whole.new _ _ _).alloc _)
 have Y1:Hid (Whole w1 (w.heap.size+1) 26 #[int i64 dY,int i64 mO,.slice G ng mD,.slice M nm sM,.slice C nc mH]):=hid (by rw[hw1];have:=Whole.new (w.alloc (.cells #[int i64 dY,int i64 mO,.slice gA ng gc,.slice mA nm mc,.slice cA nc cc] 26)) 26 #[int i64 dY,int i64 mO,.slice G ng mD,.slice M nm sM,.slice C nc mH];rw[World.size_alloc] at this;exact this)
 have jd:=hid hw1
 clear hw1
 gi_enter func9,ntmps9
 gi_wp2
 try rw[← jd.out]
 gi_loopw [5] (fun i wr=>∃k:Nat,k≤ng∧i=int i64 k∧Hid (Below w.heap.size w wr∧Below w1.heap.size w1 wr)) (fun i _=>ng - (intOf i).toNat)
 case atStart=>exact⟨0,Nat.zero_le _,rfl,hid ⟨B1.out,zB⟩⟩
 case round=>
  obtain⟨k,hk,rfl,hT⟩:=hrel
  obtain⟨wo,rfl⟩:∃wo:World,wo=wr:=zE
  have x0:∀o,wo.cell? ⟨w.heap.size,o,none⟩=(#[int i64 dY,int i64 mO,.slice gA ng gc,.slice mA nm mc,.slice cA nc cc]:Array Value)[o]?:=fun o=>(X1.out.below hT.out.2 X1.out.lt).cell o
  have y0:∀o,wo.cell? ⟨w.heap.size+1,o,none⟩=(#[int i64 dY,int i64 mO,.slice G ng mD,.slice M nm sM,.slice C nc mH]:Array Value)[o]?:=fun o=>(Y1.out.below hT.out.2 Y1.out.lt).cell o
  by_cases hlt:k<ng
  ·obtain⟨ad,hA1,-⟩:=HA.out.g (show 0<ng by omega)
   obtain⟨rJ,hA2,-⟩:=HB.out.g (show 0<ng by omega)
   try simp only at hA1 hA2
   subst hA1
   subst hA2
   have ar:∀j,j<5→wo.cell? ((ad.add (k * 5)).add j)=some ((g k).cell j):=fun j hj=>((HA.out.g.below hT.out.1).row hlt).2 j hj
   have br:∀j,j<5→wo.cell? ((rJ.add (k * 5)).add j)=some ((g k).cell j):=fun j hj=>((HB.out.g.below hT.out.1).row hlt).2 j hj
   generalize g k=gk at ar br
   obtain⟨q0,q1,q2,q3,q4⟩:=gk
   have a0:wo.cell? (ad.add (k * 5))=some (.string q0):=ar 0 zD
   have a1:wo.cell? ⟨(ad.add (k * 5)).block,(ad.add (k * 5)).off+1,none⟩=some (int i64 q1):=ar 1 zD
   have a2:wo.cell? ⟨(ad.add (k * 5)).block,(ad.add (k * 5)).off+2,none⟩=some (int i64 q2):=ar 2 zD
   have a3:wo.cell? ⟨(ad.add (k * 5)).block,(ad.add (k * 5)).off+3,none⟩=some (int i64 q3):=ar 3 zD
   have a4:wo.cell? ⟨(ad.add (k * 5)).block,(ad.add (k * 5)).off+4,none⟩=some (int i64 q4):=ar 4 zD
   have b0:wo.cell? (rJ.add (k * 5))=some (.string q0):=br 0 zD
   have b1:wo.cell? ⟨(rJ.add (k * 5)).block,(rJ.add (k * 5)).off+1,none⟩=some (int i64 q1):=br 1 zD
   have b2:wo.cell? ⟨(rJ.add (k * 5)).block,(rJ.add (k * 5)).off+2,none⟩=some (int i64 q2):=br 2 zD
   have b3:wo.cell? ⟨(rJ.add (k * 5)).block,(rJ.add (k * 5)).off+3,none⟩=some (int i64 q3):=br 3 zD
   have b4:wo.cell? ⟨(rJ.add (k * 5)).block,(rJ.add (k * 5)).off+4,none⟩=some (int i64 q4):=br 4 zD
   have ne:∀w,(binOp BinOp.neq 83 (.agg #[.string q0,int i64 q1,int i64 q2,int i64 q3,int i64 q4]) (.agg #[.string q0,int i64 q1,int i64 q2,int i64 q3,int i64 q4])).run prog w=.ok (.bool false) w:=fun w=>by simp[go_sem]
   clear ar br
   gi_wp2
   gi_quiet (fail)
   gi_wp2
   exact⟨⟨k+1,hlt,by push_cast;rfl,hid ⟨below_drewN hT.out.1 _,below_drewN hT.out.2 _⟩⟩,by simp[intOf];omega⟩
  ·obtain rfl:ng=k:=zo
   have hT1:=hT
   gi_wp2
   gi_loopw [6] (fun i wr=>∃k:Nat,k≤nm∧i=int i64 k∧Hid (Below w.heap.size w wr∧Below w1.heap.size w1 wr)) (fun i _=>nm - (intOf i).toNat)
   case atStart=>exact⟨0,Nat.zero_le _,rfl,hT1⟩
   case round=>
    obtain⟨k,hk,rfl,hT⟩:=hrel
    obtain⟨wo,rfl⟩:∃wo:World,wo=wr:=zE
    have x0:∀o,wo.cell? ⟨w.heap.size,o,none⟩=(#[int i64 dY,int i64 mO,.slice gA ng gc,.slice mA nm mc,.slice cA nc cc]:Array Value)[o]?:=fun o=>(X1.out.below hT.out.2 X1.out.lt).cell o
    have y0:∀o,wo.cell? ⟨w.heap.size+1,o,none⟩=(#[int i64 dY,int i64 mO,.slice G ng mD,.slice M nm sM,.slice C nc mH]:Array Value)[o]?:=fun o=>(Y1.out.below hT.out.2 Y1.out.lt).cell o
    by_cases hlt:k<nm
    ·obtain⟨ad,hA1,-⟩:=HA.out.m (show 0<nm by omega)
     obtain⟨rJ,hA2,-⟩:=HB.out.m (show 0<nm by omega)
     try simp only at hA1 hA2
     subst hA1
     subst hA2
     have ar:∀j,j<5→wo.cell? ((ad.add (k * 5)).add j)=some ((m k).cell j):=fun j hj=>((HA.out.m.below hT.out.1).row hlt).2 j hj
     have br:∀j,j<5→wo.cell? ((rJ.add (k * 5)).add j)=some ((m k).cell j):=fun j hj=>((HB.out.m.below hT.out.1).row hlt).2 j hj
     generalize m k=gk at ar br
     obtain⟨q0,q1,q2,q3,q4⟩:=gk
     have a0:wo.cell? (ad.add (k * 5))=some (int i64 q0):=ar 0 zD
     have a1:wo.cell? ⟨(ad.add (k * 5)).block,(ad.add (k * 5)).off+1,none⟩=some (int i64 q1):=ar 1 zD
     have a2:wo.cell? ⟨(ad.add (k * 5)).block,(ad.add (k * 5)).off+2,none⟩=some (int i64 q2):=ar 2 zD
     have a3:wo.cell? ⟨(ad.add (k * 5)).block,(ad.add (k * 5)).off+3,none⟩=some (int i64 q3):=ar 3 zD
     have a4:wo.cell? ⟨(ad.add (k * 5)).block,(ad.add (k * 5)).off+4,none⟩=some (int i64 q4):=ar 4 zD
     have b0:wo.cell? (rJ.add (k * 5))=some (int i64 q0):=br 0 zD
     have b1:wo.cell? ⟨(rJ.add (k * 5)).block,(rJ.add (k * 5)).off+1,none⟩=some (int i64 q1):=br 1 zD
     have b2:wo.cell? ⟨(rJ.add (k * 5)).block,(rJ.add (k * 5)).off+2,none⟩=some (int i64 q2):=br 2 zD
     have b3:wo.cell? ⟨(rJ.add (k * 5)).block,(rJ.add (k * 5)).off+3,none⟩=some (int i64 q3):=br 3 zD
     have b4:wo.cell? ⟨(rJ.add (k * 5)).block,(rJ.add (k * 5)).off+4,none⟩=some (int i64 q4):=br 4 zD
     have ne:∀w,(binOp BinOp.neq 39 (.agg #[int i64 q0,int i64 q1,int i64 q2,int i64 q3,int i64 q4]) (.agg #[int i64 q0,int i64 q1,int i64 q2,int i64 q3,int i64 q4])).run prog w=.ok (.bool false) w:=fun w=>by simp[go_sem]
     clear ar br
     gi_wp2
     gi_quiet (fail)
     gi_wp2
     exact⟨⟨k+1,hlt,by push_cast;rfl,hid ⟨below_drewN hT.out.1 _,below_drewN hT.out.2 _⟩⟩,by simp[intOf];omega⟩
    ·obtain rfl:nm=k:=zo
     have hT1:=hT
     gi_wp2
     gi_loopw [7] (fun i wr=>∃k:Nat,k≤nc∧i=int i64 k∧Hid (Below w.heap.size w wr∧Below w1.heap.size w1 wr)) (fun i _=>nc - (intOf i).toNat)
     case atStart=>exact⟨0,Nat.zero_le _,rfl,hT1⟩
     case round=>
      obtain⟨k,hk,rfl,hT⟩:=hrel
      obtain⟨wo,rfl⟩:∃wo:World,wo=wr:=zE
      have x0:∀o,wo.cell? ⟨w.heap.size,o,none⟩=(#[int i64 dY,int i64 mO,.slice gA ng gc,.slice mA nm mc,.slice cA nc cc]:Array Value)[o]?:=fun o=>(X1.out.below hT.out.2 X1.out.lt).cell o
      have y0:∀o,wo.cell? ⟨w.heap.size+1,o,none⟩=(#[int i64 dY,int i64 mO,.slice G ng mD,.slice M nm sM,.slice C nc mH]:Array Value)[o]?:=fun o=>(Y1.out.below hT.out.2 Y1.out.lt).cell o
      by_cases hlt:k<nc
      ·obtain⟨ad,hA1,-⟩:=HA.out.c (show 0<nc by omega)
       obtain⟨rJ,hA2,-⟩:=HB.out.c (show 0<nc by omega)
       try simp only at hA1 hA2
       subst hA1
       subst hA2
       have ar:∀j,j<4→wo.cell? ((ad.add (k * 4)).add j)=some ((c k).cell j):=fun j hj=>((HA.out.c.below hT.out.1).row hlt).2 j hj
       have br:∀j,j<4→wo.cell? ((rJ.add (k * 4)).add j)=some ((c k).cell j):=fun j hj=>((HB.out.c.below hT.out.1).row hlt).2 j hj
       generalize c k=gk at ar br
       obtain⟨q0,q1,q2,q3⟩:=gk
       have a0:wo.cell? (ad.add (k * 4))=some (int i64 q0):=ar 0 zD
       have a1:wo.cell? ⟨(ad.add (k * 4)).block,(ad.add (k * 4)).off+1,none⟩=some (int i64 q1):=ar 1 zD
       have a2:wo.cell? ⟨(ad.add (k * 4)).block,(ad.add (k * 4)).off+2,none⟩=some (int i64 q2):=ar 2 zD
       have a3:wo.cell? ⟨(ad.add (k * 4)).block,(ad.add (k * 4)).off+3,none⟩=some (int i64 q3):=ar 3 zD
       have b0:wo.cell? (rJ.add (k * 4))=some (int i64 q0):=br 0 zD
       have b1:wo.cell? ⟨(rJ.add (k * 4)).block,(rJ.add (k * 4)).off+1,none⟩=some (int i64 q1):=br 1 zD
       have b2:wo.cell? ⟨(rJ.add (k * 4)).block,(rJ.add (k * 4)).off+2,none⟩=some (int i64 q2):=br 2 zD
       have b3:wo.cell? ⟨(rJ.add (k * 4)).block,(rJ.add (k * 4)).off+3,none⟩=some (int i64 q3):=br 3 zD
       have ne:∀w,(binOp BinOp.neq 45 (.agg #[int i64 q0,int i64 q1,int i64 q2,int i64 q3]) (.agg #[int i64 q0,int i64 q1,int i64 q2,int i64 q3])).run prog w=.ok (.bool false) w:=fun w=>by simp[go_sem]
       clear ar br
       gi_wp2
       gi_quiet (fail)
       gi_wp2
       exact⟨⟨k+1,hlt,by push_cast;rfl,hid ⟨below_drewN hT.out.1 _,below_drewN hT.out.2 _⟩⟩,by simp[intOf];omega⟩
      ·obtain rfl:nc=k:=zo
       have hT1:=hT
       gi_wp2
       go_ret
       exact⟨rfl,hT1.out.1⟩
end
section
open Go Go.RowKit Go.Maps Go.Sort Go.Shelf
def C8:Go.Shelf.Ren:=⟨fun|7=>91|10=>123|n=>n,fun|23=>131|26=>3|3=>4|28=>134|0=>0|27=>133|33=>103|4=>4|n=>n,fun|n=>n⟩
theorem eJ:Go.Proofs.SlLaysZI.n7 prog C8:=⟨zk,⟨Tryz.f91.name,zD,Tryz.func91.trans (congrArg some zk)⟩,⟨Tryz.f123.name,zD,Tryz.func123.trans (congrArg some zk)⟩,zk,isAgg0,sizeOf0,zeroValue0,zk,isAgg4,sizeOf4,zeroValue4,zk,isAgg131,sizeOf131,zeroValue131,zk,isAgg3,sizeOf3,zeroValue3,zk,isAgg133,sizeOf133,zeroValue133,zk,isAgg134,sizeOf134,zeroValue134,zk,isAgg103,sizeOf103,zeroValue103⟩
def vN:Go.Shelf.Ren:=⟨fun|6=>90|8=>121|9=>122|11=>141|13=>143|12=>142|23=>178|24=>179|14=>169|15=>170|16=>171|17=>172|18=>173|19=>174|20=>175|21=>176|22=>177|25=>188|26=>189|27=>190|28=>191|29=>192|30=>180|31=>193|n=>n,fun|26=>3|28=>134|24=>51|0=>0|3=>3|37=>149|48=>178|50=>175|4=>4|40=>215|39=>214|45=>189|5=>5|9=>9|51=>229|55=>232|57=>234|58=>116|33=>103|n=>n,fun|n=>n⟩
theorem ZF:Go.Proofs.SlLaysZI.n6 prog vN:=⟨zk,⟨Tryz.f90.name,zD,Tryz.func90.trans (congrArg some zk)⟩,⟨Tryz.f121.name,zD,Tryz.func121.trans (congrArg some zk)⟩,⟨Tryz.f141.name,zD,Tryz.func141.trans (congrArg some zk)⟩,zk,isAgg0,sizeOf0,zeroValue0,zk,isAgg51,sizeOf51,zeroValue51,zk,isAgg3,sizeOf3,zeroValue3,zk,isAgg134,sizeOf134,zeroValue134,zk⟩
def QM:Go.Shelf.Ren:=⟨fun|5=>122|8=>143|7=>142|19=>178|20=>179|10=>169|11=>170|12=>171|13=>172|14=>173|15=>174|16=>175|17=>176|18=>177|30=>188|31=>189|32=>190|33=>191|34=>192|35=>180|40=>193|n=>n,fun|23=>51|25=>3|3=>3|32=>149|22=>51|0=>0|44=>178|46=>175|4=>4|36=>215|35=>214|41=>189|5=>5|9=>9|53=>229|57=>232|63=>234|64=>116|n=>n,fun|n=>n⟩
theorem fe:Go.Proofs.SlLaysM.n5 prog QM:=⟨zk,⟨Tryz.f122.name,zD,Tryz.func122.trans (congrArg some zk)⟩,⟨Tryz.f142.name,zD,Tryz.func142.trans (congrArg some zk)⟩,Tryz.func143.trans (congrArg some zk),⟨Tryz.f169.name,zD,Tryz.func169.trans (congrArg some zk)⟩,⟨Tryz.f170.name,zD,Tryz.func170.trans (congrArg some zk)⟩,⟨Tryz.f171.name,zD,Tryz.func171.trans (congrArg some zk)⟩,⟨Tryz.f172.name,zD,Tryz.func172.trans (congrArg some zk)⟩,⟨Tryz.f173.name,zD,Tryz.func173.trans (congrArg some zk)⟩,⟨Tryz.f174.name,zD,Tryz.func174.trans (congrArg some zk)⟩,⟨Tryz.f175.name,zD,Tryz.func175.trans (congrArg some zk)⟩,⟨Tryz.f176.name,zD,Tryz.func176.trans (congrArg some zk)⟩,⟨Tryz.f177.name,zD,Tryz.func177.trans (congrArg some zk)⟩,Tryz.func178.trans (congrArg some zk),Tryz.func179.trans (congrArg some zk),⟨Tryz.f188.name,zD,Tryz.func188.trans (congrArg some zk)⟩,Tryz.func189.trans (congrArg some zk),Tryz.func190.trans (congrArg some zk),⟨Tryz.f191.name,zD,Tryz.func191.trans (congrArg some zk)⟩,⟨Tryz.f192.name,zD,Tryz.func192.trans (congrArg some zk)⟩,⟨Tryz.f180.name,zD,Tryz.func180.trans (congrArg some zk)⟩,⟨Tryz.f193.name,zD,Tryz.func193.trans (congrArg some zk)⟩,zk,isAgg0,sizeOf0,zeroValue0,zk,isAgg3,sizeOf3,zeroValue3,zk,isAgg4,sizeOf4,zeroValue4,zk,isAgg5,sizeOf5,zeroValue5,zk,isAgg9,sizeOf9,zeroValue9,zk,isAgg51,sizeOf51,zeroValue51,zk,isAgg51,sizeOf51,zeroValue51,zk,isAgg3,sizeOf3,zeroValue3,zk,isAgg149,sizeOf149,zeroValue149,zk,isAgg214,sizeOf214,zeroValue214,zk,isAgg215,sizeOf215,zeroValue215,zk,isAgg189,sizeOf189,zeroValue189,zk,isAgg178,sizeOf178,zeroValue178,zk,isAgg175,sizeOf175,zeroValue175,zk,isAgg229,sizeOf229,zeroValue229,zk,isAgg232,sizeOf232,zeroValue232,zk,isAgg234,sizeOf234,zeroValue234,zk,isAgg116,sizeOf116,zeroValue116⟩
def To(g:Nat):Bool:=decide ((3≤g∧g<126)∨(130≤g∧g<147)∨(165≤g∧g<181)∨(186≤g∧g<194))
theorem lq{g:Nat}(h:To g=true):FF.fn g:=(qO g).2 (by unfold To at h;exact of_decide_eq_true h)
theorem NT{L:List Nat}(h:L.all To=true):∀x∈L,FF.fn x:=fun x hx=>lq (List.all_eq_true.1 h x hx)
theorem Ek{L:List FuncId}{n m:Nat}{P:Program}{f:FuncId}{args:Array Value}{w:World}{R:Ending→World→Prop}(hL:∀x∈L,FF.fn x)(hf:FF.fn f)(h:∀D,CallsIn (Fence.list L (some D)) n P f args w R):CallsIn FF m P f args w R:=by
 refine⟨hf,fun cs _=>?_⟩
 obtain⟨e,w',fr,r,hs,rest⟩:=(h (cs.length+1+n)).2 cs (fun d hd=>by cases hd;exact zL)
 have hm:∀x:Machine,x.fenced P (Fence.list L (some (cs.length+1+n)))→x.fenced P FF:=fun x hx g hg=>by
  obtain⟨a,b,c,d⟩:=hx g hg
  exact⟨a,b.imp (hL _) id,fun f hf=>hL _ (c f hf),fun d hd=>by cases hd⟩
 refine⟨e,w',fr,r,?_,rest⟩
 cases e with
 | returned v=>exact fZ hm hs
 | panicked c=>exact fZ hm hs
 | outgrown=>exact hs
theorem Jh(m:Nat):AnyZI.SortsIn prog vN FF m:=
 ⟨fun blk off cap ss W hH hblk hsz=>Ek (NT zk) (lq zk) fun D=>AnySM.slices_Sort_int_in fe D blk off cap ss W hH hblk hsz,
  fun p cap W=>Ek (NT zk) (lq zk) fun D=>AnySM.slices_Sort_int_none_in fe D p cap W⟩
theorem Pl{n m:Nat}{P:Program}{f:FuncId}{args:Array Value}{w:World}{R:Ending→World→Prop}(h:CallsIn FF n P f args w R):CallsIn FF m P f args w R:=⟨h.1,fun cs _=>h.2 cs (fun d hd=>by cases hd)⟩
theorem YF(mb:Option Nat)(W:World):CallsIn FF 0 prog 91 #[.map mb] W fun e w'=>e=.returned (.func (.func 123) #[] #[.pointer (some ⟨W.heap.size,0,none⟩)])∧w'=W.alloc (.cells #[.map mb] 131):=
 AnyZI.keys_in eJ FF 0 (lq zk) rfl mb W
theorem QN{H:Type}(b nn:Nat)(D0:DataW H)(R:Value→Option (DataW H × List MemPlace))(B:Nat)(w:World)(hB:Whole w B 131 #[.map (some b)])(hown:w.ownsMap prog 3 R b nn D0)(hmax:Maps.size D0≤maxLen)(hbytes:Maps.size D0 * 8≤140737488355328):
 CallsIn FF 0 prog 90 #[.func (.func 123) #[] #[.pointer (some ⟨B,0,none⟩)]] w fun e w'=>∃ (v:Value) (ss:List Int),e=.returned v∧ss.Perm (intKeys D0)∧
  w'.ownsRow w.heap.size 3 1 v ss.length ((ss.mergeSort (fun x y=>decide (x≤y))).map encZ)∧(v=.slice none 0 0↔ss=[])∧Below w.heap.size w w':=by
 have hseq:SeqGives FF 1 prog 123 #[.pointer (some ⟨B,0,none⟩)] encZ (fun ss=>ss.Perm (intKeys D0)) (Maps.size D0) w:=
  AnyZI.keys_gives (ρ:=C8) {eJ with } FF 1 (lq zk) rfl zo B b nn D0 _ hB.lt (hB.cell 0) hown
 have cS:=AnyZI.sorted_in ZF FF 4 (lq zk) (lq zk) (lq zk) (lq zk) rfl zo (Jh _) (enters_of func122 zk rfl) 123 #[.pointer (some ⟨B,0,none⟩)] (lq zk) (enters_of func123 zk rfl) _ _ hmax hbytes _ hseq
 exact Pl cS
end
section
open Go Go.Sort Go.RowKit
section
variable{F:Fence}{n:Nat}{P:Program}{ops:Array Oper}{Q:Exit→Act→World→Prop}{md:Region.Mode}{S:World→Prop}{T:Act→World→Prop}{N:Nat}
theorem rF{a:Act}{w:World}{l:List Oper}(N:Nat)(hro:F.round=none)(hB:JC l.toArray N=true)
 (h:wpQuietIn F n P l.toArray (fun w'=>∃p:Regrown,w'=grow (redrawn w p.d) p.os) (fun a'=>∀w',(∃p:Regrown,w'=grow (redrawn w p.d) p.os)→wpListIn F n P l.toArray Q (l.drop N) a' w') (l.take N) a):wpAnyIn F n P .any l.toArray Q l.toArray.size (Array.replicate l.toArray.size false) a {w with drawn:=w.drawn+1 }:=by
 simp only[JC,Bool.and_eq_true,decide_eq_true_eq] at hB
 obtain⟨⟨⟨⟨h1,h2⟩,h3⟩,h4⟩,h5⟩:=hB
 have hlen:N<l.length:=by simpa using h4
 have htl:(l.take N).length=N:=zm
 have inv:HeadInv .any l.toArray N (Array.replicate l.toArray.size false):=⟨zs,fun j oj hj hl=>by rw[getD_replicate_false] at *;simp_all,fun t ht ht'=>getD_in (by simpa using ht') (getD_replicate_false _ _)⟩
 have:=rH (F:=F) (n:=n) (P:=P) (md:=.any) (ops:=l.toArray) (N:=N) (S:=fun w'=>∃p:Regrown,w'=grow (redrawn w p.d) p.os) (T:=wpListIn F n P l.toArray Q (l.drop N)) h1 h2 h3 h4 (l.take N) 0 (Array.replicate l.toArray.size false) a
  (fun j hj=>by rw[htl] at hj;simp[hj]) zo inv (by rw[htl];exact h5) h
 rw[htl] at this
 have h6:=nE (Q:=Q) hro (N:=N) (fun listed a w hB h=>by
  have hd:(l.drop N).length=l.toArray.size - N:=zs
  have:=jy (F:=F) (n:=n) (P:=P) (md:=.any) (ops:=l.toArray) (Q:=Q) (l.drop N) N listed a w (fun j hj=>zs) (by rw[hd];exact hB) h
  rw[hd] at this
  exact this) N _ a {w with drawn:=w.drawn+1 } ⟨⟨w.drawn+1,#[]⟩,by rw[grow_empty];rfl⟩ this
 rw[show l.toArray.size - N+N=l.toArray.size by omega] at h6
 exact h6
def wQ(ops:Array Oper):Bool:=ops.all fun o=>match o.op with
 | .defer _=>false
 | _=>true
theorem LM{ops:Array Oper}(h:wQ ops=true){i:Nat}{o:Oper}(ho:ops[i]? =some o):∀c,o.op≠.defer c:=fun c hc=>by
 have:=Array.all_eq_true.1 h i (Array.getElem?_eq_some_iff.1 ho).1
 rw[(Array.getElem?_eq_some_iff.1 ho).2,hc] at this
 cases this
theorem L9{o:Oper}{a:Act}{w:World}{K K':Act→World→Prop}{l:Nat}(hro:F.round=none)(hd:∀c,o.op≠.defer c)(hK:∀a w,K a w→K' a w)(h:o.wpIn F n P a w K Q):o.wpIn (F.inRound l) n P a w K' Q:=by
 have h':=Oper.wpIn_mono hK h
 obtain⟨h1,h2⟩:=h'
 rw[hro,Oper.semAt_eq _ _ _ hd] at h2
 refine⟨h1,?_⟩
 rw[Oper.semAt_eq _ _ _ hd]
 exact h2
theorem lN{l:Nat}(hro:F.round=none)(hd:wQ ops=true):∀ (fuel:Nat) (listed:Array Bool) (a:Act) (w:World),wpAnyIn F n P md ops Q fuel listed a w→wpAnyIn (F.inRound l) n P md ops Q fuel listed a w
 | 0,_,_,_,h=>h
 | fuel+1,_,a,w,h=>⟨h.1,fun i hi=>by
   have h1:=h.2 i hi
   unfold wpOpIn at h1⊢
   split
   ·rename_i ho
    rw[ho] at h1
    exact lN hro hd fuel _ _ _ h1
   ·rename_i o ho
    rw[ho] at h1
    simp only at h1
    split
    ·rename_i hw
     rw[if_pos hw] at h1
     exact L9 hro (LM hd ho) (fun a w h=>lN hro hd fuel _ a w h) h1
    ·rename_i hw
     rw[if_neg hw] at h1
     exact⟨h1.1,lN hro hd fuel _ _ _ h1.2⟩⟩
theorem lJ{id l₀:Nat}{a:Act}{w:World}{l:List Oper}(N:Nat)(hro:F.round=none)(hm:P.follows .mixedOrders=true)(hB:JC l.toArray N=true)(hd:wQ l.toArray=true)
 (h:wpQuietIn F n P l.toArray (fun w'=>∃p:Regrown,w'=grow (redrawn w p.d) p.os) (fun a'=>∀w',(∃p:Regrown,w'=grow (redrawn w p.d) p.os)→wpListIn F n P l.toArray Q (l.drop N) a' w') (l.take N) a):(Code.region id l.toArray true).wpIn (F.inRound l₀) n P Q a w:=
 wpIn_region_any hm (lN hro hd _ _ _ _ (rF N hro hB h))
end
end
section
open Go.RowKit Go.Maps
open Go.Sort (grow)
attribute [local go_sem] Oper.semAt_some
def mapD(v:Ht→Int)(pre:List Ht):DataW Unit:=pre.foldl (fun D h=>D.put (.int .i64 (v h)) (.lit (.bool true))) (.map [])
theorem Dg(v:Ht→Int)(pre:List Ht)(h:Ht):mapD v (pre ++ [h])=(mapD v pre).put (.int .i64 (v h)) (.lit (.bool true)):=by unfold mapD;rw[List.foldl_append];rfl
theorem bT{H:Type}{P:Program}{k:TypeId}{R:Value→Option (DataW H × List MemPlace)}{w w':World}{b n:Nat}{D:DataW H}(h:w.ownsMap P k R b n D)(e:w'.heap[b]? =w.heap[b]?):w'.ownsMap P k R b n D:=by
 obtain⟨es,clock,hb,rest⟩:=h
 exact⟨es,clock,e.trans hb,rest⟩
theorem dG{F:Fence}{n:Nat}{P:Program}{fn:Func}{tmps:Array Value}{R:Ending→World→Prop}{lo:Nat}:∀ {ds:List Deferred} {hi:Nat} {W:World},Marks lo hi ds W→
 (∀B,Keeps (fun b=>lo≤b∧b<hi) W B→∃v,(results fn tmps).run P B=.ok v B∧R (.returned v) B)→LeavesInM F n P fn tmps R ds .returning W
 | [],_,W,_,hR=>hR W (Keeps.refl _ _)
 | _ :: ds,hi,W,h,hR=>by
   obtain⟨r,rfl,h1,h2,h3,h4⟩:=h
   have hk:Keeps (fun b=>lo≤b∧b<hi) W (W.putObj r (.deferred none)):=⟨rfl,rfl,rfl,by simp[World.putObj],fun b _ hc=>World.putObj_heap_other (fun e=>hc (e ▸ ⟨h1,h2⟩))⟩
   refine⟨zs,.inl ⟨_,_,rfl,run_takeDeferred h3,?_⟩⟩
   exact dG (h4.of fun x _ hx2=>World.putObj_heap_other zo) (fun B hB=>hR B (hk.trans (hB.more fun b _ hb=>⟨hb.1,zo⟩)))
theorem Dq(gf:Nat)(lb:Array Value)(g:Nat)(lg:Array Value)(v:Ht→Int)(xs:List Ht)(w:World)(hlen:xs.length<2 ^ 40)(hsz:0<Maps.size (mapD v xs))(hwf:∀h∈xs,(Lit.int .i64 (v h)).wf=true)(h:pO FF gf lb xs w)(hg:uf FF g lg xs (fun h=>int i64 (v h)) w):
 CallsIn FF 0 prog 52 #[.func (.func gf) #[] lb,.func (.func g) #[] lg] w fun e w'=>∃ (vv:Value) (ss:List Int),e=.returned (.tuple #[vv,int i64 0])∧ss.Perm (intKeys (mapD v xs))∧w'.ownsRow w.heap.size 3 1 vv ss.length ((ss.mergeSort (fun x y=>decide (x≤y))).map encZ)∧Below w.heap.size w w':=by
 obtain⟨hfn,NS,hit⟩:=h
 have HIT:=hid hit
 have RN:=hid NS
 obtain⟨hgf,hge,hgc⟩:=hg
 rw[qO] at hgf
 have HG:=hid hgc
 have HWF:=hid hwf
 clear hit NS hgc hwf
 have hmm:=@run_makeMap prog
 refine callsIn_of_wp_marks func52 rfl zs ?_ rfl
 simp only[ntmps52,List.size_toArray,List.length_cons,List.length_nil,Nat.reduceAdd,Nat.reduceSub,Array.replicate_succ,Array.replicate_zero,List.push_toArray,List.append_toArray,List.nil_append,List.cons_append]
 gi_wp2
 obtain⟨wa,UJ⟩:∃wa,wa=w.alloc (.cells #[.func (.func g) #[] lg] 105):=zE
 obtain⟨wb,hwb⟩:∃wb,wb=wa.alloc (.map #[] 0):=zE
 obtain⟨w1,hw1⟩:∃w1,w1=wb.alloc (.cells #[.map (some (w.heap.size+1))] 131):=zE
 have sa:wa.heap.size=w.heap.size+1:=by rw[UJ];simp
 have sb:wb.heap.size=w.heap.size+1+1:=by rw[hwb];simp[sa]
 have hs1:w1.heap.size=w.heap.size+3:=by rw[hw1];simp[sb]
 have B1:Hid (Below w.heap.size w w1):=hid (by rw[hw1,hwb,UJ];exact bw)
 have F1:Hid (Whole w1 w.heap.size 105 #[.func (.func g) #[] lg]):=hid (by rw[hw1,hwb,UJ];exact((Whole.new _ _ _).alloc _).alloc _)
 have M1:Hid (Whole w1 (w.heap.size+1+1) 131 #[.map (some (w.heap.size+1))]):=hid (by rw[← sb,hw1];exact Whole.new _ _ _)
 have O1:Hid (w1.ownsMap prog 3 (plainElem prog 4) (w.heap.size+1) 0 (mapD v [])):=hid (by
  have:=(World.ownsMap_made (H:=Unit) wa prog 3 (plainElem prog 4)).alloc (.cells #[.map (some (w.heap.size+1))] 131)
  rw[sa] at this;rw[hw1,hwb];exact this)
 try rw[← UJ,← hwb,← hw1]
 clear hw1 UJ hwb sa sb
 clear hmm
 obtain⟨CC,Uc⟩:∃CC:Nat→Prop,CC=fun x=>x=w.heap.size+1:=⟨_,rfl⟩
 have nJ:∀x,CC x↔x=w.heap.size+1:=fun x=>by rw[Uc]
 clear Uc
 refine iU (C:=CC) rfl rfl (gf:=gf) (lb:=lb) rfl hfn RN.out (encs:=fun h:Ht=>#[h.val]) (xs:=xs)
  (fun x hx=>by have:=(nJ x).1 hx;omega) ?hseq (fun _=>rfl) (fun pre W'=>Hid (Whole W' w.heap.size 105 #[.func (.func g) #[] lg]∧Whole W' (w.heap.size+1+1) 131 #[.map (some (w.heap.size+1))]∧W'.ownsMap prog 3 (plainElem prog 4) (w.heap.size+1) pre.length (mapD v pre))) (fun c pre W'=>False)
  (fun pre A B h hb=>hid ⟨h.out.1.below hb zo,h.out.2.1.below hb zo,bT h.out.2.2 (hb.block _ zo)⟩) (fun c pre A B h hb=>h.elim) (hid ⟨F1.out,M1.out,O1.out⟩) ?gI ?hdone ?hstop
 case hseq=>exact fun W2 hb2 hs2=>HIT.out _ W2 (B1.out.trans (hb2.mono B1.out.size)) fun x hx=>by rw[nJ] at hx;omega
 case gI=>
  intro l' pre h A hl' hpre hj hk hsz hrec
  have hsn:=Dg v pre h
  have hwf:=HWF.out h (fP hpre)
  obtain⟨D',hD'⟩:∃D',D'=mapD v (pre ++ [h]):=zE
  obtain⟨D,hD⟩:∃D,D=mapD v pre:=zE
  obtain⟨vh,eI⟩:∃vh,vh=v h:=zE
  rw[← hD',← hD,← eI] at hsn
  rw[← hD']
  rw[← hD] at hj
  rw[← eI] at hwf
  have XV:=fun W hW=>HG.out W h (fP hpre) hW
  rw[← eI] at XV
  have hpl:(pre ++ [h]).length=pre.length+1:=zs
  have Tu:=iP hpre
  rw[hpl]
  clear eI hD' hD hpl
  obtain⟨hf,hmm,wm⟩:=h
  simp only[Ht.val,Ht.cells]
  simp only[Ht.val,Ht.cells] at XV
  gi_wp2
  refine⟨bw,fun W2 hS=>?_⟩
  have oP:Below (w.heap.size+3) A W2:=((Below.refl _ A).alloc zo _).trans (hS.below zo)
  have X2:Whole W2 A.heap.size 91 (⟨hf,hmm,wm⟩:Ht).cells:=(Whole.new A _ _).of (hS.block _ zo)
  have F2:=hid (hj.out.1.below oP zo)
  have M2:=hid (hj.out.2.1.below oP zo)
  have O2:=hid (bT hj.out.2.2 (oP.block _ zo))
  have hlt2:=O2.out.lt
  have q0:=cell_regrown (F2.out.cell 0)
  have q6:=cell_regrown (M2.out.cell 0)
  have x0:=cell_regrown (X2.cell 0)
  have x1:=cell_regrown (X2.cell 1)
  have x2:=cell_regrown (X2.cell 2)
  have x3:=cell_regrown (X2.cell 3)
  have x4:=cell_regrown (X2.cell 4)
  have x5:=cell_regrown (X2.cell 5)
  have x6:=cell_regrown (X2.cell 6)
  have x7:=cell_regrown (X2.cell 7)
  have x8:=cell_regrown (X2.cell 8)
  have x9:=cell_regrown (X2.cell 9)
  have hBW:Below w.heap.size w W2:=(B1.out.trans (hk.below (n:=w.heap.size) (fun b hb hc=>by have:=(nJ b).1 hc;omega) zo)).trans (oP.mono zo)
  have cG:∀d os,CallsIn FF 0 prog g (#[.agg #[int i64 (hf 0),int i64 (hf 1),int i64 (hf 2),int i64 (hmm 0),int i64 (hmm 1),int i64 (hmm 2),int i64 (hmm 3),int i64 (hmm 4),int i64 (hmm 5),int i64 wm]] ++ lg) (grow (redrawn W2 d) os) fun e w''=>e=.returned (int i64 vh)∧∃p:Regrown,w''=grow (redrawn W2 p.d) p.os:=fun d os=>CallsIn.regrown_of (XV _ (hBW.trans ((below_regrown W2 d os).mono (Nat.le_trans zL hBW.size))))
  have cv:=hid hsn
  have HWf:=hid hwf
  have xb:=fun d os=>(below_regrown W2 d os)
  have uX:=hid xb
  clear X2 oP XV hsn hwf hBW xb
  gi_wp2
  refine lJ 4 rfl zk zk zk ?_
  repeat (quiet_step_in (exact cG _ _))
  refine wpQuietIn_nil ?_
  rintro w' ⟨⟨dq,osq⟩,rfl⟩
  have bn:=uX.out dq osq
  clear q0 q6 x0 x1 x2 x3 x4 x5 x6 x7 x8 x9 cG
  have O9:=bT O2.out (bn.block _ hlt2)
  have F9:=F2.out.below bn F2.out.lt
  have M9:=M2.out.below bn M2.out.lt
  simp only at O9 F9 M9 bn⊢
  generalize grow (redrawn W2 dq) osq=w9 at bn O9 F9 M9⊢
  refine wpListIn_mapUpdate_own _ rfl _ _ _ 131 rfl 3 4 (int_keyed underlying3) underlying131 (plainElem prog 4) (w.heap.size+1) pre.length D rfl O9 zU _ _ (.int .i64 vh) rfl rfl (keyOf_int_mk underlying3 HWf.out) (.lit (.bool true)) [] (plainElem_bool underlying4 true) ?_
  intro w10 lr wL
  have hs9:=bn.size
  have hbg:=below_grown (B:=w.heap.size+1) wL zo (fun g hg=>by cases hg;omega)
  have hkk:Keeps CC W2 w10:=(Keeps.bK bn).trans ⟨hbg.os,hbg.tape,hbg.output,hbg.size,fun b hb hc=>wL.block b hb (by intro e;cases e;exact hc ((nJ _).2 rfl))⟩
  gi_wp2
  exact⟨hkk,hid ⟨F9.grown wL zs,M9.grown wL zs,by rw[cv.out];exact lr⟩⟩
 case hdone=>
  intro W' hj hk hm
  have c6:W'.cell? ⟨w.heap.size+1+1,0,none⟩=some (.map (some (w.heap.size+1))):=hj.out.2.1.cell 0
  have hms:Marks w1.heap.size (w1.heap.size+1) [{target:=.collected w1.heap.size,args:=#[] }] W':=⟨_,rfl,zL,Nat.lt_succ_self _,hm,zT⟩
  have Xv:=hid hms
  have MZ:Hid (Below w.heap.size w W'):=hid (B1.out.trans (hk.below (n:=w.heap.size) (fun b hb hc=>by have:=(nJ b).1 hc;omega) zo))
  have hsl:=hj.out.2.2.size_le
  obtain⟨N,hN⟩:∃N,N=Maps.size (mapD v xs):=zE
  have HL:∀ty,(Builtin.len_ #[131] ty #[.map (some (w.heap.size+1))]).run prog W'=.ok (int i64 N) W':=fun ty=>by rw[hN];exact hj.out.2.2.len underlying131 ty
  have HO:=hid hj.out.2.2
  rw[← hN] at hsz hsl
  have hn0:¬ N=0:=zo
  have HN:=hid hN
  have hm1:w1.heap.size<W'.heap.size:=(Array.getElem?_eq_some_iff.1 hm).1
  have hlo:=HO.out.lt
  have HK:=hid (YF (some (w.heap.size+1)) W')
  have HS:=hid (QN (w.heap.size+1) xs.length (mapD v xs) (plainElem prog 4) W'.heap.size (W'.alloc (.cells #[.map (some (w.heap.size+1))] 131)) (Whole.new _ _ _) (HO.out.alloc _) (by rw[← HN.out];unfold maxLen;omega) (by rw[← HN.out];omega))
  clear hj hms hm hk hN
  simp only[Exit.inBlock,Exit.then]
  go_at_K
  gi_wp2_with (first
   | (gi_at_call 91;refine HK.out.mono ?_;rintro e w3 ⟨rfl,rfl⟩)
   | (gi_at_call 90;refine HS.out.mono ?_;rintro e w4 ⟨vv,ss,rfl,hss,hrow,-,hb4⟩))
  have hs4:=hb4.size
  simp only[World.size_alloc] at hs4
  have hms:=Xv.out
  rw[hs1] at hms hm1
  have Tr:Marks (w.heap.size+3) (w.heap.size+3+1) [{target:=.collected (w.heap.size+3),args:=#[] }] w4:=hms.of fun r h1 h2=>(hb4.block r zm).trans (Below.heap_alloc _ _ _ zo)
  have Eh:Below w.heap.size w w4:=Below.next (Below.al MZ.out _) hb4
  refine dG Tr (fun B hB=>⟨_,results_tmp2 rfl _ _ _,vv,ss,rfl,hss,bO (fC hrow fun g hg hl=>hB.block g hl (fun hc=>by have:=(aQ hrow hg).1;simp at this;omega)) (by have:=MZ.out.size;simp;omega),Eh.trans (hB.below (n:=w.heap.size) (fun b hb hc=>zo) Eh.size)⟩)
 case hstop=>
  rintro c pre W' hpre hx hk hm
  exact hx.elim
theorem Ae(b:Bk)(gd k:Nat)(w:World)(h:b.At w w.heap.size)(ok:b.Ok)(hcap:b.ng≤b.gc)(hl:∀s∈ak b,eu s)(hlen:(aB b (ak b)).length<2 ^ 40)(hgd:gd<b.ng)(hk:(k:Int)≤b.dY)
 (hsz:0<Maps.size (mapD (fun h=>stk b h k b.nm gd) (aB b (ak b))))(hwf:∀h∈aB b (ak b),(Lit.int .i64 (stk b h k b.nm gd)).wf=true):CallsIn FF 0 prog 19 #[b.val,int i64 gd,int i64 k] w fun e w'=>∃ (vv:Value) (ss:List Int),e=.returned (.tuple #[vv,int i64 0])∧ss.Perm (intKeys (mapD (fun h=>stk b h k b.nm gd) (aB b (ak b))))∧w'.ownsRow w.heap.size 3 1 vv ss.length ((ss.mergeSort (fun x y=>decide (x≤y))).map encZ)∧Below w.heap.size w w':=by
 have hx:=jE b ok (ak b) hl
 have HO:=hid fun w h=>qY b gd w h ok hcap hgd
 have HH:=hid fun A p w hc=>rQ b ok hl A p w hc
 have hg3:gd<3:=by have:=ok.bE.1.2;omega
 have HN:=hid fun(w:World)=>show CallsIn FF 0 prog 51 #[b.val,int i64 k] w fun e w'=>e=.returned (.bool true)∧Below w.heap.size w w' from by
  have:=xY b k w
  have e:fJ (k:Int) 0 b.dY=true:=by unfold fJ;simp;omega
  rwa[e] at this
 have HK:=hid fun lb A n p Bc Bd Bg w h hA hc hd hg=>Dq 79 lb 53 #[.pointer (some ⟨Bc,0,none⟩),.pointer (some ⟨Bd,0,none⟩),.pointer (some ⟨Bg,0,none⟩)] (fun h=>stk b h k b.nm gd) (aB b (ak b)) w hlen hsz hwf h (YI b ok A n p k gd hg3 _ hx Bc Bd Bg w hA hc hd hg)
 have HA:=hid h
 have HC:=hid fun A w (h:pJ b A w)=>h.at_
 obtain⟨n,hn⟩:∃n,n=(ak b).length:=zE
 obtain⟨KS,vi⟩:∃KS,KS=intKeys (mapD (fun h=>stk b h k b.nm gd) (aB b (ak b))):=zE
 rw[← vi] at HK⊢
 obtain⟨xs,hxs⟩:∃xs,xs=aB b (ak b):=zE
 rw[← hn] at HO HH
 rw[← hxs] at HH HK
 clear hn hxs h hcap hl ok hgd hx hk hsz hwf hlen vi
 obtain⟨dY,mO,gA,ng,gc,g,mA,nm,mc,m,cA,nc,cc,c⟩:=b
 simp only[Bk.val,Bk.cells,aA] at HO HH HK HN⊢
 obtain⟨w1,hw1⟩:∃w1,w1=((w.alloc (.cells #[int i64 dY,int i64 mO,.slice gA ng gc,.slice mA nm mc,.slice cA nc cc] 26)).alloc (.cells #[int i64 gd] 3)).alloc (.cells #[int i64 k] 3):=zE
 have B1:Hid (Below w.heap.size w w1):=hid (by rw[hw1];exact bw)
 have G1:Hid (Whole w1 (w.heap.size+1) 3 #[int i64 gd]):=hid (by rw[hw1];exact(aK zs).alloc _)
 have K1:Hid (Whole w1 (w.heap.size+1+1) 3 #[int i64 k]):=hid (by rw[hw1];exact aK zs)
 have jd:=hid hw1
 clear hw1
 gi_enter func19,ntmps19
 gi_wp2_with (first
  | (gi_at_call 50;rw[← jd.out];refine(HO.out _ (HA.out.up B1.out)).mono ?_;rintro e w2 ⟨A,p,rfl,hc2,hb2⟩;have K2:=(K1.out.below hb2 K1.out.lt).alloc (.cells #[int i64 dY,int i64 mO,.slice gA ng gc,.slice mA nm mc,.slice cA nc cc,.slice A n p] 75);have k2:(w2.alloc (.cells #[int i64 dY,int i64 mO,.slice gA ng gc,.slice mA nm mc,.slice cA nc cc,.slice A n p] 75)).cell? ⟨w.heap.size+1+1,0,none⟩=some (int i64 k):=K2.cell 0;have G2:=(G1.out.below hb2 G1.out.lt).alloc (.cells #[int i64 dY,int i64 mO,.slice gA ng gc,.slice mA nm mc,.slice cA nc cc,.slice A n p] 75))
  | (gi_at_call 51;refine(HN.out _).mono ?_;rintro e w3 ⟨rfl,hb3⟩;have X3:Whole w3 w2.heap.size 75 #[int i64 dY,int i64 mO,.slice gA ng gc,.slice mA nm mc,.slice cA nc cc,.slice A n p]:=(Whole.new w2 _ _).below hb3 zs;have x0:w3.cell? ⟨w2.heap.size,0,none⟩=some (int i64 dY):=X3.cell 0;have x1:w3.cell? ⟨w2.heap.size,1,none⟩=some (int i64 mO):=X3.cell 1;have x2:w3.cell? ⟨w2.heap.size,2,none⟩=some (.slice gA ng gc):=X3.cell 2;have x3:w3.cell? ⟨w2.heap.size,3,none⟩=some (.slice mA nm mc):=X3.cell 3;have x4:w3.cell? ⟨w2.heap.size,4,none⟩=some (.slice cA nc cc):=X3.cell 4;have x5:w3.cell? ⟨w2.heap.size,5,none⟩=some (.slice A n p):=X3.cell 5;have K3:=K2.below hb3 K2.lt;have G3:=G2.below hb3 G2.lt)
  | (gi_at_call 39;refine(HH.out A p _ ((hc2.below (bw)).below hb3)).mono ?_;rintro e w4 ⟨lb,rfl,hs4,hb4⟩)
  | (gi_at_call 52;refine(HK.out lb A n p _ _ _ _ hs4 (((HC.out A _ (hc2.below (bw))).up hb3).up hb4) (X3.below hb4 X3.lt) (K3.below hb4 K3.lt) (G3.below hb4 G3.lt)).mono ?_;rintro e w5 ⟨vv,ss,rfl,hss,hv,hb5⟩))
 go_ret2
 have Lb:=Below.next (Below.next (Below.al (Below.next B1.out hb2) (.cells #[int i64 dY,int i64 mO,.slice gA ng gc,.slice mA nm mc,.slice cA nc cc,.slice A n p] 75)) hb3) hb4
 exact⟨vv,ss,rfl,hss,bO hv Lb.size,Below.next Lb hb5⟩
theorem BS(b:Bk)(k:Nat)(w:World)(h:b.At w w.heap.size)(ok:b.Ok)(hcap:b.ng≤b.gc)(hl:∀s∈ak b,eu s)(hlen:(aB b (ak b)).length<2 ^ 40)(hk:k<b.nm)
 (hsz:0<Maps.size (mapD (fun h=>h.real k) (aB b (ak b))))(hwf:∀h∈aB b (ak b),(Lit.int .i64 (h.real k)).wf=true):CallsIn FF 0 prog 20 #[b.val,int i64 k] w fun e w'=>∃ (vv:Value) (ss:List Int),e=.returned (.tuple #[vv,int i64 0])∧ss.Perm (intKeys (mapD (fun h=>h.real k) (aB b (ak b))))∧w'.ownsRow w.heap.size 3 1 vv ss.length ((ss.mergeSort (fun x y=>decide (x≤y))).map encZ)∧Below w.heap.size w w':=by
 have hx:=jE b ok (ak b) hl
 have HO:=hid fun w h=>L6 b k w h ok hcap hk
 have HH:=hid fun A p w hc=>rQ b ok hl A p w hc
 have Uu:k<6:=by have:=ok.moves.1;omega
 have HK:=hid fun lb B w h hB=>Dq 79 lb 54 #[.pointer (some ⟨B,0,none⟩)] (fun h=>h.real k) (aB b (ak b)) w hlen hsz hwf h (LU k Uu _ hx B w hB)
 have HA:=hid h
 obtain⟨n,hn⟩:∃n,n=(ak b).length:=zE
 obtain⟨KS,vi⟩:∃KS,KS=intKeys (mapD (fun h=>h.real k) (aB b (ak b))):=zE
 rw[← vi] at HK⊢
 obtain⟨xs,hxs⟩:∃xs,xs=aB b (ak b):=zE
 rw[← hn] at HO HH
 rw[← hxs] at HH HK
 clear hn hxs h hcap hl ok hx hk hsz hwf hlen vi
 obtain⟨dY,mO,gA,ng,gc,g,mA,nm,mc,m,cA,nc,cc,c⟩:=b
 simp only[Bk.val,Bk.cells,aA] at HO HH⊢
 obtain⟨w1,hw1⟩:∃w1,w1=(w.alloc (.cells #[int i64 dY,int i64 mO,.slice gA ng gc,.slice mA nm mc,.slice cA nc cc] 26)).alloc (.cells #[int i64 k] 3):=zE
 have B1:Hid (Below w.heap.size w w1):=hid (by rw[hw1];exact bw)
 have K1:Hid (Whole w1 (w.heap.size+1) 3 #[int i64 k]):=hid (by rw[hw1];exact aK zs)
 have jd:=hid hw1
 clear hw1
 gi_enter func20,ntmps20
 gi_wp2_with (first
  | (gi_at_call 31;rw[← jd.out];refine(HO.out _ (HA.out.up B1.out)).mono ?_;rintro e w2 ⟨A,p,rfl,hc2,hb2⟩;have K2:=(K1.out.below hb2 K1.out.lt).alloc (.cells #[int i64 dY,int i64 mO,.slice gA ng gc,.slice mA nm mc,.slice cA nc cc,.slice A n p] 75))
  | (gi_at_call 39;refine(HH.out A p _ (hc2.below (bw))).mono ?_;rintro e w4 ⟨lb,rfl,hs4,hb4⟩)
  | (gi_at_call 52;refine(HK.out lb _ _ hs4 (K2.below hb4 K2.lt)).mono ?_;rintro e w5 ⟨vv,ss,rfl,hss,hv,hb5⟩))
 go_ret2
 have Lb:=Below.next (Below.al (Below.next B1.out hb2) (.cells #[int i64 dY,int i64 mO,.slice gA ng gc,.slice mA nm mc,.slice cA nc cc,.slice A n p] 75)) hb4
 exact⟨vv,ss,rfl,hss,bO hv Lb.size,Below.next Lb hb5⟩
end
section
open Go.RowKit Go.Maps
theorem wP{x p:Lit × DataW Unit}:∀l:List (Lit × DataW Unit),p∈DataW.insert x l↔p=x∨p∈l
 | []=>by simp[DataW.insert]
 | y :: r=>by
   unfold DataW.insert
   split
   ·simp
   ·rw[List.mem_cons,wP r,List.mem_cons]
    constructor
    ·rintro(h|h|h)
     ·exact .inr (.inl h)
     ·exact .inl h
     ·exact .inr (.inr h)
    ·rintro(h|h|h)
     ·exact .inr (.inl h)
     ·exact .inl h
     ·exact .inr (.inr h)
theorem Df(v:Ht→Int)(L:List Ht):∃es,mapD v L=.map es∧(∀p∈es,∃h∈L,p.1=Lit.int .i64 (v h))∧∀h∈L,∃p∈es,p.1=Lit.int .i64 (v h):=by
 have key:∀ (n:Nat) (L:List Ht),L.length=n→∃es,mapD v L=.map es∧(∀p∈es,∃h∈L,p.1=Lit.int .i64 (v h))∧∀h∈L,∃p∈es,p.1=Lit.int .i64 (v h):=by
  intro n
  induction n with
  | zero=>
    intro L hL
    obtain rfl:L=[]:=List.length_eq_zero_iff.1 hL
    exact⟨[],rfl,(fun p hp=>by cases hp),fun h hh=>by cases hh⟩
  | succ n ih=>
    intro L hL
    have hne:L≠[]:=fun e=>by rw[e] at hL;cases hL
    obtain⟨pre,h,rfl⟩:∃pre h,L=pre ++ [h]:=⟨L.dropLast,L.getLast hne,(List.dropLast_concat_getLast hne).symm⟩
    obtain⟨es,e,k1,k2⟩:=ih pre (by simpa using hL)
    refine⟨DataW.insert (Lit.int .i64 (v h),.lit (.bool true)) (es.filter fun p=>!p.1.sameKey (Lit.int .i64 (v h))),by rw[Dg,e];rfl,fun p hp=>?_,fun x hx=>?_⟩
    ·rcases(wP _).1 hp with rfl|hp
     ·exact⟨h,zs,rfl⟩
     ·obtain⟨y,hy,ey⟩:=k1 p (List.mem_filter.1 hp).1
      exact⟨y,by simp[hy],ey⟩
    ·by_cases hv:v x=v h
     ·exact⟨_,(wP _).2 (.inl rfl),by rw[hv]⟩
     ·have hx':x∈pre:=by
       rcases List.mem_append.1 hx with h1|h1
       ·exact h1
       ·obtain rfl:x=h:=by simpa using h1
        exact absurd rfl hv
      obtain⟨p,hp,ep⟩:=k2 x hx'
      refine⟨p,(wP _).2 (.inr (List.mem_filter.2 ⟨hp,?_⟩)),ep⟩
      rw[ep,sameKey_ne (fun e=>hv (by injection e))]
      rfl
 exact key _ L rfl
theorem Ls(v:Ht→Int)(L:List Ht)(hL:L≠[]):0<Maps.size (mapD v L)∧∀ss:List Int,ss.Perm (intKeys (mapD v L))→∃l0 rest,ss.mergeSort (fun x y=>decide (x≤y))=l0 :: rest∧(∃h∈L,v h=l0)∧∀h∈L,l0≤v h:=by
 obtain⟨es,e,k1,k2⟩:=Df v L
 rw[e]
 obtain⟨x,hx⟩:=List.exists_mem_of_ne_nil L hL
 refine⟨?_,fun ss hp=>?_⟩
 ·obtain⟨p,hp,_⟩:=k2 x hx
  exact List.length_pos_of_mem hp
 ·have hm:∀y,y∈ss.mergeSort (fun x y=>decide (x≤y))↔y∈intKeys (.map es:DataW Unit):=fun y=>by rw[List.mem_mergeSort];exact hp.mem_iff
  have i1:∀y,y∈intKeys (.map es:DataW Unit)→∃h∈L,v h=y:=fun y hy=>by
   obtain⟨p,hp,rfl⟩:=List.mem_map.1 hy
   obtain⟨h,hh,ep⟩:=k1 p hp
   exact⟨h,hh,by rw[ep];rfl⟩
  have i2:∀h∈L,v h∈intKeys (.map es:DataW Unit):=fun h hh=>by
   obtain⟨p,hp,ep⟩:=k2 h hh
   exact List.mem_map.2 ⟨p,hp,by rw[ep];rfl⟩
  have hs:(ss.mergeSort (fun x y=>decide (x≤y))).Pairwise (fun a b=>decide (a≤b)=true):=List.pairwise_mergeSort (fun a b c h1 h2=>by simp only[decide_eq_true_eq] at *;omega) (fun a b=>by simp only[Bool.or_eq_true,decide_eq_true_eq];omega) ss
  cases hS:ss.mergeSort (fun x y=>decide (x≤y)) with
  | nil=>
    have:=(hm (v x)).2 (i2 x hx)
    rw[hS] at this
    cases this
  | cons l0 rest=>
    rw[hS] at hs hm
    refine⟨l0,rest,rfl,i1 l0 ((hm l0).1 List.mem_cons_self),fun h hh=>?_⟩
    rcases List.mem_cons.1 ((hm (v h)).2 (i2 h hh)) with e0|h1
    ·omega
    ·exact of_decide_eq_true ((List.pairwise_cons.1 hs).1 _ h1)
end
section
open Go.RowKit
theorem mK{α β:Type}{f:α→List β}{c:Nat}:∀ (l:List α),(∀x∈l,(f x).length≤c)→(l.flatMap f).length≤l.length * c
 | [],_=>zs
 | x :: l,h=>by
   have h1:=h x List.mem_cons_self
   have h2:=mK l fun y hy=>h y (List.mem_cons_of_mem _ hy)
   rw[List.flatMap_cons,List.length_append,List.length_cons,Nat.add_mul,Nat.one_mul]
   omega
theorem QO(lo:Int)(k:Nat):(bD lo k).length=k:=by unfold bD;simp
theorem Ic(b:Bk)(ok:b.Ok):∀ (n k:Nat) (h:Ht) (s:Nat→Int),k+n≤b.nm→(eB b n k h s).length≤3 ^ n
 | 0,k,h,s,_=>by unfold eB;split <;> simp
 | Nat.succ n,k,h,s,hk=>by
   unfold eB
   split
   ·have hf:=jT (ok.moves.2 k zo).few
    have:=mK (f:=fun x=>eB b n (k+1) (dV h k x) (Gb b s (dV h k x) k)) (c:=3 ^ n) (bD (b.m k).lo ((b.m k).hi - (b.m k).lo+1).toNat) fun x _=>Ic b ok n (k+1) _ _ zo
    rw[QO] at this
    refine Nat.le_trans this ?_
    rw[Nat.pow_succ,Nat.mul_comm]
    exact Nat.mul_le_mul_left _ zo
   ·exact Nat.zero_le _
theorem WH(b:Bk)(ok:b.Ok)(s:Nat):(gy b s).length≤19683:=by
 unfold gy
 have h1:=mK (f:=fun f=>eB b b.nm 0 ⟨f,fun _=>0,s⟩ f) (c:=3 ^ b.nm) (aS b b.ng) fun f _=>Ic b ok b.nm 0 _ _ zo
 have h2:=mI b ok.bE b.ng zL
 have h3:3 ^ b.nm≤3 ^ 6:=Nat.pow_le_pow_right zD ok.moves.1
 have h4:3 ^ b.ng≤3 ^ 3:=Nat.pow_le_pow_right zD ok.bE.1.2
 exact Nat.le_trans h1 (Nat.le_trans (Nat.mul_le_mul (Nat.le_trans h2 h4) h3) zD)
theorem sj(b:Bk)(ok:b.Ok):(aB b (ak b)).length<2 ^ 40:=by
 unfold aB
 have h1:=mK (f:=fun s=>gy b s) (c:=19683) ((ak b).filter fun s=>decide (pop s≤b.mO)) fun s _=>WH b ok s
 have h2:((ak b).filter fun s=>decide (pop s≤b.mO)).length≤64:=by
  refine Nat.le_trans (List.length_filter_le _ _) ?_
  unfold ak
  refine Nat.le_trans (List.length_filter_le _ _) ?_
  rw[List.length_range]
  exact Nat.le_trans (Nat.pow_le_pow_right zD ok.moves.1) zD
 exact Nat.lt_of_le_of_lt (Nat.le_trans h1 (Nat.mul_le_mul_right _ h2)) zD
end
section
open Go.RowKit Go.Maps
theorem IE(b:Bk)(ok:b.Ok)(hcap:b.ng≤b.gc)(gd k:Nat)(hgd:gd<b.ng)(hk:(k:Int)≤b.dY)(hne:aB b (ak b)≠[])(w:World)(h:b.At w w.heap.size):
 CallsIn FF 0 prog 19 #[.agg b.cells,int i64 gd,int i64 k] w fun e w'=>∃ (l:List Int) (A:Option Addr) (c:Nat),e=.returned (.tuple #[.slice A l.length c,int i64 0])∧(∀y,y∈l↔∃x∈aB b (ak b),stk b x k b.nm gd=y)∧l.length≤maxLen∧Ints w' w'.heap.size A l.length (fun i=>l.getD i 0)∧Below w.heap.size w w':=by
 have hg3:gd<3:=by have:=ok.bE.1.2;omega
 have hf:=Ls (fun h=>stk b h k b.nm gd) (aB b (ak b)) hne
 refine(Ae b gd k w h ok hcap (ji b ok) (sj b ok) hgd hk hf.1 (fun x hx=>by
  have hn:=Mt (b:=b) (jE b ok (ak b) (ji b ok) x hx) k b.nm ok.moves.1 gd hg3
  have:=ok.moves.1
  simp[Lit.wf,IntKind.min,IntKind.max,IntKind.signed,IntKind.bits]
  omega)).mono ?_
 rintro e w' ⟨vv,ss,rfl,hp,hown,hb⟩
 have hlen:ss.length=(ss.mergeSort (fun x y=>decide (x≤y))).length:=by rw[List.length_mergeSort]
 obtain⟨A,c,rfl⟩:=fV hown
 have hlm:=Zb hown
 have hmem:∀y,y∈ss.mergeSort (fun x y=>decide (x≤y))↔∃x∈aB b (ak b),stk b x k b.nm gd=y:=fun y=>by
  rw[List.mem_mergeSort,hp.mem_iff]
  obtain⟨es,ee,k1,k2⟩:=Df (fun h=>stk b h k b.nm gd) (aB b (ak b))
  rw[ee]
  constructor
  ·intro hy
   obtain⟨p,hp,rfl⟩:=List.mem_map.1 hy
   obtain⟨x,hx,ep⟩:=k1 p hp
   exact⟨x,hx,by rw[ep];rfl⟩
  ·rintro⟨x,hx,rfl⟩
   obtain⟨p,hp,ep⟩:=k2 x hx
   exact List.mem_map.2 ⟨p,hp,by rw[ep];rfl⟩
 generalize ss.mergeSort (fun x y=>decide (x≤y))=l at hlen hmem hown
 rw[hlen] at hown hlm⊢
 exact⟨l,A,c,rfl,hmem,hlm,eH hown,hb⟩
theorem AJ{b' b:Bk}(h:b'.g=b.g)(s:Nat→Int):∀k,eG b' s k=eG b s k
 | 0=>rfl
 | Nat.succ k=>by
   unfold eG
   rw[AJ h s k,h]
theorem VT{v v':Ht→Int}{L L':List Ht}(hL:L≠[])(hL':L'≠[])(hs:∀x∈L',x∈L)(hv:∀x,v' x=v x):∃l u l' u',bM v L=(l,u,true)∧bM v' L'=(l',u',true)∧l≤l'∧u'≤u:=by
 obtain⟨l,u,e,h1,_⟩:=DJ v hL
 obtain⟨l',u',e',_,⟨p,hp,ep⟩,⟨q,hq,eq⟩⟩:=DJ v' hL'
 refine⟨l,u,l',u',e,e',?_,?_⟩
 ·rw[← ep,hv];exact(h1 p (hs p hp)).1
 ·rw[← eq,hv];exact(h1 q (hs q hq)).2
theorem LJ(b b':Bk)(ok:b.Ok)(ok':b'.Ok)(hcap:b.ng≤b.gc)(CX:b'.ng≤b'.gc)(hN:Of b' b)(hm:0<(aB b' (ak b')).length)(gd k:Nat)(hgd:gd<b.ng)(hk:(k:Int)≤b.dY):
 ∃ (n m ul uh vl vh:Int) (PX PY:Int→Prop),1≤m∧m≤n∧ul≤vl∧vh≤uh∧(∀y,PY y→PX y)∧
 (∀w,b.At w w.heap.size→CallsIn FF 0 prog 11 #[.agg b.cells] w fun e w'=>e=.returned (.tuple #[int i64 n,int i64 0])∧Below w.heap.size w w')∧
 (∀w,b'.At w w.heap.size→CallsIn FF 0 prog 11 #[.agg b'.cells] w fun e w'=>e=.returned (.tuple #[int i64 m,int i64 0])∧Below w.heap.size w w')∧
 (∀w,b.At w w.heap.size→CallsIn FF 0 prog 19 #[.agg b.cells,int i64 gd,int i64 k] w fun e w'=>∃ (l:List Int) (A:Option Addr) (c:Nat),e=.returned (.tuple #[.slice A l.length c,int i64 0])∧(∀y,y∈l↔PX y)∧l.length≤maxLen∧Ints w' w'.heap.size A l.length (fun i=>l.getD i 0)∧Below w.heap.size w w')∧
 (∀w,b'.At w w.heap.size→CallsIn FF 0 prog 19 #[.agg b'.cells,int i64 gd,int i64 k] w fun e w'=>∃ (l:List Int) (A:Option Addr) (c:Nat),e=.returned (.tuple #[.slice A l.length c,int i64 0])∧(∀y,y∈l↔PY y)∧l.length≤maxLen∧Ints w' w'.heap.size A l.length (fun i=>l.getD i 0)∧Below w.heap.size w w')∧
 (∀w,b.At w w.heap.size→CallsIn FF 0 prog 23 #[.agg b.cells,int i64 k] w fun e w'=>e=.returned (.tuple #[.agg #[int i64 ul,int i64 uh],int i64 0])∧Below w.heap.size w w')∧
 (∀w,b'.At w w.heap.size→CallsIn FF 0 prog 23 #[.agg b'.cells,int i64 k] w fun e w'=>e=.returned (.tuple #[.agg #[int i64 vl,int i64 vh],int i64 0])∧Below w.heap.size w w'):=by
 have hsub:∀x∈aB b' (ak b'),x∈aB b (ak b):=fun x hx=>hN.sub.subset hx
 have hle:=hN.sub.length_le
 have hne':aB b' (ak b')≠[]:=List.length_pos_iff.1 hm
 have hne:aB b (ak b)≠[]:=List.length_pos_iff.1 zo
 obtain⟨ul,uh,vl,vh,e1,e2,k1,k2⟩:=VT (v:=fun h=>eG b (stk b h k b.nm) b.ng) (v':=fun h=>eG b' (stk b' h k b'.nm) b'.ng) hne hne' hsub (fun x=>by
  show eG b' (stk b' x k b'.nm) b'.ng=eG b (stk b x k b.nm) b.ng
  rw[hN.nm,hN.ng,hN.stk,AJ hN.g])
 refine⟨((aB b (ak b)).length:Nat),((aB b' (ak b')).length:Nat),ul,uh,vl,vh,fun y=>∃x∈aB b (ak b),stk b x k b.nm gd=y,fun y=>∃x∈aB b' (ak b'),stk b' x k b'.nm gd=y,zo,zo,k1,k2,?_,?_,?_,?_,?_,?_,?_⟩
 ·rintro y ⟨x,hx,rfl⟩
  exact⟨x,hsub x hx,by rw[hN.nm,hN.stk]⟩
 ·exact fun w h=>gG b w h ok hcap (ji b ok) (sj b ok)
 ·exact fun w h=>gG b' w h ok' CX (ji b' ok') (sj b' ok')
 ·exact fun w h=>IE b ok hcap gd k hgd hk hne w h
 ·exact fun w h=>IE b' ok' CX gd k (by rw[hN.ng];exact hgd) (by rw[hN.dY];exact hk) hne' w h
 ·intro w h
  have:=oz b k w h ok hcap (ji b ok) hk
  rw[e1] at this
  exact this
 ·intro w h
  have:=oz b' k w h ok' CX (ji b' ok') (by rw[hN.dY];exact hk)
  rw[e2] at this
  exact this
end
section
open Go.RowKit
attribute [local go_sem] Oper.semAt_some
theorem YD(P Q:Int→Prop)(lx ly:List Int)(hlx:∀y,y∈lx↔Q y)(Th:∀y,y∈ly↔P y)(h:∀y,P y→Q y):∀i,i<ly.length→hasB lx.length (fun i=>lx.getD i 0) ((fun i=>ly.getD i 0) i)=true:=fun i hi=>(Uf _ _).2 ((hlx _).2 (h _ ((Th _).1 (by simp[List.getD,hi]))))
theorem LK(b b':Bk)(ok:b.Ok)(ok':b'.Ok)(hcap:b.ng≤b.gc)(CX:b'.ng≤b'.gc)(hN:Of b' b)(hm:0<(aB b' (ak b')).length)(good day:Int)(hg:0≤good∧good≤255)(hdy:0≤day∧day≤255)(w:World)(h:b.At w w.heap.size)(h':b'.At w w.heap.size):
 CallsIn FF 0 prog 12 #[b.val,b'.val,.int .u8 good,.int .u8 day] w fun e w'=>e=.returned (.bool true)∧Below w.heap.size w w':=by
 have o1:=ok.dY
 have o2:=ok.bE.1
 have b1:0≤good % (b.ng:Int)∧good % (b.ng:Int)<b.ng:=⟨Int.emod_nonneg _ zo,Int.emod_lt_of_pos _ zo⟩
 have b2:0≤day % (b.dY+1)∧day % (b.dY+1)<b.dY+1:=⟨Int.emod_nonneg _ zo,Int.emod_lt_of_pos _ zo⟩
 obtain⟨gd,hgd⟩:∃gd:Nat,(gd:Int)=good % (b.ng:Int):=⟨(good % (b.ng:Int)).toNat,zo⟩
 obtain⟨k,hk⟩:∃k:Nat,(k:Int)=day % (b.dY+1):=⟨(day % (b.dY+1)).toNat,zo⟩
 obtain⟨n,m,ul,uh,vl,vh,PX,PY,h1,h2,h3,h4,hP,c1,c2,c3,c4,c5,c6⟩:=LJ b b' ok ok' hcap CX hN hm gd k zo zo
 have C1:=hid c1
 have C2:=hid c2
 have C3:=hid c3
 have C4:=hid c4
 have C5:=hid c5
 have C6:=hid c6
 have HP:=hid hP
 have HA:=hid h
 have Kd:=hid h'
 clear c1 c2 c3 c4 c5 c6 hP h h' ok ok' hcap CX hN hm
 obtain⟨dY,mO,gA,ng,gc,g,mA,nm,mc,mm,cA,nc,cc,c⟩:=b
 obtain⟨vg,vG,dg,e8,di,g1,eK,e9,eN,mm1,cX,eR,da,cs1⟩:=b'
 simp only[Bk.val,Bk.cells] at C1 C2 C3 C4 C5 C6 o1 o2 b1 b2 hgd hk⊢
 have e1:IntKind.i64.wrap good=good:=IntWalk.i64_in _ zo
 have e2:IntKind.i64.wrap day=day:=IntWalk.i64_in _ zo
 have e3:IntKind.i64.wrap (good.tmod ng)=gd:=by rw[Int.tmod_eq_emod_of_nonneg hg.1,hgd];exact IntWalk.i64_in _ zo
 have e4:IntKind.i64.wrap (dY+1)=dY+1:=IntWalk.i64_in _ zo
 have e5:IntKind.i64.wrap (day.tmod (dY+1))=k:=by rw[Int.tmod_eq_emod_of_nonneg hdy.1,hk];exact IntWalk.i64_in _ zo
 have EIN:fJ m 1 n=true:=by unfold fJ;simp;omega
 have HIN:=hid (fun(w:World)=>EIN ▸ iN m 1 n w)
 clear EIN
 have z1:((ng:Int) == 0)=false:=zm
 have z2:(dY+1 == 0)=false:=zm
 have z3:¬ ((ng:Int)=0):=zo
 have z4:¬ (dY+1=0):=zo
 have LO:=hid hgd.symm
 have LS:=hid hk.symm
 clear hgd hk b1 b2
 obtain⟨w1,hw1⟩:∃w1,w1=(w.alloc (.cells #[int i64 dY,int i64 mO,.slice gA ng gc,.slice mA nm mc,.slice cA nc cc] 26)).alloc (.cells #[int i64 vg,int i64 vG,.slice dg e8 di,.slice eK e9 eN,.slice cX eR da] 26):=zE
 have BB0:Hid (Below w.heap.size w w1):=hid (by rw[hw1];exact bw)
 have X0:Hid (Whole w1 w.heap.size 26 #[int i64 dY,int i64 mO,.slice gA ng gc,.slice mA nm mc,.slice cA nc cc]):=hid (by rw[hw1];exact(Whole.new _ _ _).alloc _)
 have Y0:Hid (Whole w1 (w.heap.size+1) 26 #[int i64 vg,int i64 vG,.slice dg e8 di,.slice eK e9 eN,.slice cX eR da]):=hid (by rw[hw1];exact aK zs)
 have jd:=hid hw1
 clear hw1
 gi_enter func12,ntmps12
 gi_wp2
 rw[← jd.out]
 have x0:∀o,w1.cell? ⟨w.heap.size,o,none⟩=(#[int i64 dY,int i64 mO,.slice gA ng gc,.slice mA nm mc,.slice cA nc cc]:Array Value)[o]?:=fun o=>X0.out.cell o
 gi_quiet (fail)
 clear x0
 obtain⟨w2,hw2⟩:∃w2,w2=w1.drewN nq:=zE
 have hb2:Below w1.heap.size w1 w2:=by rw[hw2];exact below_drewN zB _
 rw[← hw2]
 clear hw2
 have pD:=hid (BB0.out.trans (hb2.mono BB0.out.size));have X2:=hid (X0.out.below hb2 X0.out.lt);have Y2:=hid (Y0.out.below hb2 Y0.out.lt);have x0:w2.cell? ⟨w.heap.size,0,none⟩=some (int i64 dY):=X2.out.cell 0;have x1:w2.cell? ⟨w.heap.size,1,none⟩=some (int i64 mO):=X2.out.cell 1;have x2:w2.cell? ⟨w.heap.size,2,none⟩=some (.slice gA ng gc):=X2.out.cell 2;have x3:w2.cell? ⟨w.heap.size,3,none⟩=some (.slice mA nm mc):=X2.out.cell 3;have x4:w2.cell? ⟨w.heap.size,4,none⟩=some (.slice cA nc cc):=X2.out.cell 4;have y0:w2.cell? ⟨w.heap.size+1,0,none⟩=some (int i64 vg):=Y2.out.cell 0;have y1:w2.cell? ⟨w.heap.size+1,1,none⟩=some (int i64 vG):=Y2.out.cell 1;have y2:w2.cell? ⟨w.heap.size+1,2,none⟩=some (.slice dg e8 di):=Y2.out.cell 2;have y3:w2.cell? ⟨w.heap.size+1,3,none⟩=some (.slice eK e9 eN):=Y2.out.cell 3;have y4:w2.cell? ⟨w.heap.size+1,4,none⟩=some (.slice cX eR da):=Y2.out.cell 4
 try rw[LO.out]
 try rw[LS.out]
 clear e1 e2 e3 e4 e5 z1 z2 z3 z4 hb2
 gi_wp2_with (first
  | (gi_at_call 11;refine(C1.out _ (HA.out.up pD.out)).mono ?_;rintro e w3 ⟨rfl,hb3⟩;clear C1;clear x0 x1 x2 x3 x4 y0 y1 y2 y3 y4;have si:=hid (pD.out.trans (hb3.mono pD.out.size));have X3:=hid (X2.out.below hb3 X2.out.lt);have Y3:=hid (Y2.out.below hb3 Y2.out.lt);have x0:w3.cell? ⟨w.heap.size,0,none⟩=some (int i64 dY):=X3.out.cell 0;have x1:w3.cell? ⟨w.heap.size,1,none⟩=some (int i64 mO):=X3.out.cell 1;have x2:w3.cell? ⟨w.heap.size,2,none⟩=some (.slice gA ng gc):=X3.out.cell 2;have x3:w3.cell? ⟨w.heap.size,3,none⟩=some (.slice mA nm mc):=X3.out.cell 3;have x4:w3.cell? ⟨w.heap.size,4,none⟩=some (.slice cA nc cc):=X3.out.cell 4;have y0:w3.cell? ⟨w.heap.size+1,0,none⟩=some (int i64 vg):=Y3.out.cell 0;have y1:w3.cell? ⟨w.heap.size+1,1,none⟩=some (int i64 vG):=Y3.out.cell 1;have y2:w3.cell? ⟨w.heap.size+1,2,none⟩=some (.slice dg e8 di):=Y3.out.cell 2;have y3:w3.cell? ⟨w.heap.size+1,3,none⟩=some (.slice eK e9 eN):=Y3.out.cell 3;have y4:w3.cell? ⟨w.heap.size+1,4,none⟩=some (.slice cX eR da):=Y3.out.cell 4)
  | (gi_at_call 11;refine(C2.out _ (Kd.out.up si.out)).mono ?_;rintro e w4 ⟨rfl,hb4⟩;clear C2;clear x0 x1 x2 x3 x4 y0 y1 y2 y3 y4;have sk:=hid (si.out.trans (hb4.mono si.out.size));have X4:=hid (X3.out.below hb4 X3.out.lt);have Y4:=hid (Y3.out.below hb4 Y3.out.lt);have x0:w4.cell? ⟨w.heap.size,0,none⟩=some (int i64 dY):=X4.out.cell 0;have x1:w4.cell? ⟨w.heap.size,1,none⟩=some (int i64 mO):=X4.out.cell 1;have x2:w4.cell? ⟨w.heap.size,2,none⟩=some (.slice gA ng gc):=X4.out.cell 2;have x3:w4.cell? ⟨w.heap.size,3,none⟩=some (.slice mA nm mc):=X4.out.cell 3;have x4:w4.cell? ⟨w.heap.size,4,none⟩=some (.slice cA nc cc):=X4.out.cell 4;have y0:w4.cell? ⟨w.heap.size+1,0,none⟩=some (int i64 vg):=Y4.out.cell 0;have y1:w4.cell? ⟨w.heap.size+1,1,none⟩=some (int i64 vG):=Y4.out.cell 1;have y2:w4.cell? ⟨w.heap.size+1,2,none⟩=some (.slice dg e8 di):=Y4.out.cell 2;have y3:w4.cell? ⟨w.heap.size+1,3,none⟩=some (.slice eK e9 eN):=Y4.out.cell 3;have y4:w4.cell? ⟨w.heap.size+1,4,none⟩=some (.slice cX eR da):=Y4.out.cell 4)
  | (gi_at_call 19;refine(C3.out _ (HA.out.up sk.out)).mono ?_;rintro e w5 ⟨lx,Ax,cx,rfl,hlx,hmx,hix,hb5⟩;clear C3;clear x0 x1 x2 x3 x4 y0 y1 y2 y3 y4;have Jn:=hid (sk.out.trans (hb5.mono sk.out.size));have X5:=hid (X4.out.below hb5 X4.out.lt);have Y5:=hid (Y4.out.below hb5 Y4.out.lt);have x0:w5.cell? ⟨w.heap.size,0,none⟩=some (int i64 dY):=X5.out.cell 0;have x1:w5.cell? ⟨w.heap.size,1,none⟩=some (int i64 mO):=X5.out.cell 1;have x2:w5.cell? ⟨w.heap.size,2,none⟩=some (.slice gA ng gc):=X5.out.cell 2;have x3:w5.cell? ⟨w.heap.size,3,none⟩=some (.slice mA nm mc):=X5.out.cell 3;have x4:w5.cell? ⟨w.heap.size,4,none⟩=some (.slice cA nc cc):=X5.out.cell 4;have y0:w5.cell? ⟨w.heap.size+1,0,none⟩=some (int i64 vg):=Y5.out.cell 0;have y1:w5.cell? ⟨w.heap.size+1,1,none⟩=some (int i64 vG):=Y5.out.cell 1;have y2:w5.cell? ⟨w.heap.size+1,2,none⟩=some (.slice dg e8 di):=Y5.out.cell 2;have y3:w5.cell? ⟨w.heap.size+1,3,none⟩=some (.slice eK e9 eN):=Y5.out.cell 3;have y4:w5.cell? ⟨w.heap.size+1,4,none⟩=some (.slice cX eR da):=Y5.out.cell 4)
  | (gi_at_call 19;refine(C4.out _ (Kd.out.up Jn.out)).mono ?_;rintro e w6 ⟨ly,Ay,cy,rfl,Th,hmy,hiy,hb6⟩;clear C4;clear x0 x1 x2 x3 x4 y0 y1 y2 y3 y4;have pH:=hid (Jn.out.trans (hb6.mono Jn.out.size));have X6:=hid (X5.out.below hb6 X5.out.lt);have Y6:=hid (Y5.out.below hb6 Y5.out.lt);have x0:w6.cell? ⟨w.heap.size,0,none⟩=some (int i64 dY):=X6.out.cell 0;have x1:w6.cell? ⟨w.heap.size,1,none⟩=some (int i64 mO):=X6.out.cell 1;have x2:w6.cell? ⟨w.heap.size,2,none⟩=some (.slice gA ng gc):=X6.out.cell 2;have x3:w6.cell? ⟨w.heap.size,3,none⟩=some (.slice mA nm mc):=X6.out.cell 3;have x4:w6.cell? ⟨w.heap.size,4,none⟩=some (.slice cA nc cc):=X6.out.cell 4;have y0:w6.cell? ⟨w.heap.size+1,0,none⟩=some (int i64 vg):=Y6.out.cell 0;have y1:w6.cell? ⟨w.heap.size+1,1,none⟩=some (int i64 vG):=Y6.out.cell 1;have y2:w6.cell? ⟨w.heap.size+1,2,none⟩=some (.slice dg e8 di):=Y6.out.cell 2;have y3:w6.cell? ⟨w.heap.size+1,3,none⟩=some (.slice eK e9 eN):=Y6.out.cell 3;have y4:w6.cell? ⟨w.heap.size+1,4,none⟩=some (.slice cX eR da):=Y6.out.cell 4;have IX6:=hid (bJ hix hb6);have IY6:=hid hiy)
  | (gi_at_call 23;refine(C5.out _ (HA.out.up pH.out)).mono ?_;rintro e w7 ⟨rfl,xZ⟩;clear C5;have Ui:Below w6.heap.size w6 (w7.alloc (.cells #[int i64 ul,int i64 uh] 28)):=xZ.alloc xZ.size _;clear x0 x1 x2 x3 x4 y0 y1 y2 y3 y4;have JP:=hid (pH.out.trans (Ui.mono pH.out.size));have X7:=hid (X6.out.below Ui X6.out.lt);have Y7:=hid (Y6.out.below Ui Y6.out.lt);have x0:(w7.alloc (.cells #[int i64 ul,int i64 uh] 28)).cell? ⟨w.heap.size,0,none⟩=some (int i64 dY):=X7.out.cell 0;have x1:(w7.alloc (.cells #[int i64 ul,int i64 uh] 28)).cell? ⟨w.heap.size,1,none⟩=some (int i64 mO):=X7.out.cell 1;have x2:(w7.alloc (.cells #[int i64 ul,int i64 uh] 28)).cell? ⟨w.heap.size,2,none⟩=some (.slice gA ng gc):=X7.out.cell 2;have x3:(w7.alloc (.cells #[int i64 ul,int i64 uh] 28)).cell? ⟨w.heap.size,3,none⟩=some (.slice mA nm mc):=X7.out.cell 3;have x4:(w7.alloc (.cells #[int i64 ul,int i64 uh] 28)).cell? ⟨w.heap.size,4,none⟩=some (.slice cA nc cc):=X7.out.cell 4;have y0:(w7.alloc (.cells #[int i64 ul,int i64 uh] 28)).cell? ⟨w.heap.size+1,0,none⟩=some (int i64 vg):=Y7.out.cell 0;have y1:(w7.alloc (.cells #[int i64 ul,int i64 uh] 28)).cell? ⟨w.heap.size+1,1,none⟩=some (int i64 vG):=Y7.out.cell 1;have y2:(w7.alloc (.cells #[int i64 ul,int i64 uh] 28)).cell? ⟨w.heap.size+1,2,none⟩=some (.slice dg e8 di):=Y7.out.cell 2;have y3:(w7.alloc (.cells #[int i64 ul,int i64 uh] 28)).cell? ⟨w.heap.size+1,3,none⟩=some (.slice eK e9 eN):=Y7.out.cell 3;have y4:(w7.alloc (.cells #[int i64 ul,int i64 uh] 28)).cell? ⟨w.heap.size+1,4,none⟩=some (.slice cX eR da):=Y7.out.cell 4;have U7:=hid (Whole.new w7 28 #[int i64 ul,int i64 uh]))
  | (gi_at_call 23;refine(C6.out _ (Kd.out.up JP.out)).mono ?_;rintro e w8 ⟨rfl,Xm⟩;clear C6;clear x0 x1 x2 x3 x4 y0 y1 y2 y3 y4;have Yq:Below (w7.alloc (.cells #[int i64 ul,int i64 uh] 28)).heap.size (w7.alloc (.cells #[int i64 ul,int i64 uh] 28)) (w8.alloc (.cells #[int i64 vl,int i64 vh] 28)):=Xm.alloc Xm.size _;have BB9:=hid (JP.out.trans (Yq.mono JP.out.size));have IX9:=hid (bJ (bJ IX6.out Ui) Yq);have IY9:=hid (bJ (bJ IY6.out Ui) Yq);have U9:=U7.out.below Yq U7.out.lt;have V9:=Whole.new w8 28 #[int i64 vl,int i64 vh];have p0:=U9.cell 0;have p1:=U9.cell 1;have p2:=V9.cell 0;have p3:=V9.cell 1;have q1:decide (vl≥ul)=true:=decide_eq_true h3;have q2:decide (vh≤uh)=true:=decide_eq_true h4;clear U9 V9)
  | (gi_at_call 40;refine(HIN.out _).mono ?_;rintro e w' ⟨rfl,rfl⟩;have hins:=YD PY PX lx ly hlx Th HP.out)
  | (gi_at_call 41;refine(Lh Ay Ax ly.length cy lx.length cx _ _ _ _ IY9.out IX9.out hmy hmx hins).mono ?_;rintro e w' ⟨rfl,rfl⟩))
 all_goals (go_ret;exact⟨rfl,BB9.out⟩)
end
section
open Go.RowKit
def Xc:Bk:=⟨0,0,none,0,0,fun _=>⟨.empty,0,0,0,0⟩,none,0,0,fun _=>⟨0,0,0,0,0⟩,none,0,0,fun _=>⟨0,0,0,0⟩⟩
theorem Dy(w:World):CallsIn FF 0 prog 9 #[.agg #[int i64 0,int i64 0,.slice none 0 0,.slice none 0 0,.slice none 0 0],.agg #[int i64 0,int i64 0,.slice none 0 0,.slice none 0 0,.slice none 0 0]] w fun e w'=>e=.returned (.bool true)∧Below w.heap.size w w':=
 have h:Xc.At w w.heap.size:=⟨fun h=>absurd h (Nat.lt_irrefl 0),fun h=>absurd h (Nat.lt_irrefl 0),fun h=>absurd h (Nat.lt_irrefl 0),Nat.zero_le _,Nat.zero_le _,Nat.zero_le _,fun _ h=>absurd h (Nat.not_lt_zero _)⟩
 VH Xc none 0 none 0 none 0 w h h
theorem Mj(b:Bk)(x:Ct)(G:Option Addr)(gc:Nat)(A:Option Addr)(k:Nat)(C:Option Addr)(cc:Nat)(A':Option Addr)(k':Nat)(w:World)(h:(b.noted x G gc A k C cc).At w w.heap.size)(h':(b.noted x b.gA b.gc b.mA b.mc A' k').At w w.heap.size):
 CallsIn FF 0 prog 9 #[.agg #[int i64 b.dY,int i64 b.mO,.slice G b.ng gc,.slice A b.nm k,.slice C (b.nc+1) cc],.agg #[int i64 b.dY,int i64 b.mO,.slice b.gA b.ng b.gc,.slice b.mA b.nm b.mc,.slice A' (b.nc+1) k']] w fun e w'=>e=.returned (.bool true)∧Below w.heap.size w w':=
 VH (b.noted x G gc A k C cc) b.gA b.gc b.mA b.mc A' k' w h h'
theorem Kq(b:Bk)(ok:b.Ok)(x:Ct)(A:Option Addr)(k:Nat)(w:World)(h:(b.noted x b.gA b.gc b.mA b.mc A k).At w w.heap.size):CallsIn FF 0 prog 15 #[.agg #[int i64 b.dY,int i64 b.mO,.slice b.gA b.ng b.gc,.slice b.mA b.nm b.mc,.slice A (b.nc+1) k]] w fun e w'=>e=.returned (int i64 (jX b x))∧Below w.heap.size w w':=
 TN (b.noted x b.gA b.gc b.mA b.mc A k) w h (Dl b x b.gA b.gc b.mA b.mc A k ok) (Nat.succ_le_succ (Nat.zero_le _))
theorem Lg(b:Bk)(ok:b.Ok)(hcap:b.ng≤b.gc)(x:Ct)(h0:jX b x=0):∃nH:Nat,(b.nM x=true↔nH=0)∧∀ (A:Option Addr) (k:Nat) (w:World),(b.noted x b.gA b.gc b.mA b.mc A k).At w w.heap.size→
 CallsIn FF 0 prog 11 #[.agg #[int i64 b.dY,int i64 b.mO,.slice b.gA b.ng b.gc,.slice b.mA b.nm b.mc,.slice A (b.nc+1) k]] w fun e w'=>e=.returned (.tuple #[int i64 nH,int i64 0])∧Below w.heap.size w w':=by
 obtain⟨hn,hx⟩:=qV h0
 refine⟨(aB (b.noted x none 0 none 0 none 0) (ak (b.noted x none 0 none 0 none 0))).length,by unfold Bk.nM;rw[List.isEmpty_iff,← List.length_eq_zero_iff],fun A k w h=>?_⟩
 have ok':=sO b x b.gA b.gc b.mA b.mc A k ok hn hx
 have:=gG _ w h ok' hcap (ji _ ok') (sj _ ok')
 rw[sP b x b.gA b.gc b.mA b.mc A k] at this
 exact this
theorem yB(b:Bk)(ok:b.Ok)(hcap:b.ng≤b.gc)(x:Ct)(h0:jX b x=0)(ht:b.nM x=false)(good day:Int)(hg:0≤good∧good≤255)(hdy:0≤day∧day≤255)
 (G:Option Addr)(gc:Nat)(A:Option Addr)(k:Nat)(C:Option Addr)(cc:Nat)(hgc:b.ng≤gc)(w:World)(h:b.At w w.heap.size)(h':(b.noted x G gc A k C cc).At w w.heap.size):
 CallsIn FF 0 prog 12 #[.agg b.cells,.agg #[int i64 b.dY,int i64 b.mO,.slice G b.ng gc,.slice A b.nm k,.slice C (b.nc+1) cc],.int .u8 good,.int .u8 day] w fun e w'=>e=.returned (.bool true)∧Below w.heap.size w w':=by
 obtain⟨hn,hx⟩:=qV h0
 refine LK b (b.noted x G gc A k C cc) ok (sO b x G gc A k C cc ok hn hx) hcap hgc (Qt b x G gc A k C cc) ?_ good day hg hdy w h h'
 rw[sP b x G gc A k C cc]
 unfold Bk.nM at ht
 cases hL:aB (b.noted x none 0 none 0 none 0) (ak (b.noted x none 0 none 0 none 0)) with
 | nil=>rw[hL] at ht;cases ht
 | cons y l=>simp
end
end Go.Proofs.YtpmafoalhnaokaaGreat
