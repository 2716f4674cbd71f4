/- WN WK HV HM Qr HN -/
import Derived.Test.YthaelabgfnnebaaGreatE0
import Derived.Shelf.SlIterI.Sorted
import Derived.Shelf.SortM.AssemblyIn
import Derived.Shelf.SortM.SortNone
import Derived.Ground.GgzProg
import Derived.Ground.SlgmProg
import Derived.Maps.OwnIn
import Derived.Maps.OwnSet
set_option maxRecDepth 100000
set_option maxHeartbeats 16000000
set_option linter.unusedVariables false
set_option linter.unusedSectionVars false
open Go.IntKind(i64)
open Go.Lib(hid)
open Go.Proofs.Tryz
open Go.Value(int)
namespace Go.Proofs.YthaelabgfnnebaaGreat
section
open Go.RowKit
open Go.Sort (grow)
attribute [local go_sem] Oper.semAt_some
theorem Tryz.infoCt:(Tryz.prog.info? 99).map (fun i=>(i.zero,i.size,i.bytes))=some (some (.agg #[int i64 0,int i64 0,int i64 0,int i64 0]),4,32):=zk
def we(c:Ct):List Value:=[int i64 c.good,int i64 c.day,int i64 c.lo,int i64 c.hi]
def IK(f:Nat→Ct)(k:Nat):List Value:=(List.range k).flatMap fun i=>we (f i)
theorem sw(f:Nat→Ct)(k:Nat):IK f (k+1)=IK f k ++ we (f k):=by unfold IK;rw[List.range_succ,List.flatMap_append];simp
theorem qU(f:Nat→Ct):∀k,(IK f k).length=k * 4
 | 0=>rfl
 | Nat.succ k=>by rw[sw,List.length_append,qU f k];simp[we];omega
theorem KD(f:Nat→Ct):∀ (k:Nat) {i j:Nat},i<k→j<4→(IK f k)[i * 4+j]? =some ((f i).cell j)
 | 0,_,_,h,_=>zo
 | Nat.succ k,i,j,h,hj=>by
   rw[sw]
   rcases Nat.lt_or_ge i k with h1|h1
   ·rw[List.getElem?_append_left (by rw[qU];omega)]
    exact KD f k h1 hj
   ·obtain rfl:i=k:=zo
    rw[List.getElem?_append_right (by rw[qU];omega),qU]
    rw[show i * 4+j - i * 4=j by omega]
    rcases(show j=0∨j=1∨j=2∨j=3 by omega) with rfl|rfl|rfl|rfl <;> rfl
def QI(b:Bk)(s:Nat)(i:Nat):Ct:=b.c ((aL s 10).getD i 0).toNat
def jd(b:Bk)(s:Nat)(A:Option Addr)(cc:Nat):Bk:=⟨b.days,b.most,b.gA,b.ng,b.gc,b.g,b.mA,b.nm,b.mc,b.m,A,(aL s 10).length,cc,QI b s⟩
theorem UG(b:Bk)(s:Nat)(A:Option Addr)(n p:Nat)(w:World)(hA:b.At w w.heap.size)(hs:s<1024)(hin:∀x∈aL s 10,0≤x∧x<b.nc):
 CallsIn SF 0 prog 84 #[.agg (aA b A n p),int i64 s] w fun e w'=>∃A' cc',e=.returned (.agg (aA (jd b s A' cc') A n p))∧Rows w' w'.heap.size 4 A' (aL s 10).length (fun i j=>(QI b s i).cell j)∧Below w.heap.size w w':=by
 have HS:=hid fun w=>Go.Proofs.YthaelabgfnnebaaGreat.W.l8 s w hs
 obtain⟨f,hf⟩:∃f,f=QI b s:=⟨_,rfl⟩
 obtain⟨m',hm'⟩:∃m,m=(aL s 10).length:=⟨_,rfl⟩
 have VC:m'≤10:=by rw[hm'];exact sS s 10
 have HF:Hid (∀k,k<m'→∃j:Nat,(aL s 10).getD k 0=(j:Int)∧j<b.nc∧f k=b.c j):=hid fun k hk=>by
  rw[hm'] at hk
  have hmem:(aL s 10).getD k 0∈aL s 10:=by rw[List.getD_eq_getElem?_getD,List.getElem?_eq_getElem hk];exact List.getElem_mem hk
  have:=hin _ hmem
  refine⟨((aL s 10).getD k 0).toNat,zo,zo,by rw[hf];rfl⟩
 have hnc:m'=0∨0<b.nc:=by
  rcases Nat.eq_zero_or_pos m' with h|h
  ·exact .inl h
  ·obtain⟨j,_,hj,_⟩:=HF.out 0 h
   exact .inr zo
 have HE:Hid (∀A' cc',aA (jd b s A' cc') A n p=#[int i64 b.days,int i64 b.most,.slice b.gA b.ng b.gc,.slice b.mA b.nm b.mc,.slice A' m' cc',.slice A n p]):=hid fun A' cc'=>by rw[hm'];rfl
 have goal:∀ (e:Ending) (w':World),(∃A' cc',e=.returned (.agg #[int i64 b.days,int i64 b.most,.slice b.gA b.ng b.gc,.slice b.mA b.nm b.mc,.slice A' m' cc',.slice A n p])∧Rows w' w'.heap.size 4 A' m' (fun i j=>(f i).cell j)∧Below w.heap.size w w')→∃A' cc',e=.returned (.agg (aA (jd b s A' cc') A n p))∧Rows w' w'.heap.size 4 A' (aL s 10).length (fun i j=>(QI b s i).cell j)∧Below w.heap.size w w':=fun e w' ⟨A',cc',h1,h2,h3⟩=>⟨A',cc',by rw[HE.out];exact h1,by rw[← hm',← hf];exact h2,h3⟩
 refine CallsIn.mono ?_ goal
 obtain⟨L,hL⟩:∃L,L=aL s 10:=⟨_,rfl⟩
 rw[← hL] at HS HF hm'
 have HM:=hid hm'
 have HA:=hid hA
 obtain⟨i0,hi,hz0,hz1,hz2⟩:=info_parts Tryz.infoCt
 have hi0:=hid hi
 clear hi hf hm' hA hin hL goal HE
 obtain⟨days,most,gA,ng,gc,g,mA,nm,mc,m,cA,nc,cc,c⟩:=b
 simp only[aA] at HF hnc⊢
 obtain⟨w1,hw1⟩:∃w1,w1=(w.alloc (.cells #[int i64 days,int i64 most,.slice gA ng gc,.slice mA nm mc,.slice cA nc cc,.slice A n p] 76)).alloc (.cells #[int i64 0,int i64 0,.slice none 0 0,.slice none 0 0,.slice none 0 0,.slice none 0 0] 76):=⟨_,rfl⟩
 have B1:Hid (Below w.heap.size w w1):=hid (by rw[hw1];exact bw)
 have X1:Hid (Whole w1 w.heap.size 76 #[int i64 days,int i64 most,.slice gA ng gc,.slice mA nm mc,.slice cA nc cc,.slice A n p]):=hid (by rw[hw1];exact(Whole.new _ _ _).alloc _)
 have Y1:Hid (Whole w1 (w.heap.size+1) 76 #[int i64 0,int i64 0,.slice none 0 0,.slice none 0 0,.slice none 0 0,.slice none 0 0]):=hid (by
  have:=Whole.new (w.alloc (.cells #[int i64 days,int i64 most,.slice gA ng gc,.slice mA nm mc,.slice cA nc cc,.slice A n p] 76)) 76 #[int i64 0,int i64 0,.slice none 0 0,.slice none 0 0,.slice none 0 0,.slice none 0 0]
  rw[World.size_alloc] at this;rw[hw1];exact this)
 have hs1:w1.heap.size=w.heap.size+2:=by rw[hw1];simp
 have lV:=hid hw1
 clear hw1
 gi_enter func84,ntmps84
 gi_wp2_with (gi_at_call 96;rw[← lV.out];refine(HS.out w1).mono ?_;rintro e w3 ⟨v,rfl,hown,hb3⟩;obtain⟨AL,cL,rfl⟩:=fF hown;have HI:=hid (dW hown);have HB3:=hid hb3;rw[← HM.out];rw[← HM.out] at HI)
 have X3:=hid (X1.out.below HB3.out X1.out.lt)
 have Y3:=hid (Y1.out.below HB3.out Y1.out.lt)
 have hs3:=hb3.size
 have Nd:Hid (Below w.heap.size w w3):=hid (B1.out.trans (hb3.mono B1.out.size))
 clear hown hb3 lV
 gi_loopw [5,11] (fun l i wr=>∃k:Nat,k≤m'∧i=int i64 k∧Hid (wr.ownsRow w3.heap.size 99 4 l k (IK f k)∧Below w3.heap.size w3 wr)) (fun _ i _=>m' - (intOf i).toNat)
 case atStart=>exact⟨0,Nat.zero_le _,rfl,hid ⟨⟨by simp[IK],.inl ⟨rfl,zs⟩⟩,Below.refl _ _⟩⟩
 case round=>
  obtain⟨k,hk,rfl,hT⟩:=hrel
  obtain⟨A9,n9,p9,rfl⟩:=gK hT.out.1
  obtain⟨wo,rfl⟩:∃wo:World,wo=wr:=⟨_,rfl⟩
  have hso:=hT.out.2.size
  have X4:=hid (X3.out.below hT.out.2 X3.out.lt)
  have Y4:=hid (Y3.out.below hT.out.2 Y3.out.lt)
  have BO:Hid (Below w.heap.size w wo):=hid (Nd.out.trans (hT.out.2.mono zo))
  by_cases hlt:k<m'
  ·obtain⟨j,hj1,hj2,hj3⟩:=HF.out k hlt
   obtain⟨ad,hA',hbl,-⟩:=HA.out.c (show 0<nc by omega)
   simp only at hA' hj2 hj3
   subst hA'
   obtain⟨al,To,hall,-⟩:=HI.out (show 0<m' by omega)
   subst To
   have d0:wo.cell? (al.add k)=some (int i64 j):=by
    refine(hT.out.2.cell (by rw[aJ];exact hall)).trans ?_
    have:=HI.out.at_ hlt
    rw[hj1] at this
    exact this
   have hr:∀q,q<4→wo.cell? ((ad.add (j * 4)).add q)=some ((f k).cell q):=fun q hq=>by rw[hj3];exact((HA.out.c.below BO.out).row hj2).2 q hq
   obtain⟨fk,ai⟩:∃fk,fk=f k:=⟨_,rfl⟩
   rw[← ai] at hr
   have On:=hid ai
   obtain⟨gd,dy,lo,hi⟩:=fk
   have c0:wo.cell? (ad.add (j * 4))=some (int i64 gd):=hr 0 zD
   have c1:wo.cell? ⟨(ad.add (j * 4)).block,(ad.add (j * 4)).off+1,none⟩=some (int i64 dy):=hr 1 zD
   have c2:wo.cell? ⟨(ad.add (j * 4)).block,(ad.add (j * 4)).off+2,none⟩=some (int i64 lo):=hr 2 zD
   have c3:wo.cell? ⟨(ad.add (j * 4)).block,(ad.add (j * 4)).off+3,none⟩=some (int i64 hi):=hr 3 zD
   have x4:wo.cell? ⟨w.heap.size,4,none⟩=some (.slice (some ad) nc cc):=X4.out.cell 4
   clear hr hj1 hj3 ai
   have Ho:=hid hT.out.1
   gi_wp2_with (gi_at_builtin;refine aG rfl rfl rfl fun K5 ko=>?_;refine wp_append_lies _ _ _ _ rfl w3.heap.size 99 i0 _ 4 32 underlying24 hi0.out hz0 hz1 hz2 rfl zo (.slice A9 n9 p9) k _ rfl (bn Ho.out _) ⟨wo.heap.size,0,none⟩ 1 1 [int i64 gd,int i64 dy,int i64 lo,int i64 hi] rfl rfl (World.news_of_block (heap_alloc_new wo _)) (by simp[Value.oneCell']) zo zU zo zm (wo.heap.size+1) zs ?_;intro rV qO w10 hown5 aZ ow qW;refine ko _ _ ?_;clear ko K5)
   exact⟨⟨k+1,hlt,by push_cast;rfl,hid ⟨by rw[sw,← On.out];exact hown5,(hT.out.2.alloc hso _).trans (below_grown aZ zm (fun g hg=>(dN Ho.out hg).1))⟩⟩,by simp[intOf];omega⟩
  ·obtain rfl:k=m':=zo
   obtain⟨A',c',hv'⟩:=fF hT.out.1
   injection hv' with h1 h2 h3
   subst h1 h2 h3
   have x0:wo.cell? ⟨w.heap.size,0,none⟩=some (int i64 days):=X4.out.cell 0
   have x1:wo.cell? ⟨w.heap.size,1,none⟩=some (int i64 most):=X4.out.cell 1
   have x2:wo.cell? ⟨w.heap.size,2,none⟩=some (.slice gA ng gc):=X4.out.cell 2
   have x3:wo.cell? ⟨w.heap.size,3,none⟩=some (.slice mA nm mc):=X4.out.cell 3
   have x4:wo.cell? ⟨w.heap.size,4,none⟩=some (.slice cA nc cc):=X4.out.cell 4
   have x5:wo.cell? ⟨w.heap.size,5,none⟩=some (.slice A n p):=X4.out.cell 5
   have y0:wo.cell? ⟨w.heap.size+1,0,none⟩=some (int i64 0):=Y4.out.cell 0
   have y1:wo.cell? ⟨w.heap.size+1,1,none⟩=some (int i64 0):=Y4.out.cell 1
   have y2:wo.cell? ⟨w.heap.size+1,2,none⟩=some (.slice none 0 0):=Y4.out.cell 2
   have y3:wo.cell? ⟨w.heap.size+1,3,none⟩=some (.slice none 0 0):=Y4.out.cell 3
   have y4:wo.cell? ⟨w.heap.size+1,4,none⟩=some (.slice none 0 0):=Y4.out.cell 4
   have y5:wo.cell? ⟨w.heap.size+1,5,none⟩=some (.slice none 0 0):=Y4.out.cell 5
   have xth:=X4.out.thaw
   have yth:=Y4.out.thaw
   gi_wp2
   have U:=((((((Y4.out.other (p:=⟨w.heap.size,4,none⟩) zs (.slice A9 n9 p9)).set 0 (int i64 days)).set 1 (int i64 most)).set 2 (.slice gA ng gc)).set 3 (.slice mA nm mc)).set 4 (.slice A9 n9 p9)).set 5 (.slice A n p)
   have u0:=U.cell 0
   have u1:=U.cell 1
   have u2:=U.cell 2
   have u3:=U.cell 3
   have u4:=U.cell 4
   have u5:=U.cell 5
   refine bodyPost_ret (v:=.agg #[int i64 days,int i64 most,.slice gA ng gc,.slice mA nm mc,.slice A9 n9 p9,.slice A n p]) (by simp[results,results84,go_sem,u0,u1,u2,u3,u4,u5]) rfl ⟨_,_,rfl,?_,?_⟩
   ·intro hn0
    obtain⟨g9,cp9,hg0,hg1,hg2⟩:=hT.out.1.form hn0
    injection hg0 with h1 h2 h3
    subst h1
    refine⟨_,rfl,by simpa [World.setCell] using hg2,fun i j hi hj=>?_⟩
    have hcl:=hT.out.1.cells (g:=g9) rfl (i * 4+j) _ (KD f n9 hi hj)
    refine Eq.trans ?_ hcl
    have hne:∀q:Addr,q.block=w.heap.size∨q.block=w.heap.size+1→∀ (W:World) (v:Value),(W.setCell q v).cell? ((⟨g9,0,none⟩:Addr).add (i * 4+j))=W.cell? ((⟨g9,0,none⟩:Addr).add (i * 4+j)):=fun q hq W v=>World.cell?_of_block (Below.heap_setCell _ _ _ _ (by rw[aJ];simp only;omega))
    rw[hne _ (.inr rfl),hne _ (.inr rfl),hne _ (.inr rfl),hne _ (.inr rfl),hne _ (.inr rfl),hne _ (.inr rfl),hne _ (.inl rfl)]
   ·exact((((((BO.out.setCell (p:=⟨w.heap.size,4,none⟩) zs _).setCell zs _).setCell zs _).setCell zs _).setCell zs _).setCell zs _).setCell zs _
theorem ZN(b:Bk)(s:Nat)(A:Option Addr)(cc:Nat)(ok:b.Ok)(h4:(aL s 10).length≤4)(hin:∀x∈aL s 10,0≤x∧x<b.nc):(jd b s A cc).Ok:={
 days:=ok.days
 most:=ok.most
 bJ:=⟨ok.bJ.1,fun i hi=>let h:=ok.bJ.2 i hi;⟨h.name,h.other,h.cost,h.pack,h.few⟩⟩
 moves:=⟨ok.moves.1,fun i hi=>let h:=ok.moves.2 i hi;⟨h.kind,h.good,h.day,h.order,h.few⟩⟩
 counts:=⟨h4,fun i hi=>by
  have hi':i<(aL s 10).length:=hi
  have hmem:(aL s 10).getD i 0∈aL s 10:=by rw[List.getD_eq_getElem?_getD,List.getElem?_eq_getElem hi'];exact List.getElem_mem hi'
  have hx:=hin _ hmem
  have h:=ok.counts.2 ((aL s 10).getD i 0).toNat zo
  exact⟨h.good,h.day,h.many⟩⟩ }
theorem JL(b:Bk)(ok:b.Ok)(ls:List Nat)(hl:∀s∈ls,cO s)(hn:ls.length≤64)(A:Option Addr)(p Bc:Nat)(w:World)(hA:b.At w w.heap.size)(hR:Rows w w.heap.size 1 A ls.length (fun i _=>int i64 ((ls.getD i 0:Nat):Int)))(hb:Whole w Bc 76 (aA b A ls.length p)):pG SF 76 #[.pointer (some ⟨Bc,0,none⟩)] (aC b ls) w:=by
 refine⟨zs,enters_of func76 zk rfl,fun C W hW hC=>?_⟩
 exact Je (p:=SF.fn) b ok A p ls hl hn C w.heap.size Bc W (fun x hx=>(hC x hx).2) (hb.below hW hb.lt) (hR.below hW) (hA.below hW) hW.size (fun h=>by have:=(hC _ h).1;have:=hb.lt;omega) (fun x hx h=>by have:=(hC _ h).1;omega)
end
section
open Go.RowKit
theorem vk(most:Int)(G M C:Nat):ak (Tb most G M C)=[0,1,8,9]:=zk
theorem eH(most:Int)(G M C:Nat):∀s∈ak (Tb most G M C),cO s:=by
 rw[vk]
 intro s hs
 simp at hs
 unfold cO
 omega
theorem jQ(most:Int)(hm:0≤most∧most≤2)(G M C:Nat):(Tb most G M C).Ok:={
 days:=(by decide:(1:Int)≤10∧(10:Int)≤99)
 most:=hm
 bJ:=⟨(by decide:1≤2∧2≤3),fun i hi=>by
  have hi:i<2:=hi
  rcases(show i=0∨i=1 by omega) with rfl|rfl
  ·exact⟨of_decide_eq_true zk,fun j hj=>zo,(by decide:(0:Int)≤5∧(5:Int)≤999),(by decide:(1:Int)≤4∧(4:Int)≤20),of_decide_eq_true zk⟩
  ·refine⟨of_decide_eq_true zk,fun j hj=>?_,(by decide:(0:Int)≤2∧(2:Int)≤999),(by decide:(1:Int)≤10∧(10:Int)≤20),of_decide_eq_true zk⟩
   obtain rfl:j=0:=zo
   exact of_decide_eq_true zk⟩
 moves:=⟨(by decide:4≤6),fun i hi=>by
  have hi:i<4:=hi
  rcases(show i=0∨i=1∨i=2∨i=3 by omega) with rfl|rfl|rfl|rfl
  all_goals exact⟨of_decide_eq_true zk,of_decide_eq_true zk,of_decide_eq_true zk,of_decide_eq_true zk,of_decide_eq_true zk⟩⟩
 counts:=⟨(by decide:2≤4),fun i hi=>by
  have hi:i<2:=hi
  rcases(show i=0∨i=1 by omega) with rfl|rfl
  all_goals exact⟨of_decide_eq_true zk,of_decide_eq_true zk,of_decide_eq_true zk⟩⟩ }
theorem kT(G M C:Nat):(aC (Tb 1 G M C) (ak (Tb 1 G M C))).length=4:=zk
theorem py(G M C:Nat):((aC (Tb 1 G M C) (ak (Tb 1 G M C))).filter fun h=>h.FE 3).length=4:=zk
theorem px(G M C:Nat):((aC (Tb 1 G M C) (ak (Tb 1 G M C))).filter fun h=>h.FE 0).length=0:=zk
theorem Xv(G M C:Nat):bf (fun h=>kr (Tb 1 G M C) h 1 1 10 4) (aC (Tb 1 G M C) (ak (Tb 1 G M C)))=(0,1,true):=zk
theorem TH(G M C:Nat):bf (fun h=>iC (Tb 1 G M C) (stk (Tb 1 G M C) h 10 4) 2) (aC (Tb 1 G M C) (ak (Tb 1 G M C)))=(30,35,true):=zk
theorem TB(G M C:Nat):bf (fun h=>IntKind.i64.wrap ((stk (Tb 1 G M C) h 10 4 0).tdiv 2)) (aC (Tb 1 G M C) (ak (Tb 1 G M C)))=(2,2,true):=zk
theorem dC(G M C:Nat):CQ (Tb 1 G M C) (ak (Tb 1 G M C)).length=[8]:=zk
theorem OE(G M C:Nat)(A:Option Addr)(cc:Nat):(aC (jd (Tb 0 G M C) 0 A cc) (ak (Tb 0 G M C))).isEmpty=false:=zk
theorem OG(G M C:Nat)(A:Option Addr)(cc:Nat):(aC (jd (Tb 0 G M C) 1 A cc) (ak (Tb 0 G M C))).isEmpty=false:=zk
theorem OH(G M C:Nat)(A:Option Addr)(cc:Nat):(aC (jd (Tb 0 G M C) 2 A cc) (ak (Tb 0 G M C))).isEmpty=true:=zk
theorem OI(G M C:Nat)(A:Option Addr)(cc:Nat):(aC (jd (Tb 0 G M C) 3 A cc) (ak (Tb 0 G M C))).isEmpty=true:=zk
def rates:Nat→Int
 | 0=>2
 | _=>3
theorem Xr(G M C:Nat):qN (Tb 1 G M C) rates 4 2=[1,1]:=zk
theorem Xt(G M C:Nat):qR (Tb 1 G M C) rates 4 2=40:=zk
theorem XC(G M C:Nat):∀k,k<2→(bC (Tb 1 G M C) k).2.2=true:=fun k hk=>by
 rcases(show k=0∨k=1 by omega) with rfl|rfl
 ·kernel_rfl
 ·kernel_rfl
end
section
open Go Go.RowKit Go.Maps Go.Sort Go.Shelf
def AA:Go.Shelf.Ren:=⟨fun|7=>75|10=>99|n=>n,fun|23=>115|26=>3|3=>4|28=>118|0=>0|27=>117|33=>82|4=>4|n=>n,fun|n=>n⟩
theorem YF:Go.Proofs.SlLaysZI.n7 prog AA:=⟨zk,⟨Tryz.f75.name,zD,Tryz.func75.trans (congrArg some zk)⟩,⟨Tryz.f99.name,zD,Tryz.func99.trans (congrArg some zk)⟩,zk,isAgg0,sizeOf0,zeroValue0,zk,isAgg4,sizeOf4,zeroValue4,zk,isAgg115,sizeOf115,zeroValue115,zk,isAgg3,sizeOf3,zeroValue3,zk,isAgg117,sizeOf117,zeroValue117,zk,isAgg118,sizeOf118,zeroValue118,zk,isAgg82,sizeOf82,zeroValue82⟩
def uo:Go.Shelf.Ren:=⟨fun|6=>74|8=>97|9=>98|11=>124|13=>126|12=>125|23=>168|24=>169|14=>159|15=>160|16=>161|17=>162|18=>163|19=>164|20=>165|21=>166|22=>167|25=>180|26=>181|27=>182|28=>183|29=>184|30=>170|31=>187|n=>n,fun|26=>3|28=>118|24=>30|0=>0|3=>3|37=>141|48=>162|50=>159|4=>4|40=>203|39=>202|45=>198|5=>5|9=>9|51=>217|55=>220|57=>224|58=>111|33=>82|n=>n,fun|n=>n⟩
theorem WM:Go.Proofs.SlLaysZI.n6 prog uo:=⟨zk,⟨Tryz.f74.name,zD,Tryz.func74.trans (congrArg some zk)⟩,⟨Tryz.f97.name,zD,Tryz.func97.trans (congrArg some zk)⟩,⟨Tryz.f124.name,zD,Tryz.func124.trans (congrArg some zk)⟩,zk,isAgg0,sizeOf0,zeroValue0,zk,isAgg30,sizeOf30,zeroValue30,zk,isAgg3,sizeOf3,zeroValue3,zk,isAgg118,sizeOf118,zeroValue118,zk⟩
def Oa:Go.Shelf.Ren:=⟨fun|5=>98|8=>126|7=>125|19=>168|20=>169|10=>159|11=>160|12=>161|13=>162|14=>163|15=>164|16=>165|17=>166|18=>167|30=>180|31=>181|32=>182|33=>183|34=>184|35=>170|40=>187|n=>n,fun|23=>30|25=>3|3=>3|32=>141|22=>30|0=>0|44=>162|46=>159|4=>4|36=>203|35=>202|41=>198|5=>5|9=>9|53=>217|57=>220|63=>224|64=>111|n=>n,fun|n=>n⟩
theorem YJ:Go.Proofs.SlLaysM.n5 prog Oa:=⟨zk,⟨Tryz.f98.name,zD,Tryz.func98.trans (congrArg some zk)⟩,⟨Tryz.f125.name,zD,Tryz.func125.trans (congrArg some zk)⟩,Tryz.func126.trans (congrArg some zk),⟨Tryz.f159.name,zD,Tryz.func159.trans (congrArg some zk)⟩,⟨Tryz.f160.name,zD,Tryz.func160.trans (congrArg some zk)⟩,⟨Tryz.f161.name,zD,Tryz.func161.trans (congrArg some zk)⟩,⟨Tryz.f162.name,zD,Tryz.func162.trans (congrArg some zk)⟩,⟨Tryz.f163.name,zD,Tryz.func163.trans (congrArg some zk)⟩,⟨Tryz.f164.name,zD,Tryz.func164.trans (congrArg some zk)⟩,⟨Tryz.f165.name,zD,Tryz.func165.trans (congrArg some zk)⟩,⟨Tryz.f166.name,zD,Tryz.func166.trans (congrArg some zk)⟩,⟨Tryz.f167.name,zD,Tryz.func167.trans (congrArg some zk)⟩,Tryz.func168.trans (congrArg some zk),Tryz.func169.trans (congrArg some zk),⟨Tryz.f180.name,zD,Tryz.func180.trans (congrArg some zk)⟩,Tryz.func181.trans (congrArg some zk),Tryz.func182.trans (congrArg some zk),⟨Tryz.f183.name,zD,Tryz.func183.trans (congrArg some zk)⟩,⟨Tryz.f184.name,zD,Tryz.func184.trans (congrArg some zk)⟩,⟨Tryz.f170.name,zD,Tryz.func170.trans (congrArg some zk)⟩,⟨Tryz.f187.name,zD,Tryz.func187.trans (congrArg some zk)⟩,zk,isAgg0,sizeOf0,zeroValue0,zk,isAgg3,sizeOf3,zeroValue3,zk,isAgg4,sizeOf4,zeroValue4,zk,isAgg5,sizeOf5,zeroValue5,zk,isAgg9,sizeOf9,zeroValue9,zk,isAgg30,sizeOf30,zeroValue30,zk,isAgg30,sizeOf30,zeroValue30,zk,isAgg3,sizeOf3,zeroValue3,zk,isAgg141,sizeOf141,zeroValue141,zk,isAgg202,sizeOf202,zeroValue202,zk,isAgg203,sizeOf203,zeroValue203,zk,isAgg198,sizeOf198,zeroValue198,zk,isAgg162,sizeOf162,zeroValue162,zk,isAgg159,sizeOf159,zeroValue159,zk,isAgg217,sizeOf217,zeroValue217,zk,isAgg220,sizeOf220,zeroValue220,zk,isAgg224,sizeOf224,zeroValue224,zk,isAgg111,sizeOf111,zeroValue111⟩
def Ax(g:Nat):Bool:=decide ((3≤g∧g<109)∨(113≤g∧g<135)∨(153≤g∧g<171)∨(176≤g∧g<188))
theorem kM{g:Nat}(h:Ax g=true):FF.fn g:=(pR g).2 (by unfold Ax at h;exact of_decide_eq_true h)
theorem Lf{L:List Nat}(h:L.all Ax=true):∀x∈L,FF.fn x:=fun x hx=>kM (List.all_eq_true.1 h x hx)
theorem pS{L:List FuncId}{n m:Nat}{P:Program}{f:FuncId}{args:Array Value}{w:World}{R:Ending→World→Prop}(hL:∀x∈L,FF.fn x)(hf:FF.fn f)(h:∀D,CallsIn (Fence.list L (some D)) n P f args w R):CallsIn FF m P f args w R:=by
 refine⟨hf,fun cs _=>?_⟩
 obtain⟨e,w',fr,r,hs,rest⟩:=(h (cs.length+1+n)).2 cs (fun d hd=>by cases hd;exact Nat.le_refl _)
 have hm:∀x:Machine,x.fenced P (Fence.list L (some (cs.length+1+n)))→x.fenced P FF:=fun x hx g hg=>by
  obtain⟨a,b,c,d⟩:=hx g hg
  exact⟨a,b.imp (hL _) id,fun f hf=>hL _ (c f hf),fun d hd=>by cases hd⟩
 refine⟨e,w',fr,r,?_,rest⟩
 cases e with
 | returned v=>exact fH hm hs
 | panicked c=>exact fH hm hs
 | outgrown=>exact hs
theorem Gh(m:Nat):AnyZI.SortsIn prog uo FF m:=
 ⟨fun blk off cap ss W hH hblk hsz=>pS (Lf zk) (kM zk) fun D=>AnySM.slices_Sort_int_in YJ D blk off cap ss W hH hblk hsz,
  fun p cap W=>pS (Lf zk) (kM zk) fun D=>AnySM.slices_Sort_int_none_in YJ D p cap W⟩
theorem vl{n m:Nat}{P:Program}{f:FuncId}{args:Array Value}{w:World}{R:Ending→World→Prop}(h:CallsIn FF n P f args w R):CallsIn FF m P f args w R:=⟨h.1,fun cs _=>h.2 cs (fun d hd=>by cases hd)⟩
theorem VE(mb:Option Nat)(W:World):CallsIn FF 0 prog 75 #[.map mb] W fun e w'=>e=.returned (.func (.func 99) #[] #[.pointer (some ⟨W.heap.size,0,none⟩)])∧w'=W.alloc (.cells #[.map mb] 115):=
 AnyZI.keys_in YF FF 0 (kM zk) rfl mb W
theorem Ob{H:Type}(b nn:Nat)(D0:DataW H)(R:Value→Option (DataW H × List MemPlace))(B:Nat)(w:World)(hB:Whole w B 115 #[.map (some b)])(hown:w.ownsMap prog 3 R b nn D0)(hmax:Maps.size D0≤maxLen)(hbytes:Maps.size D0 * 8≤140737488355328):
 CallsIn FF 0 prog 74 #[.func (.func 99) #[] #[.pointer (some ⟨B,0,none⟩)]] w fun e w'=>∃ (v:Value) (ss:List Int),e=.returned v∧ss.Perm (intKeys D0)∧
  w'.ownsRow w.heap.size 3 1 v ss.length ((ss.mergeSort (fun x y=>decide (x≤y))).map encZ)∧(v=.slice none 0 0↔ss=[])∧Below w.heap.size w w':=by
 have hseq:SeqGives FF 1 prog 99 #[.pointer (some ⟨B,0,none⟩)] encZ (fun ss=>ss.Perm (intKeys D0)) (Maps.size D0) w:=
  AnyZI.keys_gives (ρ:=AA) {YF with } FF 1 (kM zk) rfl zo B b nn D0 _ hB.lt (hB.cell 0) hown
 have cS:=AnyZI.sorted_in WM FF 4 (kM zk) (kM zk) (kM zk) (kM zk) rfl zo (Gh _) (enters_of func98 zk rfl) 99 #[.pointer (some ⟨B,0,none⟩)] (kM zk) (enters_of func99 zk rfl) _ _ hmax hbytes _ hseq
 exact vl cS
end
section
open Go Go.Sort Go.RowKit
section
variable{F:Fence}{n:Nat}{P:Program}{ops:Array Oper}{Q:Exit→Act→World→Prop}{md:Region.Mode}{S:World→Prop}{T:Act→World→Prop}{N:Nat}
theorem qE{a:Act}{w:World}{l:List Oper}(N:Nat)(hro:F.round=none)(hB:GN l.toArray N=true)
 (h:wpQuietIn F n P l.toArray (fun w'=>∃p:Regrown,w'=grow (redrawn w p.d) p.os) (fun a'=>∀w',(∃p:Regrown,w'=grow (redrawn w p.d) p.os)→wpListIn F n P l.toArray Q (l.drop N) a' w') (l.take N) a):wpAnyIn F n P .any l.toArray Q l.toArray.size (Array.replicate l.toArray.size false) a {w with drawn:=w.drawn+1 }:=by
 simp only[GN,Bool.and_eq_true,decide_eq_true_eq] at hB
 obtain⟨⟨⟨⟨h1,h2⟩,h3⟩,h4⟩,h5⟩:=hB
 have hlen:N<l.length:=by simpa using h4
 have htl:(l.take N).length=N:=zm
 have inv:HeadInv .any l.toArray N (Array.replicate l.toArray.size false):=⟨zs,fun j oj hj hl=>by rw[getD_replicate_false] at *;simp_all,fun t ht ht'=>getD_in (by simpa using ht') (getD_replicate_false _ _)⟩
 have:=qF (F:=F) (n:=n) (P:=P) (md:=.any) (ops:=l.toArray) (N:=N) (S:=fun w'=>∃p:Regrown,w'=grow (redrawn w p.d) p.os) (T:=wpListIn F n P l.toArray Q (l.drop N)) h1 h2 h3 h4 (l.take N) 0 (Array.replicate l.toArray.size false) a
  (fun j hj=>by rw[htl] at hj;simp[hj]) zo inv (by rw[htl];exact h5) h
 rw[htl] at this
 have h6:=mK (Q:=Q) hro (N:=N) (fun listed a w hB h=>by
  have hd:(l.drop N).length=l.toArray.size - N:=zs
  have:=jc (F:=F) (n:=n) (P:=P) (md:=.any) (ops:=l.toArray) (Q:=Q) (l.drop N) N listed a w (fun j hj=>zs) (by rw[hd];exact hB) h
  rw[hd] at this
  exact this) N _ a {w with drawn:=w.drawn+1 } ⟨⟨w.drawn+1,#[]⟩,by rw[grow_empty];rfl⟩ this
 rw[show l.toArray.size - N+N=l.toArray.size by omega] at h6
 exact h6
def uX(ops:Array Oper):Bool:=ops.all fun o=>match o.op with
 | .defer _=>false
 | _=>true
theorem Jt{ops:Array Oper}(h:uX ops=true){i:Nat}{o:Oper}(ho:ops[i]? =some o):∀c,o.op≠.defer c:=fun c hc=>by
 have:=Array.all_eq_true.1 h i (Array.getElem?_eq_some_iff.1 ho).1
 rw[(Array.getElem?_eq_some_iff.1 ho).2,hc] at this
 cases this
theorem JC{o:Oper}{a:Act}{w:World}{K K':Act→World→Prop}{l:Nat}(hro:F.round=none)(hd:∀c,o.op≠.defer c)(hK:∀a w,K a w→K' a w)(h:o.wpIn F n P a w K Q):o.wpIn (F.inRound l) n P a w K' Q:=by
 have h':=Oper.wpIn_mono hK h
 obtain⟨h1,h2⟩:=h'
 rw[hro,Oper.semAt_eq _ _ _ hd] at h2
 refine⟨h1,?_⟩
 rw[Oper.semAt_eq _ _ _ hd]
 exact h2
theorem kW{l:Nat}(hro:F.round=none)(hd:uX ops=true):∀ (fuel:Nat) (listed:Array Bool) (a:Act) (w:World),wpAnyIn F n P md ops Q fuel listed a w→wpAnyIn (F.inRound l) n P md ops Q fuel listed a w
 | 0,_,_,_,h=>h
 | fuel+1,_,a,w,h=>⟨h.1,fun i hi=>by
   have h1:=h.2 i hi
   unfold wpOpIn at h1⊢
   split
   ·rename_i ho
    rw[ho] at h1
    exact kW hro hd fuel _ _ _ h1
   ·rename_i o ho
    rw[ho] at h1
    simp only at h1
    split
    ·rename_i hw
     rw[if_pos hw] at h1
     exact JC hro (Jt hd ho) (fun a w h=>kW hro hd fuel _ a w h) h1
    ·rename_i hw
     rw[if_neg hw] at h1
     exact⟨h1.1,kW hro hd fuel _ _ _ h1.2⟩⟩
theorem kU{id l₀:Nat}{a:Act}{w:World}{l:List Oper}(N:Nat)(hro:F.round=none)(hm:P.follows .mixedOrders=true)(hB:GN l.toArray N=true)(hd:uX l.toArray=true)
 (h:wpQuietIn F n P l.toArray (fun w'=>∃p:Regrown,w'=grow (redrawn w p.d) p.os) (fun a'=>∀w',(∃p:Regrown,w'=grow (redrawn w p.d) p.os)→wpListIn F n P l.toArray Q (l.drop N) a' w') (l.take N) a):(Code.region id l.toArray true).wpIn (F.inRound l₀) n P Q a w:=
 wpIn_region_any hm (kW hro hd _ _ _ _ (qE N hro hB h))
end
end
section
open Go.RowKit Go.Maps
open Go.Sort (grow)
attribute [local go_sem] Oper.semAt_some
def mapD(v:Ht→Int)(pre:List Ht):DataW Unit:=pre.foldl (fun D h=>D.put (.int .i64 (v h)) (.lit (.bool true))) (.map [])
theorem Nu(v:Ht→Int)(pre:List Ht)(h:Ht):mapD v (pre ++ [h])=(mapD v pre).put (.int .i64 (v h)) (.lit (.bool true)):=by unfold mapD;rw[List.foldl_append];rfl
theorem bO{H:Type}{P:Program}{k:TypeId}{R:Value→Option (DataW H × List MemPlace)}{w w':World}{b n:Nat}{D:DataW H}(h:w.ownsMap P k R b n D)(e:w'.heap[b]? =w.heap[b]?):w'.ownsMap P k R b n D:=by
 obtain⟨es,clock,hb,rest⟩:=h
 exact⟨es,clock,e.trans hb,rest⟩
theorem dB{F:Fence}{n:Nat}{P:Program}{fn:Func}{tmps:Array Value}{R:Ending→World→Prop}{lo:Nat}:∀ {ds:List Deferred} {hi:Nat} {W:World},Marks lo hi ds W→
 (∀B,Keeps (fun b=>lo≤b∧b<hi) W B→∃v,(results fn tmps).run P B=.ok v B∧R (.returned v) B)→LeavesInM F n P fn tmps R ds .returning W
 | [],_,W,_,hR=>hR W (Keeps.refl _ _)
 | _ :: ds,hi,W,h,hR=>by
   obtain⟨r,rfl,h1,h2,h3,h4⟩:=h
   have hk:Keeps (fun b=>lo≤b∧b<hi) W (W.putObj r (.deferred none)):=⟨rfl,rfl,rfl,by simp[World.putObj],fun b _ hc=>World.putObj_heap_other (fun e=>hc (e ▸ ⟨h1,h2⟩))⟩
   refine⟨zs,.inl ⟨_,_,rfl,run_takeDeferred h3,?_⟩⟩
   exact dB (h4.of fun x _ hx2=>World.putObj_heap_other zo) (fun B hB=>hR B (hk.trans (hB.more fun b _ hb=>⟨hb.1,zo⟩)))
theorem Bh(gf:Nat)(lb:Array Value)(g:Nat)(lg:Array Value)(v:Ht→Int)(xs:List Ht)(w:World)(hlen:xs.length<2 ^ 40)(hsz:0<Maps.size (mapD v xs))(hwf:∀h∈xs,(Lit.int .i64 (v h)).wf=true)(h:pG FF gf lb xs w)(hg:qI FF g lg xs (fun h=>int i64 (v h)) w):
 CallsIn FF 0 prog 39 #[.func (.func gf) #[] lb,.func (.func g) #[] lg] w fun e w'=>∃ (vv:Value) (ss:List Int),e=.returned (.tuple #[vv,int i64 0])∧ss.Perm (intKeys (mapD v xs))∧w'.ownsRow w.heap.size 3 1 vv ss.length ((ss.mergeSort (fun x y=>decide (x≤y))).map encZ)∧Below w.heap.size w w':=by
 obtain⟨hfn,Ld,hit⟩:=h
 have HIT:=hid hit
 have OY:=hid Ld
 obtain⟨hgf,hge,hgc⟩:=hg
 rw[pR] at hgf
 have HG:=hid hgc
 have Rg:=hid hwf
 clear hit Ld hgc hwf
 have hmm:=@run_makeMap prog
 refine callsIn_of_wp_marks func39 rfl zs ?_ rfl
 simp only[ntmps39,List.size_toArray,List.length_cons,List.length_nil,Nat.reduceAdd,Nat.reduceSub,Array.replicate_succ,Array.replicate_zero,List.push_toArray,List.append_toArray,List.nil_append,List.cons_append]
 gi_wp2
 obtain⟨wa,Ru⟩:∃wa,wa=w.alloc (.cells #[.func (.func g) #[] lg] 93):=⟨_,rfl⟩
 obtain⟨wb,hwb⟩:∃wb,wb=wa.alloc (.map #[] 0):=⟨_,rfl⟩
 obtain⟨w1,hw1⟩:∃w1,w1=wb.alloc (.cells #[.map (some (w.heap.size+1))] 115):=⟨_,rfl⟩
 have sa:wa.heap.size=w.heap.size+1:=by rw[Ru];simp
 have sb:wb.heap.size=w.heap.size+1+1:=by rw[hwb];simp[sa]
 have hs1:w1.heap.size=w.heap.size+3:=by rw[hw1];simp[sb]
 have B1:Hid (Below w.heap.size w w1):=hid (by rw[hw1,hwb,Ru];exact bw)
 have F1:Hid (Whole w1 w.heap.size 93 #[.func (.func g) #[] lg]):=hid (by rw[hw1,hwb,Ru];exact((Whole.new _ _ _).alloc _).alloc _)
 have M1:Hid (Whole w1 (w.heap.size+1+1) 115 #[.map (some (w.heap.size+1))]):=hid (by rw[← sb,hw1];exact Whole.new _ _ _)
 have O1:Hid (w1.ownsMap prog 3 (plainElem prog 4) (w.heap.size+1) 0 (mapD v [])):=hid (by
  have:=(World.ownsMap_made (H:=Unit) wa prog 3 (plainElem prog 4)).alloc (.cells #[.map (some (w.heap.size+1))] 115)
  rw[sa] at this;rw[hw1,hwb];exact this)
 try rw[← Ru,← hwb,← hw1]
 clear hw1 Ru hwb sa sb
 clear hmm
 obtain⟨CC,QU⟩:∃CC:Nat→Prop,CC=fun x=>x=w.heap.size+1:=⟨_,rfl⟩
 have mP:∀x,CC x↔x=w.heap.size+1:=fun x=>by rw[QU]
 clear QU
 refine iD (C:=CC) rfl rfl (gf:=gf) (lb:=lb) rfl hfn OY.out (encs:=fun h:Ht=>#[h.val]) (xs:=xs)
  (fun x hx=>by have:=(mP x).1 hx;omega) ?hseq (fun _=>rfl) (fun pre W'=>Hid (Whole W' w.heap.size 93 #[.func (.func g) #[] lg]∧Whole W' (w.heap.size+1+1) 115 #[.map (some (w.heap.size+1))]∧W'.ownsMap prog 3 (plainElem prog 4) (w.heap.size+1) pre.length (mapD v pre))) (fun c pre W'=>False)
  (fun pre A B h hb=>hid ⟨h.out.1.below hb zo,h.out.2.1.below hb zo,bO h.out.2.2 (hb.block _ zo)⟩) (fun c pre A B h hb=>h.elim) (hid ⟨F1.out,M1.out,O1.out⟩) ?fT ?hdone ?hstop
 case hseq=>exact fun W2 hb2 hs2=>HIT.out _ W2 (B1.out.trans (hb2.mono B1.out.size)) fun x hx=>by rw[mP] at hx;omega
 case fT=>
  intro l' pre h A hl' hpre hj hk hsz hrec
  have hsn:=Nu v pre h
  have hwf:=Rg.out h (fu hpre)
  obtain⟨D',hD'⟩:∃D',D'=mapD v (pre ++ [h]):=⟨_,rfl⟩
  obtain⟨D,hD⟩:∃D,D=mapD v pre:=⟨_,rfl⟩
  obtain⟨vh,YE⟩:∃vh,vh=v h:=⟨_,rfl⟩
  rw[← hD',← hD,← YE] at hsn
  rw[← hD']
  rw[← hD] at hj
  rw[← YE] at hwf
  have UO:=fun W hW=>HG.out W h (fu hpre) hW
  rw[← YE] at UO
  have hpl:(pre ++ [h]).length=pre.length+1:=zs
  have AG:=iq hpre
  rw[hpl]
  clear YE hD' hD hpl
  obtain⟨hf,hmm,tV⟩:=h
  simp only[Ht.val,Ht.cells]
  simp only[Ht.val,Ht.cells] at UO
  gi_wp2
  refine⟨bw,fun W2 hS=>?_⟩
  have nU:Below (w.heap.size+3) A W2:=((Below.refl _ A).alloc zo _).trans (hS.below zo)
  have X2:Whole W2 A.heap.size 88 (⟨hf,hmm,tV⟩:Ht).cells:=(Whole.new A _ _).of (hS.block _ zo)
  have F2:=hid (hj.out.1.below nU zo)
  have M2:=hid (hj.out.2.1.below nU zo)
  have O2:=hid (bO hj.out.2.2 (nU.block _ zo))
  have hlt2:=O2.out.lt
  have q0:∀d os,(grow (redrawn W2 d) os).cell? ⟨w.heap.size,0,none⟩=some (.func (.func g) #[] lg):=cell_regrown (F2.out.cell 0)
  have q6:∀d os,(grow (redrawn W2 d) os).cell? ⟨w.heap.size+1+1,0,none⟩=some (.map (some (w.heap.size+1))):=cell_regrown (M2.out.cell 0)
  have x0:∀d os,(grow (redrawn W2 d) os).cell? ⟨A.heap.size,0,none⟩=some (int i64 (hf 0)):=cell_regrown (X2.cell 0)
  have x1:∀d os,(grow (redrawn W2 d) os).cell? ⟨A.heap.size,1,none⟩=some (int i64 (hf 1)):=cell_regrown (X2.cell 1)
  have x2:∀d os,(grow (redrawn W2 d) os).cell? ⟨A.heap.size,2,none⟩=some (int i64 (hf 2)):=cell_regrown (X2.cell 2)
  have x3:∀d os,(grow (redrawn W2 d) os).cell? ⟨A.heap.size,3,none⟩=some (int i64 (hmm 0)):=cell_regrown (X2.cell 3)
  have x4:∀d os,(grow (redrawn W2 d) os).cell? ⟨A.heap.size,4,none⟩=some (int i64 (hmm 1)):=cell_regrown (X2.cell 4)
  have x5:∀d os,(grow (redrawn W2 d) os).cell? ⟨A.heap.size,5,none⟩=some (int i64 (hmm 2)):=cell_regrown (X2.cell 5)
  have x6:∀d os,(grow (redrawn W2 d) os).cell? ⟨A.heap.size,6,none⟩=some (int i64 (hmm 3)):=cell_regrown (X2.cell 6)
  have x7:∀d os,(grow (redrawn W2 d) os).cell? ⟨A.heap.size,7,none⟩=some (int i64 (hmm 4)):=cell_regrown (X2.cell 7)
  have x8:∀d os,(grow (redrawn W2 d) os).cell? ⟨A.heap.size,8,none⟩=some (int i64 (hmm 5)):=cell_regrown (X2.cell 8)
  have x9:∀d os,(grow (redrawn W2 d) os).cell? ⟨A.heap.size,9,none⟩=some (int i64 tV):=cell_regrown (X2.cell 9)
  have hBW:Below w.heap.size w W2:=(B1.out.trans (hk.below (n:=w.heap.size) (fun b hb hc=>by have:=(mP b).1 hc;omega) zo)).trans (nU.mono zo)
  have cG:∀d os,CallsIn FF 0 prog g (#[.agg #[int i64 (hf 0),int i64 (hf 1),int i64 (hf 2),int i64 (hmm 0),int i64 (hmm 1),int i64 (hmm 2),int i64 (hmm 3),int i64 (hmm 4),int i64 (hmm 5),int i64 tV]] ++ lg) (grow (redrawn W2 d) os) fun e w''=>e=.returned (int i64 vh)∧∃p:Regrown,w''=grow (redrawn W2 p.d) p.os:=fun d os=>CallsIn.regrown_of (UO _ (hBW.trans ((below_regrown W2 d os).mono (Nat.le_trans (Nat.le_refl _) hBW.size))))
  have XU:=hid hsn
  have RM:=hid hwf
  have lR:=fun d os=>(below_regrown W2 d os)
  have tH:=hid lR
  clear X2 nU UO hsn hwf hBW lR
  gi_wp2
  refine kU 4 rfl zk zk zk ?_
  repeat (quiet_step_in (exact cG _ _))
  refine wpQuietIn_nil ?_
  rintro w' ⟨⟨dq,osq⟩,rfl⟩
  have aY:=tH.out dq osq
  clear q0 q6 x0 x1 x2 x3 x4 x5 x6 x7 x8 x9 cG
  have O9:=bO O2.out (aY.block _ hlt2)
  have F9:=F2.out.below aY F2.out.lt
  have M9:=M2.out.below aY M2.out.lt
  simp only at O9 F9 M9 aY⊢
  generalize grow (redrawn W2 dq) osq=w9 at aY O9 F9 M9⊢
  refine wpListIn_mapUpdate_own _ rfl _ _ _ 115 rfl 3 4 (int_keyed underlying3) underlying115 (plainElem prog 4) (w.heap.size+1) pre.length D rfl O9 zU _ _ (.int .i64 vh) rfl rfl (keyOf_int_mk underlying3 RM.out) (.lit (.bool true)) [] (plainElem_bool underlying4 true) ?_
  intro w10 az uT
  have sd:=aY.size
  have hbg:=below_grown (B:=w.heap.size+1) uT zo (fun g hg=>by cases hg;omega)
  have hkk:Keeps CC W2 w10:=(Keeps.bG aY).trans ⟨hbg.os,hbg.tape,hbg.output,hbg.size,fun b hb hc=>uT.block b hb (by intro e;cases e;exact hc ((mP _).2 rfl))⟩
  gi_wp2
  exact⟨hkk,hid ⟨F9.grown uT zs,M9.grown uT zs,by rw[XU.out];exact az⟩⟩
 case hdone=>
  intro W' hj hk hm
  have c6:W'.cell? ⟨w.heap.size+1+1,0,none⟩=some (.map (some (w.heap.size+1))):=hj.out.2.1.cell 0
  have hms:Marks w1.heap.size (w1.heap.size+1) [{target:=.collected w1.heap.size,args:=#[] }] W':=⟨_,rfl,Nat.le_refl _,Nat.lt_succ_self _,hm,trivial⟩
  have Ur:=hid hms
  have Kt:Hid (Below w.heap.size w W'):=hid (B1.out.trans (hk.below (n:=w.heap.size) (fun b hb hc=>by have:=(mP b).1 hc;omega) zo))
  have hsl:=hj.out.2.2.size_le
  obtain⟨N,hN⟩:∃N,N=Maps.size (mapD v xs):=⟨_,rfl⟩
  have HL:∀ty,(Builtin.len_ #[115] ty #[.map (some (w.heap.size+1))]).run prog W'=.ok (int i64 N) W':=fun ty=>by rw[hN];exact hj.out.2.2.len underlying115 ty
  have HO:=hid hj.out.2.2
  rw[← hN] at hsz hsl
  have hn0:¬ N=0:=zo
  have HN:=hid hN
  have hm1:w1.heap.size<W'.heap.size:=(Array.getElem?_eq_some_iff.1 hm).1
  have hlo:=HO.out.lt
  have HK:=hid (VE (some (w.heap.size+1)) W')
  have HS:=hid (Ob (w.heap.size+1) xs.length (mapD v xs) (plainElem prog 4) W'.heap.size (W'.alloc (.cells #[.map (some (w.heap.size+1))] 115)) (Whole.new _ _ _) (HO.out.alloc _) (by rw[← HN.out];unfold maxLen;omega) (by rw[← HN.out];omega))
  clear hj hms hm hk hN
  simp only[Exit.inBlock,Exit.then]
  go_at_K
  gi_wp2_with (first
   | (gi_at_call 75;refine HK.out.mono ?_;rintro e w3 ⟨rfl,rfl⟩)
   | (gi_at_call 74;refine HS.out.mono ?_;rintro e w4 ⟨vv,ss,rfl,hss,hrow,-,hb4⟩))
  have hs4:=hb4.size
  simp only[World.size_alloc] at hs4
  have hms:=Ur.out
  rw[hs1] at hms hm1
  have AD:Marks (w.heap.size+3) (w.heap.size+3+1) [{target:=.collected (w.heap.size+3),args:=#[] }] w4:=hms.of fun r h1 h2=>(hb4.block r zm).trans (Below.heap_alloc _ _ _ zo)
  have Co:Below w.heap.size w w4:=Below.next (Below.al Kt.out _) hb4
  refine dB AD (fun B hB=>⟨_,results_tmp2 rfl _ _ _,vv,ss,rfl,hss,dV (jM hrow fun g hg hl=>hB.block g hl (fun hc=>by have:=(dN hrow hg).1;simp at this;omega)) (by have:=Kt.out.size;simp;omega),Co.trans (hB.below (n:=w.heap.size) (fun b hb hc=>zo) Co.size)⟩)
 case hstop=>
  rintro c pre W' hpre hx hk hm
  exact hx.elim
end
end Go.Proofs.YthaelabgfnnebaaGreat
