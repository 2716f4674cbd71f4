/- WN WK HV HV2 EN Reg3 HR -/
import Derived.Test.YthaelabgfnnebaaGreatE1
import Derived.Maps.Own
import Derived.DeepKeys4
set_option maxRecDepth 100000
set_option maxHeartbeats 16000000
set_option linter.unusedVariables false
set_option linter.unusedSectionVars false
open Go.IntKind(i64)
open Go.Lib(hid)
open Go.Proofs.Tryz
open Go.Value(int)
namespace Go.Proofs.YthaelabgfnnebaaGreat
section
open Go.RowKit
open Go.Sort (grow)
attribute [local go_sem] Oper.semAt_some
theorem Tryz.infoCt:(Tryz.prog.info? 99).map (fun i=>(i.zero,i.size,i.bytes))=some (some (.agg #[int i64 0,int i64 0,int i64 0,int i64 0]),4,32):=zk
def xo(c:Ct):List Value:=[int i64 c.good,int i64 c.day,int i64 c.lo,int i64 c.hi]
def I8(f:Nat→Ct)(k:Nat):List Value:=(List.range k).flatMap fun i=>xo (f i)
theorem sF(f:Nat→Ct)(k:Nat):I8 f (k+1)=I8 f k ++ xo (f k):=by unfold I8;rw[List.range_succ,List.flatMap_append];simp
theorem qX(f:Nat→Ct):∀k,(I8 f k).length=k * 4
 | 0=>rfl
 | Nat.succ k=>by rw[sF,List.length_append,qX f k];simp[xo];omega
theorem KT(f:Nat→Ct):∀ (k:Nat) {i j:Nat},i<k→j<4→(I8 f k)[i * 4+j]? =some ((f i).cell j)
 | 0,_,_,h,_=>zo
 | Nat.succ k,i,j,h,hj=>by
   rw[sF]
   rcases Nat.lt_or_ge i k with h1|h1
   ·rw[List.getElem?_append_left (by rw[qX];omega)]
    exact KT f k h1 hj
   ·obtain rfl:i=k:=zo
    rw[List.getElem?_append_right (by rw[qX];omega),qX]
    rw[show i * 4+j - i * 4=j by omega]
    rcases(show j=0∨j=1∨j=2∨j=3 by omega) with rfl|rfl|rfl|rfl <;> rfl
def QX(b:Bk)(s:Nat)(i:Nat):Ct:=b.c ((aL s 10).getD i 0).toNat
def je(b:Bk)(s:Nat)(A:Option Addr)(cc:Nat):Bk:=⟨b.days,b.most,b.gA,b.ng,b.gc,b.g,b.mA,b.nm,b.mc,b.m,A,(aL s 10).length,cc,QX b s⟩
theorem UU(b:Bk)(s:Nat)(A:Option Addr)(n p:Nat)(w:World)(hA:b.At w w.heap.size)(hs:s<1024)(hin:∀x∈aL s 10,0≤x∧x<b.nc):
 CallsIn SF 0 prog 84 #[.agg (aA b A n p),int i64 s] w fun e w'=>∃A' cc',e=.returned (.agg (aA (je b s A' cc') A n p))∧Rows w' w'.heap.size 4 A' (aL s 10).length (fun i j=>(QX b s i).cell j)∧Below w.heap.size w w':=by
 have HS:=hid fun w=>Go.Proofs.YthaelabgfnnebaaGreat.W.mo s w hs
 obtain⟨f,hf⟩:∃f,f=QX b s:=⟨_,rfl⟩
 obtain⟨m',hm'⟩:∃m,m=(aL s 10).length:=⟨_,rfl⟩
 have Z':m'≤10:=by rw[hm'];exact sU s 10
 have HF:Hid (∀k,k<m'→∃j:Nat,(aL s 10).getD k 0=(j:Int)∧j<b.nc∧f k=b.c j):=hid fun k hk=>by
  rw[hm'] at hk
  have hmem:(aL s 10).getD k 0∈aL s 10:=by rw[List.getD_eq_getElem?_getD,List.getElem?_eq_getElem hk];exact List.getElem_mem hk
  have:=hin _ hmem
  refine⟨((aL s 10).getD k 0).toNat,zo,zo,by rw[hf];rfl⟩
 have hnc:m'=0∨0<b.nc:=by
  rcases Nat.eq_zero_or_pos m' with h|h
  ·exact .inl h
  ·obtain⟨j,_,hj,_⟩:=HF.out 0 h
   exact .inr zo
 have HE:Hid (∀A' cc',aA (je b s A' cc') A n p=#[int i64 b.days,int i64 b.most,.slice b.gA b.ng b.gc,.slice b.mA b.nm b.mc,.slice A' m' cc',.slice A n p]):=hid fun A' cc'=>by rw[hm'];rfl
 have goal:∀ (e:Ending) (w':World),(∃A' cc',e=.returned (.agg #[int i64 b.days,int i64 b.most,.slice b.gA b.ng b.gc,.slice b.mA b.nm b.mc,.slice A' m' cc',.slice A n p])∧Rows w' w'.heap.size 4 A' m' (fun i j=>(f i).cell j)∧Below w.heap.size w w')→∃A' cc',e=.returned (.agg (aA (je b s A' cc') A n p))∧Rows w' w'.heap.size 4 A' (aL s 10).length (fun i j=>(QX b s i).cell j)∧Below w.heap.size w w':=fun e w' ⟨A',cc',h1,h2,h3⟩=>⟨A',cc',by rw[HE.out];exact h1,by rw[← hm',← hf];exact h2,h3⟩
 refine CallsIn.mono ?_ goal
 obtain⟨L,hL⟩:∃L,L=aL s 10:=⟨_,rfl⟩
 rw[← hL] at HS HF hm'
 have HM:=hid hm'
 have HA:=hid hA
 obtain⟨i0,hi,hz0,hz1,hz2⟩:=info_parts Tryz.infoCt
 have hi0:=hid hi
 clear hi hf hm' hA hin hL goal HE
 obtain⟨days,most,gA,ng,gc,g,mA,nm,mc,m,cA,nc,cc,c⟩:=b
 simp only[aA] at HF hnc⊢
 obtain⟨w1,hw1⟩:∃w1,w1=(w.alloc (.cells #[int i64 days,int i64 most,.slice gA ng gc,.slice mA nm mc,.slice cA nc cc,.slice A n p] 76)).alloc (.cells #[int i64 0,int i64 0,.slice none 0 0,.slice none 0 0,.slice none 0 0,.slice none 0 0] 76):=⟨_,rfl⟩
 have B1:Hid (Below w.heap.size w w1):=hid (by rw[hw1];exact bw)
 have X1:Hid (Whole w1 w.heap.size 76 #[int i64 days,int i64 most,.slice gA ng gc,.slice mA nm mc,.slice cA nc cc,.slice A n p]):=hid (by rw[hw1];exact(Whole.new _ _ _).alloc _)
 have Y1:Hid (Whole w1 (w.heap.size+1) 76 #[int i64 0,int i64 0,.slice none 0 0,.slice none 0 0,.slice none 0 0,.slice none 0 0]):=hid (by
  have:=Whole.new (w.alloc (.cells #[int i64 days,int i64 most,.slice gA ng gc,.slice mA nm mc,.slice cA nc cc,.slice A n p] 76)) 76 #[int i64 0,int i64 0,.slice none 0 0,.slice none 0 0,.slice none 0 0,.slice none 0 0]
  rw[World.size_alloc] at this;rw[hw1];exact this)
 have hs1:w1.heap.size=w.heap.size+2:=by rw[hw1];simp
 have lT:=hid hw1
 clear hw1
 gi_enter func84,ntmps84
 gi_wp2_with (gi_at_call 96;rw[← lT.out];refine(HS.out w1).mono ?_;rintro e w3 ⟨v,rfl,hown,hb3⟩;obtain⟨AL,cL,rfl⟩:=dY hown;have HI:=hid (dw hown);have HB3:=hid hb3;rw[← HM.out];rw[← HM.out] at HI)
 have X3:=hid (X1.out.below HB3.out X1.out.lt)
 have Y3:=hid (Y1.out.below HB3.out Y1.out.lt)
 have hs3:=hb3.size
 have PF:Hid (Below w.heap.size w w3):=hid (B1.out.trans (hb3.mono B1.out.size))
 clear hown hb3 lT
 gi_loopw [5,11] (fun l i wr=>∃k:Nat,k≤m'∧i=int i64 k∧Hid (wr.ownsRow w3.heap.size 99 4 l k (I8 f k)∧Below w3.heap.size w3 wr)) (fun _ i _=>m' - (intOf i).toNat)
 case atStart=>exact⟨0,Nat.zero_le _,rfl,hid ⟨⟨by simp[I8],.inl ⟨rfl,zs⟩⟩,Below.refl _ _⟩⟩
 case round=>
  obtain⟨k,hk,rfl,hT⟩:=hrel
  obtain⟨A9,n9,p9,rfl⟩:=fP hT.out.1
  obtain⟨wo,rfl⟩:∃wo:World,wo=wr:=⟨_,rfl⟩
  have hso:=hT.out.2.size
  have X4:=hid (X3.out.below hT.out.2 X3.out.lt)
  have Y4:=hid (Y3.out.below hT.out.2 Y3.out.lt)
  have BO:Hid (Below w.heap.size w wo):=hid (PF.out.trans (hT.out.2.mono zo))
  by_cases hlt:k<m'
  ·obtain⟨j,hj1,hj2,hj3⟩:=HF.out k hlt
   obtain⟨ad,hA',hbl,-⟩:=HA.out.c (show 0<nc by omega)
   simp only at hA' hj2 hj3
   subst hA'
   obtain⟨al,UX,hall,-⟩:=HI.out (show 0<m' by omega)
   subst UX
   have d0:wo.cell? (al.add k)=some (int i64 j):=by
    refine(hT.out.2.cell (by rw[aH];exact hall)).trans ?_
    have:=HI.out.at_ hlt
    rw[hj1] at this
    exact this
   have hr:∀q,q<4→wo.cell? ((ad.add (j * 4)).add q)=some ((f k).cell q):=fun q hq=>by rw[hj3];exact((HA.out.c.below BO.out).row hj2).2 q hq
   obtain⟨fk,bj⟩:∃fk,fk=f k:=⟨_,rfl⟩
   rw[← bj] at hr
   have P3:=hid bj
   obtain⟨gd,dy,lo,hi⟩:=fk
   have c0:wo.cell? (ad.add (j * 4))=some (int i64 gd):=hr 0 zD
   have c1:wo.cell? ⟨(ad.add (j * 4)).block,(ad.add (j * 4)).off+1,none⟩=some (int i64 dy):=hr 1 zD
   have c2:wo.cell? ⟨(ad.add (j * 4)).block,(ad.add (j * 4)).off+2,none⟩=some (int i64 lo):=hr 2 zD
   have c3:wo.cell? ⟨(ad.add (j * 4)).block,(ad.add (j * 4)).off+3,none⟩=some (int i64 hi):=hr 3 zD
   have x4:wo.cell? ⟨w.heap.size,4,none⟩=some (.slice (some ad) nc cc):=X4.out.cell 4
   clear hr hj1 hj3 bj
   have Ho:=hid hT.out.1
   gi_wp2_with (gi_at_builtin;refine aF rfl rfl rfl fun K5 jf=>?_;refine wp_append_lies _ _ _ _ rfl w3.heap.size 99 i0 _ 4 32 underlying24 hi0.out hz0 hz1 hz2 rfl zo (.slice A9 n9 p9) k _ rfl (aX Ho.out _) ⟨wo.heap.size,0,none⟩ 1 1 [int i64 gd,int i64 dy,int i64 lo,int i64 hi] rfl rfl (World.news_of_block (heap_alloc_new wo _)) (by simp[Value.oneCell']) zo zU zo zm (wo.heap.size+1) zs ?_;intro qM oH w10 hown5 aQ ni oI;refine jf _ _ ?_;clear jf K5)
   exact⟨⟨k+1,hlt,by push_cast;rfl,hid ⟨by rw[sF,← P3.out];exact hown5,(hT.out.2.alloc hso _).trans (below_grown aQ zm (fun g hg=>(dF Ho.out hg).1))⟩⟩,by simp[intOf];omega⟩
  ·obtain rfl:k=m':=zo
   obtain⟨A',c',hv'⟩:=dY hT.out.1
   injection hv' with h1 h2 h3
   subst h1 h2 h3
   have x0:wo.cell? ⟨w.heap.size,0,none⟩=some (int i64 days):=X4.out.cell 0
   have x1:wo.cell? ⟨w.heap.size,1,none⟩=some (int i64 most):=X4.out.cell 1
   have x2:wo.cell? ⟨w.heap.size,2,none⟩=some (.slice gA ng gc):=X4.out.cell 2
   have x3:wo.cell? ⟨w.heap.size,3,none⟩=some (.slice mA nm mc):=X4.out.cell 3
   have x4:wo.cell? ⟨w.heap.size,4,none⟩=some (.slice cA nc cc):=X4.out.cell 4
   have x5:wo.cell? ⟨w.heap.size,5,none⟩=some (.slice A n p):=X4.out.cell 5
   have y0:wo.cell? ⟨w.heap.size+1,0,none⟩=some (int i64 0):=Y4.out.cell 0
   have y1:wo.cell? ⟨w.heap.size+1,1,none⟩=some (int i64 0):=Y4.out.cell 1
   have y2:wo.cell? ⟨w.heap.size+1,2,none⟩=some (.slice none 0 0):=Y4.out.cell 2
   have y3:wo.cell? ⟨w.heap.size+1,3,none⟩=some (.slice none 0 0):=Y4.out.cell 3
   have y4:wo.cell? ⟨w.heap.size+1,4,none⟩=some (.slice none 0 0):=Y4.out.cell 4
   have y5:wo.cell? ⟨w.heap.size+1,5,none⟩=some (.slice none 0 0):=Y4.out.cell 5
   have xth:=X4.out.thaw
   have yth:=Y4.out.thaw
   gi_wp2
   have U:=((((((Y4.out.other (p:=⟨w.heap.size,4,none⟩) zs (.slice A9 n9 p9)).set 0 (int i64 days)).set 1 (int i64 most)).set 2 (.slice gA ng gc)).set 3 (.slice mA nm mc)).set 4 (.slice A9 n9 p9)).set 5 (.slice A n p)
   have u0:=U.cell 0
   have u1:=U.cell 1
   have u2:=U.cell 2
   have u3:=U.cell 3
   have u4:=U.cell 4
   have u5:=U.cell 5
   refine bodyPost_ret (v:=.agg #[int i64 days,int i64 most,.slice gA ng gc,.slice mA nm mc,.slice A9 n9 p9,.slice A n p]) (by simp[results,results84,go_sem,u0,u1,u2,u3,u4,u5]) rfl ⟨_,_,rfl,?_,?_⟩
   ·intro hn0
    obtain⟨g9,cp9,hg0,hg1,hg2⟩:=hT.out.1.form hn0
    injection hg0 with h1 h2 h3
    subst h1
    refine⟨_,rfl,by simpa [World.setCell] using hg2,fun i j hi hj=>?_⟩
    have hcl:=hT.out.1.cells (g:=g9) rfl (i * 4+j) _ (KT f n9 hi hj)
    refine Eq.trans ?_ hcl
    have hne:∀q:Addr,q.block=w.heap.size∨q.block=w.heap.size+1→∀ (W:World) (v:Value),(W.setCell q v).cell? ((⟨g9,0,none⟩:Addr).add (i * 4+j))=W.cell? ((⟨g9,0,none⟩:Addr).add (i * 4+j)):=fun q hq W v=>World.cell?_of_block (Below.heap_setCell _ _ _ _ (by rw[aH];simp only;omega))
    rw[hne _ (.inr rfl),hne _ (.inr rfl),hne _ (.inr rfl),hne _ (.inr rfl),hne _ (.inr rfl),hne _ (.inr rfl),hne _ (.inl rfl)]
   ·exact((((((BO.out.setCell (p:=⟨w.heap.size,4,none⟩) zs _).setCell zs _).setCell zs _).setCell zs _).setCell zs _).setCell zs _).setCell zs _
theorem Z4(b:Bk)(s:Nat)(A:Option Addr)(cc:Nat)(ok:b.Ok)(h4:(aL s 10).length≤4)(hin:∀x∈aL s 10,0≤x∧x<b.nc):(je b s A cc).Ok:={
 days:=ok.days
 most:=ok.most
 bn:=⟨ok.bn.1,fun i hi=>let h:=ok.bn.2 i hi;⟨h.name,h.other,h.cost,h.pack,h.few⟩⟩
 moves:=⟨ok.moves.1,fun i hi=>let h:=ok.moves.2 i hi;⟨h.kind,h.good,h.day,h.order,h.few⟩⟩
 counts:=⟨h4,fun i hi=>by
  have hi':i<(aL s 10).length:=hi
  have hmem:(aL s 10).getD i 0∈aL s 10:=by rw[List.getD_eq_getElem?_getD,List.getElem?_eq_getElem hi'];exact List.getElem_mem hi'
  have hx:=hin _ hmem
  have h:=ok.counts.2 ((aL s 10).getD i 0).toNat zo
  exact⟨h.good,h.day,h.many⟩⟩ }
theorem Ka(b:Bk)(ok:b.Ok)(ls:List Nat)(hl:∀s∈ls,cO s)(hn:ls.length≤64)(A:Option Addr)(p Bc:Nat)(w:World)(hA:b.At w w.heap.size)(hR:Rows w w.heap.size 1 A ls.length (fun i _=>int i64 ((ls.getD i 0:Nat):Int)))(hb:Whole w Bc 76 (aA b A ls.length p)):oF SF 76 #[.pointer (some ⟨Bc,0,none⟩)] (aD b ls) w:=by
 refine⟨zs,enters_of func76 zk rfl,fun C W hW hC=>?_⟩
 exact Jo (p:=SF.fn) b ok A p ls hl hn C w.heap.size Bc W (fun x hx=>(hC x hx).2) (hb.below hW hb.lt) (hR.below hW) (hA.below hW) hW.size (fun h=>by have:=(hC _ h).1;have:=hb.lt;omega) (fun x hx h=>by have:=(hC _ h).1;omega)
end
section
open Go.RowKit
theorem vC(most:Int)(G M C:Nat):ak (Tb most G M C)=[0,1,8,9]:=zk
theorem eY(most:Int)(G M C:Nat):∀s∈ak (Tb most G M C),cO s:=by
 rw[vC]
 intro s hs
 simp at hs
 unfold cO
 omega
theorem jT(most:Int)(hm:0≤most∧most≤2)(G M C:Nat):(Tb most G M C).Ok:={
 days:=(by decide:(1:Int)≤10∧(10:Int)≤99)
 most:=hm
 bn:=⟨(by decide:1≤2∧2≤3),fun i hi=>by
  have hi:i<2:=hi
  rcases(show i=0∨i=1 by omega) with rfl|rfl
  ·exact⟨of_decide_eq_true zk,fun j hj=>zo,(by decide:(0:Int)≤5∧(5:Int)≤999),(by decide:(1:Int)≤4∧(4:Int)≤20),of_decide_eq_true zk⟩
  ·refine⟨of_decide_eq_true zk,fun j hj=>?_,(by decide:(0:Int)≤2∧(2:Int)≤999),(by decide:(1:Int)≤10∧(10:Int)≤20),of_decide_eq_true zk⟩
   obtain rfl:j=0:=zo
   exact of_decide_eq_true zk⟩
 moves:=⟨(by decide:4≤6),fun i hi=>by
  have hi:i<4:=hi
  rcases(show i=0∨i=1∨i=2∨i=3 by omega) with rfl|rfl|rfl|rfl
  all_goals exact⟨of_decide_eq_true zk,of_decide_eq_true zk,of_decide_eq_true zk,of_decide_eq_true zk,of_decide_eq_true zk⟩⟩
 counts:=⟨(by decide:2≤4),fun i hi=>by
  have hi:i<2:=hi
  rcases(show i=0∨i=1 by omega) with rfl|rfl
  all_goals exact⟨of_decide_eq_true zk,of_decide_eq_true zk,of_decide_eq_true zk⟩⟩ }
theorem kW(G M C:Nat):(aD (Tb 1 G M C) (ak (Tb 1 G M C))).length=4:=zk
theorem qn(G M C:Nat):((aD (Tb 1 G M C) (ak (Tb 1 G M C))).filter fun h=>h.FQ 3).length=4:=zk
theorem qi(G M C:Nat):((aD (Tb 1 G M C) (ak (Tb 1 G M C))).filter fun h=>h.FQ 0).length=0:=zk
theorem XI(G M C:Nat):bR (fun h=>kD (Tb 1 G M C) h 1 1 10 4) (aD (Tb 1 G M C) (ak (Tb 1 G M C)))=(0,1,true):=zk
theorem TT(G M C:Nat):bR (fun h=>iG (Tb 1 G M C) (stk (Tb 1 G M C) h 10 4) 2) (aD (Tb 1 G M C) (ak (Tb 1 G M C)))=(30,35,true):=zk
theorem TN(G M C:Nat):bR (fun h=>IntKind.i64.wrap ((stk (Tb 1 G M C) h 10 4 0).tdiv 2)) (aD (Tb 1 G M C) (ak (Tb 1 G M C)))=(2,2,true):=zk
theorem eK(G M C:Nat):CU (Tb 1 G M C) (ak (Tb 1 G M C)).length=[8]:=zk
theorem OP(G M C:Nat)(A:Option Addr)(cc:Nat):(aD (je (Tb 0 G M C) 0 A cc) (ak (Tb 0 G M C))).isEmpty=false:=zk
theorem OQ(G M C:Nat)(A:Option Addr)(cc:Nat):(aD (je (Tb 0 G M C) 1 A cc) (ak (Tb 0 G M C))).isEmpty=false:=zk
theorem OT(G M C:Nat)(A:Option Addr)(cc:Nat):(aD (je (Tb 0 G M C) 2 A cc) (ak (Tb 0 G M C))).isEmpty=true:=zk
theorem OU(G M C:Nat)(A:Option Addr)(cc:Nat):(aD (je (Tb 0 G M C) 3 A cc) (ak (Tb 0 G M C))).isEmpty=true:=zk
def rates:Nat→Int
 | 0=>2
 | _=>3
theorem XF(G M C:Nat):qh (Tb 1 G M C) rates 4 2=[1,1]:=zk
theorem XG(G M C:Nat):qW (Tb 1 G M C) rates 4 2=40:=zk
theorem XQ(G M C:Nat):∀k,k<2→(bX (Tb 1 G M C) k).2.2=true:=fun k hk=>by
 rcases(show k=0∨k=1 by omega) with rfl|rfl
 ·kernel_rfl
 ·kernel_rfl
end
section
open Go.RowKit Go.Maps
theorem TP(G M C:Nat):intKeys (mapD (fun h=>stk (Tb 1 G M C) h 10 4 0) (aD (Tb 1 G M C) (ak (Tb 1 G M C))))=[4,5]:=zk
theorem XK(G M C:Nat):intKeys (mapD (fun h=>h.real 3) (aD (Tb 1 G M C) (ak (Tb 1 G M C))))=[0]:=zk
theorem TQ(G M C:Nat):0<Maps.size (mapD (fun h=>stk (Tb 1 G M C) h 10 4 0) (aD (Tb 1 G M C) (ak (Tb 1 G M C)))):=of_decide_eq_true zk
theorem XL(G M C:Nat):0<Maps.size (mapD (fun h=>h.real 3) (aD (Tb 1 G M C) (ak (Tb 1 G M C)))):=of_decide_eq_true zk
theorem TS(G M C:Nat):((aD (Tb 1 G M C) (ak (Tb 1 G M C))).all fun h=>(Lit.int .i64 (stk (Tb 1 G M C) h 10 4 0)).wf)=true:=zk
theorem XM(G M C:Nat):((aD (Tb 1 G M C) (ak (Tb 1 G M C))).all fun h=>(Lit.int .i64 (h.real 3)).wf)=true:=zk
theorem dj{ss:List Int}(h:ss.Perm [4,5]):(ss.mergeSort fun x y=>decide (x≤y))=[4,5]:=by
 have h1:(ss.mergeSort fun x y=>decide (x≤y)).Perm [4,5]:=(List.mergeSort_perm _ _).trans h
 have h2:(ss.mergeSort fun x y=>decide (x≤y)).Pairwise fun x y=>decide (x≤y)=true:=List.pairwise_mergeSort (fun a b c=>by simp only[decide_eq_true_eq];omega) (fun a b=>by simp only[Bool.or_eq_true,decide_eq_true_eq];omega) ss
 have h3:([4,5]:List Int).Pairwise fun x y=>decide (x≤y)=true:=zD
 exact h1.eq_of_pairwise (fun a b _ _ h1 h2=>by simp only[decide_eq_true_eq] at h1 h2;omega) h2 h3
theorem p0{ss:List Int}(h:ss.Perm [0]):(ss.mergeSort fun x y=>decide (x≤y))=[0]:=List.perm_singleton.1 ((List.mergeSort_perm _ _).trans h)
end
section
open Go Go.RowKit Go.Maps Go.MapKept Go.ChangeMaps
theorem kN(es:Array MapEntry)(hn:(es.toList.map (·.born)).Nodup){j:Nat}{e0:MapEntry}(hj:es[j]? =some e0):es.findIdx? (fun e=>(e.born:Int) == (e0.born:Int))=some j:=by
 have hl:j<es.size:=(Array.getElem?_eq_some_iff.1 hj).1
 have he:es[j]=e0:=(Array.getElem?_eq_some_iff.1 hj).2
 rw[Array.findIdx?_eq_some_iff_getElem]
 refine⟨hl,by rw[he];simp,fun i hi=>?_⟩
 have hne:es[i].born≠e0.born:=fun e=>by
  have hi':i<es.size:=Nat.lt_trans hi hl
  have h1:=List.pairwise_iff_getElem.1 hn i j (by simpa using hi') (by simpa using hl) hi
  apply h1
  simp[e,he]
 simp only[Bool.not_eq_true,beq_eq_false_iff_ne,ne_eq]
 intro e
 exact hne (by exact_mod_cast e)
theorem F5(es:Array MapEntry)(x:MapEntry)(f:MapEntry→MapEntry):(es.push x).modify es.size f=es.push (f x):=by
 apply Array.ext_getElem?
 intro i
 rw[Array.getElem?_modify]
 rcases Nat.lt_trichotomy i es.size with h|h|h
 ·rw[if_neg zo,Array.getElem?_push,Array.getElem?_push,if_neg zo,if_neg zo]
 ·subst h
  simp
 ·rw[if_neg zo,Array.getElem?_push,Array.getElem?_push,if_neg zo,if_neg zo]
theorem yI(es:Array MapEntry)(j:Nat)(f g:MapEntry→MapEntry):(es.modify j f).modify j g=es.modify j fun e=>g (f e):=by
 apply Array.ext_getElem?
 intro i
 rw[Array.getElem?_modify,Array.getElem?_modify,Array.getElem?_modify]
 split <;> simp[Function.comp_def]
section
variable{H:Type}{P:Program}{k t e:TypeId}{R:Value→Option (DataW H × List MemPlace)}{w:World}{b n:Nat}{D:DataW H}
theorem BK{W1:World}{es':Array MapEntry}{c' j:Nat}{st:Int}(hb1:W1.heap[b]? =some (.map es' c'))(hf:es'.findIdx? (fun e=>(e.born:Int) == st)=some j)(val:Value):(Instr.entryStore t (.map (some b)) (int i64 st) val).run P W1=.ok () (setBlock W1 b (.map (es'.modify j fun e=>{e with val:=val }) c')):=by
 simp[Instr.entryStore,MapKept.run_getObj_map hb1,hf,MapKept.run_setObj_map _ hb1,Result.andThen,go_sem,setBlock]
theorem kF(w:World)(b:Nat)(o o':Obj):setBlock (setBlock w b o) b o'=setBlock w b o':=by simp[setBlock]
theorem Dv{W:World}{es':Array MapEntry}{c' j:Nat}{e1:MapEntry}(hb:W.heap[b]? =some (.map es' c'))(K:Keyed P k)(ht:P.underlying t=some (.map k e)){key:Value}{kl:Lit}(hkey:keyOf P k key=some kl)
 (hkeys:∀x∈es'.toList,∃l,keyOf P k x.key=some l)(hnd:(es'.toList.map (·.key)).Nodup)(hj:es'[j]? =some e1)(hk:e1.key=key):(Instr.lookup t (.map (some b)) key false).run P W=.ok e1.val W:=by
 have hjl:j<es'.size:=(Array.getElem?_eq_some_iff.1 hj).1
 have gz:es'[j]=e1:=(Array.getElem?_eq_some_iff.1 hj).2
 rcases K.find W hkey es'.toList hkeys with⟨_,h2⟩|⟨i,e2,h1,h2,h3⟩
 ·exact absurd hk (h2 e1 (by rw[← gz];exact Array.getElem_mem_toList hjl))
 ·have h2':es'[i]? =some e2:=by simpa using h2
  have hil:i<es'.size:=(Array.getElem?_eq_some_iff.1 h2').1
  have hie:es'[i]=e2:=(Array.getElem?_eq_some_iff.1 h2').2
  have hij:i=j:=by
   rcases Nat.lt_trichotomy i j with h|h|h
   ·exact((List.pairwise_iff_getElem.1 hnd i j (by simpa using hil) (by simpa using hjl) h) (by simp[hie,gz,h3,hk])).elim
   ·exact h
   ·exact((List.pairwise_iff_getElem.1 hnd j i (by simpa using hjl) (by simpa using hil) h) (by simp[hie,gz,h3,hk])).elim
  subst hij
  obtain rfl:e2=e1:=by rw[← hie,← gz]
  simp[Instr.lookup,run_underlying ht,MapKept.run_getObj_map hb,K.check W _ hkey,h1,Result.andThen]
theorem NC(h:w.ownsMap P k R b n D)(K:Keyed P k)(ht:P.underlying t=some (.map k e)){z:Value}(hz:∀w,(zeroValue e).run P w=.ok z w){key:Value}{kl:Lit}(hkey:keyOf P k key=some kl):
 ∃ (v st:Value) (w1:World),(Instr.mapEntry t (.map (some b)) key).run P w=.ok (.tuple #[v,st]) w1∧(Instr.lookup t (.map (some b)) key false).run P w=.ok v w∧(Instr.lookup t (.map (some b)) key false).run P w1=.ok v w1:=by
 obtain⟨es,clock,hb,F,hs,rfl⟩:=h
 rcases K.find w hkey es.toList F.keys with⟨h1,h2⟩|⟨j,e0,h1,h2,h3⟩
 ·have hb1:(setBlock w b (.map (es.push ⟨key,z,clock⟩) (clock+1))).heap[b]? =some (.map (es.push ⟨key,z,clock⟩) (clock+1)):=heap_setBlock_same hb _
  refine⟨z,goInt clock,setBlock w b (.map (es.push ⟨key,z,clock⟩) (clock+1)),?_,?_,?_⟩
  ·simp[Instr.mapEntry,run_underlying ht,MapKept.run_getObj_map hb,K.check w false hkey,h1,hz,MapKept.run_setObj_map _ hb,Result.andThen,setBlock]
  ·simp[Instr.lookup,run_underlying ht,MapKept.run_getObj_map hb,K.check w _ hkey,h1,hz,Result.andThen]
  ·exact Dv (j:=es.size) (e1:=⟨key,z,clock⟩) hb1 K ht hkey (fun x hx=>by
    simp only[Array.toList_push,List.mem_append,List.mem_singleton] at hx
    rcases hx with hx|rfl
    ·exact F.keys x hx
    ·exact⟨kl,hkey⟩) (stamped_push F.stamped h2).2.2 zs rfl
 ·have hj:es[j]? =some e0:=by simpa using h2
  have hsame:es.modify j (fun e=>{e with key })=es:=by
   apply Array.ext_getElem?
   intro i
   rw[Array.getElem?_modify]
   split
   ·rename_i hi
    subst hi
    rw[hj]
    simp[← h3]
   ·rfl
  have hb1:(setBlock w b (.map es clock)).heap[b]? =some (.map es clock):=heap_setBlock_same hb _
  refine⟨e0.val,goInt e0.born,setBlock w b (.map es clock),?_,Dv hb K ht hkey F.keys F.stamped.2.2 hj h3,Dv hb1 K ht hkey F.keys F.stamped.2.2 hj h3⟩
  have:(Instr.mapEntry t (.map (some b)) key).run P w=.ok (.tuple #[e0.val,goInt e0.born]) (setBlock w b (.map (es.modify j (fun e=>{e with key })) clock)):=by
   simp[Instr.mapEntry,run_underlying ht,MapKept.run_getObj_map hb,K.check w false hkey,h1,hj,h3,K.stays w hkey,MapKept.run_setObj_map _ hb,Result.andThen,setBlock]
  rw[hsame] at this
  exact this
theorem Jb(h:w.ownsMap P k R b n D)(K:Keyed P k)(ht:P.underlying t=some (.map k e)){z:Value}(hz:∀w,(zeroValue e).run P w=.ok z w){key:Value}{kl:Lit}(hkey:keyOf P k key=some kl):
 ∃ (v:Value) (st:Int) (w1:World),(Instr.mapEntry t (.map (some b)) key).run P w=.ok (.tuple #[v,int i64 st]) w1∧w.grownBy w1 (some b)∧
   ∀val:Value,∃w',(Instr.mapUpdate t (.map (some b)) key val).run P w=.ok () w'∧(Instr.entryStore t (.map (some b)) (int i64 st) val).run P w1=.ok () w':=by
 obtain⟨es,clock,hb,F,hs,rfl⟩:=h
 rcases K.find w hkey es.toList F.keys with⟨h1,h2⟩|⟨j,e0,h1,h2,h3⟩
 ·refine⟨z,clock,setBlock w b (.map (es.push ⟨key,z,clock⟩) (clock+1)),?_,?_,fun val=>⟨setBlock w b (.map (es.push ⟨key,val,clock⟩) (clock+1)),?_,?_⟩⟩
  ·simp[Instr.mapEntry,run_underlying ht,MapKept.run_getObj_map hb,K.check w false hkey,h1,hz,MapKept.run_setObj_map _ hb,Result.andThen,setBlock,goInt]
  ·exact⟨rfl,rfl,rfl,by simp[setBlock],fun i _ hi=>heap_setBlock_other hb _ (fun e=>hi (by rw[e]))⟩
  ·simp[Instr.mapUpdate,run_underlying ht,MapKept.run_getObj_map hb,K.check w false hkey,h1,MapKept.run_setObj_map _ hb,Result.andThen,setBlock]
  ·have hb1:(setBlock w b (.map (es.push ⟨key,z,clock⟩) (clock+1))).heap[b]? =some (.map (es.push ⟨key,z,clock⟩) (clock+1)):=heap_setBlock_same hb _
   have hf:=kN (es.push ⟨key,z,clock⟩) (stamped_push F.stamped h2).2.1 (j:=es.size) (e0:=⟨key,z,clock⟩) zs
   have:=BK (P:=P) (t:=t) hb1 hf val
   rw[F5,kF] at this
   exact this
 ·have hj:es[j]? =some e0:=by simpa using h2
  have hf:=kN es F.stamped.2.1 hj
  have hb1:(setBlock w b (.map (es.modify j fun e=>{e with key }) clock)).heap[b]? =some (.map (es.modify j fun e=>{e with key }) clock):=heap_setBlock_same hb _
  have hkeyf:∀e',es[j]? =some e'→({e' with key:=key }:MapEntry).key=e'.key:=fun e' he'=>by rw[hj] at he';cases he';exact h3.symm
  refine⟨e0.val,e0.born,setBlock w b (.map (es.modify j fun e=>{e with key }) clock),?_,?_,fun val=>⟨setBlock w b (.map (es.modify j fun e=>{e with key,val }) clock),?_,?_⟩⟩
  ·simp[Instr.mapEntry,run_underlying ht,MapKept.run_getObj_map hb,K.check w false hkey,h1,hj,h3,K.stays w hkey,MapKept.run_setObj_map _ hb,Result.andThen,setBlock,goInt]
  ·exact⟨rfl,rfl,rfl,by simp[setBlock],fun i _ hi=>heap_setBlock_other hb _ (fun e=>hi (by rw[e]))⟩
  ·simp[Instr.mapUpdate,run_underlying ht,MapKept.run_getObj_map hb,K.check w false hkey,h1,hj,h3,K.stays w hkey,MapKept.run_setObj_map _ hb,Result.andThen,setBlock]
  ·have hf':=kN (es.modify j fun e=>{e with key }) (stamped_modify F.stamped j (fun e=>{e with key }) (fun _ _=>rfl) (fun e1 _ he1=>hkeyf e1 he1)).2.1 (j:=j) (e0:={e0 with key }) (by rw[Array.getElem?_modify];simp[hj])
   have:=BK (P:=P) (t:=t) hb1 hf' val
   rw[yI,kF] at this
   exact this
end
end
section
open Go
section
variable{F:Fence}{n:Nat}{P:Program}{ops:Array Oper}{Q:Exit→Act→World→Prop}{md:Region.Mode}{S:World→Prop}{L:Nat}
theorem aR{i i':Nat}{o o':Oper}{fuel:Nat}{listed:Array Bool}{a:Act}{w:World}(hr:Region.ready md ops listed=[i,i'])(ho:ops[i]? =some o)(ho':ops[i']? =some o')
 (h:∀K':Act→World→Prop,Shut (∀a w,(i≠L→S w)→aZ F n P md ops Q S L fuel (listed.setIfInBounds i true) a w→K' a w)→if Region.wanted o (yielded ops a.tmps)=true then Oper.wpIn F n P o a w K' Q else(∀f,o.about P w a.eval=some f→F.fn f)∧K' (a.put o.dst undef) w)
 (h':∀K':Act→World→Prop,Shut (∀a w,(i'≠L→S w)→aZ F n P md ops Q S L fuel (listed.setIfInBounds i' true) a w→K' a w)→if Region.wanted o' (yielded ops a.tmps)=true then Oper.wpIn F n P o' a w K' Q else(∀f,o'.about P w a.eval=some f→F.fn f)∧K' (a.put o'.dst undef) w):
 aZ F n P md ops Q S L (fuel+1) listed a w:=by
 refine⟨(fun h0=>by rw[hr] at h0;cases h0),fun j hj=>?_⟩
 rw[hr] at hj
 simp only[List.mem_cons,List.not_mem_nil,or_false] at hj
 rcases hj with rfl|rfl
 ·exact wpOpIn_step ho fun K' hK=>h K' fun a w hS hW=>hK a w ⟨hS,hW⟩
 ·exact wpOpIn_step ho' fun K' hK=>h' K' fun a w hS hW=>hK a w ⟨hS,hW⟩
theorem nV{i i' i2:Nat}{o o' o2:Oper}{fuel:Nat}{listed:Array Bool}{a:Act}{w:World}(hr:Region.ready md ops listed=[i,i',i2])(ho:ops[i]? =some o)(ho':ops[i']? =some o')(ho2:ops[i2]? =some o2)
 (h:∀K':Act→World→Prop,Shut (∀a w,(i≠L→S w)→aZ F n P md ops Q S L fuel (listed.setIfInBounds i true) a w→K' a w)→if Region.wanted o (yielded ops a.tmps)=true then Oper.wpIn F n P o a w K' Q else(∀f,o.about P w a.eval=some f→F.fn f)∧K' (a.put o.dst undef) w)
 (h':∀K':Act→World→Prop,Shut (∀a w,(i'≠L→S w)→aZ F n P md ops Q S L fuel (listed.setIfInBounds i' true) a w→K' a w)→if Region.wanted o' (yielded ops a.tmps)=true then Oper.wpIn F n P o' a w K' Q else(∀f,o'.about P w a.eval=some f→F.fn f)∧K' (a.put o'.dst undef) w)
 (h2:∀K':Act→World→Prop,Shut (∀a w,(i2≠L→S w)→aZ F n P md ops Q S L fuel (listed.setIfInBounds i2 true) a w→K' a w)→if Region.wanted o2 (yielded ops a.tmps)=true then Oper.wpIn F n P o2 a w K' Q else(∀f,o2.about P w a.eval=some f→F.fn f)∧K' (a.put o2.dst undef) w):
 aZ F n P md ops Q S L (fuel+1) listed a w:=by
 refine⟨(fun h0=>by rw[hr] at h0;cases h0),fun j hj=>?_⟩
 rw[hr] at hj
 simp only[List.mem_cons,List.not_mem_nil,or_false] at hj
 rcases hj with rfl|rfl|rfl
 ·exact wpOpIn_step ho fun K' hK=>h K' fun a w hS hW=>hK a w ⟨hS,hW⟩
 ·exact wpOpIn_step ho' fun K' hK=>h' K' fun a w hS hW=>hK a w ⟨hS,hW⟩
 ·exact wpOpIn_step ho2 fun K' hK=>h2 K' fun a w hS hW=>hK a w ⟨hS,hW⟩
end
end
section
open Go Go.RowKit Go.Maps
section
variable{F:Fence}{n:Nat}{P:Program}{ops:Array Oper}{Q:Exit→Act→World→Prop}
theorem uS{id l₀:Nat}{a:Act}{w:World}(L:Nat)(S:World→Prop)(hro:F.round=none)(hm:P.follows .mixedOrders=true)(hd:vg ops=true)
 (h:aZ F n P .any ops Q S L ops.size (Array.replicate ops.size false) a w.drew):(Code.region id ops true).wpIn (F.inRound l₀) n P Q a w:=
 wpIn_region_any hm (lq hro hd _ _ _ _ (mR _ _ _ _ h))
end
theorem cm:laidOutB prog=true:=zk
theorem dQ:Keyed prog 135:=Keyed.of_law (deep_law_laid cm (m:=2) zo (of_decide_eq_true zk) zk zk)
theorem mV(w:World):(zeroValue 3).run prog w=.ok (int i64 0) w:=zk
def lk:DataW Unit→Int
 | .lit (.int _ c)=>c
 | _=>0
def qR(D:DataW Unit)(kl:Lit):DataW Unit:=D.put kl (.lit (.int .i64 (wrap64 (lk (D.atKey kl (.lit (.int .i64 0)))+1))))
theorem IQ(l₀ B M n:Nat)(D:DataW Unit)(g m:Int)(kl:Lit)(hkey:keyOf prog 135 (.agg #[int i64 g,int i64 m])=some kl)(w:World)(hc:w.cell? ⟨B,0,none⟩=some (.map (some M)))(hlt:B<w.heap.size)(gp:B≠M)(hD:w.ownsMap prog 135 (plainElem prog 3) M n D)(hn:n<maxLen)(ds:List Deferred)
 (x0 x1 x2 x4 x7 x8 x9 x10 x11 x12 x13 x14 x15 x16 x17 x18 x19 x20 x21 x22 x23 x24 x25 x26 x27 x28 x29 x30 x31 x32 x33 x34 x35:Value)(Q:Exit→Act→World→Prop)(hQ:∀ (c:List PanicEntry) (a b:Act) (w:World),Q (.panic c) a w→Q (.panic c) b w)
 (h:∀ (y25 y26 y27 y28 y29 y30 y31 y32:Value) (w':World),w'.ownsMap prog 135 (plainElem prog 3) M (n+1) (qR D kl)→Keeps (fun x=>x=M) w w'→Q .normal {tmps:=#[x0,x1,x2,.pointer (some ⟨B,0,none⟩),x4,int i64 g,int i64 m,x7,x8,x9,x10,x11,x12,x13,x14,x15,x16,x17,x18,x19,x20,x21,x22,x23,x24,y25,y26,y27,y28,y29,y30,y31,y32,x33,x34,x35],defers:=ds } w'):
 (Code.region 8 #[{dst:=some 25,op:=Op.load 131 (Operand.tmp 3),type:=131,pos:=DL,after:=#[],guard:=none },{dst:=some 26,op:=Op.move (Operand.tmp 5),type:=3,pos:=DL,after:=#[],guard:=none },{dst:=some 27,op:=Op.move (Operand.tmp 6),type:=3,pos:=DL,after:=#[],guard:=none },{dst:=some 28,op:=Op.build 135 #[(0,Operand.tmp 26),(1,Operand.tmp 27)],type:=135,pos:=DL,after:=#[{on:=1,ground:=Ground.data },{on:=2,ground:=Ground.data }],guard:=none },{dst:=some 29,op:=Op.lookup 131 (Operand.tmp 25) (Operand.tmp 28) false,type:=3,pos:=DL,after:=#[{on:=0,ground:=Ground.data },{on:=3,ground:=Ground.data }],guard:=none },{dst:=some 30,op:=Op.binOp BinOp.add 3 (Operand.tmp 29) (Operand.const (Value.int IntKind.i64 1)) 3,type:=3,pos:=DL,after:=#[{on:=4,ground:=Ground.data }],guard:=none },{dst:=some 31,op:=Op.mapEntry 131 (Operand.tmp 25) (Operand.tmp 28),type:=0,pos:=DL,after:=#[{on:=0,ground:=Ground.data },{on:=3,ground:=Ground.data },{on:=0,ground:=Ground.phase },{on:=1,ground:=Ground.phase },{on:=2,ground:=Ground.phase },{on:=3,ground:=Ground.phase },{on:=4,ground:=Ground.textOnly Departure.mapOpAssignEntry },{on:=5,ground:=Ground.textOnly Departure.mapOpAssignEntry }],guard:=none },{dst:=some 32,op:=Op.extract (Operand.tmp 31) 1,type:=3,pos:=DL,after:=#[{on:=6,ground:=Ground.data }],guard:=none },{dst:=none,op:=Op.entryStore 131 (Operand.tmp 25) (Operand.tmp 32) (Operand.tmp 30),type:=0,pos:=DL,after:=#[{on:=0,ground:=Ground.data },{on:=7,ground:=Ground.data },{on:=5,ground:=Ground.data },{on:=6,ground:=Ground.chain },{on:=0,ground:=Ground.phase },{on:=1,ground:=Ground.phase },{on:=2,ground:=Ground.phase },{on:=3,ground:=Ground.phase },{on:=4,ground:=Ground.phase },{on:=5,ground:=Ground.phase },{on:=6,ground:=Ground.phase },{on:=7,ground:=Ground.phase }],guard:=none }] true).wpIn (FF.inRound l₀) 0 prog Q {tmps:=#[x0,x1,x2,.pointer (some ⟨B,0,none⟩),x4,int i64 g,int i64 m,x7,x8,x9,x10,x11,x12,x13,x14,x15,x16,x17,x18,x19,x20,x21,x22,x23,x24,x25,x26,x27,x28,x29,x30,x31,x32,x33,x34,x35],defers:=ds } w:=by
 refine uS 8 (fun w'=>w'.cell? ⟨B,0,none⟩=some (.map (some M))) rfl zk zk ?_
 obtain⟨wd,hwd⟩:∃wd,wd=w.drew:=⟨_,rfl⟩
 have hS:wd.cell? ⟨B,0,none⟩=some (.map (some M)):=by rw[hwd];exact hc
 have hown:wd.ownsMap prog 135 (plainElem prog 3) M n D:=by rw[hwd];exact hD.drew
 have hk0:Keeps (fun x=>x=M) w wd:=by rw[hwd];exact Keeps.bG (fZ (Below.refl _ _))
 have n4:B<wd.heap.size:=by rw[hwd];exact hlt
 rw[← hwd]
 clear hwd hc hD hlt
 obtain⟨v,st,w1,hme,hg1,hup⟩:=Jb hown dQ underlying131 mV hkey
 obtain⟨v',st',w1',n8,hl0,hl1⟩:=NC hown dQ underlying131 mV hkey
 rw[hme] at n8
 obtain⟨c,hl,hat,-⟩:=hown.lookup_int dQ underlying131 underlying3 (mV _) hkey
 rw[hl0] at hl
 injection hl with hv' _
 injection n8 with hvv BV
 subst BV
 subst hv'
 injection hvv with hvv
 injection hvv with hvv
 injection hvv with hvv hst
 injection hst with hst _
 subst hvv
 subst hst
 obtain⟨w2,hu,hs⟩:=hup (int i64 (IntKind.i64.wrap (c+1)))
 obtain⟨w2',hu',hown2,hg2⟩:=hown.update dQ underlying131 hn hkey (plainElem_int (P:=prog) (e:=3) underlying3 (show(Lit.int .i64 (IntKind.i64.wrap (c+1))).wf=true by rw[IntWalk.i64_left];exact RowKit.wrap64_wf (c+1)))
 rw[hu] at hu'
 injection hu' with _ BV
 subst BV
 have YF:qR D kl=D.put kl (.lit (.int .i64 (IntKind.i64.wrap (c+1)))):=by unfold qR;rw[hat,IntWalk.i64_left];rfl
 rw[← YF] at hown2
 have hS1:w1.cell? ⟨B,0,none⟩=some (.map (some M)):=(World.cell?_of_block (hg1.block B n4 (by simpa using gp))).trans hS
 have HK:Hid (Keeps (fun x=>x=M) w w2):=hid (hk0.trans ⟨hg2.os,hg2.tape,hg2.output,hg2.size,fun b hb hc=>hg2.block b hb (by intro e;cases e;exact hc rfl)⟩)
 have HO:=hid hown2
 have HH:=hid h
 clear hu hup hown2 hg1 hg2 hat hown hk0 hkey h YF n4
 have HQ:=hid hQ
 clear hQ
 refine yX (i:=0) (some 25) hS ?_ (hQ:=fun _ _ _ h=>HQ.out _ _ _ _ h)
 simp only[Act.put,List.setIfInBounds_toArray,List.set]
 refine yX (i:=1) (some 26) hS ?_ (hQ:=fun _ _ _ h=>HQ.out _ _ _ _ h)
 simp only[Act.put,List.setIfInBounds_toArray,List.set]
 refine yX (i:=2) (some 27) hS ?_ (hQ:=fun _ _ _ h=>HQ.out _ _ _ _ h)
 simp only[Act.put,List.setIfInBounds_toArray,List.set]
 refine yX (i:=3) (some 28) hS ?_ (hQ:=fun _ _ _ h=>HQ.out _ _ _ _ h)
 simp only[Act.put,List.setIfInBounds_toArray,List.set]
 refine aR (i:=4) (i':=6) zk rfl rfl (fun K hK=>?_) (fun K hK=>?_)
 ·skip
  go_simp
  refine hK.out _ _ (fun _=>hS) ?_
  clear hK K
  refine aR (i:=5) (i':=6) zk rfl rfl (fun K hK=>?_) (fun K hK=>?_)
  ·skip
   go_simp
   refine hK.out _ _ (fun _=>hS) ?_
   clear hK K
   refine aY 6 fun K hK=>?_
   go_simp
   refine hK.out _ _ (fun _=>hS1) ?_
   clear hK K
   refine aY 7 fun K hK=>?_
   go_simp
   refine hK.out _ _ (fun _=>hS1) ?_
   clear hK K
   refine aY 8 fun K hK=>?_
   go_simp
   refine hK.out _ _ (fun h=>absurd rfl h) ?_
   clear hK K
   refine aG zk ?_ _
   exact HH.out _ _ _ _ _ _ _ _ _ HO.out HK.out
  ·skip
   go_simp
   refine hK.out _ _ (fun _=>hS1) ?_
   clear hK K
   refine aR (i:=5) (i':=7) zk rfl rfl (fun K hK=>?_) (fun K hK=>?_)
   ·skip
    go_simp
    refine hK.out _ _ (fun _=>hS1) ?_
    clear hK K
    refine aY 7 fun K hK=>?_
    go_simp
    refine hK.out _ _ (fun _=>hS1) ?_
    clear hK K
    refine aY 8 fun K hK=>?_
    go_simp
    refine hK.out _ _ (fun h=>absurd rfl h) ?_
    clear hK K
    refine aG zk ?_ _
    exact HH.out _ _ _ _ _ _ _ _ _ HO.out HK.out
   ·skip
    go_simp
    refine hK.out _ _ (fun _=>hS1) ?_
    clear hK K
    refine aY 5 fun K hK=>?_
    go_simp
    refine hK.out _ _ (fun _=>hS1) ?_
    clear hK K
    refine aY 8 fun K hK=>?_
    go_simp
    refine hK.out _ _ (fun h=>absurd rfl h) ?_
    clear hK K
    refine aG zk ?_ _
    exact HH.out _ _ _ _ _ _ _ _ _ HO.out HK.out
 ·skip
  go_simp
  refine hK.out _ _ (fun _=>hS1) ?_
  clear hK K
  refine aR (i:=4) (i':=7) zk rfl rfl (fun K hK=>?_) (fun K hK=>?_)
  ·skip
   go_simp
   refine hK.out _ _ (fun _=>hS1) ?_
   clear hK K
   refine aR (i:=5) (i':=7) zk rfl rfl (fun K hK=>?_) (fun K hK=>?_)
   ·skip
    go_simp
    refine hK.out _ _ (fun _=>hS1) ?_
    clear hK K
    refine aY 7 fun K hK=>?_
    go_simp
    refine hK.out _ _ (fun _=>hS1) ?_
    clear hK K
    refine aY 8 fun K hK=>?_
    go_simp
    refine hK.out _ _ (fun h=>absurd rfl h) ?_
    clear hK K
    refine aG zk ?_ _
    exact HH.out _ _ _ _ _ _ _ _ _ HO.out HK.out
   ·skip
    go_simp
    refine hK.out _ _ (fun _=>hS1) ?_
    clear hK K
    refine aY 5 fun K hK=>?_
    go_simp
    refine hK.out _ _ (fun _=>hS1) ?_
    clear hK K
    refine aY 8 fun K hK=>?_
    go_simp
    refine hK.out _ _ (fun h=>absurd rfl h) ?_
    clear hK K
    refine aG zk ?_ _
    exact HH.out _ _ _ _ _ _ _ _ _ HO.out HK.out
  ·skip
   go_simp
   refine hK.out _ _ (fun _=>hS1) ?_
   clear hK K
   refine aY 4 fun K hK=>?_
   go_simp
   refine hK.out _ _ (fun _=>hS1) ?_
   clear hK K
   refine aY 5 fun K hK=>?_
   go_simp
   refine hK.out _ _ (fun _=>hS1) ?_
   clear hK K
   refine aY 8 fun K hK=>?_
   go_simp
   refine hK.out _ _ (fun h=>absurd rfl h) ?_
   clear hK K
   refine aG zk ?_ _
   exact HH.out _ _ _ _ _ _ _ _ _ HO.out HK.out
end
end Go.Proofs.YthaelabgfnnebaaGreat
