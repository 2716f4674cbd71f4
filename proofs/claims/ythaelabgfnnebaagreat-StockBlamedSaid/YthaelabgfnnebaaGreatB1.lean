/- HL AD0 HO HY -/
import Derived.Test.YthaelabgfnnebaaGreatB0
set_option maxRecDepth 100000
set_option maxHeartbeats 16000000
set_option linter.unusedVariables false
set_option linter.unusedSectionVars false
open Go.IntKind(i64)
open Go.Lib(hid)
open Go.Proofs.Tryz
open Go.Value(int)
namespace Go.Proofs.YthaelabgfnnebaaGreat
section
open Go.RowKit
open Go.Sort (grow)
attribute [local go_sem] Oper.semAt_some
def BX(kd go dy:Int)(gd:Nat)(a z:Int):Bool:=decide (kd=2) && (decide (go=gd) && fU dy a z)
def kI(b:Bk)(h:Ht)(gd:Nat)(a z:Int):Nat→Int
 | 0=>0
 | Nat.succ k=>bif BX (b.m k).kind (b.m k).good (b.m k).day gd a z then wrap64 (kI b h gd a z k+h.real k) else kI b h gd a z k
theorem fa(b:Bk)(h:Ht)(gd:Nat)(a z:Int)(w:World)(hA:b.At w w.heap.size)(hnm:b.nm≤6)(hh:h.lies<64):CallsIn FF 0 prog 64 #[b.val,h.val,int i64 gd,.agg #[int i64 a,int i64 z]] w fun e w'=>e=.returned (int i64 (kI b h gd a z b.nm))∧Below w.heap.size w w':=by
 obtain⟨L,hL⟩:∃L,L=kI b h gd a z:=⟨_,rfl⟩
 obtain⟨R,hR⟩:∃R,R=h.real:=⟨_,rfl⟩
 have aq:Hid (L 0=0):=hid (by rw[hL];rfl)
 have QW:Hid (∀k,L (k+1)=bif BX (b.m k).kind (b.m k).good (b.m k).day gd a z then wrap64 (L k+R k) else L k):=hid fun k=>by rw[hL,hR];rfl
 have jx:=hid fun k (w:World) (hk:k<b.nm)=>nP h k w hh zo
 have NL:=hid fun n (w:World)=>CallsIn.wider (Zv a z n w)
 rw[← hL]
 rw[← hR] at jx
 clear hL hR hh
 have HA:=hid hA
 clear hA
 obtain⟨days,most,gA,ng,gc,g,mA,nm,mc,m,cA,nc,cc,c⟩:=b
 obtain⟨f,ms,li⟩:=h
 simp only[Bk.val,Bk.cells,Ht.val,Ht.cells] at QW jx hnm⊢
 obtain⟨w1,hw1⟩:∃w1,w1=((w.alloc (.cells #[int i64 days,int i64 most,.slice gA ng gc,.slice mA nm mc,.slice cA nc cc] 74)).alloc (.cells #[int i64 (f 0),int i64 (f 1),int i64 (f 2),int i64 (ms 0),int i64 (ms 1),int i64 (ms 2),int i64 (ms 3),int i64 (ms 4),int i64 (ms 5),int i64 li] 88)).alloc (.cells #[int i64 a,int i64 z] 38):=⟨_,rfl⟩
 have B1:Hid (Below w.heap.size w w1):=hid (by rw[hw1];exact bw)
 have H1:Hid (Whole w1 (w.heap.size+1) 88 #[int i64 (f 0),int i64 (f 1),int i64 (f 2),int i64 (ms 0),int i64 (ms 1),int i64 (ms 2),int i64 (ms 3),int i64 (ms 4),int i64 (ms 5),int i64 li]):=hid (by
  have:=(Whole.new (w.alloc (.cells #[int i64 days,int i64 most,.slice gA ng gc,.slice mA nm mc,.slice cA nc cc] 74)) 88 #[int i64 (f 0),int i64 (f 1),int i64 (f 2),int i64 (ms 0),int i64 (ms 1),int i64 (ms 2),int i64 (ms 3),int i64 (ms 4),int i64 (ms 5),int i64 li]).alloc (.cells #[int i64 a,int i64 z] 38)
  rw[World.size_alloc] at this;rw[hw1];exact this)
 have D1:Hid (Whole w1 (w.heap.size+1+1) 38 #[int i64 a,int i64 z]):=hid (by
  have:=Whole.new ((w.alloc (.cells #[int i64 days,int i64 most,.slice gA ng gc,.slice mA nm mc,.slice cA nc cc] 74)).alloc (.cells #[int i64 (f 0),int i64 (f 1),int i64 (f 2),int i64 (ms 0),int i64 (ms 1),int i64 (ms 2),int i64 (ms 3),int i64 (ms 4),int i64 (ms 5),int i64 li] 88)) 38 #[int i64 a,int i64 z]
  rw[World.size_alloc,World.size_alloc] at this;rw[hw1];exact this)
 have A1:=hid (HA.out.up B1.out)
 have hs1:w1.heap.size=w.heap.size+3:=by rw[hw1];simp
 have mX:=hid hw1
 clear hw1
 gi_enter func64,ntmps64
 gi_wp2
 rw[← mX.out]
 clear mX
 gi_loopw [9,16] (fun u i wr=>∃k:Nat,k≤nm∧i=int i64 k∧u=int i64 (L k)∧Hid (Below w1.heap.size w1 wr)) (fun _ i _=>nm - (intOf i).toNat)
 case atStart=>exact⟨0,Nat.zero_le _,rfl,by rw[aq.out],hid (Below.refl _ _)⟩
 case round=>
  obtain⟨k,hk,rfl,rfl,hT⟩:=hrel
  obtain⟨wo,rfl⟩:∃wo:World,wo=wr:=⟨_,rfl⟩
  have hsz:=hT.out.size
  by_cases hlt:k<nm
  ·obtain⟨ad,hA',hbl,-⟩:=A1.out.m (show 0<nm by omega)
   simp only at hA'
   subst hA'
   obtain⟨gk,D5⟩:∃gk,gk=m k:=⟨_,rfl⟩
   have hr:∀j,j<5→wo.cell? ((ad.add (k * 5)).add j)=some (gk.cell j):=fun j hj=>by rw[D5];exact((A1.out.m.below hT.out)).row hlt |>.2 j hj
   have hLk:=QW.out k
   rw[← D5] at hLk
   obtain⟨kd,go,dy,lo,hi⟩:=gk
   have c0:wo.cell? (ad.add (k * 5))=some (int i64 kd):=hr 0 zD
   have c1:wo.cell? ⟨(ad.add (k * 5)).block,(ad.add (k * 5)).off+1,none⟩=some (int i64 go):=hr 1 zD
   have c2:wo.cell? ⟨(ad.add (k * 5)).block,(ad.add (k * 5)).off+2,none⟩=some (int i64 dy):=hr 2 zD
   have c3:wo.cell? ⟨(ad.add (k * 5)).block,(ad.add (k * 5)).off+3,none⟩=some (int i64 lo):=hr 3 zD
   have c4:wo.cell? ⟨(ad.add (k * 5)).block,(ad.add (k * 5)).off+4,none⟩=some (int i64 hi):=hr 4 zD
   clear hr
   simp only at hLk
   have Vg:=hid hLk
   clear D5 hLk
   by_cases k2:kd=2
   ·subst k2
    by_cases g2:go=gd
    ·subst g2
     obtain⟨w2,hw2⟩:∃w2,w2=wo.alloc (.cells #[int i64 2,int i64 gd,int i64 dy,int i64 lo,int i64 hi] 52):=⟨_,rfl⟩
     have B2:Hid (Below wo.heap.size wo w2):=hid (by rw[hw2];exact bw)
     have H2:=hid ((H1.out.below hT.out H1.out.lt).below B2.out zo)
     have D2:=hid ((D1.out.below hT.out D1.out.lt).below B2.out zo)
     have d0:w2.cell? ⟨w.heap.size+1+1,0,none⟩=some (int i64 a):=D2.out.cell 0
     have d1:w2.cell? ⟨w.heap.size+1+1,1,none⟩=some (int i64 z):=D2.out.cell 1
     have h0:w2.cell? ⟨w.heap.size+1,0,none⟩=some (int i64 (f 0)):=H2.out.cell 0
     have h1:w2.cell? ⟨w.heap.size+1,1,none⟩=some (int i64 (f 1)):=H2.out.cell 1
     have h2:w2.cell? ⟨w.heap.size+1,2,none⟩=some (int i64 (f 2)):=H2.out.cell 2
     have h3:w2.cell? ⟨w.heap.size+1,3,none⟩=some (int i64 (ms 0)):=H2.out.cell 3
     have h4:w2.cell? ⟨w.heap.size+1,4,none⟩=some (int i64 (ms 1)):=H2.out.cell 4
     have h5:w2.cell? ⟨w.heap.size+1,5,none⟩=some (int i64 (ms 2)):=H2.out.cell 5
     have h6:w2.cell? ⟨w.heap.size+1,6,none⟩=some (int i64 (ms 3)):=H2.out.cell 6
     have h7:w2.cell? ⟨w.heap.size+1,7,none⟩=some (int i64 (ms 4)):=H2.out.cell 7
     have h8:w2.cell? ⟨w.heap.size+1,8,none⟩=some (int i64 (ms 5)):=H2.out.cell 8
     have h9:w2.cell? ⟨w.heap.size+1,9,none⟩=some (int i64 li):=H2.out.cell 9
     have RE:=hid fun w=>jx.out k w hlt
     rw[hw2] at d0 d1 h0 h1 h2 h3 h4 h5 h6 h7 h8 h9
     have ER:=hid hw2
     clear hw2
     cases hi2:fU dy a z with
     | true=>
       have HI:=hid hi2
       rw[BX,decide_eq_true rfl,decide_eq_true rfl,hi2] at Vg
       have As:=hid fun w=>by have:=NL.out dy w;rw[hi2] at this;exact this
       clear hi2
       gi_wp2_with (first
        | (gi_at_call 91;rw[← ER.out];refine(As.out _).mono ?_;rintro e w3 ⟨rfl,hb3⟩;have H3:=H2.out.below hb3 H2.out.lt;have j0:w3.cell? ⟨w.heap.size+1,0,none⟩=some (int i64 (f 0)):=H3.cell 0;have j1:w3.cell? ⟨w.heap.size+1,1,none⟩=some (int i64 (f 1)):=H3.cell 1;have j2:w3.cell? ⟨w.heap.size+1,2,none⟩=some (int i64 (f 2)):=H3.cell 2;have j3:w3.cell? ⟨w.heap.size+1,3,none⟩=some (int i64 (ms 0)):=H3.cell 3;have j4:w3.cell? ⟨w.heap.size+1,4,none⟩=some (int i64 (ms 1)):=H3.cell 4;have j5:w3.cell? ⟨w.heap.size+1,5,none⟩=some (int i64 (ms 2)):=H3.cell 5;have j6:w3.cell? ⟨w.heap.size+1,6,none⟩=some (int i64 (ms 3)):=H3.cell 6;have j7:w3.cell? ⟨w.heap.size+1,7,none⟩=some (int i64 (ms 4)):=H3.cell 7;have j8:w3.cell? ⟨w.heap.size+1,8,none⟩=some (int i64 (ms 5)):=H3.cell 8;have j9:w3.cell? ⟨w.heap.size+1,9,none⟩=some (int i64 li):=H3.cell 9)
        | (gi_at_call 57;refine(RE.out _).mono ?_;rintro e w4 ⟨rfl,hb4⟩))
       exact⟨⟨k+1,hlt,by push_cast;rfl,by rw[Vg.out];rfl,hid (Below.next (Below.next (Below.next hT.out B2.out) hb3) hb4)⟩,by simp[intOf];omega⟩
     | false=>
       rw[BX,decide_eq_true rfl,decide_eq_true rfl,hi2] at Vg
       have As:=hid fun w=>by have:=NL.out dy w;rw[hi2] at this;exact this
       clear hi2
       gi_wp2_with (gi_at_call 91;rw[← ER.out];refine(As.out _).mono ?_;rintro e w3 ⟨rfl,hb3⟩)
       exact⟨⟨k+1,hlt,by push_cast;rfl,by rw[Vg.out];rfl,hid (Below.next (Below.next hT.out B2.out) hb3)⟩,by simp[intOf];omega⟩
    ·have hd:decide (go=(gd:Int))=false:=decide_eq_false g2
     rw[BX,hd,Bool.false_and,Bool.and_false] at Vg
     gi_wp2
     exact⟨⟨k+1,hlt,by push_cast;rfl,by rw[Vg.out];rfl,hid (Below.al hT.out _)⟩,by simp[intOf];omega⟩
   ·have hd:decide (kd=2)=false:=decide_eq_false k2
    rw[BX,hd,Bool.false_and] at Vg
    gi_wp2
    exact⟨⟨k+1,hlt,by push_cast;rfl,by rw[Vg.out];rfl,hid (Below.al hT.out _)⟩,by simp[intOf];omega⟩
  ·obtain rfl:k=nm:=zo
   gi_wp2
   go_ret
   exact⟨rfl,Below.next B1.out hT.out⟩
theorem Xg(b:Bk)(ok:b.Ok)(A:Option Addr)(n p:Nat)(gd:Nat)(a z:Int)(xs:List Ht)(hx:∀h∈xs,oM h)(Bc Bg Bd:Nat)(w:World)(hA:b.At w w.heap.size)(hc:Whole w Bc 76 (aA b A n p))(hg:Whole w Bg 3 #[int i64 gd])(hd:Whole w Bd 38 #[int i64 a,int i64 z]):sI FF 63 #[.pointer (some ⟨Bc,0,none⟩),.pointer (some ⟨Bg,0,none⟩),.pointer (some ⟨Bd,0,none⟩)] xs (fun h=>int i64 (kI b h gd a z b.nm)) w:=by
 refine⟨zs,enters_of func63 zk rfl,fun W h hh hW=>?_⟩
 have HF:=hid fun W hA=>fa b h gd a z W hA ok.moves.1 (hx h hh).lies
 have HA:=hid (hA.up hW)
 have C1:=hid (hc.below hW hc.lt)
 have G1:=hid (hg.below hW hg.lt)
 have D1:=hid (hd.below hW hd.lt)
 have h1:=C1.out.lt
 have h2:=D1.out.lt
 have h3:=G1.out.lt
 show CallsIn FF 0 prog 63 #[h.val,.pointer (some ⟨Bc,0,none⟩),.pointer (some ⟨Bg,0,none⟩),.pointer (some ⟨Bd,0,none⟩)] W fun e W'=>e=.returned (int i64 (kI b h gd a z b.nm))∧Below W.heap.size W W'
 obtain⟨u,hu⟩:∃u,u=kI b h gd a z b.nm:=⟨_,rfl⟩
 rw[← hu] at HF⊢
 clear hh hu hc hd hg hx hA ok hW
 obtain⟨f,m,li⟩:=h
 obtain⟨days,most,gA,ng,gc,gs,mA,nm,mc,ms,cA,nc,cc,cs⟩:=b
 simp only[Ht.val,Ht.cells,Bk.val,Bk.cells] at HF⊢
 simp only[aA] at C1
 have q0:W.cell? ⟨Bc,0,none⟩=some (int i64 days):=C1.out.cell 0
 have q1:W.cell? ⟨Bc,1,none⟩=some (int i64 most):=C1.out.cell 1
 have q2:W.cell? ⟨Bc,2,none⟩=some (.slice gA ng gc):=C1.out.cell 2
 have q3:W.cell? ⟨Bc,3,none⟩=some (.slice mA nm mc):=C1.out.cell 3
 have q4:W.cell? ⟨Bc,4,none⟩=some (.slice cA nc cc):=C1.out.cell 4
 have d0:W.cell? ⟨Bd,0,none⟩=some (int i64 a):=D1.out.cell 0
 have d1:W.cell? ⟨Bd,1,none⟩=some (int i64 z):=D1.out.cell 1
 have g0:W.cell? ⟨Bg,0,none⟩=some (int i64 gd):=G1.out.cell 0
 gi_enter func63,ntmps63
 gi_wp2_with (gi_at_call 64;refine(HF.out _ (HA.out.up (bw))).mono ?_;rintro e w4 ⟨rfl,hb4⟩)
 go_ret
 exact⟨rfl,Below.next (bw) hb4⟩
end
section
open Go.RowKit
variable{b:Bk}{h:Ht}{gd:Nat}{a z:Int}
end
section
open Go.RowKit
open Go.Sort (grow)
attribute [local go_sem] Oper.semAt_some
theorem qI(b:Bk)(i:Nat)(w:World)(h:b.At w w.heap.size)(ok:b.Ok)(hcap:b.ng≤b.gc)(hi:i<b.ng):CallsIn FF 0 prog 37 #[b.val,int i64 i] w fun e w'=>∃A p,e=.returned (.tuple #[.agg (aA b A (ak b).length p),int i64 0])∧om b A w'∧Below w.heap.size w w':=by
 have HO:=hid fun w h=>mF b w h ok hcap
 have HH:=hid fun(w:World)=>show CallsIn FF 0 prog 73 #[b.val,int i64 i] w fun e w'=>e=.returned (.bool true)∧Below w.heap.size w w' from by
  have:=sV b i w (by unfold maxLen;have:=ok.bM.1.2;omega)
  have e:fU (i:Int) 0 ((b.ng:Int) - 1)=true:=by unfold fU;simp;omega
  rwa[e] at this
 have HA:=hid h
 obtain⟨n,hn⟩:∃n,n=(ak b).length:=⟨_,rfl⟩
 obtain⟨CK,WA⟩:∃CK:Option Addr→World→Prop,CK=fun A w=>om b A w:=⟨_,rfl⟩
 have my:Hid (∀w,b.At w w.heap.size→CallsIn FF 0 prog 33 #[b.val] w fun e w'=>∃A p,e=.returned (.tuple #[.agg (aA b A n p),int i64 0])∧CK A w'∧Below w.heap.size w w'∧∀ad,A=some ad→0<n→w.heap.size≤ad.block):=hid fun w h=>by rw[WA,hn];exact HO.out w h
 have goal:∀ (e:Ending) (w':World),(∃A p,e=.returned (.tuple #[.agg (aA b A n p),int i64 0])∧CK A w'∧Below w.heap.size w w')→∃A p,e=.returned (.tuple #[.agg (aA b A (ak b).length p),int i64 0])∧om b A w'∧Below w.heap.size w w':=fun e w' h=>by rw[WA,hn] at h;exact h
 refine CallsIn.mono (R:=fun e w'=>∃A p,e=.returned (.tuple #[.agg (aA b A n p),int i64 0])∧CK A w'∧Below w.heap.size w w') ?_ goal
 have yl:Hid (∀A (w2 w4:World) (q:Addr) (u0 u1 u2 u3 u4 u5:Value),CK A w2→Below w.heap.size w (((((((w4.setCell q u0).setCell ⟨q.block,1,none⟩ u1).setCell ⟨q.block,2,none⟩ u2).setCell ⟨q.block,3,none⟩ u3).setCell ⟨q.block,4,none⟩ u4).setCell ⟨q.block,5,none⟩ u5))→Below w2.heap.size w2 w4→(∀ad,A=some ad→0<n→q.block<ad.block)→CK A (((((((w4.setCell q u0).setCell ⟨q.block,1,none⟩ u1).setCell ⟨q.block,2,none⟩ u2).setCell ⟨q.block,3,none⟩ u3).setCell ⟨q.block,4,none⟩ u4).setCell ⟨q.block,5,none⟩ u5))):=hid fun A w2 w4 q u0 u1 u2 u3 u4 u5 hc hb hb4 hf=>by
  rw[WA] at hc⊢
  rw[hn] at hf
  refine⟨h.up hb,?_⟩
  have hr:=(hc.row.below hb4).more hb4.size
  have hne:∀ad,A=some ad→0<(ak b).length→ad.block≠q.block:=fun ad hA hl=>by have:=hf ad hA hl;omega
  have:=(((((hr.bT hne u0).bT (p:=⟨q.block,1,none⟩) hne u1).bT (p:=⟨q.block,2,none⟩) hne u2).bT (p:=⟨q.block,3,none⟩) hne u3).bT (p:=⟨q.block,4,none⟩) hne u4).bT (p:=⟨q.block,5,none⟩) hne u5
  exact this.more (by simp[World.setCell])
 clear hn WA h hcap hi ok HO goal
 obtain⟨days,most,gA,ng,gc,g,mA,nm,mc,m,cA,nc,cc,c⟩:=b
 simp only[Bk.val,Bk.cells,aA] at my HH⊢
 have Y1:Hid (Whole ((w.alloc (.cells #[int i64 days,int i64 most,.slice gA ng gc,.slice mA nm mc,.slice cA nc cc] 26)).alloc (.cells #[int i64 0,int i64 0,.slice none 0 0,.slice none 0 0,.slice none 0 0,.slice none 0 0] 76)) (w.heap.size+1) 76 #[int i64 0,int i64 0,.slice none 0 0,.slice none 0 0,.slice none 0 0,.slice none 0 0]):=hid (by
  have:=Whole.new (w.alloc (.cells #[int i64 days,int i64 most,.slice gA ng gc,.slice mA nm mc,.slice cA nc cc] 26)) 76 #[int i64 0,int i64 0,.slice none 0 0,.slice none 0 0,.slice none 0 0,.slice none 0 0]
  rwa[World.size_alloc] at this)
 gi_enter func37,ntmps37
 gi_wp2_with (first
  | (gi_at_call 33;refine(my.out _ (HA.out.up (bw))).mono ?_;rintro e w2 ⟨A,p,rfl,hc2,hb2,hf2⟩;have yy:=hid hf2;clear hf2;have HB2:=hid hb2;have yn:=hid hc2;have hl2:w.heap.size+2≤w2.heap.size:=by have:=hb2.size;simpa using this)
  | (gi_at_call 73;refine(HH.out _).mono ?_;rintro e w4 ⟨rfl,hb4⟩;have Dh:=hid hb4;have X4:Whole w4 w2.heap.size 76 #[int i64 days,int i64 most,.slice gA ng gc,.slice mA nm mc,.slice cA nc cc,.slice A n p]:=(Whole.new w2 _ _).below hb4 zs;have x0:w4.cell? ⟨w2.heap.size,0,none⟩=some (int i64 days):=X4.cell 0;have x1:w4.cell? ⟨w2.heap.size,1,none⟩=some (int i64 most):=X4.cell 1;have x2:w4.cell? ⟨w2.heap.size,2,none⟩=some (.slice gA ng gc):=X4.cell 2;have x3:w4.cell? ⟨w2.heap.size,3,none⟩=some (.slice mA nm mc):=X4.cell 3;have x4:w4.cell? ⟨w2.heap.size,4,none⟩=some (.slice cA nc cc):=X4.cell 4;have x5:w4.cell? ⟨w2.heap.size,5,none⟩=some (.slice A n p):=X4.cell 5;have Y4:=((Y1.out.below hb2 zs).alloc (.cells #[int i64 days,int i64 most,.slice gA ng gc,.slice mA nm mc,.slice cA nc cc,.slice A n p] 76)).below hb4 zm;have yf:=Y4.thaw;have y0:w4.cell? ⟨w.heap.size+1,0,none⟩=some (int i64 0):=Y4.cell 0;have y1:w4.cell? ⟨w.heap.size+1,1,none⟩=some (int i64 0):=Y4.cell 1;have y2:w4.cell? ⟨w.heap.size+1,2,none⟩=some (.slice none 0 0):=Y4.cell 2;have y3:w4.cell? ⟨w.heap.size+1,3,none⟩=some (.slice none 0 0):=Y4.cell 3;have y4:w4.cell? ⟨w.heap.size+1,4,none⟩=some (.slice none 0 0):=Y4.cell 4;have y5:w4.cell? ⟨w.heap.size+1,5,none⟩=some (.slice none 0 0):=Y4.cell 5))
 have U:=(((((Y4.set 0 (int i64 days)).set 1 (int i64 most)).set 2 (.slice gA ng gc)).set 3 (.slice mA nm mc)).set 4 (.slice cA nc cc)).set 5 (.slice A n p)
 have u0:=U.cell 0
 have u1:=U.cell 1
 have u2:=U.cell 2
 have u3:=U.cell 3
 have u4:=U.cell 4
 have u5:=U.cell 5
 have UB:=hid ((((((((Below.next (Below.al (Below.next (show Below w.heap.size w ((w.alloc (.cells #[int i64 days,int i64 most,.slice gA ng gc,.slice mA nm mc,.slice cA nc cc] 26)).alloc (.cells #[int i64 0,int i64 0,.slice none 0 0,.slice none 0 0,.slice none 0 0,.slice none 0 0] 76)) from bw) HB2.out) (.cells #[int i64 days,int i64 most,.slice gA ng gc,.slice mA nm mc,.slice cA nc cc,.slice A n p] 76)) Dh.out).setCell (p:=⟨w.heap.size+1,0,none⟩) zs (int i64 days)).setCell (p:=⟨w.heap.size+1,1,none⟩) zs (int i64 most)).setCell (p:=⟨w.heap.size+1,2,none⟩) zs (.slice gA ng gc)).setCell (p:=⟨w.heap.size+1,3,none⟩) zs (.slice mA nm mc)).setCell (p:=⟨w.heap.size+1,4,none⟩) zs (.slice cA nc cc)).setCell (p:=⟨w.heap.size+1,5,none⟩) zs (.slice A n p)))
 refine bodyPost_ret (v:=.tuple #[.agg #[int i64 days,int i64 most,.slice gA ng gc,.slice mA nm mc,.slice cA nc cc,.slice A n p],int i64 0]) (by simp[results,results37,go_sem,u0,u1,u2,u3,u4,u5]) rfl ⟨A,p,rfl,?_,?_⟩
 ·exact yl.out A w2 w4 ⟨w.heap.size+1,0,none⟩ _ _ _ _ _ _ yn.out UB.out (Below.next (Below.al (Below.refl _ w2) _) Dh.out) fun ad hA hn=>by have:=yy.out ad hA hn;simp at this⊢;omega
 ·exact UB.out
theorem Kn(b:Bk)(i:Nat)(w:World)(h:b.At w w.heap.size)(ok:b.Ok)(hcap:b.ng≤b.gc)(hi:i<b.nm):CallsIn FF 0 prog 55 #[b.val,int i64 i] w fun e w'=>∃A p,e=.returned (.tuple #[.agg (aA b A (ak b).length p),int i64 0])∧om b A w'∧Below w.heap.size w w':=by
 have HO:=hid fun w h=>mF b w h ok hcap
 have HH:=hid fun(w:World)=>show CallsIn FF 0 prog 90 #[b.val,int i64 i] w fun e w'=>e=.returned (.bool true)∧Below w.heap.size w w' from by
  have:=BI b i w (by unfold maxLen;have:=ok.moves.1;omega)
  have e:fU (i:Int) 0 ((b.nm:Int) - 1)=true:=by unfold fU;simp;omega
  rwa[e] at this
 have HA:=hid h
 obtain⟨n,hn⟩:∃n,n=(ak b).length:=⟨_,rfl⟩
 obtain⟨CK,WA⟩:∃CK:Option Addr→World→Prop,CK=fun A w=>om b A w:=⟨_,rfl⟩
 have my:Hid (∀w,b.At w w.heap.size→CallsIn FF 0 prog 33 #[b.val] w fun e w'=>∃A p,e=.returned (.tuple #[.agg (aA b A n p),int i64 0])∧CK A w'∧Below w.heap.size w w'∧∀ad,A=some ad→0<n→w.heap.size≤ad.block):=hid fun w h=>by rw[WA,hn];exact HO.out w h
 have goal:∀ (e:Ending) (w':World),(∃A p,e=.returned (.tuple #[.agg (aA b A n p),int i64 0])∧CK A w'∧Below w.heap.size w w')→∃A p,e=.returned (.tuple #[.agg (aA b A (ak b).length p),int i64 0])∧om b A w'∧Below w.heap.size w w':=fun e w' h=>by rw[WA,hn] at h;exact h
 refine CallsIn.mono (R:=fun e w'=>∃A p,e=.returned (.tuple #[.agg (aA b A n p),int i64 0])∧CK A w'∧Below w.heap.size w w') ?_ goal
 have yl:Hid (∀A (w2 w4:World) (q:Addr) (u0 u1 u2 u3 u4 u5:Value),CK A w2→Below w.heap.size w (((((((w4.setCell q u0).setCell ⟨q.block,1,none⟩ u1).setCell ⟨q.block,2,none⟩ u2).setCell ⟨q.block,3,none⟩ u3).setCell ⟨q.block,4,none⟩ u4).setCell ⟨q.block,5,none⟩ u5))→Below w2.heap.size w2 w4→(∀ad,A=some ad→0<n→q.block<ad.block)→CK A (((((((w4.setCell q u0).setCell ⟨q.block,1,none⟩ u1).setCell ⟨q.block,2,none⟩ u2).setCell ⟨q.block,3,none⟩ u3).setCell ⟨q.block,4,none⟩ u4).setCell ⟨q.block,5,none⟩ u5))):=hid fun A w2 w4 q u0 u1 u2 u3 u4 u5 hc hb hb4 hf=>by
  rw[WA] at hc⊢
  rw[hn] at hf
  refine⟨h.up hb,?_⟩
  have hr:=(hc.row.below hb4).more hb4.size
  have hne:∀ad,A=some ad→0<(ak b).length→ad.block≠q.block:=fun ad hA hl=>by have:=hf ad hA hl;omega
  have:=(((((hr.bT hne u0).bT (p:=⟨q.block,1,none⟩) hne u1).bT (p:=⟨q.block,2,none⟩) hne u2).bT (p:=⟨q.block,3,none⟩) hne u3).bT (p:=⟨q.block,4,none⟩) hne u4).bT (p:=⟨q.block,5,none⟩) hne u5
  exact this.more (by simp[World.setCell])
 clear hn WA h hcap hi ok HO goal
 obtain⟨days,most,gA,ng,gc,g,mA,nm,mc,m,cA,nc,cc,c⟩:=b
 simp only[Bk.val,Bk.cells,aA] at my HH⊢
 have Y1:Hid (Whole ((w.alloc (.cells #[int i64 days,int i64 most,.slice gA ng gc,.slice mA nm mc,.slice cA nc cc] 26)).alloc (.cells #[int i64 0,int i64 0,.slice none 0 0,.slice none 0 0,.slice none 0 0,.slice none 0 0] 76)) (w.heap.size+1) 76 #[int i64 0,int i64 0,.slice none 0 0,.slice none 0 0,.slice none 0 0,.slice none 0 0]):=hid (by
  have:=Whole.new (w.alloc (.cells #[int i64 days,int i64 most,.slice gA ng gc,.slice mA nm mc,.slice cA nc cc] 26)) 76 #[int i64 0,int i64 0,.slice none 0 0,.slice none 0 0,.slice none 0 0,.slice none 0 0]
  rwa[World.size_alloc] at this)
 gi_enter func55,ntmps55
 gi_wp2_with (first
  | (gi_at_call 33;refine(my.out _ (HA.out.up (bw))).mono ?_;rintro e w2 ⟨A,p,rfl,hc2,hb2,hf2⟩;have yy:=hid hf2;clear hf2;have HB2:=hid hb2;have yn:=hid hc2;have hl2:w.heap.size+2≤w2.heap.size:=by have:=hb2.size;simpa using this)
  | (gi_at_call 90;refine(HH.out _).mono ?_;rintro e w4 ⟨rfl,hb4⟩;have Dh:=hid hb4;have X4:Whole w4 w2.heap.size 76 #[int i64 days,int i64 most,.slice gA ng gc,.slice mA nm mc,.slice cA nc cc,.slice A n p]:=(Whole.new w2 _ _).below hb4 zs;have x0:w4.cell? ⟨w2.heap.size,0,none⟩=some (int i64 days):=X4.cell 0;have x1:w4.cell? ⟨w2.heap.size,1,none⟩=some (int i64 most):=X4.cell 1;have x2:w4.cell? ⟨w2.heap.size,2,none⟩=some (.slice gA ng gc):=X4.cell 2;have x3:w4.cell? ⟨w2.heap.size,3,none⟩=some (.slice mA nm mc):=X4.cell 3;have x4:w4.cell? ⟨w2.heap.size,4,none⟩=some (.slice cA nc cc):=X4.cell 4;have x5:w4.cell? ⟨w2.heap.size,5,none⟩=some (.slice A n p):=X4.cell 5;have Y4:=((Y1.out.below hb2 zs).alloc (.cells #[int i64 days,int i64 most,.slice gA ng gc,.slice mA nm mc,.slice cA nc cc,.slice A n p] 76)).below hb4 zm;have yf:=Y4.thaw;have y0:w4.cell? ⟨w.heap.size+1,0,none⟩=some (int i64 0):=Y4.cell 0;have y1:w4.cell? ⟨w.heap.size+1,1,none⟩=some (int i64 0):=Y4.cell 1;have y2:w4.cell? ⟨w.heap.size+1,2,none⟩=some (.slice none 0 0):=Y4.cell 2;have y3:w4.cell? ⟨w.heap.size+1,3,none⟩=some (.slice none 0 0):=Y4.cell 3;have y4:w4.cell? ⟨w.heap.size+1,4,none⟩=some (.slice none 0 0):=Y4.cell 4;have y5:w4.cell? ⟨w.heap.size+1,5,none⟩=some (.slice none 0 0):=Y4.cell 5))
 have U:=(((((Y4.set 0 (int i64 days)).set 1 (int i64 most)).set 2 (.slice gA ng gc)).set 3 (.slice mA nm mc)).set 4 (.slice cA nc cc)).set 5 (.slice A n p)
 have u0:=U.cell 0
 have u1:=U.cell 1
 have u2:=U.cell 2
 have u3:=U.cell 3
 have u4:=U.cell 4
 have u5:=U.cell 5
 have UB:=hid ((((((((Below.next (Below.al (Below.next (show Below w.heap.size w ((w.alloc (.cells #[int i64 days,int i64 most,.slice gA ng gc,.slice mA nm mc,.slice cA nc cc] 26)).alloc (.cells #[int i64 0,int i64 0,.slice none 0 0,.slice none 0 0,.slice none 0 0,.slice none 0 0] 76)) from bw) HB2.out) (.cells #[int i64 days,int i64 most,.slice gA ng gc,.slice mA nm mc,.slice cA nc cc,.slice A n p] 76)) Dh.out).setCell (p:=⟨w.heap.size+1,0,none⟩) zs (int i64 days)).setCell (p:=⟨w.heap.size+1,1,none⟩) zs (int i64 most)).setCell (p:=⟨w.heap.size+1,2,none⟩) zs (.slice gA ng gc)).setCell (p:=⟨w.heap.size+1,3,none⟩) zs (.slice mA nm mc)).setCell (p:=⟨w.heap.size+1,4,none⟩) zs (.slice cA nc cc)).setCell (p:=⟨w.heap.size+1,5,none⟩) zs (.slice A n p)))
 refine bodyPost_ret (v:=.tuple #[.agg #[int i64 days,int i64 most,.slice gA ng gc,.slice mA nm mc,.slice cA nc cc,.slice A n p],int i64 0]) (by simp[results,results55,go_sem,u0,u1,u2,u3,u4,u5]) rfl ⟨A,p,rfl,?_,?_⟩
 ·exact yl.out A w2 w4 ⟨w.heap.size+1,0,none⟩ _ _ _ _ _ _ yn.out UB.out (Below.next (Below.al (Below.refl _ w2) _) Dh.out) fun ad hA hn=>by have:=yy.out ad hA hn;simp at this⊢;omega
 ·exact UB.out
theorem cx(b:Bk)(ok:b.Ok)(A:Option Addr)(n p:Nat)(g:Nat)(hg:g<3)(xs:List Ht)(hx:∀h∈xs,oM h)(Bc Bg:Nat)(w:World)(hA:b.At w w.heap.size)(hc:Whole w Bc 76 (aA b A n p))(hgg:Whole w Bg 3 #[int i64 g]):sI FF 71 #[.pointer (some ⟨Bc,0,none⟩),.pointer (some ⟨Bg,0,none⟩)] xs (fun h=>int i64 (stk b h b.days b.nm g)) w:=by
 refine⟨zs,enters_of func71 zk rfl,fun W h hh hW=>?_⟩
 have HF:=hid fun W hA=>gD b h b.days W hA ok.moves ok.bM.1.2 (hx h hh)
 have HA:=hid (hA.up hW)
 have C1:=hid (hc.below hW hc.lt)
 have G1:=hid (hgg.below hW hgg.lt)
 have h1:=C1.out.lt
 have h3:=G1.out.lt
 show CallsIn FF 0 prog 71 #[h.val,.pointer (some ⟨Bc,0,none⟩),.pointer (some ⟨Bg,0,none⟩)] W fun e W'=>e=.returned (int i64 (stk b h b.days b.nm g))∧Below W.heap.size W W'
 obtain⟨r,hr⟩:∃r,r=stk b h b.days b.nm:=⟨_,rfl⟩
 rw[← hr] at HF⊢
 clear hh hr hc hgg hx hA ok hW
 obtain⟨w1,hw1⟩:∃w1,w1=W.alloc (.cells h.cells 88):=⟨_,rfl⟩
 have B1:Hid (Below W.heap.size W w1):=hid (by rw[hw1];exact bw)
 have H1:Hid (Whole w1 W.heap.size 88 h.cells):=hid (by rw[hw1];exact Whole.new _ _ _)
 have C2:=hid (C1.out.below B1.out h1)
 have G2:=hid (G1.out.below B1.out h3)
 have A2:=hid (HA.out.up B1.out)
 obtain⟨f,m,li⟩:=h
 obtain⟨days,most,gA,ng,gc,gs,mA,nm,mc,ms,cA,nc,cc,cs⟩:=b
 simp only[Ht.val,Ht.cells,Bk.val,Bk.cells,lY] at HF H1⊢
 simp only[aA] at C2
 simp only[Ht.cells] at hw1
 have mX:=hid hw1
 clear hw1
 have q0:∀d os,(grow (redrawn w1 d) os).cell? ⟨Bc,0,none⟩=some (int i64 days):=cell_regrown (C2.out.cell 0)
 have q1:∀d os,(grow (redrawn w1 d) os).cell? ⟨Bc,1,none⟩=some (int i64 most):=cell_regrown (C2.out.cell 1)
 have q2:∀d os,(grow (redrawn w1 d) os).cell? ⟨Bc,2,none⟩=some (.slice gA ng gc):=cell_regrown (C2.out.cell 2)
 have q3:∀d os,(grow (redrawn w1 d) os).cell? ⟨Bc,3,none⟩=some (.slice mA nm mc):=cell_regrown (C2.out.cell 3)
 have q4:∀d os,(grow (redrawn w1 d) os).cell? ⟨Bc,4,none⟩=some (.slice cA nc cc):=cell_regrown (C2.out.cell 4)
 have qg:∀d os,(grow (redrawn w1 d) os).cell? ⟨Bg,0,none⟩=some (int i64 g):=cell_regrown (G2.out.cell 0)
 have x0:∀d os,(grow (redrawn w1 d) os).cell? ⟨W.heap.size,0,none⟩=some (int i64 (f 0)):=cell_regrown (H1.out.cell 0)
 have x1:∀d os,(grow (redrawn w1 d) os).cell? ⟨W.heap.size,1,none⟩=some (int i64 (f 1)):=cell_regrown (H1.out.cell 1)
 have x2:∀d os,(grow (redrawn w1 d) os).cell? ⟨W.heap.size,2,none⟩=some (int i64 (f 2)):=cell_regrown (H1.out.cell 2)
 have x3:∀d os,(grow (redrawn w1 d) os).cell? ⟨W.heap.size,3,none⟩=some (int i64 (m 0)):=cell_regrown (H1.out.cell 3)
 have x4:∀d os,(grow (redrawn w1 d) os).cell? ⟨W.heap.size,4,none⟩=some (int i64 (m 1)):=cell_regrown (H1.out.cell 4)
 have x5:∀d os,(grow (redrawn w1 d) os).cell? ⟨W.heap.size,5,none⟩=some (int i64 (m 2)):=cell_regrown (H1.out.cell 5)
 have x6:∀d os,(grow (redrawn w1 d) os).cell? ⟨W.heap.size,6,none⟩=some (int i64 (m 3)):=cell_regrown (H1.out.cell 6)
 have x7:∀d os,(grow (redrawn w1 d) os).cell? ⟨W.heap.size,7,none⟩=some (int i64 (m 4)):=cell_regrown (H1.out.cell 7)
 have x8:∀d os,(grow (redrawn w1 d) os).cell? ⟨W.heap.size,8,none⟩=some (int i64 (m 5)):=cell_regrown (H1.out.cell 8)
 have x9:∀d os,(grow (redrawn w1 d) os).cell? ⟨W.heap.size,9,none⟩=some (int i64 li):=cell_regrown (H1.out.cell 9)
 have cS:∀d os,CallsIn FF 0 prog 42 #[.agg #[int i64 days,int i64 most,.slice gA ng gc,.slice mA nm mc,.slice cA nc cc],.agg #[int i64 (f 0),int i64 (f 1),int i64 (f 2),int i64 (m 0),int i64 (m 1),int i64 (m 2),int i64 (m 3),int i64 (m 4),int i64 (m 5),int i64 li],int i64 days] (grow (redrawn w1 d) os) fun e w''=>e=.returned (.agg #[int i64 (r 0),int i64 (r 1),int i64 (r 2)])∧∃p:Regrown,w''=grow (redrawn w1 p.d) p.os:=fun d os=>CallsIn.regrown_of (HF.out _ ((A2.out.below (below_regrown w1 d os)).more (below_regrown w1 d os).size))
 have ix:∀ (u v z:Int) (w:World),(Instr.index 85 (.agg #[int i64 u,int i64 v,int i64 z]) (int i64 0)).run prog w=.ok (int i64 u) w∧(Instr.index 85 (.agg #[int i64 u,int i64 v,int i64 z]) (int i64 1)).run prog w=.ok (int i64 v) w∧(Instr.index 85 (.agg #[int i64 u,int i64 v,int i64 z]) (int i64 2)).run prog w=.ok (int i64 z) w:=fun _ _ _ _=>⟨zk,zk,zk⟩
 have HD:=fun u v z w=>(ix u v z w).1
 have H5:=fun u v z w=>(ix u v z w).2.1
 have H':=fun u v z w=>(ix u v z w).2.2
 clear ix
 gi_enter func71,ntmps71
 gi_wp2
 rw[← mX.out]
 refine wpIn_region_quiet_below rfl zk zk ?_
 rcases(show g=0∨g=1∨g=2 by omega) with rfl|rfl|rfl
 all_goals
  repeat (quiet_step_in (exact cS _ _))
  refine wpQuietIn_nil ?_
  rintro w' ⟨⟨dq,osq⟩,rfl⟩
  have bD:=below_regrown w1 dq osq
  gi_wp2
  go_ret
  exact⟨rfl,Below.next B1.out bD⟩
theorem Td(b:Bk)(ok:b.Ok)(A:Option Addr)(n p:Nat)(g:Nat)(hg:g<3)(xs:List Ht)(hx:∀h∈xs,oM h)(Bc Bg Bd:Nat)(w:World)(hA:b.At w w.heap.size)(hc:Whole w Bc 76 (aA b A n p))(hd:Whole w Bd 3 #[int i64 2])(hgg:Whole w Bg 3 #[int i64 g]):sI FF 44 #[.pointer (some ⟨Bc,0,none⟩),.pointer (some ⟨Bg,0,none⟩),.pointer (some ⟨Bd,0,none⟩)] xs (fun h=>int i64 ((IntKind.i64.wrap ((stk b h b.days b.nm g).tdiv 2)))) w:=by
 refine⟨zs,enters_of func44 zk rfl,fun W h hh hW=>?_⟩
 have HF:=hid fun W hA=>gD b h b.days W hA ok.moves ok.bM.1.2 (hx h hh)
 have HA:=hid (hA.up hW)
 have C1:=hid (hc.below hW hc.lt)
 have D1:=hid (hd.below hW hd.lt)
 have G1:=hid (hgg.below hW hgg.lt)
 have h1:=C1.out.lt
 have h2:=D1.out.lt
 have h3:=G1.out.lt
 show CallsIn FF 0 prog 44 #[h.val,.pointer (some ⟨Bc,0,none⟩),.pointer (some ⟨Bg,0,none⟩),.pointer (some ⟨Bd,0,none⟩)] W fun e W'=>e=.returned (int i64 ((IntKind.i64.wrap ((stk b h b.days b.nm g).tdiv 2))))∧Below W.heap.size W W'
 obtain⟨r,hr⟩:∃r,r=stk b h b.days b.nm:=⟨_,rfl⟩
 rw[← hr] at HF⊢
 clear hh hr hc hd hgg hx hA ok hW
 obtain⟨w1,hw1⟩:∃w1,w1=W.alloc (.cells h.cells 88):=⟨_,rfl⟩
 have B1:Hid (Below W.heap.size W w1):=hid (by rw[hw1];exact bw)
 have H1:Hid (Whole w1 W.heap.size 88 h.cells):=hid (by rw[hw1];exact Whole.new _ _ _)
 have C2:=hid (C1.out.below B1.out h1)
 have D2:=hid (D1.out.below B1.out h2)
 have G2:=hid (G1.out.below B1.out h3)
 have A2:=hid (HA.out.up B1.out)
 obtain⟨f,m,li⟩:=h
 obtain⟨days,most,gA,ng,gc,gs,mA,nm,mc,ms,cA,nc,cc,cs⟩:=b
 simp only[Ht.val,Ht.cells,Bk.val,Bk.cells,lY] at HF H1⊢
 simp only[aA] at C2
 simp only[Ht.cells] at hw1
 have mX:=hid hw1
 clear hw1
 have q0:∀d os,(grow (redrawn w1 d) os).cell? ⟨Bc,0,none⟩=some (int i64 days):=cell_regrown (C2.out.cell 0)
 have q1:∀d os,(grow (redrawn w1 d) os).cell? ⟨Bc,1,none⟩=some (int i64 most):=cell_regrown (C2.out.cell 1)
 have q2:∀d os,(grow (redrawn w1 d) os).cell? ⟨Bc,2,none⟩=some (.slice gA ng gc):=cell_regrown (C2.out.cell 2)
 have q3:∀d os,(grow (redrawn w1 d) os).cell? ⟨Bc,3,none⟩=some (.slice mA nm mc):=cell_regrown (C2.out.cell 3)
 have q4:∀d os,(grow (redrawn w1 d) os).cell? ⟨Bc,4,none⟩=some (.slice cA nc cc):=cell_regrown (C2.out.cell 4)
 have qd:∀d os,(grow (redrawn w1 d) os).cell? ⟨Bd,0,none⟩=some (int i64 2):=cell_regrown (D2.out.cell 0)
 have qg:∀d os,(grow (redrawn w1 d) os).cell? ⟨Bg,0,none⟩=some (int i64 g):=cell_regrown (G2.out.cell 0)
 have x0:∀d os,(grow (redrawn w1 d) os).cell? ⟨W.heap.size,0,none⟩=some (int i64 (f 0)):=cell_regrown (H1.out.cell 0)
 have x1:∀d os,(grow (redrawn w1 d) os).cell? ⟨W.heap.size,1,none⟩=some (int i64 (f 1)):=cell_regrown (H1.out.cell 1)
 have x2:∀d os,(grow (redrawn w1 d) os).cell? ⟨W.heap.size,2,none⟩=some (int i64 (f 2)):=cell_regrown (H1.out.cell 2)
 have x3:∀d os,(grow (redrawn w1 d) os).cell? ⟨W.heap.size,3,none⟩=some (int i64 (m 0)):=cell_regrown (H1.out.cell 3)
 have x4:∀d os,(grow (redrawn w1 d) os).cell? ⟨W.heap.size,4,none⟩=some (int i64 (m 1)):=cell_regrown (H1.out.cell 4)
 have x5:∀d os,(grow (redrawn w1 d) os).cell? ⟨W.heap.size,5,none⟩=some (int i64 (m 2)):=cell_regrown (H1.out.cell 5)
 have x6:∀d os,(grow (redrawn w1 d) os).cell? ⟨W.heap.size,6,none⟩=some (int i64 (m 3)):=cell_regrown (H1.out.cell 6)
 have x7:∀d os,(grow (redrawn w1 d) os).cell? ⟨W.heap.size,7,none⟩=some (int i64 (m 4)):=cell_regrown (H1.out.cell 7)
 have x8:∀d os,(grow (redrawn w1 d) os).cell? ⟨W.heap.size,8,none⟩=some (int i64 (m 5)):=cell_regrown (H1.out.cell 8)
 have x9:∀d os,(grow (redrawn w1 d) os).cell? ⟨W.heap.size,9,none⟩=some (int i64 li):=cell_regrown (H1.out.cell 9)
 have cS:∀d os,CallsIn FF 0 prog 42 #[.agg #[int i64 days,int i64 most,.slice gA ng gc,.slice mA nm mc,.slice cA nc cc],.agg #[int i64 (f 0),int i64 (f 1),int i64 (f 2),int i64 (m 0),int i64 (m 1),int i64 (m 2),int i64 (m 3),int i64 (m 4),int i64 (m 5),int i64 li],int i64 days] (grow (redrawn w1 d) os) fun e w''=>e=.returned (.agg #[int i64 (r 0),int i64 (r 1),int i64 (r 2)])∧∃p:Regrown,w''=grow (redrawn w1 p.d) p.os:=fun d os=>CallsIn.regrown_of (HF.out _ ((A2.out.below (below_regrown w1 d os)).more (below_regrown w1 d os).size))
 have ix:∀ (u v z:Int) (w:World),(Instr.index 85 (.agg #[int i64 u,int i64 v,int i64 z]) (int i64 0)).run prog w=.ok (int i64 u) w∧(Instr.index 85 (.agg #[int i64 u,int i64 v,int i64 z]) (int i64 1)).run prog w=.ok (int i64 v) w∧(Instr.index 85 (.agg #[int i64 u,int i64 v,int i64 z]) (int i64 2)).run prog w=.ok (int i64 z) w:=fun _ _ _ _=>⟨zk,zk,zk⟩
 have HD:=fun u v z w=>(ix u v z w).1
 have H5:=fun u v z w=>(ix u v z w).2.1
 have H':=fun u v z w=>(ix u v z w).2.2
 clear ix
 gi_enter func44,ntmps44
 gi_wp2
 rw[← mX.out]
 refine wpIn_region_quiet_below rfl zk zk ?_
 rcases(show g=0∨g=1∨g=2 by omega) with rfl|rfl|rfl
 all_goals
  repeat (quiet_step_in (exact cS _ _))
  refine wpQuietIn_nil ?_
  rintro w' ⟨⟨dq,osq⟩,rfl⟩
  have bD:=below_regrown w1 dq osq
  gi_wp2
  go_ret
  exact⟨rfl,Below.next B1.out bD⟩
end
end Go.Proofs.YthaelabgfnnebaaGreat
