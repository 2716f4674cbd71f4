/- HL AD0 HO HY HQ HB AE0 TK3 TK4 -/
import Derived.Test.YtpmafoalhnaokaaGreatA5
set_option maxRecDepth 100000
set_option maxHeartbeats 16000000
set_option linter.unusedVariables false
set_option linter.unusedSectionVars false
open Go.IntKind(i64)
open Go.Lib(hid)
open Go.Proofs.Tryz
open Go.Value(int)
namespace Go.Proofs.YtpmafoalhnaokaaGreat
section
open Go.RowKit
open Go.Sort (grow)
attribute [local go_sem] Oper.semAt_some
def CV(kd go dy:Int)(gd:Nat)(a z:Int):Bool:=decide (kd=2) && (decide (go=gd) && gK dy a z)
def kN(b:Bk)(h:Ht)(gd:Nat)(a z:Int):Nat→Int
 | 0=>0
 | Nat.succ k=>bif CV (b.m k).kind (b.m k).good (b.m k).day gd a z then wrap64 (kN b h gd a z k+h.real k) else kN b h gd a z k
theorem me(b:Bk)(h:Ht)(gd:Nat)(a z:Int)(w:World)(hA:b.At w w.heap.size)(hnm:b.nm≤6)(hh:h.lies<64):CallsIn FF 0 prog 62 #[b.val,h.val,int i64 gd,.agg #[int i64 a,int i64 z]] w fun e w'=>e=.returned (int i64 (kN b h gd a z b.nm))∧Below w.heap.size w w':=by
 obtain⟨L,hL⟩:∃L,L=kN b h gd a z:=zE
 obtain⟨R,hR⟩:∃R,R=h.real:=zE
 have sX:Hid (L 0=0):=hid (by rw[hL];rfl)
 have Sv:Hid (∀k,L (k+1)=bif CV (b.m k).kind (b.m k).good (b.m k).day gd a z then wrap64 (L k+R k) else L k):=hid fun k=>by rw[hL,hR];rfl
 have pS:=hid fun k (w:World) (hk:k<b.nm)=>og h k w hh zo
 have HHs:=hid fun n (w:World)=>CallsIn.wider (dm a z n w)
 rw[← hL]
 rw[← hR] at pS
 clear hL hR hh
 have HA:=hid hA
 clear hA
 obtain⟨dY,mO,gA,ng,gc,g,mA,nm,mc,m,cA,nc,cc,c⟩:=b
 obtain⟨f,ms,li⟩:=h
 simp only[Bk.val,Bk.cells,Ht.val,Ht.cells] at Sv pS hnm⊢
 obtain⟨w1,hw1⟩:∃w1,w1=((w.alloc (.cells #[int i64 dY,int i64 mO,.slice gA ng gc,.slice mA nm mc,.slice cA nc cc] 73)).alloc (.cells #[int i64 (f 0),int i64 (f 1),int i64 (f 2),int i64 (ms 0),int i64 (ms 1),int i64 (ms 2),int i64 (ms 3),int i64 (ms 4),int i64 (ms 5),int i64 li] 91)).alloc (.cells #[int i64 a,int i64 z] 28):=zE
 have B1:Hid (Below w.heap.size w w1):=hid (by rw[hw1];exact bw)
 have H1:Hid (Whole w1 (w.heap.size+1) 91 #[int i64 (f 0),int i64 (f 1),int i64 (f 2),int i64 (ms 0),int i64 (ms 1),int i64 (ms 2),int i64 (ms 3),int i64 (ms 4),int i64 (ms 5),int i64 li]):=hid (by
  have:=(Whole.new (w.alloc (.cells #[int i64 dY,int i64 mO,.slice gA ng gc,.slice mA nm mc,.slice cA nc cc] 73)) 91 #[int i64 (f 0),int i64 (f 1),int i64 (f 2),int i64 (ms 0),int i64 (ms 1),int i64 (ms 2),int i64 (ms 3),int i64 (ms 4),int i64 (ms 5),int i64 li]).alloc (.cells #[int i64 a,int i64 z] 28)
  rw[World.size_alloc] at this;rw[hw1];exact this)
 have D1:Hid (Whole w1 (w.heap.size+1+1) 28 #[int i64 a,int i64 z]):=hid (by
  have:=Whole.new ((w.alloc (.cells #[int i64 dY,int i64 mO,.slice gA ng gc,.slice mA nm mc,.slice cA nc cc] 73)).alloc (.cells #[int i64 (f 0),int i64 (f 1),int i64 (f 2),int i64 (ms 0),int i64 (ms 1),int i64 (ms 2),int i64 (ms 3),int i64 (ms 4),int i64 (ms 5),int i64 li] 91)) 28 #[int i64 a,int i64 z]
  rw[World.size_alloc,World.size_alloc] at this;rw[hw1];exact this)
 have A1:=hid (HA.out.up B1.out)
 have hs1:w1.heap.size=w.heap.size+3:=by rw[hw1];simp
 have ku:=hid hw1
 clear hw1
 gi_enter func62,ntmps62
 gi_wp2
 rw[← ku.out]
 clear ku
 gi_loopw [9,16] (fun u i wr=>∃k:Nat,k≤nm∧i=int i64 k∧u=int i64 (L k)∧Hid (Below w1.heap.size w1 wr)) (fun _ i _=>nm - (intOf i).toNat)
 case atStart=>exact⟨0,Nat.zero_le _,rfl,by rw[sX.out],hid zB⟩
 case round=>
  obtain⟨k,hk,rfl,rfl,hT⟩:=hrel
  obtain⟨wo,rfl⟩:∃wo:World,wo=wr:=zE
  have hsz:=hT.out.size
  by_cases hlt:k<nm
  ·obtain⟨ad,hA',hbl,-⟩:=A1.out.m (show 0<nm by omega)
   simp only at hA'
   subst hA'
   obtain⟨gk,EB⟩:∃gk,gk=m k:=zE
   have hr:∀j,j<5→wo.cell? ((ad.add (k * 5)).add j)=some (gk.cell j):=fun j hj=>by rw[EB];exact((A1.out.m.below hT.out)).row hlt |>.2 j hj
   have hLk:=Sv.out k
   rw[← EB] at hLk
   obtain⟨kd,go,dy,lo,hi⟩:=gk
   have c0:wo.cell? (ad.add (k * 5))=some (int i64 kd):=hr 0 zD
   have c1:wo.cell? ⟨(ad.add (k * 5)).block,(ad.add (k * 5)).off+1,none⟩=some (int i64 go):=hr 1 zD
   have c2:wo.cell? ⟨(ad.add (k * 5)).block,(ad.add (k * 5)).off+2,none⟩=some (int i64 dy):=hr 2 zD
   have c3:wo.cell? ⟨(ad.add (k * 5)).block,(ad.add (k * 5)).off+3,none⟩=some (int i64 lo):=hr 3 zD
   have c4:wo.cell? ⟨(ad.add (k * 5)).block,(ad.add (k * 5)).off+4,none⟩=some (int i64 hi):=hr 4 zD
   clear hr
   simp only at hLk
   have WU:=hid hLk
   clear EB hLk
   by_cases k2:kd=2
   ·subst k2
    by_cases g2:go=gd
    ·subst g2
     obtain⟨w2,hw2⟩:∃w2,w2=wo.alloc (.cells #[int i64 2,int i64 gd,int i64 dy,int i64 lo,int i64 hi] 39):=zE
     have B2:Hid (Below wo.heap.size wo w2):=hid (by rw[hw2];exact bw)
     have H2:=hid ((H1.out.below hT.out H1.out.lt).below B2.out zo)
     have D2:=hid ((D1.out.below hT.out D1.out.lt).below B2.out zo)
     have d0:w2.cell? ⟨w.heap.size+1+1,0,none⟩=some (int i64 a):=D2.out.cell 0
     have d1:w2.cell? ⟨w.heap.size+1+1,1,none⟩=some (int i64 z):=D2.out.cell 1
     have h0:w2.cell? ⟨w.heap.size+1,0,none⟩=some (int i64 (f 0)):=H2.out.cell 0
     have h1:w2.cell? ⟨w.heap.size+1,1,none⟩=some (int i64 (f 1)):=H2.out.cell 1
     have h2:w2.cell? ⟨w.heap.size+1,2,none⟩=some (int i64 (f 2)):=H2.out.cell 2
     have h3:w2.cell? ⟨w.heap.size+1,3,none⟩=some (int i64 (ms 0)):=H2.out.cell 3
     have h4:w2.cell? ⟨w.heap.size+1,4,none⟩=some (int i64 (ms 1)):=H2.out.cell 4
     have h5:w2.cell? ⟨w.heap.size+1,5,none⟩=some (int i64 (ms 2)):=H2.out.cell 5
     have h6:w2.cell? ⟨w.heap.size+1,6,none⟩=some (int i64 (ms 3)):=H2.out.cell 6
     have h7:w2.cell? ⟨w.heap.size+1,7,none⟩=some (int i64 (ms 4)):=H2.out.cell 7
     have h8:w2.cell? ⟨w.heap.size+1,8,none⟩=some (int i64 (ms 5)):=H2.out.cell 8
     have h9:w2.cell? ⟨w.heap.size+1,9,none⟩=some (int i64 li):=H2.out.cell 9
     have RE:=hid fun w=>pS.out k w hlt
     rw[hw2] at d0 d1 h0 h1 h2 h3 h4 h5 h6 h7 h8 h9
     have FQ:=hid hw2
     clear hw2
     cases hi2:gK dy a z with
     | true=>
       have HI:=hid hi2
       rw[CV,decide_eq_true rfl,decide_eq_true rfl,hi2] at WU
       have Ly:=hid fun w=>by have:=HHs.out dy w;rw[hi2] at this;exact this
       clear hi2
       gi_wp2_with (first
        | (gi_at_call 92;rw[← FQ.out];refine(Ly.out _).mono ?_;rintro e w3 ⟨rfl,hb3⟩;have H3:=H2.out.below hb3 H2.out.lt;have j0:w3.cell? ⟨w.heap.size+1,0,none⟩=some (int i64 (f 0)):=H3.cell 0;have j1:w3.cell? ⟨w.heap.size+1,1,none⟩=some (int i64 (f 1)):=H3.cell 1;have j2:w3.cell? ⟨w.heap.size+1,2,none⟩=some (int i64 (f 2)):=H3.cell 2;have j3:w3.cell? ⟨w.heap.size+1,3,none⟩=some (int i64 (ms 0)):=H3.cell 3;have j4:w3.cell? ⟨w.heap.size+1,4,none⟩=some (int i64 (ms 1)):=H3.cell 4;have j5:w3.cell? ⟨w.heap.size+1,5,none⟩=some (int i64 (ms 2)):=H3.cell 5;have j6:w3.cell? ⟨w.heap.size+1,6,none⟩=some (int i64 (ms 3)):=H3.cell 6;have j7:w3.cell? ⟨w.heap.size+1,7,none⟩=some (int i64 (ms 4)):=H3.cell 7;have j8:w3.cell? ⟨w.heap.size+1,8,none⟩=some (int i64 (ms 5)):=H3.cell 8;have j9:w3.cell? ⟨w.heap.size+1,9,none⟩=some (int i64 li):=H3.cell 9)
        | (gi_at_call 55;refine(RE.out _).mono ?_;rintro e w4 ⟨rfl,hb4⟩))
       exact⟨⟨k+1,hlt,by push_cast;rfl,by rw[WU.out];rfl,hid (Below.next (Below.next (Below.next hT.out B2.out) hb3) hb4)⟩,by simp[intOf];omega⟩
     | false=>
       rw[CV,decide_eq_true rfl,decide_eq_true rfl,hi2] at WU
       have Ly:=hid fun w=>by have:=HHs.out dy w;rw[hi2] at this;exact this
       clear hi2
       gi_wp2_with (gi_at_call 92;rw[← FQ.out];refine(Ly.out _).mono ?_;rintro e w3 ⟨rfl,hb3⟩)
       exact⟨⟨k+1,hlt,by push_cast;rfl,by rw[WU.out];rfl,hid (Below.next (Below.next hT.out B2.out) hb3)⟩,by simp[intOf];omega⟩
    ·have hd:decide (go=(gd:Int))=false:=decide_eq_false g2
     rw[CV,hd,Bool.false_and,Bool.and_false] at WU
     gi_wp2
     exact⟨⟨k+1,hlt,by push_cast;rfl,by rw[WU.out];rfl,hid (Below.al hT.out _)⟩,by simp[intOf];omega⟩
   ·have hd:decide (kd=2)=false:=decide_eq_false k2
    rw[CV,hd,Bool.false_and] at WU
    gi_wp2
    exact⟨⟨k+1,hlt,by push_cast;rfl,by rw[WU.out];rfl,hid (Below.al hT.out _)⟩,by simp[intOf];omega⟩
  ·obtain rfl:k=nm:=zo
   gi_wp2
   go_ret
   exact⟨rfl,Below.next B1.out hT.out⟩
theorem YF(b:Bk)(ok:b.Ok)(A:Option Addr)(n p:Nat)(gd:Nat)(a z:Int)(xs:List Ht)(hx:∀h∈xs,pR h)(Bc Bg Bd:Nat)(w:World)(hA:b.At w w.heap.size)(hc:Whole w Bc 75 (aA b A n p))(hg:Whole w Bg 3 #[int i64 gd])(hd:Whole w Bd 28 #[int i64 a,int i64 z]):ug FF 61 #[.pointer (some ⟨Bc,0,none⟩),.pointer (some ⟨Bg,0,none⟩),.pointer (some ⟨Bd,0,none⟩)] xs (fun h=>int i64 (kN b h gd a z b.nm)) w:=by
 refine⟨zs,enters_of func61 zk rfl,fun W h hh hW=>?_⟩
 have HF:=hid fun W hA=>me b h gd a z W hA ok.moves.1 (hx h hh).lies
 have HA:=hid (hA.up hW)
 have C1:=hid (hc.below hW hc.lt)
 have G1:=hid (hg.below hW hg.lt)
 have D1:=hid (hd.below hW hd.lt)
 have h1:=C1.out.lt
 have h2:=D1.out.lt
 have h3:=G1.out.lt
 show CallsIn FF 0 prog 61 #[h.val,.pointer (some ⟨Bc,0,none⟩),.pointer (some ⟨Bg,0,none⟩),.pointer (some ⟨Bd,0,none⟩)] W fun e W'=>e=.returned (int i64 (kN b h gd a z b.nm))∧Below W.heap.size W W'
 obtain⟨u,hu⟩:∃u,u=kN b h gd a z b.nm:=zE
 rw[← hu] at HF⊢
 clear hh hu hc hd hg hx hA ok hW
 obtain⟨f,m,li⟩:=h
 obtain⟨dY,mO,gA,ng,gc,gs,mA,nm,mc,ms,cA,nc,cc,cs⟩:=b
 simp only[Ht.val,Ht.cells,Bk.val,Bk.cells] at HF⊢
 simp only[aA] at C1
 have q0:W.cell? ⟨Bc,0,none⟩=some (int i64 dY):=C1.out.cell 0
 have q1:W.cell? ⟨Bc,1,none⟩=some (int i64 mO):=C1.out.cell 1
 have q2:W.cell? ⟨Bc,2,none⟩=some (.slice gA ng gc):=C1.out.cell 2
 have q3:W.cell? ⟨Bc,3,none⟩=some (.slice mA nm mc):=C1.out.cell 3
 have q4:W.cell? ⟨Bc,4,none⟩=some (.slice cA nc cc):=C1.out.cell 4
 have d0:W.cell? ⟨Bd,0,none⟩=some (int i64 a):=D1.out.cell 0
 have d1:W.cell? ⟨Bd,1,none⟩=some (int i64 z):=D1.out.cell 1
 have g0:W.cell? ⟨Bg,0,none⟩=some (int i64 gd):=G1.out.cell 0
 gi_enter func61,ntmps61
 gi_wp2_with (gi_at_call 62;refine(HF.out _ (HA.out.up (bw))).mono ?_;rintro e w4 ⟨rfl,hb4⟩)
 go_ret
 exact⟨rfl,Below.next (bw) hb4⟩
end
section
open Go.RowKit
variable{b:Bk}{h:Ht}{gd:Nat}{a z:Int}
theorem Dq(v:Ht→Int):∀ (L:List Ht) (l u:Int),l≤u→∃l' u',L.foldl (fun s h=>if s.2.2 then(min s.1 (v h),max s.2.1 (v h),true) else(v h,v h,true)) (l,u,true)=(l',u',true)∧l'≤l∧u≤u'∧
 (∀h∈L,l'≤v h∧v h≤u')∧(l'=l∨∃h∈L,v h=l')∧(u'=u∨∃h∈L,v h=u')
 | [],l,u,_=>⟨l,u,rfl,Int.le_refl _,Int.le_refl _,(fun _ h=>by cases h),.inl rfl,.inl rfl⟩
 | x :: L,l,u,hlu=>by
   obtain⟨l',u',e,h1,h2,h3,h4,h5⟩:=Dq v L (min l (v x)) (max u (v x)) (Int.le_trans (Int.min_le_left _ _) (Int.le_trans hlu (Int.le_max_left _ _)))
   refine⟨l',u',e,Int.le_trans h1 (Int.min_le_left _ _),Int.le_trans (Int.le_max_left _ _) h2,fun h hh=>?_,?_,?_⟩
   ·rcases List.mem_cons.1 hh with rfl|hh
    ·exact⟨Int.le_trans h1 (Int.min_le_right _ _),Int.le_trans (Int.le_max_right _ _) h2⟩
    ·exact h3 h hh
   ·rcases h4 with h4|⟨h,hh,e4⟩
    ·by_cases hc:l≤v x
     ·exact .inl (h4.trans (Int.min_eq_left hc))
     ·exact .inr ⟨x,List.mem_cons_self,(h4.trans (Int.min_eq_right (Int.le_of_lt (Int.not_le.1 hc)))).symm⟩
    ·exact .inr ⟨h,List.mem_cons_of_mem _ hh,e4⟩
   ·rcases h5 with h5|⟨h,hh,e5⟩
    ·by_cases hc:v x≤u
     ·exact .inl (h5.trans (Int.max_eq_left hc))
     ·exact .inr ⟨x,List.mem_cons_self,(h5.trans (Int.max_eq_right (Int.le_of_lt (Int.not_le.1 hc)))).symm⟩
    ·exact .inr ⟨h,List.mem_cons_of_mem _ hh,e5⟩
theorem Dr(v:Ht→Int){L:List Ht}(hL:L≠[]):∃l u,bK v L=(l,u,true)∧(∀h∈L,l≤v h∧v h≤u)∧(∃h∈L,v h=l)∧∃h∈L,v h=u:=by
 cases L with
 | nil=>exact absurd rfl hL
 | cons x L=>
   obtain⟨l,u,e,h1,h2,h3,h4,h5⟩:=Dq v L (v x) (v x) (Int.le_refl _)
   refine⟨l,u,e,fun h hh=>?_,?_,?_⟩
   ·rcases List.mem_cons.1 hh with rfl|hh
    ·exact⟨h1,h2⟩
    ·exact h3 h hh
   ·rcases h4 with rfl|⟨h,hh,e4⟩
    ·exact⟨x,List.mem_cons_self,rfl⟩
    ·exact⟨h,List.mem_cons_of_mem _ hh,e4⟩
   ·rcases h5 with rfl|⟨h,hh,e5⟩
    ·exact⟨x,List.mem_cons_self,rfl⟩
    ·exact⟨h,List.mem_cons_of_mem _ hh,e5⟩
end
section
open Go.RowKit
open Go.Sort (grow)
attribute [local go_sem] Oper.semAt_some
theorem q8(b:Bk)(i:Nat)(w:World)(h:b.At w w.heap.size)(ok:b.Ok)(hcap:b.ng≤b.gc)(hi:i<b.ng):CallsIn FF 0 prog 50 #[b.val,int i64 i] w fun e w'=>∃A p,e=.returned (.tuple #[.agg (aA b A (ak b).length p),int i64 0])∧pQ b A w'∧Below w.heap.size w w':=by
 have HO:=hid fun w h=>mU b w h ok hcap
 have HH:=hid fun(w:World)=>show CallsIn FF 0 prog 89 #[b.val,int i64 i] w fun e w'=>e=.returned (.bool true)∧Below w.heap.size w w' from by
  have:=uF b i w (by unfold maxLen;have:=ok.bX.1.2;omega)
  have e:gK (i:Int) 0 ((b.ng:Int) - 1)=true:=by unfold gK;simp;omega
  rwa[e] at this
 have HA:=hid h
 obtain⟨n,hn⟩:∃n,n=(ak b).length:=zE
 obtain⟨CK,Ye⟩:∃CK:Option Addr→World→Prop,CK=fun A w=>pQ b A w:=⟨_,rfl⟩
 have s9:Hid (∀w,b.At w w.heap.size→CallsIn FF 0 prog 37 #[b.val] w fun e w'=>∃A p,e=.returned (.tuple #[.agg (aA b A n p),int i64 0])∧CK A w'∧Below w.heap.size w w'∧∀ad,A=some ad→0<n→w.heap.size≤ad.block):=hid fun w h=>by rw[Ye,hn];exact HO.out w h
 have goal:∀ (e:Ending) (w':World),(∃A p,e=.returned (.tuple #[.agg (aA b A n p),int i64 0])∧CK A w'∧Below w.heap.size w w')→∃A p,e=.returned (.tuple #[.agg (aA b A (ak b).length p),int i64 0])∧pQ b A w'∧Below w.heap.size w w':=fun e w' h=>by rw[Ye,hn] at h;exact h
 refine CallsIn.mono (R:=fun e w'=>∃A p,e=.returned (.tuple #[.agg (aA b A n p),int i64 0])∧CK A w'∧Below w.heap.size w w') ?_ goal
 have Kx:Hid (∀A (w2 w4:World) (q:Addr) (u0 u1 u2 u3 u4 u5:Value),CK A w2→Below w.heap.size w (((((((w4.setCell q u0).setCell ⟨q.block,1,none⟩ u1).setCell ⟨q.block,2,none⟩ u2).setCell ⟨q.block,3,none⟩ u3).setCell ⟨q.block,4,none⟩ u4).setCell ⟨q.block,5,none⟩ u5))→Below w2.heap.size w2 w4→(∀ad,A=some ad→0<n→q.block<ad.block)→CK A (((((((w4.setCell q u0).setCell ⟨q.block,1,none⟩ u1).setCell ⟨q.block,2,none⟩ u2).setCell ⟨q.block,3,none⟩ u3).setCell ⟨q.block,4,none⟩ u4).setCell ⟨q.block,5,none⟩ u5))):=hid fun A w2 w4 q u0 u1 u2 u3 u4 u5 hc hb hb4 hf=>by
  rw[Ye] at hc⊢
  rw[hn] at hf
  refine⟨h.up hb,?_⟩
  have hr:=(hc.row.below hb4).more hb4.size
  have hne:∀ad,A=some ad→0<(ak b).length→ad.block≠q.block:=fun ad hA hl=>by have:=hf ad hA hl;omega
  have:=(((((hr.bn hne u0).bn (p:=⟨q.block,1,none⟩) hne u1).bn (p:=⟨q.block,2,none⟩) hne u2).bn (p:=⟨q.block,3,none⟩) hne u3).bn (p:=⟨q.block,4,none⟩) hne u4).bn (p:=⟨q.block,5,none⟩) hne u5
  exact this.more (by simp[World.setCell])
 clear hn Ye h hcap hi ok HO goal
 obtain⟨dY,mO,gA,ng,gc,g,mA,nm,mc,m,cA,nc,cc,c⟩:=b
 simp only[Bk.val,Bk.cells,aA] at s9 HH⊢
 have Y1:Hid (Whole ((w.alloc (.cells #[int i64 dY,int i64 mO,.slice gA ng gc,.slice mA nm mc,.slice cA nc cc] 26)).alloc (.cells #[int i64 0,int i64 0,.slice none 0 0,.slice none 0 0,.slice none 0 0,.slice none 0 0] 75)) (w.heap.size+1) 75 #[int i64 0,int i64 0,.slice none 0 0,.slice none 0 0,.slice none 0 0,.slice none 0 0]):=hid (by
  have:=Whole.new (w.alloc (.cells #[int i64 dY,int i64 mO,.slice gA ng gc,.slice mA nm mc,.slice cA nc cc] 26)) 75 #[int i64 0,int i64 0,.slice none 0 0,.slice none 0 0,.slice none 0 0,.slice none 0 0]
  rwa[World.size_alloc] at this)
 gi_enter func50,ntmps50
 gi_wp2_with (first
  | (gi_at_call 37;refine(s9.out _ (HA.out.up (bw))).mono ?_;rintro e w2 ⟨A,p,rfl,hc2,hb2,hf2⟩;have Lo:=hid hf2;clear hf2;have HB2:=hid hb2;have KB:=hid hc2;have hl2:w.heap.size+2≤w2.heap.size:=by have:=hb2.size;simpa using this)
  | (gi_at_call 89;refine(HH.out _).mono ?_;rintro e w4 ⟨rfl,hb4⟩;have D6:=hid hb4;have X4:Whole w4 w2.heap.size 75 #[int i64 dY,int i64 mO,.slice gA ng gc,.slice mA nm mc,.slice cA nc cc,.slice A n p]:=(Whole.new w2 _ _).below hb4 zs;have x0:w4.cell? ⟨w2.heap.size,0,none⟩=some (int i64 dY):=X4.cell 0;have x1:w4.cell? ⟨w2.heap.size,1,none⟩=some (int i64 mO):=X4.cell 1;have x2:w4.cell? ⟨w2.heap.size,2,none⟩=some (.slice gA ng gc):=X4.cell 2;have x3:w4.cell? ⟨w2.heap.size,3,none⟩=some (.slice mA nm mc):=X4.cell 3;have x4:w4.cell? ⟨w2.heap.size,4,none⟩=some (.slice cA nc cc):=X4.cell 4;have x5:w4.cell? ⟨w2.heap.size,5,none⟩=some (.slice A n p):=X4.cell 5;have Y4:=((Y1.out.below hb2 zs).alloc (.cells #[int i64 dY,int i64 mO,.slice gA ng gc,.slice mA nm mc,.slice cA nc cc,.slice A n p] 75)).below hb4 zm;have yf:=Y4.thaw;have y0:w4.cell? ⟨w.heap.size+1,0,none⟩=some (int i64 0):=Y4.cell 0;have y1:w4.cell? ⟨w.heap.size+1,1,none⟩=some (int i64 0):=Y4.cell 1;have y2:w4.cell? ⟨w.heap.size+1,2,none⟩=some (.slice none 0 0):=Y4.cell 2;have y3:w4.cell? ⟨w.heap.size+1,3,none⟩=some (.slice none 0 0):=Y4.cell 3;have y4:w4.cell? ⟨w.heap.size+1,4,none⟩=some (.slice none 0 0):=Y4.cell 4;have y5:w4.cell? ⟨w.heap.size+1,5,none⟩=some (.slice none 0 0):=Y4.cell 5))
 have U:=(((((Y4.set 0 (int i64 dY)).set 1 (int i64 mO)).set 2 (.slice gA ng gc)).set 3 (.slice mA nm mc)).set 4 (.slice cA nc cc)).set 5 (.slice A n p)
 have u0:=U.cell 0
 have u1:=U.cell 1
 have u2:=U.cell 2
 have u3:=U.cell 3
 have u4:=U.cell 4
 have u5:=U.cell 5
 have UB:=hid ((((((((Below.next (Below.al (Below.next (show Below w.heap.size w ((w.alloc (.cells #[int i64 dY,int i64 mO,.slice gA ng gc,.slice mA nm mc,.slice cA nc cc] 26)).alloc (.cells #[int i64 0,int i64 0,.slice none 0 0,.slice none 0 0,.slice none 0 0,.slice none 0 0] 75)) from bw) HB2.out) (.cells #[int i64 dY,int i64 mO,.slice gA ng gc,.slice mA nm mc,.slice cA nc cc,.slice A n p] 75)) D6.out).setCell (p:=⟨w.heap.size+1,0,none⟩) zs (int i64 dY)).setCell (p:=⟨w.heap.size+1,1,none⟩) zs (int i64 mO)).setCell (p:=⟨w.heap.size+1,2,none⟩) zs (.slice gA ng gc)).setCell (p:=⟨w.heap.size+1,3,none⟩) zs (.slice mA nm mc)).setCell (p:=⟨w.heap.size+1,4,none⟩) zs (.slice cA nc cc)).setCell (p:=⟨w.heap.size+1,5,none⟩) zs (.slice A n p)))
 refine bodyPost_ret (v:=.tuple #[.agg #[int i64 dY,int i64 mO,.slice gA ng gc,.slice mA nm mc,.slice cA nc cc,.slice A n p],int i64 0]) (by simp[results,results50,go_sem,u0,u1,u2,u3,u4,u5]) rfl ⟨A,p,rfl,?_,?_⟩
 ·exact Kx.out A w2 w4 ⟨w.heap.size+1,0,none⟩ _ _ _ _ _ _ KB.out UB.out (Below.next (Below.al (Below.refl _ w2) _) D6.out) fun ad hA hn=>by have:=Lo.out ad hA hn;simp at this⊢;omega
 ·exact UB.out
theorem yu(b:Bk)(i:Nat)(w:World)(h:b.At w w.heap.size)(ok:b.Ok)(hcap:b.ng≤b.gc)(hi:i<b.nm):CallsIn FF 0 prog 31 #[b.val,int i64 i] w fun e w'=>∃A p,e=.returned (.tuple #[.agg (aA b A (ak b).length p),int i64 0])∧pQ b A w'∧Below w.heap.size w w':=by
 have HO:=hid fun w h=>mU b w h ok hcap
 have HH:=hid fun(w:World)=>show CallsIn FF 0 prog 73 #[b.val,int i64 i] w fun e w'=>e=.returned (.bool true)∧Below w.heap.size w w' from by
  have:=Cz b i w (by unfold maxLen;have:=ok.moves.1;omega)
  have e:gK (i:Int) 0 ((b.nm:Int) - 1)=true:=by unfold gK;simp;omega
  rwa[e] at this
 have HA:=hid h
 obtain⟨n,hn⟩:∃n,n=(ak b).length:=zE
 obtain⟨CK,Ye⟩:∃CK:Option Addr→World→Prop,CK=fun A w=>pQ b A w:=⟨_,rfl⟩
 have s9:Hid (∀w,b.At w w.heap.size→CallsIn FF 0 prog 37 #[b.val] w fun e w'=>∃A p,e=.returned (.tuple #[.agg (aA b A n p),int i64 0])∧CK A w'∧Below w.heap.size w w'∧∀ad,A=some ad→0<n→w.heap.size≤ad.block):=hid fun w h=>by rw[Ye,hn];exact HO.out w h
 have goal:∀ (e:Ending) (w':World),(∃A p,e=.returned (.tuple #[.agg (aA b A n p),int i64 0])∧CK A w'∧Below w.heap.size w w')→∃A p,e=.returned (.tuple #[.agg (aA b A (ak b).length p),int i64 0])∧pQ b A w'∧Below w.heap.size w w':=fun e w' h=>by rw[Ye,hn] at h;exact h
 refine CallsIn.mono (R:=fun e w'=>∃A p,e=.returned (.tuple #[.agg (aA b A n p),int i64 0])∧CK A w'∧Below w.heap.size w w') ?_ goal
 have Kx:Hid (∀A (w2 w4:World) (q:Addr) (u0 u1 u2 u3 u4 u5:Value),CK A w2→Below w.heap.size w (((((((w4.setCell q u0).setCell ⟨q.block,1,none⟩ u1).setCell ⟨q.block,2,none⟩ u2).setCell ⟨q.block,3,none⟩ u3).setCell ⟨q.block,4,none⟩ u4).setCell ⟨q.block,5,none⟩ u5))→Below w2.heap.size w2 w4→(∀ad,A=some ad→0<n→q.block<ad.block)→CK A (((((((w4.setCell q u0).setCell ⟨q.block,1,none⟩ u1).setCell ⟨q.block,2,none⟩ u2).setCell ⟨q.block,3,none⟩ u3).setCell ⟨q.block,4,none⟩ u4).setCell ⟨q.block,5,none⟩ u5))):=hid fun A w2 w4 q u0 u1 u2 u3 u4 u5 hc hb hb4 hf=>by
  rw[Ye] at hc⊢
  rw[hn] at hf
  refine⟨h.up hb,?_⟩
  have hr:=(hc.row.below hb4).more hb4.size
  have hne:∀ad,A=some ad→0<(ak b).length→ad.block≠q.block:=fun ad hA hl=>by have:=hf ad hA hl;omega
  have:=(((((hr.bn hne u0).bn (p:=⟨q.block,1,none⟩) hne u1).bn (p:=⟨q.block,2,none⟩) hne u2).bn (p:=⟨q.block,3,none⟩) hne u3).bn (p:=⟨q.block,4,none⟩) hne u4).bn (p:=⟨q.block,5,none⟩) hne u5
  exact this.more (by simp[World.setCell])
 clear hn Ye h hcap hi ok HO goal
 obtain⟨dY,mO,gA,ng,gc,g,mA,nm,mc,m,cA,nc,cc,c⟩:=b
 simp only[Bk.val,Bk.cells,aA] at s9 HH⊢
 have Y1:Hid (Whole ((w.alloc (.cells #[int i64 dY,int i64 mO,.slice gA ng gc,.slice mA nm mc,.slice cA nc cc] 26)).alloc (.cells #[int i64 0,int i64 0,.slice none 0 0,.slice none 0 0,.slice none 0 0,.slice none 0 0] 75)) (w.heap.size+1) 75 #[int i64 0,int i64 0,.slice none 0 0,.slice none 0 0,.slice none 0 0,.slice none 0 0]):=hid (by
  have:=Whole.new (w.alloc (.cells #[int i64 dY,int i64 mO,.slice gA ng gc,.slice mA nm mc,.slice cA nc cc] 26)) 75 #[int i64 0,int i64 0,.slice none 0 0,.slice none 0 0,.slice none 0 0,.slice none 0 0]
  rwa[World.size_alloc] at this)
 gi_enter func31,ntmps31
 gi_wp2_with (first
  | (gi_at_call 37;refine(s9.out _ (HA.out.up (bw))).mono ?_;rintro e w2 ⟨A,p,rfl,hc2,hb2,hf2⟩;have Lo:=hid hf2;clear hf2;have HB2:=hid hb2;have KB:=hid hc2;have hl2:w.heap.size+2≤w2.heap.size:=by have:=hb2.size;simpa using this)
  | (gi_at_call 73;refine(HH.out _).mono ?_;rintro e w4 ⟨rfl,hb4⟩;have D6:=hid hb4;have X4:Whole w4 w2.heap.size 75 #[int i64 dY,int i64 mO,.slice gA ng gc,.slice mA nm mc,.slice cA nc cc,.slice A n p]:=(Whole.new w2 _ _).below hb4 zs;have x0:w4.cell? ⟨w2.heap.size,0,none⟩=some (int i64 dY):=X4.cell 0;have x1:w4.cell? ⟨w2.heap.size,1,none⟩=some (int i64 mO):=X4.cell 1;have x2:w4.cell? ⟨w2.heap.size,2,none⟩=some (.slice gA ng gc):=X4.cell 2;have x3:w4.cell? ⟨w2.heap.size,3,none⟩=some (.slice mA nm mc):=X4.cell 3;have x4:w4.cell? ⟨w2.heap.size,4,none⟩=some (.slice cA nc cc):=X4.cell 4;have x5:w4.cell? ⟨w2.heap.size,5,none⟩=some (.slice A n p):=X4.cell 5;have Y4:=((Y1.out.below hb2 zs).alloc (.cells #[int i64 dY,int i64 mO,.slice gA ng gc,.slice mA nm mc,.slice cA nc cc,.slice A n p] 75)).below hb4 zm;have yf:=Y4.thaw;have y0:w4.cell? ⟨w.heap.size+1,0,none⟩=some (int i64 0):=Y4.cell 0;have y1:w4.cell? ⟨w.heap.size+1,1,none⟩=some (int i64 0):=Y4.cell 1;have y2:w4.cell? ⟨w.heap.size+1,2,none⟩=some (.slice none 0 0):=Y4.cell 2;have y3:w4.cell? ⟨w.heap.size+1,3,none⟩=some (.slice none 0 0):=Y4.cell 3;have y4:w4.cell? ⟨w.heap.size+1,4,none⟩=some (.slice none 0 0):=Y4.cell 4;have y5:w4.cell? ⟨w.heap.size+1,5,none⟩=some (.slice none 0 0):=Y4.cell 5))
 have U:=(((((Y4.set 0 (int i64 dY)).set 1 (int i64 mO)).set 2 (.slice gA ng gc)).set 3 (.slice mA nm mc)).set 4 (.slice cA nc cc)).set 5 (.slice A n p)
 have u0:=U.cell 0
 have u1:=U.cell 1
 have u2:=U.cell 2
 have u3:=U.cell 3
 have u4:=U.cell 4
 have u5:=U.cell 5
 have UB:=hid ((((((((Below.next (Below.al (Below.next (show Below w.heap.size w ((w.alloc (.cells #[int i64 dY,int i64 mO,.slice gA ng gc,.slice mA nm mc,.slice cA nc cc] 26)).alloc (.cells #[int i64 0,int i64 0,.slice none 0 0,.slice none 0 0,.slice none 0 0,.slice none 0 0] 75)) from bw) HB2.out) (.cells #[int i64 dY,int i64 mO,.slice gA ng gc,.slice mA nm mc,.slice cA nc cc,.slice A n p] 75)) D6.out).setCell (p:=⟨w.heap.size+1,0,none⟩) zs (int i64 dY)).setCell (p:=⟨w.heap.size+1,1,none⟩) zs (int i64 mO)).setCell (p:=⟨w.heap.size+1,2,none⟩) zs (.slice gA ng gc)).setCell (p:=⟨w.heap.size+1,3,none⟩) zs (.slice mA nm mc)).setCell (p:=⟨w.heap.size+1,4,none⟩) zs (.slice cA nc cc)).setCell (p:=⟨w.heap.size+1,5,none⟩) zs (.slice A n p)))
 refine bodyPost_ret (v:=.tuple #[.agg #[int i64 dY,int i64 mO,.slice gA ng gc,.slice mA nm mc,.slice cA nc cc,.slice A n p],int i64 0]) (by simp[results,results31,go_sem,u0,u1,u2,u3,u4,u5]) rfl ⟨A,p,rfl,?_,?_⟩
 ·exact Kx.out A w2 w4 ⟨w.heap.size+1,0,none⟩ _ _ _ _ _ _ KB.out UB.out (Below.next (Below.al (Below.refl _ w2) _) D6.out) fun ad hA hn=>by have:=Lo.out ad hA hn;simp at this⊢;omega
 ·exact UB.out
theorem iu(b:Bk)(ok:b.Ok)(A:Option Addr)(n p:Nat)(g:Nat)(hg:g<3)(xs:List Ht)(hx:∀h∈xs,pR h)(Bc Bg:Nat)(w:World)(hA:b.At w w.heap.size)(hc:Whole w Bc 75 (aA b A n p))(hgg:Whole w Bg 3 #[int i64 g]):ug FF 93 #[.pointer (some ⟨Bc,0,none⟩),.pointer (some ⟨Bg,0,none⟩)] xs (fun h=>int i64 (stk b h b.dY b.nm g)) w:=by
 refine⟨zs,enters_of func93 zk rfl,fun W h hh hW=>?_⟩
 have HF:=hid fun W hA=>gJ b h b.dY W hA ok.moves ok.bX.1.2 (hx h hh)
 have HA:=hid (hA.up hW)
 have C1:=hid (hc.below hW hc.lt)
 have G1:=hid (hgg.below hW hgg.lt)
 have h1:=C1.out.lt
 have h3:=G1.out.lt
 show CallsIn FF 0 prog 93 #[h.val,.pointer (some ⟨Bc,0,none⟩),.pointer (some ⟨Bg,0,none⟩)] W fun e W'=>e=.returned (int i64 (stk b h b.dY b.nm g))∧Below W.heap.size W W'
 obtain⟨r,hr⟩:∃r,r=stk b h b.dY b.nm:=zE
 rw[← hr] at HF⊢
 clear hh hr hc hgg hx hA ok hW
 obtain⟨w1,hw1⟩:∃w1,w1=W.alloc (.cells h.cells 91):=zE
 have B1:Hid (Below W.heap.size W w1):=hid (by rw[hw1];exact bw)
 have H1:Hid (Whole w1 W.heap.size 91 h.cells):=hid (by rw[hw1];exact Whole.new _ _ _)
 have C2:=hid (C1.out.below B1.out h1)
 have G2:=hid (G1.out.below B1.out h3)
 have A2:=hid (HA.out.up B1.out)
 obtain⟨f,m,li⟩:=h
 obtain⟨dY,mO,gA,ng,gc,gs,mA,nm,mc,ms,cA,nc,cc,cs⟩:=b
 simp only[Ht.val,Ht.cells,Bk.val,Bk.cells,mD] at HF H1⊢
 simp only[aA] at C2
 simp only[Ht.cells] at hw1
 have ku:=hid hw1
 clear hw1
 have q0:∀d os,(grow (redrawn w1 d) os).cell? ⟨Bc,0,none⟩=some (int i64 dY):=cell_regrown (C2.out.cell 0)
 have q1:∀d os,(grow (redrawn w1 d) os).cell? ⟨Bc,1,none⟩=some (int i64 mO):=cell_regrown (C2.out.cell 1)
 have q2:∀d os,(grow (redrawn w1 d) os).cell? ⟨Bc,2,none⟩=some (.slice gA ng gc):=cell_regrown (C2.out.cell 2)
 have q3:∀d os,(grow (redrawn w1 d) os).cell? ⟨Bc,3,none⟩=some (.slice mA nm mc):=cell_regrown (C2.out.cell 3)
 have q4:∀d os,(grow (redrawn w1 d) os).cell? ⟨Bc,4,none⟩=some (.slice cA nc cc):=cell_regrown (C2.out.cell 4)
 have qg:∀d os,(grow (redrawn w1 d) os).cell? ⟨Bg,0,none⟩=some (int i64 g):=cell_regrown (G2.out.cell 0)
 have x0:∀d os,(grow (redrawn w1 d) os).cell? ⟨W.heap.size,0,none⟩=some (int i64 (f 0)):=cell_regrown (H1.out.cell 0)
 have x1:∀d os,(grow (redrawn w1 d) os).cell? ⟨W.heap.size,1,none⟩=some (int i64 (f 1)):=cell_regrown (H1.out.cell 1)
 have x2:∀d os,(grow (redrawn w1 d) os).cell? ⟨W.heap.size,2,none⟩=some (int i64 (f 2)):=cell_regrown (H1.out.cell 2)
 have x3:∀d os,(grow (redrawn w1 d) os).cell? ⟨W.heap.size,3,none⟩=some (int i64 (m 0)):=cell_regrown (H1.out.cell 3)
 have x4:∀d os,(grow (redrawn w1 d) os).cell? ⟨W.heap.size,4,none⟩=some (int i64 (m 1)):=cell_regrown (H1.out.cell 4)
 have x5:∀d os,(grow (redrawn w1 d) os).cell? ⟨W.heap.size,5,none⟩=some (int i64 (m 2)):=cell_regrown (H1.out.cell 5)
 have x6:∀d os,(grow (redrawn w1 d) os).cell? ⟨W.heap.size,6,none⟩=some (int i64 (m 3)):=cell_regrown (H1.out.cell 6)
 have x7:∀d os,(grow (redrawn w1 d) os).cell? ⟨W.heap.size,7,none⟩=some (int i64 (m 4)):=cell_regrown (H1.out.cell 7)
 have x8:∀d os,(grow (redrawn w1 d) os).cell? ⟨W.heap.size,8,none⟩=some (int i64 (m 5)):=cell_regrown (H1.out.cell 8)
 have x9:∀d os,(grow (redrawn w1 d) os).cell? ⟨W.heap.size,9,none⟩=some (int i64 li):=cell_regrown (H1.out.cell 9)
 have cS:∀d os,CallsIn FF 0 prog 47 #[.agg #[int i64 dY,int i64 mO,.slice gA ng gc,.slice mA nm mc,.slice cA nc cc],.agg #[int i64 (f 0),int i64 (f 1),int i64 (f 2),int i64 (m 0),int i64 (m 1),int i64 (m 2),int i64 (m 3),int i64 (m 4),int i64 (m 5),int i64 li],int i64 dY] (grow (redrawn w1 d) os) fun e w''=>e=.returned (.agg #[int i64 (r 0),int i64 (r 1),int i64 (r 2)])∧∃p:Regrown,w''=grow (redrawn w1 p.d) p.os:=fun d os=>CallsIn.regrown_of (HF.out _ ((A2.out.below (below_regrown w1 d os)).more (below_regrown w1 d os).size))
 have ix:∀ (u v z:Int) (w:World),(Instr.index 88 (.agg #[int i64 u,int i64 v,int i64 z]) (int i64 0)).run prog w=.ok (int i64 u) w∧(Instr.index 88 (.agg #[int i64 u,int i64 v,int i64 z]) (int i64 1)).run prog w=.ok (int i64 v) w∧(Instr.index 88 (.agg #[int i64 u,int i64 v,int i64 z]) (int i64 2)).run prog w=.ok (int i64 z) w:=fun _ _ _ _=>⟨zk,zk,zk⟩
 have T3:=fun u v z w=>(ix u v z w).1
 have T5:=fun u v z w=>(ix u v z w).2.1
 have T6:=fun u v z w=>(ix u v z w).2.2
 clear ix
 gi_enter func93,ntmps93
 gi_wp2
 rw[← ku.out]
 refine wpIn_region_quiet_below rfl zk zk ?_
 rcases(show g=0∨g=1∨g=2 by omega) with rfl|rfl|rfl
 all_goals
  repeat (quiet_step_in (exact cS _ _))
  refine wpQuietIn_nil ?_
  rintro w' ⟨⟨dq,osq⟩,rfl⟩
  have bg:=below_regrown w1 dq osq
  gi_wp2
  go_ret
  exact⟨rfl,Below.next B1.out bg⟩
theorem UE(b:Bk)(ok:b.Ok)(A:Option Addr)(n p:Nat)(g:Nat)(hg:g<3)(xs:List Ht)(hx:∀h∈xs,pR h)(Bc Bg Bd:Nat)(w:World)(hA:b.At w w.heap.size)(hc:Whole w Bc 75 (aA b A n p))(hd:Whole w Bd 3 #[int i64 2])(hgg:Whole w Bg 3 #[int i64 g]):ug FF 66 #[.pointer (some ⟨Bc,0,none⟩),.pointer (some ⟨Bg,0,none⟩),.pointer (some ⟨Bd,0,none⟩)] xs (fun h=>int i64 ((IntKind.i64.wrap ((stk b h b.dY b.nm g).tdiv 2)))) w:=by
 refine⟨zs,enters_of func66 zk rfl,fun W h hh hW=>?_⟩
 have HF:=hid fun W hA=>gJ b h b.dY W hA ok.moves ok.bX.1.2 (hx h hh)
 have HA:=hid (hA.up hW)
 have C1:=hid (hc.below hW hc.lt)
 have D1:=hid (hd.below hW hd.lt)
 have G1:=hid (hgg.below hW hgg.lt)
 have h1:=C1.out.lt
 have h2:=D1.out.lt
 have h3:=G1.out.lt
 show CallsIn FF 0 prog 66 #[h.val,.pointer (some ⟨Bc,0,none⟩),.pointer (some ⟨Bg,0,none⟩),.pointer (some ⟨Bd,0,none⟩)] W fun e W'=>e=.returned (int i64 ((IntKind.i64.wrap ((stk b h b.dY b.nm g).tdiv 2))))∧Below W.heap.size W W'
 obtain⟨r,hr⟩:∃r,r=stk b h b.dY b.nm:=zE
 rw[← hr] at HF⊢
 clear hh hr hc hd hgg hx hA ok hW
 obtain⟨w1,hw1⟩:∃w1,w1=W.alloc (.cells h.cells 91):=zE
 have B1:Hid (Below W.heap.size W w1):=hid (by rw[hw1];exact bw)
 have H1:Hid (Whole w1 W.heap.size 91 h.cells):=hid (by rw[hw1];exact Whole.new _ _ _)
 have C2:=hid (C1.out.below B1.out h1)
 have D2:=hid (D1.out.below B1.out h2)
 have G2:=hid (G1.out.below B1.out h3)
 have A2:=hid (HA.out.up B1.out)
 obtain⟨f,m,li⟩:=h
 obtain⟨dY,mO,gA,ng,gc,gs,mA,nm,mc,ms,cA,nc,cc,cs⟩:=b
 simp only[Ht.val,Ht.cells,Bk.val,Bk.cells,mD] at HF H1⊢
 simp only[aA] at C2
 simp only[Ht.cells] at hw1
 have ku:=hid hw1
 clear hw1
 have q0:∀d os,(grow (redrawn w1 d) os).cell? ⟨Bc,0,none⟩=some (int i64 dY):=cell_regrown (C2.out.cell 0)
 have q1:∀d os,(grow (redrawn w1 d) os).cell? ⟨Bc,1,none⟩=some (int i64 mO):=cell_regrown (C2.out.cell 1)
 have q2:∀d os,(grow (redrawn w1 d) os).cell? ⟨Bc,2,none⟩=some (.slice gA ng gc):=cell_regrown (C2.out.cell 2)
 have q3:∀d os,(grow (redrawn w1 d) os).cell? ⟨Bc,3,none⟩=some (.slice mA nm mc):=cell_regrown (C2.out.cell 3)
 have q4:∀d os,(grow (redrawn w1 d) os).cell? ⟨Bc,4,none⟩=some (.slice cA nc cc):=cell_regrown (C2.out.cell 4)
 have qd:∀d os,(grow (redrawn w1 d) os).cell? ⟨Bd,0,none⟩=some (int i64 2):=cell_regrown (D2.out.cell 0)
 have qg:∀d os,(grow (redrawn w1 d) os).cell? ⟨Bg,0,none⟩=some (int i64 g):=cell_regrown (G2.out.cell 0)
 have x0:∀d os,(grow (redrawn w1 d) os).cell? ⟨W.heap.size,0,none⟩=some (int i64 (f 0)):=cell_regrown (H1.out.cell 0)
 have x1:∀d os,(grow (redrawn w1 d) os).cell? ⟨W.heap.size,1,none⟩=some (int i64 (f 1)):=cell_regrown (H1.out.cell 1)
 have x2:∀d os,(grow (redrawn w1 d) os).cell? ⟨W.heap.size,2,none⟩=some (int i64 (f 2)):=cell_regrown (H1.out.cell 2)
 have x3:∀d os,(grow (redrawn w1 d) os).cell? ⟨W.heap.size,3,none⟩=some (int i64 (m 0)):=cell_regrown (H1.out.cell 3)
 have x4:∀d os,(grow (redrawn w1 d) os).cell? ⟨W.heap.size,4,none⟩=some (int i64 (m 1)):=cell_regrown (H1.out.cell 4)
 have x5:∀d os,(grow (redrawn w1 d) os).cell? ⟨W.heap.size,5,none⟩=some (int i64 (m 2)):=cell_regrown (H1.out.cell 5)
 have x6:∀d os,(grow (redrawn w1 d) os).cell? ⟨W.heap.size,6,none⟩=some (int i64 (m 3)):=cell_regrown (H1.out.cell 6)
 have x7:∀d os,(grow (redrawn w1 d) os).cell? ⟨W.heap.size,7,none⟩=some (int i64 (m 4)):=cell_regrown (H1.out.cell 7)
 have x8:∀d os,(grow (redrawn w1 d) os).cell? ⟨W.heap.size,8,none⟩=some (int i64 (m 5)):=cell_regrown (H1.out.cell 8)
 have x9:∀d os,(grow (redrawn w1 d) os).cell? ⟨W.heap.size,9,none⟩=some (int i64 li):=cell_regrown (H1.out.cell 9)
 have cS:∀d os,CallsIn FF 0 prog 47 #[.agg #[int i64 dY,int i64 mO,.slice gA ng gc,.slice mA nm mc,.slice cA nc cc],.agg #[int i64 (f 0),int i64 (f 1),int i64 (f 2),int i64 (m 0),int i64 (m 1),int i64 (m 2),int i64 (m 3),int i64 (m 4),int i64 (m 5),int i64 li],int i64 dY] (grow (redrawn w1 d) os) fun e w''=>e=.returned (.agg #[int i64 (r 0),int i64 (r 1),int i64 (r 2)])∧∃p:Regrown,w''=grow (redrawn w1 p.d) p.os:=fun d os=>CallsIn.regrown_of (HF.out _ ((A2.out.below (below_regrown w1 d os)).more (below_regrown w1 d os).size))
 have ix:∀ (u v z:Int) (w:World),(Instr.index 88 (.agg #[int i64 u,int i64 v,int i64 z]) (int i64 0)).run prog w=.ok (int i64 u) w∧(Instr.index 88 (.agg #[int i64 u,int i64 v,int i64 z]) (int i64 1)).run prog w=.ok (int i64 v) w∧(Instr.index 88 (.agg #[int i64 u,int i64 v,int i64 z]) (int i64 2)).run prog w=.ok (int i64 z) w:=fun _ _ _ _=>⟨zk,zk,zk⟩
 have T3:=fun u v z w=>(ix u v z w).1
 have T5:=fun u v z w=>(ix u v z w).2.1
 have T6:=fun u v z w=>(ix u v z w).2.2
 clear ix
 gi_enter func66,ntmps66
 gi_wp2
 rw[← ku.out]
 refine wpIn_region_quiet_below rfl zk zk ?_
 rcases(show g=0∨g=1∨g=2 by omega) with rfl|rfl|rfl
 all_goals
  repeat (quiet_step_in (exact cS _ _))
  refine wpQuietIn_nil ?_
  rintro w' ⟨⟨dq,osq⟩,rfl⟩
  have bg:=below_regrown w1 dq osq
  gi_wp2
  go_ret
  exact⟨rfl,Below.next B1.out bg⟩
theorem aL{w:World}{t:TypeId}{cs:Array Value}{n:Nat}(h:w.heap.size=n):Whole (w.alloc (.cells cs t)) n t cs:=by subst h;exact Whole.new _ _ _
theorem vO(b:Bk)(k:Nat)(w:World)(h:b.At w w.heap.size)(ok:b.Ok)(hcap:b.ng≤b.gc)(hl:∀s∈ak b,dZ s)(hlen:(aB b (ak b)).length<2 ^ 40)(hk:k<b.nm)(hkd:(b.m k).kind=0):CallsIn FF 0 prog 21 #[b.val,int i64 k] w fun e w'=>e=.returned (.tuple #[int i64 (NW (aB b (ak b)).length ((aB b (ak b)).filter fun h=>h.Jz k).length),int i64 (Tg (aB b (ak b)).length)])∧Below w.heap.size w w':=by
 have hx:=jy b ok (ak b) hl
 have HO:=hid fun w h=>mU b w h ok hcap
 have HH:=hid fun A p w hc=>rX b ok hl A p w hc
 have HN:=hid fun w h=>by have:=uG b k w h hk;rw[decide_eq_true hkd] at this;exact this
 have Uj:k<6:=by have:=ok.moves.1;omega
 have HK:=hid fun lb B w h hB=>oa 79 lb 58 #[.pointer (some ⟨B,0,none⟩)] (fun h=>h.Jz k) (aB b (ak b)) w hlen h (TG k Uj _ hx B w hB)
 have HA:=hid h
 have HC:=hid fun A w (h:pQ b A w)=>h.at_
 obtain⟨n,hn⟩:∃n,n=(ak b).length:=zE
 obtain⟨xs,hxs⟩:∃xs,xs=aB b (ak b):=zE
 rw[← hn] at HO HH
 rw[← hxs] at HH HK⊢
 obtain⟨R1,rf⟩:∃R,R=NW xs.length (xs.filter fun h=>h.Jz k).length:=zE
 rw[← rf] at HK⊢
 clear hn hxs h hcap hl hlen ok rf hkd hx
 obtain⟨dY,mO,gA,ng,gc,g,mA,nm,mc,m,cA,nc,cc,c⟩:=b
 simp only[Bk.val,Bk.cells,aA] at HO HH HN⊢
 have K1:Hid (Whole ((w.alloc (.cells #[int i64 dY,int i64 mO,.slice gA ng gc,.slice mA nm mc,.slice cA nc cc] 26)).alloc (.cells #[int i64 k] 3)) (w.heap.size+1) 3 #[int i64 k]):=hid (aL zs)
 gi_enter func21,ntmps21
 gi_wp2_with (first
  | (gi_at_call 37;refine(HO.out _ (HA.out.up (bw))).mono ?_;rintro e w2 ⟨A,p,rfl,hc2,hb2,-⟩;have K2:=(K1.out.below hb2 zs).alloc (.cells #[int i64 dY,int i64 mO,.slice gA ng gc,.slice mA nm mc,.slice cA nc cc,.slice A n p] 75);have k2:(w2.alloc (.cells #[int i64 dY,int i64 mO,.slice gA ng gc,.slice mA nm mc,.slice cA nc cc,.slice A n p] 75)).cell? ⟨w.heap.size+1,0,none⟩=some (int i64 k):=K2.cell 0)
  | (gi_at_call 56;refine(HN.out _ ((HC.out A _ (hc2.below (bw))))).mono ?_;rintro e w3 ⟨rfl,hb3⟩;have X3:Whole w3 w2.heap.size 75 #[int i64 dY,int i64 mO,.slice gA ng gc,.slice mA nm mc,.slice cA nc cc,.slice A n p]:=(Whole.new w2 _ _).below hb3 zs;have x0:w3.cell? ⟨w2.heap.size,0,none⟩=some (int i64 dY):=X3.cell 0;have x1:w3.cell? ⟨w2.heap.size,1,none⟩=some (int i64 mO):=X3.cell 1;have x2:w3.cell? ⟨w2.heap.size,2,none⟩=some (.slice gA ng gc):=X3.cell 2;have x3:w3.cell? ⟨w2.heap.size,3,none⟩=some (.slice mA nm mc):=X3.cell 3;have x4:w3.cell? ⟨w2.heap.size,4,none⟩=some (.slice cA nc cc):=X3.cell 4;have x5:w3.cell? ⟨w2.heap.size,5,none⟩=some (.slice A n p):=X3.cell 5;have K3:=K2.below hb3 K2.lt)
  | (gi_at_call 39;refine(HH.out A p _ ((hc2.below (bw)).below hb3)).mono ?_;rintro e w4 ⟨lb,rfl,hs4,hb4⟩)
  | (gi_at_call 57;refine(HK.out lb _ _ hs4 (K3.below hb4 K3.lt)).mono ?_;rintro e w5 ⟨rfl,hb5⟩))
 go_ret2
 exact⟨rfl,Below.next (Below.next (Below.next (Below.al (Below.next (bw) hb2) _) hb3) hb4) hb5⟩
theorem ow(b:Bk)(k:Nat)(w:World)(h:b.At w w.heap.size)(ok:b.Ok)(hcap:b.ng≤b.gc)(hl:∀s∈ak b,dZ s)(hk:(k:Int)≤b.dY):CallsIn FF 0 prog 23 #[b.val,int i64 k] w fun e w'=>e=.returned (.tuple #[.agg #[int i64 (bK (fun h=>eF b (stk b h k b.nm) b.ng) (aB b (ak b))).1,int i64 (bK (fun h=>eF b (stk b h k b.nm) b.ng) (aB b (ak b))).2.1],int i64 (if (bK (fun h=>eF b (stk b h k b.nm) b.ng) (aB b (ak b))).2.2 then 0 else 9)])∧Below w.heap.size w w':=by
 have hx:=jy b ok (ak b) hl
 have HO:=hid fun w h=>mU b w h ok hcap
 have HH:=hid fun A p w hc=>rX b ok hl A p w hc
 have HN:=hid fun(w:World)=>show CallsIn FF 0 prog 51 #[b.val,int i64 k] w fun e w'=>e=.returned (.bool true)∧Below w.heap.size w w' from by
  have:=xU b k w
  have e:gK (k:Int) 0 b.dY=true:=by unfold gK;simp;omega
  rwa[e] at this
 have HK:=hid fun lb A n p Bc B w h hA hc hB=>EZ 79 lb 63 #[.pointer (some ⟨Bc,0,none⟩),.pointer (some ⟨B,0,none⟩)] (fun h=>eF b (stk b h k b.nm) b.ng) (aB b (ak b)) w h (WK b ok A n p k _ hx Bc B w hA hc hB)
 have HA:=hid h
 have HC:=hid fun A w (h:pQ b A w)=>h.at_
 obtain⟨n,hn⟩:∃n,n=(ak b).length:=zE
 obtain⟨xs,hxs⟩:∃xs,xs=aB b (ak b):=zE
 rw[← hn] at HO HH
 rw[← hxs] at HH HK⊢
 obtain⟨⟨R1,R2,R3⟩,hR⟩:∃R,R=bK (fun h=>eF b (stk b h k b.nm) b.ng) xs:=zE
 rw[← hR] at HK⊢
 obtain⟨R4,TN⟩:∃R4:Int,R4=if (R1,R2,R3).2.2=true then 0 else 9:=zE
 rw[← TN] at HK⊢
 clear hn hxs h hcap hl ok hR TN hk hx
 obtain⟨dY,mO,gA,ng,gc,g,mA,nm,mc,m,cA,nc,cc,c⟩:=b
 simp only[Bk.val,Bk.cells,aA] at HO HH HN HK⊢
 have K1:Hid (Whole (((w.alloc (.cells #[int i64 dY,int i64 mO,.slice gA ng gc,.slice mA nm mc,.slice cA nc cc] 26)).alloc (.cells #[int i64 k] 3)).alloc (.cells #[int i64 0,int i64 0] 28)) (w.heap.size+1) 3 #[int i64 k]):=hid ((aL zs).alloc _)
 have Z1:Hid (Whole (((w.alloc (.cells #[int i64 dY,int i64 mO,.slice gA ng gc,.slice mA nm mc,.slice cA nc cc] 26)).alloc (.cells #[int i64 k] 3)).alloc (.cells #[int i64 0,int i64 0] 28)) (w.heap.size+1+1) 28 #[int i64 0,int i64 0]):=hid (aL zs)
 gi_enter func23,ntmps23
 gi_wp2_with (first
  | (gi_at_call 37;refine(HO.out _ (HA.out.up (bw))).mono ?_;rintro e w2 ⟨A,p,rfl,hc2,hb2,-⟩;have K2:=(K1.out.below hb2 zs).alloc (.cells #[int i64 dY,int i64 mO,.slice gA ng gc,.slice mA nm mc,.slice cA nc cc,.slice A n p] 75);have k2:(w2.alloc (.cells #[int i64 dY,int i64 mO,.slice gA ng gc,.slice mA nm mc,.slice cA nc cc,.slice A n p] 75)).cell? ⟨w.heap.size+1,0,none⟩=some (int i64 k):=K2.cell 0;have Z2:=(Z1.out.below hb2 zs).alloc (.cells #[int i64 dY,int i64 mO,.slice gA ng gc,.slice mA nm mc,.slice cA nc cc,.slice A n p] 75))
  | (gi_at_call 51;refine(HN.out _).mono ?_;rintro e w3 ⟨rfl,hb3⟩;have X3:Whole w3 w2.heap.size 75 #[int i64 dY,int i64 mO,.slice gA ng gc,.slice mA nm mc,.slice cA nc cc,.slice A n p]:=(Whole.new w2 _ _).below hb3 zs;have x0:w3.cell? ⟨w2.heap.size,0,none⟩=some (int i64 dY):=X3.cell 0;have x1:w3.cell? ⟨w2.heap.size,1,none⟩=some (int i64 mO):=X3.cell 1;have x2:w3.cell? ⟨w2.heap.size,2,none⟩=some (.slice gA ng gc):=X3.cell 2;have x3:w3.cell? ⟨w2.heap.size,3,none⟩=some (.slice mA nm mc):=X3.cell 3;have x4:w3.cell? ⟨w2.heap.size,4,none⟩=some (.slice cA nc cc):=X3.cell 4;have x5:w3.cell? ⟨w2.heap.size,5,none⟩=some (.slice A n p):=X3.cell 5;have K3:=K2.below hb3 K2.lt)
  | (gi_at_call 39;refine(HH.out A p _ ((hc2.below (bw)).below hb3)).mono ?_;rintro e w4 ⟨lb,rfl,hs4,hb4⟩)
  | (gi_at_call 60;refine(HK.out lb A n p _ _ _ hs4 (((HC.out A _ (hc2.below (bw))).up hb3).up hb4) (X3.below hb4 X3.lt) (K3.below hb4 K3.lt)).mono ?_;rintro e w5 ⟨rfl,hb5⟩;have He:=hb4.trans (hb5.mono hb4.size);have Z5:=(Z2.below hb3 Z2.lt).below He (Z2.below hb3 Z2.lt).lt;have z0:w5.cell? ⟨w.heap.size+1+1,0,none⟩=some (int i64 0):=Z5.cell 0;have z1:w5.cell? ⟨w.heap.size+1+1,1,none⟩=some (int i64 0):=Z5.cell 1;have zf:=Z5.thaw))
 have U:=(Z5.set 0 (int i64 R1)).set 1 (int i64 R2)
 have u0:=U.cell 0
 have u1:=U.cell 1
 refine bodyPost_ret (v:=.tuple #[.agg #[int i64 R1,int i64 R2],int i64 R4]) (by simp[results,results23,go_sem,u0,u1]) rfl ⟨rfl,?_⟩
 exact((Below.next (Below.next (Below.al (Below.next (bw) hb2) _) hb3) He).setCell zm _).setCell zm _
theorem Jc(b:Bk)(gd:Nat)(w:World)(h:b.At w w.heap.size)(ok:b.Ok)(hcap:b.ng≤b.gc)(hl:∀s∈ak b,dZ s)(hgd:gd<b.ng):CallsIn FF 0 prog 24 #[b.val,int i64 gd,int i64 2] w fun e w'=>e=.returned (.tuple #[.agg #[int i64 (bK (fun h=>IntKind.i64.wrap ((stk b h b.dY b.nm gd).tdiv 2)) (aB b (ak b))).1,int i64 (bK (fun h=>IntKind.i64.wrap ((stk b h b.dY b.nm gd).tdiv 2)) (aB b (ak b))).2.1],int i64 (if (bK (fun h=>IntKind.i64.wrap ((stk b h b.dY b.nm gd).tdiv 2)) (aB b (ak b))).2.2 then 0 else 9)])∧Below w.heap.size w w':=by
 have hx:=jy b ok (ak b) hl
 have HO:=hid fun w h=>q8 b gd w h ok hcap hgd
 have HH:=hid fun A p w hc=>rX b ok hl A p w hc
 have hg3:gd<3:=by have:=ok.bX.1.2;omega
 have HN:=hid fun(w:World)=>show CallsIn FF 0 prog 65 #[int i64 2,int i64 1,int i64 99] w fun e w'=>e=.returned (.bool true)∧w=w' from by
  have:=dn 2 1 99 w
  have e:gK 2 1 99=true:=zD
  rwa[e] at this
 have HK:=hid fun lb A n p Bc Bg B w h hA hc hg hB=>EZ 79 lb 66 #[.pointer (some ⟨Bc,0,none⟩),.pointer (some ⟨Bg,0,none⟩),.pointer (some ⟨B,0,none⟩)] (fun h=>IntKind.i64.wrap ((stk b h b.dY b.nm gd).tdiv 2)) (aB b (ak b)) w h (UE b ok A n p gd hg3 _ hx Bc Bg B w hA hc hB hg)
 have HA:=hid h
 have HC:=hid fun A w (h:pQ b A w)=>h.at_
 obtain⟨n,hn⟩:∃n,n=(ak b).length:=zE
 obtain⟨xs,hxs⟩:∃xs,xs=aB b (ak b):=zE
 rw[← hn] at HO HH
 rw[← hxs] at HH HK⊢
 obtain⟨⟨R1,R2,R3⟩,hR⟩:∃R,R=bK (fun h=>IntKind.i64.wrap ((stk b h b.dY b.nm gd).tdiv 2)) xs:=zE
 rw[← hR] at HK⊢
 obtain⟨R4,TN⟩:∃R4:Int,R4=if (R1,R2,R3).2.2=true then 0 else 9:=zE
 rw[← TN] at HK⊢
 clear hn hxs h hcap hl ok hR TN hgd hx
 obtain⟨dY,mO,gA,ng,gc,g,mA,nm,mc,m,cA,nc,cc,c⟩:=b
 simp only[Bk.val,Bk.cells,aA] at HO HH HK⊢
 obtain⟨w1,hw1⟩:∃w1,w1=(((w.alloc (.cells #[int i64 dY,int i64 mO,.slice gA ng gc,.slice mA nm mc,.slice cA nc cc] 26)).alloc (.cells #[int i64 gd] 3)).alloc (.cells #[int i64 2] 3)).alloc (.cells #[int i64 0,int i64 0] 28):=zE
 have B1:Hid (Below w.heap.size w w1):=hid (by rw[hw1];exact bw)
 have G1:Hid (Whole w1 (w.heap.size+1) 3 #[int i64 gd]):=hid (by rw[hw1];exact((aL zs).alloc _).alloc _)
 have K1:Hid (Whole w1 (w.heap.size+1+1) 3 #[int i64 2]):=hid (by rw[hw1];exact(aL zs).alloc _)
 have Z1:Hid (Whole w1 (w.heap.size+1+1+1) 28 #[int i64 0,int i64 0]):=hid (by rw[hw1];exact aL zs)
 have ku:=hid hw1
 clear hw1
 gi_enter func24,ntmps24
 gi_wp2_with (first
  | (gi_at_call 50;rw[← ku.out];refine(HO.out _ (HA.out.up B1.out)).mono ?_;rintro e w2 ⟨A,p,rfl,hc2,hb2⟩;have K2:=(K1.out.below hb2 K1.out.lt).alloc (.cells #[int i64 dY,int i64 mO,.slice gA ng gc,.slice mA nm mc,.slice cA nc cc,.slice A n p] 75);have k2:(w2.alloc (.cells #[int i64 dY,int i64 mO,.slice gA ng gc,.slice mA nm mc,.slice cA nc cc,.slice A n p] 75)).cell? ⟨w.heap.size+1+1,0,none⟩=some (int i64 2):=K2.cell 0;have Z2:=(Z1.out.below hb2 Z1.out.lt).alloc (.cells #[int i64 dY,int i64 mO,.slice gA ng gc,.slice mA nm mc,.slice cA nc cc,.slice A n p] 75);have G2:=(G1.out.below hb2 G1.out.lt).alloc (.cells #[int i64 dY,int i64 mO,.slice gA ng gc,.slice mA nm mc,.slice cA nc cc,.slice A n p] 75))
  | (gi_at_call 65;refine(HN.out _).mono ?_;rintro e w3 ⟨rfl,rfl⟩)
  | (gi_at_call 39;refine(HH.out A p _ (hc2.below (bw))).mono ?_;rintro e w4 ⟨lb,rfl,hs4,hb4⟩)
  | (gi_at_call 60;refine(HK.out lb A n p _ _ _ _ hs4 ((HC.out A _ (hc2.below (bw))).up hb4) ((Whole.new w2 _ _).below hb4 zs) (G2.below hb4 G2.lt) (K2.below hb4 K2.lt)).mono ?_;rintro e w5 ⟨rfl,hb5⟩;have He:=hb4.trans (hb5.mono hb4.size);have Z5:=Z2.below He Z2.lt;have z0:w5.cell? ⟨w.heap.size+1+1+1,0,none⟩=some (int i64 0):=Z5.cell 0;have z1:w5.cell? ⟨w.heap.size+1+1+1,1,none⟩=some (int i64 0):=Z5.cell 1;have zf:=Z5.thaw))
 have U:=(Z5.set 0 (int i64 R1)).set 1 (int i64 R2)
 have u0:=U.cell 0
 have u1:=U.cell 1
 refine bodyPost_ret (v:=.tuple #[.agg #[int i64 R1,int i64 R2],int i64 R4]) (by simp[results,results24,go_sem,u0,u1]) rfl ⟨rfl,?_⟩
 exact((Below.next (Below.al (Below.next B1.out hb2) _) He).setCell zm _).setCell zm _
theorem L9(b:Bk)(gd:Nat)(a z:Int)(w:World)(h:b.At w w.heap.size)(ok:b.Ok)(hcap:b.ng≤b.gc)(hl:∀s∈ak b,dZ s)(hgd:gd<b.ng)(hf:nG a z 1 b.dY=true):CallsIn FF 0 prog 22 #[b.val,int i64 gd,int i64 a,int i64 z] w fun e w'=>e=.returned (.tuple #[.agg #[int i64 (bK (fun h=>kN b h gd a z b.nm) (aB b (ak b))).1,int i64 (bK (fun h=>kN b h gd a z b.nm) (aB b (ak b))).2.1],int i64 (if (bK (fun h=>kN b h gd a z b.nm) (aB b (ak b))).2.2 then 0 else 9)])∧Below w.heap.size w w':=by
 have hx:=jy b ok (ak b) hl
 have HO:=hid fun w h=>q8 b gd w h ok hcap hgd
 have HH:=hid fun A p w hc=>rX b ok hl A p w hc
 have HN:=hid fun(w:World)=>show CallsIn FF 0 prog 32 #[.agg #[int i64 a,int i64 z],int i64 1,int i64 b.dY] w fun e w'=>e=.returned (.bool true)∧Below w.heap.size w w' from by
  have:=sM a z 1 b.dY w
  rwa[hf] at this
 have HK:=hid fun lb A n p Bc Bg B w h hA hc hg hB=>EZ 79 lb 61 #[.pointer (some ⟨Bc,0,none⟩),.pointer (some ⟨Bg,0,none⟩),.pointer (some ⟨B,0,none⟩)] (fun h=>kN b h gd a z b.nm) (aB b (ak b)) w h (YF b ok A n p gd a z _ hx Bc Bg B w hA hc hg hB)
 have HA:=hid h
 have HC:=hid fun A w (h:pQ b A w)=>h.at_
 obtain⟨n,hn⟩:∃n,n=(ak b).length:=zE
 obtain⟨xs,hxs⟩:∃xs,xs=aB b (ak b):=zE
 rw[← hn] at HO HH
 rw[← hxs] at HH HK⊢
 obtain⟨⟨R1,R2,R3⟩,hR⟩:∃R,R=bK (fun h=>kN b h gd a z b.nm) xs:=zE
 rw[← hR] at HK⊢
 obtain⟨R4,TN⟩:∃R4:Int,R4=if (R1,R2,R3).2.2=true then 0 else 9:=zE
 rw[← TN] at HK⊢
 clear hn hxs h hcap hl ok hR TN hgd hx hf
 obtain⟨dY,mO,gA,ng,gc,g,mA,nm,mc,m,cA,nc,cc,c⟩:=b
 simp only[Bk.val,Bk.cells,aA] at HO HH HK HN⊢
 obtain⟨w1,hw1⟩:∃w1,w1=((w.alloc (.cells #[int i64 dY,int i64 mO,.slice gA ng gc,.slice mA nm mc,.slice cA nc cc] 26)).alloc (.cells #[int i64 gd] 3)).alloc (.cells #[int i64 0,int i64 0] 28):=zE
 have B1:Hid (Below w.heap.size w w1):=hid (by rw[hw1];exact bw)
 have G1:Hid (Whole w1 (w.heap.size+1) 3 #[int i64 gd]):=hid (by rw[hw1];exact(aL zs).alloc _)
 have Z1:Hid (Whole w1 (w.heap.size+1+1) 28 #[int i64 0,int i64 0]):=hid (by rw[hw1];exact aL zs)
 have hs1:w1.heap.size=w.heap.size+3:=by rw[hw1];simp
 have ku:=hid hw1
 clear hw1
 gi_enter func22,ntmps22
 gi_wp2_with (first
  | (gi_at_call 50;rw[← ku.out];refine(HO.out _ (HA.out.up B1.out)).mono ?_;rintro e w2 ⟨A,p,rfl,hc2,hb2⟩;have X2:=(Whole.new w2 75 #[int i64 dY,int i64 mO,.slice gA ng gc,.slice mA nm mc,.slice cA nc cc,.slice A n p]).alloc (.cells #[int i64 a,int i64 z] 28);have Z2:=((Z1.out.below hb2 Z1.out.lt).alloc (.cells #[int i64 dY,int i64 mO,.slice gA ng gc,.slice mA nm mc,.slice cA nc cc,.slice A n p] 75)).alloc (.cells #[int i64 a,int i64 z] 28);have G2:=((G1.out.below hb2 G1.out.lt).alloc (.cells #[int i64 dY,int i64 mO,.slice gA ng gc,.slice mA nm mc,.slice cA nc cc,.slice A n p] 75)).alloc (.cells #[int i64 a,int i64 z] 28);have S2:Whole ((w2.alloc (.cells #[int i64 dY,int i64 mO,.slice gA ng gc,.slice mA nm mc,.slice cA nc cc,.slice A n p] 75)).alloc (.cells #[int i64 a,int i64 z] 28)) (w2.heap.size+1) 28 #[int i64 a,int i64 z]:=aL zs;have hs2:=hb2.size)
  | (gi_at_call 32;refine(HN.out _).mono ?_;rintro e w3 ⟨rfl,hb3⟩;have X3:=X2.below hb3 X2.lt;have x0:w3.cell? ⟨w2.heap.size,0,none⟩=some (int i64 dY):=X3.cell 0;have x1:w3.cell? ⟨w2.heap.size,1,none⟩=some (int i64 mO):=X3.cell 1;have x2:w3.cell? ⟨w2.heap.size,2,none⟩=some (.slice gA ng gc):=X3.cell 2;have x3:w3.cell? ⟨w2.heap.size,3,none⟩=some (.slice mA nm mc):=X3.cell 3;have x4:w3.cell? ⟨w2.heap.size,4,none⟩=some (.slice cA nc cc):=X3.cell 4;have x5:w3.cell? ⟨w2.heap.size,5,none⟩=some (.slice A n p):=X3.cell 5)
  | (gi_at_call 39;refine(HH.out A p _ ((hc2.below (bw)).below hb3)).mono ?_;rintro e w4 ⟨lb,rfl,hs4,hb4⟩)
  | (gi_at_call 60;have TU:=hb3.trans (hb4.mono hb3.size);refine(HK.out lb A n p _ _ _ _ hs4 (((HC.out A _ (hc2.below (bw))).up hb3).up hb4) (X2.below TU X2.lt) (G2.below TU G2.lt) (S2.below TU S2.lt)).mono ?_;rintro e w5 ⟨rfl,hb5⟩;have He:=TU.trans (hb5.mono TU.size);have Z5:=Z2.below He Z2.lt;have z0:w5.cell? ⟨w.heap.size+1+1,0,none⟩=some (int i64 0):=Z5.cell 0;have z1:w5.cell? ⟨w.heap.size+1+1,1,none⟩=some (int i64 0):=Z5.cell 1;have zf:=Z5.thaw))
 have U:=(Z5.set 0 (int i64 R1)).set 1 (int i64 R2)
 have u0:=U.cell 0
 have u1:=U.cell 1
 refine bodyPost_ret (v:=.tuple #[.agg #[int i64 R1,int i64 R2],int i64 R4]) (by simp[results,results22,go_sem,u0,u1]) rfl ⟨rfl,?_⟩
 exact((Below.next (Below.al (Below.al (Below.next B1.out hb2) _) _) He).setCell zm _).setCell zm _
theorem Qg(q:Good)(m:Int)(w:World)(hp:1≤q.pack):CallsIn FF 0 prog 94 #[Cy q,int i64 m] w fun e w'=>e=.returned (int i64 (max 0 (wrap64 ((wrap64 (wrap64 (m+q.pack) - 1)).tdiv q.pack))))∧Below w.heap.size w w':=by
 obtain⟨nm,co,pk,lo,hi⟩:=q
 simp only[Cy] at hp⊢
 have h0:¬ pk=0:=zo
 gi_enter func94,ntmps94
 gi_wp2
 go_ret
 exact⟨rfl,bw⟩
def vN(b:Bk)(gd:Nat):Int × Int × Bool:=bK (fun h=>stk b h b.dY b.nm gd) (aB b (ak b))
def Vg(q:Good)(m:Int):Int:=max 0 (wrap64 ((wrap64 (wrap64 (m+q.pack) - 1)).tdiv q.pack))
def XH(b:Bk)(rt:Nat→Int)(d:Int)(k:Nat):Int:=Vg (b.g k) (IntKind.i64.wrap (IntKind.i64.wrap (rt k * d) - (vN b k).1))
def xE(b:Bk)(rt:Nat→Int)(d:Int)(k:Nat):List Int:=(List.range k).map (XH b rt d)
theorem OJ(b:Bk)(rt:Nat→Int)(d:Int)(k:Nat):xE b rt d (k+1)=xE b rt d k ++ [XH b rt d k]:=by unfold xE;rw[List.range_succ,List.map_append];rfl
theorem Tk(b:Bk)(rt:Nat→Int)(d:Int)(k:Nat):(xE b rt d k).length=k:=by simp[xE]
def xH(b:Bk)(rt:Nat→Int)(d:Int):Nat→Int
 | 0=>0
 | Nat.succ k=>wrap64 (xH b rt d k+wrap64 (wrap64 (XH b rt d k * (b.g k).pack) * (b.g k).cost))
theorem tU(b:Bk)(A:Option Addr)(p:Nat)(rA:Option Addr)(nr rc:Nat)(rt:Nat→Int)(d:Int)(w:World)(hc:pQ b A w)(ok:b.Ok)(hl:∀s∈ak b,dZ s)(hr:Ints w w.heap.size rA nr rt)(hnr:nr=b.ng)(hne:∀k,k<b.ng→(vN b k).2.2=true)(hpk:∀k,k<b.ng→1≤(b.g k).pack):
 CallsIn FF 0 prog 68 #[.agg (aA b A (ak b).length p),.slice rA nr rc,int i64 d] w fun e w'=>∃v,e=.returned (.tuple #[v,int i64 (xH b rt d b.ng),int i64 0])∧w'.ownsRow w.heap.size 3 1 v b.ng ((xE b rt d b.ng).map (int i64))∧Below w.heap.size w w':=by
 have hx:=jy b ok (ak b) hl
 have HH:=hid fun A p w hc=>rX b ok hl A p w hc
 have hg3:b.ng≤3:=ok.bX.1.2
 have HK:=hid fun lb A n p Bc B w k (hk:k<b.ng) h hA hc hB=>by
  have:=EZ 79 lb 93 #[.pointer (some ⟨Bc,0,none⟩),.pointer (some ⟨B,0,none⟩)] (fun h=>stk b h b.dY b.nm k) (aB b (ak b)) w h (iu b ok A n p k zo _ hx Bc B w hA hc hB)
  change CallsIn _ _ _ _ _ _ fun e w'=>e=.returned (.tuple #[.agg #[int i64 (vN b k).1,int i64 (vN b k).2.1],int i64 (if (vN b k).2.2 then 0 else 9)])∧_ at this
  rw[hne k hk] at this
  exact this
 have HP:=hid fun k m (w:World) (hk:k<b.ng)=>show CallsIn FF 0 prog 94 #[Cy (b.g k),int i64 m] w fun e w'=>e=.returned (int i64 (Vg (b.g k) m))∧Below w.heap.size w w' from Qg (b.g k) m w (hpk k hk)
 have HC:=hid hc
 have fx:=hid fun A w (h:pQ b A w)=>h.at_
 have sE:=hid fun A (w w':World) (h:pQ b A w) (hb:Below w.heap.size w w')=>h.below hb
 have HR:=hid hr
 obtain⟨n,hn⟩:∃n,n=(ak b).length:=zE
 obtain⟨xs,hxs⟩:∃xs,xs=aB b (ak b):=zE
 rw[← hn] at HH⊢
 rw[← hxs] at HH HK
 obtain⟨SG,QQ⟩:∃SG,SG=vN b:=zE
 obtain⟨BM,qT⟩:∃BM,BM=XH b rt d:=zE
 obtain⟨BL,hBL⟩:∃BL,BL=xE b rt d:=zE
 obtain⟨CN,ki⟩:∃CN,CN=xH b rt d:=zE
 have HBM:Hid (∀k,BM k=Vg (b.g k) (IntKind.i64.wrap (IntKind.i64.wrap (rt k * d) - (SG k).1))):=hid fun k=>by rw[qT,QQ];rfl
 have Kd:Hid (BL 0=[]):=hid (by rw[hBL];rfl)
 have Kp:Hid (∀k,BL (k+1)=BL k ++ [BM k]):=hid fun k=>by rw[hBL,qT];exact OJ b rt d k
 have Kf:Hid (∀k,(BL k).length=k):=hid fun k=>by rw[hBL];exact Tk b rt d k
 have Ln:Hid (CN 0=0):=hid (by rw[ki];rfl)
 have sC:Hid (∀k,CN (k+1)=wrap64 (CN k+wrap64 (wrap64 (BM k * (b.g k).pack) * (b.g k).cost))):=hid fun k=>by rw[ki,qT];rfl
 rw[← QQ] at HK
 rw[← hBL,← ki]
 obtain⟨i0,hi,hz0,hz1,hz2⟩:=info_parts info3
 have hi0:=hid hi
 clear hi hn hxs hc hl ok hpk hx hr hne QQ qT hBL ki
 subst hnr
 obtain⟨dY,mO,gA,ng,gc,g,mA,nm,mc,m,cA,nc,cc,c⟩:=b
 simp only[aA,Cy] at HH HK HP HBM sC hg3 HR⊢
 obtain⟨w1,hw1⟩:∃w1,w1=w.alloc (.cells #[int i64 dY,int i64 mO,.slice gA ng gc,.slice mA nm mc,.slice cA nc cc,.slice A n p] 75):=zE
 have B1:Hid (Below w.heap.size w w1):=hid (by rw[hw1];exact bw)
 have X1:Hid (Whole w1 w.heap.size 75 #[int i64 dY,int i64 mO,.slice gA ng gc,.slice mA nm mc,.slice cA nc cc,.slice A n p]):=hid (by rw[hw1];exact Whole.new _ _ _)
 have hs1:w1.heap.size=w.heap.size+1:=by rw[hw1];simp
 have ku:=hid hw1
 clear hw1
 gi_enter func68,ntmps68
 gi_wp2
 rw[← ku.out]
 clear ku
 gi_loopw [6,7,19] (fun l u i wr=>∃k:Nat,k≤ng∧i=int i64 k∧u=int i64 (CN k)∧Hid (wr.ownsRow (w.heap.size+1) 3 1 l k ((BL k).map (int i64))∧Below (w.heap.size+1) w1 wr)) (fun _ _ i _=>ng - (intOf i).toNat)
 case atStart=>exact⟨0,Nat.zero_le _,rfl,by rw[Ln.out],hid ⟨by rw[Kd.out];exact pq _ (w.heap.size+1) 3,zB⟩⟩
 case round=>
  obtain⟨k,hk,rfl,rfl,hT⟩:=hrel
  obtain⟨A9,n9,p9,rfl⟩:=iq hT.out.1
  obtain⟨wo,rfl⟩:∃wo:World,wo=wr:=zE
  have hso:w.heap.size+1≤wo.heap.size:=by have:=hT.out.2.size;omega
  have BO:Hid (Below w.heap.size w wo):=hid (B1.out.trans (hT.out.2.mono zo))
  by_cases hlt:k<ng
  ·obtain⟨ad,hA',hbl,-⟩:=(fx.out A w HC.out).g (show 0<ng by omega)
   simp only at hA'
   subst hA'
   obtain⟨gk,EB⟩:∃gk,gk=g k:=zE
   have hr:∀j,j<5→wo.cell? ((ad.add (k * 5)).add j)=some (gk.cell j):=fun j hj=>by rw[EB];exact(((fx.out (A) w HC.out).g.below BO.out)).row hlt |>.2 j hj
   have GS:=HBM.out k
   have uA:=sC.out k
   have Hd:=fun m w=>HP.out k m w hlt
   have P3:=fun lb n p Bc B w'=>HK.out lb A n p Bc B w' k hlt
   have P2:=Kp.out k
   rw[← EB] at GS uA Hd
   obtain⟨NA,co,pk,lo,hi⟩:=gk
   have c0:wo.cell? (ad.add (k * 5))=some (.string NA):=hr 0 zD
   have c1:wo.cell? ⟨(ad.add (k * 5)).block,(ad.add (k * 5)).off+1,none⟩=some (int i64 co):=hr 1 zD
   have c2:wo.cell? ⟨(ad.add (k * 5)).block,(ad.add (k * 5)).off+2,none⟩=some (int i64 pk):=hr 2 zD
   have c3:wo.cell? ⟨(ad.add (k * 5)).block,(ad.add (k * 5)).off+3,none⟩=some (int i64 lo):=hr 3 zD
   have c4:wo.cell? ⟨(ad.add (k * 5)).block,(ad.add (k * 5)).off+4,none⟩=some (int i64 hi):=hr 4 zD
   obtain⟨R1,rf⟩:∃R1,R1=(SG k).1:=zE
   obtain⟨R2,hR2⟩:∃R2,R2=(SG k).2.1:=zE
   obtain⟨M,hM⟩:∃M,M=BM k:=zE
   obtain⟨rk,lk⟩:∃rk,rk=rt k:=zE
   rw[← rf,← hR2] at P3
   rw[← rf,← hM,← lk] at GS
   rw[← hM] at uA P2
   simp only at uA Hd
   have HCk:=hid uA
   have HBs:=hid P2
   have HPk:=hid fun w=>by have:=Hd (IntKind.i64.wrap (IntKind.i64.wrap (rk * d) - R1)) w;rw[← GS] at this;exact this
   have HKk:=hid P3
   obtain⟨ra,hra,hrb,-⟩:=HR.out (show 0<ng by omega)
   subst hra
   have rr:wo.cell? (ra.add k)=some (int i64 rk):=by
    rw[lk]
    exact(BO.out.cell (by rw[aH];exact hrb)).trans (HR.out.at_ hlt)
   clear hr EB uA P2 Hd P3 rf hR2 hM GS lk
   obtain⟨w2,hw2⟩:∃w2,w2=(wo.alloc (.cells #[int i64 k] 3)).alloc (.cells #[.string NA,int i64 co,int i64 pk,int i64 lo,int i64 hi] 83):=zE
   have B2:Hid (Below wo.heap.size wo w2):=hid (by rw[hw2];exact bw)
   have K2:Hid (Whole w2 wo.heap.size 3 #[int i64 k]):=hid (by rw[hw2];exact(Whole.new _ _ _).alloc _)
   have G2:Hid (Whole w2 (wo.heap.size+1) 83 #[.string NA,int i64 co,int i64 pk,int i64 lo,int i64 hi]):=hid (by rw[hw2];exact aL zs)
   have X2:=hid ((X1.out.below hT.out.2 zo).below B2.out zo)
   have x0:w2.cell? ⟨w.heap.size,0,none⟩=some (int i64 dY):=X2.out.cell 0
   have x1:w2.cell? ⟨w.heap.size,1,none⟩=some (int i64 mO):=X2.out.cell 1
   have x2:w2.cell? ⟨w.heap.size,2,none⟩=some (.slice (some ad) ng gc):=X2.out.cell 2
   have x3:w2.cell? ⟨w.heap.size,3,none⟩=some (.slice mA nm mc):=X2.out.cell 3
   have x4:w2.cell? ⟨w.heap.size,4,none⟩=some (.slice cA nc cc):=X2.out.cell 4
   have x5:w2.cell? ⟨w.heap.size,5,none⟩=some (.slice A n p):=X2.out.cell 5
   have BW2:Hid (Below w.heap.size w w2):=hid (Below.next BO.out B2.out)
   have C2:=hid (sE.out A w w2 HC.out BW2.out)
   rw[hw2] at x0 x1 x2 x3 x4 x5
   have FQ:=hid hw2
   clear hw2
   gi_wp2_with (first
    | (gi_at_call 39;rw[← FQ.out];refine(HH.out A p _ C2.out).mono ?_;rintro e w4 ⟨lb,rfl,hs4,hb4⟩;have aaO:=hb4.size)
    | (gi_at_call 60;refine(HKk.out lb n p _ _ _ hs4 (fx.out A _ (sE.out A w2 w4 C2.out hb4)) (X2.out.below hb4 X2.out.lt) (K2.out.below hb4 K2.out.lt)).mono ?_;rintro e w5 ⟨rfl,hb5⟩))
   have kn:=hb4.trans (hb5.mono hb4.size)
   obtain⟨w7,hw7⟩:∃w7,w7=w5.alloc (.cells #[int i64 R1,int i64 R2] 28):=zE
   have B7:Hid (Below w2.heap.size w2 w7):=hid (by rw[hw7];exact kn.alloc kn.size _)
   have S7:Hid (Whole w7 w5.heap.size 28 #[int i64 R1,int i64 R2]):=hid (by rw[hw7];exact Whole.new _ _ _)
   have K7:=hid (K2.out.below B7.out K2.out.lt)
   have G7:=hid (G2.out.below B7.out G2.out.lt)
   have BO7:Hid (Below wo.heap.size wo w7):=hid (Below.next B2.out B7.out)
   have hwo:w.heap.size≤wo.heap.size:=zo
   have rr7:w7.cell? (ra.add k)=some (int i64 rk):=(BO7.out.cell (by rw[aH];omega)).trans rr
   rw[← hw7]
   clear hw7
   have qk:∀d os,(grow (redrawn w7 d) os).cell? ⟨wo.heap.size,0,none⟩=some (int i64 k):=cell_regrown (K7.out.cell 0)
   have qg0:∀d os,(grow (redrawn w7 d) os).cell? ⟨wo.heap.size+1,0,none⟩=some (.string NA):=cell_regrown (G7.out.cell 0)
   have qg1:∀d os,(grow (redrawn w7 d) os).cell? ⟨wo.heap.size+1,1,none⟩=some (int i64 co):=cell_regrown (G7.out.cell 1)
   have qg2:∀d os,(grow (redrawn w7 d) os).cell? ⟨wo.heap.size+1,2,none⟩=some (int i64 pk):=cell_regrown (G7.out.cell 2)
   have qg3:∀d os,(grow (redrawn w7 d) os).cell? ⟨wo.heap.size+1,3,none⟩=some (int i64 lo):=cell_regrown (G7.out.cell 3)
   have qg4:∀d os,(grow (redrawn w7 d) os).cell? ⟨wo.heap.size+1,4,none⟩=some (int i64 hi):=cell_regrown (G7.out.cell 4)
   have qs:∀d os,(grow (redrawn w7 d) os).cell? ⟨w5.heap.size,0,none⟩=some (int i64 R1):=cell_regrown (S7.out.cell 0)
   have qr:∀d os,(grow (redrawn w7 d) os).cell? (ra.add k)=some (int i64 rk):=cell_regrown rr7
   have cP:∀dd os,CallsIn FF 0 prog 94 #[.agg #[.string NA,int i64 co,int i64 pk,int i64 lo,int i64 hi],int i64 (IntKind.i64.wrap (IntKind.i64.wrap (rk * d) - R1))] (grow (redrawn w7 dd) os) fun e w''=>e=.returned (int i64 M)∧∃p:Regrown,w''=grow (redrawn w7 p.d) p.os:=fun dd os=>CallsIn.regrown_of (HPk.out _)
   refine wpIn_region_quiet_below rfl zk zk ?_
   repeat (quiet_step_in (exact cP _ _))
   refine wpQuietIn_nil ?_
   rintro w' ⟨⟨dq,osq⟩,rfl⟩
   have bg:=below_regrown w7 dq osq
   clear qk qg0 qg1 qg2 qg3 qg4 qs qr cP
   generalize grow (redrawn w7 dq) osq=w9 at bg⊢
   have IT:Hid (Below wo.heap.size wo w9):=hid (Below.next BO7.out bg)
   have G9:=hid (G7.out.below bg G7.out.lt)
   have Ho:=hid (own_below hT.out.1 IT.out)
   have HT1:=hid hT.out.1
   have Ty:=IT.out.size
   have hk3:k≤3:=zo
   have hBn:=Kf.out k
   clear bg rr7 kn hb4 hb5 hs4 rr c0 c1 c2 c3 c4
   gi_wp2_with (gi_at_builtin;refine aD rfl rfl rfl fun K5 iH=>?_;refine wp_append_lies _ _ _ _ rfl (w.heap.size+1) 3 i0 _ 1 8 underlying51 hi0.out hz0 hz1 hz2 rfl zo (.slice A9 n9 p9) k _ rfl (bD Ho.out _) ⟨w9.heap.size,0,none⟩ 1 1 [_] rfl rfl (World.news_of_block (heap_alloc_new w9 _)) (by simp[Value.oneCell']) zo zU zo zm (w9.heap.size+1) zs ?_;intro jN gQ w10 hown5 aN kX mP;have GG:=(G9.out.alloc (.cells #[int i64 M] 3)).grown aN (fun e=>by have:=bL HT1.out e.symm;omega);have y0:w10.cell? ⟨wo.heap.size+1,0,none⟩=some (.string NA):=GG.cell 0;have y1:w10.cell? ⟨wo.heap.size+1,1,none⟩=some (int i64 co):=GG.cell 1;have y2:w10.cell? ⟨wo.heap.size+1,2,none⟩=some (int i64 pk):=GG.cell 2;have y3:w10.cell? ⟨wo.heap.size+1,3,none⟩=some (int i64 lo):=GG.cell 3;have y4:w10.cell? ⟨wo.heap.size+1,4,none⟩=some (int i64 hi):=GG.cell 4;refine iH _ _ ?_;clear iH K5)
   exact⟨⟨k+1,hlt,by push_cast;rfl,by rw[HCk.out],hid ⟨by rw[HBs.out,List.map_append];exact hown5,(((hT.out.2.trans (IT.out.mono zo)).alloc zo _).trans (below_grown aN zm (fun g hg=>(bL HT1.out hg).1)))⟩⟩,by simp[intOf];omega⟩
  ·obtain rfl:k=ng:=zo
   gi_wp2
   go_ret3
   exact⟨_,rfl,dh hT.out.1 (Nat.le_succ _),BO.out⟩
theorem QB(b:Bk)(rA:Option Addr)(nr rc:Nat)(rt:Nat→Int)(d:Int)(w:World)(h:b.At w w.heap.size)(ok:b.Ok)(hcap:b.ng≤b.gc)(hl:∀s∈ak b,dZ s)(hr:Ints w w.heap.size rA nr rt)(hnr:nr=b.ng)(hne:∀k,k<b.ng→(vN b k).2.2=true)(hpk:∀k,k<b.ng→1≤(b.g k).pack)(hrt:∀i,i<nr→0≤rt i∧rt i≤99)(hd:0≤d∧d≤99):
 CallsIn FF 0 prog 25 #[b.val,.slice rA nr rc,int i64 d] w fun e w'=>∃v,e=.returned (.tuple #[v,int i64 (xH b rt d b.ng),int i64 0])∧w'.ownsRow w.heap.size 3 1 v b.ng ((xE b rt d b.ng).map (int i64))∧Below w.heap.size w w':=by
 have HO:=hid fun w h=>mU b w h ok hcap
 have HB:=hid fun A p w hc hr=>tU b A p rA nr rc rt d w hc ok hl hr hnr hne hpk
 have HE:=hid fun(w:World) (hI:Ints w w.heap.size rA nr rt)=>show CallsIn FF 0 prog 67 #[.slice rA nr rc,int i64 b.ng,int i64 99] w fun e w'=>e=.returned (int i64 0)∧Below w.heap.size w w' from by
  have:=Kw rt rA nr rc 99 w hI (by unfold maxLen;have:=ok.bX.1.2;omega) hrt
  rwa[hnr] at this⊢
 have HN:=hid fun(w:World)=>show CallsIn FF 0 prog 65 #[int i64 d,int i64 0,int i64 99] w fun e w'=>e=.returned (.bool true)∧w=w' from by
  have:=dn d 0 99 w
  have e:gK d 0 99=true:=by unfold gK;simp;omega
  rwa[e] at this
 have HR:=hid fun(w':World) (hb:Below w.heap.size w w')=>show Ints w' w'.heap.size rA nr rt from(Rows.below hr hb).more hb.size
 have HA:=hid h
 obtain⟨n,hn⟩:∃n,n=(ak b).length:=zE
 rw[← hn] at HO HB
 obtain⟨BL,hBL⟩:∃BL,BL=xE b rt d b.ng:=zE
 obtain⟨CN,ki⟩:∃CN,CN=xH b rt d b.ng:=zE
 rw[← hBL,← ki] at HB⊢
 clear hn h hcap hl ok hBL ki hr hne hpk hrt hd hnr
 obtain⟨dY,mO,gA,ng,gc,g,mA,nm,mc,m,cA,nc,cc,c⟩:=b
 simp only[Bk.val,Bk.cells,aA] at HO HB HE⊢
 gi_enter func25,ntmps25
 gi_wp2_with (first
  | (gi_at_call 37;refine(HO.out _ (HA.out.up (bw))).mono ?_;rintro e w2 ⟨A,p,rfl,hc2,hb2,-⟩;have KO:Hid (Below w.heap.size w (w2.alloc (.cells #[int i64 dY,int i64 mO,.slice gA ng gc,.slice mA nm mc,.slice cA nc cc,.slice A n p] 75))):=hid (Below.al (Below.next (show Below w.heap.size w (w.alloc (.cells #[int i64 dY,int i64 mO,.slice gA ng gc,.slice mA nm mc,.slice cA nc cc] 26)) from bw) hb2) _))
  | (gi_at_call 67;refine(HE.out _ (HR.out _ KO.out)).mono ?_;rintro e w3 ⟨rfl,hb3⟩;have X3:Whole w3 w2.heap.size 75 #[int i64 dY,int i64 mO,.slice gA ng gc,.slice mA nm mc,.slice cA nc cc,.slice A n p]:=(Whole.new w2 _ _).below hb3 zs;have x0:w3.cell? ⟨w2.heap.size,0,none⟩=some (int i64 dY):=X3.cell 0;have x1:w3.cell? ⟨w2.heap.size,1,none⟩=some (int i64 mO):=X3.cell 1;have x2:w3.cell? ⟨w2.heap.size,2,none⟩=some (.slice gA ng gc):=X3.cell 2;have x3:w3.cell? ⟨w2.heap.size,3,none⟩=some (.slice mA nm mc):=X3.cell 3;have x4:w3.cell? ⟨w2.heap.size,4,none⟩=some (.slice cA nc cc):=X3.cell 4;have x5:w3.cell? ⟨w2.heap.size,5,none⟩=some (.slice A n p):=X3.cell 5)
  | (gi_at_call 65;refine(HN.out _).mono ?_;rintro e w4 ⟨rfl,rfl⟩)
  | (gi_at_call 68;refine(HB.out A p _ ((hc2.below (bw)).below hb3) (HR.out _ (Below.next KO.out hb3))).mono ?_;rintro e w5 ⟨v,rfl,hv,hb5⟩))
 go_ret3
 exact⟨v,rfl,dh hv (by have:=KO.out.size;have:=hb3.size;omega),Below.next (Below.next KO.out hb3) hb5⟩
end
section
open Go.RowKit
theorem jg(b:Bk)(ok:b.Ok):∀s∈ak b,dZ s:=fun s hs=>by
 have:=List.mem_range.1 (List.mem_filter.1 hs).1
 exact Nat.lt_of_lt_of_le this (Nat.le_trans (Nat.pow_le_pow_right zD ok.moves.1) zD)
end
section
open Go.RowKit
attribute [local go_sem] Oper.semAt_some
def Az:Value:=.agg #[int i64 0,int i64 0,.slice none 0 0,.slice none 0 0,.slice none 0 0]
theorem ED(b:Bk)(ok:b.Ok)(hcap:b.ng≤b.gc)(w:World)(h:b.At w w.heap.size):CallsIn FF 0 prog 35 #[b.val] w fun e w'=>e=.returned (.tuple #[if (aB b (ak b)).isEmpty=true then Az else b.val,int i64 (if (aB b (ak b)).isEmpty=true then 9 else 0)])∧Below w.heap.size w w':=by
 have HO:=hid fun w h=>mU b w h ok hcap
 have HH:=hid fun A p w hc=>rX b ok (jg b ok) A p w hc
 have HY:=hid fun lb (w:World) h=>SX (p:=FF.fn) 79 lb (aB b (ak b)) w h
 have HA:=hid h
 obtain⟨n,hn⟩:∃n,n=(ak b).length:=zE
 obtain⟨xs,hxs⟩:∃xs,xs=aB b (ak b):=zE
 rw[← hn] at HO HH
 rw[← hxs] at HH HY⊢
 have HY:Hid (∀lb (w:World),pW FF 79 lb xs w→CallsIn FF 0 prog 77 #[.func (.func 79) #[] lb] w fun e w'=>e=.returned (.bool (!xs.isEmpty))∧Below w.heap.size w w'):=hid fun lb w h=>HY.out lb w h
 obtain⟨t,ht⟩:∃t,t=xs.isEmpty:=zE
 rw[← ht] at HY⊢
 clear hn hxs ht h hcap ok
 obtain⟨dY,mO,gA,ng,gc,g,mA,nm,mc,m,cA,nc,cc,c⟩:=b
 simp only[Bk.val,Bk.cells,aA,Az] at HO HH⊢
 obtain⟨w1,hw1⟩:∃w1,w1=(w.alloc (.cells #[int i64 dY,int i64 mO,.slice gA ng gc,.slice mA nm mc,.slice cA nc cc] 26)).alloc (.cells #[int i64 0,int i64 0,.slice none 0 0,.slice none 0 0,.slice none 0 0] 26):=zE
 have B1:Hid (Below w.heap.size w w1):=hid (by rw[hw1];exact bw)
 have X1:Hid (Whole w1 w.heap.size 26 #[int i64 dY,int i64 mO,.slice gA ng gc,.slice mA nm mc,.slice cA nc cc]):=hid (by rw[hw1];exact(Whole.new _ _ _).alloc _)
 have Z1:Hid (Whole w1 (w.heap.size+1) 26 #[int i64 0,int i64 0,.slice none 0 0,.slice none 0 0,.slice none 0 0]):=hid (by rw[hw1];exact aL zs)
 have ku:=hid hw1
 clear hw1
 cases t
 rotate_left 1
 ·gi_enter func35,ntmps35
  gi_wp2_with (first
   | (gi_at_call 37;rw[← ku.out];refine(HO.out _ (HA.out.up B1.out)).mono ?_;rintro e w2 ⟨A,p,rfl,hc2,hb2,-⟩;have X2:=(X1.out.below hb2 X1.out.lt).alloc (.cells #[int i64 dY,int i64 mO,.slice gA ng gc,.slice mA nm mc,.slice cA nc cc,.slice A n p] 75);have Z2:=(Z1.out.below hb2 Z1.out.lt).alloc (.cells #[int i64 dY,int i64 mO,.slice gA ng gc,.slice mA nm mc,.slice cA nc cc,.slice A n p] 75))
   | (gi_at_call 39;refine(HH.out A p _ (hc2.below (bw))).mono ?_;rintro e w4 ⟨lb,rfl,hs4,hb4⟩)
   | (gi_at_call 77;refine(HY.out lb _ hs4).mono ?_;rintro e w5 ⟨rfl,hb5⟩;have wh:=hb4.trans (hb5.mono hb4.size);have Z5:=Z2.below wh Z2.lt;have X5:=X2.below wh X2.lt;have z0:w5.cell? ⟨w.heap.size+1,0,none⟩=some (int i64 0):=Z5.cell 0;have z1:w5.cell? ⟨w.heap.size+1,1,none⟩=some (int i64 0):=Z5.cell 1;have z2:w5.cell? ⟨w.heap.size+1,2,none⟩=some (.slice none 0 0):=Z5.cell 2;have z3:w5.cell? ⟨w.heap.size+1,3,none⟩=some (.slice none 0 0):=Z5.cell 3;have z4:w5.cell? ⟨w.heap.size+1,4,none⟩=some (.slice none 0 0):=Z5.cell 4;have zf:=Z5.thaw;have x5:∀o,w5.cell? ⟨w.heap.size,o,none⟩=(#[int i64 dY,int i64 mO,.slice gA ng gc,.slice mA nm mc,.slice cA nc cc]:Array Value)[o]?:=fun o=>X5.cell o))
  have u:=(Z5.rz (int i64 0) (int i64 0) (.slice none 0 0) (.slice none 0 0) (.slice none 0 0)).cell
  refine bodyPost_ret (v:=.tuple #[.agg #[int i64 0,int i64 0,.slice none 0 0,.slice none 0 0,.slice none 0 0],int i64 9]) (by simp[results,results35,go_sem,u]) rfl ⟨rfl,?_⟩
  exact Below.rz (Below.next (Below.next (Below.al (Below.next B1.out hb2) _) hb4) hb5) zo _ _ _ _ _
 ·gi_enter func35,ntmps35
  gi_wp2_with (first
   | (gi_at_call 37;rw[← ku.out];refine(HO.out _ (HA.out.up B1.out)).mono ?_;rintro e w2 ⟨A,p,rfl,hc2,hb2,-⟩;have X2:=(X1.out.below hb2 X1.out.lt).alloc (.cells #[int i64 dY,int i64 mO,.slice gA ng gc,.slice mA nm mc,.slice cA nc cc,.slice A n p] 75);have Z2:=(Z1.out.below hb2 Z1.out.lt).alloc (.cells #[int i64 dY,int i64 mO,.slice gA ng gc,.slice mA nm mc,.slice cA nc cc,.slice A n p] 75))
   | (gi_at_call 39;refine(HH.out A p _ (hc2.below (bw))).mono ?_;rintro e w4 ⟨lb,rfl,hs4,hb4⟩)
   | (gi_at_call 77;refine(HY.out lb _ hs4).mono ?_;rintro e w5 ⟨rfl,hb5⟩;have wh:=hb4.trans (hb5.mono hb4.size);have Z5:=Z2.below wh Z2.lt;have X5:=X2.below wh X2.lt;have z0:w5.cell? ⟨w.heap.size+1,0,none⟩=some (int i64 0):=Z5.cell 0;have z1:w5.cell? ⟨w.heap.size+1,1,none⟩=some (int i64 0):=Z5.cell 1;have z2:w5.cell? ⟨w.heap.size+1,2,none⟩=some (.slice none 0 0):=Z5.cell 2;have z3:w5.cell? ⟨w.heap.size+1,3,none⟩=some (.slice none 0 0):=Z5.cell 3;have z4:w5.cell? ⟨w.heap.size+1,4,none⟩=some (.slice none 0 0):=Z5.cell 4;have zf:=Z5.thaw;have x5:∀o,w5.cell? ⟨w.heap.size,o,none⟩=(#[int i64 dY,int i64 mO,.slice gA ng gc,.slice mA nm mc,.slice cA nc cc]:Array Value)[o]?:=fun o=>X5.cell o))
  have u:=(Z5.rz (int i64 dY) (int i64 mO) (.slice gA ng gc) (.slice mA nm mc) (.slice cA nc cc)).cell
  refine bodyPost_ret (v:=.tuple #[.agg #[int i64 dY,int i64 mO,.slice gA ng gc,.slice mA nm mc,.slice cA nc cc],int i64 0]) (by simp[results,results35,go_sem,u]) rfl ⟨rfl,?_⟩
  exact Below.rz (Below.next (Below.next (Below.al (Below.next B1.out hb2) _) hb4) hb5) zo _ _ _ _ _
theorem Kt(b:Bk)(w:World)(h:b.At w w.heap.size)(wm:b.ng≤6)(hnm:b.nm≤6)(hnc:b.nc≤6):CallsIn FF 0 prog 34 #[b.val] w fun e w'=>∃G kW M oU C nL,e=.returned (.agg #[int i64 b.dY,int i64 b.mO,.slice G b.ng kW,.slice M b.nm oU,.slice C b.nc nL])∧
 w'.ownsRow w.heap.size 83 5 (.slice G b.ng kW) b.ng (dK 5 (fun i=>(b.g i).cell) b.ng)∧w'.ownsRow w.heap.size 39 5 (.slice M b.nm oU) b.nm (dK 5 (fun i=>(b.m i).cell) b.nm)∧w'.ownsRow w.heap.size 45 4 (.slice C b.nc nL) b.nc (dK 4 (fun i=>(b.c i).cell) b.nc)∧
 (∀a,(Value.slice M b.nm oU).ownBlock=some a→(Value.slice G b.ng kW).ownBlock≠some a∧(Value.slice C b.nc nL).ownBlock≠some a)∧Below w.heap.size w w':=by
 have HA:=hid h
 clear h
 obtain⟨dY,mO,gA,ng,gc,g,mA,nm,mc,m,cA,nc,cc,c⟩:=b
 simp only[Bk.val,Bk.cells] at wm hnm hnc⊢
 have CG:=hid fun(w':World) (hb:Below w.heap.size w w')=>Gu g gA ng gc w' ((HA.out.g.below hb).more hb.size) wm
 have CM:=hid fun(w':World) (hb:Below w.heap.size w w')=>OW m mA nm mc w' ((HA.out.m.below hb).more hb.size) hnm
 have CC:=hid fun(w':World) (hb:Below w.heap.size w w')=>OV c cA nc cc w' ((HA.out.c.below hb).more hb.size) hnc
 clear HA
 obtain⟨w1,hw1⟩:∃w1,w1=(w.alloc (.cells #[int i64 dY,int i64 mO,.slice gA ng gc,.slice mA nm mc,.slice cA nc cc] 26)).alloc (.cells #[int i64 0,int i64 0,.slice none 0 0,.slice none 0 0,.slice none 0 0] 26):=zE
 have B1:Hid (Below w.heap.size w w1):=hid (by rw[hw1];exact bw)
 have hs1:w1.heap.size=w.heap.size+1+1:=by rw[hw1];simp
 have X1:Hid (Whole w1 w.heap.size 26 #[int i64 dY,int i64 mO,.slice gA ng gc,.slice mA nm mc,.slice cA nc cc]):=hid (by rw[hw1];exact(Whole.new _ _ _).alloc _)
 have Z1:Hid (Whole w1 (w.heap.size+1) 26 #[int i64 0,int i64 0,.slice none 0 0,.slice none 0 0,.slice none 0 0]):=hid (by rw[hw1];have:=Whole.new (w.alloc (.cells #[int i64 dY,int i64 mO,.slice gA ng gc,.slice mA nm mc,.slice cA nc cc] 26)) 26 #[int i64 0,int i64 0,.slice none 0 0,.slice none 0 0,.slice none 0 0];rw[World.size_alloc] at this;exact this)
 have ku:=hid hw1
 clear hw1
 have S1:=hid hs1
 clear hs1
 gi_enter func34,ntmps34
 gi_wp2_with (first
  | (gi_at_call 74;rw[← ku.out];refine(CG.out w1 B1.out).mono ?_;rintro e w2 ⟨G,kW,rfl,hoG,hb2⟩;have OG:=hid hoG;have pH:=hid hb2;have X2:=hid (X1.out.below hb2 X1.out.lt);have Z2:=hid (Z1.out.below hb2 Z1.out.lt);have x2:∀o,w2.cell? ⟨w.heap.size,o,none⟩=(#[int i64 dY,int i64 mO,.slice gA ng gc,.slice mA nm mc,.slice cA nc cc]:Array Value)[o]?:=fun o=>X2.out.cell o;have xf2:=X2.out.thaw 2;clear hoG hb2)
  | (gi_at_call 75;obtain⟨v2,hv2⟩:∃x,x=w2.setCell ⟨w.heap.size,2,none⟩ (.slice G ng kW):=zE;have sv2:v2.heap.size=w2.heap.size:=(by rw[hv2];simp);have Ps:Below w.heap.size w v2:=(by rw[hv2];exact(B1.out.trans (pH.out.mono (by have:=S1.out;omega))).setCell zs _);have Of:Whole v2 w.heap.size 26 #[int i64 dY,int i64 mO,.slice G ng kW,.slice mA nm mc,.slice cA nc cc]:=(by rw[hv2];exact X2.out.set 2 _);have OF:Whole v2 (w.heap.size+1) 26 #[int i64 0,int i64 0,.slice none 0 0,.slice none 0 0,.slice none 0 0]:=(by rw[hv2];exact Z2.out.other zs _);have gx:=(by rw[hv2];exact bS OG.out (by have:=S1.out;show w.heap.size<w1.heap.size;omega) _:v2.ownsRow w1.heap.size 83 5 (.slice G ng kW) ng (dK 5 (fun i=>(g i).cell) ng));rw[← hv2];have s2:=pH.out.size;refine(CM.out v2 Ps).mono ?_;rintro e w3 ⟨M,oU,rfl,hoM,hb3⟩;have OM:=hid hoM;have RB:=hid (Ps.trans (hb3.mono (by have:=S1.out;omega)));have X3:=hid (Of.below hb3 Of.lt);have Z3:=hid (OF.below hb3 OF.lt);have OG3:=hid (own_below gx hb3);have OGl:=hid (fun a (e:(Value.slice G ng kW).ownBlock=some a)=>(bL gx e).2);have H5:=hid (And.intro sv2 (And.intro s2 hb3.size));have x3:∀o,w3.cell? ⟨w.heap.size,o,none⟩=(#[int i64 dY,int i64 mO,.slice G ng kW,.slice mA nm mc,.slice cA nc cc]:Array Value)[o]?:=(fun o=>X3.out.cell o);have xf3:=X3.out.thaw 3;clear hoM hb3 Of OF gx hv2 Ps sv2 s2 x2 xf2)
  | (gi_at_call 76;obtain⟨v3,hv3⟩:∃x,x=w3.setCell ⟨w.heap.size,3,none⟩ (.slice M nm oU):=zE;have sv3:v3.heap.size=w3.heap.size:=(by rw[hv3];simp);have FG:Below w.heap.size w v3:=(by rw[hv3];exact RB.out.setCell zs _);have On:Whole v3 w.heap.size 26 #[int i64 dY,int i64 mO,.slice G ng kW,.slice M nm oU,.slice cA nc cc]:=(by rw[hv3];exact X3.out.set 3 _);have ON:Whole v3 (w.heap.size+1) 26 #[int i64 0,int i64 0,.slice none 0 0,.slice none 0 0,.slice none 0 0]:=(by rw[hv3];exact Z3.out.other zs _);have tA:=(by rw[hv3];exact bS OG3.out (by have:=S1.out;show w.heap.size<w1.heap.size;omega) _:v3.ownsRow w1.heap.size 83 5 (.slice G ng kW) ng (dK 5 (fun i=>(g i).cell) ng));have gz:=(by rw[hv3];exact bS OM.out (by have:=S1.out;have:=H5.out;show w.heap.size<v2.heap.size;omega) _:v3.ownsRow v2.heap.size 39 5 (.slice M nm oU) nm (dK 5 (fun i=>(m i).cell) nm));rw[← hv3];refine(CC.out v3 FG).mono ?_;rintro e w4 ⟨C,nL,rfl,hoC,hb4⟩;have OC:=hid hoC;have rS:=hid (FG.trans (hb4.mono (by have:=FG.size;omega)));have X4:=hid (On.below hb4 On.lt);have Z4:=hid (ON.below hb4 ON.lt);have OG4:=hid (own_below tA hb4);have OM4:=hid (own_below gz hb4);have OMl:=hid (fun a (e:(Value.slice M nm oU).ownBlock=some a)=>(bL gz e));have sz4:=hid (And.intro sv3 hb4.size);have x4:∀o,w4.cell? ⟨w.heap.size,o,none⟩=(#[int i64 dY,int i64 mO,.slice G ng kW,.slice M nm oU,.slice cA nc cc]:Array Value)[o]?:=(fun o=>X4.out.cell o);have xf4:=X4.out.thaw 4;have zc4:∀o,w4.cell? ⟨w.heap.size+1,o,none⟩=(#[int i64 0,int i64 0,.slice none 0 0,.slice none 0 0,.slice none 0 0]:Array Value)[o]?:=(fun o=>Z4.out.cell o);have zf4:=Z4.out.thaw;clear hoC hb4 On ON tA gz hv3 FG sv3 x3 xf3))
 have UX:=X4.out.set 4 (.slice C nc nL)
 have UZ:=Z4.out.other (p:=⟨w.heap.size,4,none⟩) zs (.slice C nc nL)
 have u:=(UZ.rz (int i64 dY) (int i64 mO) (.slice G ng kW) (.slice M nm oU) (.slice C nc nL)).cell
 refine bodyPost_ret (v:=.agg #[int i64 dY,int i64 mO,.slice G ng kW,.slice M nm oU,.slice C nc nL]) (by simp[results,results34,go_sem,u]) rfl ⟨G,kW,M,oU,C,nL,rfl,?_,?_,?_,?_,?_⟩
 ·have hs:=S1.out
  exact dh (yA (bS OG4.out (by show w.heap.size<w1.heap.size;omega) _) zo _ _ _ _ _) zo
 ·have hs:=S1.out
  have h3:=H5.out
  exact dh (yA (bS OM4.out (by show w.heap.size<v2.heap.size;omega) _) zo _ _ _ _ _) zo
 ·have hs:=S1.out
  have h3:=H5.out
  have h4:=sz4.out
  exact dh (yA (bS OC.out (by show w.heap.size<v3.heap.size;omega) _) zo _ _ _ _ _) zo
 ·intro a ha
  have hs:=S1.out
  have h3:=H5.out
  have h4:=sz4.out
  have hm:=OMl.out a ha
  refine⟨fun e=>?_,fun e=>?_⟩
  ·have:=OGl.out a e;omega
  ·have:=(bL OC.out e).1;omega
 ·have hs:=S1.out
  exact Below.rz (rS.out.setCell (p:=⟨w.heap.size,4,none⟩) zL _) zo _ _ _ _ _
end
end Go.Proofs.YtpmafoalhnaokaaGreat
