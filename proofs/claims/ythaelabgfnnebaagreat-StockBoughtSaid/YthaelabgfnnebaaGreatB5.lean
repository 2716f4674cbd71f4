/- HB AE2 AD0 -/
import Derived.Test.YthaelabgfnnebaaGreatB4
set_option maxRecDepth 100000
set_option maxHeartbeats 16000000
set_option linter.unusedVariables false
set_option linter.unusedSectionVars false
open Go.IntKind(i64)
open Go.Lib(hid)
open Go.Proofs.Tryz
open Go.Value(int)
namespace Go.Proofs.YthaelabgfnnebaaGreat
section
open Go.RowKit
open Go.Sort (grow)
attribute [local go_sem] Oper.semAt_some
theorem NV(q:Good)(m:Int)(w:World)(hp:1≤q.pack):CallsIn FF 0 prog 72 #[Ar q,int i64 m] w fun e w'=>e=.returned (int i64 (max 0 (wrap64 ((wrap64 (wrap64 (m+q.pack) - 1)).tdiv q.pack))))∧Below w.heap.size w w':=by
 obtain⟨nm,co,pk,lo,hi⟩:=q
 simp only[Ar] at hp⊢
 have h0:¬ pk=0:=zo
 gi_enter func72,ntmps72
 gi_wp2
 go_ret
 exact⟨rfl,bw⟩
def bX(b:Bk)(gd:Nat):Int × Int × Bool:=bR (fun h=>stk b h b.days b.nm gd) (aD b (ak b))
def jP(q:Good)(m:Int):Int:=max 0 (wrap64 ((wrap64 (wrap64 (m+q.pack) - 1)).tdiv q.pack))
def yB(b:Bk)(rt:Nat→Int)(d:Int)(k:Nat):Int:=jP (b.g k) (IntKind.i64.wrap (IntKind.i64.wrap (rt k * d) - (bX b k).1))
def qh(b:Bk)(rt:Nat→Int)(d:Int)(k:Nat):List Int:=(List.range k).map (yB b rt d)
theorem MK(b:Bk)(rt:Nat→Int)(d:Int)(k:Nat):qh b rt d (k+1)=qh b rt d k ++ [yB b rt d k]:=by unfold qh;rw[List.range_succ,List.map_append];rfl
theorem vR(b:Bk)(rt:Nat→Int)(d:Int)(k:Nat):(qh b rt d k).length=k:=by simp[qh]
def qW(b:Bk)(rt:Nat→Int)(d:Int):Nat→Int
 | 0=>0
 | Nat.succ k=>wrap64 (qW b rt d k+wrap64 (wrap64 (yB b rt d k * (b.g k).pack) * (b.g k).cost))
theorem lh(b:Bk)(A:Option Addr)(p:Nat)(rA:Option Addr)(nr rc:Nat)(rt:Nat→Int)(d:Int)(w:World)(hc:mZ b A w)(ok:b.Ok)(hl:∀s∈ak b,cO s)(hr:Ints w w.heap.size rA nr rt)(hnr:nr=b.ng)(hne:∀k,k<b.ng→(bX b k).2.2=true)(hpk:∀k,k<b.ng→1≤(b.g k).pack):
 CallsIn FF 0 prog 36 #[.agg (aA b A (ak b).length p),.slice rA nr rc,int i64 d] w fun e w'=>∃v,e=.returned (.tuple #[v,int i64 (qW b rt d b.ng),int i64 0])∧w'.ownsRow w.heap.size 3 1 v b.ng ((qh b rt d b.ng).map (int i64))∧Below w.heap.size w w':=by
 have hx:=gK b ok (ak b) hl
 have HH:=hid fun A p w hc=>oM b ok hl A p w hc
 have hg3:b.ng≤3:=ok.bn.1.2
 have HK:=hid fun lb A n p Bc B w k (hk:k<b.ng) h hA hc hB=>by
  have:=wZ 76 lb 71 #[.pointer (some ⟨Bc,0,none⟩),.pointer (some ⟨B,0,none⟩)] (fun h=>stk b h b.days b.nm k) (aD b (ak b)) w h (QL b ok A n p k zo _ hx Bc B w hA hc hB)
  change CallsIn _ _ _ _ _ _ fun e w'=>e=.returned (.tuple #[.agg #[int i64 (bX b k).1,int i64 (bX b k).2.1],int i64 (if (bX b k).2.2 then 0 else 9)])∧_ at this
  rw[hne k hk] at this
  exact this
 have HP:=hid fun k m (w:World) (hk:k<b.ng)=>show CallsIn FF 0 prog 72 #[Ar (b.g k),int i64 m] w fun e w'=>e=.returned (int i64 (jP (b.g k) m))∧Below w.heap.size w w' from NV (b.g k) m w (hpk k hk)
 have HC:=hid hc
 have Ii:=hid fun A w (h:mZ b A w)=>h.at_
 have i5:=hid fun A (w w':World) (h:mZ b A w) (hb:Below w.heap.size w w')=>h.below hb
 have HR:=hid hr
 obtain⟨n,hn⟩:∃n,n=(ak b).length:=⟨_,rfl⟩
 obtain⟨xs,hxs⟩:∃xs,xs=aD b (ak b):=⟨_,rfl⟩
 rw[← hn] at HH⊢
 rw[← hxs] at HH HK
 obtain⟨SG,ya⟩:∃SG,SG=bX b:=⟨_,rfl⟩
 obtain⟨BM,gp⟩:∃BM,BM=yB b rt d:=⟨_,rfl⟩
 obtain⟨BL,hBL⟩:∃BL,BL=qh b rt d:=⟨_,rfl⟩
 obtain⟨CN,ax⟩:∃CN,CN=qW b rt d:=⟨_,rfl⟩
 have GC:Hid (∀k,BM k=jP (b.g k) (IntKind.i64.wrap (IntKind.i64.wrap (rt k * d) - (SG k).1))):=hid fun k=>by rw[gp,ya];rfl
 have tR:Hid (BL 0=[]):=hid (by rw[hBL];rfl)
 have tU:Hid (∀k,BL (k+1)=BL k ++ [BM k]):=hid fun k=>by rw[hBL,gp];exact MK b rt d k
 have tS:Hid (∀k,(BL k).length=k):=hid fun k=>by rw[hBL];exact vR b rt d k
 have ud:Hid (CN 0=0):=hid (by rw[ax];rfl)
 have Qj:Hid (∀k,CN (k+1)=wrap64 (CN k+wrap64 (wrap64 (BM k * (b.g k).pack) * (b.g k).cost))):=hid fun k=>by rw[ax,gp];rfl
 rw[← ya] at HK
 rw[← hBL,← ax]
 obtain⟨i0,hi,hz0,hz1,hz2⟩:=info_parts info3
 have hi0:=hid hi
 clear hi hn hxs hc hl ok hpk hx hr hne ya gp hBL ax
 subst hnr
 obtain⟨days,most,gA,ng,gc,g,mA,nm,mc,m,cA,nc,cc,c⟩:=b
 simp only[aA,Ar] at HH HK HP GC Qj hg3 HR⊢
 obtain⟨w1,hw1⟩:∃w1,w1=w.alloc (.cells #[int i64 days,int i64 most,.slice gA ng gc,.slice mA nm mc,.slice cA nc cc,.slice A n p] 76):=⟨_,rfl⟩
 have B1:Hid (Below w.heap.size w w1):=hid (by rw[hw1];exact bw)
 have X1:Hid (Whole w1 w.heap.size 76 #[int i64 days,int i64 most,.slice gA ng gc,.slice mA nm mc,.slice cA nc cc,.slice A n p]):=hid (by rw[hw1];exact Whole.new _ _ _)
 have hs1:w1.heap.size=w.heap.size+1:=by rw[hw1];simp
 have lT:=hid hw1
 clear hw1
 gi_enter func36,ntmps36
 gi_wp2
 rw[← lT.out]
 clear lT
 gi_loopw [6,7,19] (fun l u i wr=>∃k:Nat,k≤ng∧i=int i64 k∧u=int i64 (CN k)∧Hid (wr.ownsRow (w.heap.size+1) 3 1 l k ((BL k).map (int i64))∧Below (w.heap.size+1) w1 wr)) (fun _ _ i _=>ng - (intOf i).toNat)
 case atStart=>exact⟨0,Nat.zero_le _,rfl,by rw[ud.out],hid ⟨by rw[tR.out];exact mG _ (w.heap.size+1) 3,Below.refl _ _⟩⟩
 case round=>
  obtain⟨k,hk,rfl,rfl,hT⟩:=hrel
  obtain⟨A9,n9,p9,rfl⟩:=fP hT.out.1
  obtain⟨wo,rfl⟩:∃wo:World,wo=wr:=⟨_,rfl⟩
  have hso:w.heap.size+1≤wo.heap.size:=by have:=hT.out.2.size;omega
  have BO:Hid (Below w.heap.size w wo):=hid (B1.out.trans (hT.out.2.mono zo))
  by_cases hlt:k<ng
  ·obtain⟨ad,hA',hbl,-⟩:=(Ii.out A w HC.out).g (show 0<ng by omega)
   simp only at hA'
   subst hA'
   obtain⟨gk,uJ⟩:∃gk,gk=g k:=⟨_,rfl⟩
   have hr:∀j,j<5→wo.cell? ((ad.add (k * 5)).add j)=some (gk.cell j):=fun j hj=>by rw[uJ];exact(((Ii.out (A) w HC.out).g.below BO.out)).row hlt |>.2 j hj
   have sE:=GC.out k
   have Ra:=Qj.out k
   have sY:=fun m w=>HP.out k m w hlt
   have xT:=fun lb n p Bc B w'=>HK.out lb A n p Bc B w' k hlt
   have xN:=tU.out k
   rw[← uJ] at sE Ra sY
   obtain⟨DC,co,pk,lo,hi⟩:=gk
   have c0:wo.cell? (ad.add (k * 5))=some (.string DC):=hr 0 zD
   have c1:wo.cell? ⟨(ad.add (k * 5)).block,(ad.add (k * 5)).off+1,none⟩=some (int i64 co):=hr 1 zD
   have c2:wo.cell? ⟨(ad.add (k * 5)).block,(ad.add (k * 5)).off+2,none⟩=some (int i64 pk):=hr 2 zD
   have c3:wo.cell? ⟨(ad.add (k * 5)).block,(ad.add (k * 5)).off+3,none⟩=some (int i64 lo):=hr 3 zD
   have c4:wo.cell? ⟨(ad.add (k * 5)).block,(ad.add (k * 5)).off+4,none⟩=some (int i64 hi):=hr 4 zD
   obtain⟨R1,gv⟩:∃R1,R1=(SG k).1:=⟨_,rfl⟩
   obtain⟨R2,hR2⟩:∃R2,R2=(SG k).2.1:=⟨_,rfl⟩
   obtain⟨M,hM⟩:∃M,M=BM k:=⟨_,rfl⟩
   obtain⟨rk,bz⟩:∃rk,rk=rt k:=⟨_,rfl⟩
   rw[← gv,← hR2] at xT
   rw[← gv,← hM,← bz] at sE
   rw[← hM] at Ra xN
   simp only at Ra sY
   have ue:=hid Ra
   have PQ:=hid xN
   have SJ:=hid fun w=>by have:=sY (IntKind.i64.wrap (IntKind.i64.wrap (rk * d) - R1)) w;rw[← sE] at this;exact this
   have Se:=hid xT
   obtain⟨ra,hra,hrb,-⟩:=HR.out (show 0<ng by omega)
   subst hra
   have rr:wo.cell? (ra.add k)=some (int i64 rk):=by
    rw[bz]
    exact(BO.out.cell (by rw[aH];exact hrb)).trans (HR.out.at_ hlt)
   clear hr uJ Ra xN sY xT gv hR2 hM sE bz
   obtain⟨w2,hw2⟩:∃w2,w2=(wo.alloc (.cells #[int i64 k] 3)).alloc (.cells #[.string DC,int i64 co,int i64 pk,int i64 lo,int i64 hi] 40):=⟨_,rfl⟩
   have B2:Hid (Below wo.heap.size wo w2):=hid (by rw[hw2];exact bw)
   have K2:Hid (Whole w2 wo.heap.size 3 #[int i64 k]):=hid (by rw[hw2];exact(Whole.new _ _ _).alloc _)
   have G2:Hid (Whole w2 (wo.heap.size+1) 40 #[.string DC,int i64 co,int i64 pk,int i64 lo,int i64 hi]):=hid (by rw[hw2];exact aM zs)
   have X2:=hid ((X1.out.below hT.out.2 zo).below B2.out zo)
   have x0:w2.cell? ⟨w.heap.size,0,none⟩=some (int i64 days):=X2.out.cell 0
   have x1:w2.cell? ⟨w.heap.size,1,none⟩=some (int i64 most):=X2.out.cell 1
   have x2:w2.cell? ⟨w.heap.size,2,none⟩=some (.slice (some ad) ng gc):=X2.out.cell 2
   have x3:w2.cell? ⟨w.heap.size,3,none⟩=some (.slice mA nm mc):=X2.out.cell 3
   have x4:w2.cell? ⟨w.heap.size,4,none⟩=some (.slice cA nc cc):=X2.out.cell 4
   have x5:w2.cell? ⟨w.heap.size,5,none⟩=some (.slice A n p):=X2.out.cell 5
   have ri:Hid (Below w.heap.size w w2):=hid (Below.next BO.out B2.out)
   have C2:=hid (i5.out A w w2 HC.out ri.out)
   rw[hw2] at x0 x1 x2 x3 x4 x5
   have Af:=hid hw2
   clear hw2
   gi_wp2_with (first
    | (gi_at_call 40;rw[← Af.out];refine(HH.out A p _ C2.out).mono ?_;rintro e w4 ⟨lb,rfl,hs4,hb4⟩;have Bs:=hb4.size)
    | (gi_at_call 43;refine(Se.out lb n p _ _ _ hs4 (Ii.out A _ (i5.out A w2 w4 C2.out hb4)) (X2.out.below hb4 X2.out.lt) (K2.out.below hb4 K2.out.lt)).mono ?_;rintro e w5 ⟨rfl,hb5⟩))
   have a6:=hb4.trans (hb5.mono hb4.size)
   obtain⟨w7,hw7⟩:∃w7,w7=w5.alloc (.cells #[int i64 R1,int i64 R2] 38):=⟨_,rfl⟩
   have B7:Hid (Below w2.heap.size w2 w7):=hid (by rw[hw7];exact a6.alloc a6.size _)
   have S7:Hid (Whole w7 w5.heap.size 38 #[int i64 R1,int i64 R2]):=hid (by rw[hw7];exact Whole.new _ _ _)
   have K7:=hid (K2.out.below B7.out K2.out.lt)
   have G7:=hid (G2.out.below B7.out G2.out.lt)
   have FA:Hid (Below wo.heap.size wo w7):=hid (Below.next B2.out B7.out)
   have hwo:w.heap.size≤wo.heap.size:=zo
   have OS:w7.cell? (ra.add k)=some (int i64 rk):=(FA.out.cell (by rw[aH];omega)).trans rr
   rw[← hw7]
   clear hw7
   have qk:∀d os,(grow (redrawn w7 d) os).cell? ⟨wo.heap.size,0,none⟩=some (int i64 k):=cell_regrown (K7.out.cell 0)
   have qg0:∀d os,(grow (redrawn w7 d) os).cell? ⟨wo.heap.size+1,0,none⟩=some (.string DC):=cell_regrown (G7.out.cell 0)
   have qg1:∀d os,(grow (redrawn w7 d) os).cell? ⟨wo.heap.size+1,1,none⟩=some (int i64 co):=cell_regrown (G7.out.cell 1)
   have qg2:∀d os,(grow (redrawn w7 d) os).cell? ⟨wo.heap.size+1,2,none⟩=some (int i64 pk):=cell_regrown (G7.out.cell 2)
   have qg3:∀d os,(grow (redrawn w7 d) os).cell? ⟨wo.heap.size+1,3,none⟩=some (int i64 lo):=cell_regrown (G7.out.cell 3)
   have qg4:∀d os,(grow (redrawn w7 d) os).cell? ⟨wo.heap.size+1,4,none⟩=some (int i64 hi):=cell_regrown (G7.out.cell 4)
   have qs:∀d os,(grow (redrawn w7 d) os).cell? ⟨w5.heap.size,0,none⟩=some (int i64 R1):=cell_regrown (S7.out.cell 0)
   have qr:∀d os,(grow (redrawn w7 d) os).cell? (ra.add k)=some (int i64 rk):=cell_regrown OS
   have cP:∀dd os,CallsIn FF 0 prog 72 #[.agg #[.string DC,int i64 co,int i64 pk,int i64 lo,int i64 hi],int i64 (IntKind.i64.wrap (IntKind.i64.wrap (rk * d) - R1))] (grow (redrawn w7 dd) os) fun e w''=>e=.returned (int i64 M)∧∃p:Regrown,w''=grow (redrawn w7 p.d) p.os:=fun dd os=>CallsIn.regrown_of (SJ.out _)
   refine wpIn_region_quiet_below rfl zk zk ?_
   repeat (quiet_step_in (exact cP _ _))
   refine wpQuietIn_nil ?_
   rintro w' ⟨⟨dq,osq⟩,rfl⟩
   have bg:=below_regrown w7 dq osq
   clear qk qg0 qg1 qg2 qg3 qg4 qs qr cP
   generalize grow (redrawn w7 dq) osq=w9 at bg⊢
   have tz:Hid (Below wo.heap.size wo w9):=hid (Below.next FA.out bg)
   have G9:=hid (G7.out.below bg G7.out.lt)
   have Ho:=hid (own_below hT.out.1 tz.out)
   have HT1:=hid hT.out.1
   have hs9:=tz.out.size
   have hk3:k≤3:=zo
   have hBn:=tS.out k
   clear bg OS a6 hb4 hb5 hs4 rr c0 c1 c2 c3 c4
   gi_wp2_with (gi_at_builtin;refine aF rfl rfl rfl fun K5 jf=>?_;refine wp_append_lies _ _ _ _ rfl (w.heap.size+1) 3 i0 _ 1 8 underlying30 hi0.out hz0 hz1 hz2 rfl zo (.slice A9 n9 p9) k _ rfl (aX Ho.out _) ⟨w9.heap.size,0,none⟩ 1 1 [_] rfl rfl (World.news_of_block (heap_alloc_new w9 _)) (by simp[Value.oneCell']) zo zU zo zm (w9.heap.size+1) zs ?_;intro qM oH w10 hown5 aQ ni oI;have GG:=(G9.out.alloc (.cells #[int i64 M] 3)).grown aQ (fun e=>by have:=dF HT1.out e.symm;omega);have y0:w10.cell? ⟨wo.heap.size+1,0,none⟩=some (.string DC):=GG.cell 0;have y1:w10.cell? ⟨wo.heap.size+1,1,none⟩=some (int i64 co):=GG.cell 1;have y2:w10.cell? ⟨wo.heap.size+1,2,none⟩=some (int i64 pk):=GG.cell 2;have y3:w10.cell? ⟨wo.heap.size+1,3,none⟩=some (int i64 lo):=GG.cell 3;have y4:w10.cell? ⟨wo.heap.size+1,4,none⟩=some (int i64 hi):=GG.cell 4;refine jf _ _ ?_;clear jf K5)
   exact⟨⟨k+1,hlt,by push_cast;rfl,by rw[ue.out],hid ⟨by rw[PQ.out,List.map_append];exact hown5,(((hT.out.2.trans (tz.out.mono zo)).alloc zo _).trans (below_grown aQ zm (fun g hg=>(dF HT1.out hg).1)))⟩⟩,by simp[intOf];omega⟩
  ·obtain rfl:k=ng:=zo
   gi_wp2
   go_ret3
   exact⟨_,rfl,dX hT.out.1 (Nat.le_succ _),BO.out⟩
theorem BP(b:Bk)(rA:Option Addr)(nr rc:Nat)(rt:Nat→Int)(d:Int)(w:World)(h:b.At w w.heap.size)(ok:b.Ok)(hcap:b.ng≤b.gc)(hl:∀s∈ak b,cO s)(hr:Ints w w.heap.size rA nr rt)(hnr:nr=b.ng)(hne:∀k,k<b.ng→(bX b k).2.2=true)(hpk:∀k,k<b.ng→1≤(b.g k).pack)(hrt:∀i,i<nr→0≤rt i∧rt i≤99)(hd:0≤d∧d≤99):
 CallsIn FF 0 prog 9 #[b.val,.slice rA nr rc,int i64 d] w fun e w'=>∃v,e=.returned (.tuple #[v,int i64 (qW b rt d b.ng),int i64 0])∧w'.ownsRow w.heap.size 3 1 v b.ng ((qh b rt d b.ng).map (int i64))∧Below w.heap.size w w':=by
 have HO:=hid fun w h=>mE b w h ok hcap
 have HB:=hid fun A p w hc hr=>lh b A p rA nr rc rt d w hc ok hl hr hnr hne hpk
 have HE:=hid fun(w:World) (hI:Ints w w.heap.size rA nr rt)=>show CallsIn FF 0 prog 34 #[.slice rA nr rc,int i64 b.ng,int i64 99] w fun e w'=>e=.returned (int i64 0)∧Below w.heap.size w w' from by
  have:=CY rt rA nr rc 99 w hI (by unfold maxLen;have:=ok.bn.1.2;omega) hrt
  rwa[hnr] at this⊢
 have HN:=hid fun(w:World)=>show CallsIn FF 0 prog 35 #[int i64 d,int i64 0,int i64 99] w fun e w'=>e=.returned (.bool true)∧w=w' from by
  have:=bZ d 0 99 w
  have e:fO d 0 99=true:=by unfold fO;simp;omega
  rwa[e] at this
 have HR:=hid fun(w':World) (hb:Below w.heap.size w w')=>show Ints w' w'.heap.size rA nr rt from(Rows.below hr hb).more hb.size
 have HA:=hid h
 obtain⟨n,hn⟩:∃n,n=(ak b).length:=⟨_,rfl⟩
 rw[← hn] at HO HB
 obtain⟨BL,hBL⟩:∃BL,BL=qh b rt d b.ng:=⟨_,rfl⟩
 obtain⟨CN,ax⟩:∃CN,CN=qW b rt d b.ng:=⟨_,rfl⟩
 rw[← hBL,← ax] at HB⊢
 clear hn h hcap hl ok hBL ax hr hne hpk hrt hd hnr
 obtain⟨days,most,gA,ng,gc,g,mA,nm,mc,m,cA,nc,cc,c⟩:=b
 simp only[Bk.val,Bk.cells,aA] at HO HB HE⊢
 gi_enter func9,ntmps9
 gi_wp2_with (first
  | (gi_at_call 33;refine(HO.out _ (HA.out.up (bw))).mono ?_;rintro e w2 ⟨A,p,rfl,hc2,hb2,-⟩;have Av:Hid (Below w.heap.size w (w2.alloc (.cells #[int i64 days,int i64 most,.slice gA ng gc,.slice mA nm mc,.slice cA nc cc,.slice A n p] 76))):=hid (Below.al (Below.next (show Below w.heap.size w (w.alloc (.cells #[int i64 days,int i64 most,.slice gA ng gc,.slice mA nm mc,.slice cA nc cc] 26)) from bw) hb2) _))
  | (gi_at_call 34;refine(HE.out _ (HR.out _ Av.out)).mono ?_;rintro e w3 ⟨rfl,hb3⟩;have X3:Whole w3 w2.heap.size 76 #[int i64 days,int i64 most,.slice gA ng gc,.slice mA nm mc,.slice cA nc cc,.slice A n p]:=(Whole.new w2 _ _).below hb3 zs;have x0:w3.cell? ⟨w2.heap.size,0,none⟩=some (int i64 days):=X3.cell 0;have x1:w3.cell? ⟨w2.heap.size,1,none⟩=some (int i64 most):=X3.cell 1;have x2:w3.cell? ⟨w2.heap.size,2,none⟩=some (.slice gA ng gc):=X3.cell 2;have x3:w3.cell? ⟨w2.heap.size,3,none⟩=some (.slice mA nm mc):=X3.cell 3;have x4:w3.cell? ⟨w2.heap.size,4,none⟩=some (.slice cA nc cc):=X3.cell 4;have x5:w3.cell? ⟨w2.heap.size,5,none⟩=some (.slice A n p):=X3.cell 5)
  | (gi_at_call 35;refine(HN.out _).mono ?_;rintro e w4 ⟨rfl,rfl⟩)
  | (gi_at_call 36;refine(HB.out A p _ ((hc2.below (bw)).below hb3) (HR.out _ (Below.next Av.out hb3))).mono ?_;rintro e w5 ⟨v,rfl,hv,hb5⟩))
 go_ret3
 exact⟨v,rfl,dX hv (by have:=Av.out.size;have:=hb3.size;omega),Below.next (Below.next Av.out hb3) hb5⟩
end
section
open Go.RowKit Go.Maps
open Go.Sort (grow)
attribute [local go_sem] Oper.semAt_some
theorem JI(gf:Nat)(lb:Array Value)(g:Nat)(lg:Array Value)(v:Ht→Int)(w:World)(h:oF FF gf lb ([]:List Ht) w):
 CallsIn FF 0 prog 39 #[.func (.func gf) #[] lb,.func (.func g) #[] lg] w fun e w'=>e=.returned (.tuple #[.slice none 0 0,int i64 9])∧Below w.heap.size w w':=by
 obtain⟨hfn,FB,hit⟩:=h
 have HIT:=hid hit
 have KI:=hid FB
 clear hit FB
 have hmm:=@run_makeMap prog
 refine callsIn_of_wp_marks func39 rfl zs ?_ rfl
 simp only[ntmps39,List.size_toArray,List.length_cons,List.length_nil,Nat.reduceAdd,Nat.reduceSub,Array.replicate_succ,Array.replicate_zero,List.push_toArray,List.append_toArray,List.nil_append,List.cons_append]
 gi_wp2
 obtain⟨wa,FH⟩:∃wa,wa=w.alloc (.cells #[.func (.func g) #[] lg] 93):=⟨_,rfl⟩
 obtain⟨wb,hwb⟩:∃wb,wb=wa.alloc (.map #[] 0):=⟨_,rfl⟩
 obtain⟨w1,hw1⟩:∃w1,w1=wb.alloc (.cells #[.map (some (w.heap.size+1))] 115):=⟨_,rfl⟩
 have sa:wa.heap.size=w.heap.size+1:=by rw[FH];simp
 have sb:wb.heap.size=w.heap.size+1+1:=by rw[hwb];simp[sa]
 have hs1:w1.heap.size=w.heap.size+3:=by rw[hw1];simp[sb]
 have B1:Hid (Below w.heap.size w w1):=hid (by rw[hw1,hwb,FH];exact bw)
 have F1:Hid (Whole w1 w.heap.size 93 #[.func (.func g) #[] lg]):=hid (by rw[hw1,hwb,FH];exact((Whole.new _ _ _).alloc _).alloc _)
 have M1:Hid (Whole w1 (w.heap.size+1+1) 115 #[.map (some (w.heap.size+1))]):=hid (by rw[← sb,hw1];exact Whole.new _ _ _)
 have O1:Hid (w1.ownsMap prog 3 (plainElem prog 4) (w.heap.size+1) 0 (mapD v [])):=hid (by
  have:=(World.ownsMap_made (H:=Unit) wa prog 3 (plainElem prog 4)).alloc (.cells #[.map (some (w.heap.size+1))] 115)
  rw[sa] at this;rw[hw1,hwb];exact this)
 try rw[← FH,← hwb,← hw1]
 clear hw1 FH hwb sa sb
 clear hmm
 obtain⟨CC,Ld⟩:∃CC:Nat→Prop,CC=fun x=>x=w.heap.size+1:=⟨_,rfl⟩
 have kY:∀x,CC x↔x=w.heap.size+1:=fun x=>by rw[Ld]
 clear Ld
 refine gB (C:=CC) rfl rfl (gf:=gf) (lb:=lb) rfl hfn KI.out (encs:=fun h:Ht=>#[h.val]) (xs:=([]:List Ht))
  (fun x hx=>by have:=(kY x).1 hx;omega) ?hseq (fun _=>rfl) (fun pre W'=>Hid (Whole W' w.heap.size 93 #[.func (.func g) #[] lg]∧Whole W' (w.heap.size+1+1) 115 #[.map (some (w.heap.size+1))]∧W'.ownsMap prog 3 (plainElem prog 4) (w.heap.size+1) pre.length (mapD v pre))) (fun c pre W'=>False)
  (fun pre A B h hb=>hid ⟨h.out.1.below hb zo,h.out.2.1.below hb zo,bH h.out.2.2 (hb.block _ zo)⟩) (fun c pre A B h hb=>h.elim) (hid ⟨F1.out,M1.out,O1.out⟩) ?fD ?hdone ?hstop
 case hseq=>exact fun W2 hb2 hs2=>HIT.out _ W2 (B1.out.trans (hb2.mono B1.out.size)) fun x hx=>by rw[kY] at hx;omega
 case fD=>
  intro l' pre h A hl' hpre hj hk hsz hrec
  exact absurd (eu hpre) zs
 case hdone=>
  intro W' hj hk hm
  have c6:W'.cell? ⟨w.heap.size+1+1,0,none⟩=some (.map (some (w.heap.size+1))):=hj.out.2.1.cell 0
  have hms:Marks w1.heap.size (w1.heap.size+1) [{target:=.collected w1.heap.size,args:=#[] }] W':=⟨_,rfl,Nat.le_refl _,Nat.lt_succ_self _,hm,trivial⟩
  have Ql:=hid hms
  have Es:Hid (Below w.heap.size w W'):=hid (B1.out.trans (hk.below (n:=w.heap.size) (fun b hb hc=>by have:=(kY b).1 hc;omega) zo))
  have HL:∀ty,(Builtin.len_ #[115] ty #[.map (some (w.heap.size+1))]).run prog W'=.ok (int i64 0) W':=fun ty=>by
   have:=hj.out.2.2.len underlying115 ty
   exact this
  have hm1:w1.heap.size<W'.heap.size:=(Array.getElem?_eq_some_iff.1 hm).1
  clear hj hms hm hk
  simp only[Exit.inBlock,Exit.then]
  go_at_K
  gi_wp2
  refine bN Ql.out (fun B hB=>⟨_,results_tmp2 rfl _ _ _,rfl,Es.out.trans (hB.below (n:=w.heap.size) (fun b hb hc=>zo) Es.out.size)⟩)
 case hstop=>
  rintro c pre W' hpre hx hk hm
  exact hx.elim
theorem GH(b:Bk)(gd k:Nat)(w:World)(h:b.At w w.heap.size)(ok:b.Ok)(hcap:b.ng≤b.gc)(hl:∀s∈ak b,cO s)(hgd:gd<b.ng)(hk:(k:Int)≤b.days)(h0:aD b (ak b)=[]):CallsIn FF 0 prog 10 #[b.val,int i64 gd,int i64 k] w fun e w'=>e=.returned (.tuple #[.slice none 0 0,int i64 9])∧Below w.heap.size w w':=by
 have hx:=gK b ok (ak b) hl
 have HO:=hid fun w h=>mD b gd w h ok hcap hgd
 have HH:=hid fun A p w hc=>oM b ok hl A p w hc
 have hg3:gd<3:=by have:=ok.bn.1.2;omega
 have HN:=hid fun(w:World)=>show CallsIn FF 0 prog 38 #[b.val,int i64 k] w fun e w'=>e=.returned (.bool true)∧Below w.heap.size w w' from by
  have:=qZ b k w
  have e:fO (k:Int) 0 b.days=true:=by unfold fO;simp;omega
  rwa[e] at this
 have HK:=hid fun lb Bc Bd Bg w h=>JI 76 lb 41 #[.pointer (some ⟨Bc,0,none⟩),.pointer (some ⟨Bd,0,none⟩),.pointer (some ⟨Bg,0,none⟩)] (fun h=>stk b h k b.nm gd) w h
 have HA:=hid h
 have HC:=hid fun A w (h:mZ b A w)=>h.at_
 obtain⟨n,hn⟩:∃n,n=(ak b).length:=⟨_,rfl⟩
 rw[← hn] at HO HH
 rw[h0] at HH
 clear hn h hcap hl ok hgd hx hk h0
 obtain⟨days,most,gA,ng,gc,g,mA,nm,mc,m,cA,nc,cc,c⟩:=b
 simp only[Bk.val,Bk.cells,aA] at HO HH HK HN⊢
 obtain⟨w1,hw1⟩:∃w1,w1=((w.alloc (.cells #[int i64 days,int i64 most,.slice gA ng gc,.slice mA nm mc,.slice cA nc cc] 26)).alloc (.cells #[int i64 gd] 3)).alloc (.cells #[int i64 k] 3):=⟨_,rfl⟩
 have B1:Hid (Below w.heap.size w w1):=hid (by rw[hw1];exact bw)
 have G1:Hid (Whole w1 (w.heap.size+1) 3 #[int i64 gd]):=hid (by rw[hw1];exact(aM zs).alloc _)
 have K1:Hid (Whole w1 (w.heap.size+1+1) 3 #[int i64 k]):=hid (by rw[hw1];exact aM zs)
 have lT:=hid hw1
 clear hw1
 gi_enter func10,ntmps10
 gi_wp2_with (first
  | (gi_at_call 37;rw[← lT.out];refine(HO.out _ (HA.out.up B1.out)).mono ?_;rintro e w2 ⟨A,p,rfl,hc2,hb2⟩;have K2:=(K1.out.below hb2 K1.out.lt).alloc (.cells #[int i64 days,int i64 most,.slice gA ng gc,.slice mA nm mc,.slice cA nc cc,.slice A n p] 76);have k2:(w2.alloc (.cells #[int i64 days,int i64 most,.slice gA ng gc,.slice mA nm mc,.slice cA nc cc,.slice A n p] 76)).cell? ⟨w.heap.size+1+1,0,none⟩=some (int i64 k):=K2.cell 0;have G2:=(G1.out.below hb2 G1.out.lt).alloc (.cells #[int i64 days,int i64 most,.slice gA ng gc,.slice mA nm mc,.slice cA nc cc,.slice A n p] 76))
  | (gi_at_call 38;refine(HN.out _).mono ?_;rintro e w3 ⟨rfl,hb3⟩;have X3:Whole w3 w2.heap.size 76 #[int i64 days,int i64 most,.slice gA ng gc,.slice mA nm mc,.slice cA nc cc,.slice A n p]:=(Whole.new w2 _ _).below hb3 zs;have x0:w3.cell? ⟨w2.heap.size,0,none⟩=some (int i64 days):=X3.cell 0;have x1:w3.cell? ⟨w2.heap.size,1,none⟩=some (int i64 most):=X3.cell 1;have x2:w3.cell? ⟨w2.heap.size,2,none⟩=some (.slice gA ng gc):=X3.cell 2;have x3:w3.cell? ⟨w2.heap.size,3,none⟩=some (.slice mA nm mc):=X3.cell 3;have x4:w3.cell? ⟨w2.heap.size,4,none⟩=some (.slice cA nc cc):=X3.cell 4;have x5:w3.cell? ⟨w2.heap.size,5,none⟩=some (.slice A n p):=X3.cell 5;have K3:=K2.below hb3 K2.lt;have G3:=G2.below hb3 G2.lt)
  | (gi_at_call 40;refine(HH.out A p _ ((hc2.below (bw)).below hb3)).mono ?_;rintro e w4 ⟨lb,rfl,hs4,hb4⟩)
  | (gi_at_call 39;refine(HK.out lb _ _ _ _ hs4).mono ?_;rintro e w5 ⟨rfl,hb5⟩))
 go_ret2
 have Av:=Below.next (Below.next (Below.al (Below.next B1.out hb2) (.cells #[int i64 days,int i64 most,.slice gA ng gc,.slice mA nm mc,.slice cA nc cc,.slice A n p] 76)) hb3) hb4
 exact⟨rfl,Below.next Av hb5⟩
theorem ZU(b:Bk)(A:Option Addr)(p:Nat)(rA:Option Addr)(nr rc:Nat)(d:Int)(w:World)(hc:mZ b A w)(ok:b.Ok)(hl:∀s∈ak b,cO s)(h0:aD b (ak b)=[]):
 CallsIn FF 0 prog 36 #[.agg (aA b A (ak b).length p),.slice rA nr rc,int i64 d] w fun e w'=>e=.returned (.tuple #[.slice none 0 0,int i64 0,int i64 9])∧Below w.heap.size w w':=by
 have hx:=gK b ok (ak b) hl
 have HH:=hid fun A p w hc=>oM b ok hl A p w hc
 have hg3:b.ng≤3:=ok.bn.1.2
 have HK:=hid fun lb A n p Bc B w k (hk:k<b.ng) h hA hc hB=>by
  have:=wZ 76 lb 71 #[.pointer (some ⟨Bc,0,none⟩),.pointer (some ⟨B,0,none⟩)] (fun h=>stk b h b.days b.nm k) (aD b (ak b)) w h (QL b ok A n p k zo _ hx Bc B w hA hc hB)
  change CallsIn _ _ _ _ _ _ fun e w'=>e=.returned (.tuple #[.agg #[int i64 (bX b k).1,int i64 (bX b k).2.1],int i64 (if (bX b k).2.2 then 0 else 9)])∧_ at this
  have e0:bX b k=(0,0,false):=by unfold bX;rw[h0];rfl
  rw[e0] at this
  exact this
 have HC:=hid hc
 have Ii:=hid fun A w (h:mZ b A w)=>h.at_
 have i5:=hid fun A (w w':World) (h:mZ b A w) (hb:Below w.heap.size w w')=>h.below hb
 obtain⟨n,hn⟩:∃n,n=(ak b).length:=⟨_,rfl⟩
 rw[← hn] at HH⊢
 have hn1:1≤b.ng:=ok.bn.1.1
 clear hn hc hl ok hx
 rw[h0] at HH HK
 clear h0
 obtain⟨days,most,gA,ng,gc,g,mA,nm,mc,m,cA,nc,cc,c⟩:=b
 simp only[aA] at HH HK hg3 hn1⊢
 have Hq:=hid fun lb A n p Bc B w h hA hc hB=>HK.out lb A n p Bc B w 0 zo h hA hc hB
 simp only[show((0:Nat):Int)=0 from rfl] at Hq
 clear HK
 obtain⟨w1,hw1⟩:∃w1,w1=w.alloc (.cells #[int i64 days,int i64 most,.slice gA ng gc,.slice mA nm mc,.slice cA nc cc,.slice A n p] 76):=⟨_,rfl⟩
 have B1:Hid (Below w.heap.size w w1):=hid (by rw[hw1];exact bw)
 have X1:Hid (Whole w1 w.heap.size 76 #[int i64 days,int i64 most,.slice gA ng gc,.slice mA nm mc,.slice cA nc cc,.slice A n p]):=hid (by rw[hw1];exact Whole.new _ _ _)
 have hs1:w1.heap.size=w.heap.size+1:=by rw[hw1];simp
 have lT:=hid hw1
 clear hw1
 gi_enter func36,ntmps36
 gi_wp2
 rw[← lT.out]
 clear lT
 obtain⟨ad,hA',hbl,-⟩:=(Ii.out A w HC.out).g (show 0<ng by omega)
 simp only at hA'
 subst hA'
 have hr:∀j,j<5→w1.cell? (ad.add j)=some ((g 0).cell j):=fun j hj=>(((Ii.out (A) w HC.out).g.below B1.out)).row (show 0<ng by omega) |>.2 j hj
 generalize g 0=g0 at hr
 obtain⟨DC,co,pk,lo,hi⟩:=g0
 have c0:w1.cell? ad=some (.string DC):=hr 0 zD
 have c1:w1.cell? ⟨ad.block,ad.off+1,none⟩=some (int i64 co):=hr 1 zD
 have c2:w1.cell? ⟨ad.block,ad.off+2,none⟩=some (int i64 pk):=hr 2 zD
 have c3:w1.cell? ⟨ad.block,ad.off+3,none⟩=some (int i64 lo):=hr 3 zD
 have c4:w1.cell? ⟨ad.block,ad.off+4,none⟩=some (int i64 hi):=hr 4 zD
 gi_loopw [6,7,19] (fun l u i wr=>l=.slice none 0 0∧u=int i64 0∧i=int i64 0∧wr=w1) (fun _ _ _ _=>0)
 case atStart=>exact⟨rfl,rfl,rfl,rfl⟩
 case round=>
 obtain⟨rfl,rfl,rfl,hwr⟩:=hrel
 have hwr:=hwr.symm
 subst hwr
 have x0:w1.cell? ⟨w.heap.size,0,none⟩=some (int i64 days):=X1.out.cell 0
 have x1:w1.cell? ⟨w.heap.size,1,none⟩=some (int i64 most):=X1.out.cell 1
 have x2:w1.cell? ⟨w.heap.size,2,none⟩=some (.slice (some ad) ng gc):=X1.out.cell 2
 have x3:w1.cell? ⟨w.heap.size,3,none⟩=some (.slice mA nm mc):=X1.out.cell 3
 have x4:w1.cell? ⟨w.heap.size,4,none⟩=some (.slice cA nc cc):=X1.out.cell 4
 have x5:w1.cell? ⟨w.heap.size,5,none⟩=some (.slice A n p):=X1.out.cell 5
 obtain⟨w2,hw2⟩:∃w2,w2=(w1.alloc (.cells #[int i64 0] 3)).alloc (.cells #[.string DC,int i64 co,int i64 pk,int i64 lo,int i64 hi] 40):=⟨_,rfl⟩
 have B2:Hid (Below w1.heap.size w1 w2):=hid (by rw[hw2];exact bw)
 have K2:Hid (Whole w2 (w.heap.size+1) 3 #[int i64 0]):=hid (by rw[← hs1,hw2];exact(Whole.new _ _ _).alloc _)
 have X2:=hid (X1.out.below B2.out zo)
 have ri:Hid (Below w.heap.size w w2):=hid (Below.next B1.out B2.out)
 have C2:=hid (i5.out A w w2 HC.out ri.out)
 have Af:=hid hw2
 clear hr
 gi_wp2_with (first
  | (gi_at_call 40;rw[← show w2=_ from Af.out];refine(HH.out A p _ C2.out).mono ?_;rintro e w4 ⟨lb,rfl,hs4,hb4⟩;have Bs:=hb4.size)
  | (gi_at_call 43;refine(Hq.out lb A n p _ _ _ hs4 (Ii.out A _ (i5.out A w2 w4 C2.out hb4)) (X2.out.below hb4 X2.out.lt) (K2.out.below hb4 K2.out.lt)).mono ?_;rintro e w5 ⟨rfl,hb5⟩))
 go_ret3
 exact⟨rfl,Below.al (Below.next (Below.next ri.out hb4) hb5) _⟩
theorem Kj(b:Bk)(rA:Option Addr)(nr rc:Nat)(rt:Nat→Int)(d:Int)(w:World)(h:b.At w w.heap.size)(ok:b.Ok)(hcap:b.ng≤b.gc)(hl:∀s∈ak b,cO s)(hr:Ints w w.heap.size rA nr rt)(hnr:nr=b.ng)(h0:aD b (ak b)=[])(hrt:∀i,i<nr→0≤rt i∧rt i≤99)(hd:0≤d∧d≤99):
 CallsIn FF 0 prog 9 #[b.val,.slice rA nr rc,int i64 d] w fun e w'=>e=.returned (.tuple #[.slice none 0 0,int i64 0,int i64 9])∧Below w.heap.size w w':=by
 have HO:=hid fun w h=>mE b w h ok hcap
 have HB:=hid fun A p w hc=>ZU b A p rA nr rc d w hc ok hl h0
 have HE:=hid fun(w:World) (hI:Ints w w.heap.size rA nr rt)=>show CallsIn FF 0 prog 34 #[.slice rA nr rc,int i64 b.ng,int i64 99] w fun e w'=>e=.returned (int i64 0)∧Below w.heap.size w w' from by
  have:=CY rt rA nr rc 99 w hI (by unfold maxLen;have:=ok.bn.1.2;omega) hrt
  rwa[hnr] at this⊢
 have HN:=hid fun(w:World)=>show CallsIn FF 0 prog 35 #[int i64 d,int i64 0,int i64 99] w fun e w'=>e=.returned (.bool true)∧w=w' from by
  have:=bZ d 0 99 w
  have e:fO d 0 99=true:=by unfold fO;simp;omega
  rwa[e] at this
 have HR:=hid fun(w':World) (hb:Below w.heap.size w w')=>show Ints w' w'.heap.size rA nr rt from(Rows.below hr hb).more hb.size
 have HA:=hid h
 obtain⟨n,hn⟩:∃n,n=(ak b).length:=⟨_,rfl⟩
 rw[← hn] at HO HB
 clear hn h hcap hl ok hr h0 hrt hd hnr
 obtain⟨days,most,gA,ng,gc,g,mA,nm,mc,m,cA,nc,cc,c⟩:=b
 simp only[Bk.val,Bk.cells,aA] at HO HB HE⊢
 gi_enter func9,ntmps9
 gi_wp2_with (first
  | (gi_at_call 33;refine(HO.out _ (HA.out.up (bw))).mono ?_;rintro e w2 ⟨A,p,rfl,hc2,hb2,-⟩;have Av:Hid (Below w.heap.size w (w2.alloc (.cells #[int i64 days,int i64 most,.slice gA ng gc,.slice mA nm mc,.slice cA nc cc,.slice A n p] 76))):=hid (Below.al (Below.next (show Below w.heap.size w (w.alloc (.cells #[int i64 days,int i64 most,.slice gA ng gc,.slice mA nm mc,.slice cA nc cc] 26)) from bw) hb2) _))
  | (gi_at_call 34;refine(HE.out _ (HR.out _ Av.out)).mono ?_;rintro e w3 ⟨rfl,hb3⟩;have X3:Whole w3 w2.heap.size 76 #[int i64 days,int i64 most,.slice gA ng gc,.slice mA nm mc,.slice cA nc cc,.slice A n p]:=(Whole.new w2 _ _).below hb3 zs;have x0:w3.cell? ⟨w2.heap.size,0,none⟩=some (int i64 days):=X3.cell 0;have x1:w3.cell? ⟨w2.heap.size,1,none⟩=some (int i64 most):=X3.cell 1;have x2:w3.cell? ⟨w2.heap.size,2,none⟩=some (.slice gA ng gc):=X3.cell 2;have x3:w3.cell? ⟨w2.heap.size,3,none⟩=some (.slice mA nm mc):=X3.cell 3;have x4:w3.cell? ⟨w2.heap.size,4,none⟩=some (.slice cA nc cc):=X3.cell 4;have x5:w3.cell? ⟨w2.heap.size,5,none⟩=some (.slice A n p):=X3.cell 5)
  | (gi_at_call 35;refine(HN.out _).mono ?_;rintro e w4 ⟨rfl,rfl⟩)
  | (gi_at_call 36;refine(HB.out A p _ ((hc2.below (bw)).below hb3)).mono ?_;rintro e w5 ⟨rfl,hb5⟩))
 go_ret3
 exact⟨rfl,Below.next (Below.next Av.out hb3) hb5⟩
end
section
open Go.RowKit
variable{b:Bk}{h:Ht}{gd:Nat}{a z:Int}
theorem BF(v:Ht→Int):∀ (L:List Ht) (l u:Int),l≤u→∃l' u',L.foldl (fun s h=>if s.2.2 then(min s.1 (v h),max s.2.1 (v h),true) else(v h,v h,true)) (l,u,true)=(l',u',true)∧l'≤l∧u≤u'∧
 (∀h∈L,l'≤v h∧v h≤u')∧(l'=l∨∃h∈L,v h=l')∧(u'=u∨∃h∈L,v h=u')
 | [],l,u,_=>⟨l,u,rfl,Int.le_refl _,Int.le_refl _,(fun _ h=>by cases h),.inl rfl,.inl rfl⟩
 | x :: L,l,u,Z3=>by
   obtain⟨l',u',e,h1,h2,h3,h4,h5⟩:=BF v L (min l (v x)) (max u (v x)) (Int.le_trans (Int.min_le_left _ _) (Int.le_trans Z3 (Int.le_max_left _ _)))
   refine⟨l',u',e,Int.le_trans h1 (Int.min_le_left _ _),Int.le_trans (Int.le_max_left _ _) h2,fun h hh=>?_,?_,?_⟩
   ·rcases List.mem_cons.1 hh with rfl|hh
    ·exact⟨Int.le_trans h1 (Int.min_le_right _ _),Int.le_trans (Int.le_max_right _ _) h2⟩
    ·exact h3 h hh
   ·rcases h4 with h4|⟨h,hh,e4⟩
    ·by_cases hc:l≤v x
     ·exact .inl (h4.trans (Int.min_eq_left hc))
     ·exact .inr ⟨x,List.mem_cons_self,(h4.trans (Int.min_eq_right (Int.le_of_lt (Int.not_le.1 hc)))).symm⟩
    ·exact .inr ⟨h,List.mem_cons_of_mem _ hh,e4⟩
   ·rcases h5 with h5|⟨h,hh,e5⟩
    ·by_cases hc:v x≤u
     ·exact .inl (h5.trans (Int.max_eq_left hc))
     ·exact .inr ⟨x,List.mem_cons_self,(h5.trans (Int.max_eq_right (Int.le_of_lt (Int.not_le.1 hc)))).symm⟩
    ·exact .inr ⟨h,List.mem_cons_of_mem _ hh,e5⟩
theorem Oq(v:Ht→Int){L:List Ht}(hL:L≠[]):∃l u,bR v L=(l,u,true)∧(∀h∈L,l≤v h∧v h≤u)∧(∃h∈L,v h=l)∧∃h∈L,v h=u:=by
 cases L with
 | nil=>exact absurd rfl hL
 | cons x L=>
   obtain⟨l,u,e,h1,h2,h3,h4,h5⟩:=BF v L (v x) (v x) (Int.le_refl _)
   refine⟨l,u,e,fun h hh=>?_,?_,?_⟩
   ·rcases List.mem_cons.1 hh with rfl|hh
    ·exact⟨h1,h2⟩
    ·exact h3 h hh
   ·rcases h4 with rfl|⟨h,hh,e4⟩
    ·exact⟨x,List.mem_cons_self,rfl⟩
    ·exact⟨h,List.mem_cons_of_mem _ hh,e4⟩
   ·rcases h5 with rfl|⟨h,hh,e5⟩
    ·exact⟨x,List.mem_cons_self,rfl⟩
    ·exact⟨h,List.mem_cons_of_mem _ hh,e5⟩
end
end Go.Proofs.YthaelabgfnnebaaGreat
