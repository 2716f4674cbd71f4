/- HB HE WN WK HV HM -/
import Derived.Test.YtmjjocnfidnelaaGreatD1
import Derived.Shelf.SlIterI.Sorted
import Derived.Shelf.SortM.AssemblyIn
import Derived.Shelf.SortM.SortNone
import Derived.Ground.GgzProg
import Derived.Ground.SlgmProg
set_option maxRecDepth 100000
set_option maxHeartbeats 16000000
set_option linter.unusedVariables false
set_option linter.unusedSectionVars false
open Go.IntKind(i64)
open Go.Lib(hid)
open Go.Proofs.Tryz
open Go.Value(int)
namespace Go.Proofs.YtmjjocnfidnelaaGreat
section
open Go.RowKit
open Go.Sort (grow)
attribute [local go_sem] Oper.semAt_some
theorem Pp(q:Good)(m:Int)(w:World)(hp:1≤q.pack):CallsIn FF 0 prog 80 #[Ci q,int i64 m] w fun e w'=>e=.returned (int i64 (max 0 (wrap64 ((wrap64 (wrap64 (m+q.pack) - 1)).tdiv q.pack))))∧Below w.heap.size w w':=by
 obtain⟨nm,co,pk,lo,hi⟩:=q
 simp only[Ci] at hp⊢
 have h0:¬ pk=0:=zo
 gi_enter func80,ntmps80
 gi_wp2
 go_ret
 exact⟨rfl,bw⟩
def vD(b:Bk)(gd:Nat):Int × Int × Bool:=bX (fun h=>stk b h b.days b.nm gd) (aH b (au b))
def Uh(q:Good)(m:Int):Int:=max 0 (wrap64 ((wrap64 (wrap64 (m+q.pack) - 1)).tdiv q.pack))
def WE(b:Bk)(rt:Nat→Int)(d:Int)(k:Nat):Int:=Uh (b.g k) (IntKind.i64.wrap (IntKind.i64.wrap (rt k * d) - (vD b k).1))
def xg(b:Bk)(rt:Nat→Int)(d:Int)(k:Nat):List Int:=(List.range k).map (WE b rt d)
theorem NQ(b:Bk)(rt:Nat→Int)(d:Int)(k:Nat):xg b rt d (k+1)=xg b rt d k ++ [WE b rt d k]:=by unfold xg;rw[List.range_succ,List.map_append];rfl
theorem RQ(b:Bk)(rt:Nat→Int)(d:Int)(k:Nat):(xg b rt d k).length=k:=by simp[xg]
def xw(b:Bk)(rt:Nat→Int)(d:Int):Nat→Int
 | 0=>0
 | Nat.succ k=>wrap64 (xw b rt d k+wrap64 (wrap64 (WE b rt d k * (b.g k).pack) * (b.g k).cost))
theorem pD(b:Bk)(A:Option Addr)(p:Nat)(rA:Option Addr)(nr rc:Nat)(rt:Nat→Int)(d:Int)(w:World)(hc:oV b A w)(ok:b.Ok)(hl:∀s∈au b,fG s)(hr:Ints w w.heap.size rA nr rt)(hnr:nr=b.ng)(hne:∀k,k<b.ng→(vD b k).2.2=true)(hpk:∀k,k<b.ng→1≤(b.g k).pack):
 CallsIn FF 0 prog 59 #[.agg (ay b A (au b).length p),.slice rA nr rc,int i64 d] w fun e w'=>∃v,e=.returned (.tuple #[v,int i64 (xw b rt d b.ng),int i64 0])∧w'.ownsRow w.heap.size 3 1 v b.ng ((xg b rt d b.ng).map (int i64))∧Below w.heap.size w w':=by
 have hx:=kL b ok (au b) hl
 have HH:=hid fun A p w hc=>uN b ok hl A p w hc
 have hg3:b.ng≤3:=ok.dn.1.2
 have HK:=hid fun lb A n p Bc B w k (hk:k<b.ng) h hA hc hB=>by
  have:=EB 71 lb 79 #[.pointer (some ⟨Bc,0,none⟩),.pointer (some ⟨B,0,none⟩)] (fun h=>stk b h b.days b.nm k) (aH b (au b)) w h (eo b ok A n p k zo _ hx Bc B w hA hc hB)
  change CallsIn _ _ _ _ _ _ fun e w'=>e=.returned (.tuple #[.agg #[int i64 (vD b k).1,int i64 (vD b k).2.1],int i64 (if (vD b k).2.2 then 0 else 9)])∧_ at this
  rw[hne k hk] at this
  exact this
 have HP:=hid fun k m (w:World) (hk:k<b.ng)=>show CallsIn FF 0 prog 80 #[Ci (b.g k),int i64 m] w fun e w'=>e=.returned (int i64 (Uh (b.g k) m))∧Below w.heap.size w w' from Pp (b.g k) m w (hpk k hk)
 have HC:=hid hc
 have cd:=hid fun A w (h:oV b A w)=>h.at_
 have Rr:=hid fun A (w w':World) (h:oV b A w) (hb:Below w.heap.size w w')=>h.below hb
 have HR:=hid hr
 obtain⟨n,hn⟩:∃n,n=(au b).length:=⟨_,rfl⟩
 obtain⟨xs,hxs⟩:∃xs,xs=aH b (au b):=⟨_,rfl⟩
 rw[← hn] at HH⊢
 rw[← hxs] at HH HK
 obtain⟨SG,Iv⟩:∃SG,SG=vD b:=⟨_,rfl⟩
 obtain⟨BM,my⟩:∃BM,BM=WE b rt d:=⟨_,rfl⟩
 obtain⟨BL,hBL⟩:∃BL,BL=xg b rt d:=⟨_,rfl⟩
 obtain⟨CN,fe⟩:∃CN,CN=xw b rt d:=⟨_,rfl⟩
 have Re:Hid (∀k,BM k=Uh (b.g k) (IntKind.i64.wrap (IntKind.i64.wrap (rt k * d) - (SG k).1))):=hid fun k=>by rw[my,Iv];rfl
 have B9:Hid (BL 0=[]):=hid (by rw[hBL];rfl)
 have Cf:Hid (∀k,BL (k+1)=BL k ++ [BM k]):=hid fun k=>by rw[hBL,my];exact NQ b rt d k
 have Cd:Hid (∀k,(BL k).length=k):=hid fun k=>by rw[hBL];exact RQ b rt d k
 have CI:Hid (CN 0=0):=hid (by rw[fe];rfl)
 have oa:Hid (∀k,CN (k+1)=wrap64 (CN k+wrap64 (wrap64 (BM k * (b.g k).pack) * (b.g k).cost))):=hid fun k=>by rw[fe,my];rfl
 rw[← Iv] at HK
 rw[← hBL,← fe]
 obtain⟨i0,hi,hz0,hz1,hz2⟩:=info_parts info3
 have hi0:=hid hi
 clear hi hn hxs hc hl ok hpk hx hr hne Iv my hBL fe
 subst hnr
 obtain⟨days,most,gA,ng,gc,g,mA,nm,mc,m,cA,nc,cc,c⟩:=b
 simp only[ay,Ci] at HH HK HP Re oa hg3 HR⊢
 obtain⟨w1,hw1⟩:∃w1,w1=w.alloc (.cells #[int i64 days,int i64 most,.slice gA ng gc,.slice mA nm mc,.slice cA nc cc,.slice A n p] 73):=⟨_,rfl⟩
 have B1:Hid (Below w.heap.size w w1):=hid (by rw[hw1];exact bw)
 have X1:Hid (Whole w1 w.heap.size 73 #[int i64 days,int i64 most,.slice gA ng gc,.slice mA nm mc,.slice cA nc cc,.slice A n p]):=hid (by rw[hw1];exact Whole.new _ _ _)
 have hs1:w1.heap.size=w.heap.size+1:=by rw[hw1];simp
 have nK:=hid hw1
 clear hw1
 gi_enter func59,ntmps59
 gi_wp2
 rw[← nK.out]
 clear nK
 gi_loopw [6,7,19] (fun l u i wr=>∃k:Nat,k≤ng∧i=int i64 k∧u=int i64 (CN k)∧Hid (wr.ownsRow (w.heap.size+1) 3 1 l k ((BL k).map (int i64))∧Below (w.heap.size+1) w1 wr)) (fun _ _ i _=>ng - (intOf i).toNat)
 case atStart=>exact⟨0,Nat.zero_le _,rfl,by rw[CI.out],hid ⟨by rw[B9.out];exact ji _ (w.heap.size+1) 3,Below.refl _ _⟩⟩
 case round=>
  obtain⟨k,hk,rfl,rfl,hT⟩:=hrel
  obtain⟨A9,n9,p9,rfl⟩:=fO hT.out.1
  obtain⟨wo,rfl⟩:∃wo:World,wo=wr:=⟨_,rfl⟩
  have hso:w.heap.size+1≤wo.heap.size:=by have:=hT.out.2.size;omega
  have BO:Hid (Below w.heap.size w wo):=hid (B1.out.trans (hT.out.2.mono zo))
  by_cases hlt:k<ng
  ·obtain⟨ad,hA',hbl,-⟩:=(cd.out A w HC.out).g (show 0<ng by omega)
   simp only at hA'
   subst hA'
   obtain⟨gk,Ee⟩:∃gk,gk=g k:=⟨_,rfl⟩
   have hr:∀j,j<5→wo.cell? ((ad.add (k * 5)).add j)=some (gk.cell j):=fun j hj=>by rw[Ee];exact(((cd.out (A) w HC.out).g.below BO.out)).row hlt |>.2 j hj
   have mz:=Re.out k
   have qi:=oa.out k
   have As:=fun m w=>HP.out k m w hlt
   have Is:=fun lb n p Bc B w'=>HK.out lb A n p Bc B w' k hlt
   have H5:=Cf.out k
   rw[← Ee] at mz qi As
   obtain⟨MP,co,pk,lo,hi⟩:=gk
   have c0:wo.cell? (ad.add (k * 5))=some (.string MP):=hr 0 zD
   have c1:wo.cell? ⟨(ad.add (k * 5)).block,(ad.add (k * 5)).off+1,none⟩=some (int i64 co):=hr 1 zD
   have c2:wo.cell? ⟨(ad.add (k * 5)).block,(ad.add (k * 5)).off+2,none⟩=some (int i64 pk):=hr 2 zD
   have c3:wo.cell? ⟨(ad.add (k * 5)).block,(ad.add (k * 5)).off+3,none⟩=some (int i64 lo):=hr 3 zD
   have c4:wo.cell? ⟨(ad.add (k * 5)).block,(ad.add (k * 5)).off+4,none⟩=some (int i64 hi):=hr 4 zD
   obtain⟨R1,mC⟩:∃R1,R1=(SG k).1:=⟨_,rfl⟩
   obtain⟨R2,hR2⟩:∃R2,R2=(SG k).2.1:=⟨_,rfl⟩
   obtain⟨M,hM⟩:∃M,M=BM k:=⟨_,rfl⟩
   obtain⟨rk,fN⟩:∃rk,rk=rt k:=⟨_,rfl⟩
   rw[← mC,← hR2] at Is
   rw[← mC,← hM,← fN] at mz
   rw[← hM] at qi H5
   simp only at qi As
   have HCk:=hid qi
   have HBs:=hid H5
   have HPk:=hid fun w=>by have:=As (IntKind.i64.wrap (IntKind.i64.wrap (rk * d) - R1)) w;rw[← mz] at this;exact this
   have HKk:=hid Is
   obtain⟨ra,hra,hrb,-⟩:=HR.out (show 0<ng by omega)
   subst hra
   have rr:wo.cell? (ra.add k)=some (int i64 rk):=by
    rw[fN]
    exact(BO.out.cell (by rw[aD];exact hrb)).trans (HR.out.at_ hlt)
   clear hr Ee qi H5 As Is mC hR2 hM mz fN
   obtain⟨w2,hw2⟩:∃w2,w2=(wo.alloc (.cells #[int i64 k] 3)).alloc (.cells #[.string MP,int i64 co,int i64 pk,int i64 lo,int i64 hi] 68):=⟨_,rfl⟩
   have B2:Hid (Below wo.heap.size wo w2):=hid (by rw[hw2];exact bw)
   have K2:Hid (Whole w2 wo.heap.size 3 #[int i64 k]):=hid (by rw[hw2];exact(Whole.new _ _ _).alloc _)
   have G2:Hid (Whole w2 (wo.heap.size+1) 68 #[.string MP,int i64 co,int i64 pk,int i64 lo,int i64 hi]):=hid (by rw[hw2];exact aP zs)
   have X2:=hid ((X1.out.below hT.out.2 zo).below B2.out zo)
   have x0:w2.cell? ⟨w.heap.size,0,none⟩=some (int i64 days):=X2.out.cell 0
   have x1:w2.cell? ⟨w.heap.size,1,none⟩=some (int i64 most):=X2.out.cell 1
   have x2:w2.cell? ⟨w.heap.size,2,none⟩=some (.slice (some ad) ng gc):=X2.out.cell 2
   have x3:w2.cell? ⟨w.heap.size,3,none⟩=some (.slice mA nm mc):=X2.out.cell 3
   have x4:w2.cell? ⟨w.heap.size,4,none⟩=some (.slice cA nc cc):=X2.out.cell 4
   have x5:w2.cell? ⟨w.heap.size,5,none⟩=some (.slice A n p):=X2.out.cell 5
   have BW2:Hid (Below w.heap.size w w2):=hid (Below.next BO.out B2.out)
   have C2:=hid (Rr.out A w w2 HC.out BW2.out)
   rw[hw2] at x0 x1 x2 x3 x4 x5
   have E9:=hid hw2
   clear hw2
   gi_wp2_with (first
    | (gi_at_call 38;rw[← E9.out];refine(HH.out A p _ C2.out).mono ?_;rintro e w4 ⟨lb,rfl,hs4,hb4⟩;have aaN:=hb4.size)
    | (gi_at_call 51;refine(HKk.out lb n p _ _ _ hs4 (cd.out A _ (Rr.out A w2 w4 C2.out hb4)) (X2.out.below hb4 X2.out.lt) (K2.out.below hb4 K2.out.lt)).mono ?_;rintro e w5 ⟨rfl,hb5⟩))
   have fi:=hb4.trans (hb5.mono hb4.size)
   obtain⟨w7,hw7⟩:∃w7,w7=w5.alloc (.cells #[int i64 R1,int i64 R2] 39):=⟨_,rfl⟩
   have B7:Hid (Below w2.heap.size w2 w7):=hid (by rw[hw7];exact fi.alloc fi.size _)
   have S7:Hid (Whole w7 w5.heap.size 39 #[int i64 R1,int i64 R2]):=hid (by rw[hw7];exact Whole.new _ _ _)
   have K7:=hid (K2.out.below B7.out K2.out.lt)
   have G7:=hid (G2.out.below B7.out G2.out.lt)
   have P2:Hid (Below wo.heap.size wo w7):=hid (Below.next B2.out B7.out)
   have hwo:w.heap.size≤wo.heap.size:=zo
   have rr7:w7.cell? (ra.add k)=some (int i64 rk):=(P2.out.cell (by rw[aD];omega)).trans rr
   rw[← hw7]
   clear hw7
   have qk:∀d os,(grow (redrawn w7 d) os).cell? ⟨wo.heap.size,0,none⟩=some (int i64 k):=cell_regrown (K7.out.cell 0)
   have qg0:∀d os,(grow (redrawn w7 d) os).cell? ⟨wo.heap.size+1,0,none⟩=some (.string MP):=cell_regrown (G7.out.cell 0)
   have qg1:∀d os,(grow (redrawn w7 d) os).cell? ⟨wo.heap.size+1,1,none⟩=some (int i64 co):=cell_regrown (G7.out.cell 1)
   have qg2:∀d os,(grow (redrawn w7 d) os).cell? ⟨wo.heap.size+1,2,none⟩=some (int i64 pk):=cell_regrown (G7.out.cell 2)
   have qg3:∀d os,(grow (redrawn w7 d) os).cell? ⟨wo.heap.size+1,3,none⟩=some (int i64 lo):=cell_regrown (G7.out.cell 3)
   have qg4:∀d os,(grow (redrawn w7 d) os).cell? ⟨wo.heap.size+1,4,none⟩=some (int i64 hi):=cell_regrown (G7.out.cell 4)
   have qs:∀d os,(grow (redrawn w7 d) os).cell? ⟨w5.heap.size,0,none⟩=some (int i64 R1):=cell_regrown (S7.out.cell 0)
   have qr:∀d os,(grow (redrawn w7 d) os).cell? (ra.add k)=some (int i64 rk):=cell_regrown rr7
   have cP:∀dd os,CallsIn FF 0 prog 80 #[.agg #[.string MP,int i64 co,int i64 pk,int i64 lo,int i64 hi],int i64 (IntKind.i64.wrap (IntKind.i64.wrap (rk * d) - R1))] (grow (redrawn w7 dd) os) fun e w''=>e=.returned (int i64 M)∧∃p:Regrown,w''=grow (redrawn w7 p.d) p.os:=fun dd os=>CallsIn.regrown_of (HPk.out _)
   refine wpIn_region_quiet_below rfl zk zk ?_
   repeat (quiet_step_in (exact cP _ _))
   refine wpQuietIn_nil ?_
   rintro w' ⟨⟨dq,osq⟩,rfl⟩
   have bE:=below_regrown w7 dq osq
   clear qk qg0 qg1 qg2 qg3 qg4 qs qr cP
   generalize grow (redrawn w7 dq) osq=w9 at bE⊢
   have BT:Hid (Below wo.heap.size wo w9):=hid (Below.next P2.out bE)
   have G9:=hid (G7.out.below bE G7.out.lt)
   have Ho:=hid (own_below hT.out.1 BT.out)
   have HT1:=hid hT.out.1
   have hs9:=BT.out.size
   have hk3:k≤3:=zo
   have hBn:=Cd.out k
   clear bE rr7 fi hb4 hb5 hs4 rr c0 c1 c2 c3 c4
   gi_wp2_with (gi_at_builtin;refine aF rfl rfl rfl fun K5 jK=>?_;refine wp_append_lies _ _ _ _ rfl (w.heap.size+1) 3 i0 _ 1 8 underlying30 hi0.out hz0 hz1 hz2 rfl zo (.slice A9 n9 p9) k _ rfl (aL Ho.out _) ⟨w9.heap.size,0,none⟩ 1 1 [_] rfl rfl (World.news_of_block (heap_alloc_new w9 _)) (by simp[Value.oneCell']) zo zu zo zm (w9.heap.size+1) zs ?_;intro rV qJ w10 hown5 aU nI qO;have GG:=(G9.out.alloc (.cells #[int i64 M] 3)).grown aU (fun e=>by have:=bG HT1.out e.symm;omega);have y0:w10.cell? ⟨wo.heap.size+1,0,none⟩=some (.string MP):=GG.cell 0;have y1:w10.cell? ⟨wo.heap.size+1,1,none⟩=some (int i64 co):=GG.cell 1;have y2:w10.cell? ⟨wo.heap.size+1,2,none⟩=some (int i64 pk):=GG.cell 2;have y3:w10.cell? ⟨wo.heap.size+1,3,none⟩=some (int i64 lo):=GG.cell 3;have y4:w10.cell? ⟨wo.heap.size+1,4,none⟩=some (int i64 hi):=GG.cell 4;refine jK _ _ ?_;clear jK K5)
   exact⟨⟨k+1,hlt,by push_cast;rfl,by rw[HCk.out],hid ⟨by rw[HBs.out,List.map_append];exact hown5,(((hT.out.2.trans (BT.out.mono zo)).alloc zo _).trans (below_grown aU zm (fun g hg=>(bG HT1.out hg).1)))⟩⟩,by simp[intOf];omega⟩
  ·obtain rfl:k=ng:=zo
   gi_wp2
   go_ret3
   exact⟨_,rfl,eG hT.out.1 (Nat.le_succ _),BO.out⟩
theorem PN(b:Bk)(rA:Option Addr)(nr rc:Nat)(rt:Nat→Int)(d:Int)(w:World)(h:b.At w w.heap.size)(ok:b.Ok)(hcap:b.ng≤b.gc)(hl:∀s∈au b,fG s)(hr:Ints w w.heap.size rA nr rt)(hnr:nr=b.ng)(hne:∀k,k<b.ng→(vD b k).2.2=true)(hpk:∀k,k<b.ng→1≤(b.g k).pack)(hrt:∀i,i<nr→0≤rt i∧rt i≤99)(hd:0≤d∧d≤99):
 CallsIn FF 0 prog 20 #[b.val,.slice rA nr rc,int i64 d] w fun e w'=>∃v,e=.returned (.tuple #[v,int i64 (xw b rt d b.ng),int i64 0])∧w'.ownsRow w.heap.size 3 1 v b.ng ((xg b rt d b.ng).map (int i64))∧Below w.heap.size w w':=by
 have HO:=hid fun w h=>nU b w h ok hcap
 have HB:=hid fun A p w hc hr=>pD b A p rA nr rc rt d w hc ok hl hr hnr hne hpk
 have HE:=hid fun(w:World) (hI:Ints w w.heap.size rA nr rt)=>show CallsIn FF 0 prog 58 #[.slice rA nr rc,int i64 b.ng,int i64 99] w fun e w'=>e=.returned (int i64 0)∧Below w.heap.size w w' from by
  have:=JI rt rA nr rc 99 w hI (by unfold maxLen;have:=ok.dn.1.2;omega) hrt
  rwa[hnr] at this⊢
 have HN:=hid fun(w:World)=>show CallsIn FF 0 prog 56 #[int i64 d,int i64 0,int i64 99] w fun e w'=>e=.returned (.bool true)∧w=w' from by
  have:=dw d 0 99 w
  have e:gI d 0 99=true:=by unfold gI;simp;omega
  rwa[e] at this
 have HR:=hid fun(w':World) (hb:Below w.heap.size w w')=>show Ints w' w'.heap.size rA nr rt from(Rows.below hr hb).more hb.size
 have HA:=hid h
 obtain⟨n,hn⟩:∃n,n=(au b).length:=⟨_,rfl⟩
 rw[← hn] at HO HB
 obtain⟨BL,hBL⟩:∃BL,BL=xg b rt d b.ng:=⟨_,rfl⟩
 obtain⟨CN,fe⟩:∃CN,CN=xw b rt d b.ng:=⟨_,rfl⟩
 rw[← hBL,← fe] at HB⊢
 clear hn h hcap hl ok hBL fe hr hne hpk hrt hd hnr
 obtain⟨days,most,gA,ng,gc,g,mA,nm,mc,m,cA,nc,cc,c⟩:=b
 simp only[Bk.val,Bk.cells,ay] at HO HB HE⊢
 gi_enter func20,ntmps20
 gi_wp2_with (first
  | (gi_at_call 36;refine(HO.out _ (HA.out.up (bw))).mono ?_;rintro e w2 ⟨A,p,rfl,hc2,hb2,-⟩;have JX:Hid (Below w.heap.size w (w2.alloc (.cells #[int i64 days,int i64 most,.slice gA ng gc,.slice mA nm mc,.slice cA nc cc,.slice A n p] 73))):=hid (Below.al (Below.next (show Below w.heap.size w (w.alloc (.cells #[int i64 days,int i64 most,.slice gA ng gc,.slice mA nm mc,.slice cA nc cc] 26)) from bw) hb2) _))
  | (gi_at_call 58;refine(HE.out _ (HR.out _ JX.out)).mono ?_;rintro e w3 ⟨rfl,hb3⟩;have X3:Whole w3 w2.heap.size 73 #[int i64 days,int i64 most,.slice gA ng gc,.slice mA nm mc,.slice cA nc cc,.slice A n p]:=(Whole.new w2 _ _).below hb3 zs;have x0:w3.cell? ⟨w2.heap.size,0,none⟩=some (int i64 days):=X3.cell 0;have x1:w3.cell? ⟨w2.heap.size,1,none⟩=some (int i64 most):=X3.cell 1;have x2:w3.cell? ⟨w2.heap.size,2,none⟩=some (.slice gA ng gc):=X3.cell 2;have x3:w3.cell? ⟨w2.heap.size,3,none⟩=some (.slice mA nm mc):=X3.cell 3;have x4:w3.cell? ⟨w2.heap.size,4,none⟩=some (.slice cA nc cc):=X3.cell 4;have x5:w3.cell? ⟨w2.heap.size,5,none⟩=some (.slice A n p):=X3.cell 5)
  | (gi_at_call 56;refine(HN.out _).mono ?_;rintro e w4 ⟨rfl,rfl⟩)
  | (gi_at_call 59;refine(HB.out A p _ ((hc2.below (bw)).below hb3) (HR.out _ (Below.next JX.out hb3))).mono ?_;rintro e w5 ⟨v,rfl,hv,hb5⟩))
 go_ret3
 exact⟨v,rfl,eG hv (by have:=JX.out.size;have:=hb3.size;omega),Below.next (Below.next JX.out hb3) hb5⟩
theorem Tryz.infoL:(Tryz.prog.info? 30).map (fun i=>(i.zero,i.size,i.bytes))=some (some (.slice none 0 0),1,24):=zk
theorem TK(g:Nat)(c:Nat)(v f:Value)(w:World)(hv:∃A n p,v=.slice A n p)(hc:w.cell? ⟨g,0,none⟩=some v):CallsIn FF 0 prog 110 #[f,.slice (some ⟨g,0,none⟩) 1 c] w fun e w'=>e=.returned (.tuple #[v,.bool true])∧Below w.heap.size w w':=by
 obtain⟨A,n,p,rfl⟩:=hv
 gi_enter func110,ntmps110
 gi_wp2
 refine wpIn_loop_rounds 2 ?_
 rw[roundsIn_succ]
 gi_wp2
 repeat (refine⟨fun f h=>(by cases h),?_⟩;gi_wp2)
 rw[roundsIn_succ]
 gi_wp2
 go_ret2
 exact⟨rfl,Below.refl _ _⟩
theorem Kj(s:Nat)(hs:s<1024)(g c:Nat)(w:World)(hc:w.cell? ⟨g,0,none⟩=some (int i64 s)):CallsIn FF 0 prog 82 #[.slice (some ⟨g,0,none⟩) 1 c] w fun e w'=>∃v,e=.returned (.tuple #[v,.bool true])∧w'.ownsRow w.heap.size 3 1 v (aM s 10).length ((aM s 10).map (int i64))∧Below w.heap.size w w':=by
 have HS:=hid fun w=>mO s w hs
 have HL:=hid fun g c v w hv hc=>TK g c v (.func (.func 111) #[] #[]) w hv hc
 obtain⟨i0,hi,hz0,hz1,hz2⟩:=info_parts Tryz.infoL
 have hi0:=hid hi
 obtain⟨L,hL⟩:∃L,L=aM s 10:=⟨_,rfl⟩
 rw[← hL] at HS⊢
 clear hL hi
 gi_enter func82,ntmps82
 gi_wp2
 refine wpIn_loop_rounds 2 ?_
 rw[roundsIn_succ]
 gi_wp2_with (first
  | (gi_at_call 100;refine(HS.out w).mono ?_;rintro e w3 ⟨v,rfl,hown,hb3⟩;have lP:=hid hown;have hv:=fO hown;have HV:=hid hv;obtain⟨A3,n3,p3,rfl⟩:=hv;clear hown)
  | (gi_at_builtin;refine aF rfl rfl rfl fun K5 jK=>?_;refine wp_append_lies _ _ _ _ rfl w3.heap.size 30 i0 _ 1 24 underlying44 hi0.out hz0 hz1 hz2 rfl zo (.slice none 0 0) 0 [] rfl ⟨rfl,.inl ⟨rfl,rfl⟩⟩ ⟨w3.heap.size,0,none⟩ 1 1 [_] rfl rfl (World.news_of_block (heap_alloc_new w3 _)) (by simp[Value.oneCell']) zo zu zo zs (w3.heap.size+1) zs ?_;intro rV qJ w10 hown5 aU nI qO;refine jK _ _ ?_;clear jK K5))
 rw[roundsIn_succ]
 gi_wp2_with (gi_at_call 110;refine(HL.out _ _ _ w10 HV.out ?_).mono ?_;rotate_left;(rintro e w12 ⟨rfl,JW⟩))
 ·go_ret2
  have Ri:Below w.heap.size w w10:=(Below.al hb3 _).trans (below_grown aU (by simp;have:=hb3.size;omega) (fun g hg=>by cases hg))
  exact⟨_,rfl,own_below (iF (aL lP.out _) aU (fun g hg=>by simp[Value.ownBlock])) JW,Below.next Ri JW⟩
 ·have:=hown5.cells (g:=rV) rfl 0 (.slice A3 n3 p3) zs
  simpa [Addr.add] using this
theorem Uv(b:Bk)(ok:b.Ok)(s:Nat)(hl:fG s)(Bb Bl:Nat)(w:World)(hb:Whole w Bb 71 b.cells)(hw:Whole w Bl 3 #[int i64 s])(hA:b.At w w.heap.size):qB FF 102 #[.pointer (some ⟨Bb,0,none⟩),.pointer (some ⟨Bl,0,none⟩)] (jZ b s) w:=by
 refine⟨zs,enters_of func102 zk rfl,fun C W hW hC=>?_⟩
 exact Vk (p:=FF.fn) b ok s (by rcases hl with rfl|rfl|rfl|rfl <;> decide) C w.heap.size Bb Bl W (fun x hx=>(hC x hx).2) (hb.below hW hb.lt) (hw.below hW hw.lt) (hA.below hW) hW.size (fun h=>by have:=(hC _ h).1;have:=hb.lt;omega) (fun h=>by have:=(hC _ h).1;have:=hw.lt;omega) (fun x hx h=>by have:=(hC _ h).1;omega)
theorem Ql(b:Bk)(ok:b.Ok)(s:Nat)(hl:fG s)(w:World)(hA:b.At w w.heap.size):CallsIn FF 0 prog 73 #[b.val,int i64 s] w fun e w'=>∃lb,e=.returned (.func (.func 102) #[] lb)∧qB FF 102 lb (jZ b s) w'∧Below w.heap.size w w':=by
 refine(Vr (p:=FF.fn) b s w).mono ?_
 rintro e w' ⟨rfl,hb,hi,hbw,-⟩
 exact⟨_,rfl,Uv b ok s hl _ _ w' hb hi (hA.up hbw),hbw⟩
def DW(b:Bk)(k:Nat):List Int:=(((au b).take k).filter fun s=>!(jZ b s).isEmpty).map fun(n:Nat)=>(n:Int)
theorem NU(b:Bk)(k:Nat)(hk:k<(au b).length):DW b (k+1)=DW b k ++ if (!(jZ b ((au b).getD k 0)).isEmpty)=true then[(((au b).getD k 0:Nat):Int)] else[]:=by
 unfold DW
 rw[List.take_add_one,List.getD_eq_getElem?_getD,List.getElem?_eq_getElem hk,List.filter_append,List.map_append]
 congr 1
 simp only[Option.toList,Option.getD,List.filter_cons,List.filter_nil]
 split <;> simp_all
theorem RX(b:Bk)(k:Nat):(DW b k).length≤(au b).length:=by
 unfold DW
 rw[List.length_map]
 exact Nat.le_trans (List.length_filter_le _ _) (by rw[List.length_take];exact Nat.min_le_right _ _)
theorem WA(b:Bk)(A:Option Addr)(p:Nat)(s0:Nat)(w:World)(hc:oV b A w)(ok:b.Ok)(hl:∀s∈au b,fG s)(hcan:DW b (au b).length=[(s0:Int)])(hs0:s0<1024):
 CallsIn FF 0 prog 60 #[.agg (ay b A (au b).length p)] w fun e w'=>∃v,e=.returned (.tuple #[v,.bool true])∧w'.ownsRow w.heap.size 3 1 v (aM s0 10).length ((aM s0 10).map (int i64))∧Below w.heap.size w w':=by
 have HT:=hid fun k (w':World) (hk:k<(au b).length) (hA:b.At w' w'.heap.size)=>Ql b ok ((au b).getD k 0) (hl _ (by rw[List.getD_eq_getElem?_getD,List.getElem?_eq_getElem hk];exact List.getElem_mem hk)) w' hA
 have HY:=hid fun k lb (w':World) h=>ZR (p:=FF.fn) 102 lb (jZ b ((au b).getD k 0)) w' h
 have HL:=hid fun g c w hc=>Kj s0 hs0 g c w hc
 have HC:=hid hc
 have HR:=hid hc.row
 have B8:=hid hc.at_
 obtain⟨n,hn⟩:∃n,n=(au b).length:=⟨_,rfl⟩
 obtain⟨LN,An⟩:∃LN:Nat→Nat,LN=fun k=>(au b).getD k 0:=⟨_,rfl⟩
 obtain⟨T,hT⟩:∃T:Nat→List Ht,T=fun k=>jZ b ((au b).getD k 0):=⟨_,rfl⟩
 obtain⟨F,hF⟩:∃F:Nat→List Int,F=DW b:=⟨_,rfl⟩
 have SP:Hid (∀k (w':World),k<n→b.At w' w'.heap.size→CallsIn FF 0 prog 73 #[b.val,int i64 (LN k)] w' fun e w''=>∃lb,e=.returned (.func (.func 102) #[] lb)∧qB FF 102 lb (T k) w''∧Below w'.heap.size w' w''):=hid fun k w' hk hA=>by rw[An,hT];rw[hn] at hk;exact HT.out k w' hk hA
 have HY':Hid (∀k lb (w':World),qB FF 102 lb (T k) w'→CallsIn FF 0 prog 81 #[.func (.func 102) #[] lb] w' fun e w''=>e=.returned (.bool (!(T k).isEmpty))∧Below w'.heap.size w' w''):=hid fun k lb w' h=>by rw[hT] at h⊢;exact HY.out k lb w' h
 have HR':Hid (Rows w w.heap.size 1 A n (fun i _=>int i64 ((LN i:Nat):Int))):=hid (by rw[An,hn];exact HR.out)
 have HF0:Hid (F 0=[]):=hid (by rw[hF];rfl)
 have C6:Hid (∀k,k<n→F (k+1)=F k ++ if (!(T k).isEmpty)=true then[((LN k:Nat):Int)] else[]):=hid fun k hk=>by rw[hF,hT,An];rw[hn] at hk;exact NU b k hk
 have HFn:Hid (F n=[(s0:Int)]):=hid (by rw[hF,hn];exact hcan)
 have HFl:Hid (∀k,(F k).length≤64):=hid fun k=>by rw[hF];exact Nat.le_trans (RX b k) (lT b ok)
 have aaH:n≤64:=by rw[hn];exact lT b ok
 obtain⟨L0,hL0⟩:∃L,L=aM s0 10:=⟨_,rfl⟩
 rw[← hL0] at HL⊢
 rw[← hn]
 obtain⟨i0,hi,hz0,hz1,hz2⟩:=info_parts info3
 have hi0:=hid hi
 clear hi hn An hT hF HT HY HR hcan hl ok hc HC hL0 hs0
 obtain⟨days,most,gA,ng,gc,g,mA,nm,mc,m,cA,nc,cc,c⟩:=b
 simp only[Bk.val,Bk.cells,ay] at SP⊢
 obtain⟨w1,hw1⟩:∃w1,w1=w.alloc (.cells #[int i64 days,int i64 most,.slice gA ng gc,.slice mA nm mc,.slice cA nc cc,.slice A n p] 73):=⟨_,rfl⟩
 have B1:Hid (Below w.heap.size w w1):=hid (by rw[hw1];exact bw)
 have X1:Hid (Whole w1 w.heap.size 73 #[int i64 days,int i64 most,.slice gA ng gc,.slice mA nm mc,.slice cA nc cc,.slice A n p]):=hid (by rw[hw1];exact Whole.new _ _ _)
 have hs1:w1.heap.size=w.heap.size+1:=by rw[hw1];simp
 have nK:=hid hw1
 clear hw1
 gi_enter func60,ntmps60
 gi_wp2
 rw[← nK.out]
 clear nK
 gi_loopw [4,10] (fun l i wr=>∃k:Nat,k≤n∧i=int i64 k∧Hid (wr.ownsRow (w.heap.size+1) 3 1 l (F k).length ((F k).map (int i64))∧Below (w.heap.size+1) w1 wr)) (fun _ i _=>n - (intOf i).toNat)
 case atStart=>exact⟨0,Nat.zero_le _,rfl,hid ⟨by rw[HF0.out];exact ji _ (w.heap.size+1) 3,Below.refl _ _⟩⟩
 case round=>
  obtain⟨k,hk,rfl,hT⟩:=hrel
  obtain⟨A9,n9,p9,rfl⟩:=fO hT.out.1
  obtain⟨wo,rfl⟩:∃wo:World,wo=wr:=⟨_,rfl⟩
  have hso:w.heap.size+1≤wo.heap.size:=by have:=hT.out.2.size;omega
  have BO:Hid (Below w.heap.size w wo):=hid (B1.out.trans (hT.out.2.mono zo))
  by_cases hlt:k<n
  ·obtain⟨ad,hA',hbl,-⟩:=HR'.out (show 0<n by omega)
   subst hA'
   obtain⟨s,hs⟩:∃s,s=LN k:=⟨_,rfl⟩
   have d0:wo.cell? (ad.add k)=some (int i64 s):=by
    rw[hs]
    refine(BO.out.cell (by rw[aD];exact hbl)).trans ?_
    have:=(HR'.out.row hlt).2 0 zD
    rwa[Nat.mul_one,add_zero'] at this
   have ID:=SP.out k wo hlt (B8.out.up BO.out)
   have yW:=C6.out k hlt
   have hFl:=HFl.out k
   rw[← hs] at ID yW
   obtain⟨t,ht⟩:∃t,t=!(T k).isEmpty:=⟨_,rfl⟩
   have IH:=fun lb w' h=>HY'.out k lb w' h
   rw[← ht] at IH yW
   have X2:=hid (X1.out.below hT.out.2 zo)
   have x0:wo.cell? ⟨w.heap.size,0,none⟩=some (int i64 days):=X2.out.cell 0
   have x1:wo.cell? ⟨w.heap.size,1,none⟩=some (int i64 most):=X2.out.cell 1
   have x2:wo.cell? ⟨w.heap.size,2,none⟩=some (.slice gA ng gc):=X2.out.cell 2
   have x3:wo.cell? ⟨w.heap.size,3,none⟩=some (.slice mA nm mc):=X2.out.cell 3
   have x4:wo.cell? ⟨w.heap.size,4,none⟩=some (.slice cA nc cc):=X2.out.cell 4
   have SU:=hid ID
   have SW:=hid IH
   have RR:=hid yW
   clear ID IH yW hs ht
   cases t
   ·gi_wp2_with (first
     | (gi_at_call 73;refine SU.out.mono ?_;rintro e w4 ⟨lb,rfl,hs4,hb4⟩)
     | (gi_at_call 81;refine(SW.out lb _ hs4).mono ?_;rintro e w5 ⟨rfl,hb5⟩))
    have OB:=hb4.trans (hb5.mono hb4.size)
    exact⟨⟨k+1,hlt,by push_cast;rfl,hid ⟨by rw[RR.out];simpa using own_below hT.out.1 OB,hT.out.2.trans (OB.mono hso)⟩⟩,by simp[intOf];omega⟩
   ·gi_wp2_with (first
     | (gi_at_call 73;refine SU.out.mono ?_;rintro e w4 ⟨lb,rfl,hs4,hb4⟩)
     | (gi_at_call 81;refine(SW.out lb _ hs4).mono ?_;rintro e w5 ⟨rfl,hb5⟩;have OB:=hb4.trans (hb5.mono hb4.size);have Ho:=hid (own_below hT.out.1 OB);have hs5:=OB.size)
     | (gi_at_builtin;refine aF rfl rfl rfl fun K5 jK=>?_;refine wp_append_lies _ _ _ _ rfl (w.heap.size+1) 3 i0 _ 1 8 underlying30 hi0.out hz0 hz1 hz2 rfl zo (.slice A9 n9 p9) (F k).length _ rfl (aL Ho.out _) ⟨w5.heap.size,0,none⟩ 1 1 [_] rfl rfl (World.news_of_block (heap_alloc_new w5 _)) (by simp[Value.oneCell']) zo zu zo zm (w5.heap.size+1) zs ?_;intro rV qJ w10 hown5 aU nI qO;refine jK _ _ ?_;clear jK K5))
    exact⟨⟨k+1,hlt,by push_cast;rfl,hid ⟨by rw[RR.out];simpa using hown5,((hT.out.2.trans (OB.mono hso)).alloc zo _).trans (below_grown aU zm (fun g hg=>(bG Ho.out hg).1))⟩⟩,by simp[intOf];omega⟩
  ·obtain rfl:k=n:=zo
   have hown:=hT.out.1
   rw[HFn.out] at hown
   obtain⟨g9,c9,hv,-,-⟩:=hown.form zs
   have hcl:=hown.cells (g:=g9) (by rw[hv];rfl) 0 (int i64 s0) zs
   injection hv with h1 h2 h3
   subst h1 h2 h3
   have hcl:wo.cell? ⟨g9,0,none⟩=some (int i64 s0):=by simpa [Addr.add] using hcl
   gi_wp2_with (gi_at_call 82;refine(HL.out _ _ _ hcl).mono ?_;rintro e w12 ⟨v,rfl,LS,JW⟩)
   go_ret2
   exact⟨_,rfl,eG LS zo,Below.next BO.out JW⟩
theorem Io(b:Bk)(s0:Nat)(w:World)(h:b.At w w.heap.size)(ok:b.Ok)(hcap:b.ng≤b.gc)(hl:∀s∈au b,fG s)(hcan:DW b (au b).length=[(s0:Int)])(hs0:s0<1024):CallsIn FF 0 prog 21 #[b.val] w fun e w'=>∃v,e=.returned (.tuple #[v,int i64 0])∧w'.ownsRow w.heap.size 3 1 v (aM s0 10).length ((aM s0 10).map (int i64))∧Below w.heap.size w w':=by
 have HO:=hid fun w h=>nU b w h ok hcap
 have HB:=hid fun A p w hc=>WA b A p s0 w hc ok hl hcan hs0
 have HA:=hid h
 obtain⟨n,hn⟩:∃n,n=(au b).length:=⟨_,rfl⟩
 rw[← hn] at HO HB
 obtain⟨L0,hL0⟩:∃L,L=aM s0 10:=⟨_,rfl⟩
 rw[← hL0] at HB⊢
 clear hn h hcap hl ok hcan hs0 hL0
 obtain⟨days,most,gA,ng,gc,g,mA,nm,mc,m,cA,nc,cc,c⟩:=b
 simp only[Bk.val,Bk.cells,ay] at HO HB⊢
 gi_enter func21,ntmps21
 gi_wp2_with (first
  | (gi_at_call 36;refine(HO.out _ (HA.out.up (bw))).mono ?_;rintro e w2 ⟨A,p,rfl,hc2,hb2,-⟩)
  | (gi_at_call 60;refine(HB.out A p _ (hc2.below (bw))).mono ?_;rintro e w4 ⟨v,rfl,hv,hb4⟩))
 go_ret2
 have JX:=Below.al (Below.next (show Below w.heap.size w (w.alloc (.cells #[int i64 days,int i64 most,.slice gA ng gc,.slice mA nm mc,.slice cA nc cc] 26)) from bw) hb2) (.cells #[int i64 days,int i64 most,.slice gA ng gc,.slice mA nm mc,.slice cA nc cc,.slice A n p] 73)
 exact⟨v,rfl,eG hv JX.size,Below.next JX hb4⟩
theorem Tryz.infoCt:(Tryz.prog.info? 88).map (fun i=>(i.zero,i.size,i.bytes))=some (some (.agg #[int i64 0,int i64 0,int i64 0,int i64 0]),4,32):=zk
def Hd(c:Ct):List Value:=[int i64 c.good,int i64 c.day,int i64 c.lo,int i64 c.hi]
def JG(f:Nat→Ct)(k:Nat):List Value:=(List.range k).flatMap fun i=>Hd (f i)
theorem tL(f:Nat→Ct)(k:Nat):JG f (k+1)=JG f k ++ Hd (f k):=by unfold JG;rw[List.range_succ,List.flatMap_append];simp
theorem rT(f:Nat→Ct):∀k,(JG f k).length=k * 4
 | 0=>rfl
 | Nat.succ k=>by rw[tL,List.length_append,rT f k];simp[Hd];omega
theorem LZ(f:Nat→Ct):∀ (k:Nat) {i j:Nat},i<k→j<4→(JG f k)[i * 4+j]? =some ((f i).cell j)
 | 0,_,_,h,_=>zo
 | Nat.succ k,i,j,h,hj=>by
   rw[tL]
   rcases Nat.lt_or_ge i k with h1|h1
   ·rw[List.getElem?_append_left (by rw[rT];omega)]
    exact LZ f k h1 hj
   ·obtain rfl:i=k:=zo
    rw[List.getElem?_append_right (by rw[rT];omega),rT]
    rw[show i * 4+j - i * 4=j by omega]
    rcases(show j=0∨j=1∨j=2∨j=3 by omega) with rfl|rfl|rfl|rfl <;> rfl
def R7(b:Bk)(s:Nat)(i:Nat):Ct:=b.c ((aM s 10).getD i 0).toNat
def jh(b:Bk)(s:Nat)(A:Option Addr)(cc:Nat):Bk:=⟨b.days,b.most,b.gA,b.ng,b.gc,b.g,b.mA,b.nm,b.mc,b.m,A,(aM s 10).length,cc,R7 b s⟩
theorem Wv(b:Bk)(s:Nat)(A:Option Addr)(n p:Nat)(w:World)(hA:b.At w w.heap.size)(hs:s<1024)(hin:∀x∈aM s 10,0≤x∧x<b.nc):
 CallsIn SF 0 prog 88 #[.agg (ay b A n p),int i64 s] w fun e w'=>∃A' cc',e=.returned (.agg (ay (jh b s A' cc') A n p))∧Rows w' w'.heap.size 4 A' (aM s 10).length (fun i j=>(R7 b s i).cell j)∧Below w.heap.size w w':=by
 have HS:=hid fun w=>Go.Proofs.YtmjjocnfidnelaaGreat.W.mO s w hs
 obtain⟨f,hf⟩:∃f,f=R7 b s:=⟨_,rfl⟩
 obtain⟨m',hm'⟩:∃m,m=(aM s 10).length:=⟨_,rfl⟩
 have aaF:m'≤10:=by rw[hm'];exact uz s 10
 have HF:Hid (∀k,k<m'→∃j:Nat,(aM s 10).getD k 0=(j:Int)∧j<b.nc∧f k=b.c j):=hid fun k hk=>by
  rw[hm'] at hk
  have hmem:(aM s 10).getD k 0∈aM s 10:=by rw[List.getD_eq_getElem?_getD,List.getElem?_eq_getElem hk];exact List.getElem_mem hk
  have:=hin _ hmem
  refine⟨((aM s 10).getD k 0).toNat,zo,zo,by rw[hf];rfl⟩
 have hnc:m'=0∨0<b.nc:=by
  rcases Nat.eq_zero_or_pos m' with h|h
  ·exact .inl h
  ·obtain⟨j,_,hj,_⟩:=HF.out 0 h
   exact .inr zo
 have HE:Hid (∀A' cc',ay (jh b s A' cc') A n p=#[int i64 b.days,int i64 b.most,.slice b.gA b.ng b.gc,.slice b.mA b.nm b.mc,.slice A' m' cc',.slice A n p]):=hid fun A' cc'=>by rw[hm'];rfl
 have goal:∀ (e:Ending) (w':World),(∃A' cc',e=.returned (.agg #[int i64 b.days,int i64 b.most,.slice b.gA b.ng b.gc,.slice b.mA b.nm b.mc,.slice A' m' cc',.slice A n p])∧Rows w' w'.heap.size 4 A' m' (fun i j=>(f i).cell j)∧Below w.heap.size w w')→∃A' cc',e=.returned (.agg (ay (jh b s A' cc') A n p))∧Rows w' w'.heap.size 4 A' (aM s 10).length (fun i j=>(R7 b s i).cell j)∧Below w.heap.size w w':=fun e w' ⟨A',cc',h1,h2,h3⟩=>⟨A',cc',by rw[HE.out];exact h1,by rw[← hm',← hf];exact h2,h3⟩
 refine CallsIn.mono ?_ goal
 obtain⟨L,hL⟩:∃L,L=aM s 10:=⟨_,rfl⟩
 rw[← hL] at HS HF hm'
 have HM:=hid hm'
 have HA:=hid hA
 obtain⟨i0,hi,hz0,hz1,hz2⟩:=info_parts Tryz.infoCt
 have hi0:=hid hi
 clear hi hf hm' hA hin hL goal HE
 obtain⟨days,most,gA,ng,gc,g,mA,nm,mc,m,cA,nc,cc,c⟩:=b
 simp only[ay] at HF hnc⊢
 obtain⟨w1,hw1⟩:∃w1,w1=(w.alloc (.cells #[int i64 days,int i64 most,.slice gA ng gc,.slice mA nm mc,.slice cA nc cc,.slice A n p] 73)).alloc (.cells #[int i64 0,int i64 0,.slice none 0 0,.slice none 0 0,.slice none 0 0,.slice none 0 0] 73):=⟨_,rfl⟩
 have B1:Hid (Below w.heap.size w w1):=hid (by rw[hw1];exact bw)
 have X1:Hid (Whole w1 w.heap.size 73 #[int i64 days,int i64 most,.slice gA ng gc,.slice mA nm mc,.slice cA nc cc,.slice A n p]):=hid (by rw[hw1];exact(Whole.new _ _ _).alloc _)
 have Y1:Hid (Whole w1 (w.heap.size+1) 73 #[int i64 0,int i64 0,.slice none 0 0,.slice none 0 0,.slice none 0 0,.slice none 0 0]):=hid (by
  have:=Whole.new (w.alloc (.cells #[int i64 days,int i64 most,.slice gA ng gc,.slice mA nm mc,.slice cA nc cc,.slice A n p] 73)) 73 #[int i64 0,int i64 0,.slice none 0 0,.slice none 0 0,.slice none 0 0,.slice none 0 0]
  rw[World.size_alloc] at this;rw[hw1];exact this)
 have hs1:w1.heap.size=w.heap.size+2:=by rw[hw1];simp
 have nK:=hid hw1
 clear hw1
 gi_enter func88,ntmps88
 gi_wp2_with (gi_at_call 100;rw[← nK.out];refine(HS.out w1).mono ?_;rintro e w3 ⟨v,rfl,hown,hb3⟩;obtain⟨AL,cL,rfl⟩:=dD hown;have HI:=hid (aT hown);have HB3:=hid hb3;rw[← HM.out];rw[← HM.out] at HI)
 have X3:=hid (X1.out.below HB3.out X1.out.lt)
 have Y3:=hid (Y1.out.below HB3.out Y1.out.lt)
 have hs3:=hb3.size
 have BW3:Hid (Below w.heap.size w w3):=hid (B1.out.trans (hb3.mono B1.out.size))
 clear hown hb3 nK
 gi_loopw [5,11] (fun l i wr=>∃k:Nat,k≤m'∧i=int i64 k∧Hid (wr.ownsRow w3.heap.size 88 4 l k (JG f k)∧Below w3.heap.size w3 wr)) (fun _ i _=>m' - (intOf i).toNat)
 case atStart=>exact⟨0,Nat.zero_le _,rfl,hid ⟨⟨by simp[JG],.inl ⟨rfl,zs⟩⟩,Below.refl _ _⟩⟩
 case round=>
  obtain⟨k,hk,rfl,hT⟩:=hrel
  obtain⟨A9,n9,p9,rfl⟩:=fO hT.out.1
  obtain⟨wo,rfl⟩:∃wo:World,wo=wr:=⟨_,rfl⟩
  have hso:=hT.out.2.size
  have X4:=hid (X3.out.below hT.out.2 X3.out.lt)
  have Y4:=hid (Y3.out.below hT.out.2 Y3.out.lt)
  have BO:Hid (Below w.heap.size w wo):=hid (BW3.out.trans (hT.out.2.mono zo))
  by_cases hlt:k<m'
  ·obtain⟨j,hj1,hj2,hj3⟩:=HF.out k hlt
   obtain⟨ad,hA',hbl,-⟩:=HA.out.c (show 0<nc by omega)
   simp only at hA' hj2 hj3
   subst hA'
   obtain⟨al,hAL,hall,-⟩:=HI.out (show 0<m' by omega)
   subst hAL
   have d0:wo.cell? (al.add k)=some (int i64 j):=by
    refine(hT.out.2.cell (by rw[aD];exact hall)).trans ?_
    have:=HI.out.at_ hlt
    rw[hj1] at this
    exact this
   have hr:∀q,q<4→wo.cell? ((ad.add (j * 4)).add q)=some ((f k).cell q):=fun q hq=>by rw[hj3];exact((HA.out.c.below BO.out).row hj2).2 q hq
   obtain⟨fk,fp⟩:∃fk,fk=f k:=⟨_,rfl⟩
   rw[← fp] at hr
   have HFK:=hid fp
   obtain⟨gd,dy,lo,hi⟩:=fk
   have c0:wo.cell? (ad.add (j * 4))=some (int i64 gd):=hr 0 zD
   have c1:wo.cell? ⟨(ad.add (j * 4)).block,(ad.add (j * 4)).off+1,none⟩=some (int i64 dy):=hr 1 zD
   have c2:wo.cell? ⟨(ad.add (j * 4)).block,(ad.add (j * 4)).off+2,none⟩=some (int i64 lo):=hr 2 zD
   have c3:wo.cell? ⟨(ad.add (j * 4)).block,(ad.add (j * 4)).off+3,none⟩=some (int i64 hi):=hr 3 zD
   have x4:wo.cell? ⟨w.heap.size,4,none⟩=some (.slice (some ad) nc cc):=X4.out.cell 4
   clear hr hj1 hj3 fp
   have Ho:=hid hT.out.1
   gi_wp2_with (gi_at_builtin;refine aF rfl rfl rfl fun K5 jK=>?_;refine wp_append_lies _ _ _ _ rfl w3.heap.size 88 i0 _ 4 32 underlying24 hi0.out hz0 hz1 hz2 rfl zo (.slice A9 n9 p9) k _ rfl (aL Ho.out _) ⟨wo.heap.size,0,none⟩ 1 1 [int i64 gd,int i64 dy,int i64 lo,int i64 hi] rfl rfl (World.news_of_block (heap_alloc_new wo _)) (by simp[Value.oneCell']) zo zu zo zm (wo.heap.size+1) zs ?_;intro rV qJ w10 hown5 aU nI qO;refine jK _ _ ?_;clear jK K5)
   exact⟨⟨k+1,hlt,by push_cast;rfl,hid ⟨by rw[tL,← HFK.out];exact hown5,(hT.out.2.alloc hso _).trans (below_grown aU zm (fun g hg=>(bG Ho.out hg).1))⟩⟩,by simp[intOf];omega⟩
  ·obtain rfl:k=m':=zo
   obtain⟨A',c',hv'⟩:=dD hT.out.1
   injection hv' with h1 h2 h3
   subst h1 h2 h3
   have x0:wo.cell? ⟨w.heap.size,0,none⟩=some (int i64 days):=X4.out.cell 0
   have x1:wo.cell? ⟨w.heap.size,1,none⟩=some (int i64 most):=X4.out.cell 1
   have x2:wo.cell? ⟨w.heap.size,2,none⟩=some (.slice gA ng gc):=X4.out.cell 2
   have x3:wo.cell? ⟨w.heap.size,3,none⟩=some (.slice mA nm mc):=X4.out.cell 3
   have x4:wo.cell? ⟨w.heap.size,4,none⟩=some (.slice cA nc cc):=X4.out.cell 4
   have x5:wo.cell? ⟨w.heap.size,5,none⟩=some (.slice A n p):=X4.out.cell 5
   have y0:wo.cell? ⟨w.heap.size+1,0,none⟩=some (int i64 0):=Y4.out.cell 0
   have y1:wo.cell? ⟨w.heap.size+1,1,none⟩=some (int i64 0):=Y4.out.cell 1
   have y2:wo.cell? ⟨w.heap.size+1,2,none⟩=some (.slice none 0 0):=Y4.out.cell 2
   have y3:wo.cell? ⟨w.heap.size+1,3,none⟩=some (.slice none 0 0):=Y4.out.cell 3
   have y4:wo.cell? ⟨w.heap.size+1,4,none⟩=some (.slice none 0 0):=Y4.out.cell 4
   have y5:wo.cell? ⟨w.heap.size+1,5,none⟩=some (.slice none 0 0):=Y4.out.cell 5
   have xth:=X4.out.thaw
   have yth:=Y4.out.thaw
   gi_wp2
   have U:=((((((Y4.out.other (p:=⟨w.heap.size,4,none⟩) zs (.slice A9 n9 p9)).set 0 (int i64 days)).set 1 (int i64 most)).set 2 (.slice gA ng gc)).set 3 (.slice mA nm mc)).set 4 (.slice A9 n9 p9)).set 5 (.slice A n p)
   have u0:=U.cell 0
   have u1:=U.cell 1
   have u2:=U.cell 2
   have u3:=U.cell 3
   have u4:=U.cell 4
   have u5:=U.cell 5
   refine bodyPost_ret (v:=.agg #[int i64 days,int i64 most,.slice gA ng gc,.slice mA nm mc,.slice A9 n9 p9,.slice A n p]) (by simp[results,results88,go_sem,u0,u1,u2,u3,u4,u5]) rfl ⟨_,_,rfl,?_,?_⟩
   ·intro hn0
    obtain⟨g9,cp9,hg0,hg1,hg2⟩:=hT.out.1.form hn0
    injection hg0 with h1 h2 h3
    subst h1
    refine⟨_,rfl,by simpa [World.setCell] using hg2,fun i j hi hj=>?_⟩
    have hcl:=hT.out.1.cells (g:=g9) rfl (i * 4+j) _ (LZ f n9 hi hj)
    refine Eq.trans ?_ hcl
    have hne:∀q:Addr,q.block=w.heap.size∨q.block=w.heap.size+1→∀ (W:World) (v:Value),(W.setCell q v).cell? ((⟨g9,0,none⟩:Addr).add (i * 4+j))=W.cell? ((⟨g9,0,none⟩:Addr).add (i * 4+j)):=fun q hq W v=>World.cell?_of_block (Below.heap_setCell _ _ _ _ (by rw[aD];simp only;omega))
    rw[hne _ (.inr rfl),hne _ (.inr rfl),hne _ (.inr rfl),hne _ (.inr rfl),hne _ (.inr rfl),hne _ (.inr rfl),hne _ (.inl rfl)]
   ·exact((((((BO.out.setCell (p:=⟨w.heap.size,4,none⟩) zs _).setCell zs _).setCell zs _).setCell zs _).setCell zs _).setCell zs _).setCell zs _
theorem eA(b:Bk)(s:Nat)(A:Option Addr)(cc:Nat)(ok:b.Ok)(h4:(aM s 10).length≤4)(hin:∀x∈aM s 10,0≤x∧x<b.nc):(jh b s A cc).Ok:={
 days:=ok.days
 most:=ok.most
 dn:=⟨ok.dn.1,fun i hi=>let h:=ok.dn.2 i hi;⟨h.name,h.other,h.cost,h.pack,h.few⟩⟩
 moves:=⟨ok.moves.1,fun i hi=>let h:=ok.moves.2 i hi;⟨h.kind,h.good,h.day,h.order,h.few⟩⟩
 counts:=⟨h4,fun i hi=>by
  have hi':i<(aM s 10).length:=hi
  have hmem:(aM s 10).getD i 0∈aM s 10:=by rw[List.getD_eq_getElem?_getD,List.getElem?_eq_getElem hi'];exact List.getElem_mem hi'
  have hx:=hin _ hmem
  have h:=ok.counts.2 ((aM s 10).getD i 0).toNat zo
  exact⟨h.good,h.day,h.many⟩⟩ }
theorem KT(b:Bk)(ok:b.Ok)(ls:List Nat)(hl:∀s∈ls,fG s)(hn:ls.length≤64)(A:Option Addr)(p Bc:Nat)(w:World)(hA:b.At w w.heap.size)(hR:Rows w w.heap.size 1 A ls.length (fun i _=>int i64 ((ls.getD i 0:Nat):Int)))(hb:Whole w Bc 73 (ay b A ls.length p)):qB SF 71 #[.pointer (some ⟨Bc,0,none⟩)] (aH b ls) w:=by
 refine⟨zs,enters_of func71 zk rfl,fun C W hW hC=>?_⟩
 exact J5 (p:=SF.fn) b ok A p ls hl hn C w.heap.size Bc W (fun x hx=>(hC x hx).2) (hb.below hW hb.lt) (hR.below hW) (hA.below hW) hW.size (fun h=>by have:=(hC _ h).1;have:=hb.lt;omega) (fun x hx h=>by have:=(hC _ h).1;omega)
end
section
open Go.RowKit
theorem wJ(most:Int)(G M C:Nat):au (Tb most G M C)=[0,1,8,9]:=zk
theorem fB(most:Int)(G M C:Nat):∀s∈au (Tb most G M C),fG s:=by
 rw[wJ]
 intro s hs
 simp at hs
 exact hs
theorem jY(most:Int)(hm:0≤most∧most≤2)(G M C:Nat):(Tb most G M C).Ok:={
 days:=(by decide:(1:Int)≤10∧(10:Int)≤99)
 most:=hm
 dn:=⟨(by decide:1≤2∧2≤3),fun i hi=>by
  have hi:i<2:=hi
  rcases(show i=0∨i=1 by omega) with rfl|rfl
  ·exact⟨of_decide_eq_true zk,fun j hj=>zo,(by decide:(0:Int)≤5∧(5:Int)≤999),(by decide:(1:Int)≤4∧(4:Int)≤20),of_decide_eq_true zk⟩
  ·refine⟨of_decide_eq_true zk,fun j hj=>?_,(by decide:(0:Int)≤2∧(2:Int)≤999),(by decide:(1:Int)≤10∧(10:Int)≤20),of_decide_eq_true zk⟩
   obtain rfl:j=0:=zo
   exact of_decide_eq_true zk⟩
 moves:=⟨(by decide:4≤6),fun i hi=>by
  have hi:i<4:=hi
  rcases(show i=0∨i=1∨i=2∨i=3 by omega) with rfl|rfl|rfl|rfl
  all_goals exact⟨of_decide_eq_true zk,of_decide_eq_true zk,of_decide_eq_true zk,of_decide_eq_true zk,of_decide_eq_true zk⟩⟩
 counts:=⟨(by decide:2≤4),fun i hi=>by
  have hi:i<2:=hi
  rcases(show i=0∨i=1 by omega) with rfl|rfl
  all_goals exact⟨of_decide_eq_true zk,of_decide_eq_true zk,of_decide_eq_true zk⟩⟩ }
theorem lH(G M C:Nat):(aH (Tb 1 G M C) (au (Tb 1 G M C))).length=4:=zk
theorem vt(G M C:Nat):((aH (Tb 1 G M C) (au (Tb 1 G M C))).filter fun h=>h.IY 3).length=4:=zk
theorem vr(G M C:Nat):((aH (Tb 1 G M C) (au (Tb 1 G M C))).filter fun h=>h.IY 0).length=0:=zk
theorem Zf(G M C:Nat):bX (fun h=>kM (Tb 1 G M C) h 1 1 10 4) (aH (Tb 1 G M C) (au (Tb 1 G M C)))=(0,1,true):=zk
theorem Vj(G M C:Nat):bX (fun h=>iJ (Tb 1 G M C) (stk (Tb 1 G M C) h 10 4) 2) (aH (Tb 1 G M C) (au (Tb 1 G M C)))=(30,35,true):=zk
theorem Ve(G M C:Nat):bX (fun h=>IntKind.i64.wrap ((stk (Tb 1 G M C) h 10 4 0).tdiv 2)) (aH (Tb 1 G M C) (au (Tb 1 G M C)))=(2,2,true):=zk
theorem km(G M C:Nat):DW (Tb 1 G M C) (au (Tb 1 G M C)).length=[8]:=zk
theorem Qf(G M C:Nat)(A:Option Addr)(cc:Nat):(aH (jh (Tb 0 G M C) 0 A cc) (au (Tb 0 G M C))).isEmpty=false:=zk
theorem Qg(G M C:Nat)(A:Option Addr)(cc:Nat):(aH (jh (Tb 0 G M C) 1 A cc) (au (Tb 0 G M C))).isEmpty=false:=zk
theorem Qh(G M C:Nat)(A:Option Addr)(cc:Nat):(aH (jh (Tb 0 G M C) 2 A cc) (au (Tb 0 G M C))).isEmpty=true:=zk
theorem Qi(G M C:Nat)(A:Option Addr)(cc:Nat):(aH (jh (Tb 0 G M C) 3 A cc) (au (Tb 0 G M C))).isEmpty=true:=zk
def rates:Nat→Int
 | 0=>2
 | _=>3
theorem Zc(G M C:Nat):xg (Tb 1 G M C) rates 4 2=[1,1]:=zk
theorem Zd(G M C:Nat):xw (Tb 1 G M C) rates 4 2=40:=zk
theorem Zl(G M C:Nat):∀k,k<2→(vD (Tb 1 G M C) k).2.2=true:=fun k hk=>by
 rcases(show k=0∨k=1 by omega) with rfl|rfl
 ·kernel_rfl
 ·kernel_rfl
end
section
open Go Go.RowKit Go.Maps Go.Sort Go.Shelf
def keysA_ren:Go.Shelf.Ren:=⟨fun|7=>76|10=>109|n=>n,fun|23=>120|26=>3|3=>4|28=>123|0=>0|27=>122|33=>96|4=>4|n=>n,fun|n=>n⟩
theorem keysA:Go.Proofs.SlLaysZI.n7 prog keysA_ren:=⟨zk,⟨Tryz.f76.name,zD,Tryz.func76.trans (congrArg some zk)⟩,⟨Tryz.f109.name,zD,Tryz.func109.trans (congrArg some zk)⟩,zk,isAgg0,sizeOf0,zeroValue0,zk,isAgg4,sizeOf4,zeroValue4,zk,isAgg120,sizeOf120,zeroValue120,zk,isAgg3,sizeOf3,zeroValue3,zk,isAgg122,sizeOf122,zeroValue122,zk,isAgg123,sizeOf123,zeroValue123,zk,isAgg96,sizeOf96,zeroValue96⟩
def sortedA_ren:Go.Shelf.Ren:=⟨fun|6=>75|8=>107|9=>108|11=>123|13=>125|12=>124|23=>162|24=>163|14=>153|15=>154|16=>155|17=>156|18=>157|19=>158|20=>159|21=>160|22=>161|25=>174|26=>175|27=>176|28=>177|29=>178|30=>164|31=>181|n=>n,fun|26=>3|28=>123|24=>30|0=>0|3=>3|37=>149|48=>166|50=>163|4=>4|40=>204|39=>203|45=>199|5=>5|9=>9|51=>218|55=>221|57=>225|58=>110|33=>96|n=>n,fun|n=>n⟩
theorem sortedA:Go.Proofs.SlLaysZI.n6 prog sortedA_ren:=⟨zk,⟨Tryz.f75.name,zD,Tryz.func75.trans (congrArg some zk)⟩,⟨Tryz.f107.name,zD,Tryz.func107.trans (congrArg some zk)⟩,⟨Tryz.f123.name,zD,Tryz.func123.trans (congrArg some zk)⟩,zk,isAgg0,sizeOf0,zeroValue0,zk,isAgg30,sizeOf30,zeroValue30,zk,isAgg3,sizeOf3,zeroValue3,zk,isAgg123,sizeOf123,zeroValue123,zk⟩
def sortA_ren:Go.Shelf.Ren:=⟨fun|5=>108|8=>125|7=>124|19=>162|20=>163|10=>153|11=>154|12=>155|13=>156|14=>157|15=>158|16=>159|17=>160|18=>161|30=>174|31=>175|32=>176|33=>177|34=>178|35=>164|40=>181|n=>n,fun|23=>30|25=>3|3=>3|32=>149|22=>30|0=>0|44=>166|46=>163|4=>4|36=>204|35=>203|41=>199|5=>5|9=>9|53=>218|57=>221|63=>225|64=>110|n=>n,fun|n=>n⟩
theorem sortA:Go.Proofs.SlLaysM.n5 prog sortA_ren:=⟨zk,⟨Tryz.f108.name,zD,Tryz.func108.trans (congrArg some zk)⟩,⟨Tryz.f124.name,zD,Tryz.func124.trans (congrArg some zk)⟩,Tryz.func125.trans (congrArg some zk),⟨Tryz.f153.name,zD,Tryz.func153.trans (congrArg some zk)⟩,⟨Tryz.f154.name,zD,Tryz.func154.trans (congrArg some zk)⟩,⟨Tryz.f155.name,zD,Tryz.func155.trans (congrArg some zk)⟩,⟨Tryz.f156.name,zD,Tryz.func156.trans (congrArg some zk)⟩,⟨Tryz.f157.name,zD,Tryz.func157.trans (congrArg some zk)⟩,⟨Tryz.f158.name,zD,Tryz.func158.trans (congrArg some zk)⟩,⟨Tryz.f159.name,zD,Tryz.func159.trans (congrArg some zk)⟩,⟨Tryz.f160.name,zD,Tryz.func160.trans (congrArg some zk)⟩,⟨Tryz.f161.name,zD,Tryz.func161.trans (congrArg some zk)⟩,Tryz.func162.trans (congrArg some zk),Tryz.func163.trans (congrArg some zk),⟨Tryz.f174.name,zD,Tryz.func174.trans (congrArg some zk)⟩,Tryz.func175.trans (congrArg some zk),Tryz.func176.trans (congrArg some zk),⟨Tryz.f177.name,zD,Tryz.func177.trans (congrArg some zk)⟩,⟨Tryz.f178.name,zD,Tryz.func178.trans (congrArg some zk)⟩,⟨Tryz.f164.name,zD,Tryz.func164.trans (congrArg some zk)⟩,⟨Tryz.f181.name,zD,Tryz.func181.trans (congrArg some zk)⟩,zk,isAgg0,sizeOf0,zeroValue0,zk,isAgg3,sizeOf3,zeroValue3,zk,isAgg4,sizeOf4,zeroValue4,zk,isAgg5,sizeOf5,zeroValue5,zk,isAgg9,sizeOf9,zeroValue9,zk,isAgg30,sizeOf30,zeroValue30,zk,isAgg30,sizeOf30,zeroValue30,zk,isAgg3,sizeOf3,zeroValue3,zk,isAgg149,sizeOf149,zeroValue149,zk,isAgg203,sizeOf203,zeroValue203,zk,isAgg204,sizeOf204,zeroValue204,zk,isAgg199,sizeOf199,zeroValue199,zk,isAgg166,sizeOf166,zeroValue166,zk,isAgg163,sizeOf163,zeroValue163,zk,isAgg218,sizeOf218,zeroValue218,zk,isAgg221,sizeOf221,zeroValue221,zk,isAgg225,sizeOf225,zeroValue225,zk,isAgg110,sizeOf110,zeroValue110⟩
def Ly(g:Nat):Bool:=decide ((3≤g∧g<112)∨(116≤g∧g<129)∨(147≤g∧g<165)∨(170≤g∧g<182))
theorem kX{g:Nat}(h:Ly g=true):FF.fn g:=(qL g).2 (by unfold Ly at h;exact of_decide_eq_true h)
theorem MF{L:List Nat}(h:L.all Ly=true):∀x∈L,FF.fn x:=fun x hx=>kX (List.all_eq_true.1 h x hx)
theorem xc{L:List FuncId}{n m:Nat}{P:Program}{f:FuncId}{args:Array Value}{w:World}{R:Ending→World→Prop}(hL:∀x∈L,FF.fn x)(hf:FF.fn f)(h:∀D,CallsIn (Fence.list L (some D)) n P f args w R):CallsIn FF m P f args w R:=by
 refine⟨hf,fun cs _=>?_⟩
 obtain⟨e,w',fr,r,hs,rest⟩:=(h (cs.length+1+n)).2 cs (fun d hd=>by cases hd;exact Nat.le_refl _)
 have hm:∀x:Machine,x.fenced P (Fence.list L (some (cs.length+1+n)))→x.fenced P FF:=fun x hx g hg=>by
  obtain⟨a,b,c,d⟩:=hx g hg
  exact⟨a,b.imp (hL _) id,fun f hf=>hL _ (c f hf),fun d hd=>by cases hd⟩
 refine⟨e,w',fr,r,?_,rest⟩
 cases e with
 | returned v=>exact fU hm hs
 | panicked c=>exact fU hm hs
 | outgrown=>exact hs
theorem Ie(m:Nat):AnyZI.SortsIn prog sortedA_ren FF m:=
 ⟨fun blk off cap ss W hH hblk hsz=>xc (MF zk) (kX zk) fun D=>AnySM.slices_Sort_int_in sortA D blk off cap ss W hH hblk hsz,
  fun p cap W=>xc (MF zk) (kX zk) fun D=>AnySM.slices_Sort_int_none_in sortA D p cap W⟩
theorem Gk{n m:Nat}{P:Program}{f:FuncId}{args:Array Value}{w:World}{R:Ending→World→Prop}(h:CallsIn FF n P f args w R):CallsIn FF m P f args w R:=⟨h.1,fun cs _=>h.2 cs (fun d hd=>by cases hd)⟩
theorem Xz(mb:Option Nat)(W:World):CallsIn FF 0 prog 76 #[.map mb] W fun e w'=>e=.returned (.func (.func 109) #[] #[.pointer (some ⟨W.heap.size,0,none⟩)])∧w'=W.alloc (.cells #[.map mb] 120):=
 AnyZI.keys_in keysA FF 0 (kX zk) rfl mb W
theorem PG{H:Type}(b nn:Nat)(D0:DataW H)(R:Value→Option (DataW H × List MemPlace))(B:Nat)(w:World)(hB:Whole w B 120 #[.map (some b)])(hown:w.ownsMap prog 3 R b nn D0)(hmax:Maps.size D0≤maxLen)(hbytes:Maps.size D0 * 8≤140737488355328):
 CallsIn FF 0 prog 75 #[.func (.func 109) #[] #[.pointer (some ⟨B,0,none⟩)]] w fun e w'=>∃ (v:Value) (ss:List Int),e=.returned v∧ss.Perm (intKeys D0)∧
  w'.ownsRow w.heap.size 3 1 v ss.length ((ss.mergeSort (fun x y=>decide (x≤y))).map encZ)∧(v=.slice none 0 0↔ss=[])∧Below w.heap.size w w':=by
 have hseq:SeqGives FF 1 prog 109 #[.pointer (some ⟨B,0,none⟩)] encZ (fun ss=>ss.Perm (intKeys D0)) (Maps.size D0) w:=
  AnyZI.keys_gives (ρ:=keysA_ren) {keysA with } FF 1 (kX zk) rfl zo B b nn D0 _ hB.lt (hB.cell 0) hown
 have cS:=AnyZI.sorted_in sortedA FF 4 (kX zk) (kX zk) (kX zk) (kX zk) rfl zo (Ie _) (enters_of func108 zk rfl) 109 #[.pointer (some ⟨B,0,none⟩)] (kX zk) (enters_of func109 zk rfl) _ _ hmax hbytes _ hseq
 exact Gk cS
end
end Go.Proofs.YtmjjocnfidnelaaGreat
