/- HB AE0 AD7 -/
import Derived.Test.YthaelabgfnnebaaGreatB3
set_option maxRecDepth 100000
set_option maxHeartbeats 16000000
set_option linter.unusedVariables false
set_option linter.unusedSectionVars false
open Go.IntKind(i64)
open Go.Lib(hid)
open Go.Proofs.Tryz
open Go.Value(int)
namespace Go.Proofs.YthaelabgfnnebaaGreat
section
open Go.RowKit
open Go.Sort (grow)
attribute [local go_sem] Oper.semAt_some
theorem NM(q:Good)(m:Int)(w:World)(hp:1≤q.pack):CallsIn FF 0 prog 72 #[Au q,int i64 m] w fun e w'=>e=.returned (int i64 (max 0 (wrap64 ((wrap64 (wrap64 (m+q.pack) - 1)).tdiv q.pack))))∧Below w.heap.size w w':=by
 obtain⟨nm,co,pk,lo,hi⟩:=q
 simp only[Au] at hp⊢
 have h0:¬ pk=0:=zo
 gi_enter func72,ntmps72
 gi_wp2
 go_ret
 exact⟨rfl,bw⟩
def bC(b:Bk)(gd:Nat):Int × Int × Bool:=bf (fun h=>stk b h b.days b.nm gd) (aC b (ak b))
def lD(q:Good)(m:Int):Int:=max 0 (wrap64 ((wrap64 (wrap64 (m+q.pack) - 1)).tdiv q.pack))
def yB(b:Bk)(rt:Nat→Int)(d:Int)(k:Nat):Int:=lD (b.g k) (IntKind.i64.wrap (IntKind.i64.wrap (rt k * d) - (bC b k).1))
def qN(b:Bk)(rt:Nat→Int)(d:Int)(k:Nat):List Int:=(List.range k).map (yB b rt d)
theorem Mx(b:Bk)(rt:Nat→Int)(d:Int)(k:Nat):qN b rt d (k+1)=qN b rt d k ++ [yB b rt d k]:=by unfold qN;rw[List.range_succ,List.map_append];rfl
theorem vO(b:Bk)(rt:Nat→Int)(d:Int)(k:Nat):(qN b rt d k).length=k:=by simp[qN]
def qR(b:Bk)(rt:Nat→Int)(d:Int):Nat→Int
 | 0=>0
 | Nat.succ k=>wrap64 (qR b rt d k+wrap64 (wrap64 (yB b rt d k * (b.g k).pack) * (b.g k).cost))
theorem kn(b:Bk)(A:Option Addr)(p:Nat)(rA:Option Addr)(nr rc:Nat)(rt:Nat→Int)(d:Int)(w:World)(hc:nQ b A w)(ok:b.Ok)(hl:∀s∈ak b,cO s)(hr:Ints w w.heap.size rA nr rt)(hnr:nr=b.ng)(hne:∀k,k<b.ng→(bC b k).2.2=true)(hpk:∀k,k<b.ng→1≤(b.g k).pack):
 CallsIn FF 0 prog 36 #[.agg (aA b A (ak b).length p),.slice rA nr rc,int i64 d] w fun e w'=>∃v,e=.returned (.tuple #[v,int i64 (qR b rt d b.ng),int i64 0])∧w'.ownsRow w.heap.size 3 1 v b.ng ((qN b rt d b.ng).map (int i64))∧Below w.heap.size w w':=by
 have hx:=iG b ok (ak b) hl
 have HH:=hid fun A p w hc=>qJ b ok hl A p w hc
 have hg3:b.ng≤3:=ok.bJ.1.2
 have HK:=hid fun lb A n p Bc B w k (hk:k<b.ng) h hA hc hB=>by
  have:=wZ 76 lb 71 #[.pointer (some ⟨Bc,0,none⟩),.pointer (some ⟨B,0,none⟩)] (fun h=>stk b h b.days b.nm k) (aC b (ak b)) w h (ZI b ok A n p k zo _ hx Bc B w hA hc hB)
  change CallsIn _ _ _ _ _ _ fun e w'=>e=.returned (.tuple #[.agg #[int i64 (bC b k).1,int i64 (bC b k).2.1],int i64 (if (bC b k).2.2 then 0 else 9)])∧_ at this
  rw[hne k hk] at this
  exact this
 have HP:=hid fun k m (w:World) (hk:k<b.ng)=>show CallsIn FF 0 prog 72 #[Au (b.g k),int i64 m] w fun e w'=>e=.returned (int i64 (lD (b.g k) m))∧Below w.heap.size w w' from NM (b.g k) m w (hpk k hk)
 have HC:=hid hc
 have Za:=hid fun A w (h:nQ b A w)=>h.at_
 have E7:=hid fun A (w w':World) (h:nQ b A w) (hb:Below w.heap.size w w')=>h.below hb
 have HR:=hid hr
 obtain⟨n,hn⟩:∃n,n=(ak b).length:=⟨_,rfl⟩
 obtain⟨xs,hxs⟩:∃xs,xs=aC b (ak b):=⟨_,rfl⟩
 rw[← hn] at HH⊢
 rw[← hxs] at HH HK
 obtain⟨SG,xj⟩:∃SG,SG=bC b:=⟨_,rfl⟩
 obtain⟨BM,fN⟩:∃BM,BM=yB b rt d:=⟨_,rfl⟩
 obtain⟨BL,hBL⟩:∃BL,BL=qN b rt d:=⟨_,rfl⟩
 obtain⟨CN,Z4⟩:∃CN,CN=qR b rt d:=⟨_,rfl⟩
 have E0:Hid (∀k,BM k=lD (b.g k) (IntKind.i64.wrap (IntKind.i64.wrap (rt k * d) - (SG k).1))):=hid fun k=>by rw[fN,xj];rfl
 have tl:Hid (BL 0=[]):=hid (by rw[hBL];rfl)
 have tp:Hid (∀k,BL (k+1)=BL k ++ [BM k]):=hid fun k=>by rw[hBL,fN];exact Mx b rt d k
 have tn:Hid (∀k,(BL k).length=k):=hid fun k=>by rw[hBL];exact vO b rt d k
 have tB:Hid (CN 0=0):=hid (by rw[Z4];rfl)
 have gR:Hid (∀k,CN (k+1)=wrap64 (CN k+wrap64 (wrap64 (BM k * (b.g k).pack) * (b.g k).cost))):=hid fun k=>by rw[Z4,fN];rfl
 rw[← xj] at HK
 rw[← hBL,← Z4]
 obtain⟨i0,hi,hz0,hz1,hz2⟩:=info_parts info3
 have hi0:=hid hi
 clear hi hn hxs hc hl ok hpk hx hr hne xj fN hBL Z4
 subst hnr
 obtain⟨days,most,gA,ng,gc,g,mA,nm,mc,m,cA,nc,cc,c⟩:=b
 simp only[aA,Au] at HH HK HP E0 gR hg3 HR⊢
 obtain⟨w1,hw1⟩:∃w1,w1=w.alloc (.cells #[int i64 days,int i64 most,.slice gA ng gc,.slice mA nm mc,.slice cA nc cc,.slice A n p] 76):=⟨_,rfl⟩
 have B1:Hid (Below w.heap.size w w1):=hid (by rw[hw1];exact bw)
 have X1:Hid (Whole w1 w.heap.size 76 #[int i64 days,int i64 most,.slice gA ng gc,.slice mA nm mc,.slice cA nc cc,.slice A n p]):=hid (by rw[hw1];exact Whole.new _ _ _)
 have hs1:w1.heap.size=w.heap.size+1:=by rw[hw1];simp
 have lV:=hid hw1
 clear hw1
 gi_enter func36,ntmps36
 gi_wp2
 rw[← lV.out]
 clear lV
 gi_loopw [6,7,19] (fun l u i wr=>∃k:Nat,k≤ng∧i=int i64 k∧u=int i64 (CN k)∧Hid (wr.ownsRow (w.heap.size+1) 3 1 l k ((BL k).map (int i64))∧Below (w.heap.size+1) w1 wr)) (fun _ _ i _=>ng - (intOf i).toNat)
 case atStart=>exact⟨0,Nat.zero_le _,rfl,by rw[tB.out],hid ⟨by rw[tl.out];exact nX _ (w.heap.size+1) 3,Below.refl _ _⟩⟩
 case round=>
  obtain⟨k,hk,rfl,rfl,hT⟩:=hrel
  obtain⟨A9,n9,p9,rfl⟩:=gK hT.out.1
  obtain⟨wo,rfl⟩:∃wo:World,wo=wr:=⟨_,rfl⟩
  have hso:w.heap.size+1≤wo.heap.size:=by have:=hT.out.2.size;omega
  have BO:Hid (Below w.heap.size w wo):=hid (B1.out.trans (hT.out.2.mono zo))
  by_cases hlt:k<ng
  ·obtain⟨ad,hA',hbl,-⟩:=(Za.out A w HC.out).g (show 0<ng by omega)
   simp only at hA'
   subst hA'
   obtain⟨gk,Dh⟩:∃gk,gk=g k:=⟨_,rfl⟩
   have hr:∀j,j<5→wo.cell? ((ad.add (k * 5)).add j)=some (gk.cell j):=fun j hj=>by rw[Dh];exact(((Za.out (A) w HC.out).g.below BO.out)).row hlt |>.2 j hj
   have ry:=E0.out k
   have lh:=gR.out k
   have rN:=fun m w=>HP.out k m w hlt
   have xh:=fun lb n p Bc B w'=>HK.out lb A n p Bc B w' k hlt
   have xe:=tp.out k
   rw[← Dh] at ry lh rN
   obtain⟨Lr,co,pk,lo,hi⟩:=gk
   have c0:wo.cell? (ad.add (k * 5))=some (.string Lr):=hr 0 zD
   have c1:wo.cell? ⟨(ad.add (k * 5)).block,(ad.add (k * 5)).off+1,none⟩=some (int i64 co):=hr 1 zD
   have c2:wo.cell? ⟨(ad.add (k * 5)).block,(ad.add (k * 5)).off+2,none⟩=some (int i64 pk):=hr 2 zD
   have c3:wo.cell? ⟨(ad.add (k * 5)).block,(ad.add (k * 5)).off+3,none⟩=some (int i64 lo):=hr 3 zD
   have c4:wo.cell? ⟨(ad.add (k * 5)).block,(ad.add (k * 5)).off+4,none⟩=some (int i64 hi):=hr 4 zD
   obtain⟨R1,fS⟩:∃R1,R1=(SG k).1:=⟨_,rfl⟩
   obtain⟨R2,hR2⟩:∃R2,R2=(SG k).2.1:=⟨_,rfl⟩
   obtain⟨M,hM⟩:∃M,M=BM k:=⟨_,rfl⟩
   obtain⟨rk,a8⟩:∃rk,rk=rt k:=⟨_,rfl⟩
   rw[← fS,← hR2] at xh
   rw[← fS,← hM,← a8] at ry
   rw[← hM] at lh xe
   simp only at lh rN
   have NL:=hid lh
   have Nx:=hid xe
   have P2:=hid fun w=>by have:=rN (IntKind.i64.wrap (IntKind.i64.wrap (rk * d) - R1)) w;rw[← ry] at this;exact this
   have PH:=hid xh
   obtain⟨ra,hra,hrb,-⟩:=HR.out (show 0<ng by omega)
   subst hra
   have rr:wo.cell? (ra.add k)=some (int i64 rk):=by
    rw[a8]
    exact(BO.out.cell (by rw[aJ];exact hrb)).trans (HR.out.at_ hlt)
   clear hr Dh lh xe rN xh fS hR2 hM ry a8
   obtain⟨w2,hw2⟩:∃w2,w2=(wo.alloc (.cells #[int i64 k] 3)).alloc (.cells #[.string Lr,int i64 co,int i64 pk,int i64 lo,int i64 hi] 40):=⟨_,rfl⟩
   have B2:Hid (Below wo.heap.size wo w2):=hid (by rw[hw2];exact bw)
   have K2:Hid (Whole w2 wo.heap.size 3 #[int i64 k]):=hid (by rw[hw2];exact(Whole.new _ _ _).alloc _)
   have G2:Hid (Whole w2 (wo.heap.size+1) 40 #[.string Lr,int i64 co,int i64 pk,int i64 lo,int i64 hi]):=hid (by rw[hw2];exact aM zs)
   have X2:=hid ((X1.out.below hT.out.2 zo).below B2.out zo)
   have x0:w2.cell? ⟨w.heap.size,0,none⟩=some (int i64 days):=X2.out.cell 0
   have x1:w2.cell? ⟨w.heap.size,1,none⟩=some (int i64 most):=X2.out.cell 1
   have x2:w2.cell? ⟨w.heap.size,2,none⟩=some (.slice (some ad) ng gc):=X2.out.cell 2
   have x3:w2.cell? ⟨w.heap.size,3,none⟩=some (.slice mA nm mc):=X2.out.cell 3
   have x4:w2.cell? ⟨w.heap.size,4,none⟩=some (.slice cA nc cc):=X2.out.cell 4
   have x5:w2.cell? ⟨w.heap.size,5,none⟩=some (.slice A n p):=X2.out.cell 5
   have M':Hid (Below w.heap.size w w2):=hid (Below.next BO.out B2.out)
   have C2:=hid (E7.out A w w2 HC.out M'.out)
   rw[hw2] at x0 x1 x2 x3 x4 x5
   have Ei:=hid hw2
   clear hw2
   gi_wp2_with (first
    | (gi_at_call 40;rw[← Ei.out];refine(HH.out A p _ C2.out).mono ?_;rintro e w4 ⟨lb,rfl,hs4,hb4⟩;have XS:=hb4.size)
    | (gi_at_call 43;refine(PH.out lb n p _ _ _ hs4 (Za.out A _ (E7.out A w2 w4 C2.out hb4)) (X2.out.below hb4 X2.out.lt) (K2.out.below hb4 K2.out.lt)).mono ?_;rintro e w5 ⟨rfl,hb5⟩))
   have Z8:=hb4.trans (hb5.mono hb4.size)
   obtain⟨w7,hw7⟩:∃w7,w7=w5.alloc (.cells #[int i64 R1,int i64 R2] 38):=⟨_,rfl⟩
   have B7:Hid (Below w2.heap.size w2 w7):=hid (by rw[hw7];exact Z8.alloc Z8.size _)
   have S7:Hid (Whole w7 w5.heap.size 38 #[int i64 R1,int i64 R2]):=hid (by rw[hw7];exact Whole.new _ _ _)
   have K7:=hid (K2.out.below B7.out K2.out.lt)
   have G7:=hid (G2.out.below B7.out G2.out.lt)
   have D4:Hid (Below wo.heap.size wo w7):=hid (Below.next B2.out B7.out)
   have hwo:w.heap.size≤wo.heap.size:=zo
   have Mo:w7.cell? (ra.add k)=some (int i64 rk):=(D4.out.cell (by rw[aJ];omega)).trans rr
   rw[← hw7]
   clear hw7
   have qk:∀d os,(grow (redrawn w7 d) os).cell? ⟨wo.heap.size,0,none⟩=some (int i64 k):=cell_regrown (K7.out.cell 0)
   have qg0:∀d os,(grow (redrawn w7 d) os).cell? ⟨wo.heap.size+1,0,none⟩=some (.string Lr):=cell_regrown (G7.out.cell 0)
   have qg1:∀d os,(grow (redrawn w7 d) os).cell? ⟨wo.heap.size+1,1,none⟩=some (int i64 co):=cell_regrown (G7.out.cell 1)
   have qg2:∀d os,(grow (redrawn w7 d) os).cell? ⟨wo.heap.size+1,2,none⟩=some (int i64 pk):=cell_regrown (G7.out.cell 2)
   have qg3:∀d os,(grow (redrawn w7 d) os).cell? ⟨wo.heap.size+1,3,none⟩=some (int i64 lo):=cell_regrown (G7.out.cell 3)
   have qg4:∀d os,(grow (redrawn w7 d) os).cell? ⟨wo.heap.size+1,4,none⟩=some (int i64 hi):=cell_regrown (G7.out.cell 4)
   have qs:∀d os,(grow (redrawn w7 d) os).cell? ⟨w5.heap.size,0,none⟩=some (int i64 R1):=cell_regrown (S7.out.cell 0)
   have qr:∀d os,(grow (redrawn w7 d) os).cell? (ra.add k)=some (int i64 rk):=cell_regrown Mo
   have cP:∀dd os,CallsIn FF 0 prog 72 #[.agg #[.string Lr,int i64 co,int i64 pk,int i64 lo,int i64 hi],int i64 (IntKind.i64.wrap (IntKind.i64.wrap (rk * d) - R1))] (grow (redrawn w7 dd) os) fun e w''=>e=.returned (int i64 M)∧∃p:Regrown,w''=grow (redrawn w7 p.d) p.os:=fun dd os=>CallsIn.regrown_of (P2.out _)
   refine wpIn_region_quiet_below rfl zk zk ?_
   repeat (quiet_step_in (exact cP _ _))
   refine wpQuietIn_nil ?_
   rintro w' ⟨⟨dq,osq⟩,rfl⟩
   have aY:=below_regrown w7 dq osq
   clear qk qg0 qg1 qg2 qg3 qg4 qs qr cP
   generalize grow (redrawn w7 dq) osq=w9 at aY⊢
   have s8:Hid (Below wo.heap.size wo w9):=hid (Below.next D4.out aY)
   have G9:=hid (G7.out.below aY G7.out.lt)
   have Ho:=hid (own_below hT.out.1 s8.out)
   have HT1:=hid hT.out.1
   have sd:=s8.out.size
   have hk3:k≤3:=zo
   have hBn:=tn.out k
   clear aY Mo Z8 hb4 hb5 hs4 rr c0 c1 c2 c3 c4
   gi_wp2_with (gi_at_builtin;refine aG rfl rfl rfl fun K5 ko=>?_;refine wp_append_lies _ _ _ _ rfl (w.heap.size+1) 3 i0 _ 1 8 underlying30 hi0.out hz0 hz1 hz2 rfl zo (.slice A9 n9 p9) k _ rfl (bn Ho.out _) ⟨w9.heap.size,0,none⟩ 1 1 [_] rfl rfl (World.news_of_block (heap_alloc_new w9 _)) (by simp[Value.oneCell']) zo zU zo zm (w9.heap.size+1) zs ?_;intro rV qO w10 hown5 aZ ow qW;have GG:=(G9.out.alloc (.cells #[int i64 M] 3)).grown aZ (fun e=>by have:=dN HT1.out e.symm;omega);have y0:w10.cell? ⟨wo.heap.size+1,0,none⟩=some (.string Lr):=GG.cell 0;have y1:w10.cell? ⟨wo.heap.size+1,1,none⟩=some (int i64 co):=GG.cell 1;have y2:w10.cell? ⟨wo.heap.size+1,2,none⟩=some (int i64 pk):=GG.cell 2;have y3:w10.cell? ⟨wo.heap.size+1,3,none⟩=some (int i64 lo):=GG.cell 3;have y4:w10.cell? ⟨wo.heap.size+1,4,none⟩=some (int i64 hi):=GG.cell 4;refine ko _ _ ?_;clear ko K5)
   exact⟨⟨k+1,hlt,by push_cast;rfl,by rw[NL.out],hid ⟨by rw[Nx.out,List.map_append];exact hown5,(((hT.out.2.trans (s8.out.mono zo)).alloc zo _).trans (below_grown aZ zm (fun g hg=>(dN HT1.out hg).1)))⟩⟩,by simp[intOf];omega⟩
  ·obtain rfl:k=ng:=zo
   gi_wp2
   go_ret3
   exact⟨_,rfl,dV hT.out.1 (Nat.le_succ _),BO.out⟩
theorem BJ(b:Bk)(rA:Option Addr)(nr rc:Nat)(rt:Nat→Int)(d:Int)(w:World)(h:b.At w w.heap.size)(ok:b.Ok)(hcap:b.ng≤b.gc)(hl:∀s∈ak b,cO s)(hr:Ints w w.heap.size rA nr rt)(hnr:nr=b.ng)(hne:∀k,k<b.ng→(bC b k).2.2=true)(hpk:∀k,k<b.ng→1≤(b.g k).pack)(hrt:∀i,i<nr→0≤rt i∧rt i≤99)(hd:0≤d∧d≤99):
 CallsIn FF 0 prog 9 #[b.val,.slice rA nr rc,int i64 d] w fun e w'=>∃v,e=.returned (.tuple #[v,int i64 (qR b rt d b.ng),int i64 0])∧w'.ownsRow w.heap.size 3 1 v b.ng ((qN b rt d b.ng).map (int i64))∧Below w.heap.size w w':=by
 have HO:=hid fun w h=>nA b w h ok hcap
 have HB:=hid fun A p w hc hr=>kn b A p rA nr rc rt d w hc ok hl hr hnr hne hpk
 have HE:=hid fun(w:World) (hI:Ints w w.heap.size rA nr rt)=>show CallsIn FF 0 prog 34 #[.slice rA nr rc,int i64 b.ng,int i64 99] w fun e w'=>e=.returned (int i64 0)∧Below w.heap.size w w' from by
  have:=IQ rt rA nr rc 99 w hI (by unfold maxLen;have:=ok.bJ.1.2;omega) hrt
  rwa[hnr] at this⊢
 have HN:=hid fun(w:World)=>show CallsIn FF 0 prog 35 #[int i64 d,int i64 0,int i64 99] w fun e w'=>e=.returned (.bool true)∧w=w' from by
  have:=bV d 0 99 w
  have e:fV d 0 99=true:=by unfold fV;simp;omega
  rwa[e] at this
 have HR:=hid fun(w':World) (hb:Below w.heap.size w w')=>show Ints w' w'.heap.size rA nr rt from(Rows.below hr hb).more hb.size
 have HA:=hid h
 obtain⟨n,hn⟩:∃n,n=(ak b).length:=⟨_,rfl⟩
 rw[← hn] at HO HB
 obtain⟨BL,hBL⟩:∃BL,BL=qN b rt d b.ng:=⟨_,rfl⟩
 obtain⟨CN,Z4⟩:∃CN,CN=qR b rt d b.ng:=⟨_,rfl⟩
 rw[← hBL,← Z4] at HB⊢
 clear hn h hcap hl ok hBL Z4 hr hne hpk hrt hd hnr
 obtain⟨days,most,gA,ng,gc,g,mA,nm,mc,m,cA,nc,cc,c⟩:=b
 simp only[Bk.val,Bk.cells,aA] at HO HB HE⊢
 gi_enter func9,ntmps9
 gi_wp2_with (first
  | (gi_at_call 33;refine(HO.out _ (HA.out.up (bw))).mono ?_;rintro e w2 ⟨A,p,rfl,hc2,hb2,-⟩;have Jc:Hid (Below w.heap.size w (w2.alloc (.cells #[int i64 days,int i64 most,.slice gA ng gc,.slice mA nm mc,.slice cA nc cc,.slice A n p] 76))):=hid (Below.al (Below.next (show Below w.heap.size w (w.alloc (.cells #[int i64 days,int i64 most,.slice gA ng gc,.slice mA nm mc,.slice cA nc cc] 26)) from bw) hb2) _))
  | (gi_at_call 34;refine(HE.out _ (HR.out _ Jc.out)).mono ?_;rintro e w3 ⟨rfl,hb3⟩;have X3:Whole w3 w2.heap.size 76 #[int i64 days,int i64 most,.slice gA ng gc,.slice mA nm mc,.slice cA nc cc,.slice A n p]:=(Whole.new w2 _ _).below hb3 zs;have x0:w3.cell? ⟨w2.heap.size,0,none⟩=some (int i64 days):=X3.cell 0;have x1:w3.cell? ⟨w2.heap.size,1,none⟩=some (int i64 most):=X3.cell 1;have x2:w3.cell? ⟨w2.heap.size,2,none⟩=some (.slice gA ng gc):=X3.cell 2;have x3:w3.cell? ⟨w2.heap.size,3,none⟩=some (.slice mA nm mc):=X3.cell 3;have x4:w3.cell? ⟨w2.heap.size,4,none⟩=some (.slice cA nc cc):=X3.cell 4;have x5:w3.cell? ⟨w2.heap.size,5,none⟩=some (.slice A n p):=X3.cell 5)
  | (gi_at_call 35;refine(HN.out _).mono ?_;rintro e w4 ⟨rfl,rfl⟩)
  | (gi_at_call 36;refine(HB.out A p _ ((hc2.below (bw)).below hb3) (HR.out _ (Below.next Jc.out hb3))).mono ?_;rintro e w5 ⟨v,rfl,hv,hb5⟩))
 go_ret3
 exact⟨v,rfl,dV hv (by have:=Jc.out.size;have:=hb3.size;omega),Below.next (Below.next Jc.out hb3) hb5⟩
end
section
open Go.RowKit
theorem RS(b:Bk)(ok:b.Ok):∀s∈ak b,cO s:=fun s hs=>by
 have:=List.mem_range.1 (List.mem_filter.1 hs).1
 exact Nat.lt_of_lt_of_le this (Nat.le_trans (Nat.pow_le_pow_right zD ok.moves.1) zD)
theorem BG(b:Bk)(x h:Ht)(d:Int)(hf:x.f=h.f)(hl:x.lies=h.lies):∀k:Nat,(∀i,i<k→x.m i=h.m i)→stk b x d k=stk b h d k
 | 0,_=>hf
 | Nat.succ k,hm=>by
   have ih:=BG b x h d hf hl k fun i hi=>hm i zo
   have e:Yj b x k=Yj b h k:=by unfold Yj Ht.real Ht.FE;rw[hl,hm k zo]
   unfold stk
   rw[ih]
   split
   ·funext g;unfold Ai;rw[e]
   ·rfl
theorem Sw{b:Bk}{s:Nat→Int}{lo hi:Int}(hl:lo≤hi)(h:iy b s lo hi=true):∀g,g<3→0≤s g:=fun g hg=>by
 unfold iy at h
 have e:decide (hi<lo)=false:=decide_eq_false zo
 rw[e,Bool.false_or,Bool.and_eq_true] at h
 have h2:=of_decide_eq_true h.2
 rcases(show g=0∨g=1∨g=2 by omega) with rfl|rfl|rfl <;> omega
theorem KG(b:Bk)(ok:jh b)(h0:0≤b.days):∀ (n k:Nat) (h:Ht) (x:Ht),k+n=b.nm→x∈iN b n k h (stk b h b.days k)→∀g,g<3→0≤stk b x b.days b.nm g
 | 0,k,h,x,hk,hx=>by
   simp only[iN] at hx
   split at hx
   ·rename_i hr
    obtain rfl:x=h:=by simpa using hx
    obtain rfl:k=b.nm:=zo
    refine Sw ?_ hr
    unfold jf je
    rw[if_neg (Nat.lt_irrefl b.nm)]
    split
    ·exact(ok.2 (b.nm - 1) zo).day.2
    ·exact h0
   ·cases hx
 | Nat.succ n,k,h,x,hk,hx=>by
   simp only[iN] at hx
   split at hx
   ·obtain⟨z,hz,hx⟩:=List.mem_flatMap.1 hx
    refine KG b ok h0 n (k+1) (bY h k z) x zo ?_
    have e:stk b (bY h k z) b.days (k+1)=Ai b (stk b h b.days k) (bY h k z) k:=by
     show(if (b.m k).day≤b.days then Ai b (stk b (bY h k z) b.days k) (bY h k z) k else stk b (bY h k z) b.days k)=_
     rw[if_pos (ok.2 k zo).day.2,BG b (bY h k z) h b.days rfl rfl k fun i hi=>by unfold bY;simp only;rw[if_neg zo]]
    rw[e]
    exact hx
   ·cases hx
theorem Di(b:Bk)(ok:b.Ok)(ls:List Nat)(hl:∀s∈ls,cO s):∀h∈aC b ls,∀g,g<3→0≤stk b h b.days b.nm g∧stk b h b.days b.nm g≤693:=fun h hh g hg=>by
 have hok:=iG b ok ls hl h hh
 have hs:=(JR (b:=b) hok b.days b.nm ok.moves.1 g hg).2
 have hm:=ok.moves.1
 refine⟨?_,zo⟩
 unfold aC at hh
 obtain⟨s,_,hh⟩:=List.mem_flatMap.1 hh
 unfold jg at hh
 obtain⟨f,_,hh⟩:=List.mem_flatMap.1 hh
 exact KG b ok.moves (by have:=ok.days;omega) b.nm 0 ⟨f,fun _=>0,s⟩ h zo hh g hg
theorem JE(q:Good)(m:Int)(hp:1≤q.pack∧q.pack≤20)(hm:-1000≤m∧m≤10000):0≤lD q m∧lD q m≤max 0 m∧m≤lD q m * q.pack∧(lD q m=0∨lD q m * q.pack - q.pack<m)∧(m≤0→lD q m=0)∧(1≤m→1≤lD q m):=by
 unfold lD
 obtain⟨nm,co,pk,lo,hi⟩:=q
 simp only at hp⊢
 have e1:wrap64 (m+pk)=m+pk:=IntWalk.wrap64_in _ zo
 have e2:wrap64 (m+pk - 1)=m+pk - 1:=IntWalk.wrap64_in _ zo
 rw[e1,e2]
 obtain⟨q,hq,h3⟩:∃q,(m+pk - 1).tdiv pk=q∧((0≤m+pk - 1∧q=(m+pk - 1) / pk)∨(m+pk - 1<0∧q=- ((-(m+pk - 1)) / pk))):=by
  refine⟨_,rfl,?_⟩
  by_cases h:0≤m+pk - 1
  ·exact .inl ⟨h,Int.tdiv_eq_ediv_of_nonneg h⟩
  ·refine .inr ⟨zo,?_⟩
   rw[← Int.tdiv_eq_ediv_of_nonneg (show 0≤-(m+pk - 1) by omega),Int.neg_tdiv,Int.neg_neg]
 rw[hq]
 clear e1 e2 hq
 obtain⟨h1,h2⟩:=hp
 have e:wrap64 q=q:=by
  refine IntWalk.wrap64_in _ ?_
  rcases(show pk=1∨pk=2∨pk=3∨pk=4∨pk=5∨pk=6∨pk=7∨pk=8∨pk=9∨pk=10∨pk=11∨pk=12∨pk=13∨pk=14∨pk=15∨pk=16∨pk=17∨pk=18∨pk=19∨pk=20 by omega) with rfl|rfl|rfl|rfl|rfl|rfl|rfl|rfl|rfl|rfl|rfl|rfl|rfl|rfl|rfl|rfl|rfl|rfl|rfl|rfl <;> omega
 rw[e]
 clear e
 rcases(show pk=1∨pk=2∨pk=3∨pk=4∨pk=5∨pk=6∨pk=7∨pk=8∨pk=9∨pk=10∨pk=11∨pk=12∨pk=13∨pk=14∨pk=15∨pk=16∨pk=17∨pk=18∨pk=19∨pk=20 by omega) with rfl|rfl|rfl|rfl|rfl|rfl|rfl|rfl|rfl|rfl|rfl|rfl|rfl|rfl|rfl|rfl|rfl|rfl|rfl|rfl <;> omega
theorem fZ(b:Bk)(ok:b.Ok)(hl:∀s∈ak b,cO s)(hne:aC b (ak b)≠[])(k:Nat)(hk:k<3):(bC b k).2.2=true∧0≤(bC b k).1∧(bC b k).1≤(bC b k).2.1∧(bC b k).2.1≤693∧
 (∀h∈aC b (ak b),(bC b k).1≤stk b h b.days b.nm k∧stk b h b.days b.nm k≤(bC b k).2.1)∧(∃h∈aC b (ak b),stk b h b.days b.nm k=(bC b k).1)∧∃h∈aC b (ak b),stk b h b.days b.nm k=(bC b k).2.1:=by
 obtain⟨l,u,e,h1,h2,h3⟩:=sU (fun h=>stk b h b.days b.nm k) hne
 have e':bC b k=(l,u,true):=e
 rw[e']
 obtain⟨p,hp,ep⟩:=h2
 obtain⟨q,hq,eq⟩:=h3
 have n1:=Di b ok (ak b) hl p hp k hk
 have n2:=Di b ok (ak b) hl q hq k hk
 have n3:=h1 p hp
 try simp only at ep eq n3
 exact⟨rfl,(by show 0≤l;omega),(by show l≤u;omega),(by show u≤693;omega),h1,⟨p,hp,ep⟩,⟨q,hq,eq⟩⟩
theorem nk(b:Bk)(ok:b.Ok)(hl:∀s∈ak b,cO s)(hne:aC b (ak b)≠[])(k:Nat)(hk:k<3)(r:Int)(hr:1≤r∧r≤99):
 bf (fun h=>IntKind.i64.wrap ((stk b h b.days b.nm k).tdiv r)) (aC b (ak b))=((bC b k).1 / r,(bC b k).2.1 / r,true):=by
 obtain⟨_,g1,g2,g3,g4,⟨p,hp,ep⟩,⟨q,hq,eq⟩⟩:=fZ b ok hl hne k hk
 obtain⟨l,u,e,h1,⟨p',hp',S6⟩,⟨q',hq',eq'⟩⟩:=sU (fun h=>IntKind.i64.wrap ((stk b h b.days b.nm k).tdiv r)) hne
 rw[e]
 have W:∀h∈aC b (ak b),IntKind.i64.wrap ((stk b h b.days b.nm k).tdiv r)=stk b h b.days b.nm k / r:=fun h hh=>by
  have:=Di b ok (ak b) hl h hh k hk
  have h5:0≤stk b h b.days b.nm k / r:=Int.ediv_nonneg this.1 zo
  have h6:stk b h b.days b.nm k / r≤stk b h b.days b.nm k:=Int.ediv_le_self _ this.1
  rw[Int.tdiv_eq_ediv_of_nonneg this.1]
  exact IntWalk.i64_in _ zo
 have a1:=h1 p hp
 have a2:=h1 q hq
 simp only[W p hp] at a1
 simp only[W q hq] at a2
 simp only[W p' hp'] at S6
 simp only[W q' hq'] at eq'
 rw[ep] at a1
 rw[eq] at a2
 have b1:(bC b k).1 / r≤stk b p' b.days b.nm k / r:=Int.ediv_le_ediv zo (g4 p' hp').1
 have b2:stk b q' b.days b.nm k / r≤(bC b k).2.1 / r:=Int.ediv_le_ediv zo (g4 q' hq').2
 have e1:l=(bC b k).1 / r:=zo
 have e2:u=(bC b k).2.1 / r:=zo
 rw[e1,e2]
theorem tN{a r q:Int}(ha:0≤a)(hr:1≤r)(h:r≤q):a / q≤a / r:=by
 refine Int.le_ediv_of_mul_le zo ?_
 have h1:a / q * q≤a:=Int.ediv_mul_le _ zo
 have h2:0≤a / q:=Int.ediv_nonneg ha zo
 exact Int.le_trans (Int.mul_le_mul_of_nonneg_left h h2) h1
theorem Iy(b:Bk)(ok:b.Ok)(hl:∀s∈ak b,cO s)(hne:aC b (ak b)≠[])(rt:Nat→Int)(d:Int)(k:Nat)(hk:k<b.ng)(hr:0≤rt k∧rt k≤99)(hd:0≤d∧d≤99):
 yB b rt d k=lD (b.g k) (rt k * d - (bC b k).1)∧-693≤rt k * d - (bC b k).1∧rt k * d - (bC b k).1≤9801:=by
 have hk3:k<3:=by have:=ok.bJ.1.2;omega
 obtain⟨_,g1,g2,g3,_⟩:=fZ b ok hl hne k hk3
 have h1:0≤rt k * d:=Int.mul_nonneg hr.1 hd.1
 have h2:rt k * d≤99 * 99:=Int.mul_le_mul hr.2 hd.2 hd.1 zD
 refine⟨?_,zo,zo⟩
 unfold yB
 rw[IntWalk.i64_in (rt k * d) zo,IntWalk.i64_in (rt k * d - (bC b k).1) zo]
theorem Ao(b:Bk)(rt:Nat→Int)(d:Int):∀n:Nat,(∀k,k<n→yB b rt d k=0)→qR b rt d n=0
 | 0,_=>rfl
 | Nat.succ n,h=>by
   unfold qR
   rw[Ao b rt d n fun k hk=>h k zo,h n zo,Int.zero_mul]
   have e:wrap64 0=0:=IntWalk.wrap64_in _ zD
   rw[e,Int.zero_mul,e,Int.add_zero,e]
end
section
open Go.RowKit
open Go.Sort (grow)
attribute [local go_sem] Oper.semAt_some
theorem RI(b:Bk)(ok:b.Ok)(A:Option Addr)(n p:Nat)(g:Nat)(hg:g<3)(xs:List Ht)(hx:∀h∈xs,mV h)(Bc Bg Bd:Nat)(w:World)(hA:b.At w w.heap.size)(hc:Whole w Bc 76 (aA b A n p))(rt:Int)(hrt:1≤rt∧rt≤99)(hd:Whole w Bd 3 #[int i64 rt])(hgg:Whole w Bg 3 #[int i64 g]):qI FF 44 #[.pointer (some ⟨Bc,0,none⟩),.pointer (some ⟨Bg,0,none⟩),.pointer (some ⟨Bd,0,none⟩)] xs (fun h=>int i64 ((IntKind.i64.wrap ((stk b h b.days b.nm g).tdiv rt)))) w:=by
 refine⟨zs,enters_of func44 zk rfl,fun W h hh hW=>?_⟩
 have HF:=hid fun W hA=>fE b h b.days W hA ok.moves ok.bJ.1.2 (hx h hh)
 have HA:=hid (hA.up hW)
 have C1:=hid (hc.below hW hc.lt)
 have D1:=hid (hd.below hW hd.lt)
 have G1:=hid (hgg.below hW hgg.lt)
 have h1:=C1.out.lt
 have h2:=D1.out.lt
 have h3:=G1.out.lt
 show CallsIn FF 0 prog 44 #[h.val,.pointer (some ⟨Bc,0,none⟩),.pointer (some ⟨Bg,0,none⟩),.pointer (some ⟨Bd,0,none⟩)] W fun e W'=>e=.returned (int i64 ((IntKind.i64.wrap ((stk b h b.days b.nm g).tdiv rt))))∧Below W.heap.size W W'
 obtain⟨r,hr⟩:∃r,r=stk b h b.days b.nm:=⟨_,rfl⟩
 rw[← hr] at HF⊢
 clear hh hr hc hd hgg hx hA ok hW
 obtain⟨w1,hw1⟩:∃w1,w1=W.alloc (.cells h.cells 88):=⟨_,rfl⟩
 have B1:Hid (Below W.heap.size W w1):=hid (by rw[hw1];exact bw)
 have H1:Hid (Whole w1 W.heap.size 88 h.cells):=hid (by rw[hw1];exact Whole.new _ _ _)
 have C2:=hid (C1.out.below B1.out h1)
 have D2:=hid (D1.out.below B1.out h2)
 have G2:=hid (G1.out.below B1.out h3)
 have A2:=hid (HA.out.up B1.out)
 obtain⟨f,m,li⟩:=h
 obtain⟨days,most,gA,ng,gc,gs,mA,nm,mc,ms,cA,nc,cc,cs⟩:=b
 simp only[Ht.val,Ht.cells,Bk.val,Bk.cells,lH] at HF H1⊢
 simp only[aA] at C2
 simp only[Ht.cells] at hw1
 have lV:=hid hw1
 clear hw1
 have q0:∀d os,(grow (redrawn w1 d) os).cell? ⟨Bc,0,none⟩=some (int i64 days):=cell_regrown (C2.out.cell 0)
 have q1:∀d os,(grow (redrawn w1 d) os).cell? ⟨Bc,1,none⟩=some (int i64 most):=cell_regrown (C2.out.cell 1)
 have q2:∀d os,(grow (redrawn w1 d) os).cell? ⟨Bc,2,none⟩=some (.slice gA ng gc):=cell_regrown (C2.out.cell 2)
 have q3:∀d os,(grow (redrawn w1 d) os).cell? ⟨Bc,3,none⟩=some (.slice mA nm mc):=cell_regrown (C2.out.cell 3)
 have q4:∀d os,(grow (redrawn w1 d) os).cell? ⟨Bc,4,none⟩=some (.slice cA nc cc):=cell_regrown (C2.out.cell 4)
 have qd:∀d os,(grow (redrawn w1 d) os).cell? ⟨Bd,0,none⟩=some (int i64 rt):=cell_regrown (D2.out.cell 0)
 have qg:∀d os,(grow (redrawn w1 d) os).cell? ⟨Bg,0,none⟩=some (int i64 g):=cell_regrown (G2.out.cell 0)
 have x0:∀d os,(grow (redrawn w1 d) os).cell? ⟨W.heap.size,0,none⟩=some (int i64 (f 0)):=cell_regrown (H1.out.cell 0)
 have x1:∀d os,(grow (redrawn w1 d) os).cell? ⟨W.heap.size,1,none⟩=some (int i64 (f 1)):=cell_regrown (H1.out.cell 1)
 have x2:∀d os,(grow (redrawn w1 d) os).cell? ⟨W.heap.size,2,none⟩=some (int i64 (f 2)):=cell_regrown (H1.out.cell 2)
 have x3:∀d os,(grow (redrawn w1 d) os).cell? ⟨W.heap.size,3,none⟩=some (int i64 (m 0)):=cell_regrown (H1.out.cell 3)
 have x4:∀d os,(grow (redrawn w1 d) os).cell? ⟨W.heap.size,4,none⟩=some (int i64 (m 1)):=cell_regrown (H1.out.cell 4)
 have x5:∀d os,(grow (redrawn w1 d) os).cell? ⟨W.heap.size,5,none⟩=some (int i64 (m 2)):=cell_regrown (H1.out.cell 5)
 have x6:∀d os,(grow (redrawn w1 d) os).cell? ⟨W.heap.size,6,none⟩=some (int i64 (m 3)):=cell_regrown (H1.out.cell 6)
 have x7:∀d os,(grow (redrawn w1 d) os).cell? ⟨W.heap.size,7,none⟩=some (int i64 (m 4)):=cell_regrown (H1.out.cell 7)
 have x8:∀d os,(grow (redrawn w1 d) os).cell? ⟨W.heap.size,8,none⟩=some (int i64 (m 5)):=cell_regrown (H1.out.cell 8)
 have x9:∀d os,(grow (redrawn w1 d) os).cell? ⟨W.heap.size,9,none⟩=some (int i64 li):=cell_regrown (H1.out.cell 9)
 have cS:∀d os,CallsIn FF 0 prog 42 #[.agg #[int i64 days,int i64 most,.slice gA ng gc,.slice mA nm mc,.slice cA nc cc],.agg #[int i64 (f 0),int i64 (f 1),int i64 (f 2),int i64 (m 0),int i64 (m 1),int i64 (m 2),int i64 (m 3),int i64 (m 4),int i64 (m 5),int i64 li],int i64 days] (grow (redrawn w1 d) os) fun e w''=>e=.returned (.agg #[int i64 (r 0),int i64 (r 1),int i64 (r 2)])∧∃p:Regrown,w''=grow (redrawn w1 p.d) p.os:=fun d os=>CallsIn.regrown_of (HF.out _ ((A2.out.below (below_regrown w1 d os)).more (below_regrown w1 d os).size))
 have ix:∀ (u v z:Int) (w:World),(Instr.index 85 (.agg #[int i64 u,int i64 v,int i64 z]) (int i64 0)).run prog w=.ok (int i64 u) w∧(Instr.index 85 (.agg #[int i64 u,int i64 v,int i64 z]) (int i64 1)).run prog w=.ok (int i64 v) w∧(Instr.index 85 (.agg #[int i64 u,int i64 v,int i64 z]) (int i64 2)).run prog w=.ok (int i64 z) w:=fun _ _ _ _=>⟨zk,zk,zk⟩
 have sf:=fun u v z w=>(ix u v z w).1
 have si:=fun u v z w=>(ix u v z w).2.1
 have sk:=fun u v z w=>(ix u v z w).2.2
 clear ix
 have zr1:(rt == 0)=false:=zm
 have zr2:¬ rt=0:=zo
 gi_enter func44,ntmps44
 gi_wp2
 rw[← lV.out]
 refine wpIn_region_quiet_below rfl zk zk ?_
 rcases(show g=0∨g=1∨g=2 by omega) with rfl|rfl|rfl
 all_goals
  repeat (quiet_step_in (exact cS _ _))
  refine wpQuietIn_nil ?_
  rintro w' ⟨⟨dq,osq⟩,rfl⟩
  have aY:=below_regrown w1 dq osq
  gi_wp2
  go_ret
  exact⟨rfl,Below.next B1.out aY⟩
theorem Gu(b:Bk)(gd:Nat)(w:World)(h:b.At w w.heap.size)(ok:b.Ok)(hcap:b.ng≤b.gc)(hl:∀s∈ak b,cO s)(hgd:gd<b.ng)(rt:Int)(hrt:1≤rt∧rt≤99):CallsIn FF 0 prog 12 #[b.val,int i64 gd,int i64 rt] w fun e w'=>e=.returned (.tuple #[.agg #[int i64 (bf (fun h=>IntKind.i64.wrap ((stk b h b.days b.nm gd).tdiv rt)) (aC b (ak b))).1,int i64 (bf (fun h=>IntKind.i64.wrap ((stk b h b.days b.nm gd).tdiv rt)) (aC b (ak b))).2.1],int i64 (if (bf (fun h=>IntKind.i64.wrap ((stk b h b.days b.nm gd).tdiv rt)) (aC b (ak b))).2.2 then 0 else 9)])∧Below w.heap.size w w':=by
 have hx:=iG b ok (ak b) hl
 have HO:=hid fun w h=>mg b gd w h ok hcap hgd
 have HH:=hid fun A p w hc=>qJ b ok hl A p w hc
 have hg3:gd<3:=by have:=ok.bJ.1.2;omega
 have HN:=hid fun(w:World)=>show CallsIn FF 0 prog 35 #[int i64 rt,int i64 1,int i64 99] w fun e w'=>e=.returned (.bool true)∧w=w' from by
  have:=bV rt 1 99 w
  have e:fV rt 1 99=true:=by unfold fV;simp;omega
  rwa[e] at this
 have HK:=hid fun lb A n p Bc Bg B w h hA hc hg hB=>wZ 76 lb 44 #[.pointer (some ⟨Bc,0,none⟩),.pointer (some ⟨Bg,0,none⟩),.pointer (some ⟨B,0,none⟩)] (fun h=>IntKind.i64.wrap ((stk b h b.days b.nm gd).tdiv rt)) (aC b (ak b)) w h (RI b ok A n p gd hg3 _ hx Bc Bg B w hA hc rt hrt hB hg)
 have HA:=hid h
 have HC:=hid fun A w (h:nQ b A w)=>h.at_
 obtain⟨n,hn⟩:∃n,n=(ak b).length:=⟨_,rfl⟩
 obtain⟨xs,hxs⟩:∃xs,xs=aC b (ak b):=⟨_,rfl⟩
 rw[← hn] at HO HH
 rw[← hxs] at HH HK⊢
 obtain⟨⟨R1,R2,R3⟩,hR⟩:∃R,R=bf (fun h=>IntKind.i64.wrap ((stk b h b.days b.nm gd).tdiv rt)) xs:=⟨_,rfl⟩
 rw[← hR] at HK⊢
 obtain⟨R4,KM⟩:∃R4:Int,R4=if (R1,R2,R3).2.2=true then 0 else 9:=⟨_,rfl⟩
 rw[← KM] at HK⊢
 clear hn hxs h hcap hl ok hR KM hgd hx
 obtain⟨days,most,gA,ng,gc,g,mA,nm,mc,m,cA,nc,cc,c⟩:=b
 simp only[Bk.val,Bk.cells,aA] at HO HH HK⊢
 obtain⟨w1,hw1⟩:∃w1,w1=(((w.alloc (.cells #[int i64 days,int i64 most,.slice gA ng gc,.slice mA nm mc,.slice cA nc cc] 26)).alloc (.cells #[int i64 gd] 3)).alloc (.cells #[int i64 rt] 3)).alloc (.cells #[int i64 0,int i64 0] 38):=⟨_,rfl⟩
 have B1:Hid (Below w.heap.size w w1):=hid (by rw[hw1];exact bw)
 have G1:Hid (Whole w1 (w.heap.size+1) 3 #[int i64 gd]):=hid (by rw[hw1];exact((aM zs).alloc _).alloc _)
 have K1:Hid (Whole w1 (w.heap.size+1+1) 3 #[int i64 rt]):=hid (by rw[hw1];exact(aM zs).alloc _)
 have Z1:Hid (Whole w1 (w.heap.size+1+1+1) 38 #[int i64 0,int i64 0]):=hid (by rw[hw1];exact aM zs)
 have lV:=hid hw1
 clear hw1
 gi_enter func12,ntmps12
 gi_wp2_with (first
  | (gi_at_call 37;rw[← lV.out];refine(HO.out _ (HA.out.up B1.out)).mono ?_;rintro e w2 ⟨A,p,rfl,hc2,hb2⟩;have K2:=(K1.out.below hb2 K1.out.lt).alloc (.cells #[int i64 days,int i64 most,.slice gA ng gc,.slice mA nm mc,.slice cA nc cc,.slice A n p] 76);have k2:(w2.alloc (.cells #[int i64 days,int i64 most,.slice gA ng gc,.slice mA nm mc,.slice cA nc cc,.slice A n p] 76)).cell? ⟨w.heap.size+1+1,0,none⟩=some (int i64 rt):=K2.cell 0;have Z2:=(Z1.out.below hb2 Z1.out.lt).alloc (.cells #[int i64 days,int i64 most,.slice gA ng gc,.slice mA nm mc,.slice cA nc cc,.slice A n p] 76);have G2:=(G1.out.below hb2 G1.out.lt).alloc (.cells #[int i64 days,int i64 most,.slice gA ng gc,.slice mA nm mc,.slice cA nc cc,.slice A n p] 76))
  | (gi_at_call 35;refine(HN.out _).mono ?_;rintro e w3 ⟨rfl,rfl⟩)
  | (gi_at_call 40;refine(HH.out A p _ (hc2.below (bw))).mono ?_;rintro e w4 ⟨lb,rfl,hs4,hb4⟩)
  | (gi_at_call 43;refine(HK.out lb A n p _ _ _ _ hs4 ((HC.out A _ (hc2.below (bw))).up hb4) ((Whole.new w2 _ _).below hb4 zs) (G2.below hb4 G2.lt) (K2.below hb4 K2.lt)).mono ?_;rintro e w5 ⟨rfl,hb5⟩;have wB:=hb4.trans (hb5.mono hb4.size);have Z5:=Z2.below wB Z2.lt;have z0:w5.cell? ⟨w.heap.size+1+1+1,0,none⟩=some (int i64 0):=Z5.cell 0;have z1:w5.cell? ⟨w.heap.size+1+1+1,1,none⟩=some (int i64 0):=Z5.cell 1;have zf:=Z5.thaw))
 have U:=(Z5.set 0 (int i64 R1)).set 1 (int i64 R2)
 have u0:=U.cell 0
 have u1:=U.cell 1
 refine bodyPost_ret (v:=.tuple #[.agg #[int i64 R1,int i64 R2],int i64 R4]) (by simp[results,results12,go_sem,u0,u1]) rfl ⟨rfl,?_⟩
 exact((Below.next (Below.al (Below.next B1.out hb2) _) wB).setCell zm _).setCell zm _
end
end Go.Proofs.YthaelabgfnnebaaGreat
