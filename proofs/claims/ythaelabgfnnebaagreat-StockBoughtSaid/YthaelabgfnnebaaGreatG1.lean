/- AF4 LW LE LV AF5 -/
import Derived.Test.YthaelabgfnnebaaGreatB6
import Derived.Test.YthaelabgfnnebaaGreatG0
set_option maxRecDepth 100000
set_option maxHeartbeats 16000000
set_option linter.unusedVariables false
set_option linter.unusedSectionVars false
set_option linter.unusedSimpArgs false
open Go.IntKind(i64)
open Go.Lib(hid)
open Go.Proofs.Tryz
open Go.Value(int)
namespace Go.Proofs.YthaelabgfnnebaaGreat
section
open Go Go.Conc Go.ConcN Go.cu Go.Conc.Lib Go.aO Go.RowKit
attribute [local go_sem] Oper.semAt_some
variable[Inhabited aS]
theorem IL(w:World)(b:Bk)(h:b.At w w.heap.size)(hgc:b.ng≤b.gc)(hd:-9223372036854775808≤b.days∧b.days≤9223372036854775807)(pA:Option Addr)(np pc:Nat)(ps:Nat→Int)(hp:ZI w w.heap.size pA np ps)(hnp:np≤maxLen)(uH good:Int)(hdy:0≤uH∧uH≤255)(hg:0≤good∧good≤255):
 iM 3 #[b.val,.slice pA np pc,.int .u8 uH,.int .u8 good] w (rZ w):=by
 have HU:=hid hp
 clear hp
 obtain⟨days,most,gA,ng,gc,g,mA,nm,mc,m,cA,nc,cc,c⟩:=b
 simp only[Bk.val,Bk.cells]
 refine ko func3 rfl zs ?_
 simp only[show Tryz.f3.ntmps=182 from rfl,List.size_toArray,List.length_cons,List.length_nil,Nat.reduceAdd,Nat.reduceSub,Array.replicate_succ,Array.replicate_zero,List.push_toArray,List.append_toArray,List.nil_append,List.cons_append]
 repeat refine aj.seq ?_
 refine aj.item ?_
 gi_wp2
 repeat refine aj.seq ?_
 refine aj.item ?_
 have Hh:=hid h
 have Rg:=hid hgc
 have W1:=hid ((h.alloc (Nat.le_refl _) (.cells #[int i64 days,int i64 most,.slice gA ng gc,.slice mA nm mc,.slice cA nc cc] 26)).more (show w.heap.size≤_ by simp):(⟨days,most,gA,ng,gc,g,mA,nm,mc,m,cA,nc,cc,c⟩:Bk).At (w.alloc (.cells #[int i64 days,int i64 most,.slice gA ng gc,.slice mA nm mc,.slice cA nc cc] 26)) (w.alloc (.cells #[int i64 days,int i64 most,.slice gA ng gc,.slice mA nm mc,.slice cA nc cc] 26)).heap.size)
 have hbx:=Whole.new w 26 #[int i64 days,int i64 most,.slice gA ng gc,.slice mA nm mc,.slice cA nc cc]
 have hB1:Below w.heap.size w (w.alloc (.cells #[int i64 days,int i64 most,.slice gA ng gc,.slice mA nm mc,.slice cA nc cc] 26)):=(Below.refl _ _).alloc (Nat.le_refl _) _
 have hs1:w.heap.size<(w.alloc (.cells #[int i64 days,int i64 most,.slice gA ng gc,.slice mA nm mc,.slice cA nc cc] 26)).heap.size:=zs
 clear h hgc
 generalize w.alloc (.cells #[int i64 days,int i64 most,.slice gA ng gc,.slice mA nm mc,.slice cA nc cc] 26)=w1 at *
 have c1:∀o,w1.cell? ⟨w.heap.size,o,none⟩=(#[int i64 days,int i64 most,.slice gA ng gc,.slice mA nm mc,.slice cA nc cc]:Array Value)[o]?:=fun o=>hbx.cell o
 have wi:=hid hbx
 clear hbx
 gi_wp2_with (gi_at_call 7;refine(Vt w1 W1.out hd).mono ?_;rintro e w2 ⟨t,rfl,ht,hb2⟩;have HT:=hid ht;clear ht;have c2:w2.cell? ⟨w.heap.size,0,none⟩=some (int i64 days):=(wi.out.below hb2 hs1).cell 0)
 all_goals have W2:=hid ((W1.out.below hb2).more hb2.size)
 all_goals have hB2:=hid (hB1.trans (hb2.mono (Nat.le_of_lt hs1)))
 all_goals have wD:=hid (wi.out.below hb2 hs1)
 all_goals clear c1 W1 wi hB1 hb2 hs1
 cases t
 ·refine aj.cond_true (by simp[Act.eval]) ?_
  have HV:=hid (kH w2)
  repeat refine aj.seq ?_
  refine aj.gq 0 zD ?_
  simp only[List.take_zero]
  refine ig rfl rfl rfl (enters_of func8 zk rfl) (Rc:=rZ w2) (args:=#[]) (by simp only[List.map_toArray,List.map_cons,List.map_nil]) HV.out ?_
  rintro x wz ⟨rfl,hp⟩
  simp only[List.drop_succ_cons,List.drop_zero,Act.put,List.setIfInBounds_toArray,List.set_cons_succ,List.set_cons_zero]
  gi_wp2
  simp only[uR]
  gi_wp2
  exact⟨rfl,_,results_tmp rfl _ _ _,_,rfl,rfl,Past.of hB2.out hp⟩
 ·refine aj.cond_false (by simp[Act.eval]) ?_
  refine aj.skip ?_
  have ok:=HT.out rfl
  clear HT
  have o1:1≤days∧days≤99:=ok.days
  have o2:1≤ng∧ng≤3:=ok.bn.1
  have hsz2:=wD.out.lt
  repeat refine aj.seq ?_
  refine aj.item ?_
  gi_wp2
  repeat refine aj.seq ?_
  refine aj.item ?_
  gi_wp2
  repeat refine aj.seq ?_
  refine aj.item ?_
  obtain⟨i0,hi,hz0,hz1,hz2⟩:=info_parts info3
  have hi0:=hid hi
  clear hi
  obtain⟨rt,hrt⟩:∃rt:Nat→Int,rt=fun k=>if k<np then ps k % 100 else 0:=⟨_,rfl⟩
  have vf:Hid (∀k,rt k=if k<np then ps k % 100 else 0):=hid fun k=>by rw[hrt]
  have SM:Hid (∀k,0≤rt k∧rt k≤99):=hid fun k=>by rw[hrt];simp only;split <;> omega
  clear hrt
  gi_wp2
  gi_loopw [9,10] (fun l i wr=>∃k:Nat,k≤ng∧i=int i64 k∧Hid (wr.ownsRow w2.heap.size 3 1 l k (((List.range k).map rt).map (int i64))∧Below w2.heap.size w2 wr)) (fun _ i _=>ng - (intOf i).toNat)
  case atStart=>exact⟨0,Nat.zero_le _,rfl,hid ⟨mG _ _ 3,Below.refl _ _⟩⟩
  case round=>
   obtain⟨k,hk,rfl,hT⟩:=hrel
   obtain⟨A9,n9,p9,rfl⟩:=fP hT.out.1
   obtain⟨wo,rfl⟩:∃wo:World,wo=wr:=⟨_,rfl⟩
   have hso:=hT.out.2.size
   have XO:=hid (wD.out.below hT.out.2 hsz2)
   have c0:wo.cell? ⟨w.heap.size,2,none⟩=some (.slice gA ng gc):=XO.out.cell 2
   have Ho:=hid hT.out.1
   have hrs:((List.range (k+1)).map rt).map (int i64)=((List.range k).map rt).map (int i64) ++ [int i64 (rt k)]:=by rw[List.range_succ];simp
   have vd:=hid hrs
   clear hrs
   by_cases hlt:k<ng
   ·have hk3:k≤3:=zo
    by_cases hkp:k<np
    ·obtain⟨ad,hA',hbl,-⟩:=HU.out.1 (show 0<np by omega)
     subst hA'
     have hr:=HU.out.2 k hkp
     have d0:wo.cell? (ad.add k)=some (.int .u8 (ps k)):=by
      have h1:=HU.out.at_ hkp
      have hB:=hB2.out.trans (hT.out.2.mono hB2.out.size)
      exact(hB.cell (by rw[aH];exact hbl)).trans h1
     have e1:IntKind.i64.wrap (ps k)=ps k:=IntWalk.i64_in _ zo
     have e2:IntKind.i64.wrap ((ps k).tmod 100)=rt k:=by
      rw[Int.tmod_eq_emod_of_nonneg hr.1,vf.out k,if_pos hkp]
      exact IntWalk.i64_in _ zo
     have E2:=hid (show ps k % 100=rt k by rw[vf.out k,if_pos hkp])
     obtain⟨pk,hpk⟩:∃pk,pk=ps k:=⟨_,rfl⟩
     rw[← hpk] at d0 e1 e2 hr E2
     clear hpk
     gi_wp2_with (gi_at_builtin;refine aF rfl rfl rfl fun K5 jf=>?_;refine wp_append_lies _ _ _ _ rfl w2.heap.size 3 i0 _ 1 8 underlying30 hi0.out hz0 hz1 hz2 rfl zo (.slice A9 n9 p9) k _ rfl (aX Ho.out _) ⟨wo.heap.size,0,none⟩ 1 1 [_] rfl rfl (World.news_of_block (heap_alloc_new wo _)) (by simp[Value.oneCell']) zo zU zo zm (wo.heap.size+1) zs ?_;intro qM oH w10 hown5 aQ ni oI;refine jf _ _ ?_;clear jf K5)
     go_roundw
     case rel=>refine⟨_,_,_,_,_,_,_,_,_,_,_,_,_,_,_,_,_,_,_,_,_,_,_,_,?_,rfl⟩;exact⟨k+1,hlt,by push_cast;rfl,hid ⟨by rw[vd.out];simpa [E2.out] using hown5,(hT.out.2.alloc zo _).trans (below_grown aQ zm (fun g hg=>(dF Ho.out hg).1))⟩⟩
     case measure=>simp[intOf];omega
    ·have E2:=hid (show(0:Int)=rt k by rw[vf.out k,if_neg hkp])
     gi_wp2_with (gi_at_builtin;refine aF rfl rfl rfl fun K5 jf=>?_;refine wp_append_lies _ _ _ _ rfl w2.heap.size 3 i0 _ 1 8 underlying30 hi0.out hz0 hz1 hz2 rfl zo (.slice A9 n9 p9) k _ rfl (aX Ho.out _) ⟨wo.heap.size,0,none⟩ 1 1 [_] rfl rfl (World.news_of_block (heap_alloc_new wo _)) (by simp[Value.oneCell']) zo zU zo zm (wo.heap.size+1) zs ?_;intro qM oH w10 hown5 aQ ni oI;refine jf _ _ ?_;clear jf K5)
     go_roundw
     case rel=>refine⟨_,_,_,_,_,_,_,_,_,_,_,_,_,_,_,_,_,_,_,_,_,_,_,_,?_,rfl⟩;exact⟨k+1,hlt,by push_cast;rfl,hid ⟨by rw[vd.out,← E2.out];simpa using hown5,(hT.out.2.alloc zo _).trans (below_grown aQ zm (fun g hg=>(dF Ho.out hg).1))⟩⟩
     case measure=>simp[intOf];omega
   ·obtain rfl:ng=k:=zo
    gi_wp2
    obtain⟨rfl,L5⟩:=Jr hT.out.1
    have IA:=hid L5
    have BO:=hid (hB2.out.trans (hT.out.2.mono hB2.out.size))
    have WO:=hid ((W2.out.below hT.out.2).more hT.out.2.size)
    clear hT Ho vd L5 hB2 W2 wD HU c2
    have b1:0≤good % n9∧good % n9<n9:=⟨Int.emod_nonneg _ zo,Int.emod_lt_of_pos _ zo⟩
    have b2:0≤uH % 100∧uH % 100<100:=⟨Int.emod_nonneg _ zo,Int.emod_lt_of_pos _ zo⟩
    obtain⟨gd,hgd⟩:∃gd:Nat,(gd:Int)=good % n9:=⟨(good % n9).toNat,zo⟩
    obtain⟨d,hdd⟩:∃d,d=uH % 100:=⟨_,rfl⟩
    have e1:IntKind.i64.wrap good=good:=IntWalk.i64_in _ zo
    have e2:IntKind.i64.wrap uH=uH:=IntWalk.i64_in _ zo
    have e3:IntKind.i64.wrap (good.tmod n9)=gd:=by rw[Int.tmod_eq_emod_of_nonneg hg.1,hgd];exact IntWalk.i64_in _ zo
    have e5:IntKind.i64.wrap (uH.tmod 100)=d:=by rw[Int.tmod_eq_emod_of_nonneg hdy.1,hdd];exact IntWalk.i64_in _ zo
    have z1:((n9:Int) == 0)=false:=zm
    have z3:¬ ((n9:Int)=0):=zo
    have g1:gd<n9:=zo
    have q1:0≤d∧d≤99:=zo
    have e7:=hid hdd.symm
    have e8:=hid hgd.symm
    clear hgd hdd b1 b2
    have c0:wo.cell? ⟨w.heap.size,2,none⟩=some (.slice gA n9 gc):=XO.out.cell 2
    repeat refine aj.seq ?_
    refine aj.item ?_
    gi_wp2
    gi_quiet (fail)
    gi_wp2
    rw[e7.out,e8.out]
    obtain⟨w3,hw3⟩:∃w3,w3=wo.drewN nq:=⟨_,rfl⟩
    have hb3:Below wo.heap.size wo w3:=by rw[hw3];exact below_drewN (Below.refl _ _) _
    rw[← hw3]
    have B3:=hid (BO.out.trans (hb3.mono BO.out.size))
    have W3:=hid ((WO.out.below hb3).more hb3.size)
    have X3:=hid (XO.out.below hb3 XO.out.lt)
    have I3:=hid (bK IA.out hb3)
    clear hw3 hb3 BO WO XO IA e1 e2 e3 e5 e7 e8 z1 z3 c0 hz0 hz1 hz2 hi0
    obtain⟨sb,l0,cost,n,CN,hsb,hby,hlf,hkk⟩:=IK ⟨days,most,gA,n9,gc,g,mA,nm,mc,m,cA,nc,cc,c⟩ ok Rg.out (Sg _ ok) gd g1 rt SM.out d q1
    have GO:=hid hby
    have Hi:=hid hlf
    have HKK:=hid hkk
    clear hby hlf hkk
    repeat refine aj.seq ?_
    refine aj.item ?_
    have c0:∀o,w3.cell? ⟨w.heap.size,o,none⟩=(#[int i64 days,int i64 most,.slice gA n9 gc,.slice mA nm mc,.slice cA nc cc]:Array Value)[o]?:=fun o=>X3.out.cell o
    gi_wp2_with (gi_at_call 9;refine(GO.out _ _ _ W3.out I3.out).mono ?_;rintro e w4 ⟨A1,n1,p1,rfl,hn1,hn2,hI1,hb4⟩)
    have B4:=hid (B3.out.trans (hb4.mono B3.out.size))
    have W4:=hid ((W3.out.below hb4).more hb4.size)
    have X4:=hid (X3.out.below hb4 X3.out.lt)
    have I4:=hid (bK I3.out hb4)
    have HI1:=hid hI1
    have Hk:=hid hn1
    have Hm:=hid hn2
    clear hb4 B3 W3 X3 I3 hI1 hn1 hn2 c0 GO
    repeat refine aj.seq ?_
    refine aj.item ?_
    have c0:∀o,w4.cell? ⟨w.heap.size,o,none⟩=(#[int i64 days,int i64 most,.slice gA n9 gc,.slice mA nm mc,.slice cA nc cc]:Array Value)[o]?:=fun o=>X4.out.cell o
    gi_wp2_with (gi_at_call 10;refine(Hi.out _ W4.out).mono ?_;rintro e w5 ⟨A2,n2,p2,rfl,hL,hb5⟩)
    have B5:=hid (B4.out.trans (hb5.mono B4.out.size))
    have W5:=hid ((W4.out.below hb5).more hb5.size)
    have X5:=hid (X4.out.below hb5 X4.out.lt)
    have I5:=hid (bK I4.out hb5)
    have HL:=hid hL
    have rm:=hid fun h0=>bK (HI1.out h0) hb5
    clear hb5 B4 W4 X4 I4 hL c0 Hi HI1
    repeat refine aj.seq ?_
    refine aj.item ?_
    rcases hsb with rfl|rfl
    ·gi_wp2
     refine aj.cond_false (by simp[Act.eval]) ?_
     refine aj.skip ?_
     repeat refine aj.seq ?_
     refine aj.item ?_
     gi_wp2
     refine aj.cond_false (by simp[Act.eval]) ?_
     refine aj.skip ?_
     repeat refine aj.seq ?_
     refine aj.item ?_
     have hn1:=Hk.out (by first|rfl|trivial)
     have hn1:n1=n9:=hn1
     subst hn1
     obtain⟨hL1,hLm,Lw,rfl,lR,VM⟩:=HL.out (by first|rfl|trivial)
     have c0:w5.cell? ⟨w.heap.size,2,none⟩=some (.slice gA n1 gc):=X5.out.cell 2
     have z5:((n2:Int) == 0)=false:=zm
     gi_wp2
     all_goals refine aj.cond_false (by simp[Act.eval];try omega) ?_
     all_goals refine aj.skip ?_
     all_goals repeat refine aj.seq ?_
     all_goals refine aj.item ?_
     gi_wp2
     repeat refine aj.seq ?_
     refine aj.item ?_
     gi_wp2
     repeat refine aj.seq ?_
     refine aj.item ?_
     gi_wp2
     obtain⟨k1,k2,k3,k4,k5,k6,k7,k8,k9,k10,k11,k12⟩:=HKK.out (by first|rfl|trivial)
     have Qj:=hid k2
     have Hp:=hid k4
     have Qq:=hid k12
     have K3:=hid k3
     clear k2 k4 k3 HKK Hk Hm HL k12 z5
     gi_loopw [19,20] (fun u i wr=>∃k:Nat,k≤n1∧i=int i64 k∧u=int i64 (CN k)∧Hid (Below w5.heap.size w5 wr)) (fun _ i _=>n1 - (intOf i).toNat)
     case atStart=>exact⟨0,Nat.zero_le _,rfl,by rw[k1],hid (Below.refl _ _)⟩
     case round=>
      obtain⟨k,hk,rfl,rfl,hT⟩:=hrel
      obtain⟨wo,rfl⟩:∃wo:World,wo=wr:=⟨_,rfl⟩
      have hs:=hT.out.size
      by_cases hlt:k<n1
      ·obtain⟨ad,hA',hbl,-⟩:=W5.out.g (show 0<n1 by omega)
       subst hA'
       have hr:∀j,j<5→wo.cell? ((ad.add (k * 5)).add j)=some ((g k).cell j):=fun j hj=>((W5.out.g.below hT.out).row hlt).2 j hj
       obtain⟨gk,uJ⟩:∃gk,gk=g k:=⟨_,rfl⟩
       have Ra:=Qj.out k
       rw[← uJ] at hr Ra
       try simp only at Ra
       obtain⟨DC,co,pk,lo,hi⟩:=gk
       have c1:wo.cell? ⟨(ad.add (k * 5)).block,(ad.add (k * 5)).off+1,none⟩=some (int i64 co):=hr 1 zD
       have c2:wo.cell? ⟨(ad.add (k * 5)).block,(ad.add (k * 5)).off+2,none⟩=some (int i64 pk):=hr 2 zD
       have c0:wo.cell? ⟨w.heap.size,2,none⟩=some (.slice (some ad) n1 gc):=(X5.out.below hT.out X5.out.lt).cell 2
       obtain⟨a1,ha1,hab,-⟩:=rm.out (by first|rfl|trivial) (show 0<n1 by omega)
       subst ha1
       have d0:wo.cell? (a1.add k)=some (int i64 (n k)):=(hT.out.cell (by rw[aH];exact hab)).trans ((rm.out (by first|rfl|trivial)).at_ hlt)
       have hnk:=Hp.out k hlt
       obtain⟨nk,hnn⟩:∃nk,nk=n k:=⟨_,rfl⟩
       rw[← hnn] at d0 hnk Ra
       have ue:=hid Ra
       have hIn:∀w,CallsIn FF 0 prog 11 #[int i64 nk,int i64 0,int i64 9801] w fun e w'=>e=.returned (.bool true)∧w=w':=fun w=>by
        have:=nG nk 0 9801 w
        have e:fO nk 0 9801=true:=by unfold fO;simp;omega
        rwa[e] at this
       clear hr uJ hnn Ra hnk
       gi_wp2_with (gi_at_call 11;refine(hIn _).mono ?_;rintro e w' ⟨rfl,rfl⟩)
       gi_quiet (fail)
       gi_wp2
       exact⟨⟨k+1,hlt,by push_cast;rfl,by rw[ue.out],hid (below_drewN hT.out _)⟩,by simp[intOf];omega⟩
      ·obtain rfl:n1=k:=zo
       gi_wp2
       rw[K3.out]
       have cV:∀ {p:Addr} {v:Value},p.block<w5.heap.size→w5.cell? p=some v→wo.cell? p=some v:=fun hp h=>(hT.out.cell hp).trans h
       obtain⟨ad,hA',hbl,-⟩:=W5.out.g (show 0<n1 by omega)
       try simp only at hA'
       subst hA'
       have hr:∀j,j<5→w5.cell? ((ad.add (gd * 5)).add j)=some ((g gd).cell j):=fun j hj=>(W5.out.g.row g1).2 j hj
       obtain⟨a1,ha1,hab,-⟩:=rm.out (by first|rfl|trivial) (show 0<n1 by omega)
       subst ha1
       have d0:wo.cell? (a1.add gd)=some (int i64 (n gd)):=cV (by rw[aH];exact hab) ((rm.out (by first|rfl|trivial)).at_ g1)
       obtain⟨a9,Wr,UP,-⟩:=I5.out (show 0<n1 by omega)
       subst Wr
       have d9:wo.cell? (a9.add gd)=some (int i64 (rt gd)):=cV (by rw[aH];exact UP) (I5.out.at_ g1)
       have dL:wo.cell? Lw=some (int i64 l0):=cV lR VM
       have T':wo.cell? (Lw.add 0)=some (int i64 l0):=dL
       have c0:wo.cell? ⟨w.heap.size,2,none⟩=some (.slice (some ad) n1 gc):=(X5.out.below hT.out X5.out.lt).cell 2
       have k12:=Qq.out
       have hpk:=(ok.bn.2 gd g1).pack
       simp only at hpk k7 k8 k9 k10 k11 k12
       obtain⟨gk,uJ⟩:∃gk,gk=g gd:=⟨_,rfl⟩
       rw[← uJ] at hr k7 k8 k11 k12 hpk
       obtain⟨DC,co,pk,lo,hi⟩:=gk
       have c2:wo.cell? ⟨(ad.add (gd * 5)).block,(ad.add (gd * 5)).off+2,none⟩=some (int i64 pk):=cV (by show(ad.add (gd * 5)).block<_;rw[aH];exact hbl) (hr 2 zD)
       simp only at k7 k8 k11 k12 hpk
       obtain⟨nd,hnd⟩:∃nd,nd=n gd:=⟨_,rfl⟩
       obtain⟨rd,hrd⟩:∃rd,rd=rt gd:=⟨_,rfl⟩
       rw[← hnd] at d0 k7 k8 k11 k12
       rw[← hrd] at d9 k9 k10 k11 k12
       have g3:(gd:Int)<n1:=zo
       have g4:(0:Int)<n2:=zo
       have Ha:=hid (And.intro k7 (And.intro k8 (And.intro k9 (And.intro k10 (And.intro k11 k12)))))
       have B6:=hid (B5.out.trans (hT.out.mono B5.out.size))
       clear hr uJ hnd hrd k7 k8 k9 k10 k11 k12 Qq Qj Hp K3 cV
       repeat refine aj.seq ?_
       refine aj.item ?_
       gi_wp2
       gi_quiet (fail)
       gi_wp2
       have c0':(wo.drewN nq).cell? ⟨w.heap.size,2,none⟩=some (.slice (some ad) n1 gc):=c0
       have c2':(wo.drewN nq).cell? ⟨(ad.add (gd * 5)).block,(ad.add (gd * 5)).off+2,none⟩=some (int i64 pk):=c2
       have d0':(wo.drewN nq).cell? (a1.add gd)=some (int i64 nd):=d0
       have B7:=hid (B6.out.trans (below_drewN (Below.refl _ _) nq):Below w.heap.size w (wo.drewN nq))
       generalize wo.drewN nq=w6 at c0' c2' d0' B7⊢
       clear c0 c2 d0 d9 dL T' B6
       obtain⟨k7,k8,k9,k10,k11,k12⟩:=Ha.out
       clear Ha
       obtain⟨N,hN⟩:∃N,N=rd * d:=⟨_,rfl⟩
       obtain⟨M,hM⟩:∃M,M=nd * pk:=⟨_,rfl⟩
       rw[← hM] at k7 k8 k11 k12
       rw[← hN] at k9 k10 k11 k12
       rw[← hN,← hM,IntWalk.wrap64_in N zo,IntWalk.wrap64_in M zo,IntWalk.wrap64_in (l0+M) zo]
       clear hN hM
       have d1:decide (N≤l0+M)=true:=decide_eq_true zo
       have u1:IntKind.i64.wrap (l0+M - pk)=l0+M - pk:=IntWalk.i64_in _ zo
       by_cases hz:nd=0
       ·subst hz
        have HV:=hid (kH w6)
        repeat refine aj.seq ?_
        refine aj.gq 28 zD ?_
        simp only[List.take_succ_cons,List.take_zero]
        gi_wp2
        refine ig rfl rfl rfl (enters_of func8 zk rfl) (Rc:=rZ w6) (args:=#[]) (by simp only[List.map_toArray,List.map_cons,List.map_nil]) HV.out ?_
        rintro x wz ⟨rfl,hp⟩
        simp only[List.drop_succ_cons,List.drop_zero,Act.put,List.setIfInBounds_toArray,List.set_cons_succ,List.set_cons_zero]
        gi_wp2
        simp only[uR]
        gi_wp2
        exact⟨rfl,_,results_tmp rfl _ _ _,_,rfl,rfl,Past.of B7.out hp⟩
       ·have hz1:(nd == 0)=false:=by simpa using hz
        have d2:decide (l0+M - pk<N)=true:=decide_eq_true zo
        have HV:=hid (kH w6)
        repeat refine aj.seq ?_
        refine aj.gq 28 zD ?_
        simp only[List.take_succ_cons,List.take_zero]
        gi_wp2
        refine ig rfl rfl rfl (enters_of func8 zk rfl) (Rc:=rZ w6) (args:=#[]) (by simp only[List.map_toArray,List.map_cons,List.map_nil]) HV.out ?_
        rintro x wz ⟨rfl,hp⟩
        simp only[List.drop_succ_cons,List.drop_zero,Act.put,List.setIfInBounds_toArray,List.set_cons_succ,List.set_cons_zero]
        gi_wp2
        simp only[uR]
        gi_wp2
        exact⟨rfl,_,results_tmp rfl _ _ _,_,rfl,rfl,Past.of B7.out hp⟩
    ·gi_wp2
     refine aj.cond_false (by simp[Act.eval]) ?_
     refine aj.skip ?_
     repeat refine aj.seq ?_
     refine aj.item ?_
     gi_wp2
     refine aj.cond_true (by simp[Act.eval]) ?_
     have hn2:n1=0:=Hm.out (by first|rfl|trivial)
     subst hn2
     have HV:=hid (kH w5)
     repeat refine aj.seq ?_
     refine aj.gq 8 zD ?_
     simp only[List.take_succ_cons,List.take_zero]
     gi_wp2
     refine ig rfl rfl rfl (enters_of func8 zk rfl) (Rc:=rZ w5) (args:=#[]) (by simp only[List.map_toArray,List.map_cons,List.map_nil]) HV.out ?_
     rintro x wz ⟨rfl,hp⟩
     simp only[List.drop_succ_cons,List.drop_zero,Act.put,List.setIfInBounds_toArray,List.set_cons_succ,List.set_cons_zero]
     gi_wp2
     simp only[uR]
     gi_wp2
     exact⟨rfl,_,results_tmp rfl _ _ _,_,rfl,rfl,Past.of B5.out hp⟩
end
section
open Go Go.Conc Go.ConcN Go.cu Go.Conc.Lib Go.aO
variable[Inhabited aS]
def Cv(W:World)(x:Value)(u:World):Prop:=x=.bool true∧u.os=W.os∧u.output=W.output∧W.heap.size≤u.heap.size∧∀q,q<W.heap.size→u.heap[q]? =W.heap[q]?
theorem Rows.lift{W W0:World}(hc:∀p x,W.cell? p=some x→W0.cell? p=some x){B size n:Nat}{A:Option Addr}{f:Nat→Nat→Value}(h:Rows W B size A n f):Rows W0 B size A n f:=fun hn=>by
 obtain⟨ad,e,hb,k⟩:=h hn
 exact⟨ad,e,hb,fun i j hi hj=>hc _ _ (k i j hi hj)⟩
theorem WE(n:Nat):SF.room n:=fun d h=>by cases h
def TX(W:World)(q:Nat):Prop:=∃o,W.heap[q]? =some o∧¬ dN.Plain ⟨fun _=>False,uM⟩ o
open Classical in
noncomputable def bare(Z:Nat→Prop)(W:World):World:={W with heap:=W.heap.mapIdx fun q o=>if Z q then dN.X0 q else o }
theorem ME(Z:Nat→Prop)(W:World):(bare Z W).heap.size=W.heap.size:=by show(W.heap.mapIdx _).size=_;simp
theorem UW{Z:Nat→Prop}{W:World}{q:Nat}(hq:¬ Z q):(bare Z W).heap[q]? =W.heap[q]?:=by
 simp only[bare,Array.getElem?_mapIdx]
 cases W.heap[q]? <;> simp[hq]
theorem QE{Z:Nat→Prop}{W:World}{q:Nat}{o:Obj}(hq:Z q)(ho:W.heap[q]? =some o):(bare Z W).heap[q]? =some (dN.X0 q):=by
 simp only[bare,Array.getElem?_mapIdx,ho]
 simp[hq]
theorem sV(Wb:gG prog SF.fn)(W:World)(b:Bk)(h:b.At W W.heap.size)(hgc:b.ng≤b.gc)(hd:-9223372036854775808≤b.days∧b.days≤9223372036854775807)(pA:Option Addr)(np pc:Nat)(ps:Nat→Int)(hp:ZI W W.heap.size pA np ps)(hnp:np≤maxLen)(uH:Int)(Rf:0≤uH∧uH≤255)(good:Int)(Jj:0≤good∧good≤255):
 ∃M last o w' t',runNT prog (M+1) (solo (G (Frame.enter prog 3 #[b.val,.slice pA np pc,.int .u8 uH,.int .u8 good] .normal) []) W) #[]=(.ended o w',t')∧
  runN prog M (solo (G (Frame.enter prog 3 #[b.val,.slice pA np pc,.int .u8 uH,.int .u8 good] .normal) []) W)=.next last∧step prog last=.ended o w'∧Conc.Good prog (Cv W) last o w' t':=by
 obtain⟨Z0,My⟩:∃Z:Nat→Prop,Z=TX W:=⟨_,rfl⟩
 have hz:∀ {q},Z0 q↔∃o,W.heap[q]? =some o∧¬ dN.Plain ⟨fun _=>False,uM⟩ o:=fun{q}=>by rw[My];exact Iff.rfl
 have hs0:(bare Z0 W).heap.size=W.heap.size:=ME Z0 W
 have hin:∀q,¬ Z0 q→(bare Z0 W).heap[q]? =W.heap[q]?:=fun q hq=>UW hq
 have hout:∀q,Z0 q→(bare Z0 W).heap[q]? =some (dN.X0 q):=fun q hq=>by
  obtain⟨o,ho,_⟩:=hz.1 hq
  exact QE hq ho
 have hos:(bare Z0 W).os=W.os∧(bare Z0 W).output=W.output∧(bare Z0 W).drawn=W.drawn∧(bare Z0 W).tape=W.tape:=⟨rfl,rfl,rfl,rfl⟩
 clear My
 obtain⟨W0,hW0⟩:∃w,w=bare Z0 W:=⟨_,rfl⟩
 rw[← hW0] at hs0 hin hout hos
 clear hW0
 have hcell:∀p x,W.cell? p=some x→W0.cell? p=some x:=fun p x hx=>by
  have hnz:¬ Z0 p.block:=by
   intro hzz
   obtain⟨o,ho,hno⟩:=hz.1 hzz
   unfold World.cell? at hx
   rw[ho] at hx
   cases o <;> first|exact hno trivial|cases hx
  rw[← hx]
  simp only[World.cell?,hin _ hnz]
 have hb0:b.At W0 W0.heap.size:=by
  rw[hs0]
  exact⟨h.g.lift hcell,h.m.lift hcell,h.c.lift hcell,h.ng,h.nm,h.nc,h.name⟩
 have hp0:ZI W0 W0.heap.size pA np ps:=by
  rw[hs0]
  exact⟨hp.1.lift hcell,hp.2⟩
 obtain⟨hF,BE⟩:=IL W0 b hb0 hgc hd pA np pc ps hp0 hnp uH good Rf Jj
 obtain⟨n,cb,cs,w1,bit,RP,⟨hn,D,hcl,hcb,m,hcall⟩,hback⟩:=BE []
 have ok:(⟨Frame.enter prog 3 #[b.val,.slice pA np pc,.int .u8 uH,.int .u8 good] .normal,[],W0⟩:dN.Pt).Ok prog FF.fn ⟨Z0,uM⟩:=by
  refine⟨dN.Fr.enter KV hF _,fun c hc=>by simp at hc,⟨fun q hq=>hout q hq,fun q o hq ho=>?_⟩⟩
  rw[show(⟨Frame.enter prog 3 #[b.val,.slice pA np pc,.int .u8 uH,.int .u8 good] .normal,[],W0⟩:dN.Pt).w=W0 from rfl,hin q hq] at ho
  have h1:dN.Plain ⟨fun _=>False,uM⟩ o:=Classical.byContradiction fun hno=>hq (hz.2 ⟨o,ho,hno⟩)
  cases o <;> exact h1
 have hva:dN.Ew ⟨Z0,uM⟩ (fun q=>W.heap[q]?) W0 W:=⟨⟨hs0.symm,fun q hq=>(hin q hq).symm,hos.1.symm,hos.2.1.symm,fun q o _ hk _=>hk⟩,hos.2.2.1.symm,hos.2.2.2.symm⟩
 have hcells:∀q o,Z0 q→W.heap[q]? =some o→∀c t f,o≠.cells c t f:=by
  rintro q o hzz ho c t f rfl
  obtain⟨o',ho',hno⟩:=hz.1 hzz
  rw[ho] at ho'
  cases ho'
  exact hno trivial
 obtain⟨_,_,_,_,_,_,_,hsz⟩:=dN.AJ (Dc _) qY (fun _ h=>h) RP (a:=⟨_,[],W0⟩) (b:=⟨kI n cb,cs,w1⟩) rfl rfl ok W hva #[] (dN.gZ.nil _)
 have hsz1:W0.heap.size≤w1.heap.size:=hsz
 refine XU hn ok hva hcells RP Wb (fun g hg=>iO (Gm hg)) rfl (WE _) hcl hcb hcall (PV:=Cv W) fun ac hac v hv σ=>?_
 obtain⟨m',hs,x,w',fr,⟨hx,τ,hpast⟩,rfl,hfn,hmode,hdef,hkind,Up,m6,hres⟩:=hback ac hac v hv σ
 refine⟨⟨fr,[],w'⟩,hs,⟨rfl,(by unfold Qs;first|exact hfn|exact .inl hfn|exact .inr (.inl hfn)|exact .inr (.inr hfn)),hmode,hdef,hkind⟩,fun u hus hu1 hu2 hu3 hu4=>?_⟩
 have hf3:Up=Tryz.f3:=by
  rw[hfn,func3] at m6
  exact(Option.some.inj m6).symm
 subst hf3
 have hr2:=results_tmp (fn:=Tryz.f3) rfl fr.tmps prog w'
 rw[hr2] at hres
 have hv2:nH fr=x:=by
  unfold nH
  rw[hfn]
  exact(Result.ok.inj hres).1
 have hp2:=hpast.size
 have hp3:=hpast.os
 have hp4:=hpast.output
 have hp5:=hpast.block
 refine⟨hv2.trans hx,(hu3.trans hp3).trans hos.1,(hu4.trans hp4).trans hos.2.1,?_,fun q hq=>?_⟩
 ·have:u.heap.size=w'.heap.size:=hus
  have e:(on W0 τ).heap.size=W0.heap.size:=rfl
  omega
 ·by_cases hzz:Z0 q
  ·exact hu2 q hzz
  ·have hq0:q<W0.heap.size:=zo
   exact((hu1 q zo hzz).trans (hp5 q hq0)).trans (hin q hzz)
end
end Go.Proofs.YthaelabgfnnebaaGreat
