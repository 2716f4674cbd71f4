/- HE HG P14 AG0 AG1 -/
import Derived.Test.YthaelabgfnnebaaGreatB2
set_option maxRecDepth 100000
set_option maxHeartbeats 16000000
set_option linter.unusedVariables false
set_option linter.unusedSectionVars false
open Go.IntKind(i64)
open Go.Lib(hid)
open Go.Proofs.Tryz
open Go.Value(int)
namespace Go.Proofs.YthaelabgfnnebaaGreat
section
open Go.RowKit
open Go.Sort (grow)
attribute [local go_sem] Oper.semAt_some
theorem Tryz.infoL:(Tryz.prog.info? 30).map (fun i=>(i.zero,i.size,i.bytes))=some (some (.slice none 0 0),1,24):=zk
theorem Tg(g:Nat)(c:Nat)(v f:Value)(w:World)(hv:∃A n p,v=.slice A n p)(hc:w.cell? ⟨g,0,none⟩=some v):CallsIn FF 0 prog 107 #[f,.slice (some ⟨g,0,none⟩) 1 c] w fun e w'=>e=.returned (.tuple #[v,.bool true])∧Below w.heap.size w w':=by
 obtain⟨A,n,p,rfl⟩:=hv
 gi_enter func107,ntmps107
 gi_wp2
 refine wpIn_loop_rounds 2 ?_
 rw[roundsIn_succ]
 gi_wp2
 repeat (refine⟨fun f h=>(by cases h),?_⟩;gi_wp2)
 rw[roundsIn_succ]
 gi_wp2
 go_ret2
 exact⟨rfl,Below.refl _ _⟩
theorem JU(s:Nat)(hs:s<1024)(g c:Nat)(w:World)(hc:w.cell? ⟨g,0,none⟩=some (int i64 s)):CallsIn FF 0 prog 81 #[.slice (some ⟨g,0,none⟩) 1 c] w fun e w'=>∃v,e=.returned (.tuple #[v,.bool true])∧w'.ownsRow w.heap.size 3 1 v (aB s 10).length ((aB s 10).map (int i64))∧Below w.heap.size w w':=by
 have HS:=hid fun w=>kK s w hs
 have HL:=hid fun g c v w hv hc=>Tg g c v (.func (.func 108) #[] #[]) w hv hc
 obtain⟨i0,hi,hz0,hz1,hz2⟩:=info_parts Tryz.infoL
 have hi0:=hid hi
 obtain⟨L,hL⟩:∃L,L=aB s 10:=⟨_,rfl⟩
 rw[← hL] at HS⊢
 clear hL hi
 gi_enter func81,ntmps81
 gi_wp2
 refine wpIn_loop_rounds 2 ?_
 rw[roundsIn_succ]
 gi_wp2_with (first
  | (gi_at_call 96;refine(HS.out w).mono ?_;rintro e w3 ⟨v,rfl,hown,hb3⟩;have Vt:=hid hown;have hv:=eX hown;have HV:=hid hv;obtain⟨A3,n3,p3,rfl⟩:=hv;clear hown)
  | (gi_at_builtin;refine aF rfl rfl rfl fun K5 iX=>?_;refine wp_append_lies _ _ _ _ rfl w3.heap.size 30 i0 _ 1 24 underlying72 hi0.out hz0 hz1 hz2 rfl zo (.slice none 0 0) 0 [] rfl ⟨rfl,.inl ⟨rfl,rfl⟩⟩ ⟨w3.heap.size,0,none⟩ 1 1 [_] rfl rfl (World.news_of_block (heap_alloc_new w3 _)) (by simp[Value.oneCell']) zo zU zo zs (w3.heap.size+1) zs ?_;intro pz nD w10 hown5 aM lG nI;refine iX _ _ ?_;clear iX K5))
 rw[roundsIn_succ]
 gi_wp2_with (gi_at_call 107;refine(HL.out _ _ _ w10 HV.out ?_).mono ?_;rotate_left;(rintro e w12 ⟨rfl,Ag⟩))
 ·go_ret2
  have QV:Below w.heap.size w w10:=(Below.al hb3 _).trans (below_grown aM (by simp;have:=hb3.size;omega) (fun g hg=>by cases hg))
  exact⟨_,rfl,own_below (oC (aQ Vt.out _) aM (fun g hg=>by simp[Value.ownBlock])) Ag,Below.next QV Ag⟩
 ·have:=hown5.cells (g:=pz) rfl 0 (.slice A3 n3 p3) zs
  simpa [Addr.add] using this
theorem TU(b:Bk)(ok:b.Ok)(s:Nat)(hl:dN s)(Bb Bl:Nat)(w:World)(hb:Whole w Bb 74 b.cells)(hw:Whole w Bl 3 #[int i64 s])(hA:b.At w w.heap.size):ny FF 101 #[.pointer (some ⟨Bb,0,none⟩),.pointer (some ⟨Bl,0,none⟩)] (dD b s) w:=by
 refine⟨zs,enters_of func101 zk rfl,fun C W hW hC=>?_⟩
 exact UF (p:=FF.fn) b ok s hl C w.heap.size Bb Bl W (fun x hx=>(hC x hx).2) (hb.below hW hb.lt) (hw.below hW hw.lt) (hA.below hW) hW.size (fun h=>by have:=(hC _ h).1;have:=hb.lt;omega) (fun h=>by have:=(hC _ h).1;have:=hw.lt;omega) (fun x hx h=>by have:=(hC _ h).1;omega)
theorem CP(b:Bk)(ok:b.Ok)(s:Nat)(hl:dN s)(w:World)(hA:b.At w w.heap.size):CallsIn FF 0 prog 78 #[b.val,int i64 s] w fun e w'=>∃lb,e=.returned (.func (.func 101) #[] lb)∧ny FF 101 lb (dD b s) w'∧Below w.heap.size w w':=by
 refine(UN (p:=FF.fn) b s w).mono ?_
 rintro e w' ⟨rfl,hb,hi,hbw,-⟩
 exact⟨_,rfl,TU b ok s hl _ _ w' hb hi (hA.up hbw),hbw⟩
def uX(b:Bk)(k:Nat):List Int:=(((ak b).take k).filter fun s=>!(dD b s).isEmpty).map fun(n:Nat)=>(n:Int)
theorem Bv(b:Bk)(k:Nat)(hk:k<(ak b).length):uX b (k+1)=uX b k ++ if (!(dD b ((ak b).getD k 0)).isEmpty)=true then[(((ak b).getD k 0:Nat):Int)] else[]:=by
 unfold uX
 rw[List.take_add_one,List.getD_eq_getElem?_getD,List.getElem?_eq_getElem hk,List.filter_append,List.map_append]
 congr 1
 simp only[Option.toList,Option.getD,List.filter_cons,List.filter_nil]
 split <;> simp_all
theorem Fv(b:Bk)(k:Nat):(uX b k).length≤(ak b).length:=by
 unfold uX
 rw[List.length_map]
 exact Nat.le_trans (List.length_filter_le _ _) (by rw[List.length_take];exact Nat.min_le_right _ _)
theorem VQ(b:Bk)(A:Option Addr)(p:Nat)(s0:Nat)(w:World)(hc:om b A w)(ok:b.Ok)(hl:∀s∈ak b,dN s)(hcan:uX b (ak b).length=[(s0:Int)])(hs0:s0<1024):
 CallsIn FF 0 prog 45 #[.agg (aA b A (ak b).length p)] w fun e w'=>∃v,e=.returned (.tuple #[v,.bool true])∧w'.ownsRow w.heap.size 3 1 v (aB s0 10).length ((aB s0 10).map (int i64))∧Below w.heap.size w w':=by
 have HT:=hid fun k (w':World) (hk:k<(ak b).length) (hA:b.At w' w'.heap.size)=>CP b ok ((ak b).getD k 0) (hl _ (by rw[List.getD_eq_getElem?_getD,List.getElem?_eq_getElem hk];exact List.getElem_mem hk)) w' hA
 have HY:=hid fun k lb (w':World) h=>Rh (p:=FF.fn) 101 lb (dD b ((ak b).getD k 0)) w' h
 have HL:=hid fun g c w hc=>JU s0 hs0 g c w hc
 have HC:=hid hc
 have HR:=hid hc.row
 have me:=hid hc.at_
 obtain⟨n,hn⟩:∃n,n=(ak b).length:=⟨_,rfl⟩
 obtain⟨LN,WE⟩:∃LN:Nat→Nat,LN=fun k=>(ak b).getD k 0:=⟨_,rfl⟩
 obtain⟨T,hT⟩:∃T:Nat→List Ht,T=fun k=>dD b ((ak b).getD k 0):=⟨_,rfl⟩
 obtain⟨F,hF⟩:∃F:Nat→List Int,F=uX b:=⟨_,rfl⟩
 have mT:Hid (∀k (w':World),k<n→b.At w' w'.heap.size→CallsIn FF 0 prog 78 #[b.val,int i64 (LN k)] w' fun e w''=>∃lb,e=.returned (.func (.func 101) #[] lb)∧ny FF 101 lb (T k) w''∧Below w'.heap.size w' w''):=hid fun k w' hk hA=>by rw[WE,hT];rw[hn] at hk;exact HT.out k w' hk hA
 have Be:Hid (∀k lb (w':World),ny FF 101 lb (T k) w'→CallsIn FF 0 prog 80 #[.func (.func 101) #[] lb] w' fun e w''=>e=.returned (.bool (!(T k).isEmpty))∧Below w'.heap.size w' w''):=hid fun k lb w' h=>by rw[hT] at h⊢;exact HY.out k lb w' h
 have HR':Hid (Rows w w.heap.size 1 A n (fun i _=>int i64 ((LN i:Nat):Int))):=hid (by rw[WE,hn];exact HR.out)
 have yr:Hid (F 0=[]):=hid (by rw[hF];rfl)
 have mn:Hid (∀k,k<n→F (k+1)=F k ++ if (!(T k).isEmpty)=true then[((LN k:Nat):Int)] else[]):=hid fun k hk=>by rw[hF,hT,WE];rw[hn] at hk;exact Bv b k hk
 have yW:Hid (F n=[(s0:Int)]):=hid (by rw[hF,hn];exact hcan)
 have yz:Hid (∀k,(F k).length≤64):=hid fun k=>by rw[hF];exact Nat.le_trans (Fv b k) (gF b ok)
 have G':n≤64:=by rw[hn];exact gF b ok
 obtain⟨L0,hL0⟩:∃L,L=aB s0 10:=⟨_,rfl⟩
 rw[← hL0] at HL⊢
 rw[← hn]
 obtain⟨i0,hi,hz0,hz1,hz2⟩:=info_parts info3
 have hi0:=hid hi
 clear hi hn WE hT hF HT HY HR hcan hl ok hc HC hL0 hs0
 obtain⟨days,most,gA,ng,gc,g,mA,nm,mc,m,cA,nc,cc,c⟩:=b
 simp only[Bk.val,Bk.cells,aA] at mT⊢
 obtain⟨w1,hw1⟩:∃w1,w1=w.alloc (.cells #[int i64 days,int i64 most,.slice gA ng gc,.slice mA nm mc,.slice cA nc cc,.slice A n p] 76):=⟨_,rfl⟩
 have B1:Hid (Below w.heap.size w w1):=hid (by rw[hw1];exact bw)
 have X1:Hid (Whole w1 w.heap.size 76 #[int i64 days,int i64 most,.slice gA ng gc,.slice mA nm mc,.slice cA nc cc,.slice A n p]):=hid (by rw[hw1];exact Whole.new _ _ _)
 have hs1:w1.heap.size=w.heap.size+1:=by rw[hw1];simp
 have mX:=hid hw1
 clear hw1
 gi_enter func45,ntmps45
 gi_wp2
 rw[← mX.out]
 clear mX
 gi_loopw [4,10] (fun l i wr=>∃k:Nat,k≤n∧i=int i64 k∧Hid (wr.ownsRow (w.heap.size+1) 3 1 l (F k).length ((F k).map (int i64))∧Below (w.heap.size+1) w1 wr)) (fun _ i _=>n - (intOf i).toNat)
 case atStart=>exact⟨0,Nat.zero_le _,rfl,hid ⟨by rw[yr.out];exact jl _ (w.heap.size+1) 3,Below.refl _ _⟩⟩
 case round=>
  obtain⟨k,hk,rfl,hT⟩:=hrel
  obtain⟨A9,n9,p9,rfl⟩:=eX hT.out.1
  obtain⟨wo,rfl⟩:∃wo:World,wo=wr:=⟨_,rfl⟩
  have hso:w.heap.size+1≤wo.heap.size:=by have:=hT.out.2.size;omega
  have BO:Hid (Below w.heap.size w wo):=hid (B1.out.trans (hT.out.2.mono zo))
  by_cases hlt:k<n
  ·obtain⟨ad,hA',hbl,-⟩:=HR'.out (show 0<n by omega)
   subst hA'
   obtain⟨s,hs⟩:∃s,s=LN k:=⟨_,rfl⟩
   have d0:wo.cell? (ad.add k)=some (int i64 s):=by
    rw[hs]
    refine(BO.out.cell (by rw[aH];exact hbl)).trans ?_
    have:=(HR'.out.row hlt).2 0 zD
    rwa[Nat.mul_one,add_zero'] at this
   have dj:=mT.out k wo hlt (me.out.up BO.out)
   have WC:=mn.out k hlt
   have hFl:=yz.out k
   rw[← hs] at dj WC
   obtain⟨t,ht⟩:∃t,t=!(T k).isEmpty:=⟨_,rfl⟩
   have dr:=fun lb w' h=>Be.out k lb w' h
   rw[← ht] at dr WC
   have X2:=hid (X1.out.below hT.out.2 zo)
   have x0:wo.cell? ⟨w.heap.size,0,none⟩=some (int i64 days):=X2.out.cell 0
   have x1:wo.cell? ⟨w.heap.size,1,none⟩=some (int i64 most):=X2.out.cell 1
   have x2:wo.cell? ⟨w.heap.size,2,none⟩=some (.slice gA ng gc):=X2.out.cell 2
   have x3:wo.cell? ⟨w.heap.size,3,none⟩=some (.slice mA nm mc):=X2.out.cell 3
   have x4:wo.cell? ⟨w.heap.size,4,none⟩=some (.slice cA nc cc):=X2.out.cell 4
   have m3:=hid dj
   have m5:=hid dr
   have ml:=hid WC
   clear dj dr WC hs ht
   cases t
   ·gi_wp2_with (first
     | (gi_at_call 78;refine m3.out.mono ?_;rintro e w4 ⟨lb,rfl,hs4,hb4⟩)
     | (gi_at_call 80;refine(m5.out lb _ hs4).mono ?_;rintro e w5 ⟨rfl,hb5⟩))
    have sZ:=hb4.trans (hb5.mono hb4.size)
    exact⟨⟨k+1,hlt,by push_cast;rfl,hid ⟨by rw[ml.out];simpa using own_below hT.out.1 sZ,hT.out.2.trans (sZ.mono hso)⟩⟩,by simp[intOf];omega⟩
   ·gi_wp2_with (first
     | (gi_at_call 78;refine m3.out.mono ?_;rintro e w4 ⟨lb,rfl,hs4,hb4⟩)
     | (gi_at_call 80;refine(m5.out lb _ hs4).mono ?_;rintro e w5 ⟨rfl,hb5⟩;have sZ:=hb4.trans (hb5.mono hb4.size);have Ho:=hid (own_below hT.out.1 sZ);have hs5:=sZ.size)
     | (gi_at_builtin;refine aF rfl rfl rfl fun K5 iX=>?_;refine wp_append_lies _ _ _ _ rfl (w.heap.size+1) 3 i0 _ 1 8 underlying30 hi0.out hz0 hz1 hz2 rfl zo (.slice A9 n9 p9) (F k).length _ rfl (aQ Ho.out _) ⟨w5.heap.size,0,none⟩ 1 1 [_] rfl rfl (World.news_of_block (heap_alloc_new w5 _)) (by simp[Value.oneCell']) zo zU zo zm (w5.heap.size+1) zs ?_;intro pz nD w10 hown5 aM lG nI;refine iX _ _ ?_;clear iX K5))
    exact⟨⟨k+1,hlt,by push_cast;rfl,hid ⟨by rw[ml.out];simpa using hown5,((hT.out.2.trans (sZ.mono hso)).alloc zo _).trans (below_grown aM zm (fun g hg=>(bR Ho.out hg).1))⟩⟩,by simp[intOf];omega⟩
  ·obtain rfl:k=n:=zo
   have hown:=hT.out.1
   rw[yW.out] at hown
   obtain⟨g9,c9,hv,-,-⟩:=hown.form zs
   have hcl:=hown.cells (g:=g9) (by rw[hv];rfl) 0 (int i64 s0) zs
   injection hv with h1 h2 h3
   subst h1 h2 h3
   have hcl:wo.cell? ⟨g9,0,none⟩=some (int i64 s0):=by simpa [Addr.add] using hcl
   gi_wp2_with (gi_at_call 81;refine(HL.out _ _ _ hcl).mono ?_;rintro e w12 ⟨v,rfl,Hm,Ag⟩)
   go_ret2
   exact⟨_,rfl,dP Hm zo,Below.next BO.out Ag⟩
theorem Ic(b:Bk)(s0:Nat)(w:World)(h:b.At w w.heap.size)(ok:b.Ok)(hcap:b.ng≤b.gc)(hl:∀s∈ak b,dN s)(hcan:uX b (ak b).length=[(s0:Int)])(hs0:s0<1024):CallsIn FF 0 prog 13 #[b.val] w fun e w'=>∃v,e=.returned (.tuple #[v,int i64 0])∧w'.ownsRow w.heap.size 3 1 v (aB s0 10).length ((aB s0 10).map (int i64))∧Below w.heap.size w w':=by
 have HO:=hid fun w h=>mF b w h ok hcap
 have HB:=hid fun A p w hc=>VQ b A p s0 w hc ok hl hcan hs0
 have HA:=hid h
 obtain⟨n,hn⟩:∃n,n=(ak b).length:=⟨_,rfl⟩
 rw[← hn] at HO HB
 obtain⟨L0,hL0⟩:∃L,L=aB s0 10:=⟨_,rfl⟩
 rw[← hL0] at HB⊢
 clear hn h hcap hl ok hcan hs0 hL0
 obtain⟨days,most,gA,ng,gc,g,mA,nm,mc,m,cA,nc,cc,c⟩:=b
 simp only[Bk.val,Bk.cells,aA] at HO HB⊢
 gi_enter func13,ntmps13
 gi_wp2_with (first
  | (gi_at_call 33;refine(HO.out _ (HA.out.up (bw))).mono ?_;rintro e w2 ⟨A,p,rfl,hc2,hb2,-⟩)
  | (gi_at_call 45;refine(HB.out A p _ (hc2.below (bw))).mono ?_;rintro e w4 ⟨v,rfl,hv,hb4⟩))
 go_ret2
 have DY:=Below.al (Below.next (show Below w.heap.size w (w.alloc (.cells #[int i64 days,int i64 most,.slice gA ng gc,.slice mA nm mc,.slice cA nc cc] 26)) from bw) hb2) (.cells #[int i64 days,int i64 most,.slice gA ng gc,.slice mA nm mc,.slice cA nc cc,.slice A n p] 76)
 exact⟨v,rfl,dP hv DY.size,Below.next DY hb4⟩
def wH(a b:Int):Int:=if a<b then -1 else if b<a then 1 else 0
theorem sR(a:Int)(w:World):CallsIn FF 0 prog 170 #[int i64 a] w fun e w'=>e=.returned (.bool false)∧w=w':=by
 gi_enter func170,ntmps170
 gi_wp2
 go_ret
 exact⟨zs,rfl⟩
theorem Lu(a b:Int)(w:World):CallsIn FF 0 prog 133 #[int i64 a,int i64 b] w fun e w'=>e=.returned (int i64 (wH a b))∧w=w':=by
 have HN:=hid sR
 rcases Int.lt_trichotomy a b with h|h|h
 ·have e:wH a b=-1:=if_pos h
  rw[e]
  gi_enter func133,ntmps133
  gi_wp2_with (gi_at_call 170;refine(HN.out _ _).mono ?_;rintro e w3 ⟨rfl,rfl⟩)
  all_goals (go_ret;exact⟨rfl,rfl⟩)
 ·subst h
  have e:wH a a=0:=by simp[wH]
  rw[e]
  gi_enter func133,ntmps133
  gi_wp2_with (gi_at_call 170;refine(HN.out _ _).mono ?_;rintro e w3 ⟨rfl,rfl⟩)
  all_goals (go_ret;exact⟨rfl,rfl⟩)
 ·have e:wH a b=1:=by unfold wH;rw[if_neg zo,if_pos h]
  have hn:¬ a<b:=zo
  rw[e]
  gi_enter func133,ntmps133
  gi_wp2_with (gi_at_call 170;refine(HN.out _ _).mono ?_;rintro e w3 ⟨rfl,rfl⟩)
  all_goals (go_ret;exact⟨rfl,rfl⟩)
theorem fL(g1 c1 g2 c2:Nat)(w:World)(h10:w.cell? ⟨g1,0,none⟩=some (int i64 0))(h20:w.cell? ⟨g2,0,none⟩=some (int i64 1)):CallsIn FF 0 prog 134 #[.slice (some ⟨g1,0,none⟩) 2 c1,.slice (some ⟨g2,0,none⟩) 1 c2] w fun e w'=>e=.returned (int i64 (-1))∧w=w':=by
 have HC:=hid Lu
 have e:wH 0 1=-1:=zD
 gi_enter func134,ntmps134
 gi_wp2
 refine wpIn_loop_rounds 1 ?_
 rw[roundsIn_succ]
 gi_wp2_with (gi_at_call 133;refine(HC.out _ _ _).mono ?_;rintro e w3 ⟨rfl,rfl⟩;rw[e])
 all_goals (go_ret;exact⟨rfl,rfl⟩)
theorem Kb(g c:Nat)(w:World)(h0:w.cell? ⟨g,0,none⟩=some (int i64 1)):CallsIn FF 0 prog 132 #[.slice (some ⟨g,0,none⟩) 2 c] w fun e w'=>e=.returned (int i64 1)∧w=w':=by
 gi_enter func132,ntmps132
 gi_wp2
 refine wpIn_loop_rounds 1 ?_
 rw[roundsIn_succ]
 gi_wp2
 all_goals (go_ret;exact⟨rfl,rfl⟩)
theorem NA(g1 c1 g2 c2:Nat)(w:World)(h10:w.cell? ⟨g1,0,none⟩=some (int i64 0))(h20:w.cell? ⟨g2,0,none⟩=some (int i64 1)):CallsIn FF 0 prog 108 #[.slice (some ⟨g1,0,none⟩) 2 c1,.slice (some ⟨g2,0,none⟩) 1 c2] w fun e w'=>e=.returned (int i64 1)∧Below w.heap.size w w':=by
 have HC:=hid Lu
 have HS:=hid (fL g1 c1 g2 c2 w h10 h20)
 have HO:=hid fun g c w h=>Kb g c w h
 have e:wH 2 1=1:=zD
 gi_enter func108,ntmps108
 gi_wp2_with (first
  | (gi_at_call 133;refine(HC.out _ _ _).mono ?_;rintro e w3 ⟨rfl,rfl⟩;rw[e])
  | (gi_at_call 134;refine HS.out.mono ?_;rintro e w3 ⟨rfl,rfl⟩)
  | (gi_at_call 132;refine(HO.out _ _ _ zs).mono ?_;rintro e w3 ⟨rfl,rfl⟩))
 all_goals (go_ret;exact⟨rfl,bw⟩)
end
section
open Go.RowKit
theorem SQ(B b1 b2 b3 b4 b5:Nat)(w:World)(hB:B<w.heap.size)
 (l0:w.cell? ⟨B,0,none⟩=some (.func (.func 118) #[] #[.pointer (some ⟨b1,0,none⟩),.pointer (some ⟨b2,0,none⟩)]))
 (l1:w.cell? ⟨B,1,none⟩=some (.func (.func 119) #[] #[.pointer (some ⟨b3,0,none⟩),.pointer (some ⟨b2,0,none⟩)]))
 (l2:w.cell? ⟨B,2,none⟩=some (.func (.func 120) #[] #[.pointer (some ⟨b4,0,none⟩),.pointer (some ⟨b5,0,none⟩)]))
 (h1:∀w',Below w.heap.size w w'→CallsIn FF 0 prog 118 #[.pointer (some ⟨b1,0,none⟩),.pointer (some ⟨b2,0,none⟩)] w' fun e w2=>e=.returned (int i64 0)∧Below w'.heap.size w' w2)
 (h2:∀w',Below w.heap.size w w'→CallsIn FF 0 prog 119 #[.pointer (some ⟨b3,0,none⟩),.pointer (some ⟨b2,0,none⟩)] w' fun e w2=>e=.returned (int i64 0)∧Below w'.heap.size w' w2)
 (h3:∀w',Below w.heap.size w w'→CallsIn FF 0 prog 120 #[.pointer (some ⟨b4,0,none⟩),.pointer (some ⟨b5,0,none⟩)] w' fun e w2=>e=.returned (int i64 0)∧Below w'.heap.size w' w2):
 CallsIn FF 0 prog 117 #[.slice (some ⟨B,0,none⟩) 3 3] w fun e w'=>e=.returned (int i64 0)∧Below w.heap.size w w':=by
 have H1:=hid h1
 have H2:=hid h2
 have H3:=hid h3
 have L0:=hid l0
 have L1:=hid l1
 have L2:=hid l2
 clear h1 h2 h3 l0 l1 l2
 gi_enter func117,ntmps117
 gi_wp2
 gi_loopw [8] (fun i wr=>∃k:Nat,k≤3∧i=int i64 k∧Below w.heap.size w wr) (fun i _=>3 - (intOf i).toNat)
 case atStart=>exact⟨0,zo,rfl,Below.refl _ _⟩
 case round=>
  obtain⟨k,hk,rfl,hb⟩:=hrel
  have hsz:=hb.size
  by_cases hlt:k<3
  ·rcases(show k=0∨k=1∨k=2 by omega) with rfl|rfl|rfl
   ·have c0:=(hb.cell (p:=⟨B,0,none⟩) hB).trans L0.out
    gi_wp2_with (gi_at_call 118;refine(H1.out _ hb).mono ?_;rintro e w2 ⟨rfl,hb2⟩)
    go_roundw
    case rel=>exact⟨0+1,zo,by go_num,hb.trans (hb2.mono hsz)⟩
    case measure=>simp[intOf]
   ·have c0:=(hb.cell (p:=⟨B,1,none⟩) hB).trans L1.out
    gi_wp2_with (gi_at_call 119;refine(H2.out _ hb).mono ?_;rintro e w2 ⟨rfl,hb2⟩)
    go_roundw
    case rel=>exact⟨1+1,zo,by go_num,hb.trans (hb2.mono hsz)⟩
    case measure=>simp[intOf]
   ·have c0:=(hb.cell (p:=⟨B,2,none⟩) hB).trans L2.out
    gi_wp2_with (gi_at_call 120;refine(H3.out _ hb).mono ?_;rintro e w2 ⟨rfl,hb2⟩)
    go_roundw
    case rel=>exact⟨2+1,zo,by go_num,hb.trans (hb2.mono hsz)⟩
    case measure=>simp[intOf]
  ·obtain rfl:k=3:=zo
   gi_wp2
   go_ret
   exact⟨rfl,hb⟩
theorem aT{w w':World}{A:Option Addr}{n:Nat}{xs:Nat→Int}(h:Ints w w.heap.size A n xs)(hb:Below w.heap.size w w'):Ints w' w'.heap.size A n xs:=(Rows.below h hb).more hb.size
theorem Xr(xs:Nat→Int)(A:Option Addr)(n p:Nat)(gA:Option Addr)(gc B1 B2:Nat)(w:World)(hI:Ints w w.heap.size A n xs)(hn:n≤maxLen)(hx:∀i,i<n→0≤xs i∧xs i≤99)
 (c1:w.cell? ⟨B1,0,none⟩=some (.slice A n p))(c2:w.cell? ⟨B2,2,none⟩=some (.slice gA n gc)):
 CallsIn FF 0 prog 118 #[.pointer (some ⟨B1,0,none⟩),.pointer (some ⟨B2,0,none⟩)] w fun e w'=>e=.returned (int i64 0)∧Below w.heap.size w w':=by
 have H:=hid (JA xs A n p 99 w hI hn hx)
 clear hI hx
 gi_enter func118,ntmps118
 gi_wp2_with (gi_at_call 34;refine H.out.mono ?_;rintro e w2 ⟨rfl,hb2⟩)
 go_ret
 exact⟨rfl,hb2⟩
theorem Xt(xs:Nat→Int)(A:Option Addr)(n p:Nat)(gA:Option Addr)(gc B1 B2:Nat)(w:World)(hI:Ints w w.heap.size A n xs)(hn:n≤maxLen)(hx:∀i,i<n→0≤xs i∧xs i≤99)
 (c1:w.cell? ⟨B1,0,none⟩=some (.slice A n p))(c2:w.cell? ⟨B2,3,none⟩=some (.slice gA n gc)):
 CallsIn FF 0 prog 119 #[.pointer (some ⟨B1,0,none⟩),.pointer (some ⟨B2,0,none⟩)] w fun e w'=>e=.returned (int i64 0)∧Below w.heap.size w w':=by
 have H:=hid (JA xs A n p 99 w hI hn hx)
 clear hI hx
 gi_enter func119,ntmps119
 gi_wp2_with (gi_at_call 34;refine H.out.mono ?_;rintro e w2 ⟨rfl,hb2⟩)
 go_ret
 exact⟨rfl,hb2⟩
theorem Xu(xs:Nat→Int)(A:Option Addr)(n p M:Nat)(gA:Option Addr)(gc B1 B2:Nat)(w:World)(hI:Ints w w.heap.size A n xs)(hn:n≤maxLen)(hM:M≤maxLen)(hx:∀i,i<n→0≤xs i∧xs i≤(M:Int) - 1)(hup:∀i,i+1<n→xs i<xs (i+1))
 (c1:w.cell? ⟨B1,0,none⟩=some (.slice A n p))(c2:w.cell? ⟨B2,0,none⟩=some (.slice gA M gc)):
 CallsIn FF 0 prog 120 #[.pointer (some ⟨B1,0,none⟩),.pointer (some ⟨B2,0,none⟩)] w fun e w'=>e=.returned (int i64 0)∧Below w.heap.size w w':=by
 have H:=hid (TM xs A n p M w hI hn hM hx hup)
 clear hI hx hup
 gi_enter func120,ntmps120
 gi_wp2_with (gi_at_call 121;refine H.out.mono ?_;rintro e w2 ⟨rfl,hb2⟩)
 go_ret
 exact⟨rfl,hb2⟩
end
section
open Go.RowKit
open Go.Sort (grow)
attribute [local go_sem] Oper.semAt_some
theorem JQ{w w':World}{B n:Nat}{A:Option Addr}{xs:Nat→Int}{row:Option Nat}(h:Ints w B A n xs)(hg:w.grownBy w' row)(hB:B≤w.heap.size)(hne:0<n→∀ad,A=some ad→some ad.block≠row):Ints w' B A n xs:=fun hn=>by
 obtain⟨ad,e,hb,hc⟩:=h hn
 refine⟨ad,e,hb,fun i j hi hj=>?_⟩
 rw[← hc i j hi hj]
 have hbl:w'.heap[(ad.add (i * 1+j)).block]? =w.heap[(ad.add (i * 1+j)).block]?:=by rw[aH];exact hg.block _ zo (hne hn ad e)
 unfold World.cell?
 rw[hbl]
theorem fN(A1 A2:Option Addr)(n1 c1 n2 c2:Nat)(xs ys:Nat→Int)(w:World)(h1:Ints w w.heap.size A1 n1 xs)(h2:Ints w w.heap.size A2 n2 ys)(hn1:n1≤maxLen)(hn2:n2≤maxLen):CallsIn FF 0 prog 134 #[.slice A1 n1 c1,.slice A2 n2 c2] w fun e w'=>(∃c:Int,e=.returned (int i64 c))∧w=w':=by
 have HC:=hid Lu
 have H1:=hid h1
 have H2:=hid h2
 clear h1 h2
 unfold maxLen at hn1 hn2
 gi_enter func134,ntmps134
 gi_wp2
 gi_loop [11] (fun i=>∃k:Nat,k≤n1∧i=int i64 k) (fun i=>n1 - (intOf i).toNat)
 case atStart=>exact⟨0,Nat.zero_le _,rfl⟩
 case round=>
  obtain⟨k,hk,rfl⟩:=hrel
  by_cases hlt:k<n1
  ·obtain⟨a1,e1,-⟩:=H1.out (show 0<n1 by omega)
   subst e1
   have d1:=Ints.at_ H1.out hlt
   generalize xs k=x at d1
   by_cases hlt2:k<n2
   ·obtain⟨a2,e2,-⟩:=H2.out (show 0<n2 by omega)
    subst e2
    have d2:=Ints.at_ H2.out hlt2
    generalize ys k=y at d2
    obtain⟨c,hc⟩:∃c,c=wH x y:=⟨_,rfl⟩
    have MY:Hid (CallsIn FF 0 prog 133 #[int i64 x,int i64 y] w fun e w'=>e=.returned (int i64 c)∧w=w'):=hid (by rw[hc];exact HC.out _ _ _)
    clear hc
    by_cases hc0:c=0
    ·subst hc0
     gi_wp2_with (gi_at_call 133;refine MY.out.mono ?_;rintro e w3 ⟨rfl,rfl⟩)
     go_round
     case rel=>exact⟨k+1,zo,by go_num⟩
     case measure=>simp[intOf];omega
    ·have hc1:(c == 0)=false:=by simpa using hc0
     gi_wp2_with (gi_at_call 133;refine MY.out.mono ?_;rintro e w3 ⟨rfl,rfl⟩)
     all_goals (go_ret;exact⟨⟨_,rfl⟩,rfl⟩)
   ·gi_wp2
    all_goals (go_ret;exact⟨⟨_,rfl⟩,rfl⟩)
  ·obtain rfl:n1=k:=zo
   by_cases hl:n1<n2
   ·gi_wp2
    all_goals (go_ret;exact⟨⟨_,rfl⟩,rfl⟩)
   ·gi_wp2
    all_goals (go_ret;exact⟨⟨_,rfl⟩,rfl⟩)
theorem Kd(g c:Nat)(a b:Int)(w:World)(h0:w.cell? ⟨g,0,none⟩=some (int i64 a))(h1:w.cell? ⟨g,1,none⟩=some (int i64 b)):CallsIn FF 0 prog 132 #[.slice (some ⟨g,0,none⟩) 2 c] w fun e w'=>e=.returned (int i64 (if a=0 then b else a))∧w=w':=by
 by_cases ha:a=0
 ·subst ha
  rw[if_pos rfl]
  by_cases hb:b=0
  ·subst hb
   gi_enter func132,ntmps132
   gi_wp2
   refine wpIn_loop_rounds 3 ?_
   repeat (rw[roundsIn_succ];gi_wp2)
   all_goals (go_ret;exact⟨rfl,rfl⟩)
  ·have hb1:(b == 0)=false:=by simpa using hb
   gi_enter func132,ntmps132
   gi_wp2
   refine wpIn_loop_rounds 2 ?_
   repeat (rw[roundsIn_succ];gi_wp2)
   all_goals (go_ret;exact⟨rfl,rfl⟩)
 ·have ha1:(a == 0)=false:=by simpa using ha
  rw[if_neg ha]
  gi_enter func132,ntmps132
  gi_wp2
  refine wpIn_loop_rounds 1 ?_
  rw[roundsIn_succ]
  gi_wp2
  all_goals (go_ret;exact⟨rfl,rfl⟩)
theorem NC(A1 A2:Option Addr)(n1 c1 n2 c2:Nat)(xs ys:Nat→Int)(w:World)(h1:Ints w w.heap.size A1 n1 xs)(h2:Ints w w.heap.size A2 n2 ys)(hn1:n1≤maxLen)(hn2:n2≤maxLen):CallsIn FF 0 prog 108 #[.slice A1 n1 c1,.slice A2 n2 c2] w fun e w'=>(∃c:Int,e=.returned (int i64 c)∧(c<0→n1≤n2)∧(¬ c<0→n2≤n1))∧Below w.heap.size w w':=by
 have HC:=hid Lu
 have HS:=hid (fN A1 A2 n1 c1 n2 c2 xs ys w h1 h2 hn1 hn2)
 have HO:=hid fun g c a b w h0 h1=>Kd g c a b w h0 h1
 obtain⟨z,hz⟩:∃z,z=wH n1 n2:=⟨_,rfl⟩
 have HZ:Hid (∀c:Int,((if z=0 then c else z)<0→n1≤n2)∧(¬ (if z=0 then c else z)<0→n2≤n1)):=hid fun c=>by
  rw[hz];unfold wH
  rcases Nat.lt_trichotomy n1 n2 with h|h|h
  ·rw[if_pos (show(n1:Int)<n2 by omega),if_neg zD];omega
  ·subst h;omega
  ·rw[if_neg (show ¬ (n1:Int)<n2 by omega),if_pos (show(n2:Int)<n1 by omega),if_neg zD];omega
 have XN:Hid (∀w,CallsIn FF 0 prog 133 #[int i64 n1,int i64 n2] w fun e w'=>e=.returned (int i64 z)∧w=w'):=hid fun w=>by rw[hz];exact HC.out _ _ _
 clear h1 h2 hz
 gi_enter func108,ntmps108
 gi_wp2_with (first
  | (gi_at_call 133;refine(XN.out _).mono ?_;rintro e w3 ⟨rfl,rfl⟩)
  | (gi_at_call 134;refine HS.out.mono ?_;rintro e w3 ⟨⟨c0,rfl⟩,rfl⟩)
  | (gi_at_call 132;refine(HO.out _ _ z c0 _ zs zs).mono ?_;rintro e w3 ⟨rfl,rfl⟩))
 all_goals
  have hz:=HZ.out c0
  first
   | (rw[if_pos (by assumption)] at hz;go_ret;exact⟨⟨_,rfl,hz.1,hz.2⟩,bw⟩)
   | (rw[if_neg (by assumption)] at hz;go_ret;exact⟨⟨_,rfl,hz.1,hz.2⟩,bw⟩)
structure Sl where
 A:Option Addr
 n:Nat
 c:Nat
def Sl.v(s:Sl):Value:=.slice s.A s.n s.c
theorem Xb(a:Addr)(N c:Nat)(hs:Nat→Sl)(xs:Nat→Nat→Int)(w:World)(h0:0<N)(hN:N≤64)(hR:Rows w w.heap.size 1 (some a) N (fun i _=>(hs i).v))(hI:∀j,j<N→Ints w w.heap.size (hs j).A (hs j).n (xs j))(hn:∀j,j<N→(hs j).n≤64):
 CallsIn FF 0 prog 107 #[.func (.func 108) #[] #[],.slice (some a) N c] w fun e w'=>(∃j,j<N∧e=.returned (.tuple #[(hs j).v,.bool true])∧∀i,i<N→(hs j).n≤(hs i).n)∧Below w.heap.size w w':=by
 have HR:=hid hR
 have HI:=hid hI
 have HN:=hid hn
 clear hR hI hn
 gi_enter func107,ntmps107
 gi_wp2
 gi_loopw [4,10] (fun l i wr=>∃k:Nat,k≤N∧i=int i64 k∧(k=0→l=.slice none 0 0)∧Hid ((0<k→∃j,j<N∧l=(hs j).v∧∀i,i<k→(hs j).n≤(hs i).n)∧Below w.heap.size w wr)) (fun _ i _=>N - (intOf i).toNat)
 case atStart=>exact⟨0,Nat.zero_le _,rfl,fun _=>rfl,hid ⟨fun h=>zo,Below.refl _ _⟩⟩
 case round=>
  obtain⟨k,hk,rfl,hk0,hT⟩:=hrel
  obtain⟨wo,rfl⟩:∃wo:World,wo=wr:=⟨_,rfl⟩
  have hso:=hT.out.2.size
  by_cases hlt:k<N
  ·have d0:wo.cell? (a.add k)=some (hs k).v:=by
    obtain⟨hb,hr⟩:=HR.out.row hlt
    have:=hr 0 zD
    rw[Nat.mul_one,add_zero'] at this
    exact(hT.out.2.cell (by rw[aH];exact hb)).trans this
   have IK:=hid (aT (HI.out k hlt) hT.out.2)
   have NK:=hid (HN.out k hlt)
   obtain⟨sk,hsk⟩:∃sk,sk=hs k:=⟨_,rfl⟩
   rw[← hsk] at d0 IK NK
   have mN:=hid hsk
   clear hsk
   obtain⟨A1,n1,c1⟩:=sk
   simp only[Sl.v] at d0 IK NK
   rcases Nat.eq_zero_or_pos k with hz|hp
   ·have hl:=hk0 hz
    subst hl
    subst hz
    have hT':=hT.out.2
    have d0':wo.cell? a=some (.slice A1 n1 c1):=d0
    clear hk0
    gi_wp2
    repeat (refine⟨fun f h=>(by cases h),?_⟩;gi_wp2)
    go_roundw
    case rel=>exact⟨1,zo,rfl,(fun h=>zo),hid ⟨fun _=>⟨0,h0,by rw[← mN.out];rfl,fun i hi=>Nat.le_of_eq (by rw[show i=0 by omega])⟩,hT'⟩⟩
    case measure=>simp[intOf];omega
   ·obtain⟨j,hj,rfl,hjm⟩:=hT.out.1 hp
    have IJ:=hid (aT (HI.out j hj) hT.out.2)
    have NJ:=hid (HN.out j hj)
    have ud:=hid hjm
    have hT':=hid hT.out.2
    obtain⟨sj,hsj⟩:∃sj,sj=hs j:=⟨_,rfl⟩
    rw[← hsj] at IJ NJ ud⊢
    have ON:=hid hsj
    clear hsj hT hk0 hjm
    obtain⟨A2,n2,c2⟩:=sj
    simp only[Sl.v] at IJ NJ ud⊢
    have hz1:((k:Int) == 0)=false:=zm
    have HC:=hid (NC A1 A2 n1 c1 n2 c2 _ _ wo IK.out IJ.out (by have:=NK.out;unfold maxLen;omega) (by have:=NJ.out;unfold maxLen;omega))
    gi_wp2_with (gi_at_call 108;refine HC.out.mono ?_;rintro e w3 ⟨⟨z,rfl,hz2,hz3⟩,hb3⟩)
    ·refine⟨⟨k+1,hlt,by push_cast;rfl,(fun h=>zo),hid ⟨fun _=>⟨k,hlt,by rw[← mN.out],fun i hi=>?_⟩,hT'.out.trans (hb3.mono hso)⟩⟩,by simp[intOf];omega⟩
     have h1:=hz2 zt
     rw[← mN.out]
     show n1≤(hs i).n
     rcases Nat.lt_or_ge i k with h|h
     ·exact Nat.le_trans h1 (ud.out i h)
     ·obtain rfl:i=k:=zo
      rw[← mN.out]
      exact Nat.le_refl _
    ·refine⟨⟨k+1,hlt,by push_cast;rfl,(fun h=>zo),hid ⟨fun _=>⟨j,hj,by rw[← ON.out],fun i hi=>?_⟩,hT'.out.trans (hb3.mono hso)⟩⟩,by simp[intOf];omega⟩
     have h1:=hz3 zt
     rw[← ON.out]
     show n2≤(hs i).n
     rcases Nat.lt_or_ge i k with h|h
     ·exact ud.out i h
     ·obtain rfl:i=k:=zo
      rw[← mN.out]
      exact h1
  ·obtain rfl:N=k:=zo
   obtain⟨j,hj,rfl,hjm⟩:=hT.out.1 h0
   gi_wp2
   go_ret2
   exact⟨⟨j,hj,rfl,hjm⟩,hT.out.2⟩
theorem Xa(A:Option Addr)(c:Nat)(w:World):CallsIn FF 0 prog 107 #[.func (.func 108) #[] #[],.slice A 0 c] w fun e w'=>e=.returned (.tuple #[.slice none 0 0,.bool false])∧Below w.heap.size w w':=by
 gi_enter func107,ntmps107
 gi_wp2
 refine wpIn_loop_rounds 1 ?_
 rw[roundsIn_succ]
 gi_wp2
 go_ret2
 exact⟨rfl,Below.refl _ _⟩
theorem Oq(N:Nat)(s:Nat→Nat)(A0:Option Addr)(c0:Nat)(w:World)(h:Ints w w.heap.size A0 N (fun i=>((s i:Nat):Int)))(hs:∀i,i<N→s i<1024)(hN:N≤64):
 CallsIn FF 0 prog 81 #[.slice A0 N c0] w fun e w'=>((N=0∧e=.returned (.tuple #[.slice none 0 0,.bool false]))∨∃ (j:Nat) (A:Option Addr) (c:Nat),j<N∧e=.returned (.tuple #[.slice A (aB (s j) 10).length c,.bool true])∧Ints w' w'.heap.size A (aB (s j) 10).length (fun i=>(aB (s j) 10).getD i 0)∧∀i,i<N→(aB (s j) 10).length≤(aB (s i) 10).length)∧Below w.heap.size w w':=by
 have H0:=hid h
 have HS:=hid hs
 have HOf:=hid fun i (hi:i<N) w=>kK (s i) w (hs i hi)
 obtain⟨i0,hi,hz0,hz1,hz2⟩:=info_parts Tryz.infoL
 have hi0:=hid hi
 clear h hs hi
 gi_enter func81,ntmps81
 gi_wp2
 gi_loopw [4,9] (fun l i wr=>∃ (k:Nat) (hd:Nat→Sl),k≤N∧i=int i64 k∧Hid (wr.ownsRow w.heap.size 30 1 l k ((List.range k).map fun j=>(hd j).v)∧(∀j,j<k→(hd j).n=(aB (s j) 10).length∧Ints wr wr.heap.size (hd j).A (hd j).n (fun i=>(aB (s j) 10).getD i 0)∧(0<(hd j).n→∀ad,(hd j).A=some ad→some ad.block≠l.ownBlock))∧Below w.heap.size w wr)) (fun _ i _=>N - (intOf i).toNat)
 case atStart=>exact⟨0,fun _=>⟨none,0,0⟩,Nat.zero_le _,rfl,hid ⟨jl _ _ 30,(fun j hj=>zo),Below.refl _ _⟩⟩
 case round=>
  obtain⟨k,hd,hk,rfl,hT⟩:=hrel
  obtain⟨A9,n9,p9,rfl⟩:=eX hT.out.1
  obtain⟨wo,rfl⟩:∃wo:World,wo=wr:=⟨_,rfl⟩
  have hso:=hT.out.2.2.size
  by_cases hlt:k<N
  ·obtain⟨a0,e0,hb0,-⟩:=H0.out (show 0<N by omega)
   subst e0
   have d0:wo.cell? (a0.add k)=some (int i64 (s k)):=(hT.out.2.2.cell (by rw[aH];exact hb0)).trans (H0.out.at_ hlt)
   have ui:=hid (HOf.out k hlt wo)
   obtain⟨L,hL⟩:∃L,L=aB (s k) 10:=⟨_,rfl⟩
   rw[← hL] at ui
   have HL:=hid hL
   clear hL
   gi_wp2_with (first
    | (gi_at_call 96;refine ui.out.mono ?_;rintro e w3 ⟨v,rfl,hown,hb3⟩;have Vt:=hid hown;have HV:=hid (dF hown);obtain⟨A3,c3,rfl⟩:=HV.out;have Ho:=hid (own_below hT.out.1 hb3);have hs3:=hb3.size;clear hown)
    | (gi_at_builtin;refine aF rfl rfl rfl fun K5 iX=>?_;refine wp_append_lies _ _ _ _ rfl w.heap.size 30 i0 _ 1 24 underlying72 hi0.out hz0 hz1 hz2 rfl zo (.slice A9 n9 p9) k _ rfl (aQ Ho.out _) ⟨w3.heap.size,0,none⟩ 1 1 [_] rfl rfl (World.news_of_block (heap_alloc_new w3 _)) (by simp[Value.oneCell']) zo zU zo zm (w3.heap.size+1) zs ?_;intro pz nD w10 hown5 aM lG nI;refine iX _ _ ?_;clear iX K5))
   have DG:Below w.heap.size w w10:=((hT.out.2.2.trans (hb3.mono hso)).alloc zo _).trans (below_grown aM zm (fun g hg=>(bR Ho.out hg).1))
   have Hd:w3.heap.size+1≤w10.heap.size:=by
    have:=aM.size
    simpa using this
   have keep:∀ (A:Option Addr) (n:Nat) (xs:Nat→Int),Ints w3 w3.heap.size A n xs→(0<n→∀ad,A=some ad→some ad.block≠(Value.slice A9 n9 p9).ownBlock)→Ints w10 w10.heap.size A n xs:=fun A n xs h hne=>
    Rows.more (JQ (Rows.alloc h (Nat.le_refl _) _) aM zs hne) zo
   have old:∀ (A:Option Addr) (n:Nat) (xs:Nat→Int),Ints w3 w3.heap.size A n xs→(0<n→∀ad,A=some ad→some ad.block≠(Value.slice A9 n9 p9).ownBlock)→0<n→∀ad,A=some ad→some ad.block≠some pz:=fun A n xs h hne hn ad e hc=>by
    rcases lG with h1|h1
    ·exact hne hn ad e (hc.trans h1.symm)
    ·obtain⟨B5,e',hb,_⟩:=h hn
     rw[e] at e'
     cases e'
     injection hc with hc
     omega
   have I3:=dA Vt.out
   have N3:0<L.length→∀ad,A3=some ad→some ad.block≠(Value.slice A9 n9 p9).ownBlock:=fun _ ad e hc=>by
    subst e
    have h1:=(bR Vt.out (g:=ad.block) rfl).1
    have h2:=(bR hT.out.1 (g:=ad.block) hc.symm).2
    omega
   refine⟨⟨k+1,fun j=>if j=k then⟨A3,L.length,c3⟩ else hd j,hlt,by push_cast;rfl,hid ⟨?_,fun j hj=>?_,DG⟩⟩,by simp[intOf];omega⟩
   ·have e1:(List.range (k+1)).map (fun j=>(if j=k then(⟨A3,L.length,c3⟩:Sl) else hd j).v)=(List.range k).map (fun j=>(hd j).v) ++ [.slice A3 L.length c3]:=by
     rw[List.range_succ,List.map_append]
     congr 1
     ·refine List.map_congr_left fun j hj=>?_
      have:=List.mem_range.1 hj
      rw[if_neg zo]
     ·simp[Sl.v]
    rw[e1]
    exact hown5
   ·by_cases hjk:j=k
    ·subst hjk
     simp only[if_true]
     refine⟨by rw[HL.out],?_,old A3 _ _ I3 N3⟩
     rw[← HL.out]
     exact keep _ _ _ I3 N3
    ·simp only[if_neg hjk]
     obtain⟨h1,h2,h3⟩:=hT.out.2.1 j zo
     exact⟨h1,keep _ _ _ (aT h2 hb3) h3,old _ _ _ (aT h2 hb3) h3⟩
  ·obtain rfl:N=k:=zo
   obtain⟨A',c',e'⟩:=dF hT.out.1
   injection e' with e1 e2 e3
   subst e2
   subst e1
   subst e3
   have hown:=hT.out.1
   have hlen:∀j,j<n9→(hd j).n≤64:=fun j hj=>by
    rw[(hT.out.2.1 j hj).1]
    unfold aB
    rw[List.length_map]
    exact Nat.le_trans (List.length_filter_le _ _) zs
   rcases Nat.eq_zero_or_pos n9 with hz|hp
   ·subst hz
    have aq:=hid (Xa A9 p9 wo)
    gi_wp2_with (gi_at_call 107;refine aq.out.mono ?_;rintro e w3 ⟨rfl,hb3⟩)
    go_ret2
    exact⟨by first|exact rfl|exact .inl ⟨rfl,rfl⟩,hT.out.2.2.trans (hb3.mono hso)⟩
   ·obtain⟨g9,aac,hv,_,hgl⟩:=hown.form hp
    injection hv with hv1 hv2 hv3
    subst hv1
    subst hv3
    have hR:Rows wo wo.heap.size 1 (some ⟨g9,0,none⟩) n9 (fun i _=>(hd i).v):=fun _=>by
     refine⟨_,rfl,hgl,fun i j hi hj=>?_⟩
     obtain rfl:j=0:=zo
     have:=hown.cells (g:=g9) rfl i (hd i).v (by simp[hi])
     simpa [Addr.add] using this
    have HLg:=hid (Xb ⟨g9,0,none⟩ n9 p9 hd (fun j i=>(aB (s j) 10).getD i 0) wo hp hN hR (fun j hj=>(hT.out.2.1 j hj).2.1) hlen)
    gi_wp2_with (gi_at_call 107;refine HLg.out.mono ?_;rintro e w3 ⟨⟨j,hj,rfl,hjm⟩,hb3⟩;obtain⟨k1,k2,k3⟩:=hT.out.2.1 j hj)
    go_ret2
    exact⟨.inr ⟨j,(hd j).A,(hd j).c,hj,by rw[← k1];rfl,by rw[← k1];exact aT k2 hb3,fun i hi=>by have:=hjm i hi;rwa[(hT.out.2.1 i hi).1,k1] at this⟩,hT.out.2.2.trans (hb3.mono hso)⟩
end
end Go.Proofs.YthaelabgfnnebaaGreat
