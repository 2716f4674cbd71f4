/- HE HG P14 AG0 AG1 AG2 AG3 NT0 TK6 TK5 TK9 TK7 HM -/
import Derived.Test.YtpmafoalhnaokaaGreatA6
import Derived.Sort.CutIn
import Derived.Shelf.SlIterI.Sorted
import Derived.Shelf.SortM.AssemblyIn
import Derived.Shelf.SortM.SortNone
import Derived.Ground.GgzProg
import Derived.Ground.SlgmProg
set_option maxRecDepth 100000
set_option maxHeartbeats 16000000
set_option linter.unusedVariables false
set_option linter.unusedSectionVars false
open Go.IntKind(i64)
open Go.Lib(hid)
open Go.Proofs.Tryz
open Go.Value(int)
namespace Go.Proofs.YtpmafoalhnaokaaGreat
section
open Go.RowKit
open Go.Sort (grow)
attribute [local go_sem] Oper.semAt_some
theorem Tryz.infoL:(Tryz.prog.info? 51).map (fun i=>(i.zero,i.size,i.bytes))=some (some (.slice none 0 0),1,24):=zk
theorem UH(g:Nat)(c:Nat)(v f:Value)(w:World)(hv:∃A n p,v=.slice A n p)(hc:w.cell? ⟨g,0,none⟩=some v):CallsIn FF 0 prog 124 #[f,.slice (some ⟨g,0,none⟩) 1 c] w fun e w'=>e=.returned (.tuple #[v,.bool true])∧Below w.heap.size w w':=by
 obtain⟨A,n,p,rfl⟩:=hv
 gi_enter func124,ntmps124
 gi_wp2
 refine wpIn_loop_rounds 2 ?_
 rw[roundsIn_succ]
 gi_wp2
 repeat (refine⟨fun f h=>(by cases h),?_⟩;gi_wp2)
 rw[roundsIn_succ]
 gi_wp2
 go_ret2
 exact⟨rfl,zB⟩
theorem KY(s:Nat)(hs:s<1024)(g c:Nat)(w:World)(hc:w.cell? ⟨g,0,none⟩=some (int i64 s)):CallsIn FF 0 prog 95 #[.slice (some ⟨g,0,none⟩) 1 c] w fun e w'=>∃v,e=.returned (.tuple #[v,.bool true])∧w'.ownsRow w.heap.size 3 1 v (aM s 10).length ((aM s 10).map (int i64))∧Below w.heap.size w w':=by
 have HS:=hid fun w=>mQ s w hs
 have HL:=hid fun g c v w hv hc=>UH g c v (.func (.func 125) #[] #[]) w hv hc
 obtain⟨i0,hi,hz0,hz1,hz2⟩:=info_parts Tryz.infoL
 have hi0:=hid hi
 obtain⟨L,hL⟩:∃L,L=aM s 10:=zE
 rw[← hL] at HS⊢
 clear hL hi
 gi_enter func95,ntmps95
 gi_wp2
 refine wpIn_loop_rounds 2 ?_
 rw[roundsIn_succ]
 gi_wp2_with (first
  | (gi_at_call 102;refine(HS.out w).mono ?_;rintro e w3 ⟨v,rfl,hown,hb3⟩;have pN:=hid hown;have hv:=iq hown;have HV:=hid hv;obtain⟨A3,n3,p3,rfl⟩:=hv;clear hown)
  | (gi_at_builtin;refine aD rfl rfl rfl fun K5 iH=>?_;refine wp_append_lies _ _ _ _ rfl w3.heap.size 51 i0 _ 1 24 underlying71 hi0.out hz0 hz1 hz2 rfl zo (.slice none 0 0) 0 [] rfl ⟨rfl,.inl ⟨rfl,rfl⟩⟩ ⟨w3.heap.size,0,none⟩ 1 1 [_] rfl rfl (World.news_of_block (heap_alloc_new w3 _)) (by simp[Value.oneCell']) zo zU zo zs (w3.heap.size+1) zs ?_;intro jN gQ w10 hown5 aN kX mP;refine iH _ _ ?_;clear iH K5))
 rw[roundsIn_succ]
 gi_wp2_with (gi_at_call 124;refine(HL.out _ _ _ w10 HV.out ?_).mono ?_;rotate_left;(rintro e w12 ⟨rfl,KM⟩))
 ·go_ret2
  have Sq:Below w.heap.size w w10:=(Below.al hb3 _).trans (below_grown aN (by simp;have:=hb3.size;omega) (fun g hg=>by cases hg))
  exact⟨_,rfl,own_below (oZ (bD pN.out _) aN (fun g hg=>by simp[Value.ownBlock])) KM,Below.next Sq KM⟩
 ·have:=hown5.cells (g:=jN) rfl 0 (.slice A3 n3 p3) zs
  simpa [Addr.add] using this
theorem Vu(b:Bk)(ok:b.Ok)(s:Nat)(hl:dZ s)(Bb Bl:Nat)(w:World)(hb:Whole w Bb 73 b.cells)(hw:Whole w Bl 3 #[int i64 s])(hA:b.At w w.heap.size):pW FF 104 #[.pointer (some ⟨Bb,0,none⟩),.pointer (some ⟨Bl,0,none⟩)] (gy b s) w:=by
 refine⟨zs,enters_of func104 zk rfl,fun C W hW hC=>?_⟩
 exact Wp (p:=FF.fn) b ok s hl C w.heap.size Bb Bl W (fun x hx=>(hC x hx).2) (hb.below hW hb.lt) (hw.below hW hw.lt) (hA.below hW) hW.size (fun h=>by have:=(hC _ h).1;have:=hb.lt;omega) (fun h=>by have:=(hC _ h).1;have:=hw.lt;omega) (fun x hx h=>by have:=(hC _ h).1;omega)
theorem Ra(b:Bk)(ok:b.Ok)(s:Nat)(hl:dZ s)(w:World)(hA:b.At w w.heap.size):CallsIn FF 0 prog 81 #[b.val,int i64 s] w fun e w'=>∃lb,e=.returned (.func (.func 104) #[] lb)∧pW FF 104 lb (gy b s) w'∧Below w.heap.size w w':=by
 refine(Wx (p:=FF.fn) b s w).mono ?_
 rintro e w' ⟨rfl,hb,hi,hbw,-⟩
 exact⟨_,rfl,Vu b ok s hl _ _ w' hb hi (hA.up hbw),hbw⟩
def Em(b:Bk)(k:Nat):List Int:=(((ak b).take k).filter fun s=>!(gy b s).isEmpty).map fun(n:Nat)=>(n:Int)
theorem OO(b:Bk)(k:Nat)(hk:k<(ak b).length):Em b (k+1)=Em b k ++ if (!(gy b ((ak b).getD k 0)).isEmpty)=true then[(((ak b).getD k 0:Nat):Int)] else[]:=by
 unfold Em
 rw[List.take_add_one,List.getD_eq_getElem?_getD,List.getElem?_eq_getElem hk,List.filter_append,List.map_append]
 congr 1
 simp only[Option.toList,Option.getD,List.filter_cons,List.filter_nil]
 split <;> simp_all
theorem Tt(b:Bk)(k:Nat):(Em b k).length≤(ak b).length:=by
 unfold Em
 rw[List.length_map]
 exact Nat.le_trans (List.length_filter_le _ _) (by rw[List.length_take];exact Nat.min_le_right _ _)
theorem XF(b:Bk)(A:Option Addr)(p:Nat)(s0:Nat)(w:World)(hc:pQ b A w)(ok:b.Ok)(hl:∀s∈ak b,dZ s)(hcan:Em b (ak b).length=[(s0:Int)])(hs0:s0<1024):
 CallsIn FF 0 prog 69 #[.agg (aA b A (ak b).length p)] w fun e w'=>∃v,e=.returned (.tuple #[v,.bool true])∧w'.ownsRow w.heap.size 3 1 v (aM s0 10).length ((aM s0 10).map (int i64))∧Below w.heap.size w w':=by
 have HT:=hid fun k (w':World) (hk:k<(ak b).length) (hA:b.At w' w'.heap.size)=>Ra b ok ((ak b).getD k 0) (hl _ (by rw[List.getD_eq_getElem?_getD,List.getElem?_eq_getElem hk];exact List.getElem_mem hk)) w' hA
 have HY:=hid fun k lb (w':World) h=>SX (p:=FF.fn) 104 lb (gy b ((ak b).getD k 0)) w' h
 have HL:=hid fun g c w hc=>KY s0 hs0 g c w hc
 have HC:=hid hc
 have HR:=hid hc.row
 have Kb:=hid hc.at_
 obtain⟨n,hn⟩:∃n,n=(ak b).length:=zE
 obtain⟨LN,Ha⟩:∃LN:Nat→Nat,LN=fun k=>(ak b).getD k 0:=⟨_,rfl⟩
 obtain⟨T,hT⟩:∃T:Nat→List Ht,T=fun k=>gy b ((ak b).getD k 0):=⟨_,rfl⟩
 obtain⟨F,hF⟩:∃F:Nat→List Int,F=Em b:=⟨_,rfl⟩
 have HT':Hid (∀k (w':World),k<n→b.At w' w'.heap.size→CallsIn FF 0 prog 81 #[b.val,int i64 (LN k)] w' fun e w''=>∃lb,e=.returned (.func (.func 104) #[] lb)∧pW FF 104 lb (T k) w''∧Below w'.heap.size w' w''):=hid fun k w' hk hA=>by rw[Ha,hT];rw[hn] at hk;exact HT.out k w' hk hA
 have HY':Hid (∀k lb (w':World),pW FF 104 lb (T k) w'→CallsIn FF 0 prog 77 #[.func (.func 104) #[] lb] w' fun e w''=>e=.returned (.bool (!(T k).isEmpty))∧Below w'.heap.size w' w''):=hid fun k lb w' h=>by rw[hT] at h⊢;exact HY.out k lb w' h
 have HR':Hid (Rows w w.heap.size 1 A n (fun i _=>int i64 ((LN i:Nat):Int))):=hid (by rw[Ha,hn];exact HR.out)
 have HF0:Hid (F 0=[]):=hid (by rw[hF];rfl)
 have Lq:Hid (∀k,k<n→F (k+1)=F k ++ if (!(T k).isEmpty)=true then[((LN k:Nat):Int)] else[]):=hid fun k hk=>by rw[hF,hT,Ha];rw[hn] at hk;exact OO b k hk
 have HFn:Hid (F n=[(s0:Int)]):=hid (by rw[hF,hn];exact hcan)
 have HFl:Hid (∀k,(F k).length≤64):=hid fun k=>by rw[hF];exact Nat.le_trans (Tt b k) (lS b ok)
 have aaI:n≤64:=by rw[hn];exact lS b ok
 obtain⟨L0,hL0⟩:∃L,L=aM s0 10:=zE
 rw[← hL0] at HL⊢
 rw[← hn]
 obtain⟨i0,hi,hz0,hz1,hz2⟩:=info_parts info3
 have hi0:=hid hi
 clear hi hn Ha hT hF HT HY HR hcan hl ok hc HC hL0 hs0
 obtain⟨dY,mO,gA,ng,gc,g,mA,nm,mc,m,cA,nc,cc,c⟩:=b
 simp only[Bk.val,Bk.cells,aA] at HT'⊢
 obtain⟨w1,hw1⟩:∃w1,w1=w.alloc (.cells #[int i64 dY,int i64 mO,.slice gA ng gc,.slice mA nm mc,.slice cA nc cc,.slice A n p] 75):=zE
 have B1:Hid (Below w.heap.size w w1):=hid (by rw[hw1];exact bw)
 have X1:Hid (Whole w1 w.heap.size 75 #[int i64 dY,int i64 mO,.slice gA ng gc,.slice mA nm mc,.slice cA nc cc,.slice A n p]):=hid (by rw[hw1];exact Whole.new _ _ _)
 have hs1:w1.heap.size=w.heap.size+1:=by rw[hw1];simp
 have ku:=hid hw1
 clear hw1
 gi_enter func69,ntmps69
 gi_wp2
 rw[← ku.out]
 clear ku
 gi_loopw [4,10] (fun l i wr=>∃k:Nat,k≤n∧i=int i64 k∧Hid (wr.ownsRow (w.heap.size+1) 3 1 l (F k).length ((F k).map (int i64))∧Below (w.heap.size+1) w1 wr)) (fun _ i _=>n - (intOf i).toNat)
 case atStart=>exact⟨0,Nat.zero_le _,rfl,hid ⟨by rw[HF0.out];exact pq _ (w.heap.size+1) 3,zB⟩⟩
 case round=>
  obtain⟨k,hk,rfl,hT⟩:=hrel
  obtain⟨A9,n9,p9,rfl⟩:=iq hT.out.1
  obtain⟨wo,rfl⟩:∃wo:World,wo=wr:=zE
  have hso:w.heap.size+1≤wo.heap.size:=by have:=hT.out.2.size;omega
  have BO:Hid (Below w.heap.size w wo):=hid (B1.out.trans (hT.out.2.mono zo))
  by_cases hlt:k<n
  ·obtain⟨ad,hA',hbl,-⟩:=HR'.out (show 0<n by omega)
   subst hA'
   obtain⟨s,hs⟩:∃s,s=LN k:=zE
   have d0:wo.cell? (ad.add k)=some (int i64 s):=by
    rw[hs]
    refine(BO.out.cell (by rw[aH];exact hbl)).trans ?_
    have:=(HR'.out.row hlt).2 0 zD
    rwa[Nat.mul_one,add_zero'] at this
   have Rg:=HT'.out k wo hlt (Kb.out.up BO.out)
   have G4:=Lq.out k hlt
   have hFl:=HFl.out k
   rw[← hs] at Rg G4
   obtain⟨t,ht⟩:∃t,t=!(T k).isEmpty:=zE
   have Rr:=fun lb w' h=>HY'.out k lb w' h
   rw[← ht] at Rr G4
   have X2:=hid (X1.out.below hT.out.2 zo)
   have x0:wo.cell? ⟨w.heap.size,0,none⟩=some (int i64 dY):=X2.out.cell 0
   have x1:wo.cell? ⟨w.heap.size,1,none⟩=some (int i64 mO):=X2.out.cell 1
   have x2:wo.cell? ⟨w.heap.size,2,none⟩=some (.slice gA ng gc):=X2.out.cell 2
   have x3:wo.cell? ⟨w.heap.size,3,none⟩=some (.slice mA nm mc):=X2.out.cell 3
   have x4:wo.cell? ⟨w.heap.size,4,none⟩=some (.slice cA nc cc):=X2.out.cell 4
   have HTo:=hid Rg
   have HYo:=hid Rr
   have HFk:=hid G4
   clear Rg Rr G4 hs ht
   cases t
   ·gi_wp2_with (first
     | (gi_at_call 81;refine HTo.out.mono ?_;rintro e w4 ⟨lb,rfl,hs4,hb4⟩)
     | (gi_at_call 77;refine(HYo.out lb _ hs4).mono ?_;rintro e w5 ⟨rfl,hb5⟩))
    have wh:=hb4.trans (hb5.mono hb4.size)
    exact⟨⟨k+1,hlt,by push_cast;rfl,hid ⟨by rw[HFk.out];simpa using own_below hT.out.1 wh,hT.out.2.trans (wh.mono hso)⟩⟩,by simp[intOf];omega⟩
   ·gi_wp2_with (first
     | (gi_at_call 81;refine HTo.out.mono ?_;rintro e w4 ⟨lb,rfl,hs4,hb4⟩)
     | (gi_at_call 77;refine(HYo.out lb _ hs4).mono ?_;rintro e w5 ⟨rfl,hb5⟩;have wh:=hb4.trans (hb5.mono hb4.size);have Ho:=hid (own_below hT.out.1 wh);have hs5:=wh.size)
     | (gi_at_builtin;refine aD rfl rfl rfl fun K5 iH=>?_;refine wp_append_lies _ _ _ _ rfl (w.heap.size+1) 3 i0 _ 1 8 underlying51 hi0.out hz0 hz1 hz2 rfl zo (.slice A9 n9 p9) (F k).length _ rfl (bD Ho.out _) ⟨w5.heap.size,0,none⟩ 1 1 [_] rfl rfl (World.news_of_block (heap_alloc_new w5 _)) (by simp[Value.oneCell']) zo zU zo zm (w5.heap.size+1) zs ?_;intro jN gQ w10 hown5 aN kX mP;refine iH _ _ ?_;clear iH K5))
    exact⟨⟨k+1,hlt,by push_cast;rfl,hid ⟨by rw[HFk.out];simpa using hown5,((hT.out.2.trans (wh.mono hso)).alloc zo _).trans (below_grown aN zm (fun g hg=>(bL Ho.out hg).1))⟩⟩,by simp[intOf];omega⟩
  ·obtain rfl:k=n:=zo
   have hown:=hT.out.1
   rw[HFn.out] at hown
   obtain⟨g9,c9,hv,-,-⟩:=hown.form zs
   have hcl:=hown.cells (g:=g9) (by rw[hv];rfl) 0 (int i64 s0) zs
   injection hv with h1 h2 h3
   subst h1 h2 h3
   have hcl:wo.cell? ⟨g9,0,none⟩=some (int i64 s0):=by simpa [Addr.add] using hcl
   gi_wp2_with (gi_at_call 95;refine(HL.out _ _ _ hcl).mono ?_;rintro e w12 ⟨v,rfl,TO,KM⟩)
   go_ret2
   exact⟨_,rfl,dh TO zo,Below.next BO.out KM⟩
theorem Jb(b:Bk)(s0:Nat)(w:World)(h:b.At w w.heap.size)(ok:b.Ok)(hcap:b.ng≤b.gc)(hl:∀s∈ak b,dZ s)(hcan:Em b (ak b).length=[(s0:Int)])(hs0:s0<1024):CallsIn FF 0 prog 26 #[b.val] w fun e w'=>∃v,e=.returned (.tuple #[v,int i64 0])∧w'.ownsRow w.heap.size 3 1 v (aM s0 10).length ((aM s0 10).map (int i64))∧Below w.heap.size w w':=by
 have HO:=hid fun w h=>mU b w h ok hcap
 have HB:=hid fun A p w hc=>XF b A p s0 w hc ok hl hcan hs0
 have HA:=hid h
 obtain⟨n,hn⟩:∃n,n=(ak b).length:=zE
 rw[← hn] at HO HB
 obtain⟨L0,hL0⟩:∃L,L=aM s0 10:=zE
 rw[← hL0] at HB⊢
 clear hn h hcap hl ok hcan hs0 hL0
 obtain⟨dY,mO,gA,ng,gc,g,mA,nm,mc,m,cA,nc,cc,c⟩:=b
 simp only[Bk.val,Bk.cells,aA] at HO HB⊢
 gi_enter func26,ntmps26
 gi_wp2_with (first
  | (gi_at_call 37;refine(HO.out _ (HA.out.up (bw))).mono ?_;rintro e w2 ⟨A,p,rfl,hc2,hb2,-⟩)
  | (gi_at_call 69;refine(HB.out A p _ (hc2.below (bw))).mono ?_;rintro e w4 ⟨v,rfl,hv,hb4⟩))
 go_ret2
 have KO:=Below.al (Below.next (show Below w.heap.size w (w.alloc (.cells #[int i64 dY,int i64 mO,.slice gA ng gc,.slice mA nm mc,.slice cA nc cc] 26)) from bw) hb2) (.cells #[int i64 dY,int i64 mO,.slice gA ng gc,.slice mA nm mc,.slice cA nc cc,.slice A n p] 75)
 exact⟨v,rfl,dh hv KO.size,Below.next KO hb4⟩
def Gv(a b:Int):Int:=if a<b then -1 else if b<a then 1 else 0
theorem Bm(a:Int)(w:World):CallsIn FF 0 prog 180 #[int i64 a] w fun e w'=>e=.returned (.bool false)∧w=w':=by
 gi_enter func180,ntmps180
 gi_wp2
 go_ret
 exact⟨zs,rfl⟩
theorem cV(a b:Int)(w:World):CallsIn FF 0 prog 145 #[int i64 a,int i64 b] w fun e w'=>e=.returned (int i64 (Gv a b))∧w=w':=by
 have HN:=hid Bm
 rcases Int.lt_trichotomy a b with h|h|h
 ·have e:Gv a b=-1:=if_pos h
  rw[e]
  gi_enter func145,ntmps145
  gi_wp2_with (gi_at_call 180;refine(HN.out _ _).mono ?_;rintro e w3 ⟨rfl,rfl⟩)
  all_goals (go_ret;exact⟨rfl,rfl⟩)
 ·subst h
  have e:Gv a a=0:=by simp[Gv]
  rw[e]
  gi_enter func145,ntmps145
  gi_wp2_with (gi_at_call 180;refine(HN.out _ _).mono ?_;rintro e w3 ⟨rfl,rfl⟩)
  all_goals (go_ret;exact⟨rfl,rfl⟩)
 ·have e:Gv a b=1:=by unfold Gv;rw[if_neg zo,if_pos h]
  have hn:¬ a<b:=zo
  rw[e]
  gi_enter func145,ntmps145
  gi_wp2_with (gi_at_call 180;refine(HN.out _ _).mono ?_;rintro e w3 ⟨rfl,rfl⟩)
  all_goals (go_ret;exact⟨rfl,rfl⟩)
theorem m6(g1 c1 g2 c2:Nat)(w:World)(h10:w.cell? ⟨g1,0,none⟩=some (int i64 0))(h20:w.cell? ⟨g2,0,none⟩=some (int i64 1)):CallsIn FF 0 prog 146 #[.slice (some ⟨g1,0,none⟩) 2 c1,.slice (some ⟨g2,0,none⟩) 1 c2] w fun e w'=>e=.returned (int i64 (-1))∧w=w':=by
 have HC:=hid cV
 have e:Gv 0 1=-1:=zD
 gi_enter func146,ntmps146
 gi_wp2
 refine wpIn_loop_rounds 1 ?_
 rw[roundsIn_succ]
 gi_wp2_with (gi_at_call 145;refine(HC.out _ _ _).mono ?_;rintro e w3 ⟨rfl,rfl⟩;rw[e])
 all_goals (go_ret;exact⟨rfl,rfl⟩)
theorem WN(g c:Nat)(w:World)(h0:w.cell? ⟨g,0,none⟩=some (int i64 1)):CallsIn FF 0 prog 144 #[.slice (some ⟨g,0,none⟩) 2 c] w fun e w'=>e=.returned (int i64 1)∧w=w':=by
 gi_enter func144,ntmps144
 gi_wp2
 refine wpIn_loop_rounds 1 ?_
 rw[roundsIn_succ]
 gi_wp2
 all_goals (go_ret;exact⟨rfl,rfl⟩)
theorem OY(g1 c1 g2 c2:Nat)(w:World)(h10:w.cell? ⟨g1,0,none⟩=some (int i64 0))(h20:w.cell? ⟨g2,0,none⟩=some (int i64 1)):CallsIn FF 0 prog 125 #[.slice (some ⟨g1,0,none⟩) 2 c1,.slice (some ⟨g2,0,none⟩) 1 c2] w fun e w'=>e=.returned (int i64 1)∧Below w.heap.size w w':=by
 have HC:=hid cV
 have HS:=hid (m6 g1 c1 g2 c2 w h10 h20)
 have HO:=hid fun g c w h=>WN g c w h
 have e:Gv 2 1=1:=zD
 gi_enter func125,ntmps125
 gi_wp2_with (first
  | (gi_at_call 145;refine(HC.out _ _ _).mono ?_;rintro e w3 ⟨rfl,rfl⟩;rw[e])
  | (gi_at_call 146;refine HS.out.mono ?_;rintro e w3 ⟨rfl,rfl⟩)
  | (gi_at_call 144;refine(HO.out _ _ _ zs).mono ?_;rintro e w3 ⟨rfl,rfl⟩))
 all_goals (go_ret;exact⟨rfl,bw⟩)
end
section
open Go.RowKit
theorem Ux(B b1 b2 b3 b4 b5:Nat)(w:World)(hB:B<w.heap.size)
 (l0:w.cell? ⟨B,0,none⟩=some (.func (.func 116) #[] #[.pointer (some ⟨b1,0,none⟩),.pointer (some ⟨b2,0,none⟩)]))
 (l1:w.cell? ⟨B,1,none⟩=some (.func (.func 117) #[] #[.pointer (some ⟨b3,0,none⟩),.pointer (some ⟨b2,0,none⟩)]))
 (l2:w.cell? ⟨B,2,none⟩=some (.func (.func 118) #[] #[.pointer (some ⟨b4,0,none⟩),.pointer (some ⟨b5,0,none⟩)]))
 (h1:∀w',Below w.heap.size w w'→CallsIn FF 0 prog 116 #[.pointer (some ⟨b1,0,none⟩),.pointer (some ⟨b2,0,none⟩)] w' fun e w2=>e=.returned (int i64 0)∧Below w'.heap.size w' w2)
 (h2:∀w',Below w.heap.size w w'→CallsIn FF 0 prog 117 #[.pointer (some ⟨b3,0,none⟩),.pointer (some ⟨b2,0,none⟩)] w' fun e w2=>e=.returned (int i64 0)∧Below w'.heap.size w' w2)
 (h3:∀w',Below w.heap.size w w'→CallsIn FF 0 prog 118 #[.pointer (some ⟨b4,0,none⟩),.pointer (some ⟨b5,0,none⟩)] w' fun e w2=>e=.returned (int i64 0)∧Below w'.heap.size w' w2):
 CallsIn FF 0 prog 115 #[.slice (some ⟨B,0,none⟩) 3 3] w fun e w'=>e=.returned (int i64 0)∧Below w.heap.size w w':=by
 have H1:=hid h1
 have H2:=hid h2
 have H3:=hid h3
 have L0:=hid l0
 have L1:=hid l1
 have L2:=hid l2
 clear h1 h2 h3 l0 l1 l2
 gi_enter func115,ntmps115
 gi_wp2
 gi_loopw [8] (fun i wr=>∃k:Nat,k≤3∧i=int i64 k∧Below w.heap.size w wr) (fun i _=>3 - (intOf i).toNat)
 case atStart=>exact⟨0,zo,rfl,zB⟩
 case round=>
  obtain⟨k,hk,rfl,hb⟩:=hrel
  have hsz:=hb.size
  by_cases hlt:k<3
  ·rcases(show k=0∨k=1∨k=2 by omega) with rfl|rfl|rfl
   ·have c0:=(hb.cell (p:=⟨B,0,none⟩) hB).trans L0.out
    gi_wp2_with (gi_at_call 116;refine(H1.out _ hb).mono ?_;rintro e w2 ⟨rfl,hb2⟩)
    go_roundw
    case rel=>exact⟨0+1,zo,by go_num,hb.trans (hb2.mono hsz)⟩
    case measure=>simp[intOf]
   ·have c0:=(hb.cell (p:=⟨B,1,none⟩) hB).trans L1.out
    gi_wp2_with (gi_at_call 117;refine(H2.out _ hb).mono ?_;rintro e w2 ⟨rfl,hb2⟩)
    go_roundw
    case rel=>exact⟨1+1,zo,by go_num,hb.trans (hb2.mono hsz)⟩
    case measure=>simp[intOf]
   ·have c0:=(hb.cell (p:=⟨B,2,none⟩) hB).trans L2.out
    gi_wp2_with (gi_at_call 118;refine(H3.out _ hb).mono ?_;rintro e w2 ⟨rfl,hb2⟩)
    go_roundw
    case rel=>exact⟨2+1,zo,by go_num,hb.trans (hb2.mono hsz)⟩
    case measure=>simp[intOf]
  ·obtain rfl:k=3:=zo
   gi_wp2
   go_ret
   exact⟨rfl,hb⟩
theorem bG{w w':World}{A:Option Addr}{n:Nat}{xs:Nat→Int}(h:Ints w w.heap.size A n xs)(hb:Below w.heap.size w w'):Ints w' w'.heap.size A n xs:=(Rows.below h hb).more hb.size
theorem YS(xs:Nat→Int)(A:Option Addr)(n p:Nat)(gA:Option Addr)(gc B1 B2:Nat)(w:World)(hI:Ints w w.heap.size A n xs)(hn:n≤maxLen)(hx:∀i,i<n→0≤xs i∧xs i≤99)
 (c1:w.cell? ⟨B1,0,none⟩=some (.slice A n p))(c2:w.cell? ⟨B2,2,none⟩=some (.slice gA n gc)):
 CallsIn FF 0 prog 116 #[.pointer (some ⟨B1,0,none⟩),.pointer (some ⟨B2,0,none⟩)] w fun e w'=>e=.returned (int i64 0)∧Below w.heap.size w w':=by
 have H:=hid (Kw xs A n p 99 w hI hn hx)
 clear hI hx
 gi_enter func116,ntmps116
 gi_wp2_with (gi_at_call 67;refine H.out.mono ?_;rintro e w2 ⟨rfl,hb2⟩)
 go_ret
 exact⟨rfl,hb2⟩
theorem YT(xs:Nat→Int)(A:Option Addr)(n p:Nat)(gA:Option Addr)(gc B1 B2:Nat)(w:World)(hI:Ints w w.heap.size A n xs)(hn:n≤maxLen)(hx:∀i,i<n→0≤xs i∧xs i≤99)
 (c1:w.cell? ⟨B1,0,none⟩=some (.slice A n p))(c2:w.cell? ⟨B2,3,none⟩=some (.slice gA n gc)):
 CallsIn FF 0 prog 117 #[.pointer (some ⟨B1,0,none⟩),.pointer (some ⟨B2,0,none⟩)] w fun e w'=>e=.returned (int i64 0)∧Below w.heap.size w w':=by
 have H:=hid (Kw xs A n p 99 w hI hn hx)
 clear hI hx
 gi_enter func117,ntmps117
 gi_wp2_with (gi_at_call 67;refine H.out.mono ?_;rintro e w2 ⟨rfl,hb2⟩)
 go_ret
 exact⟨rfl,hb2⟩
theorem YU(xs:Nat→Int)(A:Option Addr)(n p M:Nat)(gA:Option Addr)(gc B1 B2:Nat)(w:World)(hI:Ints w w.heap.size A n xs)(hn:n≤maxLen)(hM:M≤maxLen)(hx:∀i,i<n→0≤xs i∧xs i≤(M:Int) - 1)(hup:∀i,i+1<n→xs i<xs (i+1))
 (c1:w.cell? ⟨B1,0,none⟩=some (.slice A n p))(c2:w.cell? ⟨B2,0,none⟩=some (.slice gA M gc)):
 CallsIn FF 0 prog 118 #[.pointer (some ⟨B1,0,none⟩),.pointer (some ⟨B2,0,none⟩)] w fun e w'=>e=.returned (int i64 0)∧Below w.heap.size w w':=by
 have H:=hid (Vn xs A n p M w hI hn hM hx hup)
 clear hI hx hup
 gi_enter func118,ntmps118
 gi_wp2_with (gi_at_call 119;refine H.out.mono ?_;rintro e w2 ⟨rfl,hb2⟩)
 go_ret
 exact⟨rfl,hb2⟩
end
section
open Go.RowKit
open Go.Sort (grow)
attribute [local go_sem] Oper.semAt_some
end
section
open Go.RowKit
structure NF(b' b:Bk):Prop where
 dY:b'.dY=b.dY
 ng:b'.ng=b.ng
 nm:b'.nm=b.nm
 g:b'.g=b.g
 sub:(aB b' (ak b')).Sublist (aB b (ak b))
 stk:∀h d k,stk b' h d k=stk b h d k
theorem yT{α β:Type}{f f':α→List β}:∀ {l' l:List α},l'.Sublist l→(∀x∈l',(f' x).Sublist (f x))→(l'.flatMap f').Sublist (l.flatMap f):=by
 intro l' l h
 induction h with
 | slnil=>intro _;exact List.Sublist.refl _
 | cons a h ih=>
   intro hf
   rw[List.flatMap_cons]
   exact(ih hf).trans (List.sublist_append_right _ _)
 | cons_cons a h ih=>
   intro hf
   rw[List.flatMap_cons,List.flatMap_cons]
   exact(hf a List.mem_cons_self).append (ih fun x hx=>hf x (List.mem_cons_of_mem _ hx))
theorem Qi{a n a' n':Nat}(h1:a≤a')(h2:a'+n'≤a+n):(List.range' a' n').Sublist (List.range' a n):=by
 have e:List.range' a n=List.range' a (a' - a) ++ (List.range' a' n' ++ List.range' (a'+n') (n - (a' - a) - n')):=by
  rw[List.range'_append_1,show a'=a+(a' - a) by omega]
  rw[show a+(a' - a) - a=a' - a by omega,List.range'_append_1]
  congr 1
  omega
 rw[e]
 exact((List.sublist_append_left _ _).trans (List.sublist_append_right _ _))
theorem Qx{lo hi lo' hi':Int}(h1:lo≤lo')(h2:hi'≤hi)(h3:lo'≤hi'):(aX lo' (hi' - lo'+1).toNat).Sublist (aX lo (hi - lo+1).toNat):=by
 unfold aX
 have e:(List.range (hi' - lo'+1).toNat).map (fun(i:Nat)=>lo'+(i:Int))=(List.range' (lo' - lo).toNat (hi' - lo'+1).toNat).map fun(i:Nat)=>lo+(i:Int):=by
  rw[List.range'_eq_map_range,List.map_map]
  refine List.map_congr_left fun i _=>?_
  show lo'+(i:Int)=lo+(((lo' - lo).toNat+i:Nat):Int)
  omega
 rw[e,List.range_eq_range']
 exact(Qi zo zo).map _
def Mv.narrow(x:Mv)(lo hi:Int):Mv:={x with lo:=lo,hi:=hi }
def Bk.told(b:Bk)(i:Nat)(lo hi:Int)(G:Option Addr)(gc:Nat)(A:Option Addr)(c:Nat)(C:Option Addr)(cc:Nat):Bk:={b with gA:=G,gc:=gc,cA:=C,cc:=cc,mA:=A,mc:=c,m:=fun j=>if j=i then(b.m i).narrow lo hi else b.m j }
section
variable(b:Bk)(i:Nat)(lo hi:Int)(G:Option Addr)(gc:Nat)(A:Option Addr)(c:Nat)(C:Option Addr)(cc:Nat)
theorem rO(j:Nat):((b.told i lo hi G gc A c C cc).m j).kind=(b.m j).kind∧((b.told i lo hi G gc A c C cc).m j).good=(b.m j).good∧((b.told i lo hi G gc A c C cc).m j).day=(b.m j).day:=by
 show((if j=i then(b.m i).narrow lo hi else b.m j).kind=_∧(if j=i then(b.m i).narrow lo hi else b.m j).good=_∧(if j=i then(b.m i).narrow lo hi else b.m j).day=_)
 by_cases h:j=i
 ·subst h;simp[Mv.narrow]
 ·simp[h]
theorem Jo(s:Nat→Int)(h:Ht)(k:Nat):Bh (b.told i lo hi G gc A c C cc) s h k=Bh b s h k:=by
 obtain⟨h1,h2,h3⟩:=rO b i lo hi G gc A c C cc k
 funext g
 unfold Bh qv
 rw[h1,h2]
theorem Jq(h:Ht)(d:Int):∀k,stk (b.told i lo hi G gc A c C cc) h d k=stk b h d k
 | 0=>rfl
 | Nat.succ k=>by
   obtain⟨h1,h2,h3⟩:=rO b i lo hi G gc A c C cc k
   unfold stk
   rw[h3,Jo,Jq h d k]
theorem Rb:ak (b.told i lo hi G gc A c C cc)=ak b:=by
 unfold ak
 have e:∀s,EJ (b.told i lo hi G gc A c C cc) s=EJ b s:=fun s=>by
  unfold EJ
  congr 1
  refine propext (forall_congr' fun j=>?_)
  rw[(rO b i lo hi G gc A c C cc j).1]
  rfl
 simp only[e]
 rfl
theorem Oh(k:Nat):gM (b.told i lo hi G gc A c C cc) k=gM b k:=by
 unfold gM
 rw[(rO b i lo hi G gc A c C cc (k - 1)).2.2]
theorem Oe(k:Nat):gL (b.told i lo hi G gc A c C cc) k=gL b k:=by
 unfold gL
 rw[(rO b i lo hi G gc A c C cc k).2.2]
 rfl
theorem DF(h1:(b.m i).lo≤lo)(h2:hi≤(b.m i).hi)(h3:lo≤hi):∀ (n k:Nat) (h:Ht) (s:Nat→Int),(eu (b.told i lo hi G gc A c C cc) n k h s).Sublist (eu b n k h s)
 | 0,k,h,s=>by
   simp only[eu]
   rw[Oh,Oe]
   exact List.Sublist.refl _
 | Nat.succ n,k,h,s=>by
   simp only[eu]
   rw[Oh,Oe]
   have er:iO (b.told i lo hi G gc A c C cc) s (gM b k) (gL b k)=iO b s (gM b k) (gL b k):=rfl
   rw[er]
   split
   ·refine yT ?_ fun x _=>?_
    ·show(aX (if k=i then(b.m i).narrow lo hi else b.m k).lo ((if k=i then(b.m i).narrow lo hi else b.m k).hi - (if k=i then(b.m i).narrow lo hi else b.m k).lo+1).toNat).Sublist _
     by_cases hk:k=i
     ·subst hk
      rw[if_pos rfl]
      exact Qx h1 h2 h3
     ·rw[if_neg hk]
      exact List.Sublist.refl _
    ·rw[Jo]
     exact DF h1 h2 h3 n (k+1) _ _
   ·exact List.Sublist.refl _
theorem vU:∀k:Nat,aR (b.told i lo hi G gc A c C cc) k=aR b k
 | 0=>rfl
 | Nat.succ k=>by
   unfold aR
   rw[vU k]
   rfl
theorem Wy(h1:(b.m i).lo≤lo)(h2:hi≤(b.m i).hi)(h3:lo≤hi):NF (b.told i lo hi G gc A c C cc) b:=by
 refine⟨rfl,rfl,rfl,rfl,?_,Jq b i lo hi G gc A c C cc⟩
 unfold aB
 rw[Rb]
 refine yT (List.Sublist.refl _) fun s _=>?_
 unfold gy
 rw[vU]
 exact yT (List.Sublist.refl _) fun f _=>DF b i lo hi G gc A c C cc h1 h2 h3 _ _ _ _
theorem Fv(ok:b.Ok)(hi':i<b.nm)(h1:(b.m i).lo≤lo)(h2:hi≤(b.m i).hi)(h3:lo≤hi):(b.told i lo hi G gc A c C cc).Ok:=by
 refine⟨ok.dY,ok.mO,⟨ok.bX.1,fun j hj=>?_⟩,⟨ok.moves.1,fun j hj=>?_⟩,ok.counts.1,fun j hj=>?_⟩
 ·obtain⟨k1,k2,k3,k4,k5⟩:=ok.bX.2 j hj
  exact⟨k1,k2,k3,k4,k5⟩
 ·obtain⟨k1,k2,k3,k4,k5⟩:=ok.moves.2 j hj
  obtain⟨m1,m2,m3⟩:=rO b i lo hi G gc A c C cc j
  refine⟨by rw[m1];exact k1,by rw[m2];exact k2,by rw[m3];exact k3,fun h0=>?_,?_⟩
  ·rw[m3,(rO b i lo hi G gc A c C cc (j - 1)).2.2]
   exact k4 h0
  ·show sG (if j=i then(b.m i).narrow lo hi else b.m j).lo (if j=i then(b.m i).narrow lo hi else b.m j).hi=true
   by_cases hj':j=i
   ·subst hj'
    rw[if_pos rfl]
    show sG lo hi=true
    have hf:=jc k5
    unfold sG at k5⊢
    simp only[Bool.and_eq_true] at k5⊢
    have q:=jh.1 k5.1
    refine⟨jh.2 zo,?_⟩
    have:=k5.2
    simp only[decide_eq_true_eq] at this⊢
    omega
   ·rw[if_neg hj']
    exact k5
 ·obtain⟨k1,k2,k3⟩:=ok.counts.2 j hj
  exact⟨k1,k2,k3⟩
end
def Bk.re(b:Bk)(G:Option Addr)(gc:Nat)(A:Option Addr)(c:Nat)(C:Option Addr)(cc:Nat):Bk:={b with gA:=G,gc:=gc,mA:=A,mc:=c,cA:=C,cc:=cc }
section
variable(b:Bk)(G:Option Addr)(gc:Nat)(A:Option Addr)(c:Nat)(C:Option Addr)(cc:Nat)
theorem MV:∀ (n k:Nat) (h:Ht) (s:Nat→Int),eu (b.re G gc A c C cc) n k h s=eu b n k h s
 | 0,k,h,s=>by simp only[eu];rfl
 | Nat.succ n,k,h,s=>by
   simp only[eu,MV n]
   rfl
theorem Cw:∀k:Nat,aR (b.re G gc A c C cc) k=aR b k
 | 0=>rfl
 | Nat.succ k=>by
   unfold aR
   rw[Cw k]
   rfl
theorem Yl:aB (b.re G gc A c C cc) (ak (b.re G gc A c C cc))=aB b (ak b):=by
 have e:∀s,gy (b.re G gc A c C cc) s=gy b s:=fun s=>by
  unfold gy
  rw[Cw]
  simp only[MV]
  rfl
 unfold aB
 simp only[e]
 rfl
theorem Fw(i:Nat)(lo hi:Int)(G':Option Addr)(gc':Nat)(A':Option Addr)(c':Nat)(C':Option Addr)(cc':Nat):aB (b.told i lo hi G gc A c C cc) (ak (b.told i lo hi G gc A c C cc))=aB (b.told i lo hi G' gc' A' c' C' cc') (ak (b.told i lo hi G' gc' A' c' C' cc')):=
 Yl (b.told i lo hi G' gc' A' c' C' cc') G gc A c C cc
end
end
section
open Go.RowKit
attribute [local go_sem] Oper.semAt_some
theorem LP{sz n:Nat}{f f':Nat→Nat→Value}(h:∀i j,i<n→j<sz→f i j=f' i j):dK sz f n=dK sz f' n:=by
 unfold dK
 rw[List.flatMap_def,List.flatMap_def,List.map_congr_left fun i hi=>List.map_congr_left fun j hj=>h i j (by simpa using hi) (by simpa using hj)]
theorem MI(g n:Nat):(⟨g,0,none⟩:Addr).add n=⟨g,n,none⟩:=by
 unfold Addr.add
 split <;> simp_all
theorem Jp{b:Bk}{i gb:Nat}{cl ch:Int}{G:Option Addr}{kW:Nat}{A:Option Addr}{oU:Nat}{C:Option Addr}{nL base n:Nat}{w:World}(h:w.ownsRow base 39 5 (.slice (some ⟨gb,0,none⟩) n oU) n (dK 5 (fun j=>(b.m j).cell) n)):
 ((w.setCell ⟨gb,i * 5+3,none⟩ (int i64 cl)).setCell ⟨gb,i * 5+4,none⟩ (int i64 ch)).ownsRow base 39 5 (.slice (some ⟨gb,0,none⟩) n oU) n (dK 5 (fun j=>((b.told i cl ch G kW A oU C nL).m j).cell) n):=by
 have h2:=((h.stored (i * 5+3) (int i64 cl)).1.stored (i * 5+4) (int i64 ch)).1
 rw[IV _ zD,IV _ zD] at h2
 rw[show dK 5 (fun j=>((b.told i cl ch G kW A oU C nL).m j).cell) n=dK 5 (fun j r=>if j=i∧r=4 then int i64 ch else if j=i∧r=3 then int i64 cl else(b.m j).cell r) n from LP fun j r _ hr=>by
  by_cases hj:j=i
  ·subst hj
   match r,hr with
   | 0,_=>simp[Bk.told,Mv.narrow,Mv.cell]
   | 1,_=>simp[Bk.told,Mv.narrow,Mv.cell]
   | 2,_=>simp[Bk.told,Mv.narrow,Mv.cell]
   | 3,_=>simp[Bk.told,Mv.narrow,Mv.cell]
   | 4,_=>simp[Bk.told,Mv.narrow,Mv.cell]
  ·simp[Bk.told,hj]]
 exact h2
theorem nO{b:Bk}{w:World}{B:Nat}{p:Addr}(h:b.At w B)(hG:∀ad,b.gA=some ad→0<b.ng→ad.block≠p.block)(hM:∀ad,b.mA=some ad→0<b.nm→ad.block≠p.block)(hC:∀ad,b.cA=some ad→0<b.nc→ad.block≠p.block)(v:Value):b.At (w.setCell p v) B:=
 ⟨h.g.bn hG v,h.m.bn hM v,h.c.bn hC v,h.ng,h.nm,h.nc,h.name⟩
theorem MK{b:Bk}{w:World}{X:Nat}(h:b.At w w.heap.size)(hG:∀ad,b.gA=some ad→0<b.ng→ad.block≠X)(hM:∀ad,b.mA=some ad→0<b.nm→ad.block≠X)(hC:∀ad,b.cA=some ad→0<b.nc→ad.block≠X)(v0 v1 v2 v3 v4:Value):
 b.At (((((w.setCell ⟨X,0,none⟩ v0).setCell ⟨X,1,none⟩ v1).setCell ⟨X,2,none⟩ v2).setCell ⟨X,3,none⟩ v3).setCell ⟨X,4,none⟩ v4) (((((w.setCell ⟨X,0,none⟩ v0).setCell ⟨X,1,none⟩ v1).setCell ⟨X,2,none⟩ v2).setCell ⟨X,3,none⟩ v3).setCell ⟨X,4,none⟩ v4).heap.size:=
 (nO (p:=⟨X,4,none⟩) (nO (p:=⟨X,3,none⟩) (nO (p:=⟨X,2,none⟩) (nO (p:=⟨X,1,none⟩) (nO (p:=⟨X,0,none⟩) h hG hM hC v0) hG hM hC v1) hG hM hC v2) hG hM hC v3) hG hM hC v4).more zs
def tC(t:Bool)(v:Value):Value:=if t=true then Az else v
def Bk.nX(b:Bk)(i:Nat)(cl ch:Int):Bool:=(aB (b.told i cl ch none 0 none 0 none 0) (ak (b.told i cl ch none 0 none 0 none 0))).isEmpty
theorem Rows.two{w w':World}{B size n gb:Nat}{A:Option Addr}{f:Nat→Nat→Value}(h:Rows w B size A n f)(hk:∀B,B≠gb→w'.heap[B]? =w.heap[B]?)(hA:∀ad,A=some ad→ad.block≠gb):Rows w' B size A n f:=fun hn=>by
 obtain⟨ad,e,hb,hc⟩:=h hn
 exact⟨ad,e,hb,fun i j hi hj=>(World.cell?_of_block (hk _ (by rw[aH];exact hA ad e))).trans (hc i j hi hj)⟩
def uo(b:Bk)(i:Nat)(cl ch:Int)(fr:Bool)(w':World)(vs:Array Value)(l:Int):Prop:=
 (fr=false∧vs=#[int i64 0,int i64 0,.slice none 0 0,.slice none 0 0,.slice none 0 0]∧l=1)∨(fr=true∧(¬ cl≤ch∨b.nX i cl ch=true)∧vs=#[int i64 0,int i64 0,.slice none 0 0,.slice none 0 0,.slice none 0 0]∧l=9)∨
 (fr=true∧cl≤ch∧b.nX i cl ch=false∧l=0∧∃G gc A c C cc,b.ng≤gc∧(b.told i cl ch G gc A c C cc).At w' w'.heap.size∧vs=#[int i64 b.dY,int i64 b.mO,.slice G b.ng gc,.slice A b.nm c,.slice C b.nc cc])
def F8(b:Bk)(i:Nat)(cl ch:Int)(fr:Bool)(w:World)(e:Ending)(w':World):Prop:=∃a0 a1 A2 x2 y2 A3 x3 y3 A4 x4 y4 l,e=.returned (.tuple #[.agg #[int i64 a0,int i64 a1,.slice A2 x2 y2,.slice A3 x3 y3,.slice A4 x4 y4],int i64 l])∧uo b i cl ch fr w' #[int i64 a0,int i64 a1,.slice A2 x2 y2,.slice A3 x3 y3,.slice A4 x4 y4] l∧Below w.heap.size w w'
theorem oI{b:Bk}{i:Nat}{cl ch:Int}{fr:Bool}{w w':World}{a0 a1:Int}{A2:Option Addr}{x2 y2:Nat}{A3:Option Addr}{x3 y3:Nat}{A4:Option Addr}{x4 y4:Nat}{l:Int}(h:uo b i cl ch fr w' #[int i64 a0,int i64 a1,.slice A2 x2 y2,.slice A3 x3 y3,.slice A4 x4 y4] l)(hb:Below w.heap.size w w'):F8 b i cl ch fr w (.returned (.tuple #[.agg #[int i64 a0,int i64 a1,.slice A2 x2 y2,.slice A3 x3 y3,.slice A4 x4 y4],int i64 l])) w':=⟨_,_,_,_,_,_,_,_,_,_,_,_,rfl,h,hb⟩
theorem a8(b:Bk)(ok:b.Ok)(hcap:b.ng≤b.gc)(i:Nat)(hi:i<b.nm)(xl xh cl ch:Int)(hcl:cl=max (b.m i).lo xl)(hch:ch=min (b.m i).hi xh)(w:World)(h:b.At w w.heap.size):CallsIn FF 0 prog 7 #[.agg b.cells,int i64 i,.agg #[int i64 xl,int i64 xh]] w (F8 b i cl ch (nG xl xh 0 99) w):=by
 have HO:=hid fun w h=>yu b i w h ok hcap hi
 have HF:=hid fun w=>sM xl xh 0 99 w
 have sE:=hid fun(w:World) (h:b.At w w.heap.size)=>Kt b w h (by have:=ok.bX.1;omega) ok.moves.1 (by have:=ok.counts.1;omega)
 obtain⟨p,q,o,ho,hcm⟩:∃ (p q:Int) (o:Bool),(o=false∧¬ cl≤ch∨o=true∧cl≤ch∧p=cl∧q=ch)∧∀w,CallsIn FF 0 prog 33 #[.agg #[int i64 (b.m i).lo,int i64 (b.m i).hi],.agg #[int i64 xl,int i64 xh]] w fun e w'=>e=.returned (.tuple #[.agg #[int i64 p,int i64 q],.bool o])∧Below w.heap.size w w':=by
  have hc:=Tz (b.m i).lo (b.m i).hi xl xh
  rw[← hcl,← hch] at hc
  by_cases h:cl≤ch
  ·rw[if_pos h] at hc
   exact⟨_,_,_,.inr ⟨rfl,h,rfl,rfl⟩,hc⟩
  ·rw[if_neg h] at hc
   exact⟨_,_,_,.inl ⟨rfl,h⟩,hc⟩
 have Xi:=hid hcm
 obtain⟨t,ht⟩:∃t,t=b.nX i cl ch:=zE
 obtain⟨lb,hlb⟩:∃lb:Int,lb=if t=true then 9 else 0:=zE
 have HP:cl≤ch→Hid (∀ (G:Option Addr) (gc:Nat) (A:Option Addr) (c:Nat) (C:Option Addr) (cc:Nat),b.ng≤gc→∃a0 a1 A2 x2 y2 A3 x3 y3 A4 x4 y4,tC t (.agg #[int i64 b.dY,int i64 b.mO,.slice G b.ng gc,.slice A b.nm c,.slice C b.nc cc])=.agg #[int i64 a0,int i64 a1,.slice A2 x2 y2,.slice A3 x3 y3,.slice A4 x4 y4]∧∀w,(b.told i cl ch G gc A c C cc).At w w.heap.size→CallsIn FF 0 prog 35 #[.agg #[int i64 b.dY,int i64 b.mO,.slice G b.ng gc,.slice A b.nm c,.slice C b.nc cc]] w fun e w'=>e=.returned (.tuple #[.agg #[int i64 a0,int i64 a1,.slice A2 x2 y2,.slice A3 x3 y3,.slice A4 x4 y4],int i64 lb])∧Below w.heap.size w w'):=fun hc0=>hid fun G gc A c C cc hg=>by
  obtain⟨a0,a1,A2,x2,y2,A3,x3,y3,A4,x4,y4,hv⟩:∃a0 a1 A2 x2 y2 A3 x3 y3 A4 x4 y4,tC t (.agg #[int i64 b.dY,int i64 b.mO,.slice G b.ng gc,.slice A b.nm c,.slice C b.nc cc])=.agg #[int i64 a0,int i64 a1,.slice A2 x2 y2,.slice A3 x3 y3,.slice A4 x4 y4]:=by cases t <;> exact⟨_,_,_,_,_,_,_,_,_,_,_,rfl⟩
  refine⟨a0,a1,A2,x2,y2,A3,x3,y3,A4,x4,y4,hv,fun w h=>?_⟩
  have:=ED (b.told i cl ch G gc A c C cc) (Fv b i cl ch G gc A c C cc ok hi zo zo hc0) hg w h
  rw[Fw b G gc A c C cc i cl ch none 0 none 0 none 0] at this
  change CallsIn _ _ _ _ #[.agg #[int i64 b.dY,int i64 b.mO,.slice G b.ng gc,.slice A b.nm c,.slice C b.nc cc]] _ fun e w'=>e=.returned (.tuple #[tC (b.nX i cl ch) (.agg #[int i64 b.dY,int i64 b.mO,.slice G b.ng gc,.slice A b.nm c,.slice C b.nc cc]),int i64 (if b.nX i cl ch=true then 9 else 0)])∧Below w.heap.size w w' at this
  rw[← ht,hv,← hlb] at this
  exact this
 have HE:Hid (cl≤ch→∀ (G:Option Addr) (gc:Nat) (A:Option Addr) (c:Nat) (C:Option Addr) (cc:Nat) (a0 a1:Int) (A2:Option Addr) (x2 y2:Nat) (A3:Option Addr) (x3 y3:Nat) (A4:Option Addr) (x4 y4:Nat),tC t (.agg #[int i64 b.dY,int i64 b.mO,.slice G b.ng gc,.slice A b.nm c,.slice C b.nc cc])=.agg #[int i64 a0,int i64 a1,.slice A2 x2 y2,.slice A3 x3 y3,.slice A4 x4 y4]→b.ng≤gc→∀ {w':World},(b.told i cl ch G gc A c C cc).At w' w'.heap.size→uo b i cl ch true w' #[int i64 a0,int i64 a1,.slice A2 x2 y2,.slice A3 x3 y3,.slice A4 x4 y4] lb):=hid fun h0 G gc A c C cc _ _ _ _ _ _ _ _ _ _ _ hv hg w' hat=>by
  subst hlb
  cases t with
  | true=>exact .inr (.inl ⟨rfl,.inr ht.symm,(Value.agg.inj hv).symm,rfl⟩)
  | false=>exact .inr (.inr ⟨rfl,h0,ht.symm,rfl,G,gc,A,c,C,cc,hg,hat,(Value.agg.inj hv).symm⟩)
 obtain⟨n,hn⟩:∃n,n=(ak b).length:=zE
 rw[← hn] at HO
 obtain⟨fr,hfr⟩:∃fr,fr=nG xl xh 0 99:=zE
 rw[← hfr] at HF⊢
 have HA:=hid h
 have fR:=hid ho
 clear ht hlb hn h hcap ok hcl hch hcm hfr ho
 obtain⟨dY,mO,gA,ng,gc,g,mA,nm,mc,m,cA,nc,cc,c⟩:=b
 simp only at hi HP HE
 obtain⟨am,df,TQ,-⟩:=HA.out.m (show 0<nm by omega)
 simp only at df
 subst df
 have hr:=(HA.out.m.row hi).2
 obtain⟨mi,yb⟩:∃mi,mi=m i:=zE
 simp only[← yb] at hr Xi
 obtain⟨kd,go,dy,lo,hh⟩:=mi
 clear yb
 simp only[Bk.val,Bk.cells,aA] at HO sE Xi⊢
 have mb:(am.add (i * 5)).block<w.heap.size:=by rw[aH];exact TQ
 have M3:Hid (w.cell? ⟨(am.add (i * 5)).block,(am.add (i * 5)).off+3,none⟩=some (int i64 lo)):=hid (hr 3 zD)
 have M4:Hid (w.cell? ⟨(am.add (i * 5)).block,(am.add (i * 5)).off+3+1,none⟩=some (int i64 hh)):=hid (hr 4 zD)
 clear hr
 obtain⟨w1,hw1⟩:∃w1,w1=((w.alloc (.cells #[int i64 dY,int i64 mO,.slice gA ng gc,.slice (some am) nm mc,.slice cA nc cc] 26)).alloc (.cells #[int i64 xl,int i64 xh] 28)).alloc (.cells #[int i64 0,int i64 0,.slice none 0 0,.slice none 0 0,.slice none 0 0] 26):=zE
 have B1:Hid (Below w.heap.size w w1):=hid (by rw[hw1];exact bw)
 have S1:Hid (Whole w1 (w.heap.size+1) 28 #[int i64 xl,int i64 xh]):=hid (by rw[hw1];exact(aL zs).alloc _)
 have K1:Hid (Whole w1 w.heap.size 26 #[int i64 dY,int i64 mO,.slice gA ng gc,.slice (some am) nm mc,.slice cA nc cc]):=hid (by rw[hw1];exact((Whole.new _ _ _).alloc _).alloc _)
 have Z1:Hid (Whole w1 (w.heap.size+1+1) 26 #[int i64 0,int i64 0,.slice none 0 0,.slice none 0 0,.slice none 0 0]):=hid (by rw[hw1];exact aL zs)
 have ku:=hid hw1
 clear hw1
 gi_enter func7,ntmps7
 gi_upto_region 4 with(gi_at_call 31;rw[← ku.out];refine(HO.out _ (HA.out.up B1.out)).mono ?_;rintro e w2 ⟨A,p',rfl,-,hb2⟩)
 obtain⟨v2,hv2⟩:∃x,x=w2.alloc (.cells #[int i64 dY,int i64 mO,.slice gA ng gc,.slice (some am) nm mc,.slice cA nc cc,.slice A n p'] 75):=zE
 rw[← hv2]
 have C2:=Whole.new w2 75 #[int i64 dY,int i64 mO,.slice gA ng gc,.slice (some am) nm mc,.slice cA nc cc,.slice A n p']
 have h12:Below w1.heap.size w1 v2:=by rw[hv2];exact Below.al hb2 _
 rw[← hv2] at C2
 have S2:=S1.out.below h12 S1.out.lt
 have aat:=C2.lt
 have s2:∀o,v2.cell? ⟨w.heap.size+1,o,none⟩=(#[int i64 xl,int i64 xh]:Array Value)[o]?:=fun o=>S2.cell o
 clear hv2 hb2
 gi_upto_if 25 with(gi_at_call 32;refine(HF.out _).mono ?_;rintro e w3 ⟨rfl,hb3⟩)
 have h13:=Below.next h12 hb3
 have Z3:=Z1.out.below h13 Z1.out.lt
 have RB:=Below.next B1.out h13
 have hz3:=Z3.lt
 cases fr
 ·clear s2
  have z0:w3.cell? ⟨w.heap.size+1+1,0,none⟩=some (int i64 0):=Z3.cell 0;have z1:w3.cell? ⟨w.heap.size+1+1,1,none⟩=some (int i64 0):=Z3.cell 1;have z2:w3.cell? ⟨w.heap.size+1+1,2,none⟩=some (.slice none 0 0):=Z3.cell 2;have z3:w3.cell? ⟨w.heap.size+1+1,3,none⟩=some (.slice none 0 0):=Z3.cell 3;have z4:w3.cell? ⟨w.heap.size+1+1,4,none⟩=some (.slice none 0 0):=Z3.cell 4
  have zf:=Z3.thaw
  gi_wp2
  have u:=(Z3.rz (int i64 0) (int i64 0) (.slice none 0 0) (.slice none 0 0) (.slice none 0 0)).cell
  exact bodyPost_ret (v:=.tuple #[.agg #[int i64 0,int i64 0,.slice none 0 0,.slice none 0 0,.slice none 0 0],int i64 1]) (by simp[results,results7,go_sem,u]) rfl (oI (.inl ⟨rfl,rfl,rfl⟩) (Below.rz RB zo _ _ _ _ _))
 ·gi_upto_region 6 with fail
  have S3:=S2.below hb3 S2.lt
  have C3:=C2.below hb3 C2.lt
  have fT:Hid (∀w',Below w3.heap.size w3 w'→w'.cell? ⟨w2.heap.size,3,none⟩=some (.slice (some am) nm mc)∧w'.cell? ⟨w.heap.size+1,0,none⟩=some (int i64 xl)∧w'.cell? ⟨w.heap.size+1,1,none⟩=some (int i64 xh)∧w'.cell? ⟨(am.add (i * 5)).block,(am.add (i * 5)).off+3,none⟩=some (int i64 lo)∧w'.cell? ⟨(am.add (i * 5)).block,(am.add (i * 5)).off+3+1,none⟩=some (int i64 hh)):=hid fun w' hq=>⟨(C3.below hq C3.lt).cell 3,(S3.below hq S3.lt).cell 0,(S3.below hq S3.lt).cell 1,((Below.next RB hq).cell (p:=⟨(am.add (i * 5)).block,(am.add (i * 5)).off+3,none⟩) mb).trans M3.out,((Below.next RB hq).cell (p:=⟨(am.add (i * 5)).block,(am.add (i * 5)).off+3+1,none⟩) mb).trans M4.out⟩
  have hS:=fT.out _ (dD zB)
  have e3:(0:Int)≤(i:Int):=Int.natCast_nonneg _
  have e4:(i:Int)<(nm:Int):=zo
  have IM:=hid RB
  have Z3h:=hid Z3
  have K3h:=hid (K1.out.below h13 K1.out.lt)
  clear RB Z3 S2 C2 C3 S3 Z1 K1 S1 B1 M3 M4 hb3 s2 h12 h13
  gi_cut [10,11] from 55 (fun t10 t11 w9=>∃bl,t10=.pointer (some ⟨bl,0,none⟩)∧t11=.bool o∧Whole w9 bl 28 #[int i64 p,int i64 q]∧Below w3.heap.size w3 w9)
  case first=>
   rename_i J K2 hJ hK2
   refine qJ [] (fun w'=>w'.cell? ⟨w2.heap.size,3,none⟩=some (.slice (some am) nm mc)∧w'.cell? ⟨w.heap.size+1,0,none⟩=some (int i64 xl)∧w'.cell? ⟨w.heap.size+1,1,none⟩=some (int i64 xh)∧w'.cell? ⟨(am.add (i * 5)).block,(am.add (i * 5)).off+3,none⟩=some (int i64 lo)∧w'.cell? ⟨(am.add (i * 5)).block,(am.add (i * 5)).off+3+1,none⟩=some (int i64 hh)) zk ?_
   refine uS (i:=0) (some 28) hS ?_
   simp only[Act.put,List.setIfInBounds_toArray,List.set]
   refine uS (i:=1) (some 29) hS ?_
   simp only[Act.put,List.setIfInBounds_toArray,List.set]
   refine uS (i:=2) (some 30) hS ?_
   simp only[Act.put,List.setIfInBounds_toArray,List.set]
   refine uS (i:=3) (some 31) hS ?_
   simp only[Act.put,List.setIfInBounds_toArray,List.set]
   refine uS (i:=4) (some 32) hS ?_
   simp only[Act.put,List.setIfInBounds_toArray,List.set]
   refine uS (i:=5) (some 33) hS ?_
   simp only[Act.put,List.setIfInBounds_toArray,List.set]
   refine uS (i:=6) (some 34) hS ?_
   simp only[Act.put,List.setIfInBounds_toArray,List.set]
   refine uS (i:=7) (some 35) hS ?_
   simp only[Act.put,List.setIfInBounds_toArray,List.set]
   refine uS (i:=8) (some 36) hS ?_
   simp only[Act.put,List.setIfInBounds_toArray,List.set]
   clear hS
   refine FJ (i:=9) (i':=13) zk rfl rfl (fun K hK=>?_) (fun K hK=>?_)
   ·go_simp
    gi_at_call 33
    refine(Xi.out _).mono ?_
    rintro e w4 ⟨rfl,hb4⟩
    have h34:=Below.next (dD zB) hb4
    refine hK.out _ _ (fun _=>fT.out _ h34) ?_
    clear hK K hb4
    have Yf:=fT.out _ h34
    refine uS (i:=10) (some 27) Yf ?_
    simp only[Act.put,List.setIfInBounds_toArray,List.set]
    refine uS (i:=11) (some 38) Yf ?_
    simp only[Act.put,List.setIfInBounds_toArray,List.set]
    refine uS (i:=12) (some 39) Yf ?_
    simp only[Act.put,List.setIfInBounds_toArray,List.set]
    refine Iz 13 fun K hK=>?_
    go_simp
    obtain⟨wB,Hk⟩:∃x,x=w4.alloc (.cells #[int i64 0,int i64 0] 28):=zE
    rw[← Hk]
    obtain⟨bl,Hf⟩:∃x,x=w4.heap.size:=zE
    rw[← Hf]
    have ZB:Whole wB bl 28 #[int i64 0,int i64 0]:=by rw[Hk,Hf];exact Whole.new _ _ _
    have qS:Below w3.heap.size w3 wB:=by rw[Hk];exact h34.alloc h34.size _
    have hbl:w3.heap.size≤bl:=by rw[Hf];exact h34.size
    clear Yf h34 Hk Hf
    refine hK.out _ _ (fun _=>fT.out _ qS) ?_
    clear hK K
    have zf:=ZB.thaw
    have zc0:wB.cell? ⟨bl,0,none⟩=some (int i64 0):=ZB.cell 0
    have zc1:wB.cell? ⟨bl,1,none⟩=some (int i64 0):=ZB.cell 1
    refine Iz 14 fun K hK=>?_
    go_simp
    obtain⟨w9,KR⟩:∃x,x=(wB.setCell ⟨bl,0,none⟩ (int i64 p)).setCell ⟨bl,1,none⟩ (int i64 q):=zE
    rw[← KR]
    have P9:Whole w9 bl 28 #[int i64 p,int i64 q]:=by rw[KR];exact(ZB.set 0 _).set 1 _
    have h39:Below w3.heap.size w3 w9:=by rw[KR];exact(qS.setCell (p:=⟨bl,0,none⟩) hbl _).setCell (p:=⟨bl,1,none⟩) hbl _
    clear KR
    refine hK.out _ _ (fun _=>fT.out _ h39) ?_
    clear hK K
    refine Iz 15 fun K hK=>?_
    go_simp
    refine hK.out _ _ (fun _=>fT.out _ h39) ?_
    refine lH zk ?_ _
    refine hK2 _ _ (Met.intro (hJ _ _ ?_))
    repeat apply Exists.intro
    refine⟨?_,rfl⟩
    exact⟨bl,rfl,rfl,P9,h39⟩
   ·go_simp
    obtain⟨wA,Hj⟩:∃x,x=(w3.alloc (.cells #[int i64 0,int i64 0] 28)).drew:=zE
    rw[← Hj]
    obtain⟨bl,Hf⟩:∃x,x=w3.heap.size:=zE
    have hbl:w3.heap.size≤bl:=zo
    have ZA:Whole wA bl 28 #[int i64 0,int i64 0]:=by rw[Hj,Hf];exact Whole.new w3 _ _
    have PT:Below w3.heap.size w3 wA:=by rw[Hj];exact dD (zB.alloc zL _)
    refine hK.out _ _ (fun _=>fT.out _ PT) ?_
    clear hK K Hj
    rw[← Hf]
    clear Hf
    refine Iz 9 fun K hK=>?_
    go_simp
    gi_at_call 33
    refine(Xi.out _).mono ?_
    rintro e wB ⟨rfl,hb4⟩
    have qS:=Below.next PT hb4
    have ZB:=ZA.below hb4 ZA.lt
    clear hb4 ZA PT
    refine hK.out _ _ (fun _=>fT.out _ qS) ?_
    clear hK K
    have Yf:=fT.out _ qS
    refine uS (i:=10) (some 27) Yf ?_
    simp only[Act.put,List.setIfInBounds_toArray,List.set]
    refine uS (i:=11) (some 38) Yf ?_
    simp only[Act.put,List.setIfInBounds_toArray,List.set]
    refine uS (i:=12) (some 39) Yf ?_
    simp only[Act.put,List.setIfInBounds_toArray,List.set]
    clear Yf
    have zf:=ZB.thaw
    have zc0:wB.cell? ⟨bl,0,none⟩=some (int i64 0):=ZB.cell 0
    have zc1:wB.cell? ⟨bl,1,none⟩=some (int i64 0):=ZB.cell 1
    refine Iz 14 fun K hK=>?_
    go_simp
    obtain⟨w9,KR⟩:∃x,x=(wB.setCell ⟨bl,0,none⟩ (int i64 p)).setCell ⟨bl,1,none⟩ (int i64 q):=zE
    rw[← KR]
    have P9:Whole w9 bl 28 #[int i64 p,int i64 q]:=by rw[KR];exact(ZB.set 0 _).set 1 _
    have h39:Below w3.heap.size w3 w9:=by rw[KR];exact(qS.setCell (p:=⟨bl,0,none⟩) hbl _).setCell (p:=⟨bl,1,none⟩) hbl _
    clear KR
    refine hK.out _ _ (fun _=>fT.out _ h39) ?_
    clear hK K
    refine Iz 15 fun K hK=>?_
    go_simp
    refine hK.out _ _ (fun _=>fT.out _ h39) ?_
    refine lH zk ?_ _
    refine hK2 _ _ (Met.intro (hJ _ _ ?_))
    repeat apply Exists.intro
    refine⟨?_,rfl⟩
    exact⟨bl,rfl,rfl,P9,h39⟩
  case rest=>
   obtain⟨bl,rfl,rfl,P9,h39⟩:=hcut
   obtain⟨w9,rfl⟩:∃x,x=wc:=zE
   have Z9:=Z3h.out.below h39 Z3h.out.lt
   have K9:=K3h.out.below h39 K3h.out.lt
   have pL:=Below.next IM.out h39
   have hz9:=Z9.lt
   clear hS fT
   rcases fR.out with⟨rfl,ho⟩|⟨rfl,ho,rfl,rfl⟩
   ·have z0:w9.cell? ⟨w.heap.size+1+1,0,none⟩=some (int i64 0):=Z9.cell 0;have z1:w9.cell? ⟨w.heap.size+1+1,1,none⟩=some (int i64 0):=Z9.cell 1;have z2:w9.cell? ⟨w.heap.size+1+1,2,none⟩=some (.slice none 0 0):=Z9.cell 2;have z3:w9.cell? ⟨w.heap.size+1+1,3,none⟩=some (.slice none 0 0):=Z9.cell 3;have z4:w9.cell? ⟨w.heap.size+1+1,4,none⟩=some (.slice none 0 0):=Z9.cell 4
    have zf:=Z9.thaw
    gi_wp2
    have u:=(Z9.rz (int i64 0) (int i64 0) (.slice none 0 0) (.slice none 0 0) (.slice none 0 0)).cell
    exact bodyPost_ret (v:=.tuple #[.agg #[int i64 0,int i64 0,.slice none 0 0,.slice none 0 0,.slice none 0 0],int i64 9]) (by simp[results,results7,go_sem,u]) rfl (oI (.inr (.inl ⟨rfl,.inl zo,rfl,rfl⟩)) (Below.rz pL zo _ _ _ _ _))
   ·have HP:=HP ho
    have k9:∀o,w9.cell? ⟨w.heap.size,o,none⟩=(#[int i64 dY,int i64 mO,.slice gA ng gc,.slice (some am) nm mc,.slice cA nc cc]:Array Value)[o]?:=fun o=>K9.cell o
    gi_upto_region 10 with(gi_at_call 34;refine(sE.out _ (HA.out.up pL)).mono ?_;rintro e w10 ⟨G,kW,M,oU,C,nL,rfl,oG,oM,oC,ks,G8⟩)
    obtain⟨gb,cap,hv,-,-⟩:=oM.form (show 0<nm by omega)
    injection hv with hM hnn hcp
    subst hM
    subst hcp
    obtain⟨ad,had⟩:∃ad:Addr,ad=⟨gb,0,none⟩:=zE
    rw[← had] at oM ks⊢
    obtain⟨w11,H9⟩:∃x,x=w10.alloc (.cells #[int i64 dY,int i64 mO,.slice G ng kW,.slice (some ad) nm oU,.slice C nc nL] 26):=zE
    rw[← H9]
    have b11:Below w9.heap.size w9 w11:=by rw[H9];exact Below.al G8 _
    have E6:Whole w11 w10.heap.size 26 #[int i64 dY,int i64 mO,.slice G ng kW,.slice (some ad) nm oU,.slice C nc nL]:=by rw[H9];exact Whole.new _ _ _
    have hgb:=bL oM (g:=gb) (by rw[had];rfl)
    have hdg:=ks gb (by rw[had];rfl)
    have xb:=NG oG
    have GM:∀ad,G=some ad→w9.heap.size≤ad.block:=fun ad e=>(bL oG (by rw[e];rfl)).1
    have GC:∀ad,C=some ad→w9.heap.size≤ad.block:=fun ad e=>(bL oC (by rw[e];rfl)).1
    have rG:Rows w11 w10.heap.size 5 G ng (fun i=>(g i).cell):=by rw[H9];exact(lW oG).2.alloc zL _
    have rC:Rows w11 w10.heap.size 4 C nc (fun i=>(c i).cell):=by rw[H9];exact(lW oC).2.alloc zL _
    have my:=iw (w':=w11) oM fun g hg hlt=>by rw[H9];exact Below.heap_alloc _ _ _ hlt
    clear H9 G8 k9 oG oM oC ks hnn
    have NN:=P9.below b11 P9.lt
    have Z11:=Z9.below b11 Z9.lt
    have rN:=Below.next pL b11
    have Ty:w9.heap.size≤w11.heap.size:=b11.size
    have Sa:bl<w9.heap.size:=P9.lt
    have p0:w11.cell? ⟨bl,0,none⟩=some (int i64 p):=NN.cell 0
    have p1:w11.cell? ⟨bl,1,none⟩=some (int i64 q):=NN.cell 1
    have n3:w11.cell? ⟨w10.heap.size,3,none⟩=some (.slice (some ad) nm oU):=E6.cell 3
    have lh:=((lW my).2.row hi).2
    have g3:w11.cell? ⟨(ad.add (i * 5)).block,(ad.add (i * 5)).off+3,none⟩=some (int i64 (m i).lo):=lh 3 zD
    have g4:w11.cell? ⟨(ad.add (i * 5)).block,(ad.add (i * 5)).off+3+1,none⟩=some (int i64 (m i).hi):=lh 4 zD
    have sq:Hid (⟨(ad.add (i * 5)).block,(ad.add (i * 5)).off+3,none⟩=(⟨gb,i * 5+3,none⟩:Addr)):=hid (by rw[had,MI])
    have sr:Hid (⟨(ad.add (i * 5)).block,(ad.add (i * 5)).off+3+1,none⟩=(⟨gb,i * 5+4,none⟩:Addr)):=hid (by rw[had,MI])
    have YM:=had ▸ my
    have f3:w11.frozen? ⟨(ad.add (i * 5)).block,(ad.add (i * 5)).off+3,none⟩=false:=by rw[sq.out];exact sW YM
    have f4:w11.frozen? ⟨(ad.add (i * 5)).block,(ad.add (i * 5)).off+3+1,none⟩=false:=by rw[sr.out];exact sW YM
    have tl:=hid had
    have tB:=hid YM
    clear lh had my YM P9 Z9 K9 pL b11 NN
    gi_upto_region 11 with fail
    obtain⟨w12,wC⟩:∃x,x=(w11.setCell ⟨(ad.add (i * 5)).block,(ad.add (i * 5)).off+3,none⟩ (int i64 p)).setCell ⟨(ad.add (i * 5)).block,(ad.add (i * 5)).off+3+1,none⟩ (int i64 q):=zE
    rw[← wC]
    rw[sq.out,sr.out] at wC
    clear f3 f4 g3 g4 n3 p0 p1
    have o12:=Jp (b:=(⟨dY,mO,gA,ng,gc,g,some am,nm,mc,m,cA,nc,cc,c⟩:Bk)) (i:=i) (cl:=p) (ch:=q) (G:=G) (kW:=kW) (A:=some ad) (C:=C) (nL:=nL) tB.out
    rw[← wC,← tl.out] at o12
    have s12:w12.heap.size=w11.heap.size:=by rw[wC];simp
    have s10:w10.heap.size≤w11.heap.size:=Nat.le_of_lt E6.lt
    have hbk:∀B,B≠gb→w12.heap[B]? =w11.heap[B]?:=fun B hB=>by rw[wC];exact(Below.heap_setCell _ _ _ _ hB).trans (Below.heap_setCell _ _ _ _ hB)
    have N12:=E6.of (hbk _ zo)
    have Z12:=Z11.of (hbk _ zo)
    have Xe:Below w.heap.size w w12:=by rw[wC];exact(rN.setCell (p:=⟨gb,i * 5+3,none⟩) (by show w.heap.size≤gb;omega) _).setCell (p:=⟨gb,i * 5+4,none⟩) (by show w.heap.size≤gb;omega) _
    have ff:((⟨dY,mO,gA,ng,gc,g,some am,nm,mc,m,cA,nc,cc,c⟩:Bk).told i p q G kW (some ad) oU C nL).At w12 w12.heap.size:=⟨(rG.two hbk fun ad e hc=>hdg.1 (by rw[e];exact congrArg some hc)).more zo,(lW o12).2,(rC.two hbk fun ad e hc=>hdg.2 (by rw[e];exact congrArg some hc)).more zo,HA.out.ng,HA.out.nm,HA.out.nc,HA.out.name⟩
    obtain⟨a0,a1,A2,x2,y2,A3,x3,y3,A4,x4,y4,hv5,hip⟩:=HP.out G kW (some ad) oU C nL xb
    have HIP:=hid (hip w12 ff)
    have ID:=hid ff
    have V5:=hid hv5
    have FACTS:=hid (show _∧_∧_∧_∧_∧_ from⟨GM,GC,hgb,xb,Xe,Z12⟩)
    clear hip hv5 ff rG rC o12 tB wC E6 Z11 rN hbk Xe Z12 GM GC hgb xb hdg s12 s10 Ty Sa
    have n12:∀o,w12.cell? ⟨w10.heap.size,o,none⟩=(#[int i64 dY,int i64 mO,.slice G ng kW,.slice (some ad) nm oU,.slice C nc nL]:Array Value)[o]?:=fun o=>N12.cell o
    gi_wp2_with (gi_at_call 35;refine HIP.out.mono ?_;rintro e w13 ⟨rfl,Bq⟩;clear n12;have ij:=FACTS.out.2.2.2.2.2.below Bq FACTS.out.2.2.2.2.2.lt;have z0:w13.cell? ⟨w.heap.size+1+1,0,none⟩=some (int i64 0):=ij.cell 0;have z1:w13.cell? ⟨w.heap.size+1+1,1,none⟩=some (int i64 0):=ij.cell 1;have z2:w13.cell? ⟨w.heap.size+1+1,2,none⟩=some (.slice none 0 0):=ij.cell 2;have z3:w13.cell? ⟨w.heap.size+1+1,3,none⟩=some (.slice none 0 0):=ij.cell 3;have z4:w13.cell? ⟨w.heap.size+1+1,4,none⟩=some (.slice none 0 0):=ij.cell 4;have zf:=ij.thaw)
    have u:=(ij.rz (int i64 a0) (int i64 a1) (.slice A2 x2 y2) (.slice A3 x3 y3) (.slice A4 x4 y4)).cell
    obtain⟨GM,GC,hgb,xb,Xe,-⟩:=FACTS.out
    refine bodyPost_ret (v:=.tuple #[.agg #[int i64 a0,int i64 a1,.slice A2 x2 y2,.slice A3 x3 y3,.slice A4 x4 y4],int i64 lb]) (by simp[results,results7,go_sem,u]) rfl (oI (HE.out ho G kW (some ad) oU C nL a0 a1 A2 x2 y2 A3 x3 y3 A4 x4 y4 V5.out xb ?_) (Below.rz (Below.next Xe Bq) zo _ _ _ _ _))
    exact MK (X:=w.heap.size+1+1) (ID.out.up Bq) (fun ad e _=>by have:=GM ad e;omega) (fun ad e _=>by cases e;rw[tl.out];show gb≠_;omega) (fun ad e _=>by have:=GC ad e;omega) _ _ _ _ _
theorem oS(b:Bk)(i:Nat)(hi:i<b.nm)(ye:b.nm≤6)(xl xh:Int)(w:World)(h:b.At w w.heap.size):CallsIn FF 0 prog 10 #[b.val,int i64 i,.agg #[int i64 xl,int i64 xh]] w fun e w'=>(∃A k,e=.returned (b.told i (max (b.m i).lo xl) (min (b.m i).hi xh) b.gA b.gc A k b.cA b.cc).val∧(b.told i (max (b.m i).lo xl) (min (b.m i).hi xh) b.gA b.gc A k b.cA b.cc).At w' w'.heap.size)∧Below w.heap.size w w':=by
 have Xi:=hid fun w=>TA (b.m i).lo (b.m i).hi xl xh w
 obtain⟨cl,hcl⟩:∃x,x=max (b.m i).lo xl:=zE
 obtain⟨ch,hch⟩:∃x,x=min (b.m i).hi xh:=zE
 rw[← hcl,← hch] at Xi⊢
 have HA:=hid h
 clear hcl hch h
 obtain⟨dY,mO,gA,ng,gc,g,mA,nm,mc,m,cA,nc,cc,c⟩:=b
 simp only at hi ye
 obtain⟨am,df,TQ,-⟩:=HA.out.m (show 0<nm by omega)
 simp only at df
 subst df
 have hr:=(HA.out.m.row hi).2
 obtain⟨mi,yb⟩:∃mi,mi=m i:=zE
 simp only[← yb] at hr Xi
 obtain⟨kd,go,dy,lo,hh⟩:=mi
 clear yb
 simp only[Bk.val,Bk.cells] at Xi⊢
 have mb:(am.add (i * 5)).block<w.heap.size:=by rw[aH];exact TQ
 have m3:w.cell? ⟨(am.add (i * 5)).block,(am.add (i * 5)).off+3,none⟩=some (int i64 lo):=hr 3 zD
 have m4:w.cell? ⟨(am.add (i * 5)).block,(am.add (i * 5)).off+3+1,none⟩=some (int i64 hh):=hr 4 zD
 have M3:=hid m3
 have M4:=hid m4
 clear hr m3 m4
 obtain⟨i0,hi',hz0,hz1,hz2⟩:=info_parts Tryz.infoM
 have hi0:=hid hi'
 clear hi'
 gi_enter func10,ntmps10
 gi_upto_region 2 with fail
 obtain⟨w2,hw2⟩:∃x,x=(((w.alloc (.cells #[int i64 dY,int i64 mO,.slice gA ng gc,.slice (some am) nm mc,.slice cA nc cc] 26)).alloc (.cells #[int i64 xl,int i64 xh] 28)).alloc (.cells #[int i64 0,int i64 0,.slice none 0 0,.slice none 0 0,.slice none 0 0] 26)).alloc (.cells #[int i64 dY,int i64 mO,.slice gA ng gc,.slice (some am) nm mc,.slice cA nc cc] 26):=zE
 rw[← hw2]
 have hs2:w2.heap.size=w.heap.size+1+1+1+1:=by rw[hw2];simp
 have K2:Whole w2 w.heap.size 26 #[int i64 dY,int i64 mO,.slice gA ng gc,.slice (some am) nm mc,.slice cA nc cc]:=by rw[hw2];exact(((Whole.new _ _ _).alloc _).alloc _).alloc _
 have S2:Whole w2 (w.heap.size+1) 28 #[int i64 xl,int i64 xh]:=by rw[hw2];exact((aL zs).alloc _).alloc _
 have Z2:Whole w2 (w.heap.size+1+1) 26 #[int i64 0,int i64 0,.slice none 0 0,.slice none 0 0,.slice none 0 0]:=by rw[hw2];exact(aL zs).alloc _
 have O2:Whole w2 (w.heap.size+1+1+1) 26 #[int i64 dY,int i64 mO,.slice gA ng gc,.slice (some am) nm mc,.slice cA nc cc]:=by rw[hw2];exact aL zs
 have B2:Below w.heap.size w w2:=by rw[hw2];exact bw
 clear hw2
 have Hs2:=hid hs2
 clear hs2
 have HS2:=hid S2
 have HZ2:=hid Z2
 have HB2:=hid B2
 have HI:=hid ((HA.out.m.below B2).more B2.size)
 have c2:∀o,(w2.alloc (.cells #[] 39)).cell? ⟨w.heap.size,o,none⟩=(#[int i64 dY,int i64 mO,.slice gA ng gc,.slice (some am) nm mc,.slice cA nc cc]:Array Value)[o]?:=fun o=>(K2.alloc _).cell o
 have fy:=hid K2
 have Xk:=hid O2
 clear S2 Z2 B2 K2 O2
 have AO:=hid (oW w2 39 5)
 have Hn:=hid (oV zD HI.out (.cells #[] 39))
 have Ho:=hid (sV (n:=nm) (sz:=5) (f:=fun i=>(m i).cell) zD fun i q=>by show((m i).cell q).oneCell'=true;unfold Mv.cell;split <;> rfl)
 gi_upto_region 3 with(gi_at_builtin;refine aD rfl rfl rfl fun K5 iH=>?_;refine wp_append_lies _ _ _ _ rfl w2.heap.size 39 i0 _ 5 40 underlying23 hi0.out hz0 hz1 hz2 rfl zo (.slice (some ⟨w2.heap.size,0,none⟩) 0 0) 0 _ rfl AO.out am nm mc (dK 5 (fun i=>(m i).cell) nm) rfl (fK _ _ _) Hn.out Ho.out zo zU zo zs (w2.heap.size+1) zs ?_;intro jN gQ w5 hown5 aN kX mP;rw[List.nil_append,Nat.zero_add] at hown5;have b5:Below w2.heap.size w2 w5:=(zB.alloc zL _).trans (below_grown aN zs (fun g hg=>by cases hg;exact zL));have ge5:w2.heap.size≤jN:=(bL hown5 rfl).1;have fO:=(Xk.out.below b5 Xk.out.lt).thaw;have cO:w5.cell? ⟨w.heap.size+1+1+1,3,none⟩=some (.slice (some am) nm mc):=(Xk.out.below b5 Xk.out.lt).cell 3;have WV:=hid hown5;clear hown5 kX mP aN c2;refine iH _ _ ?_;clear iH K5)
 have hs2:=Hs2.out
 obtain⟨w6,AJ⟩:∃x,x=w5.setCell ⟨w.heap.size+1+1+1,3,none⟩ (.slice (some ⟨jN,0,none⟩) nm gQ):=zE
 rw[← AJ]
 have b6:Below w.heap.size w w6:=by rw[AJ];exact(HB2.out.trans (b5.mono HB2.out.size)).setCell (p:=⟨w.heap.size+1+1+1,3,none⟩) (by show w.heap.size≤w.heap.size+1+1+1;omega) _
 have O6:Whole w6 (w.heap.size+1+1+1) 26 #[int i64 dY,int i64 mO,.slice gA ng gc,.slice (some ⟨jN,0,none⟩) nm gQ,.slice cA nc cc]:=by rw[AJ];exact(Xk.out.below b5 Xk.out.lt).set 3 _
 have K6:Whole w6 w.heap.size 26 #[int i64 dY,int i64 mO,.slice gA ng gc,.slice (some am) nm mc,.slice cA nc cc]:=by rw[AJ];exact(fy.out.below b5 fy.out.lt).other (by show w.heap.size≠w.heap.size+1+1+1;omega) _
 have S6:Whole w6 (w.heap.size+1) 28 #[int i64 xl,int i64 xh]:=by rw[AJ];exact(HS2.out.below b5 HS2.out.lt).other (by show w.heap.size+1≠w.heap.size+1+1+1;omega) _
 have Z6:Whole w6 (w.heap.size+1+1) 26 #[int i64 0,int i64 0,.slice none 0 0,.slice none 0 0,.slice none 0 0]:=by rw[AJ];exact(HZ2.out.below b5 HZ2.out.lt).other (by show w.heap.size+1+1≠w.heap.size+1+1+1;omega) _
 have W6:=by
  have:=bS (p:=⟨w.heap.size+1+1+1,3,none⟩) WV.out (by show w.heap.size+1+1+1<w2.heap.size;omega) (.slice (some ⟨jN,0,none⟩) nm gQ)
  rw[← AJ] at this
  exact this
 have s6:w2.heap.size≤w6.heap.size:=by rw[AJ];have:=b5.size;simpa using this
 clear AJ b5 Xk fy HS2 HZ2 HB2 HI AO Hn Ho hi0 hz0 hz1 hz2 WV fO cO
 obtain⟨ad,had⟩:∃ad:Addr,ad=⟨jN,0,none⟩:=zE
 rw[← had] at O6⊢
 have hA3:⟨(ad.add (i * 5)).block,(ad.add (i * 5)).off+3,none⟩=(⟨jN,i * 5+3,none⟩:Addr):=by rw[had,MI]
 have ux:⟨(ad.add (i * 5)).block,(ad.add (i * 5)).off+3+1,none⟩=(⟨jN,i * 5+4,none⟩:Addr):=by rw[had,MI]
 have sq:=hid hA3
 have sr:=hid ux
 have tl:=hid had
 clear hA3 ux had
 have fT:Hid (∀w',Below w6.heap.size w6 w'→w'.cell? ⟨w.heap.size+1+1+1,3,none⟩=some (.slice (some ad) nm gQ)∧w'.cell? ⟨w.heap.size,3,none⟩=some (.slice (some am) nm mc)∧w'.cell? ⟨w.heap.size+1,0,none⟩=some (int i64 xl)∧w'.cell? ⟨w.heap.size+1,1,none⟩=some (int i64 xh)∧w'.cell? ⟨(am.add (i * 5)).block,(am.add (i * 5)).off+3,none⟩=some (int i64 lo)∧w'.cell? ⟨(am.add (i * 5)).block,(am.add (i * 5)).off+3+1,none⟩=some (int i64 hh)):=hid fun w' hq=>⟨(O6.below hq O6.lt).cell 3,(K6.below hq K6.lt).cell 3,(S6.below hq S6.lt).cell 0,(S6.below hq S6.lt).cell 1,((Below.next b6 hq).cell (p:=⟨(am.add (i * 5)).block,(am.add (i * 5)).off+3,none⟩) mb).trans M3.out,((Below.next b6 hq).cell (p:=⟨(am.add (i * 5)).block,(am.add (i * 5)).off+3+1,none⟩) mb).trans M4.out⟩
 have R6:Hid (Below w6.heap.size w6 w6.drew):=hid (dD zB)
 have e3:(0:Int)≤(i:Int):=Int.natCast_nonneg _
 have e4:(i:Int)<(nm:Int):=zo
 have LS:=hid O6
 have M':=hid Z6
 have lJ:=hid b6
 have HW6:=hid W6
 clear O6 K6 S6 Z6 b6 W6 M3 M4
 refine qJ [13] (fun w'=>w'.cell? ⟨w.heap.size+1+1+1,3,none⟩=some (.slice (some ad) nm gQ)∧w'.cell? ⟨w.heap.size,3,none⟩=some (.slice (some am) nm mc)∧w'.cell? ⟨w.heap.size+1,0,none⟩=some (int i64 xl)∧w'.cell? ⟨w.heap.size+1,1,none⟩=some (int i64 xh)∧w'.cell? ⟨(am.add (i * 5)).block,(am.add (i * 5)).off+3,none⟩=some (int i64 lo)∧w'.cell? ⟨(am.add (i * 5)).block,(am.add (i * 5)).off+3+1,none⟩=some (int i64 hh)) zk ?_
 have hS:=fT.out _ R6.out
 refine uS (i:=0) (some 14) hS ?_
 simp only[Act.put,List.setIfInBounds_toArray,List.set]
 refine uS (i:=1) (some 15) hS ?_
 simp only[Act.put,List.setIfInBounds_toArray,List.set]
 refine uS (i:=2) (some 16) hS ?_
 simp only[Act.put,List.setIfInBounds_toArray,List.set]
 refine uS (i:=3) (some 17) hS ?_
 simp only[Act.put,List.setIfInBounds_toArray,List.set]
 refine uS (i:=4) (some 18) hS ?_
 simp only[Act.put,List.setIfInBounds_toArray,List.set]
 refine uS (i:=5) (some 19) hS ?_
 simp only[Act.put,List.setIfInBounds_toArray,List.set]
 refine uS (i:=6) (some 20) hS ?_
 simp only[Act.put,List.setIfInBounds_toArray,List.set]
 refine uS (i:=7) (some 21) hS ?_
 simp only[Act.put,List.setIfInBounds_toArray,List.set]
 refine uS (i:=8) (some 22) hS ?_
 simp only[Act.put,List.setIfInBounds_toArray,List.set]
 refine uS (i:=9) (some 23) hS ?_
 simp only[Act.put,List.setIfInBounds_toArray,List.set]
 refine Iz 10 fun K hK=>?_
 go_simp
 gi_at_call 36
 refine(Xi.out _).mono ?_
 rintro e w7 ⟨rfl,vo⟩
 have h67:=Below.next R6.out vo
 clear vo
 refine hK.out _ _ (fun _=>fT.out _ h67) ?_
 clear hK K
 have Yg:=fT.out _ h67
 try simp only[Act.put,List.setIfInBounds_toArray,List.set]
 refine uS (i:=11) (some 25) Yg ?_
 simp only[Act.put,List.setIfInBounds_toArray,List.set]
 refine uS (i:=12) (some 26) Yg ?_
 simp only[Act.put,List.setIfInBounds_toArray,List.set]
 have W7:=iw HW6.out fun g _ hlt=>h67.block g hlt
 have f3:w7.frozen? ⟨(ad.add (i * 5)).block,(ad.add (i * 5)).off+3,none⟩=false:=by rw[sq.out];exact sW W7
 have f4:w7.frozen? ⟨(ad.add (i * 5)).block,(ad.add (i * 5)).off+3+1,none⟩=false:=by rw[sr.out];exact sW W7
 have Hi:=((lW W7).2.row hi).2
 rw[← tl.out] at Hi
 have g3:w7.cell? ⟨(ad.add (i * 5)).block,(ad.add (i * 5)).off+3,none⟩=some (int i64 (m i).lo):=Hi 3 zD
 have g4:w7.cell? ⟨(ad.add (i * 5)).block,(ad.add (i * 5)).off+3+1,none⟩=some (int i64 (m i).hi):=Hi 4 zD
 have HW7:=hid W7
 clear Hi
 clear W7 Yg hS
 refine Iz 13 fun K hK=>?_
 go_simp
 refine hK.out _ _ (fun h=>absurd zD h) ?_
 clear hK K
 refine lH zk ?_ _
 obtain⟨w8,hw8⟩:∃x,x=(w7.setCell ⟨(ad.add (i * 5)).block,(ad.add (i * 5)).off+3,none⟩ (int i64 cl)).setCell ⟨(ad.add (i * 5)).block,(ad.add (i * 5)).off+3+1,none⟩ (int i64 ch):=zE
 rw[← hw8]
 rw[sq.out,sr.out] at hw8
 clear f3 f4 g3 g4
 have o8:w8.ownsRow w2.heap.size 39 5 (.slice (some ⟨jN,0,none⟩) nm gQ) nm (dK 5 (fun j=>(((⟨dY,mO,gA,ng,gc,g,some am,nm,mc,m,cA,nc,cc,c⟩:Bk).told i cl ch gA gc (some ⟨jN,0,none⟩) gQ cA cc).m j).cell) nm):=by rw[hw8];exact Jp (b:=(⟨dY,mO,gA,ng,gc,g,some am,nm,mc,m,cA,nc,cc,c⟩:Bk)) HW7.out
 have hbk:∀B,B≠jN→w8.heap[B]? =w7.heap[B]?:=fun B hB=>by rw[hw8];exact(Below.heap_setCell _ _ _ _ hB).trans (Below.heap_setCell _ _ _ _ hB)
 have O8:=(LS.out.below h67 LS.out.lt).of (hbk _ zo)
 have Z8:=(M'.out.below h67 M'.out.lt).of (hbk _ zo)
 have B8:Below w.heap.size w w8:=by rw[hw8];exact((Below.next lJ.out h67).setCell (p:=⟨jN,i * 5+3,none⟩) (by show w.heap.size≤jN;omega) _).setCell (p:=⟨jN,i * 5+4,none⟩) (by show w.heap.size≤jN;omega) _
 have U:=HA.out.up B8
 have At8:((⟨dY,mO,gA,ng,gc,g,some am,nm,mc,m,cA,nc,cc,c⟩:Bk).told i cl ch gA gc (some ⟨jN,0,none⟩) gQ cA cc).At w8 w8.heap.size:=⟨U.g,(lW o8).2,U.c,HA.out.ng,HA.out.nm,HA.out.nc,HA.out.name⟩
 have hlow:∀ (A:Option Addr) (n sz:Nat) (f:Nat→Nat→Value),Rows w w.heap.size sz A n f→∀ad,A=some ad→0<n→ad.block<w.heap.size:=fun A n sz f hr ad e hn=>by
  obtain⟨OS,e',hb,-⟩:=hr hn
  rw[e] at e'
  cases e'
  exact hb
 have HT8:=hid At8
 clear hw8 o8 hbk h67 U At8 fT R6 LS M' lJ HW6 HW7
 have o8c:∀o,w8.cell? ⟨w.heap.size+1+1+1,o,none⟩=(#[int i64 dY,int i64 mO,.slice gA ng gc,.slice (some ad) nm gQ,.slice cA nc cc]:Array Value)[o]?:=fun o=>O8.cell o
 have z0:w8.cell? ⟨w.heap.size+1+1,0,none⟩=some (int i64 0):=Z8.cell 0
 have z1:w8.cell? ⟨w.heap.size+1+1,1,none⟩=some (int i64 0):=Z8.cell 1
 have z2:w8.cell? ⟨w.heap.size+1+1,2,none⟩=some (.slice none 0 0):=Z8.cell 2
 have z3:w8.cell? ⟨w.heap.size+1+1,3,none⟩=some (.slice none 0 0):=Z8.cell 3
 have z4:w8.cell? ⟨w.heap.size+1+1,4,none⟩=some (.slice none 0 0):=Z8.cell 4
 have zf:=Z8.thaw
 gi_wp2
 have u:=(Z8.rz (int i64 dY) (int i64 mO) (.slice gA ng gc) (.slice (some ad) nm gQ) (.slice cA nc cc)).cell
 refine bodyPost_ret (v:=.agg #[int i64 dY,int i64 mO,.slice gA ng gc,.slice (some ad) nm gQ,.slice cA nc cc]) (by simp[results,results10,go_sem,u]) rfl ⟨⟨_,gQ,by rw[tl.out];rfl,?_⟩,?_⟩
 ·exact MK (X:=w.heap.size+1+1) HT8.out (fun ad e hn=>by have:=hlow _ _ _ _ HA.out.g ad e hn;omega) (fun ad e _=>by cases e;show jN≠_;omega) (fun ad e hn=>by have:=hlow _ _ _ _ HA.out.c ad e hn;omega) _ _ _ _ _
 ·exact Below.rz B8 zo _ _ _ _ _
theorem Vs(b:Bk)(G:Option Addr)(kW:Nat)(M:Option Addr)(oU:Nat)(C:Option Addr)(nL:Nat)(w:World)(h:b.At w w.heap.size)(h2:(b.re G kW M oU C nL).At w w.heap.size):CallsIn FF 0 prog 9 #[b.val,(b.re G kW M oU C nL).val] w fun e w'=>e=.returned (.bool true)∧Below w.heap.size w w':=by
 have HA:=hid h
 have HB:=hid h2
 clear h h2
 obtain⟨dY,mO,gA,ng,gc,g,mA,nm,mc,m,cA,nc,cc,c⟩:=b
 simp only[Bk.val,Bk.cells,Bk.re] at HB⊢
 have wm:ng≤maxLen:=HA.out.ng
 have hnm:nm≤maxLen:=HA.out.nm
 have hnc:nc≤maxLen:=HA.out.nc
 unfold maxLen at wm hnm hnc
 obtain⟨w1,hw1⟩:∃w1,w1=(w.alloc (.cells #[int i64 dY,int i64 mO,.slice gA ng gc,.slice mA nm mc,.slice cA nc cc] 26)).alloc (.cells #[int i64 dY,int i64 mO,.slice G ng kW,.slice M nm oU,.slice C nc nL] 26):=zE
 have B1:Hid (Below w.heap.size w w1):=hid (by rw[hw1];exact bw)
 have X1:Hid (Whole w1 w.heap.size 26 #[int i64 dY,int i64 mO,.slice gA ng gc,.slice mA nm mc,.slice cA nc cc]):=hid (by rw[hw1];exact(Whole.new _ _ _).alloc _)
 have Y1:Hid (Whole w1 (w.heap.size+1) 26 #[int i64 dY,int i64 mO,.slice G ng kW,.slice M nm oU,.slice C nc nL]):=hid (by rw[hw1];have:=Whole.new (w.alloc (.cells #[int i64 dY,int i64 mO,.slice gA ng gc,.slice mA nm mc,.slice cA nc cc] 26)) 26 #[int i64 dY,int i64 mO,.slice G ng kW,.slice M nm oU,.slice C nc nL];rw[World.size_alloc] at this;exact this)
 have ku:=hid hw1
 clear hw1
 gi_enter func9,ntmps9
 gi_wp2
 try rw[← ku.out]
 gi_loopw [5] (fun i wr=>∃k:Nat,k≤ng∧i=int i64 k∧Hid (Below w.heap.size w wr∧Below w1.heap.size w1 wr)) (fun i _=>ng - (intOf i).toNat)
 case atStart=>exact⟨0,Nat.zero_le _,rfl,hid ⟨B1.out,zB⟩⟩
 case round=>
  obtain⟨k,hk,rfl,hT⟩:=hrel
  obtain⟨wo,rfl⟩:∃wo:World,wo=wr:=zE
  have x0:∀o,wo.cell? ⟨w.heap.size,o,none⟩=(#[int i64 dY,int i64 mO,.slice gA ng gc,.slice mA nm mc,.slice cA nc cc]:Array Value)[o]?:=fun o=>(X1.out.below hT.out.2 X1.out.lt).cell o
  have y0:∀o,wo.cell? ⟨w.heap.size+1,o,none⟩=(#[int i64 dY,int i64 mO,.slice G ng kW,.slice M nm oU,.slice C nc nL]:Array Value)[o]?:=fun o=>(Y1.out.below hT.out.2 Y1.out.lt).cell o
  by_cases hlt:k<ng
  ·obtain⟨ad,hA1,-⟩:=HA.out.g (show 0<ng by omega)
   obtain⟨rU,hA2,-⟩:=HB.out.g (show 0<ng by omega)
   try simp only at hA1 hA2
   subst hA1
   subst hA2
   have ar:∀j,j<5→wo.cell? ((ad.add (k * 5)).add j)=some ((g k).cell j):=fun j hj=>((HA.out.g.below hT.out.1).row hlt).2 j hj
   have br:∀j,j<5→wo.cell? ((rU.add (k * 5)).add j)=some ((g k).cell j):=fun j hj=>((HB.out.g.below hT.out.1).row hlt).2 j hj
   generalize g k=gk at ar br
   obtain⟨q0,q1,q2,q3,q4⟩:=gk
   have a0:wo.cell? (ad.add (k * 5))=some (.string q0):=ar 0 zD
   have a1:wo.cell? ⟨(ad.add (k * 5)).block,(ad.add (k * 5)).off+1,none⟩=some (int i64 q1):=ar 1 zD
   have a2:wo.cell? ⟨(ad.add (k * 5)).block,(ad.add (k * 5)).off+2,none⟩=some (int i64 q2):=ar 2 zD
   have a3:wo.cell? ⟨(ad.add (k * 5)).block,(ad.add (k * 5)).off+3,none⟩=some (int i64 q3):=ar 3 zD
   have a4:wo.cell? ⟨(ad.add (k * 5)).block,(ad.add (k * 5)).off+4,none⟩=some (int i64 q4):=ar 4 zD
   have b0:wo.cell? (rU.add (k * 5))=some (.string q0):=br 0 zD
   have b1:wo.cell? ⟨(rU.add (k * 5)).block,(rU.add (k * 5)).off+1,none⟩=some (int i64 q1):=br 1 zD
   have b2:wo.cell? ⟨(rU.add (k * 5)).block,(rU.add (k * 5)).off+2,none⟩=some (int i64 q2):=br 2 zD
   have b3:wo.cell? ⟨(rU.add (k * 5)).block,(rU.add (k * 5)).off+3,none⟩=some (int i64 q3):=br 3 zD
   have b4:wo.cell? ⟨(rU.add (k * 5)).block,(rU.add (k * 5)).off+4,none⟩=some (int i64 q4):=br 4 zD
   have ne:∀w,(binOp BinOp.neq 83 (.agg #[.string q0,int i64 q1,int i64 q2,int i64 q3,int i64 q4]) (.agg #[.string q0,int i64 q1,int i64 q2,int i64 q3,int i64 q4])).run prog w=.ok (.bool false) w:=fun w=>by simp[go_sem]
   clear ar br
   gi_wp2
   gi_quiet (fail)
   gi_wp2
   exact⟨⟨k+1,hlt,by push_cast;rfl,hid ⟨below_drewN hT.out.1 _,below_drewN hT.out.2 _⟩⟩,by simp[intOf];omega⟩
  ·obtain rfl:ng=k:=zo
   have hT1:=hT
   gi_wp2
   gi_loopw [6] (fun i wr=>∃k:Nat,k≤nm∧i=int i64 k∧Hid (Below w.heap.size w wr∧Below w1.heap.size w1 wr)) (fun i _=>nm - (intOf i).toNat)
   case atStart=>exact⟨0,Nat.zero_le _,rfl,hT1⟩
   case round=>
    obtain⟨k,hk,rfl,hT⟩:=hrel
    obtain⟨wo,rfl⟩:∃wo:World,wo=wr:=zE
    have x0:∀o,wo.cell? ⟨w.heap.size,o,none⟩=(#[int i64 dY,int i64 mO,.slice gA ng gc,.slice mA nm mc,.slice cA nc cc]:Array Value)[o]?:=fun o=>(X1.out.below hT.out.2 X1.out.lt).cell o
    have y0:∀o,wo.cell? ⟨w.heap.size+1,o,none⟩=(#[int i64 dY,int i64 mO,.slice G ng kW,.slice M nm oU,.slice C nc nL]:Array Value)[o]?:=fun o=>(Y1.out.below hT.out.2 Y1.out.lt).cell o
    by_cases hlt:k<nm
    ·obtain⟨ad,hA1,-⟩:=HA.out.m (show 0<nm by omega)
     obtain⟨rU,hA2,-⟩:=HB.out.m (show 0<nm by omega)
     try simp only at hA1 hA2
     subst hA1
     subst hA2
     have ar:∀j,j<5→wo.cell? ((ad.add (k * 5)).add j)=some ((m k).cell j):=fun j hj=>((HA.out.m.below hT.out.1).row hlt).2 j hj
     have br:∀j,j<5→wo.cell? ((rU.add (k * 5)).add j)=some ((m k).cell j):=fun j hj=>((HB.out.m.below hT.out.1).row hlt).2 j hj
     generalize m k=gk at ar br
     obtain⟨q0,q1,q2,q3,q4⟩:=gk
     have a0:wo.cell? (ad.add (k * 5))=some (int i64 q0):=ar 0 zD
     have a1:wo.cell? ⟨(ad.add (k * 5)).block,(ad.add (k * 5)).off+1,none⟩=some (int i64 q1):=ar 1 zD
     have a2:wo.cell? ⟨(ad.add (k * 5)).block,(ad.add (k * 5)).off+2,none⟩=some (int i64 q2):=ar 2 zD
     have a3:wo.cell? ⟨(ad.add (k * 5)).block,(ad.add (k * 5)).off+3,none⟩=some (int i64 q3):=ar 3 zD
     have a4:wo.cell? ⟨(ad.add (k * 5)).block,(ad.add (k * 5)).off+4,none⟩=some (int i64 q4):=ar 4 zD
     have b0:wo.cell? (rU.add (k * 5))=some (int i64 q0):=br 0 zD
     have b1:wo.cell? ⟨(rU.add (k * 5)).block,(rU.add (k * 5)).off+1,none⟩=some (int i64 q1):=br 1 zD
     have b2:wo.cell? ⟨(rU.add (k * 5)).block,(rU.add (k * 5)).off+2,none⟩=some (int i64 q2):=br 2 zD
     have b3:wo.cell? ⟨(rU.add (k * 5)).block,(rU.add (k * 5)).off+3,none⟩=some (int i64 q3):=br 3 zD
     have b4:wo.cell? ⟨(rU.add (k * 5)).block,(rU.add (k * 5)).off+4,none⟩=some (int i64 q4):=br 4 zD
     have ne:∀w,(binOp BinOp.neq 39 (.agg #[int i64 q0,int i64 q1,int i64 q2,int i64 q3,int i64 q4]) (.agg #[int i64 q0,int i64 q1,int i64 q2,int i64 q3,int i64 q4])).run prog w=.ok (.bool false) w:=fun w=>by simp[go_sem]
     clear ar br
     gi_wp2
     gi_quiet (fail)
     gi_wp2
     exact⟨⟨k+1,hlt,by push_cast;rfl,hid ⟨below_drewN hT.out.1 _,below_drewN hT.out.2 _⟩⟩,by simp[intOf];omega⟩
    ·obtain rfl:nm=k:=zo
     have hT1:=hT
     gi_wp2
     gi_loopw [7] (fun i wr=>∃k:Nat,k≤nc∧i=int i64 k∧Hid (Below w.heap.size w wr∧Below w1.heap.size w1 wr)) (fun i _=>nc - (intOf i).toNat)
     case atStart=>exact⟨0,Nat.zero_le _,rfl,hT1⟩
     case round=>
      obtain⟨k,hk,rfl,hT⟩:=hrel
      obtain⟨wo,rfl⟩:∃wo:World,wo=wr:=zE
      have x0:∀o,wo.cell? ⟨w.heap.size,o,none⟩=(#[int i64 dY,int i64 mO,.slice gA ng gc,.slice mA nm mc,.slice cA nc cc]:Array Value)[o]?:=fun o=>(X1.out.below hT.out.2 X1.out.lt).cell o
      have y0:∀o,wo.cell? ⟨w.heap.size+1,o,none⟩=(#[int i64 dY,int i64 mO,.slice G ng kW,.slice M nm oU,.slice C nc nL]:Array Value)[o]?:=fun o=>(Y1.out.below hT.out.2 Y1.out.lt).cell o
      by_cases hlt:k<nc
      ·obtain⟨ad,hA1,-⟩:=HA.out.c (show 0<nc by omega)
       obtain⟨rU,hA2,-⟩:=HB.out.c (show 0<nc by omega)
       try simp only at hA1 hA2
       subst hA1
       subst hA2
       have ar:∀j,j<4→wo.cell? ((ad.add (k * 4)).add j)=some ((c k).cell j):=fun j hj=>((HA.out.c.below hT.out.1).row hlt).2 j hj
       have br:∀j,j<4→wo.cell? ((rU.add (k * 4)).add j)=some ((c k).cell j):=fun j hj=>((HB.out.c.below hT.out.1).row hlt).2 j hj
       generalize c k=gk at ar br
       obtain⟨q0,q1,q2,q3⟩:=gk
       have a0:wo.cell? (ad.add (k * 4))=some (int i64 q0):=ar 0 zD
       have a1:wo.cell? ⟨(ad.add (k * 4)).block,(ad.add (k * 4)).off+1,none⟩=some (int i64 q1):=ar 1 zD
       have a2:wo.cell? ⟨(ad.add (k * 4)).block,(ad.add (k * 4)).off+2,none⟩=some (int i64 q2):=ar 2 zD
       have a3:wo.cell? ⟨(ad.add (k * 4)).block,(ad.add (k * 4)).off+3,none⟩=some (int i64 q3):=ar 3 zD
       have b0:wo.cell? (rU.add (k * 4))=some (int i64 q0):=br 0 zD
       have b1:wo.cell? ⟨(rU.add (k * 4)).block,(rU.add (k * 4)).off+1,none⟩=some (int i64 q1):=br 1 zD
       have b2:wo.cell? ⟨(rU.add (k * 4)).block,(rU.add (k * 4)).off+2,none⟩=some (int i64 q2):=br 2 zD
       have b3:wo.cell? ⟨(rU.add (k * 4)).block,(rU.add (k * 4)).off+3,none⟩=some (int i64 q3):=br 3 zD
       have ne:∀w,(binOp BinOp.neq 45 (.agg #[int i64 q0,int i64 q1,int i64 q2,int i64 q3]) (.agg #[int i64 q0,int i64 q1,int i64 q2,int i64 q3])).run prog w=.ok (.bool false) w:=fun w=>by simp[go_sem]
       clear ar br
       gi_wp2
       gi_quiet (fail)
       gi_wp2
       exact⟨⟨k+1,hlt,by push_cast;rfl,hid ⟨below_drewN hT.out.1 _,below_drewN hT.out.2 _⟩⟩,by simp[intOf];omega⟩
      ·obtain rfl:nc=k:=zo
       have hT1:=hT
       gi_wp2
       go_ret
       exact⟨rfl,hT1.out.1⟩
end
section
open Go Go.RowKit Go.Maps Go.Sort Go.Shelf
def CQ:Go.Shelf.Ren:=⟨fun|7=>91|10=>123|n=>n,fun|23=>131|26=>3|3=>4|28=>134|0=>0|27=>133|33=>103|4=>4|n=>n,fun|n=>n⟩
theorem ez:Go.Proofs.SlLaysZI.n7 prog CQ:=⟨zk,⟨Tryz.f91.name,zD,Tryz.func91.trans (congrArg some zk)⟩,⟨Tryz.f123.name,zD,Tryz.func123.trans (congrArg some zk)⟩,zk,isAgg0,sizeOf0,zeroValue0,zk,isAgg4,sizeOf4,zeroValue4,zk,isAgg131,sizeOf131,zeroValue131,zk,isAgg3,sizeOf3,zeroValue3,zk,isAgg133,sizeOf133,zeroValue133,zk,isAgg134,sizeOf134,zeroValue134,zk,isAgg103,sizeOf103,zeroValue103⟩
def vL:Go.Shelf.Ren:=⟨fun|6=>90|8=>121|9=>122|11=>141|13=>143|12=>142|23=>178|24=>179|14=>169|15=>170|16=>171|17=>172|18=>173|19=>174|20=>175|21=>176|22=>177|25=>188|26=>189|27=>190|28=>191|29=>192|30=>180|31=>193|n=>n,fun|26=>3|28=>134|24=>51|0=>0|3=>3|37=>149|48=>178|50=>175|4=>4|40=>215|39=>214|45=>189|5=>5|9=>9|51=>229|55=>232|57=>234|58=>116|33=>103|n=>n,fun|n=>n⟩
theorem Zw:Go.Proofs.SlLaysZI.n6 prog vL:=⟨zk,⟨Tryz.f90.name,zD,Tryz.func90.trans (congrArg some zk)⟩,⟨Tryz.f121.name,zD,Tryz.func121.trans (congrArg some zk)⟩,⟨Tryz.f141.name,zD,Tryz.func141.trans (congrArg some zk)⟩,zk,isAgg0,sizeOf0,zeroValue0,zk,isAgg51,sizeOf51,zeroValue51,zk,isAgg3,sizeOf3,zeroValue3,zk,isAgg134,sizeOf134,zeroValue134,zk⟩
def Qu:Go.Shelf.Ren:=⟨fun|5=>122|8=>143|7=>142|19=>178|20=>179|10=>169|11=>170|12=>171|13=>172|14=>173|15=>174|16=>175|17=>176|18=>177|30=>188|31=>189|32=>190|33=>191|34=>192|35=>180|40=>193|n=>n,fun|23=>51|25=>3|3=>3|32=>149|22=>51|0=>0|44=>178|46=>175|4=>4|36=>215|35=>214|41=>189|5=>5|9=>9|53=>229|57=>232|63=>234|64=>116|n=>n,fun|n=>n⟩
theorem eR:Go.Proofs.SlLaysM.n5 prog Qu:=⟨zk,⟨Tryz.f122.name,zD,Tryz.func122.trans (congrArg some zk)⟩,⟨Tryz.f142.name,zD,Tryz.func142.trans (congrArg some zk)⟩,Tryz.func143.trans (congrArg some zk),⟨Tryz.f169.name,zD,Tryz.func169.trans (congrArg some zk)⟩,⟨Tryz.f170.name,zD,Tryz.func170.trans (congrArg some zk)⟩,⟨Tryz.f171.name,zD,Tryz.func171.trans (congrArg some zk)⟩,⟨Tryz.f172.name,zD,Tryz.func172.trans (congrArg some zk)⟩,⟨Tryz.f173.name,zD,Tryz.func173.trans (congrArg some zk)⟩,⟨Tryz.f174.name,zD,Tryz.func174.trans (congrArg some zk)⟩,⟨Tryz.f175.name,zD,Tryz.func175.trans (congrArg some zk)⟩,⟨Tryz.f176.name,zD,Tryz.func176.trans (congrArg some zk)⟩,⟨Tryz.f177.name,zD,Tryz.func177.trans (congrArg some zk)⟩,Tryz.func178.trans (congrArg some zk),Tryz.func179.trans (congrArg some zk),⟨Tryz.f188.name,zD,Tryz.func188.trans (congrArg some zk)⟩,Tryz.func189.trans (congrArg some zk),Tryz.func190.trans (congrArg some zk),⟨Tryz.f191.name,zD,Tryz.func191.trans (congrArg some zk)⟩,⟨Tryz.f192.name,zD,Tryz.func192.trans (congrArg some zk)⟩,⟨Tryz.f180.name,zD,Tryz.func180.trans (congrArg some zk)⟩,⟨Tryz.f193.name,zD,Tryz.func193.trans (congrArg some zk)⟩,zk,isAgg0,sizeOf0,zeroValue0,zk,isAgg3,sizeOf3,zeroValue3,zk,isAgg4,sizeOf4,zeroValue4,zk,isAgg5,sizeOf5,zeroValue5,zk,isAgg9,sizeOf9,zeroValue9,zk,isAgg51,sizeOf51,zeroValue51,zk,isAgg51,sizeOf51,zeroValue51,zk,isAgg3,sizeOf3,zeroValue3,zk,isAgg149,sizeOf149,zeroValue149,zk,isAgg214,sizeOf214,zeroValue214,zk,isAgg215,sizeOf215,zeroValue215,zk,isAgg189,sizeOf189,zeroValue189,zk,isAgg178,sizeOf178,zeroValue178,zk,isAgg175,sizeOf175,zeroValue175,zk,isAgg229,sizeOf229,zeroValue229,zk,isAgg232,sizeOf232,zeroValue232,zk,isAgg234,sizeOf234,zeroValue234,zk,isAgg116,sizeOf116,zeroValue116⟩
def To(g:Nat):Bool:=decide ((3≤g∧g<126)∨(130≤g∧g<147)∨(165≤g∧g<181)∨(186≤g∧g<194))
theorem kZ{g:Nat}(h:To g=true):FF.fn g:=(qU g).2 (by unfold To at h;exact of_decide_eq_true h)
theorem Nr{L:List Nat}(h:L.all To=true):∀x∈L,FF.fn x:=fun x hx=>kZ (List.all_eq_true.1 h x hx)
theorem DM{L:List FuncId}{n m:Nat}{P:Program}{f:FuncId}{args:Array Value}{w:World}{R:Ending→World→Prop}(hL:∀x∈L,FF.fn x)(hf:FF.fn f)(h:∀D,CallsIn (Fence.list L (some D)) n P f args w R):CallsIn FF m P f args w R:=by
 refine⟨hf,fun cs _=>?_⟩
 obtain⟨e,w',fr,r,hs,rest⟩:=(h (cs.length+1+n)).2 cs (fun d hd=>by cases hd;exact zL)
 have hm:∀x:Machine,x.fenced P (Fence.list L (some (cs.length+1+n)))→x.fenced P FF:=fun x hx g hg=>by
  obtain⟨a,b,c,d⟩:=hx g hg
  exact⟨a,b.imp (hL _) id,fun f hf=>hL _ (c f hf),fun d hd=>by cases hd⟩
 refine⟨e,w',fr,r,?_,rest⟩
 cases e with
 | returned v=>exact gq hm hs
 | panicked c=>exact gq hm hs
 | outgrown=>exact hs
theorem IZ(m:Nat):AnyZI.SortsIn prog vL FF m:=
 ⟨fun blk off cap ss W hH hblk hsz=>DM (Nr zk) (kZ zk) fun D=>AnySM.slices_Sort_int_in eR D blk off cap ss W hH hblk hsz,
  fun p cap W=>DM (Nr zk) (kZ zk) fun D=>AnySM.slices_Sort_int_none_in eR D p cap W⟩
theorem Pa{n m:Nat}{P:Program}{f:FuncId}{args:Array Value}{w:World}{R:Ending→World→Prop}(h:CallsIn FF n P f args w R):CallsIn FF m P f args w R:=⟨h.1,fun cs _=>h.2 cs (fun d hd=>by cases hd)⟩
theorem Yx(mb:Option Nat)(W:World):CallsIn FF 0 prog 91 #[.map mb] W fun e w'=>e=.returned (.func (.func 123) #[] #[.pointer (some ⟨W.heap.size,0,none⟩)])∧w'=W.alloc (.cells #[.map mb] 131):=
 AnyZI.keys_in ez FF 0 (kZ zk) rfl mb W
theorem Qv{H:Type}(b nn:Nat)(D0:DataW H)(R:Value→Option (DataW H × List MemPlace))(B:Nat)(w:World)(hB:Whole w B 131 #[.map (some b)])(hown:w.ownsMap prog 3 R b nn D0)(hmax:Maps.size D0≤maxLen)(hbytes:Maps.size D0 * 8≤140737488355328):
 CallsIn FF 0 prog 90 #[.func (.func 123) #[] #[.pointer (some ⟨B,0,none⟩)]] w fun e w'=>∃ (v:Value) (ss:List Int),e=.returned v∧ss.Perm (intKeys D0)∧
  w'.ownsRow w.heap.size 3 1 v ss.length ((ss.mergeSort (fun x y=>decide (x≤y))).map encZ)∧(v=.slice none 0 0↔ss=[])∧Below w.heap.size w w':=by
 have hseq:SeqGives FF 1 prog 123 #[.pointer (some ⟨B,0,none⟩)] encZ (fun ss=>ss.Perm (intKeys D0)) (Maps.size D0) w:=
  AnyZI.keys_gives (ρ:=CQ) {ez with } FF 1 (kZ zk) rfl zo B b nn D0 _ hB.lt (hB.cell 0) hown
 have cS:=AnyZI.sorted_in Zw FF 4 (kZ zk) (kZ zk) (kZ zk) (kZ zk) rfl zo (IZ _) (enters_of func122 zk rfl) 123 #[.pointer (some ⟨B,0,none⟩)] (kZ zk) (enters_of func123 zk rfl) _ _ hmax hbytes _ hseq
 exact Pa cS
end
end Go.Proofs.YtpmafoalhnaokaaGreat
