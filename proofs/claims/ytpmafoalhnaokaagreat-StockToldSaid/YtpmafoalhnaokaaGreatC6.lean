/- CS TF ST TL4 LW LE LV TL5 -/
import Derived.Test.YtpmafoalhnaokaaGreatC5
set_option maxRecDepth 100000
set_option maxHeartbeats 16000000
set_option linter.unusedVariables false
set_option linter.unusedSectionVars false
set_option linter.unusedSimpArgs false
open Go.IntKind(i64)
open Go.Lib(hid)
open Go.Proofs.Tryz
open Go.Value(int)
namespace Go.Proofs.YtpmafoalhnaokaaGreat
section
open Go Go.Conc Go.ConcN Go.bZ Go.Conc.Lib Go.aP Go.RowKit
attribute [local go_sem] Oper.semAt_some
variable[Inhabited aT]
def RG(w:World)(x:Value)(w':World):Prop:=∃v,x=.tuple #[v,int i64 0]∧w'.ownsRow w.heap.size 3 1 v 1 [int i64 1]∧Past w w'
theorem BI(G M C:Nat)(w:World)(hT:WY w G M C)(h:(Tb 0 G M C).At w w.heap.size):iY 29 #[(Tb 0 G M C).val] w (RG w):=by
 have hl4:(ak (Tb 0 G M C)).length=4:=by rw[wT];rfl
 have HO:=hid fun w h=>YP (Tb 0 G M C) w h (ko 0 zD G M C) (Nat.le_refl 2)
 rw[hl4] at HO
 have HV:=hid fun gA p w hT hA hc=>OU G M C gA p w hT hA hc
 have HA:=hid h
 have HT:=hid hT
 have Lk:Hid (∀A w,pQ (Tb 0 G M C) A w→∀w',Below w.heap.size w w'→pQ (Tb 0 G M C) A w'):=hid fun A w h w' hb=>h.below hb
 clear h hT hl4
 simp only[Tb,Bk.val,Bk.cells,aA] at HO HV⊢
 refine kK func29 rfl zs ?_
 simp only[ntmps29,List.size_toArray,List.length_cons,List.length_nil,Nat.reduceAdd,Nat.reduceSub,Array.replicate_succ,Array.replicate_zero,List.push_toArray,List.append_toArray,List.nil_append,List.cons_append]
 repeat refine aj.seq ?_
 refine aj.item ?_
 gi_wp2
 repeat refine aj.seq ?_
 refine aj.item ?_
 gi_wp2_with (gi_at_call 37;refine(HO.out _ (HA.out.up (bw))).mono ?_;rintro e w2 ⟨A,p,rfl,hc2,hb2,hA2⟩)
 obtain⟨gA,rfl,hAi⟩:∃gA,A=some ⟨gA,0,none⟩∧∃c e,w2.heap[gA]? =some (.cells c e (0,0))∧∀x∈c.toList,∃n,x=int i64 n:=by
  obtain⟨ad,rfl,-,-⟩:=hc2.row (by show 0<(ak (Tb 0 G M C)).length;rw[wT];decide)
  obtain⟨-,h2,h3⟩:=hA2 ad rfl zD
  exact⟨ad.block,by rw[← h2],h3⟩
 have hw2:Below w.heap.size w w2:=Below.next (bw) hb2
 obtain⟨w3,hw3⟩:∃w3,w3=w2.alloc (.cells #[int i64 10,int i64 0,.slice (some ⟨G,0,none⟩) 2 2,.slice (some ⟨M,0,none⟩) 4 4,.slice (some ⟨C,0,none⟩) 2 2,.slice (some ⟨gA,0,none⟩) 4 p] 75):=zE
 have b23:Below w2.heap.size w2 w3:=by rw[hw3];exact bw
 have X3:Whole w3 w2.heap.size 75 #[int i64 10,int i64 0,.slice (some ⟨G,0,none⟩) 2 2,.slice (some ⟨M,0,none⟩) 4 4,.slice (some ⟨C,0,none⟩) 2 2,.slice (some ⟨gA,0,none⟩) 4 p]:=by rw[hw3];exact Whole.new _ _ _
 have Yr:Below w.heap.size w w3:=Below.next hw2 b23
 have sL:=hid (HV.out gA p w3 (HT.out.of fun b hb=>Yr.block b hb) (by
  obtain⟨c,e,h1,h2⟩:=hAi
  exact⟨c,e,(b23.block _ (Array.getElem?_eq_some_iff.1 h1).1).trans h1,h2⟩) (Lk.out _ _ hc2 _ b23))
 have x0:=X3.cell 0
 have x1:=X3.cell 1
 have x2:=X3.cell 2
 have x3:=X3.cell 3
 have x4:=X3.cell 4
 have x5:=X3.cell 5
 have HB3:=hid Yr
 have Mu:=hid Yr.size
 rw[← hw3]
 clear hw3 Yr X3 b23 hw2 hAi hA2 hc2 hb2
 repeat refine aj.seq ?_
 refine aj.item ?_
 gi_wp2
 repeat refine aj.seq ?_
 refine aj.cond_false rfl ?_
 refine aj.skip ?_
 repeat refine aj.seq ?_
 refine aj.eX 1 zD ?_
 simp only[List.take_succ_cons,List.take_zero]
 gi_wp2
 refine fU rfl rfl rfl (enters_of func71 zk rfl) (Rc:=RD w3) (args:=#[.agg #[int i64 10,int i64 0,.slice (some ⟨G,0,none⟩) 2 2,.slice (some ⟨M,0,none⟩) 4 4,.slice (some ⟨C,0,none⟩) 2 2,.slice (some ⟨gA,0,none⟩) 4 p]]) (by simp only[List.map_toArray,List.map_cons,List.map_nil];rfl) sL.out ?_
 rintro x w4 ⟨v,rfl,hown,hpast⟩
 obtain⟨g,cap,rfl,hg1,hg2⟩:=hown.form zD
 have LO:=hid hown
 have L5:=hid hpast
 clear hown hpast x0 x1 x2 x3 x4 x5 hg1 hg2
 simp only[List.drop_succ_cons,List.drop_zero,Act.put,List.setIfInBounds_toArray,List.set_cons_succ,List.set_cons_zero]
 gi_wp2
 simp only[tZ]
 gi_wp2
 exact⟨rfl,_,results_tmp2 rfl _ _ _,_,rfl,_,rfl,dh LO.out Mu.out,Past.of HB3.out L5.out⟩
end
section
open Go.RowKit Go.Maps
def SV(w:World)(v:Value)(l:List Int):Prop:=∃A p,v=.slice A l.length p∧Ints w w.heap.size A l.length (fun i=>l.getD i 0)
theorem SV.below{w w':World}{v:Value}{l:List Int}(h:SV w v l)(hb:Below w.heap.size w w'):SV w' v l:=by
 obtain⟨A,p,rfl,hi⟩:=h
 exact⟨A,p,rfl,(hi.below hb).more hb.size⟩
theorem SV.past{w w':World}{v:Value}{l:List Int}(h:SV w v l)(hb:Past w w'):SV w' v l:=by
 obtain⟨τ,hb⟩:=hb
 exact SV.below (w:=bZ.on w τ) h hb
theorem SV.own{w:World}{base:Nat}{v:Value}{l:List Int}(h:w.ownsRow base 3 1 v l.length (l.map (int i64))):SV w v l:=by
 obtain⟨A,c,rfl⟩:=fZ h
 exact⟨A,c,rfl,eG h⟩
section
variable(G M C:Nat)(w:World)(h:(Tb 1 G M C).At w w.heap.size)
include h
theorem ky:CallsIn FF 0 prog 11 #[(Tb 1 G M C).val] w fun e w'=>e=.returned (.tuple #[int i64 4,int i64 0])∧Below w.heap.size w w':=by
 have:=gG (Tb 1 G M C) w h (ko 1 zD G M C) (Nat.le_refl 2) (fC 1 G M C) (by rw[lG];decide)
 rw[lG] at this
 exact this
theorem lP:CallsIn FF 0 prog 19 #[(Tb 1 G M C).val,int i64 0,int i64 10] w fun e w'=>∃v,e=.returned (.tuple #[v,int i64 0])∧SV w' v [4,5]∧Below w.heap.size w w':=by
 refine(yU (Tb 1 G M C) 0 10 w h (ko 1 zD G M C) (Nat.le_refl 2) (fC 1 G M C) (by rw[lG];decide) (by show 0<2;omega) (by show(10:Int)≤10;omega) (Wj G M C) (fun x hx=>List.all_eq_true.1 (Wm G M C) x hx)).mono ?_
 rintro e w' ⟨v,ss,rfl,hp,hown,hb⟩
 have hp':ss.Perm [4,5]:=by
  have hp2:ss.Perm (intKeys (mapD (fun h=>stk (Tb 1 G M C) h 10 4 0) (aB (Tb 1 G M C) (ak (Tb 1 G M C))))):=hp
  rwa[Wi] at hp2
 rw[m9 hp',hp'.length_eq] at hown
 exact⟨v,rfl,SV.own hown,hb⟩
theorem Bx:CallsIn FF 0 prog 20 #[(Tb 1 G M C).val,int i64 3] w fun e w'=>∃v,e=.returned (.tuple #[v,int i64 0])∧SV w' v [0]∧Below w.heap.size w w':=by
 refine(BJ (Tb 1 G M C) 3 w h (ko 1 zD G M C) (Nat.le_refl 2) (fC 1 G M C) (by rw[lG];decide) (by show 3<4;omega) (az G M C) (fun x hx=>List.all_eq_true.1 (aE G M C) x hx)).mono ?_
 rintro e w' ⟨v,ss,rfl,hp,hown,hb⟩
 have hp':ss.Perm [0]:=by
  have hp2:ss.Perm (intKeys (mapD (fun h=>h.real 3) (aB (Tb 1 G M C) (ak (Tb 1 G M C))))):=hp
  rwa[ax] at hp2
 rw[Cf hp',hp'.length_eq] at hown
 exact⟨v,rfl,SV.own hown,hb⟩
theorem TH:CallsIn FF 0 prog 21 #[(Tb 1 G M C).val,int i64 3] w fun e w'=>e=.returned (.tuple #[int i64 1,int i64 0])∧Below w.heap.size w w':=by
 have:=vO (Tb 1 G M C) 3 w h (ko 1 zD G M C) (Nat.le_refl 2) (fC 1 G M C) (by rw[lG];decide) (by show 3<4;omega) rfl
 rw[lG,Dd] at this
 exact this
theorem TF:CallsIn FF 0 prog 21 #[(Tb 1 G M C).val,int i64 0] w fun e w'=>e=.returned (.tuple #[int i64 2,int i64 0])∧Below w.heap.size w w':=by
 have:=vO (Tb 1 G M C) 0 w h (ko 1 zD G M C) (Nat.le_refl 2) (fC 1 G M C) (by rw[lG];decide) (by show 0<4;omega) rfl
 rw[lG,CR] at this
 exact this
theorem ma:CallsIn FF 0 prog 22 #[(Tb 1 G M C).val,int i64 1,int i64 1,int i64 10] w fun e w'=>e=.returned (.tuple #[.agg #[int i64 0,int i64 1],int i64 0])∧Below w.heap.size w w':=by
 have:=L9 (Tb 1 G M C) 1 1 10 w h (ko 1 zD G M C) (Nat.le_refl 2) (fC 1 G M C) (by show 1<2;omega) (by show nG 1 10 1 10=true;decide)
 rw[show bK (fun h=>kN (Tb 1 G M C) h 1 1 10 (Tb 1 G M C).nm) _=(0,1,true) from aq G M C] at this
 exact this
theorem bu:CallsIn FF 0 prog 23 #[(Tb 1 G M C).val,int i64 10] w fun e w'=>e=.returned (.tuple #[.agg #[int i64 30,int i64 35],int i64 0])∧Below w.heap.size w w':=by
 have:=ow (Tb 1 G M C) 10 w h (ko 1 zD G M C) (Nat.le_refl 2) (fC 1 G M C) (by show(10:Int)≤10;omega)
 rw[show bK (fun h=>eF (Tb 1 G M C) (stk (Tb 1 G M C) h (10:Nat) (Tb 1 G M C).nm) (Tb 1 G M C).ng) _=(30,35,true) from Wo G M C] at this
 exact this
theorem Yz:CallsIn FF 0 prog 24 #[(Tb 1 G M C).val,int i64 0,int i64 2] w fun e w'=>e=.returned (.tuple #[.agg #[int i64 2,int i64 2],int i64 0])∧Below w.heap.size w w':=by
 have:=Jc (Tb 1 G M C) 0 w h (ko 1 zD G M C) (Nat.le_refl 2) (fC 1 G M C) (by show 0<2;omega)
 rw[show bK (fun h=>IntKind.i64.wrap ((stk (Tb 1 G M C) h (Tb 1 G M C).dY (Tb 1 G M C).nm 0).tdiv 2)) _=(2,2,true) from Wh G M C] at this
 exact this
theorem tS(rA:Option Addr)(rc:Nat)(hr:Ints w w.heap.size rA 2 rates):CallsIn FF 0 prog 25 #[(Tb 1 G M C).val,.slice rA 2 rc,int i64 4] w fun e w'=>∃v,e=.returned (.tuple #[v,int i64 40,int i64 0])∧SV w' v [1,1]∧Below w.heap.size w w':=by
 refine(QB (Tb 1 G M C) rA 2 rc rates 4 w h (ko 1 zD G M C) (Nat.le_refl 2) (fC 1 G M C) hr rfl (a7 G M C) (fun k hk=>by
  have hk:k<2:=hk
  rcases(show k=0∨k=1 by omega) with rfl|rfl <;> exact of_decide_eq_true zk) (fun i hi=>by
  rcases(show i=0∨i=1 by omega) with rfl|rfl <;> decide) zD).mono ?_
 rintro e w' ⟨v,rfl,hown,hb⟩
 rw[show xH (Tb 1 G M C) rates 4 (Tb 1 G M C).ng=40 from an G M C]
 rw[show xE (Tb 1 G M C) rates 4 (Tb 1 G M C).ng=[1,1] from ai G M C] at hown
 exact⟨v,rfl,SV.own hown,hb⟩
theorem XE:CallsIn FF 0 prog 26 #[(Tb 1 G M C).val] w fun e w'=>∃v,e=.returned (.tuple #[v,int i64 0])∧SV w' v [3]∧Below w.heap.size w w':=by
 refine(Jb (Tb 1 G M C) 8 w h (ko 1 zD G M C) (Nat.le_refl 2) (fC 1 G M C) (ox G M C) zD).mono ?_
 rintro e w' ⟨v,rfl,hown,hb⟩
 rw[show aM 8 10=[3] from zD] at hown
 exact⟨v,rfl,SV.own hown,hb⟩
theorem mN(A1 A2 A3:Option Addr)(p1 p2 p3:Nat)(h1:Ints w w.heap.size A1 2 (fun i=>[3,5].getD i 0))(h2:Ints w w.heap.size A2 4 (fun i=>[4,2,0,10].getD i 0))(h3:Ints w w.heap.size A3 1 (fun i=>[3].getD i 0)):
 CallsIn FF 0 prog 18 #[(Tb 1 G M C).val,.slice A1 2 p1,.slice A2 4 p2,.slice A3 1 p3] w fun e w'=>∃v v',e=.returned (.tuple #[v,v',int i64 0])∧SV w' v [5,5]∧SV w' v' [3,5]∧Below w.heap.size w w':=by
 have hp:wX (Tb 1 G M C) [3,5] [4,2,0,10] [3]:=by
  refine⟨rfl,rfl,zD,zD,zD,fun x hx=>?_⟩
  simp at hx
  subst hx
  exact⟨3,rfl,by show 3<4;omega,rfl⟩
 refine(mS (Tb 1 G M C) [3,5] [4,2,0,10] [3] w (ko 1 zD G M C) (Nat.le_refl 2) hp h A1 A2 A3 p1 p2 p3 h1 h2 h3).mono ?_
 rintro e w' ⟨A,p,A',p',rfl,hi,hi',hb⟩
 have l0:EH (Tb 1 G M C) [3,5] [4,2,0,10] [3] 0=5:=zk
 have l1:EH (Tb 1 G M C) [3,5] [4,2,0,10] [3] 1=5:=zk
 have m0:Nv (Tb 1 G M C) [3,5] [4,2,0,10] [3] 0=3:=zk
 have m1:Nv (Tb 1 G M C) [3,5] [4,2,0,10] [3] 1=5:=zk
 have ub:∀ {A:Option Addr} {f f':Nat→Int},Ints w' w'.heap.size A 2 f→(∀i,i<2→f i=f' i)→Ints w' w'.heap.size A 2 f':=fun hi he hn=>by
  obtain⟨ad,e,h1,h2⟩:=hi hn
  exact⟨ad,e,h1,fun i j hi hj=>by rw[h2 i j hi hj];show some (int i64 (_:Int))=some (int i64 _);rw[he i hi]⟩
 refine⟨_,_,rfl,⟨A,p,rfl,ub hi fun i hi=>?_⟩,⟨A',p',rfl,ub hi' fun i hi=>?_⟩,hb⟩
 ·rcases(show i=0∨i=1 by omega) with rfl|rfl
  ·exact l0
  ·exact l1
 ·rcases(show i=0∨i=1 by omega) with rfl|rfl
  ·exact m0
  ·exact m1
end
end
section
open Go Go.Conc Go.ConcN Go.bZ Go.Conc.Lib Go.aP Go.RowKit
open Go.Sort (grow)
attribute [local go_sem] Oper.semAt_some
variable[Inhabited aT]
theorem iD(m:Int)(G M C:Nat):(Tb m G M C).val=.agg #[int i64 10,int i64 m,.slice (some ⟨G,0,none⟩) 2 2,.slice (some ⟨M,0,none⟩) 4 4,.slice (some ⟨C,0,none⟩) 2 2]:=rfl
structure Sk(w W:World)(B G M C:Nat):Prop where
 at_:(Tb 1 G M C).At W W.heap.size
 tb:WY W G M C
 box:Whole W B 26 #[int i64 10,int i64 1,.slice (some ⟨G,0,none⟩) 2 2,.slice (some ⟨M,0,none⟩) 4 4,.slice (some ⟨C,0,none⟩) 2 2]
 past:Below w.heap.size w W
theorem Sk.below{w W W':World}{B G M C:Nat}(h:Sk w W B G M C)(hb:Below W.heap.size W W'):Sk w W' B G M C:=
 ⟨h.at_.up hb,h.tb.of (fun b hl=>hb.block b hl),h.box.below hb h.box.lt,Below.next h.past hb⟩
section
variable{w:World}{B:Nat}{t:TypeId}{a b c d:Int}
theorem wM(h:Whole w B t #[int i64 a]):Ints w w.heap.size (some ⟨B,0,none⟩) 1 (fun i=>[a].getD i 0):=bT h fun i j hi hj=>by
 obtain rfl:i=0:=zo
 obtain rfl:j=0:=zo
 rfl
theorem sK(h:Whole w B t #[int i64 a,int i64 b]):Ints w w.heap.size (some ⟨B,0,none⟩) 2 (fun i=>[a,b].getD i 0):=bT h fun i j hi hj=>by
 obtain rfl:j=0:=zo
 rcases(show i=0∨i=1 by omega) with rfl|rfl <;> rfl
theorem Yw(h:Whole w B t #[int i64 a,int i64 b,int i64 c,int i64 d]):Ints w w.heap.size (some ⟨B,0,none⟩) 4 (fun i=>[a,b,c,d].getD i 0):=bT h fun i j hi hj=>by
 obtain rfl:j=0:=zo
 rcases(show i=0∨i=1∨i=2∨i=3 by omega) with rfl|rfl|rfl|rfl <;> rfl
theorem KX(h:Whole w B t #[int i64 2,int i64 3]):Ints w w.heap.size (some ⟨B,0,none⟩) 2 rates:=bT h fun i j hi hj=>by
 obtain rfl:j=0:=zo
 rcases(show i=0∨i=1 by omega) with rfl|rfl <;> rfl
end
theorem SV.set1{W:World}{v x:Value}{l:List Int}{B:Nat}{t:TypeId}{cs:Array Value}(h:SV W v l)(hB:Whole W B t cs)(hne:∀o,∃i,i<l.length∧cs[o+i]?≠some (int i64 (l.getD i 0))):SV (W.setCell ⟨B,1,none⟩ x) v l:=by
 obtain⟨A,p,rfl,hi⟩:=h
 refine⟨A,p,rfl,fun hn=>?_⟩
 obtain⟨ad,rfl,hlt,hc⟩:=hi hn
 have hs:(W.setCell ⟨B,1,none⟩ x).heap.size=W.heap.size:=by simp[World.setCell]
 have hb:ad.block≠B:=fun e=>by
  obtain⟨blk,off,spot⟩:=ad
  simp only at e
  subst e
  obtain⟨i,hil,hx⟩:=hne off
  have h1:=hc i 0 hil zD
  rw[Nat.mul_one,Nat.add_zero] at h1
  cases spot with
  | none=>
    have h2:(⟨blk,off,none⟩:Addr).add i=⟨blk,off+i,none⟩:=by unfold Addr.add;split <;> simp_all
    rw[h2,hB.cell] at h1
    exact hx h1
  | some s=>
    unfold Whole at hB
    have h2:=hc 0 0 hn zD
    rw[Nat.mul_one,Nat.add_zero] at h2
    have h3:(⟨blk,off,some s⟩:Addr).add 0=⟨blk,off,some s⟩:=by unfold Addr.add;simp
    rw[h3] at h2
    unfold World.cell? at h2
    simp only[hB] at h2
    simp at h2
 refine⟨ad,rfl,by rw[hs];exact hlt,fun i j hi hj=>?_⟩
 refine Eq.trans (World.cell?_of_block (Below.heap_setCell _ _ _ _ ?_)) (hc i j hi hj)
 rw[aH]
 exact hb
def nN(w:World)(x:Value)(w':World):Prop:=x=.bool true∧Past w w'
theorem gP(w:World):iY 6 #[] w (nN w):=by
 have HE:=hid KC
 refine kK func6 rfl zs ?_
 simp only[ntmps6,List.size_toArray,List.length_cons,List.length_nil,Nat.reduceAdd,Nat.reduceSub,Array.replicate_succ,Array.replicate_zero,List.push_toArray,List.append_toArray,List.nil_append,List.cons_append]
 repeat refine aj.seq ?_
 refine aj.item ?_
 gi_wp2
 repeat refine aj.seq ?_
 refine aj.item ?_
 gi_wp2_with (gi_at_call 17;refine(HE.out w).mono ?_;rintro e w1 ⟨G,M,C,rfl,hA1,hb1,hT1⟩;rw[iD])
 obtain⟨W2,hW2⟩:∃W,W=w1.alloc (.cells #[int i64 10,int i64 1,.slice (some ⟨G,0,none⟩) 2 2,.slice (some ⟨M,0,none⟩) 4 4,.slice (some ⟨C,0,none⟩) 2 2] 26):=zE
 have b12:Below w1.heap.size w1 W2:=by rw[hW2];exact bw
 have K2:Hid (Sk w W2 w1.heap.size G M C):=hid ⟨hA1.up b12,hT1.of (fun b hl=>b12.block b hl),by rw[hW2];exact Whole.new _ _ _,Below.next hb1 b12⟩
 have HG:Hid (G<w1.heap.size∧M<w1.heap.size∧C<w1.heap.size):=hid ⟨hT1.1.lt,hT1.2.1.lt,hT1.2.2.lt⟩
 have HB:Hid (w.heap.size≤w1.heap.size):=hid hb1.size
 rw[← hW2]
 obtain⟨B,hB⟩:∃B,B=w1.heap.size:=zE
 rw[← hB] at K2 HG HB⊢
 clear hW2 b12 hA1 hb1 hT1 hB
 have c0:W2.cell? ⟨B,0,none⟩=some (int i64 10):=K2.out.box.cell 0
 have c1:W2.cell? ⟨B,1,none⟩=some (int i64 1):=K2.out.box.cell 1
 have c2:W2.cell? ⟨B,2,none⟩=some (.slice (some ⟨G,0,none⟩) 2 2):=K2.out.box.cell 2
 have c3:W2.cell? ⟨B,3,none⟩=some (.slice (some ⟨M,0,none⟩) 4 4):=K2.out.box.cell 3
 have c4:W2.cell? ⟨B,4,none⟩=some (.slice (some ⟨C,0,none⟩) 2 2):=K2.out.box.cell 4
 repeat refine aj.seq ?_
 refine aj.item ?_
 obtain⟨Wa,hWa⟩:∃Wa,Wa=((W2.alloc (.cells #[int i64 3,int i64 5] 3)).alloc (.cells #[int i64 4,int i64 2,int i64 0,int i64 10] 3)).alloc (.cells #[int i64 3] 3):=zE
 have ba:Below W2.heap.size W2 Wa:=by rw[hWa];exact bw
 have a1:Whole Wa W2.heap.size 3 #[int i64 3,int i64 5]:=by rw[hWa];exact((Whole.new W2 _ _).alloc _).alloc _
 have a2:Whole Wa (W2.heap.size+1) 3 #[int i64 4,int i64 2,int i64 0,int i64 10]:=by rw[hWa];exact(aL zs).alloc _
 have a3:Whole Wa (W2.heap.size+1+1) 3 #[int i64 3]:=by rw[hWa];exact aL zs
 have Mm:=hid (mN G M C Wa (K2.out.at_.up ba) (some ⟨W2.heap.size,0,none⟩) (some ⟨W2.heap.size+1,0,none⟩) (some ⟨W2.heap.size+1+1,0,none⟩) 2 4 1 (sK a1) (Yw a2) (wM a3))
 rw[iD] at Mm
 have tj:=hid hWa
 have tn:=hid ba
 clear hWa ba a1 a2 a3
 gi_wp2_with (gi_at_call 18;rw[← tj.out];refine Mm.out.mono ?_;rintro e W3 ⟨vx,vy,rfl,sx,sy,hb3⟩)
 have Rw:Below W2.heap.size W2 W3:=Below.next tn.out hb3
 have K3:=hid (K2.out.below Rw)
 have X3:=hid sx
 have Y3:=hid sy
 clear sx sy hb3 Rw K2 Mm tj tn
 clear c0 c1 c2 c3 c4
 have c0:W3.cell? ⟨B,0,none⟩=some (int i64 10):=K3.out.box.cell 0
 have c1:W3.cell? ⟨B,1,none⟩=some (int i64 1):=K3.out.box.cell 1
 have c2:W3.cell? ⟨B,2,none⟩=some (.slice (some ⟨G,0,none⟩) 2 2):=K3.out.box.cell 2
 have c3:W3.cell? ⟨B,3,none⟩=some (.slice (some ⟨M,0,none⟩) 4 4):=K3.out.box.cell 3
 have c4:W3.cell? ⟨B,4,none⟩=some (.slice (some ⟨C,0,none⟩) 2 2):=K3.out.box.cell 4
 repeat refine aj.seq ?_
 refine aj.item ?_
 have HC:=hid (ky G M C W3 K3.out.at_)
 rw[iD] at HC
 gi_wp2_with (gi_at_call 11;refine HC.out.mono ?_;rintro e Wn ⟨rfl,hbn⟩)
 obtain⟨W4,hW⟩:∃W,W=Wn:=zE
 subst hW
 have dF:=hbn
 have K4:=hid (K3.out.below dF)
 have X4:=hid (X3.out.below dF)
 have Y4:=hid (Y3.out.below dF)
 clear dF HC K3 X3 Y3
 clear c0 c1 c2 c3 c4
 have c0:W4.cell? ⟨B,0,none⟩=some (int i64 10):=K4.out.box.cell 0
 have c1:W4.cell? ⟨B,1,none⟩=some (int i64 1):=K4.out.box.cell 1
 have c2:W4.cell? ⟨B,2,none⟩=some (.slice (some ⟨G,0,none⟩) 2 2):=K4.out.box.cell 2
 have c3:W4.cell? ⟨B,3,none⟩=some (.slice (some ⟨M,0,none⟩) 4 4):=K4.out.box.cell 3
 have c4:W4.cell? ⟨B,4,none⟩=some (.slice (some ⟨C,0,none⟩) 2 2):=K4.out.box.cell 4
 repeat refine aj.seq ?_
 refine aj.item ?_
 have HC:=hid (lP G M C W4 K4.out.at_)
 rw[iD] at HC
 gi_wp2_with (gi_at_call 19;refine HC.out.mono ?_;rintro e Wn ⟨vu,rfl,su,hbn⟩)
 obtain⟨W5,hW⟩:∃W,W=Wn:=zE
 subst hW
 have dF:=hbn
 have K5:=hid (K4.out.below dF)
 have X5:=hid (X4.out.below dF)
 have Y5:=hid (Y4.out.below dF)
 have U5:=hid su
 clear dF HC K4 X4 Y4 su
 clear c0 c1 c2 c3 c4
 have c0:W5.cell? ⟨B,0,none⟩=some (int i64 10):=K5.out.box.cell 0
 have c1:W5.cell? ⟨B,1,none⟩=some (int i64 1):=K5.out.box.cell 1
 have c2:W5.cell? ⟨B,2,none⟩=some (.slice (some ⟨G,0,none⟩) 2 2):=K5.out.box.cell 2
 have c3:W5.cell? ⟨B,3,none⟩=some (.slice (some ⟨M,0,none⟩) 4 4):=K5.out.box.cell 3
 have c4:W5.cell? ⟨B,4,none⟩=some (.slice (some ⟨C,0,none⟩) 2 2):=K5.out.box.cell 4
 repeat refine aj.seq ?_
 refine aj.item ?_
 have HC:=hid (Bx G M C W5 K5.out.at_)
 rw[iD] at HC
 gi_wp2_with (gi_at_call 20;refine HC.out.mono ?_;rintro e Wn ⟨vv,rfl,sv,hbn⟩)
 obtain⟨W6,hW⟩:∃W,W=Wn:=zE
 subst hW
 have dF:=hbn
 have K6:=hid (K5.out.below dF)
 have X6:=hid (X5.out.below dF)
 have Y6:=hid (Y5.out.below dF)
 have U6:=hid (U5.out.below dF)
 have V6:=hid sv
 clear dF HC K5 X5 Y5 U5 sv
 clear c0 c1 c2 c3 c4
 have c0:W6.cell? ⟨B,0,none⟩=some (int i64 10):=K6.out.box.cell 0
 have c1:W6.cell? ⟨B,1,none⟩=some (int i64 1):=K6.out.box.cell 1
 have c2:W6.cell? ⟨B,2,none⟩=some (.slice (some ⟨G,0,none⟩) 2 2):=K6.out.box.cell 2
 have c3:W6.cell? ⟨B,3,none⟩=some (.slice (some ⟨M,0,none⟩) 4 4):=K6.out.box.cell 3
 have c4:W6.cell? ⟨B,4,none⟩=some (.slice (some ⟨C,0,none⟩) 2 2):=K6.out.box.cell 4
 repeat refine aj.seq ?_
 refine aj.item ?_
 have HC:=hid (TH G M C W6 K6.out.at_)
 rw[iD] at HC
 gi_wp2_with (gi_at_call 21;refine HC.out.mono ?_;rintro e Wn ⟨rfl,hbn⟩)
 obtain⟨W7,hW⟩:∃W,W=Wn:=zE
 subst hW
 have dF:=hbn
 have K7:=hid (K6.out.below dF)
 have X7:=hid (X6.out.below dF)
 have Y7:=hid (Y6.out.below dF)
 have U7:=hid (U6.out.below dF)
 have V7:=hid (V6.out.below dF)
 clear dF HC K6 X6 Y6 U6 V6
 clear c0 c1 c2 c3 c4
 have c0:W7.cell? ⟨B,0,none⟩=some (int i64 10):=K7.out.box.cell 0
 have c1:W7.cell? ⟨B,1,none⟩=some (int i64 1):=K7.out.box.cell 1
 have c2:W7.cell? ⟨B,2,none⟩=some (.slice (some ⟨G,0,none⟩) 2 2):=K7.out.box.cell 2
 have c3:W7.cell? ⟨B,3,none⟩=some (.slice (some ⟨M,0,none⟩) 4 4):=K7.out.box.cell 3
 have c4:W7.cell? ⟨B,4,none⟩=some (.slice (some ⟨C,0,none⟩) 2 2):=K7.out.box.cell 4
 repeat refine aj.seq ?_
 refine aj.item ?_
 have HC:=hid (TF G M C W7 K7.out.at_)
 rw[iD] at HC
 gi_wp2_with (gi_at_call 21;refine HC.out.mono ?_;rintro e Wn ⟨rfl,hbn⟩)
 obtain⟨W8,hW⟩:∃W,W=Wn:=zE
 subst hW
 have dF:=hbn
 have K8:=hid (K7.out.below dF)
 have X8:=hid (X7.out.below dF)
 have Y8:=hid (Y7.out.below dF)
 have U8:=hid (U7.out.below dF)
 have V8:=hid (V7.out.below dF)
 clear dF HC K7 X7 Y7 U7 V7
 clear c0 c1 c2 c3 c4
 have c0:W8.cell? ⟨B,0,none⟩=some (int i64 10):=K8.out.box.cell 0
 have c1:W8.cell? ⟨B,1,none⟩=some (int i64 1):=K8.out.box.cell 1
 have c2:W8.cell? ⟨B,2,none⟩=some (.slice (some ⟨G,0,none⟩) 2 2):=K8.out.box.cell 2
 have c3:W8.cell? ⟨B,3,none⟩=some (.slice (some ⟨M,0,none⟩) 4 4):=K8.out.box.cell 3
 have c4:W8.cell? ⟨B,4,none⟩=some (.slice (some ⟨C,0,none⟩) 2 2):=K8.out.box.cell 4
 repeat refine aj.seq ?_
 refine aj.item ?_
 have HC:=hid (ma G M C W8 K8.out.at_)
 rw[iD] at HC
 gi_wp2_with (gi_at_call 22;refine HC.out.mono ?_;rintro e Wn ⟨rfl,hbn⟩)
 obtain⟨W9,hW⟩:∃W,W=Wn.alloc (.cells #[int i64 0,int i64 1] 28):=zE
 have dF:Below W8.heap.size W8 W9:=by rw[hW];exact Below.al hbn _
 have qA:Hid (Whole W9 Wn.heap.size 28 #[int i64 0,int i64 1]):=hid (by rw[hW];exact Whole.new _ _ _)
 obtain⟨BA,oP⟩:∃B,B=Wn.heap.size:=zE
 rw[← hW,← oP]
 rw[← oP] at qA
 have A9:=qA
 clear hW hbn oP qA
 have K9:=hid (K8.out.below dF)
 have X9:=hid (X8.out.below dF)
 have Y9:=hid (Y8.out.below dF)
 have U9:=hid (U8.out.below dF)
 have V9:=hid (V8.out.below dF)
 clear dF HC K8 X8 Y8 U8 V8
 clear c0 c1 c2 c3 c4
 have c0:W9.cell? ⟨B,0,none⟩=some (int i64 10):=K9.out.box.cell 0
 have c1:W9.cell? ⟨B,1,none⟩=some (int i64 1):=K9.out.box.cell 1
 have c2:W9.cell? ⟨B,2,none⟩=some (.slice (some ⟨G,0,none⟩) 2 2):=K9.out.box.cell 2
 have c3:W9.cell? ⟨B,3,none⟩=some (.slice (some ⟨M,0,none⟩) 4 4):=K9.out.box.cell 3
 have c4:W9.cell? ⟨B,4,none⟩=some (.slice (some ⟨C,0,none⟩) 2 2):=K9.out.box.cell 4
 repeat refine aj.seq ?_
 refine aj.item ?_
 have HC:=hid (bu G M C W9 K9.out.at_)
 rw[iD] at HC
 gi_wp2_with (gi_at_call 23;refine HC.out.mono ?_;rintro e Wn ⟨rfl,hbn⟩)
 obtain⟨WZ,hW⟩:∃W,W=Wn.alloc (.cells #[int i64 30,int i64 35] 28):=zE
 have dF:Below W9.heap.size W9 WZ:=by rw[hW];exact Below.al hbn _
 have XN:Hid (Whole WZ Wn.heap.size 28 #[int i64 30,int i64 35]):=hid (by rw[hW];exact Whole.new _ _ _)
 obtain⟨BWt,kh⟩:∃B,B=Wn.heap.size:=zE
 rw[← hW,← kh]
 rw[← kh] at XN
 have gR:=XN
 clear hW hbn kh XN
 have cr:=hid (K9.out.below dF)
 have X10:=hid (X9.out.below dF)
 have Y10:=hid (Y9.out.below dF)
 have U10:=hid (U9.out.below dF)
 have V10:=hid (V9.out.below dF)
 have H':=hid (A9.out.below dF A9.out.lt)
 clear dF HC K9 X9 Y9 U9 V9 A9
 clear c0 c1 c2 c3 c4
 have c0:WZ.cell? ⟨B,0,none⟩=some (int i64 10):=cr.out.box.cell 0
 have c1:WZ.cell? ⟨B,1,none⟩=some (int i64 1):=cr.out.box.cell 1
 have c2:WZ.cell? ⟨B,2,none⟩=some (.slice (some ⟨G,0,none⟩) 2 2):=cr.out.box.cell 2
 have c3:WZ.cell? ⟨B,3,none⟩=some (.slice (some ⟨M,0,none⟩) 4 4):=cr.out.box.cell 3
 have c4:WZ.cell? ⟨B,4,none⟩=some (.slice (some ⟨C,0,none⟩) 2 2):=cr.out.box.cell 4
 repeat refine aj.seq ?_
 refine aj.item ?_
 have HC:=hid (Yz G M C WZ cr.out.at_)
 rw[iD] at HC
 gi_wp2_with (gi_at_call 24;refine HC.out.mono ?_;rintro e Wn ⟨rfl,hbn⟩)
 obtain⟨Ga,hW⟩:∃W,W=Wn.alloc (.cells #[int i64 2,int i64 2] 28):=zE
 have dF:Below WZ.heap.size WZ Ga:=by rw[hW];exact Below.al hbn _
 have qD:Hid (Whole Ga Wn.heap.size 28 #[int i64 2,int i64 2]):=hid (by rw[hW];exact Whole.new _ _ _)
 obtain⟨BD,P1⟩:∃B,B=Wn.heap.size:=zE
 rw[← hW,← P1]
 rw[← P1] at qD
 have I0:=qD
 clear hW hbn P1 qD
 have cv:=hid (cr.out.below dF)
 have JV:=hid (X10.out.below dF)
 have Fs:=hid (Y10.out.below dF)
 have U11:=hid (U10.out.below dF)
 have V11:=hid (V10.out.below dF)
 have Is:=hid (H'.out.below dF H'.out.lt)
 have gS:=hid (gR.out.below dF gR.out.lt)
 clear dF HC cr X10 Y10 U10 V10 H' gR
 clear c0 c1 c2 c3 c4
 have c0:Ga.cell? ⟨B,0,none⟩=some (int i64 10):=cv.out.box.cell 0
 have c1:Ga.cell? ⟨B,1,none⟩=some (int i64 1):=cv.out.box.cell 1
 have c2:Ga.cell? ⟨B,2,none⟩=some (.slice (some ⟨G,0,none⟩) 2 2):=cv.out.box.cell 2
 have c3:Ga.cell? ⟨B,3,none⟩=some (.slice (some ⟨M,0,none⟩) 4 4):=cv.out.box.cell 3
 have c4:Ga.cell? ⟨B,4,none⟩=some (.slice (some ⟨C,0,none⟩) 2 2):=cv.out.box.cell 4
 repeat refine aj.seq ?_
 refine aj.item ?_
 obtain⟨Wa,hWa⟩:∃Wa,Wa=Ga.alloc (.cells #[int i64 2,int i64 3] 3):=zE
 have ba:Below Ga.heap.size Ga Wa:=by rw[hWa];exact bw
 have a1:Whole Wa Ga.heap.size 3 #[int i64 2,int i64 3]:=by rw[hWa];exact Whole.new _ _ _
 have HC:=hid (tS G M C Wa (cv.out.at_.up ba) (some ⟨Ga.heap.size,0,none⟩) 2 (KX a1))
 rw[iD] at HC
 have tj:=hid hWa
 have tn:=hid ba
 clear hWa ba a1
 gi_wp2_with (gi_at_call 25;rw[← tj.out];refine HC.out.mono ?_;rintro e Xa ⟨vp,rfl,sp,KM⟩)
 have dF:Below Ga.heap.size Ga Xa:=Below.next tn.out KM
 have cw:=hid (cv.out.below dF)
 have xg:=hid (JV.out.below dF)
 have Y12:=hid (Fs.out.below dF)
 have U12:=hid (U11.out.below dF)
 have V12:=hid (V11.out.below dF)
 have It:=hid (Is.out.below dF Is.out.lt)
 have ia:=hid (gS.out.below dF gS.out.lt)
 have Jn:=hid (I0.out.below dF I0.out.lt)
 have P12:=hid sp
 clear dF KM sp HC tj tn cv JV Fs U11 V11 Is gS I0
 clear c0 c1 c2 c3 c4
 have c0:Xa.cell? ⟨B,0,none⟩=some (int i64 10):=cw.out.box.cell 0
 have c1:Xa.cell? ⟨B,1,none⟩=some (int i64 1):=cw.out.box.cell 1
 have c2:Xa.cell? ⟨B,2,none⟩=some (.slice (some ⟨G,0,none⟩) 2 2):=cw.out.box.cell 2
 have c3:Xa.cell? ⟨B,3,none⟩=some (.slice (some ⟨M,0,none⟩) 4 4):=cw.out.box.cell 3
 have c4:Xa.cell? ⟨B,4,none⟩=some (.slice (some ⟨C,0,none⟩) 2 2):=cw.out.box.cell 4
 repeat refine aj.seq ?_
 refine aj.item ?_
 have HC:=hid (XE G M C Xa cw.out.at_)
 rw[iD] at HC
 gi_wp2_with (gi_at_call 26;refine HC.out.mono ?_;rintro e Wn ⟨ve,rfl,se,hbn⟩)
 obtain⟨qi,hW⟩:∃W,W=Wn:=zE
 subst hW
 have dF:=hbn
 have cz:=hid (cw.out.below dF)
 have X13:=hid (xg.out.below dF)
 have Y13:=hid (Y12.out.below dF)
 have U13:=hid (U12.out.below dF)
 have tG:=hid (V12.out.below dF)
 have Iv:=hid (It.out.below dF It.out.lt)
 have ib:=hid (ia.out.below dF ia.out.lt)
 have JP:=hid (Jn.out.below dF Jn.out.lt)
 have P13:=hid (P12.out.below dF)
 have E13:=hid se
 clear dF HC cw xg Y12 U12 V12 It ia Jn P12 se
 clear c0 c1 c2 c3 c4
 have c0:qi.cell? ⟨B,0,none⟩=some (int i64 10):=cz.out.box.cell 0
 have c1:qi.cell? ⟨B,1,none⟩=some (int i64 1):=cz.out.box.cell 1
 have c2:qi.cell? ⟨B,2,none⟩=some (.slice (some ⟨G,0,none⟩) 2 2):=cz.out.box.cell 2
 have c3:qi.cell? ⟨B,3,none⟩=some (.slice (some ⟨M,0,none⟩) 4 4):=cz.out.box.cell 3
 have c4:qi.cell? ⟨B,4,none⟩=some (.slice (some ⟨C,0,none⟩) 2 2):=cz.out.box.cell 4
 repeat refine aj.seq ?_
 refine aj.item ?_
 have HC:=hid (QA G M C qi cz.out.at_)
 rw[iD] at HC
 gi_wp2_with (gi_at_call 27;refine HC.out.mono ?_;rintro e Wn ⟨rfl,hbn⟩)
 obtain⟨Xb,hW⟩:∃W,W=Wn:=zE
 subst hW
 have dF:=hbn
 have K14:=hid (cz.out.below dF)
 have X14:=hid (X13.out.below dF)
 have Y14:=hid (Y13.out.below dF)
 have U14:=hid (U13.out.below dF)
 have qf:=hid (tG.out.below dF)
 have IA:=hid (Iv.out.below dF Iv.out.lt)
 have ie:=hid (ib.out.below dF ib.out.lt)
 have JS:=hid (JP.out.below dF JP.out.lt)
 have P14:=hid (P13.out.below dF)
 have E14:=hid (E13.out.below dF)
 clear dF HC cz X13 Y13 U13 tG Iv ib JP P13 E13
 clear c0 c1 c2 c3 c4
 repeat refine aj.seq ?_
 refine aj.item ?_
 gi_wp2
 repeat refine aj.seq ?_
 refine aj.cond_false rfl ?_
 refine aj.skip ?_
 repeat refine aj.seq ?_
 refine aj.item ?_
 have qa0:∀d os,(grow (redrawn Xb d) os).cell? ⟨BA,0,none⟩=some (int i64 0):=cell_regrown (IA.out.cell 0)
 have qa1:∀d os,(grow (redrawn Xb d) os).cell? ⟨BA,1,none⟩=some (int i64 1):=cell_regrown (IA.out.cell 1)
 have qw0:∀d os,(grow (redrawn Xb d) os).cell? ⟨BWt,0,none⟩=some (int i64 30):=cell_regrown (ie.out.cell 0)
 have qw1:∀d os,(grow (redrawn Xb d) os).cell? ⟨BWt,1,none⟩=some (int i64 35):=cell_regrown (ie.out.cell 1)
 have qd0:∀d os,(grow (redrawn Xb d) os).cell? ⟨BD,0,none⟩=some (int i64 2):=cell_regrown (JS.out.cell 0)
 have qd1:∀d os,(grow (redrawn Xb d) os).cell? ⟨BD,1,none⟩=some (int i64 2):=cell_regrown (JS.out.cell 1)
 have cTo:∀ (a b:Int) d os,CallsIn FF 0 prog 28 #[int i64 a,int i64 b] (grow (redrawn Xb d) os) fun e w''=>e=.returned (.agg #[int i64 a,int i64 b])∧∃p:Regrown,w''=grow (redrawn Xb p.d) p.os:=fun a b d os=>CallsIn.regrown_of (DO a b _)
 gi_wp2
 refine wpIn_region_quiet_below rfl zk zk ?_
 repeat (quiet_step_in (exact cTo _ _ _ _))
 refine wpQuietIn_nil ?_
 rintro w' ⟨⟨dq,osq⟩,rfl⟩
 have dF:=below_regrown Xb dq osq
 have AA:=hid (K14.out.below dF)
 have Fo:=hid (X14.out.below dF)
 have Ft:=hid (Y14.out.below dF)
 have Fi:=hid (U14.out.below dF)
 have Fl:=hid (qf.out.below dF)
 have E7:=hid (P14.out.below dF)
 have D3:=hid (E14.out.below dF)
 clear dF K14 X14 Y14 U14 qf P14 E14 IA ie JS qa0 qa1 qw0 qw1 qd0 qd1 cTo
 simp only at AA Fo Ft Fi Fl E7 D3⊢
 generalize grow (redrawn Xb dq) osq=cE at AA Fo Ft Fi Fl E7 D3⊢
 have c0:cE.cell? ⟨B,0,none⟩=some (int i64 10):=AA.out.box.cell 0
 have c1:cE.cell? ⟨B,1,none⟩=some (int i64 1):=AA.out.box.cell 1
 have c2:cE.cell? ⟨B,2,none⟩=some (.slice (some ⟨G,0,none⟩) 2 2):=AA.out.box.cell 2
 have c3:cE.cell? ⟨B,3,none⟩=some (.slice (some ⟨M,0,none⟩) 4 4):=AA.out.box.cell 3
 have c4:cE.cell? ⟨B,4,none⟩=some (.slice (some ⟨C,0,none⟩) 2 2):=AA.out.box.cell 4
 have f1:=AA.out.box.thaw
 show aj _ _ _ _ _
 repeat refine aj.seq ?_
 refine aj.cond_false rfl ?_
 refine aj.skip ?_
 repeat refine aj.seq ?_
 refine aj.item ?_
 gi_wp2
 obtain⟨MH,uE⟩:∃W,W=cE.setCell ⟨B,1,none⟩ (int i64 0):=zE
 have yn:MH.heap.size=cE.heap.size:=by rw[uE];simp[World.setCell]
 have Ou:Whole MH B 26 #[int i64 10,int i64 0,.slice (some ⟨G,0,none⟩) 2 2,.slice (some ⟨M,0,none⟩) 4 4,.slice (some ⟨C,0,none⟩) 2 2]:=by rw[uE];exact AA.out.box.set 1 (int i64 0)
 have hne:∀ {q:Nat},q<B→q≠B:=fun h=>zo
 have uv:(Tb 0 G M C).At MH MH.heap.size:=by
  have hk:=AA.out.at_
  have no:∀ (q:Nat) (ad:Addr),some (⟨q,0,none⟩:Addr)=some ad→q<B→ad.block≠B:=fun q ad e hq=>by cases e;exact hne hq
  rw[yn,uE]
  exact⟨hk.g.bn (p:=⟨B,1,none⟩) (fun ad e _=>no G ad e HG.out.1) _,hk.m.bn (p:=⟨B,1,none⟩) (fun ad e _=>no M ad e HG.out.2.1) _,hk.c.bn (p:=⟨B,1,none⟩) (fun ad e _=>no C ad e HG.out.2.2) _,hk.ng,hk.nm,hk.nc,hk.name⟩
 have hT16:WY MH G M C:=by rw[uE];exact⟨AA.out.tb.1.other (hne HG.out.1) _,AA.out.tb.2.1.other (hne HG.out.2.1) _,AA.out.tb.2.2.other (hne HG.out.2.2) _⟩
 have hB0:B<cE.heap.size:=AA.out.box.lt
 have Be:∀o,∃i,i<([5,5]:List Int).length∧(#[int i64 10,int i64 1,.slice (some ⟨G,0,none⟩) 2 2,.slice (some ⟨M,0,none⟩) 4 4,.slice (some ⟨C,0,none⟩) 2 2]:Array Value)[o+i]?≠some (int i64 (([5,5]:List Int).getD i 0)):=fun o=>by
  rcases o with _|_|_|_|_|o <;> exact⟨0,zD,zs⟩
 have X16:=hid (by rw[uE];exact Fo.out.set1 AA.out.box Be:SV MH vx [5,5])
 clear Be
 have Bi:∀o,∃i,i<([3,5]:List Int).length∧(#[int i64 10,int i64 1,.slice (some ⟨G,0,none⟩) 2 2,.slice (some ⟨M,0,none⟩) 4 4,.slice (some ⟨C,0,none⟩) 2 2]:Array Value)[o+i]?≠some (int i64 (([3,5]:List Int).getD i 0)):=fun o=>by
  rcases o with _|_|_|_|_|o <;> exact⟨0,zD,zs⟩
 have Y16:=hid (by rw[uE];exact Ft.out.set1 AA.out.box Bi:SV MH vy [3,5])
 clear Bi
 have AW:∀o,∃i,i<([4,5]:List Int).length∧(#[int i64 10,int i64 1,.slice (some ⟨G,0,none⟩) 2 2,.slice (some ⟨M,0,none⟩) 4 4,.slice (some ⟨C,0,none⟩) 2 2]:Array Value)[o+i]?≠some (int i64 (([4,5]:List Int).getD i 0)):=fun o=>by
  rcases o with _|_|_|_|_|o <;> exact⟨0,zD,zs⟩
 have U16:=hid (by rw[uE];exact Fi.out.set1 AA.out.box AW:SV MH vu [4,5])
 clear AW
 have A6:∀o,∃i,i<([0]:List Int).length∧(#[int i64 10,int i64 1,.slice (some ⟨G,0,none⟩) 2 2,.slice (some ⟨M,0,none⟩) 4 4,.slice (some ⟨C,0,none⟩) 2 2]:Array Value)[o+i]?≠some (int i64 (([0]:List Int).getD i 0)):=fun o=>by
  rcases o with _|_|_|_|_|o <;> exact⟨0,zD,zs⟩
 have V16:=hid (by rw[uE];exact Fl.out.set1 AA.out.box A6:SV MH vv [0])
 clear A6
 have AT:∀o,∃i,i<([1,1]:List Int).length∧(#[int i64 10,int i64 1,.slice (some ⟨G,0,none⟩) 2 2,.slice (some ⟨M,0,none⟩) 4 4,.slice (some ⟨C,0,none⟩) 2 2]:Array Value)[o+i]?≠some (int i64 (([1,1]:List Int).getD i 0)):=fun o=>by
  rcases o with _|_|_|_|_|o
  ·exact⟨0,zD,zs⟩
  ·exact⟨1,zD,zs⟩
  all_goals exact⟨0,zD,zs⟩
 have P16:=hid (by rw[uE];exact E7.out.set1 AA.out.box AT:SV MH vp [1,1])
 clear AT
 have AS:∀o,∃i,i<([3]:List Int).length∧(#[int i64 10,int i64 1,.slice (some ⟨G,0,none⟩) 2 2,.slice (some ⟨M,0,none⟩) 4 4,.slice (some ⟨C,0,none⟩) 2 2]:Array Value)[o+i]?≠some (int i64 (([3]:List Int).getD i 0)):=fun o=>by
  rcases o with _|_|_|_|_|o <;> exact⟨0,zD,zs⟩
 have E16:=hid (by rw[uE];exact D3.out.set1 AA.out.box AS:SV MH ve [3])
 clear AS
 have te:Hid (Below w.heap.size w MH):=hid (by rw[uE];exact AA.out.past.setCell HB.out _)
 have sL:=hid (BI G M C MH hT16 uv)
 rw[iD] at sL
 have d0:=Ou.cell 0
 have d1:=Ou.cell 1
 have d2:=Ou.cell 2
 have d3:=Ou.cell 3
 have d4:=Ou.cell 4
 rw[← uE]
 clear uE yn hne uv hT16 hB0 AA f1 c0 c1 c2 c3 c4 Ou Fo Ft Fi Fl E7 D3
 repeat refine aj.seq ?_
 refine aj.eX 1 zD ?_
 simp only[List.take_succ_cons,List.take_zero]
 gi_wp2
 refine fU rfl rfl rfl (enters_of func29 zk rfl) (Rc:=RG MH) (args:=#[.agg #[int i64 10,int i64 0,.slice (some ⟨G,0,none⟩) 2 2,.slice (some ⟨M,0,none⟩) 4 4,.slice (some ⟨C,0,none⟩) 2 2]]) (by simp only[List.map_toArray,List.map_cons,List.map_nil];rfl) sL.out ?_
 rintro x w4 ⟨vc,rfl,hown,hpast⟩
 have C4:Hid (SV w4 vc [1]):=hid (SV.own hown)
 have L5:Hid (Past w w4):=hid (Past.of te.out hpast)
 have X4:=hid (X16.out.past hpast)
 have Y4:=hid (Y16.out.past hpast)
 have U4:=hid (U16.out.past hpast)
 have V4:=hid (V16.out.past hpast)
 have P4:=hid (P16.out.past hpast)
 have E4:=hid (E16.out.past hpast)
 clear hown hpast d0 d1 d2 d3 d4 sL te X16 Y16 U16 V16 P16 E16
 obtain⟨AX,pX,rfl,hX⟩:=X4.out
 obtain⟨AY,pY,rfl,hY⟩:=Y4.out
 obtain⟨AU,pU,rfl,hU⟩:=U4.out
 obtain⟨AV,pV,rfl,hV⟩:=V4.out
 obtain⟨AP,pP,rfl,hP⟩:=P4.out
 obtain⟨AE,pE,rfl,hE⟩:=E4.out
 obtain⟨AC,pC,rfl,hC⟩:=C4.out
 simp only[List.length_cons,List.length_nil,Nat.zero_add,Nat.reduceAdd] at hX hY hU hV hP hE hC
 obtain⟨Wc,hWc⟩:∃Wc,Wc=((((((((w4.alloc (.cells #[.slice AX 2 pX,.slice AY 2 pY,.slice AU 2 pU,.slice AV 1 pV,.slice AP 2 pP,.slice AE 1 pE,.slice AC 1 pC] 51)).alloc (.cells #[int i64 5,int i64 5] 3)).alloc (.cells #[int i64 3,int i64 5] 3)).alloc (.cells #[int i64 4,int i64 5] 3)).alloc (.cells #[int i64 0] 3)).alloc (.cells #[int i64 1,int i64 1] 3)).alloc (.cells #[int i64 3] 3)).alloc (.cells #[int i64 1] 3)).alloc (.cells #[.slice (some ⟨w4.heap.size+1,0,none⟩) 2 2,.slice (some ⟨w4.heap.size+1+1,0,none⟩) 2 2,.slice (some ⟨w4.heap.size+1+1+1,0,none⟩) 2 2,.slice (some ⟨w4.heap.size+1+1+1+1,0,none⟩) 1 1,.slice (some ⟨w4.heap.size+1+1+1+1+1,0,none⟩) 2 2,.slice (some ⟨w4.heap.size+1+1+1+1+1+1,0,none⟩) 1 1,.slice (some ⟨w4.heap.size+1+1+1+1+1+1+1,0,none⟩) 1 1] 51):=zE
 have bc:Below w4.heap.size w4 Wc:=by rw[hWc];exact bw
 have r1:Whole Wc w4.heap.size 51 #[.slice AX 2 pX,.slice AY 2 pY,.slice AU 2 pU,.slice AV 1 pV,.slice AP 2 pP,.slice AE 1 pE,.slice AC 1 pC]:=by rw[hWc];exact((((((((Whole.new w4 _ _).alloc _).alloc _).alloc _).alloc _).alloc _).alloc _).alloc _).alloc _
 have s1:Whole Wc (w4.heap.size+1) 3 #[int i64 5,int i64 5]:=by rw[hWc];exact(((((((aL zs).alloc _).alloc _).alloc _).alloc _).alloc _).alloc _).alloc _
 have s2:Whole Wc (w4.heap.size+1+1) 3 #[int i64 3,int i64 5]:=by rw[hWc];exact((((((aL zs).alloc _).alloc _).alloc _).alloc _).alloc _).alloc _
 have s3:Whole Wc (w4.heap.size+1+1+1) 3 #[int i64 4,int i64 5]:=by rw[hWc];exact(((((aL zs).alloc _).alloc _).alloc _).alloc _).alloc _
 have s4:Whole Wc (w4.heap.size+1+1+1+1) 3 #[int i64 0]:=by rw[hWc];exact((((aL zs).alloc _).alloc _).alloc _).alloc _
 have s5:Whole Wc (w4.heap.size+1+1+1+1+1) 3 #[int i64 1,int i64 1]:=by rw[hWc];exact(((aL zs).alloc _).alloc _).alloc _
 have s6:Whole Wc (w4.heap.size+1+1+1+1+1+1) 3 #[int i64 3]:=by rw[hWc];exact((aL zs).alloc _).alloc _
 have s7:Whole Wc (w4.heap.size+1+1+1+1+1+1+1) 3 #[int i64 1]:=by rw[hWc];exact(aL zs).alloc _
 have r2:Whole Wc (w4.heap.size+1+1+1+1+1+1+1+1) 51 #[.slice (some ⟨w4.heap.size+1,0,none⟩) 2 2,.slice (some ⟨w4.heap.size+1+1,0,none⟩) 2 2,.slice (some ⟨w4.heap.size+1+1+1,0,none⟩) 2 2,.slice (some ⟨w4.heap.size+1+1+1+1,0,none⟩) 1 1,.slice (some ⟨w4.heap.size+1+1+1+1+1,0,none⟩) 2 2,.slice (some ⟨w4.heap.size+1+1+1+1+1+1,0,none⟩) 1 1,.slice (some ⟨w4.heap.size+1+1+1+1+1+1+1,0,none⟩) 1 1]:=by rw[hWc];exact aL zs
 have hl1:Lists Wc Wc.heap.size (some ⟨w4.heap.size,0,none⟩) 7 (fun i=>[AX,AY,AU,AV,AP,AE,AC].getD i none) (fun i=>[2,2,2,1,2,1,1].getD i 0) (fun i=>[pX,pY,pU,pV,pP,pE,pC].getD i 0):=bT r1 fun i j hi hj=>by
  obtain rfl:j=0:=zo
  rcases(show i=0∨i=1∨i=2∨i=3∨i=4∨i=5∨i=6 by omega) with rfl|rfl|rfl|rfl|rfl|rfl|rfl <;> rfl
 have hl2:Lists Wc Wc.heap.size (some ⟨w4.heap.size+1+1+1+1+1+1+1+1,0,none⟩) 7 (fun i=>[some ⟨w4.heap.size+1,0,none⟩,some ⟨w4.heap.size+1+1,0,none⟩,some ⟨w4.heap.size+1+1+1,0,none⟩,some ⟨w4.heap.size+1+1+1+1,0,none⟩,some ⟨w4.heap.size+1+1+1+1+1,0,none⟩,some ⟨w4.heap.size+1+1+1+1+1+1,0,none⟩,some ⟨w4.heap.size+1+1+1+1+1+1+1,0,none⟩].getD i none) (fun i=>[2,2,2,1,2,1,1].getD i 0) (fun i=>[2,2,2,1,2,1,1].getD i 0):=bT r2 fun i j hi hj=>by
  obtain rfl:j=0:=zo
  rcases(show i=0∨i=1∨i=2∨i=3∨i=4∨i=5∨i=6 by omega) with rfl|rfl|rfl|rfl|rfl|rfl|rfl <;> rfl
 have dg:=Ql (some ⟨w4.heap.size,0,none⟩) (some ⟨w4.heap.size+1+1+1+1+1+1+1+1,0,none⟩) 7 7 7 _ _ _ _ _ (fun i j=>([[5,5],[3,5],[4,5],[0],[1,1],[3],[1]].getD i []).getD j 0) Wc.heap.size Wc hl1 hl2 zD (fun i hi=>by
  rcases(show i=0∨i=1∨i=2∨i=3∨i=4∨i=5∨i=6 by omega) with rfl|rfl|rfl|rfl|rfl|rfl|rfl
  ·exact(hX.below bc).more bc.size
  ·exact(hY.below bc).more bc.size
  ·exact(hU.below bc).more bc.size
  ·exact(hV.below bc).more bc.size
  ·exact(hP.below bc).more bc.size
  ·exact(hE.below bc).more bc.size
  ·exact(hC.below bc).more bc.size) (fun i hi=>by
  rcases(show i=0∨i=1∨i=2∨i=3∨i=4∨i=5∨i=6 by omega) with rfl|rfl|rfl|rfl|rfl|rfl|rfl
  ·exact sK s1
  ·exact sK s2
  ·exact sK s3
  ·exact wM s4
  ·exact sK s5
  ·exact wM s6
  ·exact wM s7) (fun i hi=>by
  rcases(show i=0∨i=1∨i=2∨i=3∨i=4∨i=5∨i=6 by omega) with rfl|rfl|rfl|rfl|rfl|rfl|rfl <;> (show _≤maxLen) <;> decide)
 have HSame:=hid dg
 have HWc:=hid hWc
 have HPc:=hid (L5.out.below bc)
 clear dg hWc bc hl1 hl2 r1 r2 s1 s2 s3 s4 s5 s6 s7 hX hY hU hV hP hE hC
 simp only[List.drop_succ_cons,List.drop_zero,Act.put,List.setIfInBounds_toArray,List.set_cons_succ,List.set_cons_zero]
 gi_wp2
 simp only[tZ]
 gi_wp2_with (gi_at_call 30;rw[← HWc.out];refine HSame.out.mono ?_;rintro e w5 ⟨rfl,q,rfl⟩)
 exact⟨rfl,_,results_tmp rfl _ _ _,_,rfl,rfl,HPc.out.below (below_drewN zB q)⟩
end
section
open Go Go.Conc Go.ConcN Go.bZ Go.Conc.Lib Go.aP Go.RowKit
attribute [local go_sem] Oper.semAt_some
variable[Inhabited aT]
theorem uo.zero{b:Bk}{i:Nat}{cl ch:Int}{fr:Bool}{w':World}{a0 a1:Int}{A2:Option Addr}{x2 y2:Nat}{A3:Option Addr}{x3 y3:Nat}{A4:Option Addr}{x4 y4:Nat}{l:Int}(h:uo b i cl ch fr w' #[int i64 a0,int i64 a1,.slice A2 x2 y2,.slice A3 x3 y3,.slice A4 x4 y4] l)(hn:fr=false∨¬ cl≤ch∨b.nX i cl ch=true):
 (0=a0∧0=a1∧(none=A2∧0=x2∧0=y2)∧(none=A3∧0=x3∧0=y3)∧none=A4∧0=x4∧0=y4)∧l=if fr=true then 9 else 1:=by
 rcases h with⟨rfl,h,rfl⟩|⟨rfl,-,h,rfl⟩|⟨rfl,h1,h2,-⟩
 ·exact⟨by simpa using h.symm,rfl⟩
 ·exact⟨by simpa using h.symm,rfl⟩
 ·rcases hn with hn|hn|hn
  ·cases hn
  ·exact absurd h1 hn
  ·rw[h2] at hn;cases hn
theorem uo.up{b:Bk}{i:Nat}{cl ch:Int}{fr:Bool}{w w':World}{vs:Array Value}{l:Int}(h:uo b i cl ch fr w vs l)(hb:Below w.heap.size w w'):uo b i cl ch fr w' vs l:=
 h.imp id (Or.imp id fun⟨h1,h2,h3,h4,G,gc,A,c,C,cc,h5,h6,h7⟩=>⟨h1,h2,h3,h4,G,gc,A,c,C,cc,h5,h6.up hb,h7⟩)
theorem Wz(w:World)(b:Bk)(h:b.At w w.heap.size)(hgc:b.ng≤b.gc)(hd:-9223372036854775808≤b.dY∧b.dY≤9223372036854775807)(xl xh:Int)(move good day:Int)(hmv:0≤move∧move≤255)(hg:0≤good∧good≤255)(hdy:0≤day∧day≤255):
 iY 3 #[b.val,.int .u8 move,.int .u8 good,.int .u8 day,.agg #[int i64 xl,int i64 xh]] w (nN w):=by
 obtain⟨dY,mO,gA,ng,gc,g,mA,nm,mc,m,cA,nc,cc,c⟩:=b
 simp only[Bk.val,Bk.cells]
 refine kK func3 rfl zs ?_
 simp only[show Tryz.f3.ntmps=118 from rfl,List.size_toArray,List.length_cons,List.length_nil,Nat.reduceAdd,Nat.reduceSub,Array.replicate_succ,Array.replicate_zero,List.push_toArray,List.append_toArray,List.nil_append,List.cons_append]
 repeat refine aj.seq ?_
 refine aj.item ?_
 gi_wp2
 repeat refine aj.seq ?_
 refine aj.item ?_
 have Hh:=hid h
 have Eg:=hid hgc
 obtain⟨w1,hw1⟩:∃x,x=(w.alloc (.cells #[int i64 dY,int i64 mO,.slice gA ng gc,.slice mA nm mc,.slice cA nc cc] 26)).alloc (.cells #[int i64 xl,int i64 xh] 28):=zE
 rw[← hw1]
 have hB1:Below w.heap.size w w1:=by rw[hw1];exact bw
 have hs1:w.heap.size<w1.heap.size:=by rw[hw1];simp;omega
 have hbx:Whole w1 w.heap.size 26 (#[int i64 dY,int i64 mO,.slice gA ng gc,.slice mA nm mc,.slice cA nc cc]:Array Value):=by rw[hw1];exact(Whole.new _ _ _).alloc _
 have V1:=hid (show Whole w1 (w.heap.size+1) 28 #[int i64 xl,int i64 xh] by rw[hw1];exact aL zs)
 have W1:=hid (h.up hB1)
 clear h hgc hw1
 have c1:∀o,w1.cell? ⟨w.heap.size,o,none⟩=(#[int i64 dY,int i64 mO,.slice gA ng gc,.slice mA nm mc,.slice cA nc cc]:Array Value)[o]?:=fun o=>hbx.cell o
 have Nd:=hid hbx
 clear hbx
 gi_wp2_with (gi_at_call 5;refine(XY w1 W1.out hd).mono ?_;rintro e w2 ⟨t,rfl,ht,hb2⟩;have HT:=hid ht;clear ht;have c2:w2.cell? ⟨w.heap.size,3,none⟩=some (.slice mA nm mc):=(Nd.out.below hb2 hs1).cell 3)
 all_goals have W2:=hid ((W1.out.below hb2).more hb2.size)
 all_goals have hB2:=hid (hB1.trans (hb2.mono (Nat.le_of_lt hs1)))
 all_goals have V2:=hid (V1.out.below hb2 V1.out.lt)
 all_goals have Br:=hid (Nd.out.below hb2 hs1)
 all_goals clear c1 V1 W1 Nd hB1 hb2 hs1
 rotate_left 1
 ·rename_i ht
  subst ht
  have ok:=HT.out rfl
  clear HT
  have o4:nm≤6:=ok.moves.1
  by_cases hd2:nm=0
  ·refine aj.cond_true (by simp[hd2,Act.eval]) ?_
   repeat refine aj.seq ?_
   refine aj.eX 0 zD ?_
   simp only[List.take_zero]
   have HV:=hid (gP w2)
   refine fU rfl rfl rfl (enters_of func6 zk rfl) (Rc:=nN w2) (args:=#[]) (by simp only[List.map_toArray,List.map_cons,List.map_nil]) HV.out ?_
   rintro x wz ⟨rfl,hp⟩
   simp only[List.drop_succ_cons,List.drop_zero,Act.put,List.setIfInBounds_toArray,List.set_cons_succ,List.set_cons_zero]
   gi_wp2
   simp only[tZ]
   gi_wp2
   exact⟨rfl,_,results_tmp rfl _ _ _,_,rfl,rfl,Past.of (hB2.out) hp⟩
  refine aj.cond_false (by simp[hd2,Act.eval]) ?_
  refine aj.skip ?_
  repeat refine aj.seq ?_
  refine aj.item ?_
  have b1:0≤move % nm∧move % nm<nm:=⟨Int.emod_nonneg _ zo,Int.emod_lt_of_pos _ zo⟩
  obtain⟨i,hi⟩:∃i:Nat,(i:Int)=move % nm:=⟨(move % nm).toNat,zo⟩
  have e1:IntKind.i64.wrap move=move:=IntWalk.i64_in _ zo
  have e3:IntKind.i64.wrap (move.tmod nm)=i:=by rw[Int.tmod_eq_emod_of_nonneg hmv.1,hi];exact IntWalk.i64_in _ zo
  have z1:((nm:Int) == 0)=false:=zm
  have z3:¬ ((nm:Int)=0):=zo
  have hin:i<nm:=zo
  have e8:=hid hi.symm
  have aaG:=hmv.1
  clear hi b1 hd2
  gi_wp2
  try rw[e8.out]
  clear e8 e1 e3 z1 z3 c2
  obtain⟨cl,hcl⟩:∃x,x=max (m i).lo xl:=zE
  obtain⟨ch,hch⟩:∃x,x=min (m i).hi xh:=zE
  have h1:(m i).lo≤cl:=zo
  have h2:ch≤(m i).hi:=zo
  have Mz:=hid fun w h=>a8 (⟨dY,mO,gA,ng,gc,g,mA,nm,mc,m,cA,nc,cc,c⟩:Bk) ok Eg.out i hin xl xh cl ch hcl hch w h
  have HTO:Hid (∀w,(⟨dY,mO,gA,ng,gc,g,mA,nm,mc,m,cA,nc,cc,c⟩:Bk).At w w.heap.size→CallsIn FF 0 prog 10 #[.agg (#[int i64 dY,int i64 mO,.slice gA ng gc,.slice mA nm mc,.slice cA nc cc]:Array Value),int i64 i,.agg #[int i64 xl,int i64 xh]] w fun e w'=>(∃A k,e=.returned (.agg #[int i64 dY,int i64 mO,.slice gA ng gc,.slice A nm k,.slice cA nc cc])∧((⟨dY,mO,gA,ng,gc,g,mA,nm,mc,m,cA,nc,cc,c⟩:Bk).told i cl ch gA gc A k cA cc).At w' w'.heap.size)∧Below w.heap.size w w'):=hid fun w h=>by
   have:=oS (⟨dY,mO,gA,ng,gc,g,mA,nm,mc,m,cA,nc,cc,c⟩:Bk) i hin o4 xl xh w h
   rw[hcl,hch]
   exact this
  have Lw:=hid fun h3=>Pw (⟨dY,mO,gA,ng,gc,g,mA,nm,mc,m,cA,nc,cc,c⟩:Bk) ok Eg.out i hin cl ch h1 h2 h3
  have LI:=hid fun h3 ht G kW A k C nL hq w h h'=>Bv (⟨dY,mO,gA,ng,gc,g,mA,nm,mc,m,cA,nc,cc,c⟩:Bk) ok Eg.out i hin cl ch h1 h2 h3 ht good day hg hdy G kW A k C nL hq w h h'
  simp only[Bk.cells] at Mz LI Lw
  have B2:=hB2
  have X2:=Br
  clear hB2 Br hcl hch h1 h2 ok Eg
  repeat refine aj.seq ?_
  refine aj.item ?_
  have c0:∀o,w2.cell? ⟨w.heap.size,o,none⟩=(#[int i64 dY,int i64 mO,.slice gA ng gc,.slice mA nm mc,.slice cA nc cc]:Array Value)[o]?:=fun o=>X2.out.cell o
  have s0:∀o,w2.cell? ⟨w.heap.size+1,o,none⟩=(#[int i64 xl,int i64 xh]:Array Value)[o]?:=fun o=>V2.out.cell o
  gi_wp2_with (gi_at_call 7;refine(Mz.out _ W2.out).mono ?_;rintro e w3 ⟨a0,a1,A2,x2,y2,A3,x3,y3,A4,x4,y4,l,rfl,hti,hb3⟩)
  have Q3:=hid hti
  clear hti c0 s0 Mz
  have B3:=hid (B2.out.trans (hb3.mono B2.out.size))
  have W3:=hid (W2.out.up hb3)
  have X3:=hid (X2.out.below hb3 X2.out.lt)
  have V3:=hid (V2.out.below hb3 V2.out.lt)
  clear B2 W2 X2 V2 hb3
  obtain⟨w4,hw4⟩:∃x,x=w3.alloc (.cells #[int i64 a0,int i64 a1,.slice A2 x2 y2,.slice A3 x3 y3,.slice A4 x4 y4] 26):=zE
  rw[← hw4]
  have hb4:Below w3.heap.size w3 w4:=by rw[hw4];exact Below.al zB _
  have O4:=hid (show Whole w4 w3.heap.size 26 #[int i64 a0,int i64 a1,.slice A2 x2 y2,.slice A3 x3 y3,.slice A4 x4 y4] by rw[hw4];exact Whole.new _ _ _)
  have Q4:=hid (Q3.out.up hb4)
  clear hw4 Q3
  obtain⟨p3,hp3⟩:∃x,x=w3.heap.size:=zE
  have nep:w.heap.size≠w3.heap.size:=Nat.ne_of_lt X3.out.lt
  have Wl:w.heap.size+1≠w3.heap.size:=Nat.ne_of_lt V3.out.lt
  rw[← hp3] at O4 nep Wl⊢
  have B4:=hid (B3.out.trans (hb4.mono B3.out.size))
  have W4:=hid (W3.out.up hb4)
  have X4:=hid (X3.out.below hb4 X3.out.lt)
  have V4:=hid (V3.out.below hb4 V3.out.lt)
  clear hp3 B3 W3 X3 V3 hb4
  repeat refine aj.seq ?_
  refine aj.item ?_
  have s0:∀o,w4.cell? ⟨w.heap.size+1,o,none⟩=(#[int i64 xl,int i64 xh]:Array Value)[o]?:=fun o=>V4.out.cell o
  gi_wp2_with (gi_at_call 8;refine(rQ _ _ _ _ _).mono ?_;rintro e w5 ⟨rfl,hb5⟩)
  clear s0
  have Q5:=hid (Q4.out.up hb5)
  clear Q4
  have B5:=hid (B4.out.trans (hb5.mono B4.out.size))
  have W5:=hid (W4.out.up hb5)
  have X5:=hid (X4.out.below hb5 X4.out.lt)
  have V5:=hid (V4.out.below hb5 V4.out.lt)
  have O5:=hid (O4.out.below hb5 O4.out.lt)
  clear B4 W4 X4 V4 O4 hb5
  have hwf:jH xl xh 0 99=nG xl xh 0 99:=rfl
  rw[hwf]
  clear hwf
  obtain⟨fr,hfr⟩:∃fr,fr=nG xl xh 0 99:=zE
  rw[← hfr] at Q5⊢
  clear hfr
  have o5:∀o,w5.cell? ⟨p3,o,none⟩=(#[int i64 a0,int i64 a1,.slice A2 x2 y2,.slice A3 x3 y3,.slice A4 x4 y4]:Array Value)[o]?:=fun o=>O5.out.cell o
  cases fr
  ·obtain⟨⟨rfl,rfl,⟨rfl,rfl,rfl⟩,⟨rfl,rfl,rfl⟩,rfl,rfl,rfl⟩,rfl⟩:=Q5.out.zero (.inl rfl)
   refine aj.cond_true (by simp[Act.eval]) ?_
   repeat refine aj.seq ?_
   refine aj.eX 8 zD ?_
   simp only[List.take_succ_cons,List.take_zero]
   gi_wp2_with (gi_at_call 9;refine(uN _).mono ?_;rintro e ws ⟨rfl,hbs⟩)
   have HV:=hid (gP ws)
   refine fU rfl rfl rfl (enters_of func6 zk rfl) (Rc:=nN ws) (args:=#[]) (by simp only[List.map_toArray,List.map_cons,List.map_nil]) HV.out ?_
   rintro x wz ⟨rfl,hp⟩
   simp only[List.drop_succ_cons,List.drop_zero,Act.put,List.setIfInBounds_toArray,List.set_cons_succ,List.set_cons_zero]
   gi_wp2
   simp only[tZ]
   gi_wp2
   exact⟨rfl,_,results_tmp rfl _ _ _,_,rfl,rfl,Past.of (Below.next B5.out hbs) hp⟩
  refine aj.cond_false (by simp[Act.eval]) ?_
  refine aj.skip ?_
  repeat refine aj.seq ?_
  refine aj.item ?_
  have c0:∀o,w5.cell? ⟨w.heap.size,o,none⟩=(#[int i64 dY,int i64 mO,.slice gA ng gc,.slice mA nm mc,.slice cA nc cc]:Array Value)[o]?:=fun o=>X5.out.cell o
  have s0:∀o,w5.cell? ⟨w.heap.size+1,o,none⟩=(#[int i64 xl,int i64 xh]:Array Value)[o]?:=fun o=>V5.out.cell o
  clear o5
  gi_wp2_with (gi_at_call 10;refine(HTO.out _ W5.out).mono ?_;rintro e w6 ⟨⟨A,k,rfl,TT⟩,hb6⟩)
  clear c0 s0 HTO
  have M6:=hid TT
  clear TT
  have Q6:=hid (Q5.out.up hb6)
  clear Q5
  have B6:=hid (B5.out.trans (hb6.mono B5.out.size))
  have W6:=hid (W5.out.up hb6)
  have X6:=hid (X5.out.below hb6 X5.out.lt)
  have V6:=hid (V5.out.below hb6 V5.out.lt)
  have O6:=hid (O5.out.below hb6 O5.out.lt)
  clear B5 W5 X5 V5 O5 hb6
  obtain⟨am,df,TQ,-⟩:=M6.out.m (show 0<nm by omega)
  simp only[Bk.told] at df
  subst df
  obtain⟨w7,hw7⟩:∃x,x=w6.alloc (.cells #[int i64 dY,int i64 mO,.slice gA ng gc,.slice (some am) nm k,.slice cA nc cc] 26):=zE
  rw[← hw7]
  have vo:Below w6.heap.size w6 w7:=by rw[hw7];exact Below.al zB _
  have N7:=hid (show Whole w7 w6.heap.size 26 #[int i64 dY,int i64 mO,.slice gA ng gc,.slice (some am) nm k,.slice cA nc cc] by rw[hw7];exact Whole.new _ _ _)
  have Q7:=hid (Q6.out.up vo)
  clear hw7 Q6 TQ
  obtain⟨p6,hp6⟩:∃x,x=w6.heap.size:=zE
  have ne1:w.heap.size≠w6.heap.size:=Nat.ne_of_lt X6.out.lt
  have ne2:p3≠w6.heap.size:=Nat.ne_of_lt O6.out.lt
  rw[← hp6] at N7 ne1 ne2⊢
  have B7:=hid (B6.out.trans (vo.mono B6.out.size))
  have W7:=hid (W6.out.up vo)
  have X7:=hid (X6.out.below vo X6.out.lt)
  have V7:=hid (V6.out.below vo V6.out.lt)
  have O7:=hid (O6.out.below vo O6.out.lt)
  have M7:=hid (M6.out.up vo)
  clear hp6 B6 W6 X6 V6 O6 M6 vo
  have hrow:=M7.out.m.row hin
  have m3:w7.cell? ⟨(am.add (i * 5)).block,(am.add (i * 5)).off+3,none⟩=some (int i64 cl):=(hrow.2 3 zD).trans (by simp[Bk.told,Mv.narrow,Mv.cell])
  have m4:w7.cell? ⟨(am.add (i * 5)).block,(am.add (i * 5)).off+3+1,none⟩=some (int i64 ch):=(hrow.2 4 zD).trans (by simp[Bk.told,Mv.narrow,Mv.cell])
  have n3:w7.cell? ⟨p6,3,none⟩=some (.slice (some am) nm k):=N7.out.cell 3
  have e3:(0:Int)≤(i:Int):=Int.natCast_nonneg _
  have e4:(i:Int)<(nm:Int):=zo
  clear hrow
  repeat refine aj.seq ?_
  refine aj.item ?_
  gi_wp2
  gi_quiet (fail)
  gi_wp2
  obtain⟨w8,hw8⟩:∃x,x=w7.drewN nq:=zE
  have CF:Below w7.heap.size w7 w8:=by rw[hw8];exact below_drewN zB _
  rw[← hw8]
  have Q8:=hid (Q7.out.up CF)
  clear hw8 m3 m4 n3 e3 e4 Q7
  have B8:=hid (B7.out.trans (CF.mono B7.out.size))
  have W8:=hid (W7.out.up CF)
  have X8:=hid (X7.out.below CF X7.out.lt)
  have V8:=hid (V7.out.below CF V7.out.lt)
  have O8:=hid (O7.out.below CF O7.out.lt)
  have M8:=hid (M7.out.up CF)
  have N8:=hid (N7.out.below CF N7.out.lt)
  clear B7 W7 X7 V7 O7 M7 N7 CF
  by_cases hc:cl≤ch
  rotate_left 1
  ·obtain⟨⟨rfl,rfl,⟨rfl,rfl,rfl⟩,⟨rfl,rfl,rfl⟩,rfl,rfl,rfl⟩,rfl⟩:=Q8.out.zero (.inr (.inl hc))
   have o8:∀o,w8.cell? ⟨p3,o,none⟩=(#[int i64 0,int i64 0,.slice none 0 0,.slice none 0 0,.slice none 0 0]:Array Value)[o]?:=fun o=>O8.out.cell o
   have hcd:decide (ch<cl)=true:=decide_eq_true zo
   refine aj.cond_true (by simp[Act.eval];omega) ?_
   repeat refine aj.seq ?_
   refine aj.eX 8 zD ?_
   simp only[List.take_succ_cons,List.take_zero]
   gi_wp2_with (gi_at_call 9;refine(uN _).mono ?_;rintro e ws ⟨rfl,hbs⟩)
   have HV:=hid (gP ws)
   refine fU rfl rfl rfl (enters_of func6 zk rfl) (Rc:=nN ws) (args:=#[]) (by simp only[List.map_toArray,List.map_cons,List.map_nil]) HV.out ?_
   rintro x wz ⟨rfl,hp⟩
   simp only[List.drop_succ_cons,List.drop_zero,Act.put,List.setIfInBounds_toArray,List.set_cons_succ,List.set_cons_zero]
   gi_wp2
   simp only[tZ]
   gi_wp2
   exact⟨rfl,_,results_tmp rfl _ _ _,_,rfl,rfl,Past.of (Below.next B8.out hbs) hp⟩
  refine aj.cond_false (by simp[Act.eval];omega) ?_
  refine aj.skip ?_
  obtain⟨nH,Ts,hhi⟩:=Lw.out hc
  have HH:=hid hhi
  clear hhi Lw
  repeat refine aj.seq ?_
  refine aj.item ?_
  have n8:∀o,w8.cell? ⟨p6,o,none⟩=(#[int i64 dY,int i64 mO,.slice gA ng gc,.slice (some am) nm k,.slice cA nc cc]:Array Value)[o]?:=fun o=>N8.out.cell o
  gi_wp2_with (gi_at_call 11;refine(HH.out _ _ _ M8.out).mono ?_;rintro e w9 ⟨rfl,bg⟩)
  clear n8 HH
  have Q9:=hid (Q8.out.up bg)
  clear Q8
  have B9:=hid (B8.out.trans (bg.mono B8.out.size))
  have W9:=hid (W8.out.up bg)
  have X9:=hid (X8.out.below bg X8.out.lt)
  have V9:=hid (V8.out.below bg V8.out.lt)
  have O9:=hid (O8.out.below bg O8.out.lt)
  have M9:=hid (M8.out.up bg)
  have N9:=hid (N8.out.below bg N8.out.lt)
  clear B8 W8 X8 V8 O8 M8 N8 bg
  repeat refine aj.seq ?_
  refine aj.item ?_
  gi_wp2
  refine aj.cond_false (by simp[Act.eval]) ?_
  refine aj.skip ?_
  repeat refine aj.seq ?_
  refine aj.item ?_
  gi_wp2
  by_cases hz0:nH=0
  ·obtain⟨⟨rfl,rfl,⟨rfl,rfl,rfl⟩,⟨rfl,rfl,rfl⟩,rfl,rfl,rfl⟩,rfl⟩:=Q9.out.zero (.inr (.inr (Ts.2 hz0)))
   have o9:∀o,w9.cell? ⟨p3,o,none⟩=(#[int i64 0,int i64 0,.slice none 0 0,.slice none 0 0,.slice none 0 0]:Array Value)[o]?:=fun o=>O9.out.cell o
   refine aj.cond_true (by simp[Act.eval,hz0]) ?_
   repeat refine aj.seq ?_
   refine aj.eX 8 zD ?_
   simp only[List.take_succ_cons,List.take_zero]
   gi_wp2_with (gi_at_call 9;refine(uN _).mono ?_;rintro e ws ⟨rfl,hbs⟩)
   have HV:=hid (gP ws)
   refine fU rfl rfl rfl (enters_of func6 zk rfl) (Rc:=nN ws) (args:=#[]) (by simp only[List.map_toArray,List.map_cons,List.map_nil]) HV.out ?_
   rintro x wz ⟨rfl,hp⟩
   simp only[List.drop_succ_cons,List.drop_zero,Act.put,List.setIfInBounds_toArray,List.set_cons_succ,List.set_cons_zero]
   gi_wp2
   simp only[tZ]
   gi_wp2
   exact⟨rfl,_,results_tmp rfl _ _ _,_,rfl,rfl,Past.of (Below.next B9.out hbs) hp⟩
  refine aj.cond_false (by simp[Act.eval];omega) ?_
  refine aj.skip ?_
  have htf:(⟨dY,mO,gA,ng,gc,g,mA,nm,mc,m,cA,nc,cc,c⟩:Bk).nX i cl ch=false:=by
   cases hh:(⟨dY,mO,gA,ng,gc,g,mA,nm,mc,m,cA,nc,cc,c⟩:Bk).nX i cl ch with
   | false=>rfl
   | true=>exact absurd (Ts.1 hh) hz0
  rcases Q9.out with⟨h0,-⟩|⟨-,h0,-⟩|⟨-,-,-,rfl,G,kW,A2,k2,C2,nL,hg2,vq,hvs⟩
  ·cases h0
  ·rcases h0 with h0|h0
   ·exact absurd hc h0
   ·rw[htf] at h0;cases h0
  replace hvs:=hvs.symm
  simp only[Array.mk.injEq,List.cons.injEq,Value.int.injEq,Value.slice.injEq,true_and,and_true] at hvs
  obtain⟨rfl,rfl,⟨rfl,rfl,rfl⟩,⟨rfl,rfl,rfl⟩,rfl,rfl,rfl⟩:=hvs
  have T9:=hid vq
  have HNR:=hid fun w h h'=>LI.out hc htf G kW A2 k2 C2 nL hg2 w h h'
  have HSM:=hid fun w h h'=>Qk (⟨dY,mO,gA,ng,gc,g,mA,nm,mc,m,cA,nc,cc,c⟩:Bk) i cl ch G kW A2 k2 C2 nL (some am) k w h h'
  simp only at HSM
  have o9:∀o,w9.cell? ⟨p3,o,none⟩=(#[int i64 dY,int i64 mO,.slice G ng kW,.slice A2 nm k2,.slice C2 nc nL]:Array Value)[o]?:=fun o=>O9.out.cell o
  have n9:∀o,w9.cell? ⟨p6,o,none⟩=(#[int i64 dY,int i64 mO,.slice gA ng gc,.slice (some am) nm k,.slice cA nc cc]:Array Value)[o]?:=fun o=>N9.out.cell o
  clear vq Q9 LI Ts
  repeat refine aj.seq ?_
  refine aj.eX 15 zD ?_
  simp only[List.take_succ_cons,List.take_zero]
  gi_wp2_with (first
   | (gi_at_call 9;refine(HSM.out _ T9.out M9.out).mono ?_;rintro e ws ⟨rfl,hbs⟩;have c9:∀o,ws.cell? ⟨w.heap.size,o,none⟩=(#[int i64 dY,int i64 mO,.slice gA ng gc,.slice mA nm mc,.slice cA nc cc]:Array Value)[o]?:=fun o=>(X9.out.below hbs X9.out.lt).cell o;have o9s:∀o,ws.cell? ⟨p3,o,none⟩=(#[int i64 dY,int i64 mO,.slice G ng kW,.slice A2 nm k2,.slice C2 nc nL]:Array Value)[o]?:=fun o=>(O9.out.below hbs O9.out.lt).cell o;clear o9 n9)
   | (gi_at_call 12;refine(HNR.out _ (W9.out.up hbs) (T9.out.up hbs)).mono ?_;rintro e wt ⟨rfl,hbt⟩;clear c9 o9s))
  have HV:=hid (gP wt)
  refine fU rfl rfl rfl (enters_of func6 zk rfl) (Rc:=nN wt) (args:=#[]) (by simp only[List.map_toArray,List.map_cons,List.map_nil]) HV.out ?_
  rintro x wz ⟨rfl,hp⟩
  simp only[List.drop_succ_cons,List.drop_zero,Act.put,List.setIfInBounds_toArray,List.set_cons_succ,List.set_cons_zero]
  gi_wp2
  simp only[tZ]
  gi_wp2
  exact⟨rfl,_,results_tmp rfl _ _ _,_,rfl,rfl,Past.of (Below.next (Below.next B9.out hbs) hbt) hp⟩
 ·refine aj.cond_true (by simp[Act.eval]) ?_
  repeat refine aj.seq ?_
  refine aj.eX 0 zD ?_
  simp only[List.take_zero]
  have HV:=hid (gP w2)
  refine fU rfl rfl rfl (enters_of func6 zk rfl) (Rc:=nN w2) (args:=#[]) (by simp only[List.map_toArray,List.map_cons,List.map_nil]) HV.out ?_
  rintro x wz ⟨rfl,hp⟩
  simp only[List.drop_succ_cons,List.drop_zero,Act.put,List.setIfInBounds_toArray,List.set_cons_succ,List.set_cons_zero]
  gi_wp2
  simp only[tZ]
  gi_wp2
  exact⟨rfl,_,results_tmp rfl _ _ _,_,rfl,rfl,Past.of (hB2.out) hp⟩
end
section
open Go Go.Conc Go.ConcN Go.bZ Go.Conc.Lib Go.aP
variable[Inhabited aT]
def D8(W:World)(x:Value)(u:World):Prop:=x=.bool true∧u.os=W.os∧u.output=W.output∧W.heap.size≤u.heap.size∧∀q,q<W.heap.size→u.heap[q]? =W.heap[q]?
theorem Rows.lift{W W0:World}(hc:∀p x,W.cell? p=some x→W0.cell? p=some x){B size n:Nat}{A:Option Addr}{f:Nat→Nat→Value}(h:Rows W B size A n f):Rows W0 B size A n f:=fun hn=>by
 obtain⟨ad,e,hb,k⟩:=h hn
 exact⟨ad,e,hb,fun i j hi hj=>hc _ _ (k i j hi hj)⟩
theorem Zc(n:Nat):SF.room n:=fun d h=>by cases h
def Odd(W:World)(q:Nat):Prop:=∃o,W.heap[q]? =some o∧¬ dP.Plain ⟨fun _=>False,wE⟩ o
open Classical in
noncomputable def bare(Z:Nat→Prop)(W:World):World:={W with heap:=W.heap.mapIdx fun q o=>if Z q then dP.X0 q else o }
theorem OA(Z:Nat→Prop)(W:World):(bare Z W).heap.size=W.heap.size:=by show(W.heap.mapIdx _).size=_;simp
theorem XA{Z:Nat→Prop}{W:World}{q:Nat}(hq:¬ Z q):(bare Z W).heap[q]? =W.heap[q]?:=by
 simp only[bare,Array.getElem?_mapIdx]
 cases W.heap[q]? <;> simp[hq]
theorem Tc{Z:Nat→Prop}{W:World}{q:Nat}{o:Obj}(hq:Z q)(ho:W.heap[q]? =some o):(bare Z W).heap[q]? =some (dP.X0 q):=by
 simp only[bare,Array.getElem?_mapIdx,ho]
 simp[hq]
theorem yS(hSF:gV prog SF.fn)(W:World)(b:Bk)(h:b.At W W.heap.size)(hgc:b.ng≤b.gc)(hd:-9223372036854775808≤b.dY∧b.dY≤9223372036854775807)(move:Int)(KJ:0≤move∧move≤255)(good:Int)(KI:0≤good∧good≤255)(day:Int)(TP:0≤day∧day≤255)(xl xh:Int):
 ∃M last o w' t',runNT prog (M+1) (solo (G (Frame.enter prog 3 #[b.val,.int .u8 move,.int .u8 good,.int .u8 day,.agg #[int i64 xl,int i64 xh]] .normal) []) W) #[]=(.ended o w',t')∧
  runN prog M (solo (G (Frame.enter prog 3 #[b.val,.int .u8 move,.int .u8 good,.int .u8 day,.agg #[int i64 xl,int i64 xh]] .normal) []) W)=.next last∧step prog last=.ended o w'∧Conc.Good prog (D8 W) last o w' t':=by
 obtain⟨Z0,hZ0⟩:∃Z:Nat→Prop,Z=Odd W:=⟨_,rfl⟩
 have hz:∀ {q},Z0 q↔∃o,W.heap[q]? =some o∧¬ dP.Plain ⟨fun _=>False,wE⟩ o:=fun{q}=>by rw[hZ0];exact Iff.rfl
 have hs0:(bare Z0 W).heap.size=W.heap.size:=OA Z0 W
 have hin:∀q,¬ Z0 q→(bare Z0 W).heap[q]? =W.heap[q]?:=fun q hq=>XA hq
 have hout:∀q,Z0 q→(bare Z0 W).heap[q]? =some (dP.X0 q):=fun q hq=>by
  obtain⟨o,ho,_⟩:=hz.1 hq
  exact Tc hq ho
 have hos:(bare Z0 W).os=W.os∧(bare Z0 W).output=W.output∧(bare Z0 W).drawn=W.drawn∧(bare Z0 W).tape=W.tape:=⟨rfl,rfl,rfl,rfl⟩
 clear hZ0
 obtain⟨W0,hW0⟩:∃w,w=bare Z0 W:=zE
 rw[← hW0] at hs0 hin hout hos
 clear hW0
 have hcell:∀p x,W.cell? p=some x→W0.cell? p=some x:=fun p x hx=>by
  have hnz:¬ Z0 p.block:=by
   intro hzz
   obtain⟨o,ho,hno⟩:=hz.1 hzz
   unfold World.cell? at hx
   rw[ho] at hx
   cases o <;> first|exact hno trivial|cases hx
  rw[← hx]
  simp only[World.cell?,hin _ hnz]
 have hb0:b.At W0 W0.heap.size:=by
  rw[hs0]
  exact⟨h.g.lift hcell,h.m.lift hcell,h.c.lift hcell,h.ng,h.nm,h.nc,h.name⟩
 obtain⟨hF,TX⟩:=Wz W0 b hb0 hgc hd xl xh move good day KJ KI TP
 obtain⟨n,cb,cs,w1,bit,Uv,⟨hn,D,hcl,hcb,m,hcall⟩,hback⟩:=TX []
 have ok:(⟨Frame.enter prog 3 #[b.val,.int .u8 move,.int .u8 good,.int .u8 day,.agg #[int i64 xl,int i64 xh]] .normal,[],W0⟩:dP.Pt).Ok prog FF.fn ⟨Z0,wE⟩:=by
  refine⟨dP.Fr.enter MS hF _,fun c hc=>by simp at hc,⟨fun q hq=>hout q hq,fun q o hq ho=>?_⟩⟩
  rw[show(⟨Frame.enter prog 3 #[b.val,.int .u8 move,.int .u8 good,.int .u8 day,.agg #[int i64 xl,int i64 xh]] .normal,[],W0⟩:dP.Pt).w=W0 from rfl,hin q hq] at ho
  have h1:dP.Plain ⟨fun _=>False,wE⟩ o:=Classical.byContradiction fun hno=>hq (hz.2 ⟨o,ho,hno⟩)
  cases o <;> exact h1
 have hva:dP.F5 ⟨Z0,wE⟩ (fun q=>W.heap[q]?) W0 W:=⟨⟨hs0.symm,fun q hq=>(hin q hq).symm,hos.1.symm,hos.2.1.symm,fun q o _ hk _=>hk⟩,hos.2.2.1.symm,hos.2.2.2.symm⟩
 have hcells:∀q o,Z0 q→W.heap[q]? =some o→∀c t f,o≠.cells c t f:=by
  rintro q o hzz ho c t f rfl
  obtain⟨o',ho',hno⟩:=hz.1 hzz
  rw[ho] at ho'
  cases ho'
  exact hno trivial
 obtain⟨_,_,_,_,_,_,_,hsz⟩:=dP.CU (Eu _) sH (fun _ h=>h) Uv (a:=⟨_,[],W0⟩) (b:=⟨kR n cb,cs,w1⟩) rfl rfl ok W hva #[] (dP.iG.nil _)
 have hsz1:W0.heap.size≤w1.heap.size:=hsz
 refine bj hn ok hva hcells Uv hSF (fun g hg=>lQ (IW hg)) rfl (Zc _) hcl hcb hcall (PV:=D8 W) fun ac hac v hv σ=>?_
 obtain⟨m',hs,x,w',fr,⟨hx,τ,hpast⟩,rfl,hfn,hmode,hdef,hkind,fnn,xm,hres⟩:=hback ac hac v hv σ
 refine⟨⟨fr,[],w'⟩,hs,⟨rfl,(by unfold SA;first|exact hfn|exact .inl hfn|exact .inr (.inl hfn)|exact .inr (.inr hfn)),hmode,hdef,hkind⟩,fun u hus hu1 hu2 hu3 hu4=>?_⟩
 have hf3:fnn=Tryz.f3:=by
  rw[hfn,func3] at xm
  exact(Option.some.inj xm).symm
 subst hf3
 have hr2:=results_tmp (fn:=Tryz.f3) rfl fr.tmps prog w'
 rw[hr2] at hres
 have hv2:nV fr=x:=by
  unfold nV
  rw[hfn]
  exact(Result.ok.inj hres).1
 have hp2:=hpast.size
 have hp3:=hpast.os
 have hp4:=hpast.output
 have hp5:=hpast.block
 refine⟨hv2.trans hx,(hu3.trans hp3).trans hos.1,(hu4.trans hp4).trans hos.2.1,?_,fun q hq=>?_⟩
 ·have:u.heap.size=w'.heap.size:=hus
  have e:(on W0 τ).heap.size=W0.heap.size:=rfl
  omega
 ·by_cases hzz:Z0 q
  ·exact hu2 q hzz
  ·have hq0:q<W0.heap.size:=zo
   exact((hu1 q zo hzz).trans (hp5 q hq0)).trans (hin q hzz)
end
end Go.Proofs.YtpmafoalhnaokaaGreat
