/- CL CS TF -/
import Derived.Test.YthaelabgfnnebaaGreatE3
import Derived.Test.YthaelabgfnnebaaGreatE2
set_option maxRecDepth 100000
set_option maxHeartbeats 16000000
set_option linter.unusedVariables false
set_option linter.unusedSectionVars false
open Go.IntKind(i64)
open Go.Lib(hid)
open Go.Proofs.Tryz
open Go.Value(int)
namespace Go.Proofs.YthaelabgfnnebaaGreat
section
open Go Go.Conc Go.ConcN Go.cu Go.Conc.Lib Go.aO Go.RowKit
attribute [local go_sem] Oper.semAt_some
variable[Inhabited aV]
def Past(w w':World):Prop:=∃τ,Below w.heap.size (on w τ) w'
theorem Past.below{w w' w2:World}(h:Past w w')(k:Below w'.heap.size w' w2):Past w w2:=by
 obtain⟨τ,h⟩:=h
 exact⟨τ,h.trans (k.mono h.size)⟩
theorem Past.of{w w1 w':World}(h:Below w.heap.size w w1)(k:Past w1 w'):Past w w':=by
 obtain⟨τ,k⟩:=k
 have hs:=h.size
 exact⟨τ,⟨k.os.trans h.os,k.tape,k.output.trans h.output,Nat.le_trans h.size k.size,fun b hb=>(k.block b (Nat.lt_of_lt_of_le hb hs)).trans (h.block b hb)⟩⟩
def Qq(w:World)(x:Value)(w':World):Prop:=∃v,x=.tuple #[v,.bool true]∧w'.ownsRow w.heap.size 3 1 v 1 [int i64 1]∧Past w w'
theorem Ny(G M C gA p:Nat)(w:World)(hT:Vj w G M C)(hA:∃c e,w.heap[gA]? =some (.cells c e (0,0))∧∀x∈c.toList,∃n,x=int i64 n)(hc:om (Tb 0 G M C) (some ⟨gA,0,none⟩) w):iR 47 #[.agg (aA (Tb 0 G M C) (some ⟨gA,0,none⟩) 4 p)] w (Qq w):=by
 obtain⟨w1,hw1⟩:∃w1,w1=w.alloc (.cells (aA (Tb 0 G M C) (some ⟨gA,0,none⟩) 4 p) 76):=⟨_,rfl⟩
 have B1:Below w.heap.size w w1:=by rw[hw1];exact bw
 have X1:Whole w1 w.heap.size 76 (aA (Tb 0 G M C) (some ⟨gA,0,none⟩) 4 p):=by rw[hw1];exact Whole.new _ _ _
 have hpre:Li 4 w.heap.size VO w1:=by
  refine OP X1 (hT.of fun b hb=>B1.block b hb) ?_ (hc.below B1)
  obtain⟨c,e,h1,h2⟩:=hA
  exact⟨c,e,(B1.block _ (Array.getElem?_eq_some_iff.1 h1).1).trans h1,h2⟩
 have HV:=hid (P6 w.heap.size VO w1 hpre Nq)
 have HB1:=hid B1
 clear hpre hT hA hc B1
 simp only[Tb,aA] at hw1 X1⊢
 have x4:w1.cell? ⟨w.heap.size,4,none⟩=some (.slice (some ⟨C,0,none⟩) 2 2):=X1.cell 4
 have hs1:w1.heap.size=w.heap.size+1:=by rw[hw1];simp
 have IB:=hid hs1
 have HW1:=hid hw1
 clear X1 hw1 hs1
 refine kE func47 rfl zs ?_
 simp only[ntmps47,List.size_toArray,List.length_cons,List.length_nil,Nat.reduceAdd,Nat.reduceSub,Array.replicate_succ,Array.replicate_zero,List.push_toArray,List.append_toArray,List.nil_append,List.cons_append]
 repeat refine aj.seq ?_
 refine aj.item ?_
 gi_wp2
 repeat refine aj.seq ?_
 rw[← HW1.out]
 refine aj.iD 7 zD ?_
 simp only[List.take_succ_cons,List.take_zero]
 gi_wp2
 refine jv rfl rfl rfl (enters_of func82 zk rfl) (Rc:=vX w1) (args:=#[int i64 4,fB w.heap.size]) (by simp only[List.map_toArray,List.map_cons,List.map_nil];rfl) HV.out ?_
 rintro v w2 ⟨⟨τ,hb2⟩,hown⟩
 have hb2':=hb2.size
 have rj:w1.heap.size≤w2.heap.size:=hb2'
 obtain⟨g,cap,rfl,hg1,hg2⟩:=hown.form zD
 have k0:w2.cell? ⟨g,0,none⟩=some (int i64 2):=by simpa [Addr.add] using hown.cells (g:=g) rfl 0 (int i64 2) rfl
 have k1:w2.cell? ⟨g,1,none⟩=some (int i64 3):=by simpa [Addr.add] using hown.cells (g:=g) rfl 1 (int i64 3) rfl
 have HL:=hid (JV g cap w2 k0 k1 hg2)
 have HP:Hid (Past w1 w2):=hid ⟨τ,hb2⟩
 have HS2:=hid rj
 clear hb2 hb2' hown k0 k1 hg1 hg2 rj x4
 simp only[List.drop_succ_cons,List.drop_zero,Act.put,List.setIfInBounds_toArray,List.set_cons_succ,List.set_cons_zero]
 gi_wp2_with (gi_at_call 81;refine HL.out.mono ?_;rintro e w3 ⟨v3,rfl,hv3,hb3⟩)
 simp only[yR]
 gi_wp2
 refine⟨rfl,_,results_tmp2 rfl _ _ _,_,rfl,v3,rfl,dP hv3 (by have:=IB.out;have:=HS2.out;omega),Past.of HB1.out (HP.out.below hb3)⟩
def Qt(w:World)(x:Value)(w':World):Prop:=∃v,x=.tuple #[v,int i64 0]∧w'.ownsRow w.heap.size 3 1 v 1 [int i64 1]∧Past w w'
theorem Aq(G M C:Nat)(w:World)(hT:Vj w G M C)(h:(Tb 0 G M C).At w w.heap.size):iR 17 #[(Tb 0 G M C).val] w (Qt w):=by
 have hl4:(ak (Tb 0 G M C)).length=4:=by rw[vP];rfl
 have HO:=hid fun w h=>Xp (Tb 0 G M C) w h (jW 0 zD G M C) (Nat.le_refl 2)
 rw[hl4] at HO
 have HV:=hid fun gA p w hT hA hc=>Ny G M C gA p w hT hA hc
 have HA:=hid h
 have HT:=hid hT
 have yo:Hid (∀A w,om (Tb 0 G M C) A w→∀w',Below w.heap.size w w'→om (Tb 0 G M C) A w'):=hid fun A w h w' hb=>h.below hb
 clear h hT hl4
 simp only[Tb,Bk.val,Bk.cells,aA] at HO HV⊢
 refine kE func17 rfl zs ?_
 simp only[ntmps17,List.size_toArray,List.length_cons,List.length_nil,Nat.reduceAdd,Nat.reduceSub,Array.replicate_succ,Array.replicate_zero,List.push_toArray,List.append_toArray,List.nil_append,List.cons_append]
 repeat refine aj.seq ?_
 refine aj.item ?_
 gi_wp2
 repeat refine aj.seq ?_
 refine aj.item ?_
 gi_wp2_with (gi_at_call 33;refine(HO.out _ (HA.out.up (bw))).mono ?_;rintro e w2 ⟨A,p,rfl,hc2,hb2,hA2⟩)
 obtain⟨gA,rfl,SM⟩:∃gA,A=some ⟨gA,0,none⟩∧∃c e,w2.heap[gA]? =some (.cells c e (0,0))∧∀x∈c.toList,∃n,x=int i64 n:=by
  obtain⟨ad,rfl,-,-⟩:=hc2.row (by show 0<(ak (Tb 0 G M C)).length;rw[vP];decide)
  obtain⟨-,h2,h3⟩:=hA2 ad rfl zD
  exact⟨ad.block,by rw[← h2],h3⟩
 have hw2:Below w.heap.size w w2:=Below.next (bw) hb2
 obtain⟨w3,hw3⟩:∃w3,w3=w2.alloc (.cells #[int i64 10,int i64 0,.slice (some ⟨G,0,none⟩) 2 2,.slice (some ⟨M,0,none⟩) 4 4,.slice (some ⟨C,0,none⟩) 2 2,.slice (some ⟨gA,0,none⟩) 4 p] 76):=⟨_,rfl⟩
 have b23:Below w2.heap.size w2 w3:=by rw[hw3];exact bw
 have X3:Whole w3 w2.heap.size 76 #[int i64 10,int i64 0,.slice (some ⟨G,0,none⟩) 2 2,.slice (some ⟨M,0,none⟩) 4 4,.slice (some ⟨C,0,none⟩) 2 2,.slice (some ⟨gA,0,none⟩) 4 p]:=by rw[hw3];exact Whole.new _ _ _
 have WO:Below w.heap.size w w3:=Below.next hw2 b23
 have an:=hid (HV.out gA p w3 (HT.out.of fun b hb=>WO.block b hb) (by
  obtain⟨c,e,h1,h2⟩:=SM
  exact⟨c,e,(b23.block _ (Array.getElem?_eq_some_iff.1 h1).1).trans h1,h2⟩) (yo.out _ _ hc2 _ b23))
 have x0:=X3.cell 0
 have x1:=X3.cell 1
 have x2:=X3.cell 2
 have x3:=X3.cell 3
 have x4:=X3.cell 4
 have x5:=X3.cell 5
 have HB3:=hid WO
 have AS:=hid WO.size
 rw[← hw3]
 clear hw3 WO X3 b23 hw2 SM hA2 hc2 hb2
 repeat refine aj.seq ?_
 refine aj.item ?_
 gi_wp2
 repeat refine aj.seq ?_
 refine aj.cond_false rfl ?_
 refine aj.skip ?_
 repeat refine aj.seq ?_
 refine aj.iD 1 zD ?_
 simp only[List.take_succ_cons,List.take_zero]
 gi_wp2
 refine jv rfl rfl rfl (enters_of func47 zk rfl) (Rc:=Qq w3) (args:=#[.agg #[int i64 10,int i64 0,.slice (some ⟨G,0,none⟩) 2 2,.slice (some ⟨M,0,none⟩) 4 4,.slice (some ⟨C,0,none⟩) 2 2,.slice (some ⟨gA,0,none⟩) 4 p]]) (by simp only[List.map_toArray,List.map_cons,List.map_nil];rfl) an.out ?_
 rintro x w4 ⟨v,rfl,hown,hpast⟩
 obtain⟨g,cap,rfl,hg1,hg2⟩:=hown.form zD
 have AG:=hid hown
 have AH:=hid hpast
 clear hown hpast x0 x1 x2 x3 x4 x5 hg1 hg2
 simp only[List.drop_succ_cons,List.drop_zero,Act.put,List.setIfInBounds_toArray,List.set_cons_succ,List.set_cons_zero]
 gi_wp2
 simp only[yR]
 gi_wp2
 exact⟨rfl,_,results_tmp2 rfl _ _ _,_,rfl,_,rfl,dP AG.out AS.out,Past.of HB3.out AH.out⟩
end
section
open Go.RowKit Go.Maps
def SV(w:World)(v:Value)(l:List Int):Prop:=∃A p,v=.slice A l.length p∧Ints w w.heap.size A l.length (fun i=>l.getD i 0)
theorem SV.below{w w':World}{v:Value}{l:List Int}(h:SV w v l)(hb:Below w.heap.size w w'):SV w' v l:=by
 obtain⟨A,p,rfl,hi⟩:=h
 exact⟨A,p,rfl,(hi.below hb).more hb.size⟩
theorem SV.past{w w':World}{v:Value}{l:List Int}(h:SV w v l)(hb:Past w w'):SV w' v l:=by
 obtain⟨τ,hb⟩:=hb
 exact SV.below (w:=cu.on w τ) h hb
theorem SV.own{w:World}{base:Nat}{v:Value}{l:List Int}(h:w.ownsRow base 3 1 v l.length (l.map (int i64))):SV w v l:=by
 obtain⟨A,c,rfl⟩:=dF h
 exact⟨A,c,rfl,dA h⟩
section
variable(G M C:Nat)(w:World)(h:(Tb 1 G M C).At w w.heap.size)
include h
theorem ee:CallsIn FF 0 prog 14 #[(Tb 1 G M C).val] w fun e w'=>e=.returned (.tuple #[int i64 4,int i64 0])∧Below w.heap.size w w':=by
 have:=gu (Tb 1 G M C) w h (jW 1 zD G M C) (Nat.le_refl 2) (fq 1 G M C) (by rw[lq];decide)
 rw[lq] at this
 exact this
theorem eR:CallsIn FF 0 prog 10 #[(Tb 1 G M C).val,int i64 0,int i64 10] w fun e w'=>∃v,e=.returned (.tuple #[v,int i64 0])∧SV w' v [4,5]∧Below w.heap.size w w':=by
 refine(KG (Tb 1 G M C) 0 10 w h (jW 1 zD G M C) (Nat.le_refl 2) (fq 1 G M C) (by rw[lq];decide) (by show 0<2;omega) (by show(10:Int)≤10;omega) (UC G M C) (fun x hx=>List.all_eq_true.1 (UD G M C) x hx)).mono ?_
 rintro e w' ⟨v,ss,rfl,hp,hown,hb⟩
 have hp':ss.Perm [4,5]:=by
  have hp2:ss.Perm (intKeys (mapD (fun h=>stk (Tb 1 G M C) h 10 4 0) (aG (Tb 1 G M C) (ak (Tb 1 G M C))))):=hp
  rwa[UA] at hp2
 rw[fR hp',hp'.length_eq] at hown
 exact⟨v,rfl,SV.own hown,hb⟩
theorem sY:CallsIn FF 0 prog 26 #[(Tb 1 G M C).val,int i64 3] w fun e w'=>∃v,e=.returned (.tuple #[v,int i64 0])∧SV w' v [0]∧Below w.heap.size w w':=by
 refine(Ar (Tb 1 G M C) 3 w h (jW 1 zD G M C) (Nat.le_refl 2) (fq 1 G M C) (by rw[lq];decide) (by show 3<4;omega) (YF G M C) (fun x hx=>List.all_eq_true.1 (YG G M C) x hx)).mono ?_
 rintro e w' ⟨v,ss,rfl,hp,hown,hb⟩
 have hp':ss.Perm [0]:=by
  have hp2:ss.Perm (intKeys (mapD (fun h=>h.real 3) (aG (Tb 1 G M C) (ak (Tb 1 G M C))))):=hp
  rwa[YE] at hp2
 rw[tn hp',hp'.length_eq] at hown
 exact⟨v,rfl,SV.own hown,hb⟩
theorem RO:CallsIn FF 0 prog 27 #[(Tb 1 G M C).val,int i64 3] w fun e w'=>e=.returned (.tuple #[int i64 1,int i64 0])∧Below w.heap.size w w':=by
 have:=uN (Tb 1 G M C) 3 w h (jW 1 zD G M C) (Nat.le_refl 2) (fq 1 G M C) (by rw[lq];decide) (by show 3<4;omega) rfl
 rw[lq,tD] at this
 exact this
theorem RJ:CallsIn FF 0 prog 27 #[(Tb 1 G M C).val,int i64 0] w fun e w'=>e=.returned (.tuple #[int i64 2,int i64 0])∧Below w.heap.size w w':=by
 have:=uN (Tb 1 G M C) 0 w h (jW 1 zD G M C) (Nat.le_refl 2) (fq 1 G M C) (by rw[lq];decide) (by show 0<4;omega) rfl
 rw[lq,tB] at this
 exact this
theorem e9:CallsIn FF 0 prog 28 #[(Tb 1 G M C).val,int i64 1,int i64 1,int i64 10] w fun e w'=>e=.returned (.tuple #[.agg #[int i64 0,int i64 1],int i64 0])∧Below w.heap.size w w':=by
 have:=KH (Tb 1 G M C) 1 1 10 w h (jW 1 zD G M C) (Nat.le_refl 2) (fq 1 G M C) (by show 1<2;omega) (by show uy 1 10 1 10=true;decide)
 rw[show bY (fun h=>kI (Tb 1 G M C) h 1 1 10 (Tb 1 G M C).nm) _=(0,1,true) from YC G M C] at this
 exact this
theorem YR:CallsIn FF 0 prog 29 #[(Tb 1 G M C).val,int i64 10] w fun e w'=>e=.returned (.tuple #[.agg #[int i64 30,int i64 35],int i64 0])∧Below w.heap.size w w':=by
 have:=Ig (Tb 1 G M C) 10 w h (jW 1 zD G M C) (Nat.le_refl 2) (fq 1 G M C) (by show(10:Int)≤10;omega)
 rw[show bY (fun h=>iI (Tb 1 G M C) (stk (Tb 1 G M C) h (10:Nat) (Tb 1 G M C).nm) (Tb 1 G M C).ng) _=(30,35,true) from UE G M C] at this
 exact this
theorem WZ:CallsIn FF 0 prog 12 #[(Tb 1 G M C).val,int i64 0,int i64 2] w fun e w'=>e=.returned (.tuple #[.agg #[int i64 2,int i64 2],int i64 0])∧Below w.heap.size w w':=by
 have:=Ie (Tb 1 G M C) 0 w h (jW 1 zD G M C) (Nat.le_refl 2) (fq 1 G M C) (by show 0<2;omega)
 rw[show bY (fun h=>IntKind.i64.wrap ((stk (Tb 1 G M C) h (Tb 1 G M C).days (Tb 1 G M C).nm 0).tdiv 2)) _=(2,2,true) from Uz G M C] at this
 exact this
theorem n8(rA:Option Addr)(rc:Nat)(hr:Ints w w.heap.size rA 2 rates):CallsIn FF 0 prog 9 #[(Tb 1 G M C).val,.slice rA 2 rc,int i64 4] w fun e w'=>∃v,e=.returned (.tuple #[v,int i64 40,int i64 0])∧SV w' v [1,1]∧Below w.heap.size w w':=by
 refine(Pm (Tb 1 G M C) rA 2 rc rates 4 w h (jW 1 zD G M C) (Nat.le_refl 2) (fq 1 G M C) hr rfl (YI G M C) (fun k hk=>by
  have hk:k<2:=hk
  rcases(show k=0∨k=1 by omega) with rfl|rfl <;> exact of_decide_eq_true zk) (fun i hi=>by
  rcases(show i=0∨i=1 by omega) with rfl|rfl <;> decide) zD).mono ?_
 rintro e w' ⟨v,rfl,hown,hb⟩
 rw[show wI (Tb 1 G M C) rates 4 (Tb 1 G M C).ng=40 from Yz G M C]
 rw[show wF (Tb 1 G M C) rates 4 (Tb 1 G M C).ng=[1,1] from Yy G M C] at hown
 exact⟨v,rfl,SV.own hown,hb⟩
theorem VP:CallsIn FF 0 prog 13 #[(Tb 1 G M C).val] w fun e w'=>∃v,e=.returned (.tuple #[v,int i64 0])∧SV w' v [3]∧Below w.heap.size w w':=by
 refine(Ic (Tb 1 G M C) 8 w h (jW 1 zD G M C) (Nat.le_refl 2) (fq 1 G M C) (gE G M C) zD).mono ?_
 rintro e w' ⟨v,rfl,hown,hb⟩
 rw[show aB 8 10=[3] from zD] at hown
 exact⟨v,rfl,SV.own hown,hb⟩
theorem fw(A1 A2 A3:Option Addr)(p1 p2 p3:Nat)(h1:Ints w w.heap.size A1 2 (fun i=>[3,5].getD i 0))(h2:Ints w w.heap.size A2 4 (fun i=>[4,2,0,10].getD i 0))(h3:Ints w w.heap.size A3 1 (fun i=>[3].getD i 0)):
 CallsIn FF 0 prog 25 #[(Tb 1 G M C).val,.slice A1 2 p1,.slice A2 4 p2,.slice A3 1 p3] w fun e w'=>∃v v',e=.returned (.tuple #[v,v',int i64 0])∧SV w' v [5,5]∧SV w' v' [3,5]∧Below w.heap.size w w':=by
 have hp:vU (Tb 1 G M C) [3,5] [4,2,0,10] [3]:=by
  refine⟨rfl,rfl,zD,zD,zD,fun x hx=>?_⟩
  simp at hx
  subst hx
  exact⟨3,rfl,by show 3<4;omega,rfl⟩
 refine(fx (Tb 1 G M C) [3,5] [4,2,0,10] [3] w (jW 1 zD G M C) (Nat.le_refl 2) hp h A1 A2 A3 p1 p2 p3 h1 h2 h3).mono ?_
 rintro e w' ⟨A,p,A',p',rfl,hi,hi',hb⟩
 have l0:D9 (Tb 1 G M C) [3,5] [4,2,0,10] [3] 0=5:=zk
 have l1:D9 (Tb 1 G M C) [3,5] [4,2,0,10] [3] 1=5:=zk
 have m0:Mj (Tb 1 G M C) [3,5] [4,2,0,10] [3] 0=3:=zk
 have m1:Mj (Tb 1 G M C) [3,5] [4,2,0,10] [3] 1=5:=zk
 have od:∀ {A:Option Addr} {f f':Nat→Int},Ints w' w'.heap.size A 2 f→(∀i,i<2→f i=f' i)→Ints w' w'.heap.size A 2 f':=fun hi he hn=>by
  obtain⟨ad,e,h1,h2⟩:=hi hn
  exact⟨ad,e,h1,fun i j hi hj=>by rw[h2 i j hi hj];show some (int i64 (_:Int))=some (int i64 _);rw[he i hi]⟩
 refine⟨_,_,rfl,⟨A,p,rfl,od hi fun i hi=>?_⟩,⟨A',p',rfl,od hi' fun i hi=>?_⟩,hb⟩
 ·rcases(show i=0∨i=1 by omega) with rfl|rfl
  ·exact l0
  ·exact l1
 ·rcases(show i=0∨i=1 by omega) with rfl|rfl
  ·exact m0
  ·exact m1
end
end
end Go.Proofs.YthaelabgfnnebaaGreat
