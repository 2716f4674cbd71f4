/- TF ST LW -/
import Derived.Test.YtmjjocnfidnelaaGreatD7
import Derived.Test.YtmjjocnfidnelaaGreatA4
set_option maxRecDepth 100000
set_option maxHeartbeats 16000000
set_option linter.unusedVariables false
set_option linter.unusedSectionVars false
set_option linter.unusedSimpArgs false
open Go.IntKind(i64)
open Go.Lib(hid)
open Go.Proofs.Tryz
open Go.Value(int)
namespace Go.Proofs.YtmjjocnfidnelaaGreat
section
open Go.RowKit Go.Maps
def SV(w:World)(v:Value)(l:List Int):Prop:=∃A p,v=.slice A l.length p∧Ints w w.heap.size A l.length (fun i=>l.getD i 0)
theorem SV.below{w w':World}{v:Value}{l:List Int}(h:SV w v l)(hb:Below w.heap.size w w'):SV w' v l:=by
 obtain⟨A,p,rfl,hi⟩:=h
 exact⟨A,p,rfl,(hi.below hb).more hb.size⟩
theorem SV.past{w w':World}{v:Value}{l:List Int}(h:SV w v l)(hb:Past w w'):SV w' v l:=by
 obtain⟨τ,hb⟩:=hb
 exact SV.below (w:=cZ.on w τ) h hb
theorem SV.own{w:World}{base:Nat}{v:Value}{l:List Int}(h:w.ownsRow base 3 1 v l.length (l.map (int i64))):SV w v l:=by
 obtain⟨A,c,rfl⟩:=dD h
 exact⟨A,c,rfl,aT h⟩
section
variable(G M C:Nat)(w:World)(h:(Tb 1 G M C).At w w.heap.size)
include h
theorem ft:CallsIn FF 0 prog 13 #[(Tb 1 G M C).val] w fun e w'=>e=.returned (.tuple #[int i64 4,int i64 0])∧Below w.heap.size w w':=by
 have:=vU (Tb 1 G M C) w h (jY 1 zD G M C) (Nat.le_refl 2) (fB 1 G M C) (by rw[lH];decide)
 rw[lH] at this
 exact this
theorem gm:CallsIn FF 0 prog 14 #[(Tb 1 G M C).val,int i64 0,int i64 10] w fun e w'=>∃v,e=.returned (.tuple #[v,int i64 0])∧SV w' v [4,5]∧Below w.heap.size w w':=by
 refine(KZ (Tb 1 G M C) 0 10 w h (jY 1 zD G M C) (Nat.le_refl 2) (fB 1 G M C) (by rw[lH];decide) (by show 0<2;omega) (by show(10:Int)≤10;omega) (Vg G M C) (fun x hx=>List.all_eq_true.1 (Vh G M C) x hx)).mono ?_
 rintro e w' ⟨v,ss,rfl,hp,hown,hb⟩
 have hp':ss.Perm [4,5]:=by
  have hp2:ss.Perm (intKeys (mapD (fun h=>stk (Tb 1 G M C) h 10 4 0) (aH (Tb 1 G M C) (au (Tb 1 G M C))))):=hp
  rwa[Vf] at hp2
 rw[im hp',hp'.length_eq] at hown
 exact⟨v,rfl,SV.own hown,hb⟩
theorem uv:CallsIn FF 0 prog 15 #[(Tb 1 G M C).val,int i64 3] w fun e w'=>∃v,e=.returned (.tuple #[v,int i64 0])∧SV w' v [0]∧Below w.heap.size w w':=by
 refine(Bq (Tb 1 G M C) 3 w h (jY 1 zD G M C) (Nat.le_refl 2) (fB 1 G M C) (by rw[lH];decide) (by show 3<4;omega) (Zi G M C) (fun x hx=>List.all_eq_true.1 (Zj G M C) x hx)).mono ?_
 rintro e w' ⟨v,ss,rfl,hp,hown,hb⟩
 have hp':ss.Perm [0]:=by
  have hp2:ss.Perm (intKeys (mapD (fun h=>h.real 3) (aH (Tb 1 G M C) (au (Tb 1 G M C))))):=hp
  rwa[Zh] at hp2
 rw[vb hp',hp'.length_eq] at hown
 exact⟨v,rfl,SV.own hown,hb⟩
theorem Sd:CallsIn FF 0 prog 16 #[(Tb 1 G M C).val,int i64 3] w fun e w'=>e=.returned (.tuple #[int i64 1,int i64 0])∧Below w.heap.size w w':=by
 have:=vE (Tb 1 G M C) 3 w h (jY 1 zD G M C) (Nat.le_refl 2) (fB 1 G M C) (by rw[lH];decide) (by show 3<4;omega) rfl
 rw[lH,vt] at this
 exact this
theorem Sb:CallsIn FF 0 prog 16 #[(Tb 1 G M C).val,int i64 0] w fun e w'=>e=.returned (.tuple #[int i64 2,int i64 0])∧Below w.heap.size w w':=by
 have:=vE (Tb 1 G M C) 0 w h (jY 1 zD G M C) (Nat.le_refl 2) (fB 1 G M C) (by rw[lH];decide) (by show 0<4;omega) rfl
 rw[lH,vr] at this
 exact this
theorem gp:CallsIn FF 0 prog 17 #[(Tb 1 G M C).val,int i64 1,int i64 1,int i64 10] w fun e w'=>e=.returned (.tuple #[.agg #[int i64 0,int i64 1],int i64 0])∧Below w.heap.size w w':=by
 have:=La (Tb 1 G M C) 1 1 10 w h (jY 1 zD G M C) (Nat.le_refl 2) (fB 1 G M C) (by show 1<2;omega) (by show uR 1 10 1 10=true;decide)
 rw[show bX (fun h=>kM (Tb 1 G M C) h 1 1 10 (Tb 1 G M C).nm) _=(0,1,true) from Zf G M C] at this
 exact this
theorem Zy:CallsIn FF 0 prog 18 #[(Tb 1 G M C).val,int i64 10] w fun e w'=>e=.returned (.tuple #[.agg #[int i64 30,int i64 35],int i64 0])∧Below w.heap.size w w':=by
 have:=Iq (Tb 1 G M C) 10 w h (jY 1 zD G M C) (Nat.le_refl 2) (fB 1 G M C) (by show(10:Int)≤10;omega)
 rw[show bX (fun h=>iJ (Tb 1 G M C) (stk (Tb 1 G M C) h (10:Nat) (Tb 1 G M C).nm) (Tb 1 G M C).ng) _=(30,35,true) from Vj G M C] at this
 exact this
theorem XC:CallsIn FF 0 prog 19 #[(Tb 1 G M C).val,int i64 0,int i64 2] w fun e w'=>e=.returned (.tuple #[.agg #[int i64 2,int i64 2],int i64 0])∧Below w.heap.size w w':=by
 have:=Ip (Tb 1 G M C) 0 w h (jY 1 zD G M C) (Nat.le_refl 2) (fB 1 G M C) (by show 0<2;omega)
 rw[show bX (fun h=>IntKind.i64.wrap ((stk (Tb 1 G M C) h (Tb 1 G M C).days (Tb 1 G M C).nm 0).tdiv 2)) _=(2,2,true) from Ve G M C] at this
 exact this
theorem py(rA:Option Addr)(rc:Nat)(hr:Ints w w.heap.size rA 2 rates):CallsIn FF 0 prog 20 #[(Tb 1 G M C).val,.slice rA 2 rc,int i64 4] w fun e w'=>∃v,e=.returned (.tuple #[v,int i64 40,int i64 0])∧SV w' v [1,1]∧Below w.heap.size w w':=by
 refine(PN (Tb 1 G M C) rA 2 rc rates 4 w h (jY 1 zD G M C) (Nat.le_refl 2) (fB 1 G M C) hr rfl (Zl G M C) (fun k hk=>by
  have hk:k<2:=hk
  rcases(show k=0∨k=1 by omega) with rfl|rfl <;> exact of_decide_eq_true zk) (fun i hi=>by
  rcases(show i=0∨i=1 by omega) with rfl|rfl <;> decide) zD).mono ?_
 rintro e w' ⟨v,rfl,hown,hb⟩
 rw[show xw (Tb 1 G M C) rates 4 (Tb 1 G M C).ng=40 from Zd G M C]
 rw[show xg (Tb 1 G M C) rates 4 (Tb 1 G M C).ng=[1,1] from Zc G M C] at hown
 exact⟨v,rfl,SV.own hown,hb⟩
theorem Wz:CallsIn FF 0 prog 21 #[(Tb 1 G M C).val] w fun e w'=>∃v,e=.returned (.tuple #[v,int i64 0])∧SV w' v [3]∧Below w.heap.size w w':=by
 refine(Io (Tb 1 G M C) 8 w h (jY 1 zD G M C) (Nat.le_refl 2) (fB 1 G M C) (km G M C) zD).mono ?_
 rintro e w' ⟨v,rfl,hown,hb⟩
 rw[show aM 8 10=[3] from zD] at hown
 exact⟨v,rfl,SV.own hown,hb⟩
theorem ib(A1 A2 A3:Option Addr)(p1 p2 p3:Nat)(h1:Ints w w.heap.size A1 2 (fun i=>[3,5].getD i 0))(h2:Ints w w.heap.size A2 4 (fun i=>[4,2,0,10].getD i 0))(h3:Ints w w.heap.size A3 1 (fun i=>[3].getD i 0)):
 CallsIn FF 0 prog 7 #[(Tb 1 G M C).val,.slice A1 2 p1,.slice A2 4 p2,.slice A3 1 p3] w fun e w'=>∃v v',e=.returned (.tuple #[v,v',int i64 0])∧SV w' v [5,5]∧SV w' v' [3,5]∧Below w.heap.size w w':=by
 have hp:nL (Tb 1 G M C) [3,5] [4,2,0,10] [3]:=by
  refine⟨rfl,rfl,zD,zD,zD,fun x hx=>?_⟩
  simp at hx
  subst hx
  exact⟨3,rfl,by show 3<4;omega,rfl⟩
 refine(Uj (Tb 1 G M C) [3,5] [4,2,0,10] [3] w (jY 1 zD G M C) (Nat.le_refl 2) hp h A1 A2 A3 p1 p2 p3 h1 h2 h3).mono ?_
 rintro e w' ⟨A,p,A',p',rfl,hi,hi',hb⟩
 have l0:jM (Tb 1 G M C) [3,5] [4,2,0,10] [3] 0=5:=zk
 have l1:jM (Tb 1 G M C) [3,5] [4,2,0,10] [3] 1=5:=zk
 have m0:pR (Tb 1 G M C) [3,5] [4,2,0,10] [3] 0=3:=zk
 have m1:pR (Tb 1 G M C) [3,5] [4,2,0,10] [3] 1=5:=zk
 have pM:∀ {A:Option Addr} {f f':Nat→Int},Ints w' w'.heap.size A 2 f→(∀i,i<2→f i=f' i)→Ints w' w'.heap.size A 2 f':=fun hi he hn=>by
  obtain⟨ad,e,h1,h2⟩:=hi hn
  exact⟨ad,e,h1,fun i j hi hj=>by rw[h2 i j hi hj];show some (int i64 (_:Int))=some (int i64 _);rw[he i hi]⟩
 refine⟨_,_,rfl,⟨A,p,rfl,pM hi fun i hi=>?_⟩,⟨A',p',rfl,pM hi' fun i hi=>?_⟩,hb⟩
 ·rcases(show i=0∨i=1 by omega) with rfl|rfl
  ·exact l0
  ·exact l1
 ·rcases(show i=0∨i=1 by omega) with rfl|rfl
  ·exact m0
  ·exact m1
end
end
section
open Go Go.Conc Go.ConcN Go.cZ Go.Conc.Lib Go.aQ Go.RowKit
open Go.Sort (grow)
attribute [local go_sem] Oper.semAt_some
variable[Inhabited aZ]
theorem gZ(m:Int)(G M C:Nat):(Tb m G M C).val=.agg #[int i64 10,int i64 m,.slice (some ⟨G,0,none⟩) 2 2,.slice (some ⟨M,0,none⟩) 4 4,.slice (some ⟨C,0,none⟩) 2 2]:=rfl
structure Sk(w W:World)(B G M C:Nat):Prop where
 at_:(Tb 1 G M C).At W W.heap.size
 tb:VJ W G M C
 box:Whole W B 26 #[int i64 10,int i64 1,.slice (some ⟨G,0,none⟩) 2 2,.slice (some ⟨M,0,none⟩) 4 4,.slice (some ⟨C,0,none⟩) 2 2]
 past:Below w.heap.size w W
theorem Sk.below{w W W':World}{B G M C:Nat}(h:Sk w W B G M C)(hb:Below W.heap.size W W'):Sk w W' B G M C:=
 ⟨h.at_.up hb,h.tb.of (fun b hl=>hb.block b hl),h.box.below hb h.box.lt,Below.next h.past hb⟩
section
variable{w:World}{B:Nat}{t:TypeId}{a b c d:Int}
theorem wE(h:Whole w B t #[int i64 a]):Ints w w.heap.size (some ⟨B,0,none⟩) 1 (fun i=>[a].getD i 0):=aR h fun i j hi hj=>by
 obtain rfl:i=0:=zo
 obtain rfl:j=0:=zo
 rfl
theorem rX(h:Whole w B t #[int i64 a,int i64 b]):Ints w w.heap.size (some ⟨B,0,none⟩) 2 (fun i=>[a,b].getD i 0):=aR h fun i j hi hj=>by
 obtain rfl:j=0:=zo
 rcases(show i=0∨i=1 by omega) with rfl|rfl <;> rfl
theorem Xx(h:Whole w B t #[int i64 a,int i64 b,int i64 c,int i64 d]):Ints w w.heap.size (some ⟨B,0,none⟩) 4 (fun i=>[a,b,c,d].getD i 0):=aR h fun i j hi hj=>by
 obtain rfl:j=0:=zo
 rcases(show i=0∨i=1∨i=2∨i=3 by omega) with rfl|rfl|rfl|rfl <;> rfl
theorem Ke(h:Whole w B t #[int i64 2,int i64 3]):Ints w w.heap.size (some ⟨B,0,none⟩) 2 rates:=aR h fun i j hi hj=>by
 obtain rfl:j=0:=zo
 rcases(show i=0∨i=1 by omega) with rfl|rfl <;> rfl
end
theorem SV.set1{W:World}{v x:Value}{l:List Int}{B:Nat}{t:TypeId}{cs:Array Value}(h:SV W v l)(hB:Whole W B t cs)(hne:∀o,∃i,i<l.length∧cs[o+i]?≠some (int i64 (l.getD i 0))):SV (W.setCell ⟨B,1,none⟩ x) v l:=by
 obtain⟨A,p,rfl,hi⟩:=h
 refine⟨A,p,rfl,fun hn=>?_⟩
 obtain⟨ad,rfl,hlt,hc⟩:=hi hn
 have hs:(W.setCell ⟨B,1,none⟩ x).heap.size=W.heap.size:=by simp[World.setCell]
 have hb:ad.block≠B:=fun e=>by
  obtain⟨blk,off,spot⟩:=ad
  simp only at e
  subst e
  obtain⟨i,hil,hx⟩:=hne off
  have h1:=hc i 0 hil zD
  rw[Nat.mul_one,Nat.add_zero] at h1
  cases spot with
  | none=>
    have h2:(⟨blk,off,none⟩:Addr).add i=⟨blk,off+i,none⟩:=by unfold Addr.add;split <;> simp_all
    rw[h2,hB.cell] at h1
    exact hx h1
  | some s=>
    unfold Whole at hB
    have h2:=hc 0 0 hn zD
    rw[Nat.mul_one,Nat.add_zero] at h2
    have h3:(⟨blk,off,some s⟩:Addr).add 0=⟨blk,off,some s⟩:=by unfold Addr.add;simp
    rw[h3] at h2
    unfold World.cell? at h2
    simp only[hB] at h2
    simp at h2
 refine⟨ad,rfl,by rw[hs];exact hlt,fun i j hi hj=>?_⟩
 refine Eq.trans (World.cell?_of_block (Below.heap_setCell _ _ _ _ ?_)) (hc i j hi hj)
 rw[aD]
 exact hb
def qC(w:World)(x:Value)(w':World):Prop:=x=.bool true∧Past w w'
theorem om(w:World):iR 5 #[] w (qC w):=by
 have HE:=hid JM
 refine kH func5 rfl zs ?_
 simp only[ntmps5,List.size_toArray,List.length_cons,List.length_nil,Nat.reduceAdd,Nat.reduceSub,Array.replicate_succ,Array.replicate_zero,List.push_toArray,List.append_toArray,List.nil_append,List.cons_append]
 repeat refine ak.seq ?_
 refine ak.item ?_
 gi_wp2
 repeat refine ak.seq ?_
 refine ak.item ?_
 gi_wp2_with (gi_at_call 12;refine(HE.out w).mono ?_;rintro e w1 ⟨G,M,C,rfl,hA1,hb1,hT1⟩;rw[gZ])
 obtain⟨W2,hW2⟩:∃W,W=w1.alloc (.cells #[int i64 10,int i64 1,.slice (some ⟨G,0,none⟩) 2 2,.slice (some ⟨M,0,none⟩) 4 4,.slice (some ⟨C,0,none⟩) 2 2] 26):=⟨_,rfl⟩
 have b12:Below w1.heap.size w1 W2:=by rw[hW2];exact bw
 have K2:Hid (Sk w W2 w1.heap.size G M C):=hid ⟨hA1.up b12,hT1.of (fun b hl=>b12.block b hl),by rw[hW2];exact Whole.new _ _ _,Below.next hb1 b12⟩
 have HG:Hid (G<w1.heap.size∧M<w1.heap.size∧C<w1.heap.size):=hid ⟨hT1.1.lt,hT1.2.1.lt,hT1.2.2.lt⟩
 have HB:Hid (w.heap.size≤w1.heap.size):=hid hb1.size
 rw[← hW2]
 obtain⟨B,hB⟩:∃B,B=w1.heap.size:=⟨_,rfl⟩
 rw[← hB] at K2 HG HB⊢
 clear hW2 b12 hA1 hb1 hT1 hB
 have c0:W2.cell? ⟨B,0,none⟩=some (int i64 10):=K2.out.box.cell 0
 have c1:W2.cell? ⟨B,1,none⟩=some (int i64 1):=K2.out.box.cell 1
 have c2:W2.cell? ⟨B,2,none⟩=some (.slice (some ⟨G,0,none⟩) 2 2):=K2.out.box.cell 2
 have c3:W2.cell? ⟨B,3,none⟩=some (.slice (some ⟨M,0,none⟩) 4 4):=K2.out.box.cell 3
 have c4:W2.cell? ⟨B,4,none⟩=some (.slice (some ⟨C,0,none⟩) 2 2):=K2.out.box.cell 4
 repeat refine ak.seq ?_
 refine ak.item ?_
 obtain⟨Wa,hWa⟩:∃Wa,Wa=((W2.alloc (.cells #[int i64 3,int i64 5] 3)).alloc (.cells #[int i64 4,int i64 2,int i64 0,int i64 10] 3)).alloc (.cells #[int i64 3] 3):=⟨_,rfl⟩
 have ba:Below W2.heap.size W2 Wa:=by rw[hWa];exact bw
 have a1:Whole Wa W2.heap.size 3 #[int i64 3,int i64 5]:=by rw[hWa];exact((Whole.new W2 _ _).alloc _).alloc _
 have a2:Whole Wa (W2.heap.size+1) 3 #[int i64 4,int i64 2,int i64 0,int i64 10]:=by rw[hWa];exact(aP zs).alloc _
 have a3:Whole Wa (W2.heap.size+1+1) 3 #[int i64 3]:=by rw[hWa];exact aP zs
 have ZH:=hid (ib G M C Wa (K2.out.at_.up ba) (some ⟨W2.heap.size,0,none⟩) (some ⟨W2.heap.size+1,0,none⟩) (some ⟨W2.heap.size+1+1,0,none⟩) 2 4 1 (rX a1) (Xx a2) (wE a3))
 rw[gZ] at ZH
 have oS:=hid hWa
 have oX:=hid ba
 clear hWa ba a1 a2 a3
 gi_wp2_with (gi_at_call 7;rw[← oS.out];refine ZH.out.mono ?_;rintro e W3 ⟨vx,vy,rfl,sx,sy,hb3⟩)
 have QA:Below W2.heap.size W2 W3:=Below.next oX.out hb3
 have K3:=hid (K2.out.below QA)
 have X3:=hid sx
 have Y3:=hid sy
 clear sx sy hb3 QA K2 ZH oS oX
 clear c0 c1 c2 c3 c4
 have c0:W3.cell? ⟨B,0,none⟩=some (int i64 10):=K3.out.box.cell 0
 have c1:W3.cell? ⟨B,1,none⟩=some (int i64 1):=K3.out.box.cell 1
 have c2:W3.cell? ⟨B,2,none⟩=some (.slice (some ⟨G,0,none⟩) 2 2):=K3.out.box.cell 2
 have c3:W3.cell? ⟨B,3,none⟩=some (.slice (some ⟨M,0,none⟩) 4 4):=K3.out.box.cell 3
 have c4:W3.cell? ⟨B,4,none⟩=some (.slice (some ⟨C,0,none⟩) 2 2):=K3.out.box.cell 4
 repeat refine ak.seq ?_
 refine ak.item ?_
 have HC:=hid (ft G M C W3 K3.out.at_)
 rw[gZ] at HC
 gi_wp2_with (gi_at_call 13;refine HC.out.mono ?_;rintro e Wn ⟨rfl,hbn⟩)
 obtain⟨W4,hW⟩:∃W,W=Wn:=⟨_,rfl⟩
 subst hW
 have dI:=hbn
 have K4:=hid (K3.out.below dI)
 have X4:=hid (X3.out.below dI)
 have Y4:=hid (Y3.out.below dI)
 clear dI HC K3 X3 Y3
 clear c0 c1 c2 c3 c4
 have c0:W4.cell? ⟨B,0,none⟩=some (int i64 10):=K4.out.box.cell 0
 have c1:W4.cell? ⟨B,1,none⟩=some (int i64 1):=K4.out.box.cell 1
 have c2:W4.cell? ⟨B,2,none⟩=some (.slice (some ⟨G,0,none⟩) 2 2):=K4.out.box.cell 2
 have c3:W4.cell? ⟨B,3,none⟩=some (.slice (some ⟨M,0,none⟩) 4 4):=K4.out.box.cell 3
 have c4:W4.cell? ⟨B,4,none⟩=some (.slice (some ⟨C,0,none⟩) 2 2):=K4.out.box.cell 4
 repeat refine ak.seq ?_
 refine ak.item ?_
 have HC:=hid (gm G M C W4 K4.out.at_)
 rw[gZ] at HC
 gi_wp2_with (gi_at_call 14;refine HC.out.mono ?_;rintro e Wn ⟨vu,rfl,su,hbn⟩)
 obtain⟨W5,hW⟩:∃W,W=Wn:=⟨_,rfl⟩
 subst hW
 have dI:=hbn
 have K5:=hid (K4.out.below dI)
 have X5:=hid (X4.out.below dI)
 have Y5:=hid (Y4.out.below dI)
 have U5:=hid su
 clear dI HC K4 X4 Y4 su
 clear c0 c1 c2 c3 c4
 have c0:W5.cell? ⟨B,0,none⟩=some (int i64 10):=K5.out.box.cell 0
 have c1:W5.cell? ⟨B,1,none⟩=some (int i64 1):=K5.out.box.cell 1
 have c2:W5.cell? ⟨B,2,none⟩=some (.slice (some ⟨G,0,none⟩) 2 2):=K5.out.box.cell 2
 have c3:W5.cell? ⟨B,3,none⟩=some (.slice (some ⟨M,0,none⟩) 4 4):=K5.out.box.cell 3
 have c4:W5.cell? ⟨B,4,none⟩=some (.slice (some ⟨C,0,none⟩) 2 2):=K5.out.box.cell 4
 repeat refine ak.seq ?_
 refine ak.item ?_
 have HC:=hid (uv G M C W5 K5.out.at_)
 rw[gZ] at HC
 gi_wp2_with (gi_at_call 15;refine HC.out.mono ?_;rintro e Wn ⟨vv,rfl,sv,hbn⟩)
 obtain⟨W6,hW⟩:∃W,W=Wn:=⟨_,rfl⟩
 subst hW
 have dI:=hbn
 have K6:=hid (K5.out.below dI)
 have X6:=hid (X5.out.below dI)
 have Y6:=hid (Y5.out.below dI)
 have U6:=hid (U5.out.below dI)
 have V6:=hid sv
 clear dI HC K5 X5 Y5 U5 sv
 clear c0 c1 c2 c3 c4
 have c0:W6.cell? ⟨B,0,none⟩=some (int i64 10):=K6.out.box.cell 0
 have c1:W6.cell? ⟨B,1,none⟩=some (int i64 1):=K6.out.box.cell 1
 have c2:W6.cell? ⟨B,2,none⟩=some (.slice (some ⟨G,0,none⟩) 2 2):=K6.out.box.cell 2
 have c3:W6.cell? ⟨B,3,none⟩=some (.slice (some ⟨M,0,none⟩) 4 4):=K6.out.box.cell 3
 have c4:W6.cell? ⟨B,4,none⟩=some (.slice (some ⟨C,0,none⟩) 2 2):=K6.out.box.cell 4
 repeat refine ak.seq ?_
 refine ak.item ?_
 have HC:=hid (Sd G M C W6 K6.out.at_)
 rw[gZ] at HC
 gi_wp2_with (gi_at_call 16;refine HC.out.mono ?_;rintro e Wn ⟨rfl,hbn⟩)
 obtain⟨W7,hW⟩:∃W,W=Wn:=⟨_,rfl⟩
 subst hW
 have dI:=hbn
 have K7:=hid (K6.out.below dI)
 have X7:=hid (X6.out.below dI)
 have Y7:=hid (Y6.out.below dI)
 have U7:=hid (U6.out.below dI)
 have V7:=hid (V6.out.below dI)
 clear dI HC K6 X6 Y6 U6 V6
 clear c0 c1 c2 c3 c4
 have c0:W7.cell? ⟨B,0,none⟩=some (int i64 10):=K7.out.box.cell 0
 have c1:W7.cell? ⟨B,1,none⟩=some (int i64 1):=K7.out.box.cell 1
 have c2:W7.cell? ⟨B,2,none⟩=some (.slice (some ⟨G,0,none⟩) 2 2):=K7.out.box.cell 2
 have c3:W7.cell? ⟨B,3,none⟩=some (.slice (some ⟨M,0,none⟩) 4 4):=K7.out.box.cell 3
 have c4:W7.cell? ⟨B,4,none⟩=some (.slice (some ⟨C,0,none⟩) 2 2):=K7.out.box.cell 4
 repeat refine ak.seq ?_
 refine ak.item ?_
 have HC:=hid (Sb G M C W7 K7.out.at_)
 rw[gZ] at HC
 gi_wp2_with (gi_at_call 16;refine HC.out.mono ?_;rintro e Wn ⟨rfl,hbn⟩)
 obtain⟨W8,hW⟩:∃W,W=Wn:=⟨_,rfl⟩
 subst hW
 have dI:=hbn
 have K8:=hid (K7.out.below dI)
 have X8:=hid (X7.out.below dI)
 have Y8:=hid (Y7.out.below dI)
 have U8:=hid (U7.out.below dI)
 have V8:=hid (V7.out.below dI)
 clear dI HC K7 X7 Y7 U7 V7
 clear c0 c1 c2 c3 c4
 have c0:W8.cell? ⟨B,0,none⟩=some (int i64 10):=K8.out.box.cell 0
 have c1:W8.cell? ⟨B,1,none⟩=some (int i64 1):=K8.out.box.cell 1
 have c2:W8.cell? ⟨B,2,none⟩=some (.slice (some ⟨G,0,none⟩) 2 2):=K8.out.box.cell 2
 have c3:W8.cell? ⟨B,3,none⟩=some (.slice (some ⟨M,0,none⟩) 4 4):=K8.out.box.cell 3
 have c4:W8.cell? ⟨B,4,none⟩=some (.slice (some ⟨C,0,none⟩) 2 2):=K8.out.box.cell 4
 repeat refine ak.seq ?_
 refine ak.item ?_
 have HC:=hid (gp G M C W8 K8.out.at_)
 rw[gZ] at HC
 gi_wp2_with (gi_at_call 17;refine HC.out.mono ?_;rintro e Wn ⟨rfl,hbn⟩)
 obtain⟨W9,hW⟩:∃W,W=Wn.alloc (.cells #[int i64 0,int i64 1] 39):=⟨_,rfl⟩
 have dI:Below W8.heap.size W8 W9:=by rw[hW];exact Below.al hbn _
 have qA:Hid (Whole W9 Wn.heap.size 39 #[int i64 0,int i64 1]):=hid (by rw[hW];exact Whole.new _ _ _)
 obtain⟨BA,oI⟩:∃B,B=Wn.heap.size:=⟨_,rfl⟩
 rw[← hW,← oI]
 rw[← oI] at qA
 have A9:=qA
 clear hW hbn oI qA
 have K9:=hid (K8.out.below dI)
 have X9:=hid (X8.out.below dI)
 have Y9:=hid (Y8.out.below dI)
 have U9:=hid (U8.out.below dI)
 have V9:=hid (V8.out.below dI)
 clear dI HC K8 X8 Y8 U8 V8
 clear c0 c1 c2 c3 c4
 have c0:W9.cell? ⟨B,0,none⟩=some (int i64 10):=K9.out.box.cell 0
 have c1:W9.cell? ⟨B,1,none⟩=some (int i64 1):=K9.out.box.cell 1
 have c2:W9.cell? ⟨B,2,none⟩=some (.slice (some ⟨G,0,none⟩) 2 2):=K9.out.box.cell 2
 have c3:W9.cell? ⟨B,3,none⟩=some (.slice (some ⟨M,0,none⟩) 4 4):=K9.out.box.cell 3
 have c4:W9.cell? ⟨B,4,none⟩=some (.slice (some ⟨C,0,none⟩) 2 2):=K9.out.box.cell 4
 repeat refine ak.seq ?_
 refine ak.item ?_
 have HC:=hid (Zy G M C W9 K9.out.at_)
 rw[gZ] at HC
 gi_wp2_with (gi_at_call 18;refine HC.out.mono ?_;rintro e Wn ⟨rfl,hbn⟩)
 obtain⟨VK,hW⟩:∃W,W=Wn.alloc (.cells #[int i64 30,int i64 35] 39):=⟨_,rfl⟩
 have dI:Below W9.heap.size W9 VK:=by rw[hW];exact Below.al hbn _
 have Pa:Hid (Whole VK Wn.heap.size 39 #[int i64 30,int i64 35]):=hid (by rw[hW];exact Whole.new _ _ _)
 obtain⟨P3,fb⟩:∃B,B=Wn.heap.size:=⟨_,rfl⟩
 rw[← hW,← fb]
 rw[← fb] at Pa
 have dr:=Pa
 clear hW hbn fb Pa
 have ZK:=hid (K9.out.below dI)
 have T':=hid (X9.out.below dI)
 have US:=hid (Y9.out.below dI)
 have TE:=hid (U9.out.below dI)
 have T5:=hid (V9.out.below dI)
 have Bi:=hid (A9.out.below dI A9.out.lt)
 clear dI HC K9 X9 Y9 U9 V9 A9
 clear c0 c1 c2 c3 c4
 have c0:VK.cell? ⟨B,0,none⟩=some (int i64 10):=ZK.out.box.cell 0
 have c1:VK.cell? ⟨B,1,none⟩=some (int i64 1):=ZK.out.box.cell 1
 have c2:VK.cell? ⟨B,2,none⟩=some (.slice (some ⟨G,0,none⟩) 2 2):=ZK.out.box.cell 2
 have c3:VK.cell? ⟨B,3,none⟩=some (.slice (some ⟨M,0,none⟩) 4 4):=ZK.out.box.cell 3
 have c4:VK.cell? ⟨B,4,none⟩=some (.slice (some ⟨C,0,none⟩) 2 2):=ZK.out.box.cell 4
 repeat refine ak.seq ?_
 refine ak.item ?_
 have HC:=hid (XC G M C VK ZK.out.at_)
 rw[gZ] at HC
 gi_wp2_with (gi_at_call 19;refine HC.out.mono ?_;rintro e Wn ⟨rfl,hbn⟩)
 obtain⟨Fv,hW⟩:∃W,W=Wn.alloc (.cells #[int i64 2,int i64 2] 39):=⟨_,rfl⟩
 have dI:Below VK.heap.size VK Fv:=by rw[hW];exact Below.al hbn _
 have qD:Hid (Whole Fv Wn.heap.size 39 #[int i64 2,int i64 2]):=hid (by rw[hW];exact Whole.new _ _ _)
 obtain⟨BD,HD⟩:∃B,B=Wn.heap.size:=⟨_,rfl⟩
 rw[← hW,← HD]
 rw[← HD] at qD
 have BV:=qD
 clear hW hbn HD qD
 have ZL:=hid (ZK.out.below dI)
 have Jl:=hid (T'.out.below dI)
 have ya:=hid (US.out.below dI)
 have TO:=hid (TE.out.below dI)
 have T6:=hid (T5.out.below dI)
 have Bm:=hid (Bi.out.below dI Bi.out.lt)
 have dt:=hid (dr.out.below dI dr.out.lt)
 clear dI HC ZK T' US TE T5 Bi dr
 clear c0 c1 c2 c3 c4
 have c0:Fv.cell? ⟨B,0,none⟩=some (int i64 10):=ZL.out.box.cell 0
 have c1:Fv.cell? ⟨B,1,none⟩=some (int i64 1):=ZL.out.box.cell 1
 have c2:Fv.cell? ⟨B,2,none⟩=some (.slice (some ⟨G,0,none⟩) 2 2):=ZL.out.box.cell 2
 have c3:Fv.cell? ⟨B,3,none⟩=some (.slice (some ⟨M,0,none⟩) 4 4):=ZL.out.box.cell 3
 have c4:Fv.cell? ⟨B,4,none⟩=some (.slice (some ⟨C,0,none⟩) 2 2):=ZL.out.box.cell 4
 repeat refine ak.seq ?_
 refine ak.item ?_
 obtain⟨Wa,hWa⟩:∃Wa,Wa=Fv.alloc (.cells #[int i64 2,int i64 3] 3):=⟨_,rfl⟩
 have ba:Below Fv.heap.size Fv Wa:=by rw[hWa];exact bw
 have a1:Whole Wa Fv.heap.size 3 #[int i64 2,int i64 3]:=by rw[hWa];exact Whole.new _ _ _
 have HC:=hid (py G M C Wa (ZL.out.at_.up ba) (some ⟨Fv.heap.size,0,none⟩) 2 (Ke a1))
 rw[gZ] at HC
 have oS:=hid hWa
 have oX:=hid ba
 clear hWa ba a1
 gi_wp2_with (gi_at_call 20;rw[← oS.out];refine HC.out.mono ?_;rintro e VL ⟨vp,rfl,sp,JW⟩)
 have dI:Below Fv.heap.size Fv VL:=Below.next oX.out JW
 have ZM:=hid (ZL.out.below dI)
 have wQ:=hid (Jl.out.below dI)
 have UT:=hid (ya.out.below dI)
 have TX:=hid (TO.out.below dI)
 have T7:=hid (T6.out.below dI)
 have Bs:=hid (Bm.out.below dI Bm.out.lt)
 have du:=hid (dt.out.below dI dt.out.lt)
 have BW:=hid (BV.out.below dI BV.out.lt)
 have Ts:=hid sp
 clear dI JW sp HC oS oX ZL Jl ya TO T6 Bm dt BV
 clear c0 c1 c2 c3 c4
 have c0:VL.cell? ⟨B,0,none⟩=some (int i64 10):=ZM.out.box.cell 0
 have c1:VL.cell? ⟨B,1,none⟩=some (int i64 1):=ZM.out.box.cell 1
 have c2:VL.cell? ⟨B,2,none⟩=some (.slice (some ⟨G,0,none⟩) 2 2):=ZM.out.box.cell 2
 have c3:VL.cell? ⟨B,3,none⟩=some (.slice (some ⟨M,0,none⟩) 4 4):=ZM.out.box.cell 3
 have c4:VL.cell? ⟨B,4,none⟩=some (.slice (some ⟨C,0,none⟩) 2 2):=ZM.out.box.cell 4
 repeat refine ak.seq ?_
 refine ak.item ?_
 have HC:=hid (Wz G M C VL ZM.out.at_)
 rw[gZ] at HC
 gi_wp2_with (gi_at_call 21;refine HC.out.mono ?_;rintro e Wn ⟨ve,rfl,se,hbn⟩)
 obtain⟨mn,hW⟩:∃W,W=Wn:=⟨_,rfl⟩
 subst hW
 have dI:=hbn
 have ZN:=hid (ZM.out.below dI)
 have Up:=hid (wQ.out.below dI)
 have UX:=hid (UT.out.below dI)
 have TZ:=hid (TX.out.below dI)
 have pr:=hid (T7.out.below dI)
 have Bx:=hid (Bs.out.below dI Bs.out.lt)
 have dv:=hid (du.out.below dI du.out.lt)
 have BY:=hid (BW.out.below dI BW.out.lt)
 have Tu:=hid (Ts.out.below dI)
 have QP:=hid se
 clear dI HC ZM wQ UT TX T7 Bs du BW Ts se
 clear c0 c1 c2 c3 c4
 have c0:mn.cell? ⟨B,0,none⟩=some (int i64 10):=ZN.out.box.cell 0
 have c1:mn.cell? ⟨B,1,none⟩=some (int i64 1):=ZN.out.box.cell 1
 have c2:mn.cell? ⟨B,2,none⟩=some (.slice (some ⟨G,0,none⟩) 2 2):=ZN.out.box.cell 2
 have c3:mn.cell? ⟨B,3,none⟩=some (.slice (some ⟨M,0,none⟩) 4 4):=ZN.out.box.cell 3
 have c4:mn.cell? ⟨B,4,none⟩=some (.slice (some ⟨C,0,none⟩) 2 2):=ZN.out.box.cell 4
 repeat refine ak.seq ?_
 refine ak.item ?_
 have HC:=hid (PL G M C mn ZN.out.at_)
 rw[gZ] at HC
 gi_wp2_with (gi_at_call 22;refine HC.out.mono ?_;rintro e Wn ⟨rfl,hbn⟩)
 obtain⟨VN,hW⟩:∃W,W=Wn:=⟨_,rfl⟩
 subst hW
 have dI:=hbn
 have Tl:=hid (ZN.out.below dI)
 have UI:=hid (Up.out.below dI)
 have U':=hid (UX.out.below dI)
 have T0:=hid (TZ.out.below dI)
 have ml:=hid (pr.out.below dI)
 have BB:=hid (Bx.out.below dI Bx.out.lt)
 have dC:=hid (dv.out.below dI dv.out.lt)
 have B0:=hid (BY.out.below dI BY.out.lt)
 have Ty:=hid (Tu.out.below dI)
 have QQ:=hid (QP.out.below dI)
 clear dI HC ZN Up UX TZ pr Bx dv BY Tu QP
 clear c0 c1 c2 c3 c4
 repeat refine ak.seq ?_
 refine ak.item ?_
 gi_wp2
 repeat refine ak.seq ?_
 refine ak.cond_false rfl ?_
 refine ak.skip ?_
 repeat refine ak.seq ?_
 refine ak.item ?_
 have qa0:∀d os,(grow (redrawn VN d) os).cell? ⟨BA,0,none⟩=some (int i64 0):=cell_regrown (BB.out.cell 0)
 have qa1:∀d os,(grow (redrawn VN d) os).cell? ⟨BA,1,none⟩=some (int i64 1):=cell_regrown (BB.out.cell 1)
 have qw0:∀d os,(grow (redrawn VN d) os).cell? ⟨P3,0,none⟩=some (int i64 30):=cell_regrown (dC.out.cell 0)
 have qw1:∀d os,(grow (redrawn VN d) os).cell? ⟨P3,1,none⟩=some (int i64 35):=cell_regrown (dC.out.cell 1)
 have qd0:∀d os,(grow (redrawn VN d) os).cell? ⟨BD,0,none⟩=some (int i64 2):=cell_regrown (B0.out.cell 0)
 have qd1:∀d os,(grow (redrawn VN d) os).cell? ⟨BD,1,none⟩=some (int i64 2):=cell_regrown (B0.out.cell 1)
 have Wl:∀ (a b:Int) d os,CallsIn FF 0 prog 23 #[int i64 a,int i64 b] (grow (redrawn VN d) os) fun e w''=>e=.returned (.agg #[int i64 a,int i64 b])∧∃p:Regrown,w''=grow (redrawn VN p.d) p.os:=fun a b d os=>CallsIn.regrown_of (xd a b _)
 gi_wp2
 refine wpIn_region_quiet_below rfl zk zk ?_
 repeat (quiet_step_in (exact Wl _ _ _ _))
 refine wpQuietIn_nil ?_
 rintro w' ⟨⟨dq,osq⟩,rfl⟩
 have dI:=below_regrown VN dq osq
 have Av:=hid (Tl.out.below dI)
 have xT:=hid (UI.out.below dI)
 have yb:=hid (U'.out.below dI)
 have xF:=hid (T0.out.below dI)
 have xN:=hid (ml.out.below dI)
 have xy:=hid (Ty.out.below dI)
 have xj:=hid (QQ.out.below dI)
 clear dI Tl UI U' T0 ml Ty QQ BB dC B0 qa0 qa1 qw0 qw1 qd0 qd1 Wl
 simp only at Av xT yb xF xN xy xj⊢
 generalize grow (redrawn VN dq) osq=ZP at Av xT yb xF xN xy xj⊢
 have c0:ZP.cell? ⟨B,0,none⟩=some (int i64 10):=Av.out.box.cell 0
 have c1:ZP.cell? ⟨B,1,none⟩=some (int i64 1):=Av.out.box.cell 1
 have c2:ZP.cell? ⟨B,2,none⟩=some (.slice (some ⟨G,0,none⟩) 2 2):=Av.out.box.cell 2
 have c3:ZP.cell? ⟨B,3,none⟩=some (.slice (some ⟨M,0,none⟩) 4 4):=Av.out.box.cell 3
 have c4:ZP.cell? ⟨B,4,none⟩=some (.slice (some ⟨C,0,none⟩) 2 2):=Av.out.box.cell 4
 have f1:=Av.out.box.thaw
 show ak _ _ _ _ _
 repeat refine ak.seq ?_
 refine ak.cond_false rfl ?_
 refine ak.skip ?_
 repeat refine ak.seq ?_
 refine ak.item ?_
 gi_wp2
 obtain⟨LP,tT⟩:∃W,W=ZP.setCell ⟨B,1,none⟩ (int i64 0):=⟨_,rfl⟩
 have tk:LP.heap.size=ZP.heap.size:=by rw[tT];simp[World.setCell]
 have Ny:Whole LP B 26 #[int i64 10,int i64 0,.slice (some ⟨G,0,none⟩) 2 2,.slice (some ⟨M,0,none⟩) 4 4,.slice (some ⟨C,0,none⟩) 2 2]:=by rw[tT];exact Av.out.box.set 1 (int i64 0)
 have hne:∀ {q:Nat},q<B→q≠B:=fun h=>zo
 have qe:(Tb 0 G M C).At LP LP.heap.size:=by
  have hk:=Av.out.at_
  have no:∀ (q:Nat) (ad:Addr),some (⟨q,0,none⟩:Addr)=some ad→q<B→ad.block≠B:=fun q ad e hq=>by cases e;exact hne hq
  rw[tk,tT]
  exact⟨hk.g.bS (p:=⟨B,1,none⟩) (fun ad e _=>no G ad e HG.out.1) _,hk.m.bS (p:=⟨B,1,none⟩) (fun ad e _=>no M ad e HG.out.2.1) _,hk.c.bS (p:=⟨B,1,none⟩) (fun ad e _=>no C ad e HG.out.2.2) _,hk.ng,hk.nm,hk.nc,hk.name⟩
 have hT16:VJ LP G M C:=by rw[tT];exact⟨Av.out.tb.1.other (hne HG.out.1) _,Av.out.tb.2.1.other (hne HG.out.2.1) _,Av.out.tb.2.2.other (hne HG.out.2.2) _⟩
 have hB0:B<ZP.heap.size:=Av.out.box.lt
 have ui:∀o,∃i,i<([5,5]:List Int).length∧(#[int i64 10,int i64 1,.slice (some ⟨G,0,none⟩) 2 2,.slice (some ⟨M,0,none⟩) 4 4,.slice (some ⟨C,0,none⟩) 2 2]:Array Value)[o+i]?≠some (int i64 (([5,5]:List Int).getD i 0)):=fun o=>by
  rcases o with _|_|_|_|_|o <;> exact⟨0,zD,zs⟩
 have UP:=hid (by rw[tT];exact xT.out.set1 Av.out.box ui:SV LP vx [5,5])
 clear ui
 have uk:∀o,∃i,i<([3,5]:List Int).length∧(#[int i64 10,int i64 1,.slice (some ⟨G,0,none⟩) 2 2,.slice (some ⟨M,0,none⟩) 4 4,.slice (some ⟨C,0,none⟩) 2 2]:Array Value)[o+i]?≠some (int i64 (([3,5]:List Int).getD i 0)):=fun o=>by
  rcases o with _|_|_|_|_|o <;> exact⟨0,zD,zs⟩
 have VC:=hid (by rw[tT];exact yb.out.set1 Av.out.box uk:SV LP vy [3,5])
 clear uk
 have ud:∀o,∃i,i<([4,5]:List Int).length∧(#[int i64 10,int i64 1,.slice (some ⟨G,0,none⟩) 2 2,.slice (some ⟨M,0,none⟩) 4 4,.slice (some ⟨C,0,none⟩) 2 2]:Array Value)[o+i]?≠some (int i64 (([4,5]:List Int).getD i 0)):=fun o=>by
  rcases o with _|_|_|_|_|o <;> exact⟨0,zD,zs⟩
 have T3:=hid (by rw[tT];exact xF.out.set1 Av.out.box ud:SV LP vu [4,5])
 clear ud
 have ue:∀o,∃i,i<([0]:List Int).length∧(#[int i64 10,int i64 1,.slice (some ⟨G,0,none⟩) 2 2,.slice (some ⟨M,0,none⟩) 4 4,.slice (some ⟨C,0,none⟩) 2 2]:Array Value)[o+i]?≠some (int i64 (([0]:List Int).getD i 0)):=fun o=>by
  rcases o with _|_|_|_|_|o <;> exact⟨0,zD,zs⟩
 have T8:=hid (by rw[tT];exact xN.out.set1 Av.out.box ue:SV LP vv [0])
 clear ue
 have uc:∀o,∃i,i<([1,1]:List Int).length∧(#[int i64 10,int i64 1,.slice (some ⟨G,0,none⟩) 2 2,.slice (some ⟨M,0,none⟩) 4 4,.slice (some ⟨C,0,none⟩) 2 2]:Array Value)[o+i]?≠some (int i64 (([1,1]:List Int).getD i 0)):=fun o=>by
  rcases o with _|_|_|_|_|o
  ·exact⟨0,zD,zs⟩
  ·exact⟨1,zD,zs⟩
  all_goals exact⟨0,zD,zs⟩
 have TC:=hid (by rw[tT];exact xy.out.set1 Av.out.box uc:SV LP vp [1,1])
 clear uc
 have ub:∀o,∃i,i<([3]:List Int).length∧(#[int i64 10,int i64 1,.slice (some ⟨G,0,none⟩) 2 2,.slice (some ⟨M,0,none⟩) 4 4,.slice (some ⟨C,0,none⟩) 2 2]:Array Value)[o+i]?≠some (int i64 (([3]:List Int).getD i 0)):=fun o=>by
  rcases o with _|_|_|_|_|o <;> exact⟨0,zD,zs⟩
 have QR:=hid (by rw[tT];exact xj.out.set1 Av.out.box ub:SV LP ve [3])
 clear ub
 have oA:Hid (Below w.heap.size w LP):=hid (by rw[tT];exact Av.out.past.setCell HB.out _)
 have ob:=hid (Bp G M C LP hT16 qe)
 rw[gZ] at ob
 have d0:=Ny.cell 0
 have d1:=Ny.cell 1
 have d2:=Ny.cell 2
 have d3:=Ny.cell 3
 have d4:=Ny.cell 4
 rw[← tT]
 clear tT tk hne qe hT16 hB0 Av f1 c0 c1 c2 c3 c4 Ny xT yb xF xN xy xj
 repeat refine ak.seq ?_
 refine ak.mQ 1 zD ?_
 simp only[List.take_succ_cons,List.take_zero]
 gi_wp2
 refine jr rfl rfl rfl (enters_of func24 zk rfl) (Rc:=QI LP) (args:=#[.agg #[int i64 10,int i64 0,.slice (some ⟨G,0,none⟩) 2 2,.slice (some ⟨M,0,none⟩) 4 4,.slice (some ⟨C,0,none⟩) 2 2]]) (by simp only[List.map_toArray,List.map_cons,List.map_nil];rfl) ob.out ?_
 rintro x w4 ⟨vc,rfl,hown,hpast⟩
 have C4:Hid (SV w4 vc [1]):=hid (SV.own hown)
 have DM:Hid (Past w w4):=hid (Past.of oA.out hpast)
 have X4:=hid (UP.out.past hpast)
 have Y4:=hid (VC.out.past hpast)
 have U4:=hid (T3.out.past hpast)
 have V4:=hid (T8.out.past hpast)
 have P4:=hid (TC.out.past hpast)
 have E4:=hid (QR.out.past hpast)
 clear hown hpast d0 d1 d2 d3 d4 ob oA UP VC T3 T8 TC QR
 obtain⟨AX,pX,rfl,hX⟩:=X4.out
 obtain⟨AY,pY,rfl,hY⟩:=Y4.out
 obtain⟨AU,pU,rfl,hU⟩:=U4.out
 obtain⟨AV,pV,rfl,hV⟩:=V4.out
 obtain⟨AP,pP,rfl,hP⟩:=P4.out
 obtain⟨AE,pE,rfl,hE⟩:=E4.out
 obtain⟨AC,pC,rfl,hC⟩:=C4.out
 simp only[List.length_cons,List.length_nil,Nat.zero_add,Nat.reduceAdd] at hX hY hU hV hP hE hC
 obtain⟨Wc,hWc⟩:∃Wc,Wc=((((((((w4.alloc (.cells #[.slice AX 2 pX,.slice AY 2 pY,.slice AU 2 pU,.slice AV 1 pV,.slice AP 2 pP,.slice AE 1 pE,.slice AC 1 pC] 30)).alloc (.cells #[int i64 5,int i64 5] 3)).alloc (.cells #[int i64 3,int i64 5] 3)).alloc (.cells #[int i64 4,int i64 5] 3)).alloc (.cells #[int i64 0] 3)).alloc (.cells #[int i64 1,int i64 1] 3)).alloc (.cells #[int i64 3] 3)).alloc (.cells #[int i64 1] 3)).alloc (.cells #[.slice (some ⟨w4.heap.size+1,0,none⟩) 2 2,.slice (some ⟨w4.heap.size+1+1,0,none⟩) 2 2,.slice (some ⟨w4.heap.size+1+1+1,0,none⟩) 2 2,.slice (some ⟨w4.heap.size+1+1+1+1,0,none⟩) 1 1,.slice (some ⟨w4.heap.size+1+1+1+1+1,0,none⟩) 2 2,.slice (some ⟨w4.heap.size+1+1+1+1+1+1,0,none⟩) 1 1,.slice (some ⟨w4.heap.size+1+1+1+1+1+1+1,0,none⟩) 1 1] 30):=⟨_,rfl⟩
 have bc:Below w4.heap.size w4 Wc:=by rw[hWc];exact bw
 have r1:Whole Wc w4.heap.size 30 #[.slice AX 2 pX,.slice AY 2 pY,.slice AU 2 pU,.slice AV 1 pV,.slice AP 2 pP,.slice AE 1 pE,.slice AC 1 pC]:=by rw[hWc];exact((((((((Whole.new w4 _ _).alloc _).alloc _).alloc _).alloc _).alloc _).alloc _).alloc _).alloc _
 have s1:Whole Wc (w4.heap.size+1) 3 #[int i64 5,int i64 5]:=by rw[hWc];exact(((((((aP zs).alloc _).alloc _).alloc _).alloc _).alloc _).alloc _).alloc _
 have s2:Whole Wc (w4.heap.size+1+1) 3 #[int i64 3,int i64 5]:=by rw[hWc];exact((((((aP zs).alloc _).alloc _).alloc _).alloc _).alloc _).alloc _
 have s3:Whole Wc (w4.heap.size+1+1+1) 3 #[int i64 4,int i64 5]:=by rw[hWc];exact(((((aP zs).alloc _).alloc _).alloc _).alloc _).alloc _
 have s4:Whole Wc (w4.heap.size+1+1+1+1) 3 #[int i64 0]:=by rw[hWc];exact((((aP zs).alloc _).alloc _).alloc _).alloc _
 have s5:Whole Wc (w4.heap.size+1+1+1+1+1) 3 #[int i64 1,int i64 1]:=by rw[hWc];exact(((aP zs).alloc _).alloc _).alloc _
 have s6:Whole Wc (w4.heap.size+1+1+1+1+1+1) 3 #[int i64 3]:=by rw[hWc];exact((aP zs).alloc _).alloc _
 have s7:Whole Wc (w4.heap.size+1+1+1+1+1+1+1) 3 #[int i64 1]:=by rw[hWc];exact(aP zs).alloc _
 have r2:Whole Wc (w4.heap.size+1+1+1+1+1+1+1+1) 30 #[.slice (some ⟨w4.heap.size+1,0,none⟩) 2 2,.slice (some ⟨w4.heap.size+1+1,0,none⟩) 2 2,.slice (some ⟨w4.heap.size+1+1+1,0,none⟩) 2 2,.slice (some ⟨w4.heap.size+1+1+1+1,0,none⟩) 1 1,.slice (some ⟨w4.heap.size+1+1+1+1+1,0,none⟩) 2 2,.slice (some ⟨w4.heap.size+1+1+1+1+1+1,0,none⟩) 1 1,.slice (some ⟨w4.heap.size+1+1+1+1+1+1+1,0,none⟩) 1 1]:=by rw[hWc];exact aP zs
 have hl1:Lists Wc Wc.heap.size (some ⟨w4.heap.size,0,none⟩) 7 (fun i=>[AX,AY,AU,AV,AP,AE,AC].getD i none) (fun i=>[2,2,2,1,2,1,1].getD i 0) (fun i=>[pX,pY,pU,pV,pP,pE,pC].getD i 0):=aR r1 fun i j hi hj=>by
  obtain rfl:j=0:=zo
  rcases(show i=0∨i=1∨i=2∨i=3∨i=4∨i=5∨i=6 by omega) with rfl|rfl|rfl|rfl|rfl|rfl|rfl <;> rfl
 have hl2:Lists Wc Wc.heap.size (some ⟨w4.heap.size+1+1+1+1+1+1+1+1,0,none⟩) 7 (fun i=>[some ⟨w4.heap.size+1,0,none⟩,some ⟨w4.heap.size+1+1,0,none⟩,some ⟨w4.heap.size+1+1+1,0,none⟩,some ⟨w4.heap.size+1+1+1+1,0,none⟩,some ⟨w4.heap.size+1+1+1+1+1,0,none⟩,some ⟨w4.heap.size+1+1+1+1+1+1,0,none⟩,some ⟨w4.heap.size+1+1+1+1+1+1+1,0,none⟩].getD i none) (fun i=>[2,2,2,1,2,1,1].getD i 0) (fun i=>[2,2,2,1,2,1,1].getD i 0):=aR r2 fun i j hi hj=>by
  obtain rfl:j=0:=zo
  rcases(show i=0∨i=1∨i=2∨i=3∨i=4∨i=5∨i=6 by omega) with rfl|rfl|rfl|rfl|rfl|rfl|rfl <;> rfl
 have uS:=uy (some ⟨w4.heap.size,0,none⟩) (some ⟨w4.heap.size+1+1+1+1+1+1+1+1,0,none⟩) 7 7 7 _ _ _ _ _ (fun i j=>([[5,5],[3,5],[4,5],[0],[1,1],[3],[1]].getD i []).getD j 0) Wc.heap.size Wc hl1 hl2 zD (fun i hi=>by
  rcases(show i=0∨i=1∨i=2∨i=3∨i=4∨i=5∨i=6 by omega) with rfl|rfl|rfl|rfl|rfl|rfl|rfl
  ·exact(hX.below bc).more bc.size
  ·exact(hY.below bc).more bc.size
  ·exact(hU.below bc).more bc.size
  ·exact(hV.below bc).more bc.size
  ·exact(hP.below bc).more bc.size
  ·exact(hE.below bc).more bc.size
  ·exact(hC.below bc).more bc.size) (fun i hi=>by
  rcases(show i=0∨i=1∨i=2∨i=3∨i=4∨i=5∨i=6 by omega) with rfl|rfl|rfl|rfl|rfl|rfl|rfl
  ·exact rX s1
  ·exact rX s2
  ·exact rX s3
  ·exact wE s4
  ·exact rX s5
  ·exact wE s6
  ·exact wE s7) (fun i hi=>by
  rcases(show i=0∨i=1∨i=2∨i=3∨i=4∨i=5∨i=6 by omega) with rfl|rfl|rfl|rfl|rfl|rfl|rfl <;> (show _≤maxLen) <;> decide)
 have HSame:=hid uS
 have HWc:=hid hWc
 have HPc:=hid (DM.out.below bc)
 clear uS hWc bc hl1 hl2 r1 r2 s1 s2 s3 s4 s5 s6 s7 hX hY hU hV hP hE hC
 simp only[List.drop_succ_cons,List.drop_zero,Act.put,List.setIfInBounds_toArray,List.set_cons_succ,List.set_cons_zero]
 gi_wp2
 simp only[Ap]
 gi_wp2_with (gi_at_call 9;rw[← HWc.out];refine HSame.out.mono ?_;rintro e w5 ⟨rfl,q,rfl⟩)
 exact⟨rfl,_,results_tmp rfl _ _ _,_,rfl,rfl,HPc.out.below (below_drewN (Below.refl _ _) q)⟩
end
section
open Go Go.Conc Go.ConcN Go.cZ Go.Conc.Lib Go.aQ Go.RowKit
attribute [local go_sem] Oper.semAt_some
variable[Inhabited aZ]
theorem IJ(T:Array Value)(h:T.size=202):T=#[T.getD 0 undef,T.getD 1 undef,T.getD 2 undef,T.getD 3 undef,T.getD 4 undef,T.getD 5 undef,T.getD 6 undef,T.getD 7 undef,T.getD 8 undef,T.getD 9 undef,T.getD 10 undef,T.getD 11 undef,T.getD 12 undef,T.getD 13 undef,T.getD 14 undef,T.getD 15 undef,T.getD 16 undef,T.getD 17 undef,T.getD 18 undef,T.getD 19 undef,T.getD 20 undef,T.getD 21 undef,T.getD 22 undef,T.getD 23 undef,T.getD 24 undef,T.getD 25 undef,T.getD 26 undef,T.getD 27 undef,T.getD 28 undef,T.getD 29 undef,T.getD 30 undef,T.getD 31 undef,T.getD 32 undef,T.getD 33 undef,T.getD 34 undef,T.getD 35 undef,T.getD 36 undef,T.getD 37 undef,T.getD 38 undef,T.getD 39 undef,T.getD 40 undef,T.getD 41 undef,T.getD 42 undef,T.getD 43 undef,T.getD 44 undef,T.getD 45 undef,T.getD 46 undef,T.getD 47 undef,T.getD 48 undef,T.getD 49 undef,T.getD 50 undef,T.getD 51 undef,T.getD 52 undef,T.getD 53 undef,T.getD 54 undef,T.getD 55 undef,T.getD 56 undef,T.getD 57 undef,T.getD 58 undef,T.getD 59 undef,T.getD 60 undef,T.getD 61 undef,T.getD 62 undef,T.getD 63 undef,T.getD 64 undef,T.getD 65 undef,T.getD 66 undef,T.getD 67 undef,T.getD 68 undef,T.getD 69 undef,T.getD 70 undef,T.getD 71 undef,T.getD 72 undef,T.getD 73 undef,T.getD 74 undef,T.getD 75 undef,T.getD 76 undef,T.getD 77 undef,T.getD 78 undef,T.getD 79 undef,T.getD 80 undef,T.getD 81 undef,T.getD 82 undef,T.getD 83 undef,T.getD 84 undef,T.getD 85 undef,T.getD 86 undef,T.getD 87 undef,T.getD 88 undef,T.getD 89 undef,T.getD 90 undef,T.getD 91 undef,T.getD 92 undef,T.getD 93 undef,T.getD 94 undef,T.getD 95 undef,T.getD 96 undef,T.getD 97 undef,T.getD 98 undef,T.getD 99 undef,T.getD 100 undef,T.getD 101 undef,T.getD 102 undef,T.getD 103 undef,T.getD 104 undef,T.getD 105 undef,T.getD 106 undef,T.getD 107 undef,T.getD 108 undef,T.getD 109 undef,T.getD 110 undef,T.getD 111 undef,T.getD 112 undef,T.getD 113 undef,T.getD 114 undef,T.getD 115 undef,T.getD 116 undef,T.getD 117 undef,T.getD 118 undef,T.getD 119 undef,T.getD 120 undef,T.getD 121 undef,T.getD 122 undef,T.getD 123 undef,T.getD 124 undef,T.getD 125 undef,T.getD 126 undef,T.getD 127 undef,T.getD 128 undef,T.getD 129 undef,T.getD 130 undef,T.getD 131 undef,T.getD 132 undef,T.getD 133 undef,T.getD 134 undef,T.getD 135 undef,T.getD 136 undef,T.getD 137 undef,T.getD 138 undef,T.getD 139 undef,T.getD 140 undef,T.getD 141 undef,T.getD 142 undef,T.getD 143 undef,T.getD 144 undef,T.getD 145 undef,T.getD 146 undef,T.getD 147 undef,T.getD 148 undef,T.getD 149 undef,T.getD 150 undef,T.getD 151 undef,T.getD 152 undef,T.getD 153 undef,T.getD 154 undef,T.getD 155 undef,T.getD 156 undef,T.getD 157 undef,T.getD 158 undef,T.getD 159 undef,T.getD 160 undef,T.getD 161 undef,T.getD 162 undef,T.getD 163 undef,T.getD 164 undef,T.getD 165 undef,T.getD 166 undef,T.getD 167 undef,T.getD 168 undef,T.getD 169 undef,T.getD 170 undef,T.getD 171 undef,T.getD 172 undef,T.getD 173 undef,T.getD 174 undef,T.getD 175 undef,T.getD 176 undef,T.getD 177 undef,T.getD 178 undef,T.getD 179 undef,T.getD 180 undef,T.getD 181 undef,T.getD 182 undef,T.getD 183 undef,T.getD 184 undef,T.getD 185 undef,T.getD 186 undef,T.getD 187 undef,T.getD 188 undef,T.getD 189 undef,T.getD 190 undef,T.getD 191 undef,T.getD 192 undef,T.getD 193 undef,T.getD 194 undef,T.getD 195 undef,T.getD 196 undef,T.getD 197 undef,T.getD 198 undef,T.getD 199 undef,T.getD 200 undef,T.getD 201 undef]:=by
 have e:T.toList=(List.range 202).map (fun i=>T.getD i undef):=by
  apply List.ext_getElem
  ·simp[h]
  ·intro i h1 h2
   have hi:i<T.size:=by simpa using h1
   simp[Array.getD_eq_getD_getElem?,hi]
 rw[← Array.toList_inj,e]
 rfl
theorem OM(r:List Code)(a:Act)(w:World)(hs:a.tmps.size=202)(hd:a.defers=[]):ak Tryz.f3 (qC w) (TG :: r) a w:=by
 obtain⟨T,ds⟩:=a
 simp only at hs hd
 subst hd
 have hT:=IJ T hs
 obtain⟨f,hf⟩:∃f:Nat→Value,f=fun i=>T.getD i undef:=⟨_,rfl⟩
 have Ax:T=#[f 0,f 1,f 2,f 3,f 4,f 5,f 6,f 7,f 8,f 9,f 10,f 11,f 12,f 13,f 14,f 15,f 16,f 17,f 18,f 19,f 20,f 21,f 22,f 23,f 24,f 25,f 26,f 27,f 28,f 29,f 30,f 31,f 32,f 33,f 34,f 35,f 36,f 37,f 38,f 39,f 40,f 41,f 42,f 43,f 44,f 45,f 46,f 47,f 48,f 49,f 50,f 51,f 52,f 53,f 54,f 55,f 56,f 57,f 58,f 59,f 60,f 61,f 62,f 63,f 64,f 65,f 66,f 67,f 68,f 69,f 70,f 71,f 72,f 73,f 74,f 75,f 76,f 77,f 78,f 79,f 80,f 81,f 82,f 83,f 84,f 85,f 86,f 87,f 88,f 89,f 90,f 91,f 92,f 93,f 94,f 95,f 96,f 97,f 98,f 99,f 100,f 101,f 102,f 103,f 104,f 105,f 106,f 107,f 108,f 109,f 110,f 111,f 112,f 113,f 114,f 115,f 116,f 117,f 118,f 119,f 120,f 121,f 122,f 123,f 124,f 125,f 126,f 127,f 128,f 129,f 130,f 131,f 132,f 133,f 134,f 135,f 136,f 137,f 138,f 139,f 140,f 141,f 142,f 143,f 144,f 145,f 146,f 147,f 148,f 149,f 150,f 151,f 152,f 153,f 154,f 155,f 156,f 157,f 158,f 159,f 160,f 161,f 162,f 163,f 164,f 165,f 166,f 167,f 168,f 169,f 170,f 171,f 172,f 173,f 174,f 175,f 176,f 177,f 178,f 179,f 180,f 181,f 182,f 183,f 184,f 185,f 186,f 187,f 188,f 189,f 190,f 191,f 192,f 193,f 194,f 195,f 196,f 197,f 198,f 199,f 200,f 201]:=by rw[hf];exact hT
 subst Ax
 clear hf hT hs
 have HV:=hid (om w)
 simp only[TG,Tryz.f3,Option.getD_some,oH,Option.orElse,Option.getD]
 repeat refine ak.seq ?_
 refine ak.mQ 0 zD ?_
 simp only[List.take_zero]
 refine jr rfl rfl rfl (enters_of func5 zk rfl) (Rc:=qC w) (args:=#[]) (by simp only[List.map_toArray,List.map_cons,List.map_nil]) HV.out ?_
 rintro x w2 ⟨rfl,hp⟩
 simp only[List.drop_succ_cons,List.drop_zero,Act.put,List.setIfInBounds_toArray,List.set_cons_succ,List.set_cons_zero]
 gi_wp2
 simp only[Ap]
 gi_wp2
 exact⟨rfl,_,results_tmp rfl _ _ _,_,rfl,rfl,hp⟩
end
end Go.Proofs.YtmjjocnfidnelaaGreat
