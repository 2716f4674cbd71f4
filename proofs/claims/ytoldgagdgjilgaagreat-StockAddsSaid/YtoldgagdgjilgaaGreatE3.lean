/- HA1 HA2 P14 -/
import Derived.Test.YtoldgagdgjilgaaGreatE2
import Derived.Sort.MapsRangeIn
set_option maxRecDepth 100000
set_option maxHeartbeats 16000000
set_option linter.unusedVariables false
set_option linter.unusedSectionVars false
open Go.IntKind(i64)
open Go.Lib(hid)
open Go.Proofs.Tryz
open Go.Value(int)
namespace Go.Proofs.YtoldgagdgjilgaaGreat
section
open Go.RowKit Go.Maps
open Go.Sort (grow)
attribute [local go_sem] Oper.semAt_some
noncomputable def nh:List Lit:=[dV 0 4,dV 0 5,dV 1 5,dV 2 0]
noncomputable def DT:DataW Unit:=.map [(dV 0 4,.lit (.int .i64 2)),(dV 0 5,.lit (.int .i64 2)),(dV 1 5,.lit (.int .i64 4)),(dV 2 0,.lit (.int .i64 4))]
theorem Wi:(dV 0 4).sameKey (dV 0 4)=true:=zk
theorem Wj:(dV 0 4).sameKey (dV 0 5)=false:=zk
theorem Wm:(dV 0 4).sameKey (dV 1 5)=false:=zk
theorem Wo:(dV 0 4).sameKey (dV 2 0)=false:=zk
theorem Wp:(dV 0 5).sameKey (dV 0 4)=false:=zk
theorem Wq:(dV 0 5).sameKey (dV 0 5)=true:=zk
theorem Ws:(dV 0 5).sameKey (dV 1 5)=false:=zk
theorem Wt:(dV 0 5).sameKey (dV 2 0)=false:=zk
theorem Wu:(dV 1 5).sameKey (dV 0 4)=false:=zk
theorem Wv:(dV 1 5).sameKey (dV 0 5)=false:=zk
theorem Ww:(dV 1 5).sameKey (dV 1 5)=true:=zk
theorem Wx:(dV 1 5).sameKey (dV 2 0)=false:=zk
theorem Wy:(dV 2 0).sameKey (dV 0 4)=false:=zk
theorem Wz:(dV 2 0).sameKey (dV 0 5)=false:=zk
theorem WA:(dV 2 0).sameKey (dV 1 5)=false:=zk
theorem WC:(dV 2 0).sameKey (dV 2 0)=true:=zk
theorem vb:DT.atKey (dV 0 4) (.map [])=.lit (.int .i64 2):=zk
theorem vd:DT.atKey (dV 0 5) (.map [])=.lit (.int .i64 2):=zk
theorem vf:DT.atKey (dV 1 5) (.map [])=.lit (.int .i64 4):=zk
theorem vi:DT.atKey (dV 2 0) (.map [])=.lit (.int .i64 4):=zk
theorem xi(kl:Lit)(h:Maps.has DT kl=true):kl∈nh:=by
 unfold DT Maps.has at h
 simp only[List.any_cons,List.any_nil,Bool.or_eq_true,Bool.or_false] at h
 unfold nh
 rcases h with h|h|h|h <;> (have:=WideAt.sameKey_eq h;subst this;simp)
theorem lh:Maps.has DT (dV 0 4)=true:=zk
theorem lj:Maps.has DT (dV 0 5)=true:=zk
theorem lk:Maps.has DT (dV 1 5)=true:=zk
theorem ll:Maps.has DT (dV 2 0)=true:=zk
theorem XF(x c:Value)(kl:Lit)(y:DataW Unit × List MemPlace)(hkey:keyOf prog 125 x=some kl)(hl:kl∈nh)(hR:plainElem prog 3 c=some y)(hat:∀zd,DT.atKey kl zd=y.1):
 (kl=dV 0 4∧x=.agg #[int i64 0,int i64 4]∧c=int i64 2)∨(kl=dV 0 5∧x=.agg #[int i64 0,int i64 5]∧c=int i64 2)∨(kl=dV 1 5∧x=.agg #[int i64 1,int i64 5]∧c=int i64 4)∨(kl=dV 2 0∧x=.agg #[int i64 2,int i64 0]∧c=int i64 4):=by
 obtain⟨a,rfl,rfl,-⟩:=plainElem_int_inv underlying3 hR
 have h0:=hat (.map [])
 unfold nh at hl
 simp only[List.mem_cons,List.not_mem_nil,or_false] at hl
 rcases hl with hl|hl|hl|hl
 ·refine .inl ?_
  rw[hl] at h0 hkey
  rw[vb] at h0
  injection h0 with h0
  injection h0 with _ h0
  exact⟨hl,dM.inj hkey m9,by rw[h0]⟩
 ·refine .inr (.inl ?_)
  rw[hl] at h0 hkey
  rw[vd] at h0
  injection h0 with h0
  injection h0 with _ h0
  exact⟨hl,dM.inj hkey na,by rw[h0]⟩
 ·refine .inr (.inr (.inl ?_))
  rw[hl] at h0 hkey
  rw[vf] at h0
  injection h0 with h0
  injection h0 with _ h0
  exact⟨hl,dM.inj hkey nb,by rw[h0]⟩
 ·refine .inr (.inr (.inr ?_))
  rw[hl] at h0 hkey
  rw[vi] at h0
  injection h0 with h0
  injection h0 with _ h0
  exact⟨hl,dM.inj hkey nd,by rw[h0]⟩
def Np(a b:Bool):Int:=max (if a then 0 else 2) (if b then 0 else 2)
def OW(a:Bool):Int:=if a then 0 else 4
theorem i9(G M C:Nat)(A:Option Addr)(p:Nat)(w:World)(hc:og (Tb 1 G M C) A w):CallsIn FF 0 prog 56 #[.agg (aA (Tb 1 G M C) A (ak (Tb 1 G M C)).length p)] w fun e w'=>e=.returned (.tuple #[int i64 0,int i64 2])∧Below w.heap.size w w':=by
 have HR:Hid (∀W,Below w.heap.size w W→CallsIn FF 0 prog 79 #[.agg (aA (Tb 1 G M C) A (ak (Tb 1 G M C)).length p)] W fun e w'=>∃M n,e=.returned (.tuple #[int i64 4,.map (some M)])∧n≤12∧xW w' M n DT∧W.heap.size≤M∧Below W.heap.size W w'):=hid fun W hW=>by
  have:=VY (Tb 1 G M C) (jL 1 zD G M C) (eF 1 G M C) (by rw[kQ];decide) (vT G M C) rfl dV (dm G M C) A p W (hc.below hW)
  rw[kQ,Xv] at this
  exact this
 obtain⟨n,hn⟩:∃n,n=(ak (Tb 1 G M C)).length:=⟨_,rfl⟩
 rw[← hn] at HR⊢
 clear hn hc
 simp only[Tb,aA] at HR⊢
 obtain⟨w1,hw1⟩:∃w1,w1=w.alloc (.cells #[int i64 10,int i64 1,.slice (some ⟨G,0,none⟩) 2 2,.slice (some ⟨M,0,none⟩) 4 4,.slice (some ⟨C,0,none⟩) 2 2,.slice A n p] 61):=⟨_,rfl⟩
 have B1:Hid (Below w.heap.size w w1):=hid (by rw[hw1];exact bw)
 have C1:Hid (Whole w1 w.heap.size 61 #[int i64 10,int i64 1,.slice (some ⟨G,0,none⟩) 2 2,.slice (some ⟨M,0,none⟩) 4 4,.slice (some ⟨C,0,none⟩) 2 2,.slice A n p]):=hid (by rw[hw1];exact Whole.new _ _ _)
 have mQ:=hid hw1
 clear hw1
 gi_enter func56,ntmps56
 gi_wp2_with (first
  | (gi_at_call 79;rw[← mQ.out];refine(HR.out w1 B1.out).mono ?_;rintro e w2 ⟨Mp,nn,rfl,hn2,hO2,hM2,hb2⟩;have Ts:=hO2.lt;have O2:=hid (hO2.alloc (.cells #[int i64 0,int i64 0,int i64 0] 67));clear hO2)
  | (gi_at_range;refine wpListIn_range_own _ rfl _ 121 rfl 125 3 dM underlying121 _ Mp nn _ rfl O2.out ?_;intro w3 hrg3 hg3 hs3))
 go_frame
 simp only[World.size_alloc]
 have C3:Hid (Whole w3 w.heap.size 61 #[int i64 10,int i64 1,.slice (some ⟨G,0,none⟩) 2 2,.slice (some ⟨M,0,none⟩) 4 4,.slice (some ⟨C,0,none⟩) 2 2,.slice A n p]):=hid (((C1.out.below hb2 C1.out.lt).alloc _).grown hg3 zs)
 have N3:Hid (Whole w3 w2.heap.size 67 #[int i64 0,int i64 0,int i64 0]):=hid ((Whole.new w2 _ _).grown hg3 zs)
 have HB3:Hid (Below w.heap.size w w3):=hid ((Below.al (Below.next B1.out hb2) _).trans (below_grown hg3 (by have:=(Below.next B1.out hb2).size;simp;omega) (fun g hg=>by cases hg)))
 have hM0:=hM2
 have J1:=O2.out.lt
 have MU:=hb2.size
 have YY:=C1.out.lt
 simp only[World.size_alloc] at hs3 J1 hrg3
 have Tr:Mp<w2.heap.size+1:=J1
 have P1:=hid hrg3
 clear hrg3 hg3 O2 HR C1 B1 hb2 mQ
 gi_loopw [] (fun wr=>∃ (left:Lit→Bool) (cnt:Nat),wr.ranges prog 125 (plainElem prog 3) Mp (w2.heap.size+1) nn DT left cnt∧(∀kl,left kl=true→kl∈nh)∧Hid (Whole wr w2.heap.size 67 #[int i64 (Np (left (dV 0 4)) (left (dV 0 5))),int i64 (OW (left (dV 1 5))),int i64 (OW (left (dV 2 0)))]∧Whole wr w.heap.size 61 #[int i64 10,int i64 1,.slice (some ⟨G,0,none⟩) 2 2,.slice (some ⟨M,0,none⟩) 4 4,.slice (some ⟨C,0,none⟩) 2 2,.slice A n p]∧Below w.heap.size w wr))
  (fun wr=>wr.rangeLeft Mp (w2.heap.size+1))
 case atStart=>
  refine⟨Maps.has DT,Maps.size DT,P1.out,xi,hid ⟨?_,C3.out,HB3.out⟩⟩
  rw[lh,lj,lk,ll]
  exact N3.out
 case round=>
  obtain⟨left,cnt,hrg,hks,hW⟩:=hrel
  gi_wp2_with (gi_at_next;refine wpListIn_next_ranges _ rfl _ rfl 125 dM (plainElem prog 3) id id (fun key _ _=>⟨key,rfl⟩) (fun v _ _=>⟨v,rfl⟩) Mp (w2.heap.size+1) nn _ _ _ rfl hrg ?_ ?_)
  ·intro hc0 hl0
   have N9:Whole wr w2.heap.size 67 #[int i64 2,int i64 4,int i64 4]:=by
    have:=hW.out.1
    rw[hl0,hl0,hl0,hl0] at this
    exact this
   have gr:=hid (Uy w2.heap.size wr (N9.cell 0) (N9.cell 1))
   have d0:wr.cell? ⟨w.heap.size,0,none⟩=some (int i64 10):=hW.out.2.1.cell 0
   have d1:wr.cell? ⟨w.heap.size,1,none⟩=some (int i64 1):=hW.out.2.1.cell 1
   have d2:wr.cell? ⟨w.heap.size,2,none⟩=some (.slice (some ⟨G,0,none⟩) 2 2):=hW.out.2.1.cell 2
   have d3:wr.cell? ⟨w.heap.size,3,none⟩=some (.slice (some ⟨M,0,none⟩) 4 4):=hW.out.2.1.cell 3
   have d4:wr.cell? ⟨w.heap.size,4,none⟩=some (.slice (some ⟨C,0,none⟩) 2 2):=hW.out.2.1.cell 4
   have d5:wr.cell? ⟨w.heap.size,5,none⟩=some (.slice A n p):=hW.out.2.1.cell 5
   have sS:=hW.out.2.2
   clear N9 hl0 hrg hks
   gi_wp2_with (gi_at_call 80;refine gr.out.mono ?_;rintro e w5 ⟨rfl,rfl⟩)
   go_ret2
   exact⟨rfl,sS⟩
  ·intro x c kl yd yp w4 EH hkey hlk hv hat uF Vn hg4 hs4 hen
   have hcase:=XF x c kl (yd,yp) hkey (hks kl hlk) hv hat
   have N4:=hid (hW.out.1.grown hg4 zs)
   have C4:=hid (hW.out.2.1.grown hg4 zm)
   have BU:Hid (Below w.heap.size w w4):=hid (hW.out.2.2.trans (below_grown hg4 (by have:=hW.out.2.1.lt;omega) (fun g hg=>by cases hg;omega)))
   have hn4:=N4.out.lt
   obtain⟨b0,hb0⟩:∃b,b=left (dV 0 4):=⟨_,rfl⟩
   obtain⟨b1,hb1⟩:∃b,b=left (dV 0 5):=⟨_,rfl⟩
   obtain⟨b2,hb2⟩:∃b,b=left (dV 1 5):=⟨_,rfl⟩
   obtain⟨b3,hb3⟩:∃b,b=left (dV 2 0):=⟨_,rfl⟩
   rw[← hb0,← hb1,← hb2,← hb3] at N4
   obtain⟨m0,hm0⟩:∃m,m=Np b0 b1:=⟨_,rfl⟩
   obtain⟨m1,hm1⟩:∃m,m=OW b2:=⟨_,rfl⟩
   obtain⟨m2,hm2⟩:∃m,m=OW b3:=⟨_,rfl⟩
   rw[← hm0,← hm1,← hm2] at N4
   have pN:Hid (wr.rangeLeft Mp (w2.heap.size+1)=cnt):=hid hrg.left_eq
   have YT:=hid hks
   have HB:=hid (And.intro hb0 (And.intro hb1 (And.intro hb2 (And.intro hb3 (And.intro hm0 (And.intro hm1 hm2))))))
   clear hks hrg hkey hv hat hg4 hW hb0 hb1 hb2 hb3 hm0 hm1 hm2
   rcases hcase with⟨hkl,rfl,rfl⟩|⟨hkl,rfl,rfl⟩|⟨hkl,rfl,rfl⟩|⟨hkl,rfl,rfl⟩
   ·rw[hkl] at uF hlk
    have Hz:=hid uF
    have YU:=hid hlk
    clear uF hlk hkl
    obtain⟨W5,mM⟩:∃W5,W5=w4.alloc (.cells #[int i64 0,int i64 4] 125):=⟨_,rfl⟩
    have X5:Whole W5 wr.heap.size 125 #[int i64 0,int i64 4]:=by rw[mM,← hs4];exact Whole.new _ _ _
    have N5:=hid (by rw[mM];exact N4.out.alloc _:Whole W5 w2.heap.size 67 #[int i64 m0,int i64 m1,int i64 m2])
    have C5:=hid (by rw[mM];exact C4.out.alloc _:Whole W5 w.heap.size 61 #[int i64 10,int i64 1,.slice (some ⟨G,0,none⟩) 2 2,.slice (some ⟨M,0,none⟩) 4 4,.slice (some ⟨C,0,none⟩) 2 2,.slice A n p])
    have Eb:Hid (Below w.heap.size w W5):=hid (by rw[mM];exact Below.al BU.out _)
    have R5:=hid (by rw[mM];exact Hz.out.alloc _:W5.ranges prog 125 (plainElem prog 3) Mp (w2.heap.size+1) nn DT (fun z=>left z && !z.sameKey (dV 0 4)) EH)
    have x0:∀d os,(grow (redrawn W5 d) os).cell? ⟨wr.heap.size,0,none⟩=some (int i64 0):=cell_regrown (X5.cell 0)
    have q0:∀d os,(grow (redrawn W5 d) os).cell? ⟨w2.heap.size,0,none⟩=some (int i64 m0):=cell_regrown (N5.out.cell 0)
    have YZ:=hid mM
    clear mM X5
    gi_wp2
    rw[← YZ.out]
    refine aI 8 rfl zk zk ?_
    repeat (quiet_step_in (fail))
    refine wpQuietIn_nil ?_
    rintro w' ⟨⟨dq,osq⟩,rfl⟩
    have bf:=below_regrown W5 dq osq
    clear x0 q0
    have N9:=N5.out.below bf N5.out.lt
    have C9:=hid (C5.out.below bf C5.out.lt)
    have sS:=hid (Below.next Eb.out bf)
    have R9:=hid (R5.out.kept (w':=grow (redrawn W5 dq) osq) (row:=none) ⟨bf.os,bf.tape,bf.output,bf.size,fun i hi _=>bf.block i hi⟩ zs zs)
    simp only at N9 C9 sS R9⊢
    generalize grow (redrawn W5 dq) osq=w9 at N9 C9 sS R9⊢
    clear bf
    have n0:w9.cell? ⟨w2.heap.size,0,none⟩=some (int i64 m0):=N9.cell 0
    have nf:=N9.thaw
    have Zn:=hid N9
    clear N9
    gi_wp2
    go_roundw
    case rel=>
     obtain⟨hb0,hb1,hb2,hb3,hm0,hm1,hm2⟩:=HB.out
     have hlq:=YU.out
     rw[← hb0] at hlq
     refine⟨fun z=>left z && !z.sameKey (dV 0 4),EH,?_,fun kl h=>YT.out kl (by simp only[Bool.and_eq_true] at h;exact h.1),hid ⟨?_,C9.out.other zn _,sS.out.setCell zn _⟩⟩
     ·exact R9.out.kept (row:=some w2.heap.size) ⟨rfl,rfl,rfl,by simp[World.setCell],fun i hi hne=>Below.heap_setCell _ _ _ _ (fun e=>hne (by rw[e]))⟩ zm zs
     ·dsimp only
      rw[Wi,Wp,Wu,Wy,← hb0,← hb1,← hb2,← hb3]
      have F:=Zn.out.set 0 (int i64 (max m0 2))
      have e0:Np (b0 && !true) (b1 && !false)=max m0 2:=by rw[hm0];cases b0 <;> cases b1 <;> first|decide|(cases hlq)
      have e1:OW (b2 && !false)=m1:=by rw[hm1];cases b2 <;> first|decide|(cases hlq)
      have e2:OW (b3 && !false)=m2:=by rw[hm2];cases b3 <;> first|decide|(cases hlq)
      rw[e0,e1,e2]
      exact F
    case measure=>
     have h1:=pN.out
     rw[h1]
     have h2:=(R9.out.kept (w':=w9.setCell ⟨w2.heap.size,0,none⟩ (int i64 (max m0 2))) (row:=some w2.heap.size) ⟨rfl,rfl,rfl,by simp[World.setCell],fun i hi hne=>Below.heap_setCell _ _ _ _ (fun e=>hne (by rw[e]))⟩ zm zs).left_eq
     rw[h2]
     exact Vn
   ·rw[hkl] at uF hlk
    have Hz:=hid uF
    have YU:=hid hlk
    clear uF hlk hkl
    obtain⟨W5,mM⟩:∃W5,W5=w4.alloc (.cells #[int i64 0,int i64 5] 125):=⟨_,rfl⟩
    have X5:Whole W5 wr.heap.size 125 #[int i64 0,int i64 5]:=by rw[mM,← hs4];exact Whole.new _ _ _
    have N5:=hid (by rw[mM];exact N4.out.alloc _:Whole W5 w2.heap.size 67 #[int i64 m0,int i64 m1,int i64 m2])
    have C5:=hid (by rw[mM];exact C4.out.alloc _:Whole W5 w.heap.size 61 #[int i64 10,int i64 1,.slice (some ⟨G,0,none⟩) 2 2,.slice (some ⟨M,0,none⟩) 4 4,.slice (some ⟨C,0,none⟩) 2 2,.slice A n p])
    have Eb:Hid (Below w.heap.size w W5):=hid (by rw[mM];exact Below.al BU.out _)
    have R5:=hid (by rw[mM];exact Hz.out.alloc _:W5.ranges prog 125 (plainElem prog 3) Mp (w2.heap.size+1) nn DT (fun z=>left z && !z.sameKey (dV 0 5)) EH)
    have x0:∀d os,(grow (redrawn W5 d) os).cell? ⟨wr.heap.size,0,none⟩=some (int i64 0):=cell_regrown (X5.cell 0)
    have q0:∀d os,(grow (redrawn W5 d) os).cell? ⟨w2.heap.size,0,none⟩=some (int i64 m0):=cell_regrown (N5.out.cell 0)
    have YZ:=hid mM
    clear mM X5
    gi_wp2
    rw[← YZ.out]
    refine aI 8 rfl zk zk ?_
    repeat (quiet_step_in (fail))
    refine wpQuietIn_nil ?_
    rintro w' ⟨⟨dq,osq⟩,rfl⟩
    have bf:=below_regrown W5 dq osq
    clear x0 q0
    have N9:=N5.out.below bf N5.out.lt
    have C9:=hid (C5.out.below bf C5.out.lt)
    have sS:=hid (Below.next Eb.out bf)
    have R9:=hid (R5.out.kept (w':=grow (redrawn W5 dq) osq) (row:=none) ⟨bf.os,bf.tape,bf.output,bf.size,fun i hi _=>bf.block i hi⟩ zs zs)
    simp only at N9 C9 sS R9⊢
    generalize grow (redrawn W5 dq) osq=w9 at N9 C9 sS R9⊢
    clear bf
    have n0:w9.cell? ⟨w2.heap.size,0,none⟩=some (int i64 m0):=N9.cell 0
    have nf:=N9.thaw
    have Zn:=hid N9
    clear N9
    gi_wp2
    go_roundw
    case rel=>
     obtain⟨hb0,hb1,hb2,hb3,hm0,hm1,hm2⟩:=HB.out
     have hlq:=YU.out
     rw[← hb1] at hlq
     refine⟨fun z=>left z && !z.sameKey (dV 0 5),EH,?_,fun kl h=>YT.out kl (by simp only[Bool.and_eq_true] at h;exact h.1),hid ⟨?_,C9.out.other zn _,sS.out.setCell zn _⟩⟩
     ·exact R9.out.kept (row:=some w2.heap.size) ⟨rfl,rfl,rfl,by simp[World.setCell],fun i hi hne=>Below.heap_setCell _ _ _ _ (fun e=>hne (by rw[e]))⟩ zm zs
     ·dsimp only
      rw[Wj,Wq,Wv,Wz,← hb0,← hb1,← hb2,← hb3]
      have F:=Zn.out.set 0 (int i64 (max m0 2))
      have e0:Np (b0 && !false) (b1 && !true)=max m0 2:=by rw[hm0];cases b0 <;> cases b1 <;> first|decide|(cases hlq)
      have e1:OW (b2 && !false)=m1:=by rw[hm1];cases b2 <;> first|decide|(cases hlq)
      have e2:OW (b3 && !false)=m2:=by rw[hm2];cases b3 <;> first|decide|(cases hlq)
      rw[e0,e1,e2]
      exact F
    case measure=>
     have h1:=pN.out
     rw[h1]
     have h2:=(R9.out.kept (w':=w9.setCell ⟨w2.heap.size,0,none⟩ (int i64 (max m0 2))) (row:=some w2.heap.size) ⟨rfl,rfl,rfl,by simp[World.setCell],fun i hi hne=>Below.heap_setCell _ _ _ _ (fun e=>hne (by rw[e]))⟩ zm zs).left_eq
     rw[h2]
     exact Vn
   ·rw[hkl] at uF hlk
    have Hz:=hid uF
    have YU:=hid hlk
    clear uF hlk hkl
    obtain⟨W5,mM⟩:∃W5,W5=w4.alloc (.cells #[int i64 1,int i64 5] 125):=⟨_,rfl⟩
    have X5:Whole W5 wr.heap.size 125 #[int i64 1,int i64 5]:=by rw[mM,← hs4];exact Whole.new _ _ _
    have N5:=hid (by rw[mM];exact N4.out.alloc _:Whole W5 w2.heap.size 67 #[int i64 m0,int i64 m1,int i64 m2])
    have C5:=hid (by rw[mM];exact C4.out.alloc _:Whole W5 w.heap.size 61 #[int i64 10,int i64 1,.slice (some ⟨G,0,none⟩) 2 2,.slice (some ⟨M,0,none⟩) 4 4,.slice (some ⟨C,0,none⟩) 2 2,.slice A n p])
    have Eb:Hid (Below w.heap.size w W5):=hid (by rw[mM];exact Below.al BU.out _)
    have R5:=hid (by rw[mM];exact Hz.out.alloc _:W5.ranges prog 125 (plainElem prog 3) Mp (w2.heap.size+1) nn DT (fun z=>left z && !z.sameKey (dV 1 5)) EH)
    have x0:∀d os,(grow (redrawn W5 d) os).cell? ⟨wr.heap.size,0,none⟩=some (int i64 1):=cell_regrown (X5.cell 0)
    have q0:∀d os,(grow (redrawn W5 d) os).cell? ⟨w2.heap.size,1,none⟩=some (int i64 m1):=cell_regrown (N5.out.cell 1)
    have YZ:=hid mM
    clear mM X5
    gi_wp2
    rw[← YZ.out]
    refine aI 8 rfl zk zk ?_
    repeat (quiet_step_in (fail))
    refine wpQuietIn_nil ?_
    rintro w' ⟨⟨dq,osq⟩,rfl⟩
    have bf:=below_regrown W5 dq osq
    clear x0 q0
    have N9:=N5.out.below bf N5.out.lt
    have C9:=hid (C5.out.below bf C5.out.lt)
    have sS:=hid (Below.next Eb.out bf)
    have R9:=hid (R5.out.kept (w':=grow (redrawn W5 dq) osq) (row:=none) ⟨bf.os,bf.tape,bf.output,bf.size,fun i hi _=>bf.block i hi⟩ zs zs)
    simp only at N9 C9 sS R9⊢
    generalize grow (redrawn W5 dq) osq=w9 at N9 C9 sS R9⊢
    clear bf
    have n0:w9.cell? ⟨w2.heap.size,1,none⟩=some (int i64 m1):=N9.cell 1
    have nf:=N9.thaw
    have Zn:=hid N9
    clear N9
    gi_wp2
    go_roundw
    case rel=>
     obtain⟨hb0,hb1,hb2,hb3,hm0,hm1,hm2⟩:=HB.out
     have hlq:=YU.out
     rw[← hb2] at hlq
     refine⟨fun z=>left z && !z.sameKey (dV 1 5),EH,?_,fun kl h=>YT.out kl (by simp only[Bool.and_eq_true] at h;exact h.1),hid ⟨?_,C9.out.other zn _,sS.out.setCell zn _⟩⟩
     ·exact R9.out.kept (row:=some w2.heap.size) ⟨rfl,rfl,rfl,by simp[World.setCell],fun i hi hne=>Below.heap_setCell _ _ _ _ (fun e=>hne (by rw[e]))⟩ zm zs
     ·dsimp only
      rw[Wm,Ws,Ww,WA,← hb0,← hb1,← hb2,← hb3]
      have F:=Zn.out.set 1 (int i64 (max m1 4))
      have e0:Np (b0 && !false) (b1 && !false)=m0:=by rw[hm0];cases b0 <;> cases b1 <;> first|decide|(cases hlq)
      have e1:OW (b2 && !true)=max m1 4:=by rw[hm1];cases b2 <;> first|decide|(cases hlq)
      have e2:OW (b3 && !false)=m2:=by rw[hm2];cases b3 <;> first|decide|(cases hlq)
      rw[e0,e1,e2]
      exact F
    case measure=>
     have h1:=pN.out
     rw[h1]
     have h2:=(R9.out.kept (w':=w9.setCell ⟨w2.heap.size,1,none⟩ (int i64 (max m1 4))) (row:=some w2.heap.size) ⟨rfl,rfl,rfl,by simp[World.setCell],fun i hi hne=>Below.heap_setCell _ _ _ _ (fun e=>hne (by rw[e]))⟩ zm zs).left_eq
     rw[h2]
     exact Vn
   ·rw[hkl] at uF hlk
    have Hz:=hid uF
    have YU:=hid hlk
    clear uF hlk hkl
    obtain⟨W5,mM⟩:∃W5,W5=w4.alloc (.cells #[int i64 2,int i64 0] 125):=⟨_,rfl⟩
    have X5:Whole W5 wr.heap.size 125 #[int i64 2,int i64 0]:=by rw[mM,← hs4];exact Whole.new _ _ _
    have N5:=hid (by rw[mM];exact N4.out.alloc _:Whole W5 w2.heap.size 67 #[int i64 m0,int i64 m1,int i64 m2])
    have C5:=hid (by rw[mM];exact C4.out.alloc _:Whole W5 w.heap.size 61 #[int i64 10,int i64 1,.slice (some ⟨G,0,none⟩) 2 2,.slice (some ⟨M,0,none⟩) 4 4,.slice (some ⟨C,0,none⟩) 2 2,.slice A n p])
    have Eb:Hid (Below w.heap.size w W5):=hid (by rw[mM];exact Below.al BU.out _)
    have R5:=hid (by rw[mM];exact Hz.out.alloc _:W5.ranges prog 125 (plainElem prog 3) Mp (w2.heap.size+1) nn DT (fun z=>left z && !z.sameKey (dV 2 0)) EH)
    have x0:∀d os,(grow (redrawn W5 d) os).cell? ⟨wr.heap.size,0,none⟩=some (int i64 2):=cell_regrown (X5.cell 0)
    have q0:∀d os,(grow (redrawn W5 d) os).cell? ⟨w2.heap.size,2,none⟩=some (int i64 m2):=cell_regrown (N5.out.cell 2)
    have YZ:=hid mM
    clear mM X5
    gi_wp2
    rw[← YZ.out]
    refine aI 8 rfl zk zk ?_
    repeat (quiet_step_in (fail))
    refine wpQuietIn_nil ?_
    rintro w' ⟨⟨dq,osq⟩,rfl⟩
    have bf:=below_regrown W5 dq osq
    clear x0 q0
    have N9:=N5.out.below bf N5.out.lt
    have C9:=hid (C5.out.below bf C5.out.lt)
    have sS:=hid (Below.next Eb.out bf)
    have R9:=hid (R5.out.kept (w':=grow (redrawn W5 dq) osq) (row:=none) ⟨bf.os,bf.tape,bf.output,bf.size,fun i hi _=>bf.block i hi⟩ zs zs)
    simp only at N9 C9 sS R9⊢
    generalize grow (redrawn W5 dq) osq=w9 at N9 C9 sS R9⊢
    clear bf
    have n0:w9.cell? ⟨w2.heap.size,2,none⟩=some (int i64 m2):=N9.cell 2
    have nf:=N9.thaw
    have Zn:=hid N9
    clear N9
    gi_wp2
    go_roundw
    case rel=>
     obtain⟨hb0,hb1,hb2,hb3,hm0,hm1,hm2⟩:=HB.out
     have hlq:=YU.out
     rw[← hb3] at hlq
     refine⟨fun z=>left z && !z.sameKey (dV 2 0),EH,?_,fun kl h=>YT.out kl (by simp only[Bool.and_eq_true] at h;exact h.1),hid ⟨?_,C9.out.other zn _,sS.out.setCell zn _⟩⟩
     ·exact R9.out.kept (row:=some w2.heap.size) ⟨rfl,rfl,rfl,by simp[World.setCell],fun i hi hne=>Below.heap_setCell _ _ _ _ (fun e=>hne (by rw[e]))⟩ zm zs
     ·dsimp only
      rw[Wo,Wt,Wx,WC,← hb0,← hb1,← hb2,← hb3]
      have F:=Zn.out.set 2 (int i64 (max m2 4))
      have e0:Np (b0 && !false) (b1 && !false)=m0:=by rw[hm0];cases b0 <;> cases b1 <;> first|decide|(cases hlq)
      have e1:OW (b2 && !false)=m1:=by rw[hm1];cases b2 <;> first|decide|(cases hlq)
      have e2:OW (b3 && !true)=max m2 4:=by rw[hm2];cases b3 <;> first|decide|(cases hlq)
      rw[e0,e1,e2]
      exact F
    case measure=>
     have h1:=pN.out
     rw[h1]
     have h2:=(R9.out.kept (w':=w9.setCell ⟨w2.heap.size,2,none⟩ (int i64 (max m2 4))) (row:=some w2.heap.size) ⟨rfl,rfl,rfl,by simp[World.setCell],fun i hi hne=>Below.heap_setCell _ _ _ _ (fun e=>hne (by rw[e]))⟩ zm zs).left_eq
     rw[h2]
     exact Vn
end
section
open Go.RowKit Go.Maps
attribute [local go_sem] Oper.semAt_some
theorem NT(G M C:Nat)(w:World)(h:(Tb 1 G M C).At w w.heap.size):CallsIn FF 0 prog 20 #[(Tb 1 G M C).val] w fun e w'=>e=.returned (.tuple #[int i64 0,int i64 2,int i64 0])∧Below w.heap.size w w':=by
 have HO:=hid fun w h=>mZ (Tb 1 G M C) w h (jL 1 zD G M C) (Nat.le_refl 2)
 have HB:=hid fun A p w hc=>i9 G M C A p w hc
 have HA:=hid h
 obtain⟨n,hn⟩:∃n,n=(ak (Tb 1 G M C)).length:=⟨_,rfl⟩
 rw[← hn] at HO HB
 clear hn h
 have tf:Hid (∀A w,og (Tb 1 G M C) A w→∀w',Below w.heap.size w w'→og (Tb 1 G M C) A w'):=hid fun A w h w' hb=>h.below hb
 simp only[Tb,Bk.val,Bk.cells,aA] at HO HB⊢
 gi_enter func20,ntmps20
 gi_wp2_with (first
  | (gi_at_call 37;refine(HO.out _ (HA.out.up (bw))).mono ?_;rintro e w2 ⟨A,p,rfl,hc2,hb2,-⟩)
  | (gi_at_call 56;refine(HB.out A p _ (tf.out A _ hc2 _ (bw))).mono ?_;rintro e w4 ⟨rfl,hb4⟩))
 go_ret3
 have I5:=Below.al (Below.next (show Below w.heap.size w (w.alloc (.cells #[int i64 10,int i64 1,.slice (some ⟨G,0,none⟩) 2 2,.slice (some ⟨M,0,none⟩) 4 4,.slice (some ⟨C,0,none⟩) 2 2] 26)) from bw) hb2) (.cells #[int i64 10,int i64 1,.slice (some ⟨G,0,none⟩) 2 2,.slice (some ⟨M,0,none⟩) 4 4,.slice (some ⟨C,0,none⟩) 2 2,.slice A n p] 61)
 exact⟨rfl,Below.next I5 hb4⟩
end
section
open Go.RowKit
theorem Rp(B b1 b2 b3 b4 b5:Nat)(w:World)(hB:B<w.heap.size)
 (l0:w.cell? ⟨B,0,none⟩=some (.func (.func 96) #[] #[.pointer (some ⟨b1,0,none⟩),.pointer (some ⟨b2,0,none⟩)]))
 (l1:w.cell? ⟨B,1,none⟩=some (.func (.func 97) #[] #[.pointer (some ⟨b3,0,none⟩),.pointer (some ⟨b2,0,none⟩)]))
 (l2:w.cell? ⟨B,2,none⟩=some (.func (.func 98) #[] #[.pointer (some ⟨b4,0,none⟩),.pointer (some ⟨b5,0,none⟩)]))
 (h1:∀w',Below w.heap.size w w'→CallsIn FF 0 prog 96 #[.pointer (some ⟨b1,0,none⟩),.pointer (some ⟨b2,0,none⟩)] w' fun e w2=>e=.returned (int i64 0)∧Below w'.heap.size w' w2)
 (h2:∀w',Below w.heap.size w w'→CallsIn FF 0 prog 97 #[.pointer (some ⟨b3,0,none⟩),.pointer (some ⟨b2,0,none⟩)] w' fun e w2=>e=.returned (int i64 0)∧Below w'.heap.size w' w2)
 (h3:∀w',Below w.heap.size w w'→CallsIn FF 0 prog 98 #[.pointer (some ⟨b4,0,none⟩),.pointer (some ⟨b5,0,none⟩)] w' fun e w2=>e=.returned (int i64 0)∧Below w'.heap.size w' w2):
 CallsIn FF 0 prog 95 #[.slice (some ⟨B,0,none⟩) 3 3] w fun e w'=>e=.returned (int i64 0)∧Below w.heap.size w w':=by
 have H1:=hid h1
 have H2:=hid h2
 have H3:=hid h3
 have L0:=hid l0
 have L1:=hid l1
 have L2:=hid l2
 clear h1 h2 h3 l0 l1 l2
 gi_enter func95,ntmps95
 gi_wp2
 gi_loopw [8] (fun i wr=>∃k:Nat,k≤3∧i=int i64 k∧Below w.heap.size w wr) (fun i _=>3 - (intOf i).toNat)
 case atStart=>exact⟨0,zo,rfl,Below.refl _ _⟩
 case round=>
  obtain⟨k,hk,rfl,hb⟩:=hrel
  have hsz:=hb.size
  by_cases hlt:k<3
  ·rcases(show k=0∨k=1∨k=2 by omega) with rfl|rfl|rfl
   ·have c0:=(hb.cell (p:=⟨B,0,none⟩) hB).trans L0.out
    gi_wp2_with (gi_at_call 96;refine(H1.out _ hb).mono ?_;rintro e w2 ⟨rfl,hb2⟩)
    go_roundw
    case rel=>exact⟨0+1,zo,by go_num,hb.trans (hb2.mono hsz)⟩
    case measure=>simp[intOf]
   ·have c0:=(hb.cell (p:=⟨B,1,none⟩) hB).trans L1.out
    gi_wp2_with (gi_at_call 97;refine(H2.out _ hb).mono ?_;rintro e w2 ⟨rfl,hb2⟩)
    go_roundw
    case rel=>exact⟨1+1,zo,by go_num,hb.trans (hb2.mono hsz)⟩
    case measure=>simp[intOf]
   ·have c0:=(hb.cell (p:=⟨B,2,none⟩) hB).trans L2.out
    gi_wp2_with (gi_at_call 98;refine(H3.out _ hb).mono ?_;rintro e w2 ⟨rfl,hb2⟩)
    go_roundw
    case rel=>exact⟨2+1,zo,by go_num,hb.trans (hb2.mono hsz)⟩
    case measure=>simp[intOf]
  ·obtain rfl:k=3:=zo
   gi_wp2
   go_ret
   exact⟨rfl,hb⟩
theorem dA{w w':World}{A:Option Addr}{n:Nat}{xs:Nat→Int}(h:Ints w w.heap.size A n xs)(hb:Below w.heap.size w w'):Ints w' w'.heap.size A n xs:=(Rows.below h hb).more hb.size
theorem VT(xs:Nat→Int)(A:Option Addr)(n p:Nat)(gA:Option Addr)(gc B1 B2:Nat)(w:World)(hI:Ints w w.heap.size A n xs)(hn:n≤maxLen)(hx:∀i,i<n→0≤xs i∧xs i≤99)
 (c1:w.cell? ⟨B1,0,none⟩=some (.slice A n p))(c2:w.cell? ⟨B2,2,none⟩=some (.slice gA n gc)):
 CallsIn FF 0 prog 96 #[.pointer (some ⟨B1,0,none⟩),.pointer (some ⟨B2,0,none⟩)] w fun e w'=>e=.returned (int i64 0)∧Below w.heap.size w w':=by
 have H:=hid (II xs A n p 99 w hI hn hx)
 clear hI hx
 gi_enter func96,ntmps96
 gi_wp2_with (gi_at_call 53;refine H.out.mono ?_;rintro e w2 ⟨rfl,hb2⟩)
 go_ret
 exact⟨rfl,hb2⟩
theorem VU(xs:Nat→Int)(A:Option Addr)(n p:Nat)(gA:Option Addr)(gc B1 B2:Nat)(w:World)(hI:Ints w w.heap.size A n xs)(hn:n≤maxLen)(hx:∀i,i<n→0≤xs i∧xs i≤99)
 (c1:w.cell? ⟨B1,0,none⟩=some (.slice A n p))(c2:w.cell? ⟨B2,3,none⟩=some (.slice gA n gc)):
 CallsIn FF 0 prog 97 #[.pointer (some ⟨B1,0,none⟩),.pointer (some ⟨B2,0,none⟩)] w fun e w'=>e=.returned (int i64 0)∧Below w.heap.size w w':=by
 have H:=hid (II xs A n p 99 w hI hn hx)
 clear hI hx
 gi_enter func97,ntmps97
 gi_wp2_with (gi_at_call 53;refine H.out.mono ?_;rintro e w2 ⟨rfl,hb2⟩)
 go_ret
 exact⟨rfl,hb2⟩
theorem VW(xs:Nat→Int)(A:Option Addr)(n p M:Nat)(gA:Option Addr)(gc B1 B2:Nat)(w:World)(hI:Ints w w.heap.size A n xs)(hn:n≤maxLen)(hM:M≤maxLen)(hx:∀i,i<n→0≤xs i∧xs i≤(M:Int) - 1)(hup:∀i,i+1<n→xs i<xs (i+1))
 (c1:w.cell? ⟨B1,0,none⟩=some (.slice A n p))(c2:w.cell? ⟨B2,0,none⟩=some (.slice gA M gc)):
 CallsIn FF 0 prog 98 #[.pointer (some ⟨B1,0,none⟩),.pointer (some ⟨B2,0,none⟩)] w fun e w'=>e=.returned (int i64 0)∧Below w.heap.size w w':=by
 have H:=hid (Sc xs A n p M w hI hn hM hx hup)
 clear hI hx hup
 gi_enter func98,ntmps98
 gi_wp2_with (gi_at_call 99;refine H.out.mono ?_;rintro e w2 ⟨rfl,hb2⟩)
 go_ret
 exact⟨rfl,hb2⟩
end
end Go.Proofs.YtoldgagdgjilgaaGreat
