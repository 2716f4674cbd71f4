/- HA1 HA2 P15 -/
import Derived.Test.YthaelabgfnnebaaGreatD9
import Derived.Sort.MapsRangeIn
set_option maxRecDepth 100000
set_option maxHeartbeats 16000000
set_option linter.unusedVariables false
set_option linter.unusedSectionVars false
open Go.IntKind(i64)
open Go.Lib(hid)
open Go.Proofs.Tryz
open Go.Value(int)
namespace Go.Proofs.YthaelabgfnnebaaGreat
section
open Go.RowKit Go.Maps
open Go.Sort (grow)
attribute [local go_sem] Oper.semAt_some
noncomputable def rN:List Lit:=[eB 0 4,eB 0 5,eB 1 5,eB 2 0]
noncomputable def DT:DataW Unit:=.map [(eB 0 4,.lit (.int .i64 2)),(eB 0 5,.lit (.int .i64 2)),(eB 1 5,.lit (.int .i64 4)),(eB 2 0,.lit (.int .i64 4))]
theorem XC:(eB 0 4).sameKey (eB 0 4)=true:=zk
theorem XD:(eB 0 4).sameKey (eB 0 5)=false:=zk
theorem XE:(eB 0 4).sameKey (eB 1 5)=false:=zk
theorem XF:(eB 0 4).sameKey (eB 2 0)=false:=zk
theorem XG:(eB 0 5).sameKey (eB 0 4)=false:=zk
theorem XH:(eB 0 5).sameKey (eB 0 5)=true:=zk
theorem XI:(eB 0 5).sameKey (eB 1 5)=false:=zk
theorem XJ:(eB 0 5).sameKey (eB 2 0)=false:=zk
theorem XK:(eB 1 5).sameKey (eB 0 4)=false:=zk
theorem XL:(eB 1 5).sameKey (eB 0 5)=false:=zk
theorem XM:(eB 1 5).sameKey (eB 1 5)=true:=zk
theorem XO:(eB 1 5).sameKey (eB 2 0)=false:=zk
theorem XP:(eB 2 0).sameKey (eB 0 4)=false:=zk
theorem XQ:(eB 2 0).sameKey (eB 0 5)=false:=zk
theorem XR:(eB 2 0).sameKey (eB 1 5)=false:=zk
theorem XT:(eB 2 0).sameKey (eB 2 0)=true:=zk
theorem Cf:DT.atKey (eB 0 4) (.map [])=.lit (.int .i64 2):=zk
theorem Cp:DT.atKey (eB 0 5) (.map [])=.lit (.int .i64 2):=zk
theorem Cs:DT.atKey (eB 1 5) (.map [])=.lit (.int .i64 4):=zk
theorem CE:DT.atKey (eB 2 0) (.map [])=.lit (.int .i64 4):=zk
theorem Ek(kl:Lit)(h:Maps.has DT kl=true):kl∈rN:=by
 unfold DT Maps.has at h
 simp only[List.any_cons,List.any_nil,Bool.or_eq_true,Bool.or_false] at h
 unfold rN
 rcases h with h|h|h|h <;> (have:=WideAt.sameKey_eq h;subst this;simp)
theorem pd:Maps.has DT (eB 0 4)=true:=zk
theorem pf:Maps.has DT (eB 0 5)=true:=zk
theorem pg:Maps.has DT (eB 1 5)=true:=zk
theorem pj:Maps.has DT (eB 2 0)=true:=zk
theorem YP(x c:Value)(kl:Lit)(y:DataW Unit × List MemPlace)(hkey:keyOf prog 135 x=some kl)(hl:kl∈rN)(hR:plainElem prog 3 c=some y)(hat:∀zd,DT.atKey kl zd=y.1):
 (kl=eB 0 4∧x=.agg #[int i64 0,int i64 4]∧c=int i64 2)∨(kl=eB 0 5∧x=.agg #[int i64 0,int i64 5]∧c=int i64 2)∨(kl=eB 1 5∧x=.agg #[int i64 1,int i64 5]∧c=int i64 4)∨(kl=eB 2 0∧x=.agg #[int i64 2,int i64 0]∧c=int i64 4):=by
 obtain⟨a,rfl,rfl,-⟩:=plainElem_int_inv underlying3 hR
 have h0:=hat (.map [])
 unfold rN at hl
 simp only[List.mem_cons,List.not_mem_nil,or_false] at hl
 rcases hl with hl|hl|hl|hl
 ·refine .inl ?_
  rw[hl] at h0 hkey
  rw[Cf] at h0
  injection h0 with h0
  injection h0 with _ h0
  exact⟨hl,dV.inj hkey ry,by rw[h0]⟩
 ·refine .inr (.inl ?_)
  rw[hl] at h0 hkey
  rw[Cp] at h0
  injection h0 with h0
  injection h0 with _ h0
  exact⟨hl,dV.inj hkey rB,by rw[h0]⟩
 ·refine .inr (.inr (.inl ?_))
  rw[hl] at h0 hkey
  rw[Cs] at h0
  injection h0 with h0
  injection h0 with _ h0
  exact⟨hl,dV.inj hkey rK,by rw[h0]⟩
 ·refine .inr (.inr (.inr ?_))
  rw[hl] at h0 hkey
  rw[CE] at h0
  injection h0 with h0
  injection h0 with _ h0
  exact⟨hl,dV.inj hkey rL,by rw[h0]⟩
def OD(a b:Bool):Int:=max (if a then 0 else 2) (if b then 0 else 2)
def Qm(a:Bool):Int:=if a then 0 else 4
theorem nB(G M C:Nat)(A:Option Addr)(p:Nat)(w:World)(hc:om (Tb 1 G M C) A w):CallsIn FF 0 prog 67 #[.agg (aA (Tb 1 G M C) A (ak (Tb 1 G M C)).length p)] w fun e w'=>e=.returned (.tuple #[int i64 0,int i64 2])∧Below w.heap.size w w':=by
 have HR:Hid (∀W,Below w.heap.size w W→CallsIn FF 0 prog 92 #[.agg (aA (Tb 1 G M C) A (ak (Tb 1 G M C)).length p)] W fun e w'=>∃M n,e=.returned (.tuple #[int i64 4,.map (some M)])∧n≤12∧yY w' M n DT∧W.heap.size≤M∧Below W.heap.size W w'):=hid fun W hW=>by
  have:=Xw (Tb 1 G M C) (jW 1 zD G M C) (fq 1 G M C) (by rw[lq];decide) (vT G M C) rfl eB (gO G M C) A p W (hc.below hW)
  rw[lq,YH] at this
  exact this
 obtain⟨n,hn⟩:∃n,n=(ak (Tb 1 G M C)).length:=⟨_,rfl⟩
 rw[← hn] at HR⊢
 clear hn hc
 simp only[Tb,aA] at HR⊢
 obtain⟨w1,hw1⟩:∃w1,w1=w.alloc (.cells #[int i64 10,int i64 1,.slice (some ⟨G,0,none⟩) 2 2,.slice (some ⟨M,0,none⟩) 4 4,.slice (some ⟨C,0,none⟩) 2 2,.slice A n p] 76):=⟨_,rfl⟩
 have B1:Hid (Below w.heap.size w w1):=hid (by rw[hw1];exact bw)
 have C1:Hid (Whole w1 w.heap.size 76 #[int i64 10,int i64 1,.slice (some ⟨G,0,none⟩) 2 2,.slice (some ⟨M,0,none⟩) 4 4,.slice (some ⟨C,0,none⟩) 2 2,.slice A n p]):=hid (by rw[hw1];exact Whole.new _ _ _)
 have mX:=hid hw1
 clear hw1
 gi_enter func67,ntmps67
 gi_wp2_with (first
  | (gi_at_call 92;rw[← mX.out];refine(HR.out w1 B1.out).mono ?_;rintro e w2 ⟨Mp,nn,rfl,hn2,hO2,hM2,hb2⟩;have aag:=hO2.lt;have O2:=hid (hO2.alloc (.cells #[int i64 0,int i64 0,int i64 0] 85));clear hO2)
  | (gi_at_range;refine wpListIn_range_own _ rfl _ 131 rfl 135 3 dV underlying131 _ Mp nn _ rfl O2.out ?_;intro w3 hrg3 hg3 hs3))
 go_frame
 simp only[World.size_alloc]
 have C3:Hid (Whole w3 w.heap.size 76 #[int i64 10,int i64 1,.slice (some ⟨G,0,none⟩) 2 2,.slice (some ⟨M,0,none⟩) 4 4,.slice (some ⟨C,0,none⟩) 2 2,.slice A n p]):=hid (((C1.out.below hb2 C1.out.lt).alloc _).grown hg3 zs)
 have N3:Hid (Whole w3 w2.heap.size 85 #[int i64 0,int i64 0,int i64 0]):=hid ((Whole.new w2 _ _).grown hg3 zs)
 have HB3:Hid (Below w.heap.size w w3):=hid ((Below.al (Below.next B1.out hb2) _).trans (below_grown hg3 (by have:=(Below.next B1.out hb2).size;simp;omega) (fun g hg=>by cases hg)))
 have hM0:=hM2
 have SZ:=O2.out.lt
 have Od:=hb2.size
 have Sy:=C1.out.lt
 simp only[World.size_alloc] at hs3 SZ hrg3
 have aaf:Mp<w2.heap.size+1:=SZ
 have HRG:=hid hrg3
 clear hrg3 hg3 O2 HR C1 B1 hb2 mX
 gi_loopw [] (fun wr=>∃ (left:Lit→Bool) (cnt:Nat),wr.ranges prog 135 (plainElem prog 3) Mp (w2.heap.size+1) nn DT left cnt∧(∀kl,left kl=true→kl∈rN)∧Hid (Whole wr w2.heap.size 85 #[int i64 (OD (left (eB 0 4)) (left (eB 0 5))),int i64 (Qm (left (eB 1 5))),int i64 (Qm (left (eB 2 0)))]∧Whole wr w.heap.size 76 #[int i64 10,int i64 1,.slice (some ⟨G,0,none⟩) 2 2,.slice (some ⟨M,0,none⟩) 4 4,.slice (some ⟨C,0,none⟩) 2 2,.slice A n p]∧Below w.heap.size w wr))
  (fun wr=>wr.rangeLeft Mp (w2.heap.size+1))
 case atStart=>
  refine⟨Maps.has DT,Maps.size DT,HRG.out,Ek,hid ⟨?_,C3.out,HB3.out⟩⟩
  rw[pd,pf,pg,pj]
  exact N3.out
 case round=>
  obtain⟨left,cnt,hrg,hks,hW⟩:=hrel
  gi_wp2_with (gi_at_next;refine wpListIn_next_ranges _ rfl _ rfl 135 dV (plainElem prog 3) id id (fun key _ _=>⟨key,rfl⟩) (fun v _ _=>⟨v,rfl⟩) Mp (w2.heap.size+1) nn _ _ _ rfl hrg ?_ ?_)
  ·intro hc0 hl0
   have N9:Whole wr w2.heap.size 85 #[int i64 2,int i64 4,int i64 4]:=by
    have:=hW.out.1
    rw[hl0,hl0,hl0,hl0] at this
    exact this
   have mi:=hid (VN w2.heap.size wr (N9.cell 0) (N9.cell 1))
   have d0:wr.cell? ⟨w.heap.size,0,none⟩=some (int i64 10):=hW.out.2.1.cell 0
   have d1:wr.cell? ⟨w.heap.size,1,none⟩=some (int i64 1):=hW.out.2.1.cell 1
   have d2:wr.cell? ⟨w.heap.size,2,none⟩=some (.slice (some ⟨G,0,none⟩) 2 2):=hW.out.2.1.cell 2
   have d3:wr.cell? ⟨w.heap.size,3,none⟩=some (.slice (some ⟨M,0,none⟩) 4 4):=hW.out.2.1.cell 3
   have d4:wr.cell? ⟨w.heap.size,4,none⟩=some (.slice (some ⟨C,0,none⟩) 2 2):=hW.out.2.1.cell 4
   have d5:wr.cell? ⟨w.heap.size,5,none⟩=some (.slice A n p):=hW.out.2.1.cell 5
   have tZ:=hW.out.2.2
   clear N9 hl0 hrg hks
   gi_wp2_with (gi_at_call 93;refine mi.out.mono ?_;rintro e w5 ⟨rfl,rfl⟩)
   go_ret2
   exact⟨rfl,tZ⟩
  ·intro x c kl yd yp w4 FH hkey hlk hv hat vg WJ hg4 hs4 hen
   have hcase:=YP x c kl (yd,yp) hkey (hks kl hlk) hv hat
   have N4:=hid (hW.out.1.grown hg4 zs)
   have C4:=hid (hW.out.2.1.grown hg4 zm)
   have Dh:Hid (Below w.heap.size w w4):=hid (hW.out.2.2.trans (below_grown hg4 (by have:=hW.out.2.1.lt;omega) (fun g hg=>by cases hg;omega)))
   have hn4:=N4.out.lt
   obtain⟨b0,hb0⟩:∃b,b=left (eB 0 4):=⟨_,rfl⟩
   obtain⟨b1,hb1⟩:∃b,b=left (eB 0 5):=⟨_,rfl⟩
   obtain⟨b2,hb2⟩:∃b,b=left (eB 1 5):=⟨_,rfl⟩
   obtain⟨b3,hb3⟩:∃b,b=left (eB 2 0):=⟨_,rfl⟩
   rw[← hb0,← hb1,← hb2,← hb3] at N4
   obtain⟨m0,hm0⟩:∃m,m=OD b0 b1:=⟨_,rfl⟩
   obtain⟨m1,hm1⟩:∃m,m=Qm b2:=⟨_,rfl⟩
   obtain⟨m2,hm2⟩:∃m,m=Qm b3:=⟨_,rfl⟩
   rw[← hm0,← hm1,← hm2] at N4
   have ue:Hid (wr.rangeLeft Mp (w2.heap.size+1)=cnt):=hid hrg.left_eq
   have ao:=hid hks
   have HB:=hid (And.intro hb0 (And.intro hb1 (And.intro hb2 (And.intro hb3 (And.intro hm0 (And.intro hm1 hm2))))))
   clear hks hrg hkey hv hat hg4 hW hb0 hb1 hb2 hb3 hm0 hm1 hm2
   rcases hcase with⟨hkl,rfl,rfl⟩|⟨hkl,rfl,rfl⟩|⟨hkl,rfl,rfl⟩|⟨hkl,rfl,rfl⟩
   ·rw[hkl] at vg hlk
    have I4:=hid vg
    have aw:=hid hlk
    clear vg hlk hkl
    obtain⟨W5,mZ⟩:∃W5,W5=w4.alloc (.cells #[int i64 0,int i64 4] 135):=⟨_,rfl⟩
    have X5:Whole W5 wr.heap.size 135 #[int i64 0,int i64 4]:=by rw[mZ,← hs4];exact Whole.new _ _ _
    have N5:=hid (by rw[mZ];exact N4.out.alloc _:Whole W5 w2.heap.size 85 #[int i64 m0,int i64 m1,int i64 m2])
    have C5:=hid (by rw[mZ];exact C4.out.alloc _:Whole W5 w.heap.size 76 #[int i64 10,int i64 1,.slice (some ⟨G,0,none⟩) 2 2,.slice (some ⟨M,0,none⟩) 4 4,.slice (some ⟨C,0,none⟩) 2 2,.slice A n p])
    have EW:Hid (Below w.heap.size w W5):=hid (by rw[mZ];exact Below.al Dh.out _)
    have R5:=hid (by rw[mZ];exact I4.out.alloc _:W5.ranges prog 135 (plainElem prog 3) Mp (w2.heap.size+1) nn DT (fun z=>left z && !z.sameKey (eB 0 4)) FH)
    have x0:∀d os,(grow (redrawn W5 d) os).cell? ⟨wr.heap.size,0,none⟩=some (int i64 0):=cell_regrown (X5.cell 0)
    have q0:∀d os,(grow (redrawn W5 d) os).cell? ⟨w2.heap.size,0,none⟩=some (int i64 m0):=cell_regrown (N5.out.cell 0)
    have aE:=hid mZ
    clear mZ X5
    gi_wp2
    rw[← aE.out]
    refine aK 8 rfl zk zk ?_
    repeat (quiet_step_in (fail))
    refine wpQuietIn_nil ?_
    rintro w' ⟨⟨dq,osq⟩,rfl⟩
    have bD:=below_regrown W5 dq osq
    clear x0 q0
    have N9:=N5.out.below bD N5.out.lt
    have C9:=hid (C5.out.below bD C5.out.lt)
    have tZ:=hid (Below.next EW.out bD)
    have R9:=hid (R5.out.kept (w':=grow (redrawn W5 dq) osq) (row:=none) ⟨bD.os,bD.tape,bD.output,bD.size,fun i hi _=>bD.block i hi⟩ zs zs)
    simp only at N9 C9 tZ R9⊢
    generalize grow (redrawn W5 dq) osq=w9 at N9 C9 tZ R9⊢
    clear bD
    have n0:w9.cell? ⟨w2.heap.size,0,none⟩=some (int i64 m0):=N9.cell 0
    have nf:=N9.thaw
    have bz:=hid N9
    clear N9
    gi_wp2
    go_roundw
    case rel=>
     obtain⟨hb0,hb1,hb2,hb3,hm0,hm1,hm2⟩:=HB.out
     have hlq:=aw.out
     rw[← hb0] at hlq
     refine⟨fun z=>left z && !z.sameKey (eB 0 4),FH,?_,fun kl h=>ao.out kl (by simp only[Bool.and_eq_true] at h;exact h.1),hid ⟨?_,C9.out.other zn _,tZ.out.setCell zn _⟩⟩
     ·exact R9.out.kept (row:=some w2.heap.size) ⟨rfl,rfl,rfl,by simp[World.setCell],fun i hi hne=>Below.heap_setCell _ _ _ _ (fun e=>hne (by rw[e]))⟩ zm zs
     ·dsimp only
      rw[XC,XG,XK,XP,← hb0,← hb1,← hb2,← hb3]
      have F:=bz.out.set 0 (int i64 (max m0 2))
      have e0:OD (b0 && !true) (b1 && !false)=max m0 2:=by rw[hm0];cases b0 <;> cases b1 <;> first|decide|(cases hlq)
      have e1:Qm (b2 && !false)=m1:=by rw[hm1];cases b2 <;> first|decide|(cases hlq)
      have e2:Qm (b3 && !false)=m2:=by rw[hm2];cases b3 <;> first|decide|(cases hlq)
      rw[e0,e1,e2]
      exact F
    case measure=>
     have h1:=ue.out
     rw[h1]
     have h2:=(R9.out.kept (w':=w9.setCell ⟨w2.heap.size,0,none⟩ (int i64 (max m0 2))) (row:=some w2.heap.size) ⟨rfl,rfl,rfl,by simp[World.setCell],fun i hi hne=>Below.heap_setCell _ _ _ _ (fun e=>hne (by rw[e]))⟩ zm zs).left_eq
     rw[h2]
     exact WJ
   ·rw[hkl] at vg hlk
    have I4:=hid vg
    have aw:=hid hlk
    clear vg hlk hkl
    obtain⟨W5,mZ⟩:∃W5,W5=w4.alloc (.cells #[int i64 0,int i64 5] 135):=⟨_,rfl⟩
    have X5:Whole W5 wr.heap.size 135 #[int i64 0,int i64 5]:=by rw[mZ,← hs4];exact Whole.new _ _ _
    have N5:=hid (by rw[mZ];exact N4.out.alloc _:Whole W5 w2.heap.size 85 #[int i64 m0,int i64 m1,int i64 m2])
    have C5:=hid (by rw[mZ];exact C4.out.alloc _:Whole W5 w.heap.size 76 #[int i64 10,int i64 1,.slice (some ⟨G,0,none⟩) 2 2,.slice (some ⟨M,0,none⟩) 4 4,.slice (some ⟨C,0,none⟩) 2 2,.slice A n p])
    have EW:Hid (Below w.heap.size w W5):=hid (by rw[mZ];exact Below.al Dh.out _)
    have R5:=hid (by rw[mZ];exact I4.out.alloc _:W5.ranges prog 135 (plainElem prog 3) Mp (w2.heap.size+1) nn DT (fun z=>left z && !z.sameKey (eB 0 5)) FH)
    have x0:∀d os,(grow (redrawn W5 d) os).cell? ⟨wr.heap.size,0,none⟩=some (int i64 0):=cell_regrown (X5.cell 0)
    have q0:∀d os,(grow (redrawn W5 d) os).cell? ⟨w2.heap.size,0,none⟩=some (int i64 m0):=cell_regrown (N5.out.cell 0)
    have aE:=hid mZ
    clear mZ X5
    gi_wp2
    rw[← aE.out]
    refine aK 8 rfl zk zk ?_
    repeat (quiet_step_in (fail))
    refine wpQuietIn_nil ?_
    rintro w' ⟨⟨dq,osq⟩,rfl⟩
    have bD:=below_regrown W5 dq osq
    clear x0 q0
    have N9:=N5.out.below bD N5.out.lt
    have C9:=hid (C5.out.below bD C5.out.lt)
    have tZ:=hid (Below.next EW.out bD)
    have R9:=hid (R5.out.kept (w':=grow (redrawn W5 dq) osq) (row:=none) ⟨bD.os,bD.tape,bD.output,bD.size,fun i hi _=>bD.block i hi⟩ zs zs)
    simp only at N9 C9 tZ R9⊢
    generalize grow (redrawn W5 dq) osq=w9 at N9 C9 tZ R9⊢
    clear bD
    have n0:w9.cell? ⟨w2.heap.size,0,none⟩=some (int i64 m0):=N9.cell 0
    have nf:=N9.thaw
    have bz:=hid N9
    clear N9
    gi_wp2
    go_roundw
    case rel=>
     obtain⟨hb0,hb1,hb2,hb3,hm0,hm1,hm2⟩:=HB.out
     have hlq:=aw.out
     rw[← hb1] at hlq
     refine⟨fun z=>left z && !z.sameKey (eB 0 5),FH,?_,fun kl h=>ao.out kl (by simp only[Bool.and_eq_true] at h;exact h.1),hid ⟨?_,C9.out.other zn _,tZ.out.setCell zn _⟩⟩
     ·exact R9.out.kept (row:=some w2.heap.size) ⟨rfl,rfl,rfl,by simp[World.setCell],fun i hi hne=>Below.heap_setCell _ _ _ _ (fun e=>hne (by rw[e]))⟩ zm zs
     ·dsimp only
      rw[XD,XH,XL,XQ,← hb0,← hb1,← hb2,← hb3]
      have F:=bz.out.set 0 (int i64 (max m0 2))
      have e0:OD (b0 && !false) (b1 && !true)=max m0 2:=by rw[hm0];cases b0 <;> cases b1 <;> first|decide|(cases hlq)
      have e1:Qm (b2 && !false)=m1:=by rw[hm1];cases b2 <;> first|decide|(cases hlq)
      have e2:Qm (b3 && !false)=m2:=by rw[hm2];cases b3 <;> first|decide|(cases hlq)
      rw[e0,e1,e2]
      exact F
    case measure=>
     have h1:=ue.out
     rw[h1]
     have h2:=(R9.out.kept (w':=w9.setCell ⟨w2.heap.size,0,none⟩ (int i64 (max m0 2))) (row:=some w2.heap.size) ⟨rfl,rfl,rfl,by simp[World.setCell],fun i hi hne=>Below.heap_setCell _ _ _ _ (fun e=>hne (by rw[e]))⟩ zm zs).left_eq
     rw[h2]
     exact WJ
   ·rw[hkl] at vg hlk
    have I4:=hid vg
    have aw:=hid hlk
    clear vg hlk hkl
    obtain⟨W5,mZ⟩:∃W5,W5=w4.alloc (.cells #[int i64 1,int i64 5] 135):=⟨_,rfl⟩
    have X5:Whole W5 wr.heap.size 135 #[int i64 1,int i64 5]:=by rw[mZ,← hs4];exact Whole.new _ _ _
    have N5:=hid (by rw[mZ];exact N4.out.alloc _:Whole W5 w2.heap.size 85 #[int i64 m0,int i64 m1,int i64 m2])
    have C5:=hid (by rw[mZ];exact C4.out.alloc _:Whole W5 w.heap.size 76 #[int i64 10,int i64 1,.slice (some ⟨G,0,none⟩) 2 2,.slice (some ⟨M,0,none⟩) 4 4,.slice (some ⟨C,0,none⟩) 2 2,.slice A n p])
    have EW:Hid (Below w.heap.size w W5):=hid (by rw[mZ];exact Below.al Dh.out _)
    have R5:=hid (by rw[mZ];exact I4.out.alloc _:W5.ranges prog 135 (plainElem prog 3) Mp (w2.heap.size+1) nn DT (fun z=>left z && !z.sameKey (eB 1 5)) FH)
    have x0:∀d os,(grow (redrawn W5 d) os).cell? ⟨wr.heap.size,0,none⟩=some (int i64 1):=cell_regrown (X5.cell 0)
    have q0:∀d os,(grow (redrawn W5 d) os).cell? ⟨w2.heap.size,1,none⟩=some (int i64 m1):=cell_regrown (N5.out.cell 1)
    have aE:=hid mZ
    clear mZ X5
    gi_wp2
    rw[← aE.out]
    refine aK 8 rfl zk zk ?_
    repeat (quiet_step_in (fail))
    refine wpQuietIn_nil ?_
    rintro w' ⟨⟨dq,osq⟩,rfl⟩
    have bD:=below_regrown W5 dq osq
    clear x0 q0
    have N9:=N5.out.below bD N5.out.lt
    have C9:=hid (C5.out.below bD C5.out.lt)
    have tZ:=hid (Below.next EW.out bD)
    have R9:=hid (R5.out.kept (w':=grow (redrawn W5 dq) osq) (row:=none) ⟨bD.os,bD.tape,bD.output,bD.size,fun i hi _=>bD.block i hi⟩ zs zs)
    simp only at N9 C9 tZ R9⊢
    generalize grow (redrawn W5 dq) osq=w9 at N9 C9 tZ R9⊢
    clear bD
    have n0:w9.cell? ⟨w2.heap.size,1,none⟩=some (int i64 m1):=N9.cell 1
    have nf:=N9.thaw
    have bz:=hid N9
    clear N9
    gi_wp2
    go_roundw
    case rel=>
     obtain⟨hb0,hb1,hb2,hb3,hm0,hm1,hm2⟩:=HB.out
     have hlq:=aw.out
     rw[← hb2] at hlq
     refine⟨fun z=>left z && !z.sameKey (eB 1 5),FH,?_,fun kl h=>ao.out kl (by simp only[Bool.and_eq_true] at h;exact h.1),hid ⟨?_,C9.out.other zn _,tZ.out.setCell zn _⟩⟩
     ·exact R9.out.kept (row:=some w2.heap.size) ⟨rfl,rfl,rfl,by simp[World.setCell],fun i hi hne=>Below.heap_setCell _ _ _ _ (fun e=>hne (by rw[e]))⟩ zm zs
     ·dsimp only
      rw[XE,XI,XM,XR,← hb0,← hb1,← hb2,← hb3]
      have F:=bz.out.set 1 (int i64 (max m1 4))
      have e0:OD (b0 && !false) (b1 && !false)=m0:=by rw[hm0];cases b0 <;> cases b1 <;> first|decide|(cases hlq)
      have e1:Qm (b2 && !true)=max m1 4:=by rw[hm1];cases b2 <;> first|decide|(cases hlq)
      have e2:Qm (b3 && !false)=m2:=by rw[hm2];cases b3 <;> first|decide|(cases hlq)
      rw[e0,e1,e2]
      exact F
    case measure=>
     have h1:=ue.out
     rw[h1]
     have h2:=(R9.out.kept (w':=w9.setCell ⟨w2.heap.size,1,none⟩ (int i64 (max m1 4))) (row:=some w2.heap.size) ⟨rfl,rfl,rfl,by simp[World.setCell],fun i hi hne=>Below.heap_setCell _ _ _ _ (fun e=>hne (by rw[e]))⟩ zm zs).left_eq
     rw[h2]
     exact WJ
   ·rw[hkl] at vg hlk
    have I4:=hid vg
    have aw:=hid hlk
    clear vg hlk hkl
    obtain⟨W5,mZ⟩:∃W5,W5=w4.alloc (.cells #[int i64 2,int i64 0] 135):=⟨_,rfl⟩
    have X5:Whole W5 wr.heap.size 135 #[int i64 2,int i64 0]:=by rw[mZ,← hs4];exact Whole.new _ _ _
    have N5:=hid (by rw[mZ];exact N4.out.alloc _:Whole W5 w2.heap.size 85 #[int i64 m0,int i64 m1,int i64 m2])
    have C5:=hid (by rw[mZ];exact C4.out.alloc _:Whole W5 w.heap.size 76 #[int i64 10,int i64 1,.slice (some ⟨G,0,none⟩) 2 2,.slice (some ⟨M,0,none⟩) 4 4,.slice (some ⟨C,0,none⟩) 2 2,.slice A n p])
    have EW:Hid (Below w.heap.size w W5):=hid (by rw[mZ];exact Below.al Dh.out _)
    have R5:=hid (by rw[mZ];exact I4.out.alloc _:W5.ranges prog 135 (plainElem prog 3) Mp (w2.heap.size+1) nn DT (fun z=>left z && !z.sameKey (eB 2 0)) FH)
    have x0:∀d os,(grow (redrawn W5 d) os).cell? ⟨wr.heap.size,0,none⟩=some (int i64 2):=cell_regrown (X5.cell 0)
    have q0:∀d os,(grow (redrawn W5 d) os).cell? ⟨w2.heap.size,2,none⟩=some (int i64 m2):=cell_regrown (N5.out.cell 2)
    have aE:=hid mZ
    clear mZ X5
    gi_wp2
    rw[← aE.out]
    refine aK 8 rfl zk zk ?_
    repeat (quiet_step_in (fail))
    refine wpQuietIn_nil ?_
    rintro w' ⟨⟨dq,osq⟩,rfl⟩
    have bD:=below_regrown W5 dq osq
    clear x0 q0
    have N9:=N5.out.below bD N5.out.lt
    have C9:=hid (C5.out.below bD C5.out.lt)
    have tZ:=hid (Below.next EW.out bD)
    have R9:=hid (R5.out.kept (w':=grow (redrawn W5 dq) osq) (row:=none) ⟨bD.os,bD.tape,bD.output,bD.size,fun i hi _=>bD.block i hi⟩ zs zs)
    simp only at N9 C9 tZ R9⊢
    generalize grow (redrawn W5 dq) osq=w9 at N9 C9 tZ R9⊢
    clear bD
    have n0:w9.cell? ⟨w2.heap.size,2,none⟩=some (int i64 m2):=N9.cell 2
    have nf:=N9.thaw
    have bz:=hid N9
    clear N9
    gi_wp2
    go_roundw
    case rel=>
     obtain⟨hb0,hb1,hb2,hb3,hm0,hm1,hm2⟩:=HB.out
     have hlq:=aw.out
     rw[← hb3] at hlq
     refine⟨fun z=>left z && !z.sameKey (eB 2 0),FH,?_,fun kl h=>ao.out kl (by simp only[Bool.and_eq_true] at h;exact h.1),hid ⟨?_,C9.out.other zn _,tZ.out.setCell zn _⟩⟩
     ·exact R9.out.kept (row:=some w2.heap.size) ⟨rfl,rfl,rfl,by simp[World.setCell],fun i hi hne=>Below.heap_setCell _ _ _ _ (fun e=>hne (by rw[e]))⟩ zm zs
     ·dsimp only
      rw[XF,XJ,XO,XT,← hb0,← hb1,← hb2,← hb3]
      have F:=bz.out.set 2 (int i64 (max m2 4))
      have e0:OD (b0 && !false) (b1 && !false)=m0:=by rw[hm0];cases b0 <;> cases b1 <;> first|decide|(cases hlq)
      have e1:Qm (b2 && !false)=m1:=by rw[hm1];cases b2 <;> first|decide|(cases hlq)
      have e2:Qm (b3 && !true)=max m2 4:=by rw[hm2];cases b3 <;> first|decide|(cases hlq)
      rw[e0,e1,e2]
      exact F
    case measure=>
     have h1:=ue.out
     rw[h1]
     have h2:=(R9.out.kept (w':=w9.setCell ⟨w2.heap.size,2,none⟩ (int i64 (max m2 4))) (row:=some w2.heap.size) ⟨rfl,rfl,rfl,by simp[World.setCell],fun i hi hne=>Below.heap_setCell _ _ _ _ (fun e=>hne (by rw[e]))⟩ zm zs).left_eq
     rw[h2]
     exact WJ
end
section
open Go.RowKit Go.Maps
attribute [local go_sem] Oper.semAt_some
theorem Pk(G M C:Nat)(w:World)(h:(Tb 1 G M C).At w w.heap.size):CallsIn FF 0 prog 30 #[(Tb 1 G M C).val] w fun e w'=>e=.returned (.tuple #[int i64 0,int i64 2,int i64 0])∧Below w.heap.size w w':=by
 have HO:=hid fun w h=>mF (Tb 1 G M C) w h (jW 1 zD G M C) (Nat.le_refl 2)
 have HB:=hid fun A p w hc=>nB G M C A p w hc
 have HA:=hid h
 obtain⟨n,hn⟩:∃n,n=(ak (Tb 1 G M C)).length:=⟨_,rfl⟩
 rw[← hn] at HO HB
 clear hn h
 have yo:Hid (∀A w,om (Tb 1 G M C) A w→∀w',Below w.heap.size w w'→om (Tb 1 G M C) A w'):=hid fun A w h w' hb=>h.below hb
 simp only[Tb,Bk.val,Bk.cells,aA] at HO HB⊢
 gi_enter func30,ntmps30
 gi_wp2_with (first
  | (gi_at_call 33;refine(HO.out _ (HA.out.up (bw))).mono ?_;rintro e w2 ⟨A,p,rfl,hc2,hb2,-⟩)
  | (gi_at_call 67;refine(HB.out A p _ (yo.out A _ hc2 _ (bw))).mono ?_;rintro e w4 ⟨rfl,hb4⟩))
 go_ret3
 have DY:=Below.al (Below.next (show Below w.heap.size w (w.alloc (.cells #[int i64 10,int i64 1,.slice (some ⟨G,0,none⟩) 2 2,.slice (some ⟨M,0,none⟩) 4 4,.slice (some ⟨C,0,none⟩) 2 2] 26)) from bw) hb2) (.cells #[int i64 10,int i64 1,.slice (some ⟨G,0,none⟩) 2 2,.slice (some ⟨M,0,none⟩) 4 4,.slice (some ⟨C,0,none⟩) 2 2,.slice A n p] 76)
 exact⟨rfl,Below.next DY hb4⟩
end
section
open Go.RowKit
theorem rR(p:Nat→Bool)(k:Nat):(((List.range k).filter p).map fun(n:Nat)=>(n:Int)).Pairwise (· < ·):=by
 rw[List.pairwise_map]
 exact(List.pairwise_lt_range.filter _).imp fun h=>by exact_mod_cast h
theorem Tt(b:Bk)(k:Nat):(bn b k).Pairwise (· < ·):=rR _ _
theorem OH{b:Bk}{k:Nat}{i:Nat}(hi:i<k)(hz:(b.m i).kind=0):(i:Int)∈bn b k:=by
 unfold bn
 exact List.mem_map.2 ⟨i,List.mem_filter.2 ⟨List.mem_range.2 hi,by simp[hz]⟩,rfl⟩
theorem WQ{l:List Int}{x:Int}(h:x∈l):l.getD (l.idxOf x) 0=x:=by
 have:=List.idxOf_lt_length_iff.2 h
 simp[this]
theorem eI{l:List Int}{x y:Int}(hl:l.Pairwise (· < ·))(hx:x∈l)(hy:y∈l)(h:x<y):l.idxOf x<l.idxOf y:=by
 have h1:=List.idxOf_lt_length_iff.2 hx
 have h2:=List.idxOf_lt_length_iff.2 hy
 have e1:l[l.idxOf x]=x:=zs
 have e2:l[l.idxOf y]=y:=zs
 rcases Nat.lt_trichotomy (l.idxOf x) (l.idxOf y) with h3|h3|h3
 ·exact h3
 ·exfalso;have:x=y:=by rw[← e1,← e2];simp[h3]
  omega
 ·exfalso;have:=List.pairwise_iff_getElem.1 hl _ _ h2 h1 h3
  rw[e1,e2] at this;omega
theorem eJ{l:List Int}{x:Int}(hl:l.Pairwise (· < ·))(hx:x∈l):∀i,i<l.idxOf x→l.getD i 0≠l.getD (l.idxOf x) 0:=fun i hi=>by
 have h1:=List.idxOf_lt_length_iff.2 hx
 have:=List.pairwise_iff_getElem.1 hl i _ zo h1 hi
 rw[show l.getD i 0=l[i] by simp[show i<l.length by omega],show l.getD (l.idxOf x) 0=l[l.idxOf x] by simp[h1]]
 omega
def fV(nt l3:List Int)(k:Nat):List Int:=(l3.take k).map fun x=>((nt.idxOf x:Nat):Int)
theorem Al(nt l3:List Int){k:Nat}(hk:k<l3.length):fV nt l3 (k+1)=fV nt l3 k ++ [((nt.idxOf (l3.getD k 0):Nat):Int)]:=by
 unfold fV
 rw[List.take_add_one,List.map_append]
 simp[hk]
theorem rT(nt l3:List Int){k:Nat}(hk:k≤l3.length):(fV nt l3 k).length=k:=by
 unfold fV;simp;omega
theorem tJ:∀ (a b:List Nat),a.Nodup→a ⊆ b→a.length≤b.length
 | [],_,_,_=>Nat.zero_le _
 | x :: a,b,h,hs=>by
   have h1:=(List.nodup_cons.1 h)
   have hx:x∈b:=hs (List.mem_cons_self)
   have:=tJ a (b.erase x) h1.2 (fun y hy=>(List.mem_erase_of_ne (by rintro rfl;exact h1.1 hy)).2 (hs (List.mem_cons_of_mem _ hy)))
   rw[List.length_erase_of_mem hx] at this
   have hp:0<b.length:=List.length_pos_of_mem hx
   simp only[List.length_cons]
   omega
theorem FB(b:Bk)(l1 l2 l3:List Int)(w:World)(h:b.At w w.heap.size)(ok:b.Ok)(hp:vU b l1 l2 l3)(A1 A2 A3:Option Addr)(p1 p2 p3:Nat)
 (i1:Ints w w.heap.size A1 l1.length (fun i=>l1.getD i 0))(i2:Ints w w.heap.size A2 l2.length (fun i=>l2.getD i 0))(i3:Ints w w.heap.size A3 l3.length (fun i=>l3.getD i 0)):
 CallsIn FF 0 prog 88 #[b.val,.slice A1 l1.length p1,.slice A2 l2.length p2,.slice A3 l3.length p3] w fun e w'=>e=.returned (int i64 0)∧Below w.heap.size w w':=by
 obtain⟨days,most,gA,ng,gc,g,mA,nm,mc,m,cA,nc,cc,c⟩:=b
 have hN:∀w,(⟨days,most,gA,ng,gc,g,mA,nm,mc,m,cA,nc,cc,c⟩:Bk).At w w.heap.size→CallsIn FF 0 prog 115 #[.agg #[int i64 days,int i64 most,.slice gA ng gc,.slice mA nm mc,.slice cA nc cc]] w fun e w'=>∃v,e=.returned v∧w'.ownsRow w.heap.size 3 1 v (bn (⟨days,most,gA,ng,gc,g,mA,nm,mc,m,cA,nc,cc,c⟩:Bk) nm).length ((bn (⟨days,most,gA,ng,gc,g,mA,nm,mc,m,cA,nc,cc,c⟩:Bk) nm).map (int i64))∧Below w.heap.size w w':=fun w h=>Xm ⟨days,most,gA,ng,gc,g,mA,nm,mc,m,cA,nc,cc,c⟩ w h ok.moves.1
 obtain⟨nt,hnt⟩:∃nt,nt=bn (⟨days,most,gA,ng,gc,g,mA,nm,mc,m,cA,nc,cc,c⟩:Bk) nm:=⟨_,rfl⟩
 rw[← hnt] at hN
 have hup:Hid (nt.Pairwise (· < ·)):=hid (by rw[hnt];exact Tt _ _)
 have hin:Hid (∀x∈l3,x∈nt):=hid (fun x hx=>by
  obtain⟨i,rfl,h1,h2⟩:=hp.came x hx
  rw[hnt];exact OH h1 h2)
 have hnl:nt.length≤6:=by rw[hnt];exact Nat.le_trans (kJ _ _) ok.moves.1
 have hl3:l3.length≤6:=by
  have h6:(l3.map Int.toNat).Nodup:=by
   rw[List.nodup_iff_pairwise_ne,List.pairwise_map]
   refine hp.up.imp_of_mem ?_
   intro x y hx hy hxy e
   obtain⟨i,rfl,_,_⟩:=hp.came x hx
   obtain⟨j,rfl,_,_⟩:=hp.came y hy
   simp at e
   omega
  have h7:(l3.map Int.toNat) ⊆ List.range nm:=fun x hx=>by
   obtain⟨y,hy,rfl⟩:=List.mem_map.1 hx
   obtain⟨i,rfl,h8,_⟩:=hp.came y hy
   simpa using h8
  have h9:(l3.map Int.toNat).length≤(List.range nm).length:=tJ _ _ h6 h7
  have:=ok.moves.1
  simp at h9 this
  omega
 have e1:=hp.n1
 have e2:=hp.n2
 simp only at e1 e2
 have BK:ng≤3:=ok.bM.1.2
 have hnm:nm≤6:=ok.moves.1
 rw[e1] at i1⊢
 rw[e2] at i2⊢
 have b1:∀i,i<ng→0≤l1.getD i 0∧l1.getD i 0≤99:=fun i hi=>hp.b1 _ (by rw[show l1.getD i 0=l1[i]'zo by simp[show i<l1.length by omega]];exact List.getElem_mem _)
 have b2:∀i,i<nm→0≤l2.getD i 0∧l2.getD i 0≤99:=fun i hi=>hp.b2 _ (by rw[show l2.getD i 0=l2[i]'zo by simp[show i<l2.length by omega]];exact List.getElem_mem _)
 have B1:=hid b1
 have B2:=hid b2
 have HU:=hid hp.up
 have Hh:=hid h
 have I1:=hid i1
 have I2:=hid i2
 have I3:=hid i3
 clear h ok hp i1 i2 i3 hnt b1 b2 e1 e2
 simp only[Bk.val,Bk.cells]
 obtain⟨i0,hi,hz0,hz1,hz2⟩:=info_parts info3
 have hi0:=hid hi
 clear hi
 gi_enter func88,ntmps88
 gi_wp2_with (gi_at_call 115;refine(hN _ (Hh.out.below (bw) |>.more zm)).mono ?_;rintro e w4 ⟨v4,rfl,Sw,hb4⟩;obtain⟨A4,c4,rfl⟩:=dF Sw;have Dh:=hid hb4;have AG:=hid Sw;clear hb4 Sw)
 have hW4:Hid (Below w.heap.size w w4):=hid ((bw:Below w.heap.size w _).trans (Dh.out.mono zm))
 have hs4:w.heap.size+3≤w4.heap.size:=by have:=Dh.out.size;simp at this;omega
 have kA:Whole (((w.alloc (.cells #[int i64 days,int i64 most,.slice gA ng gc,.slice mA nm mc,.slice cA nc cc] 74)).alloc (.cells #[.slice A1 ng p1] 30)).alloc (.cells #[.slice A2 nm p2] 30)) w.heap.size 74 #[int i64 days,int i64 most,.slice gA ng gc,.slice mA nm mc,.slice cA nc cc]:=((Whole.new w 74 _).alloc _).alloc _
 have kB:Whole (((w.alloc (.cells #[int i64 days,int i64 most,.slice gA ng gc,.slice mA nm mc,.slice cA nc cc] 74)).alloc (.cells #[.slice A1 ng p1] 30)).alloc (.cells #[.slice A2 nm p2] 30)) (w.heap.size+1) 30 #[.slice A1 ng p1]:=by
  have:=(Whole.new (w.alloc (.cells #[int i64 days,int i64 most,.slice gA ng gc,.slice mA nm mc,.slice cA nc cc] 74)) 30 #[.slice A1 ng p1]).alloc (.cells #[.slice A2 nm p2] 30)
  rwa[World.size_alloc] at this
 have kC:Whole (((w.alloc (.cells #[int i64 days,int i64 most,.slice gA ng gc,.slice mA nm mc,.slice cA nc cc] 74)).alloc (.cells #[.slice A1 ng p1] 30)).alloc (.cells #[.slice A2 nm p2] 30)) (w.heap.size+1+1) 30 #[.slice A2 nm p2]:=by
  have:=Whole.new ((w.alloc (.cells #[int i64 days,int i64 most,.slice gA ng gc,.slice mA nm mc,.slice cA nc cc] 74)).alloc (.cells #[.slice A1 ng p1] 30)) 30 #[.slice A2 nm p2]
  rwa[World.size_alloc,World.size_alloc] at this
 have jA:=hid (kA.below Dh.out kA.lt)
 have jB:=hid (kB.below Dh.out kB.lt)
 have jC:=hid (kC.below Dh.out kC.lt)
 clear kA kB kC
 obtain⟨w5,wZ⟩:∃w5,w5=(w4.alloc (.cells #[.slice A4 nt.length c4] 30)).alloc (.cells #[.slice none 0 0] 30):=⟨_,rfl⟩
 have mZ:Hid (Below w4.heap.size w4 w5):=hid (by rw[wZ];exact bw)
 have hs5:w5.heap.size=w4.heap.size+2:=by rw[wZ];simp
 have n5:Hid (Whole w5 w4.heap.size 30 #[.slice A4 nt.length c4]):=hid (by rw[wZ];exact(Whole.new w4 30 _).alloc _)
 have x5:Hid (Whole w5 (w4.heap.size+1) 30 #[.slice none 0 0]):=hid (by
  have:=Whole.new (w4.alloc (.cells #[.slice A4 nt.length c4] 30)) 30 #[.slice none 0 0]
  rw[wZ];rwa[World.size_alloc] at this)
 rw[← wZ]
 clear wZ
 gi_wp2
 gi_loopw [17] (fun i wr=>∃k:Nat,k≤l3.length∧i=int i64 k∧∃v,Hid (Whole wr (w4.heap.size+1) 30 #[v]∧wr.ownsRow (w4.heap.size+2) 3 1 v k ((fV nt l3 k).map (int i64))∧Below (w4.heap.size+1) w5 wr)) (fun i _=>l3.length - (intOf i).toNat)
 case atStart=>exact⟨0,Nat.zero_le _,rfl,_,hid ⟨x5.out,jl _ _ _,Below.refl _ _⟩⟩
 case round=>
  obtain⟨k,hk,rfl,v,hR⟩:=hrel
  have hbw:Hid (Below w.heap.size w wr):=hid ((hW4.out.trans (mZ.out.mono zo)).trans (hR.out.2.2.mono zo))
  have hsr:=hR.out.2.2.size
  by_cases hlt:k<l3.length
  ·have HI3:=hid (aT I3.out hbw.out)
   obtain⟨ad3,rfl,-⟩:=HI3.out (show 0<l3.length by omega)
   have ck:=Ints.at_ HI3.out hlt
   have hmem:l3.getD k 0∈nt:=hin.out _ (by rw[show l3.getD k 0=l3[k] by simp[hlt]];exact List.getElem_mem _)
   have hX:Hid (∀w',Below w4.heap.size w4 w'→CallsIn FF 0 prog 116 #[.slice A4 nt.length c4,int i64 (l3.getD k 0)] w' fun e w2=>e=.returned (int i64 ((nt.idxOf (l3.getD k 0):Nat):Int))∧Below w'.heap.size w' w2):=hid fun w' hb=>by
    have:=Oh (fun i=>nt.getD i 0) A4 nt.length c4 (nt.idxOf (l3.getD k 0)) w' (aT (dA AG.out) hb) zU (List.idxOf_lt_length_iff.2 hmem) (eJ hup.out hmem)
    rwa[WQ hmem] at this
   obtain⟨x,hx⟩:∃x,x=l3.getD k 0:=⟨_,rfl⟩
   have HX:=hid hx
   rw[← hx] at ck hX
   clear hx hmem
   have q1:=hR.out.1.cell 0
   have q2:=(n5.out.below hR.out.2.2 (Nat.lt_succ_self _)).cell 0
   have hlen:=rT nt l3 hk
   gi_wp2
   refine iP 6 (fun w'=>w'.cell? ⟨w4.heap.size+1,0,none⟩=some v∧w'.cell? ⟨w4.heap.size,0,none⟩=some (.slice A4 nt.length c4)) zk ?_
   have hS:wr.drew.cell? ⟨w4.heap.size+1,0,none⟩=some v∧wr.drew.cell? ⟨w4.heap.size,0,none⟩=some (.slice A4 nt.length c4):=⟨q1,q2⟩
   have hs1:w4.heap.size+1<wr.heap.size:=hR.out.1.lt
   have F8:∀w':World,w'.heap[w4.heap.size+1]? =wr.heap[w4.heap.size+1]?→w'.heap[w4.heap.size]? =wr.heap[w4.heap.size]?→(w'.cell? ⟨w4.heap.size+1,0,none⟩=some v∧w'.cell? ⟨w4.heap.size,0,none⟩=some (.slice A4 nt.length c4)):=fun w' e1 e2=>
    ⟨(World.cell?_of_block (a:=⟨w4.heap.size+1,0,none⟩) e1).trans q1,(World.cell?_of_block (a:=⟨w4.heap.size,0,none⟩) e2).trans q2⟩
   have hown:=hR.out.2.1
   have hge:∀g,v.ownBlock=some g→w4.heap.size+1<g:=fun g hg=>(bR hown hg).1
   have Hg:=hid hge
   clear hge
   refine Az (i:=0) (some 21) hS ?_
   simp only[Act.put,List.setIfInBounds_toArray,List.set]
   refine Az (i:=1) (some 22) hS ?_
   simp only[Act.put,List.setIfInBounds_toArray,List.set]
   refine Az (i:=2) (some 23) hS ?_
   simp only[Act.put,List.setIfInBounds_toArray,List.set]
   refine bf 3 fun K hK=>?_
   go_simp
   refine(hX.out _ (fG (mZ.out.trans (hR.out.2.2.mono zo)))).mono ?_
   rintro e w1 ⟨rfl,hb1⟩
   have x1:w1.heap[w4.heap.size+1]? =wr.heap[w4.heap.size+1]?:=hb1.block _ hs1
   have x2:w1.heap[w4.heap.size]? =wr.heap[w4.heap.size]?:=hb1.block _ (by show w4.heap.size<wr.heap.size;omega)
   have aaE:wr.heap.size≤w1.heap.size:=hb1.size
   refine hK.out _ _ (fun _=>F8 _ x1 x2) ?_
   clear hK K
   refine bf 4 fun K hK=>?_
   go_simp
   have y1:=(Below.heap_alloc w1 (.cells #[int i64 ((nt.idxOf (l3.getD k 0):Nat):Int)] 3) (w4.heap.size+1) zo).trans x1
   have y2:=(Below.heap_alloc w1 (.cells #[int i64 ((nt.idxOf (l3.getD k 0):Nat):Int)] 3) w4.heap.size zo).trans x2
   rw[← HX.out] at y1 y2
   refine hK.out _ _ (fun _=>F8 _ y1 y2) ?_
   clear hK K
   refine bf 5 fun K hK=>?_
   refine nk rfl zr zr (step_append_lies (E:=True) _ zr _ _ _ zr (w4.heap.size+2) 3 i0 _ 1 8 underlying30 hi0.out hz0 hz1 hz2 rfl zo v k _ zr (aQ (own_below (w:=wr.drew) hown hb1) _) ⟨w1.heap.size,0,none⟩ 1 1 [_] zr zr (World.news_of_block (heap_alloc_new w1 _)) (by simp[Value.oneCell']) zo zU zo zm (w1.heap.size+1) zs ?_)
   intro gg cap w2 hown2 hgrow hat hlt2
   have z1:=(hgrow.block (w4.heap.size+1) zm (fun e=>by have:=Hg.out _ e.symm;omega)).trans y1
   have z2:=(hgrow.block w4.heap.size zm (fun e=>by have:=Hg.out _ e.symm;omega)).trans y2
   refine hK.out _ _ (fun _=>F8 _ z1 z2) ?_
   clear hK K
   have zW:Whole w2 (w4.heap.size+1) 30 #[v]:=hR.out.1.of z1
   have zc:=zW.cell 0
   have zf:=zW.thaw 0
   refine bf 6 fun K hK=>?_
   go_simp
   refine hK.out _ _ (fun h=>absurd rfl h) ?_
   clear hK K
   refine aI zk ?_ _
   gi_wp2
   go_roundw
   case rel=>
    refine⟨k+1,zo,by go_num,_,hid ⟨zW.set 0 _,?_,?_⟩⟩
    ·refine iN ?_ (by show w4.heap.size+1<w4.heap.size+2;omega) _
     rw[Al nt l3 hlt,List.map_append,← HX.out]
     exact hown2
    ·refine Below.setCell ?_ (by show w4.heap.size+1≤w4.heap.size+1;omega) _
     exact((hR.out.2.2.trans ((Fp hb1).mono (by show w4.heap.size+1≤wr.heap.size;omega))).alloc zo _).trans (below_grown hgrow zm (fun g hg=>by have:=Hg.out _ hg;omega))
   case measure=>simp[intOf];omega
  ·obtain rfl:k=l3.length:=zo
   obtain⟨A7,c7,rfl⟩:=dF hR.out.2.1
   have hpl:=rT nt l3 (Nat.le_refl l3.length)
   have aaC:w4.heap.size+1<wr.heap.size:=hR.out.1.lt
   have qq:∀w',Below wr.heap.size wr w'→CallsIn FF 0 prog 118 #[.pointer (some ⟨w.heap.size+1,0,none⟩),.pointer (some ⟨w.heap.size,0,none⟩)] w' fun e w2=>e=.returned (int i64 0)∧Below w'.heap.size w' w2:=fun w' hb=>
    Xr (fun i=>l1.getD i 0) A1 ng p1 gA gc (w.heap.size+1) w.heap.size w' (aT I1.out (hbw.out.trans (hb.mono hbw.out.size))) zU B1.out
     ((((jB.out.below mZ.out zo).below hR.out.2.2 zo).below hb zo).cell 0) ((((jA.out.below mZ.out zo).below hR.out.2.2 zo).below hb zo).cell 2)
   have qu:∀w',Below wr.heap.size wr w'→CallsIn FF 0 prog 119 #[.pointer (some ⟨w.heap.size+1+1,0,none⟩),.pointer (some ⟨w.heap.size,0,none⟩)] w' fun e w2=>e=.returned (int i64 0)∧Below w'.heap.size w' w2:=fun w' hb=>
    Xt (fun i=>l2.getD i 0) A2 nm p2 mA mc (w.heap.size+1+1) w.heap.size w' (aT I2.out (hbw.out.trans (hb.mono hbw.out.size))) zU B2.out
     ((((jC.out.below mZ.out zo).below hR.out.2.2 zo).below hb zo).cell 0) ((((jA.out.below mZ.out zo).below hR.out.2.2 zo).below hb zo).cell 3)
   have hpi:∀i,i<l3.length→(fV nt l3 l3.length).getD i 0=((nt.idxOf (l3.getD i 0):Nat):Int):=fun i hi=>by
    unfold fV
    simp[hi]
   have hmem:∀i,i<l3.length→l3.getD i 0∈nt:=fun i hi=>hin.out _ (by rw[show l3.getD i 0=l3[i] by simp[hi]];exact List.getElem_mem _)
   have hh3:∀w',Below wr.heap.size wr w'→CallsIn FF 0 prog 120 #[.pointer (some ⟨w4.heap.size+1,0,none⟩),.pointer (some ⟨w4.heap.size,0,none⟩)] w' fun e w2=>e=.returned (int i64 0)∧Below w'.heap.size w' w2:=fun w' hb=>
    Xu (fun i=>(fV nt l3 l3.length).getD i 0) A7 l3.length c7 nt.length A4 c4 (w4.heap.size+1) w4.heap.size w' (aT (by have:=dA (l:=fV nt l3 l3.length) (w:=wr) (A:=A7) (c:=c7) (base:=w4.heap.size+2) (e:=3) (by rw[hpl];exact hR.out.2.1);rwa[hpl] at this) hb) zU zU
     (fun i hi=>by have h1:=List.idxOf_lt_length_iff.2 (hmem i hi);rw[hpi i hi];omega)
     (fun i hi=>by
      have h1:=hpi i zo
      have h2:=hpi (i+1) hi
      rw[h1,h2]
      have h3:l3.getD i 0<l3.getD (i+1) 0:=by
       have:=List.pairwise_iff_getElem.1 HU.out i (i+1) zo hi zo
       rwa[show l3.getD i 0=l3[i] by simp[show i<l3.length by omega],show l3.getD (i+1) 0=l3[i+1] by simp[hi]]
      exact_mod_cast eI hup.out (hmem i zo) (hmem (i+1) hi) h3)
     ((hR.out.1.below hb zo).cell 0) (((n5.out.below hR.out.2.2 zo).below hb zo).cell 0)
   have Hh1:=hid qq
   have Hh2:=hid qu
   have Hh3:=hid hh3
   clear qq qu hh3 hpi hmem
   gi_wp2_with (gi_at_call 117;refine(SQ wr.heap.size (w.heap.size+1) w.heap.size (w.heap.size+1+1) (w4.heap.size+1) w4.heap.size _ zs zs zs zs (fun w' hb=>Hh1.out w' (((Below.refl _ _).alloc (Nat.le_refl _) _).trans (hb.mono zs))) (fun w' hb=>Hh2.out w' (((Below.refl _ _).alloc (Nat.le_refl _) _).trans (hb.mono zs))) (fun w' hb=>Hh3.out w' (((Below.refl _ _).alloc (Nat.le_refl _) _).trans (hb.mono zs)))).mono ?_;rintro e wz ⟨rfl,hbz⟩)
   go_ret
   exact⟨rfl,hbw.out.trans ((((Below.refl _ wr).alloc (Nat.le_refl _) _).trans (hbz.mono zs)).mono hbw.out.size)⟩
end
end Go.Proofs.YthaelabgfnnebaaGreat
